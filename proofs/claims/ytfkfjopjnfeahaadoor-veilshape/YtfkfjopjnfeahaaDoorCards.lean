/-
  DERIVED. GIVEN WITH THE SEED: THE CARDS: each row of YtfkfjopjnfeahaaDoorRows.lean that lists a variable, with what it lists TIED to the program's text (the seventh form; the later family's looks); each row that meets fmt, with fmt's text TOLD by the authors' own Lean function (tested against real Go, not proved from fmt's source: count such statements apart). THE CARD IS WHAT COUNTS. Prove the row's statement (the work); the ties are given (YtfkfjopjnfeahaaDoorTie.lean); close each card by the builder's one call (the guide's Derived/Test/ToyasCard.lean, 'card_holds'). Laid BY PROGRAM, IN A SANDBOX (cutbox-door.mjs). By AI agents, Wed Nov 11 2026. No macro, syntax, notation, axiom, sorry.
-/
import Derived.Test.YtfkfjopjnfeahaaDoorRows
import GoSem.ClaimSeven
namespace Go.Proofs.YtfkfjopjnfeahaaDoor
namespace Rows

/-- THE TIED CARD OF 'affidavitlaw05.VeilVeils'. -/
def veilVeilsCard : Claim7 := { stood := { row := veilVeilsRow, standIns := [], harness := (true, "4e8c75cd6948995e07747e2c06e82116ef1bb5ccd21ba27c956bb3f9c61d0bca"), looks := false }, kinds := [], alts := [], laidByText := true, laidKinds := [.data, .data, .data, .data], laidTests := true, laidLooks := .later }
def VeilVeilsCardSaid : Prop := Claim7.holds Tryd.pinned (.plain (OpenSpec.ofChange veilVeilsSpec)) veilVeilsCard

/-- THE TIED CARD OF 'affidavitlaw05.VeilRows'. -/
def veilRowsCard : Claim7 := { stood := { row := veilRowsRow, standIns := [], harness := (true, "4e8c75cd6948995e07747e2c06e82116ef1bb5ccd21ba27c956bb3f9c61d0bca"), looks := false }, kinds := [], alts := [], laidByText := true, laidKinds := [.data, .data, .data, .data], laidTests := true, laidLooks := .later }
def VeilRowsCardSaid : Prop := Claim7.holds Tryd.pinned (.plain (OpenSpec.ofChange veilRowsSpec)) veilRowsCard

/-- THE TIED CARD OF 'affidavitlaw05.VeilTwice'. -/
def veilTwiceCard : Claim7 := { stood := { row := veilTwiceRow, standIns := [], harness := (true, "4e8c75cd6948995e07747e2c06e82116ef1bb5ccd21ba27c956bb3f9c61d0bca"), looks := false }, kinds := [], alts := [], laidByText := true, laidKinds := [.data, .data, .data, .data], laidTests := true, laidLooks := .later }
def VeilTwiceCardSaid : Prop := Claim7.holds Tryd.pinned (.plain (OpenSpec.ofChange veilTwiceSpec)) veilTwiceCard

/-- THE TIED CARD OF 'affidavitlaw05.VeilShape'. -/
def veilShapeCard : Claim7 := { stood := { row := veilShapeRow, standIns := [], harness := (true, "4e8c75cd6948995e07747e2c06e82116ef1bb5ccd21ba27c956bb3f9c61d0bca"), looks := false }, kinds := [], alts := [], laidByText := true, laidKinds := [.data, .data, .data, .data], laidTests := true, laidLooks := .later }
def VeilShapeCardSaid : Prop := Claim7.holds Tryd.pinned (.plain (OpenSpec.ofChange veilShapeSpec)) veilShapeCard

/-- THE TIED CARD OF 'affidavitlaw05.VeilNothing'. -/
def veilNothingCard : Claim7 := { stood := { row := veilNothingRow, standIns := [], harness := (true, "4e8c75cd6948995e07747e2c06e82116ef1bb5ccd21ba27c956bb3f9c61d0bca"), looks := false }, kinds := [], alts := [], laidByText := true, laidKinds := [.data, .data, .data, .data], laidTests := true, laidLooks := .later }
def VeilNothingCardSaid : Prop := Claim7.holds Tryd.pinned (.plain (OpenSpec.ofChange veilNothingSpec)) veilNothingCard

/-- THE SECOND FORM's CARD OF 'affidavitlaw05.VeilVeils'. -/
def veilVeilsUptoCard : Claim7 := { stood := { row := veilVeilsUptoRow, standIns := [], harness := (true, "4e8c75cd6948995e07747e2c06e82116ef1bb5ccd21ba27c956bb3f9c61d0bca"), looks := false }, kinds := [], alts := [], laidByText := true, laidKinds := [.data, .data, .data, .data], laidTests := true, laidLooks := .later }
def VeilVeilsUptoCardSaid : Prop := Claim7.holds Tryd.pinned (.plain (OpenSpec.upto veilVeilsSpec)) veilVeilsUptoCard

/-- THE SECOND FORM's CARD OF 'affidavitlaw05.VeilRows'. -/
def veilRowsUptoCard : Claim7 := { stood := { row := veilRowsUptoRow, standIns := [], harness := (true, "4e8c75cd6948995e07747e2c06e82116ef1bb5ccd21ba27c956bb3f9c61d0bca"), looks := false }, kinds := [], alts := [], laidByText := true, laidKinds := [.data, .data, .data, .data], laidTests := true, laidLooks := .later }
def VeilRowsUptoCardSaid : Prop := Claim7.holds Tryd.pinned (.plain (OpenSpec.upto veilRowsSpec)) veilRowsUptoCard

/-- THE SECOND FORM's CARD OF 'affidavitlaw05.VeilTwice'. -/
def veilTwiceUptoCard : Claim7 := { stood := { row := veilTwiceUptoRow, standIns := [], harness := (true, "4e8c75cd6948995e07747e2c06e82116ef1bb5ccd21ba27c956bb3f9c61d0bca"), looks := false }, kinds := [], alts := [], laidByText := true, laidKinds := [.data, .data, .data, .data], laidTests := true, laidLooks := .later }
def VeilTwiceUptoCardSaid : Prop := Claim7.holds Tryd.pinned (.plain (OpenSpec.upto veilTwiceSpec)) veilTwiceUptoCard

/-- THE SECOND FORM's CARD OF 'affidavitlaw05.VeilShape'. -/
def veilShapeUptoCard : Claim7 := { stood := { row := veilShapeUptoRow, standIns := [], harness := (true, "4e8c75cd6948995e07747e2c06e82116ef1bb5ccd21ba27c956bb3f9c61d0bca"), looks := false }, kinds := [], alts := [], laidByText := true, laidKinds := [.data, .data, .data, .data], laidTests := true, laidLooks := .later }
def VeilShapeUptoCardSaid : Prop := Claim7.holds Tryd.pinned (.plain (OpenSpec.upto veilShapeSpec)) veilShapeUptoCard

/-- THE SECOND FORM's CARD OF 'affidavitlaw05.VeilNothing'. -/
def veilNothingUptoCard : Claim7 := { stood := { row := veilNothingUptoRow, standIns := [], harness := (true, "4e8c75cd6948995e07747e2c06e82116ef1bb5ccd21ba27c956bb3f9c61d0bca"), looks := false }, kinds := [], alts := [], laidByText := true, laidKinds := [.data, .data, .data, .data], laidTests := true, laidLooks := .later }
def VeilNothingUptoCardSaid : Prop := Claim7.holds Tryd.pinned (.plain (OpenSpec.upto veilNothingSpec)) veilNothingUptoCard
end Rows
end Go.Proofs.YtfkfjopjnfeahaaDoor
