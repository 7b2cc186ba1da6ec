/-
  DERIVED. GIVEN WITH THE SEED: THE CARDS: each row of YtekfcbedlokidaaGreatDoorRows.lean that lists a variable, with what it lists TIED to the program's text (the seventh form; the later family's looks); each row that meets fmt, with fmt's text TOLD by the authors' own Lean function (tested against real Go, not proved from fmt's source: count such statements apart). THE CARD IS WHAT COUNTS. Prove the row's statement (the work); the ties are given (YtekfcbedlokidaaGreatDoorTie.lean); close each card by the builder's one call (the guide's Derived/Test/ToyasCard.lean, 'card_holds'). Laid BY PROGRAM, IN A SANDBOX (cutbox-door.mjs). By AI agents, Wed Nov 11 2026. No macro, syntax, notation, axiom, sorry.
-/
import Derived.Test.YtekfcbedlokidaaGreatDoorRows
import GoSem.ClaimSeven
namespace Go.Proofs.YtekfcbedlokidaaGreatDoor
namespace Rows

/-- THE TIED CARD OF 'affidavitlaw14.VerifyNone'. -/
def verifyNoneCard : Claim7 := { stood := { row := verifyNoneRow, standIns := [], harness := (true, "54cb3c16b058368f736ed71f799db47d7f22e5933be713c26564e3a8e77729cf"), looks := true }, kinds := [], alts := [], laidByText := true, laidKinds := [.data, .data, .data, .data, .sentinel, .sentinel], laidTests := true, laidLooks := .later }
def VerifyNoneCardSaid : Prop := Claim7.holds Tryz.pinned (.plain (OpenSpec.ofChange verifyNoneSpec)) verifyNoneCard

/-- THE TIED CARD OF 'affidavitlaw15.UstorReads'. -/
def ustorReadsCard : Claim7 := { stood := { row := ustorReadsRow, standIns := [], harness := (true, "54cb3c16b058368f736ed71f799db47d7f22e5933be713c26564e3a8e77729cf"), looks := true }, kinds := [], alts := [], laidByText := true, laidKinds := [.data, .data, .data, .data, .sentinel, .sentinel], laidTests := true, laidLooks := .later }
def UstorReadsCardSaid : Prop := Claim7.holds Tryz.pinned (.plain (OpenSpec.ofChange ustorReadsSpec)) ustorReadsCard

/-- THE SECOND FORM's CARD OF 'affidavitlaw14.VerifyNone'. -/
def verifyNoneUptoCard : Claim7 := { stood := { row := verifyNoneUptoRow, standIns := [], harness := (true, "54cb3c16b058368f736ed71f799db47d7f22e5933be713c26564e3a8e77729cf"), looks := true }, kinds := [], alts := [], laidByText := true, laidKinds := [.data, .data, .data, .data, .sentinel, .sentinel], laidTests := true, laidLooks := .later }
def VerifyNoneUptoCardSaid : Prop := Claim7.holds Tryz.pinned (.plain (OpenSpec.upto verifyNoneSpec)) verifyNoneUptoCard

/-- THE SECOND FORM's CARD OF 'affidavitlaw15.UstorReads'. -/
def ustorReadsUptoCard : Claim7 := { stood := { row := ustorReadsUptoRow, standIns := [], harness := (true, "54cb3c16b058368f736ed71f799db47d7f22e5933be713c26564e3a8e77729cf"), looks := true }, kinds := [], alts := [], laidByText := true, laidKinds := [.data, .data, .data, .data, .sentinel, .sentinel], laidTests := true, laidLooks := .later }
def UstorReadsUptoCardSaid : Prop := Claim7.holds Tryz.pinned (.plain (OpenSpec.upto ustorReadsSpec)) ustorReadsUptoCard
end Rows
end Go.Proofs.YtekfcbedlokidaaGreatDoor
