/-
  DERIVED. GIVEN WITH THE SEED: THE CARDS: each row of YtldhhbkdhcidcaaDoorRows.lean that lists a variable, with what it lists TIED to the program's text (the seventh form; the later family's looks); each row that meets fmt, with fmt's text TOLD by the authors' own Lean function (tested against real Go, not proved from fmt's source: count such statements apart). THE CARD IS WHAT COUNTS. Prove the row's statement (the work); the ties are given (YtldhhbkdhcidcaaDoorTie.lean); close each card by the builder's one call (the guide's Derived/Test/ToyasCard.lean, 'card_holds'). Laid BY PROGRAM, IN A SANDBOX (cutbox-door.mjs). By AI agents, Wed Nov 11 2026. No macro, syntax, notation, axiom, sorry.
-/
import Derived.Test.YtldhhbkdhcidcaaDoorRows
import GoSem.ClaimSeven
namespace Go.Proofs.YtldhhbkdhcidcaaDoor
namespace Rows

/-- THE TIED CARD OF 'affidavitlaw01.LayNumbers'. -/
def layNumbersCard : Claim7 := { stood := { row := layNumbersRow, standIns := [], harness := (true, "12c80bc3cd18b6c0677e91ed3832e863d7c75c57cf1e487faac2dd52cfc0463c"), looks := true }, kinds := [], alts := [], laidByText := true, laidKinds := [.data, .data, .data, .sentinel, .sentinel], laidTests := true, laidLooks := .later }
def LayNumbersCardSaid : Prop := Claim7.holds Tryd.pinned (.plain (OpenSpec.ofChange layNumbersSpec)) layNumbersCard

/-- THE TIED CARD OF 'affidavitlaw01.LayLays'. -/
def layLaysCard : Claim7 := { stood := { row := layLaysRow, standIns := [], harness := (true, "12c80bc3cd18b6c0677e91ed3832e863d7c75c57cf1e487faac2dd52cfc0463c"), looks := true }, kinds := [], alts := [], laidByText := true, laidKinds := [.data, .data, .data, .sentinel, .sentinel], laidTests := true, laidLooks := .later }
def LayLaysCardSaid : Prop := Claim7.holds Tryd.pinned (.plain (OpenSpec.ofChange layLaysSpec)) layLaysCard

/-- THE TIED CARD OF 'affidavitlaw01.LayReads'. -/
def layReadsCard : Claim7 := { stood := { row := layReadsRow, standIns := [], harness := (true, "12c80bc3cd18b6c0677e91ed3832e863d7c75c57cf1e487faac2dd52cfc0463c"), looks := true }, kinds := [], alts := [], laidByText := true, laidKinds := [.data, .data, .data, .sentinel, .sentinel], laidTests := true, laidLooks := .later }
def LayReadsCardSaid : Prop := Claim7.holds Tryd.pinned (.plain (OpenSpec.ofChange layReadsSpec)) layReadsCard

/-- THE TIED CARD OF 'affidavitlaw01.LayBack'. -/
def layBackCard : Claim7 := { stood := { row := layBackRow, standIns := [], harness := (true, "12c80bc3cd18b6c0677e91ed3832e863d7c75c57cf1e487faac2dd52cfc0463c"), looks := true }, kinds := [], alts := [], laidByText := true, laidKinds := [.data, .data, .data, .sentinel, .sentinel], laidTests := true, laidLooks := .later }
def LayBackCardSaid : Prop := Claim7.holds Tryd.pinned (.plain (OpenSpec.ofChange layBackSpec)) layBackCard

/-- THE TIED CARD OF 'affidavitlaw01.LayOnce'. -/
def layOnceCard : Claim7 := { stood := { row := layOnceRow, standIns := [], harness := (true, "12c80bc3cd18b6c0677e91ed3832e863d7c75c57cf1e487faac2dd52cfc0463c"), looks := true }, kinds := [], alts := [], laidByText := true, laidKinds := [.data, .data, .data, .sentinel, .sentinel], laidTests := true, laidLooks := .later }
def LayOnceCardSaid : Prop := Claim7.holds Tryd.pinned (.plain (OpenSpec.ofChange layOnceSpec)) layOnceCard

/-- THE TIED CARD OF 'affidavitlaw01.LayApart'. -/
def layApartCard : Claim7 := { stood := { row := layApartRow, standIns := [], harness := (true, "12c80bc3cd18b6c0677e91ed3832e863d7c75c57cf1e487faac2dd52cfc0463c"), looks := true }, kinds := [], alts := [], laidByText := true, laidKinds := [.data, .data, .data, .sentinel, .sentinel], laidTests := true, laidLooks := .later }
def LayApartCardSaid : Prop := Claim7.holds Tryd.pinned (.plain (OpenSpec.ofChange layApartSpec)) layApartCard

/-- THE SECOND FORM's CARD OF 'affidavitlaw01.LayNumbers'. -/
def layNumbersUptoCard : Claim7 := { stood := { row := layNumbersUptoRow, standIns := [], harness := (true, "12c80bc3cd18b6c0677e91ed3832e863d7c75c57cf1e487faac2dd52cfc0463c"), looks := true }, kinds := [], alts := [], laidByText := true, laidKinds := [.data, .data, .data, .sentinel, .sentinel], laidTests := true, laidLooks := .later }
def LayNumbersUptoCardSaid : Prop := Claim7.holds Tryd.pinned (.plain (OpenSpec.upto layNumbersSpec)) layNumbersUptoCard

/-- THE SECOND FORM's CARD OF 'affidavitlaw01.LayLays'. -/
def layLaysUptoCard : Claim7 := { stood := { row := layLaysUptoRow, standIns := [], harness := (true, "12c80bc3cd18b6c0677e91ed3832e863d7c75c57cf1e487faac2dd52cfc0463c"), looks := true }, kinds := [], alts := [], laidByText := true, laidKinds := [.data, .data, .data, .sentinel, .sentinel], laidTests := true, laidLooks := .later }
def LayLaysUptoCardSaid : Prop := Claim7.holds Tryd.pinned (.plain (OpenSpec.upto layLaysSpec)) layLaysUptoCard

/-- THE SECOND FORM's CARD OF 'affidavitlaw01.LayReads'. -/
def layReadsUptoCard : Claim7 := { stood := { row := layReadsUptoRow, standIns := [], harness := (true, "12c80bc3cd18b6c0677e91ed3832e863d7c75c57cf1e487faac2dd52cfc0463c"), looks := true }, kinds := [], alts := [], laidByText := true, laidKinds := [.data, .data, .data, .sentinel, .sentinel], laidTests := true, laidLooks := .later }
def LayReadsUptoCardSaid : Prop := Claim7.holds Tryd.pinned (.plain (OpenSpec.upto layReadsSpec)) layReadsUptoCard

/-- THE SECOND FORM's CARD OF 'affidavitlaw01.LayBack'. -/
def layBackUptoCard : Claim7 := { stood := { row := layBackUptoRow, standIns := [], harness := (true, "12c80bc3cd18b6c0677e91ed3832e863d7c75c57cf1e487faac2dd52cfc0463c"), looks := true }, kinds := [], alts := [], laidByText := true, laidKinds := [.data, .data, .data, .sentinel, .sentinel], laidTests := true, laidLooks := .later }
def LayBackUptoCardSaid : Prop := Claim7.holds Tryd.pinned (.plain (OpenSpec.upto layBackSpec)) layBackUptoCard

/-- THE SECOND FORM's CARD OF 'affidavitlaw01.LayOnce'. -/
def layOnceUptoCard : Claim7 := { stood := { row := layOnceUptoRow, standIns := [], harness := (true, "12c80bc3cd18b6c0677e91ed3832e863d7c75c57cf1e487faac2dd52cfc0463c"), looks := true }, kinds := [], alts := [], laidByText := true, laidKinds := [.data, .data, .data, .sentinel, .sentinel], laidTests := true, laidLooks := .later }
def LayOnceUptoCardSaid : Prop := Claim7.holds Tryd.pinned (.plain (OpenSpec.upto layOnceSpec)) layOnceUptoCard

/-- THE SECOND FORM's CARD OF 'affidavitlaw01.LayApart'. -/
def layApartUptoCard : Claim7 := { stood := { row := layApartUptoRow, standIns := [], harness := (true, "12c80bc3cd18b6c0677e91ed3832e863d7c75c57cf1e487faac2dd52cfc0463c"), looks := true }, kinds := [], alts := [], laidByText := true, laidKinds := [.data, .data, .data, .sentinel, .sentinel], laidTests := true, laidLooks := .later }
def LayApartUptoCardSaid : Prop := Claim7.holds Tryd.pinned (.plain (OpenSpec.upto layApartSpec)) layApartUptoCard
end Rows
end Go.Proofs.YtldhhbkdhcidcaaDoor
