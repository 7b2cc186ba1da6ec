/-
  DERIVED. GIVEN WITH THE SEED: THE CARDS: each row of YtdlpbbihaaimcaaGreatDoorRows.lean that lists a variable, with what it lists TIED to the program's text (the seventh form; the later family's looks); each row that meets fmt, with fmt's text TOLD by the authors' own Lean function (tested against real Go, not proved from fmt's source: count such statements apart). THE CARD IS WHAT COUNTS. Prove the row's statement (the work); the ties are given (YtdlpbbihaaimcaaGreatDoorTie.lean); close each card by the builder's one call (the guide's Derived/Test/ToyasCard.lean, 'card_holds'). Laid BY PROGRAM, IN A SANDBOX (cutbox-door.mjs). By AI agents, Wed Nov 11 2026. No macro, syntax, notation, axiom, sorry.
-/
import Derived.Test.YtdlpbbihaaimcaaGreatDoorRows
import GoSem.ClaimSeven
namespace Go.Proofs.YtdlpbbihaaimcaaGreatDoor
namespace Rows

/-- THE TIED CARD OF 'affidavitlaw12.RegsDo'. -/
def regsDoCard : Claim7 := { stood := { row := regsDoRow, standIns := [], harness := (true, "74d01788db4bfa7c796ba7f8d155a53c4f8e95afead65cecea4333603d29158a"), looks := true }, kinds := [], alts := [], laidByText := true, laidKinds := [.data, .data, .data, .sentinel, .sentinel], laidTests := true, laidLooks := .later }
def RegsDoCardSaid : Prop := Claim7.holds Tryz.pinned (.plain (OpenSpec.ofChange regsDoSpec)) regsDoCard

/-- THE TIED CARD OF 'affidavitlaw12.RegsOrder'. -/
def regsOrderCard : Claim7 := { stood := { row := regsOrderRow, standIns := [], harness := (true, "74d01788db4bfa7c796ba7f8d155a53c4f8e95afead65cecea4333603d29158a"), looks := true }, kinds := [], alts := [], laidByText := true, laidKinds := [.data, .data, .data, .sentinel, .sentinel], laidTests := true, laidLooks := .later }
def RegsOrderCardSaid : Prop := Claim7.holds Tryz.pinned (.plain (OpenSpec.ofChange regsOrderSpec)) regsOrderCard

/-- THE TIED CARD OF 'affidavitlaw12.RegsAgain'. -/
def regsAgainCard : Claim7 := { stood := { row := regsAgainRow, standIns := [], harness := (true, "74d01788db4bfa7c796ba7f8d155a53c4f8e95afead65cecea4333603d29158a"), looks := true }, kinds := [], alts := [], laidByText := true, laidKinds := [.data, .data, .data, .sentinel, .sentinel], laidTests := true, laidLooks := .later }
def RegsAgainCardSaid : Prop := Claim7.holds Tryz.pinned (.plain (OpenSpec.ofChange regsAgainSpec)) regsAgainCard

/-- THE TIED CARD OF 'affidavitlaw12.RegsReads'. -/
def regsReadsCard : Claim7 := { stood := { row := regsReadsRow, standIns := [], harness := (true, "74d01788db4bfa7c796ba7f8d155a53c4f8e95afead65cecea4333603d29158a"), looks := true }, kinds := [], alts := [], laidByText := true, laidKinds := [.data, .data, .data, .sentinel, .sentinel], laidTests := true, laidLooks := .later }
def RegsReadsCardSaid : Prop := Claim7.holds Tryz.pinned (.plain (OpenSpec.ofChange regsReadsSpec)) regsReadsCard

/-- THE TIED CARD OF 'affidavitlaw12.RegsNone'. -/
def regsNoneCard : Claim7 := { stood := { row := regsNoneRow, standIns := [], harness := (true, "74d01788db4bfa7c796ba7f8d155a53c4f8e95afead65cecea4333603d29158a"), looks := true }, kinds := [], alts := [], laidByText := true, laidKinds := [.data, .data, .data, .sentinel, .sentinel], laidTests := true, laidLooks := .later }
def RegsNoneCardSaid : Prop := Claim7.holds Tryz.pinned (.plain (OpenSpec.ofChange regsNoneSpec)) regsNoneCard

/-- THE SECOND FORM's CARD OF 'affidavitlaw12.RegsDo'. -/
def regsDoUptoCard : Claim7 := { stood := { row := regsDoUptoRow, standIns := [], harness := (true, "74d01788db4bfa7c796ba7f8d155a53c4f8e95afead65cecea4333603d29158a"), looks := true }, kinds := [], alts := [], laidByText := true, laidKinds := [.data, .data, .data, .sentinel, .sentinel], laidTests := true, laidLooks := .later }
def RegsDoUptoCardSaid : Prop := Claim7.holds Tryz.pinned (.plain (OpenSpec.upto regsDoSpec)) regsDoUptoCard

/-- THE SECOND FORM's CARD OF 'affidavitlaw12.RegsOrder'. -/
def regsOrderUptoCard : Claim7 := { stood := { row := regsOrderUptoRow, standIns := [], harness := (true, "74d01788db4bfa7c796ba7f8d155a53c4f8e95afead65cecea4333603d29158a"), looks := true }, kinds := [], alts := [], laidByText := true, laidKinds := [.data, .data, .data, .sentinel, .sentinel], laidTests := true, laidLooks := .later }
def RegsOrderUptoCardSaid : Prop := Claim7.holds Tryz.pinned (.plain (OpenSpec.upto regsOrderSpec)) regsOrderUptoCard

/-- THE SECOND FORM's CARD OF 'affidavitlaw12.RegsAgain'. -/
def regsAgainUptoCard : Claim7 := { stood := { row := regsAgainUptoRow, standIns := [], harness := (true, "74d01788db4bfa7c796ba7f8d155a53c4f8e95afead65cecea4333603d29158a"), looks := true }, kinds := [], alts := [], laidByText := true, laidKinds := [.data, .data, .data, .sentinel, .sentinel], laidTests := true, laidLooks := .later }
def RegsAgainUptoCardSaid : Prop := Claim7.holds Tryz.pinned (.plain (OpenSpec.upto regsAgainSpec)) regsAgainUptoCard

/-- THE SECOND FORM's CARD OF 'affidavitlaw12.RegsReads'. -/
def regsReadsUptoCard : Claim7 := { stood := { row := regsReadsUptoRow, standIns := [], harness := (true, "74d01788db4bfa7c796ba7f8d155a53c4f8e95afead65cecea4333603d29158a"), looks := true }, kinds := [], alts := [], laidByText := true, laidKinds := [.data, .data, .data, .sentinel, .sentinel], laidTests := true, laidLooks := .later }
def RegsReadsUptoCardSaid : Prop := Claim7.holds Tryz.pinned (.plain (OpenSpec.upto regsReadsSpec)) regsReadsUptoCard

/-- THE SECOND FORM's CARD OF 'affidavitlaw12.RegsNone'. -/
def regsNoneUptoCard : Claim7 := { stood := { row := regsNoneUptoRow, standIns := [], harness := (true, "74d01788db4bfa7c796ba7f8d155a53c4f8e95afead65cecea4333603d29158a"), looks := true }, kinds := [], alts := [], laidByText := true, laidKinds := [.data, .data, .data, .sentinel, .sentinel], laidTests := true, laidLooks := .later }
def RegsNoneUptoCardSaid : Prop := Claim7.holds Tryz.pinned (.plain (OpenSpec.upto regsNoneSpec)) regsNoneUptoCard
end Rows
end Go.Proofs.YtdlpbbihaaimcaaGreatDoor
