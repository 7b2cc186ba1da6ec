/-
  DERIVED. GIVEN WITH THE SEED: THE CARDS: each row of YtoneoocihfjfgaaGreatDoorRows.lean that lists a variable, with what it lists TIED to the program's text (the seventh form; the later family's looks); each row that meets fmt, with fmt's text TOLD by the authors' own Lean function (tested against real Go, not proved from fmt's source: count such statements apart). THE CARD IS WHAT COUNTS. Prove the row's statement (the work); the ties are given (YtoneoocihfjfgaaGreatDoorTie.lean); close each card by the builder's one call (the guide's Derived/Test/ToyasCard.lean, 'card_holds'). Laid BY PROGRAM, IN A SANDBOX (cutbox-door.mjs). By AI agents, Wed Nov 11 2026. No macro, syntax, notation, axiom, sorry.
-/
import Derived.Test.YtoneoocihfjfgaaGreatDoorRows
import GoSem.ClaimSeven
namespace Go.Proofs.YtoneoocihfjfgaaGreatDoor
namespace Rows

/-- THE TIED CARD OF 'affidavitlaw12.RegsDo'. -/
def regsDoCard : Claim7 := { stood := { row := regsDoRow, standIns := [], harness := (true, "b7284515bdad4ea1052c3441d92331da0deca60691c48ac21c01da154318bbc2"), looks := true }, kinds := [], alts := [], laidByText := true, laidKinds := [.data, .data, .data, .sentinel, .sentinel], laidTests := true, laidLooks := .later }
def RegsDoCardSaid : Prop := Claim7.holds Tryz.pinned (.plain (OpenSpec.ofChange regsDoSpec)) regsDoCard

/-- THE TIED CARD OF 'affidavitlaw12.RegsAgain'. -/
def regsAgainCard : Claim7 := { stood := { row := regsAgainRow, standIns := [], harness := (true, "b7284515bdad4ea1052c3441d92331da0deca60691c48ac21c01da154318bbc2"), looks := true }, kinds := [], alts := [], laidByText := true, laidKinds := [.data, .data, .data, .sentinel, .sentinel], laidTests := true, laidLooks := .later }
def RegsAgainCardSaid : Prop := Claim7.holds Tryz.pinned (.plain (OpenSpec.ofChange regsAgainSpec)) regsAgainCard

/-- THE SECOND FORM's CARD OF 'affidavitlaw12.RegsDo'. -/
def regsDoUptoCard : Claim7 := { stood := { row := regsDoUptoRow, standIns := [], harness := (true, "b7284515bdad4ea1052c3441d92331da0deca60691c48ac21c01da154318bbc2"), looks := true }, kinds := [], alts := [], laidByText := true, laidKinds := [.data, .data, .data, .sentinel, .sentinel], laidTests := true, laidLooks := .later }
def RegsDoUptoCardSaid : Prop := Claim7.holds Tryz.pinned (.plain (OpenSpec.upto regsDoSpec)) regsDoUptoCard

/-- THE SECOND FORM's CARD OF 'affidavitlaw12.RegsAgain'. -/
def regsAgainUptoCard : Claim7 := { stood := { row := regsAgainUptoRow, standIns := [], harness := (true, "b7284515bdad4ea1052c3441d92331da0deca60691c48ac21c01da154318bbc2"), looks := true }, kinds := [], alts := [], laidByText := true, laidKinds := [.data, .data, .data, .sentinel, .sentinel], laidTests := true, laidLooks := .later }
def RegsAgainUptoCardSaid : Prop := Claim7.holds Tryz.pinned (.plain (OpenSpec.upto regsAgainSpec)) regsAgainUptoCard
end Rows
end Go.Proofs.YtoneoocihfjfgaaGreatDoor
