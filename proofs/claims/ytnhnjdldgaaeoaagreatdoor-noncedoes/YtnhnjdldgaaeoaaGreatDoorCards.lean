/-
  DERIVED. GIVEN WITH THE SEED: THE CARDS: each row of YtnhnjdldgaaeoaaGreatDoorRows.lean that lists a variable, with what it lists TIED to the program's text (the seventh form; the later family's looks); each row that meets fmt, with fmt's text TOLD by the authors' own Lean function (tested against real Go, not proved from fmt's source: count such statements apart). THE CARD IS WHAT COUNTS. Prove the row's statement (the work); the ties are given (YtnhnjdldgaaeoaaGreatDoorTie.lean); close each card by the builder's one call (the guide's Derived/Test/ToyasCard.lean, 'card_holds'). Laid BY PROGRAM, IN A SANDBOX (cutbox-door.mjs). By AI agents, Wed Nov 11 2026. No macro, syntax, notation, axiom, sorry.
-/
import Derived.Test.YtnhnjdldgaaeoaaGreatDoorRows
import GoSem.ClaimSeven
namespace Go.Proofs.YtnhnjdldgaaeoaaGreatDoor
namespace Rows

/-- THE TIED CARD OF 'affidavitlaw08.NonceDoes'. -/
def nonceDoesCard : Claim7 := { stood := { row := nonceDoesRow, standIns := [], harness := (true, "1835b57b0590b146b9033eace0b36ee0edb7668c41bd9c1bbfccf4d8ad7f5101"), looks := true }, kinds := [], alts := [], laidByText := true, laidKinds := [.data, .data, .data, .sentinel, .sentinel], laidTests := true, laidLooks := .later }
def NonceDoesCardSaid : Prop := Claim7.holds Tryz.pinned (.plain (OpenSpec.ofChange nonceDoesSpec)) nonceDoesCard

/-- THE SECOND FORM's CARD OF 'affidavitlaw08.NonceDoes'. -/
def nonceDoesUptoCard : Claim7 := { stood := { row := nonceDoesUptoRow, standIns := [], harness := (true, "1835b57b0590b146b9033eace0b36ee0edb7668c41bd9c1bbfccf4d8ad7f5101"), looks := true }, kinds := [], alts := [], laidByText := true, laidKinds := [.data, .data, .data, .sentinel, .sentinel], laidTests := true, laidLooks := .later }
def NonceDoesUptoCardSaid : Prop := Claim7.holds Tryz.pinned (.plain (OpenSpec.upto nonceDoesSpec)) nonceDoesUptoCard
end Rows
end Go.Proofs.YtnhnjdldgaaeoaaGreatDoor
