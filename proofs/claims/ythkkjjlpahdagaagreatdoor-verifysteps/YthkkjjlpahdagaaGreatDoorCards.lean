/-
  DERIVED. GIVEN WITH THE SEED: THE CARDS: each row of YthkkjjlpahdagaaGreatDoorRows.lean that lists a variable, with what it lists TIED to the program's text (the seventh form; the later family's looks); each row that meets fmt, with fmt's text TOLD by the authors' own Lean function (tested against real Go, not proved from fmt's source: count such statements apart). THE CARD IS WHAT COUNTS. Prove the row's statement (the work); the ties are given (YthkkjjlpahdagaaGreatDoorTie.lean); close each card by the builder's one call (the guide's Derived/Test/ToyasCard.lean, 'card_holds'). Laid BY PROGRAM, IN A SANDBOX (cutbox-door.mjs). By AI agents, Wed Nov 11 2026. No macro, syntax, notation, axiom, sorry.
-/
import Derived.Test.YthkkjjlpahdagaaGreatDoorRows
import GoSem.ClaimSeven
namespace Go.Proofs.YthkkjjlpahdagaaGreatDoor
namespace Rows

/-- THE TIED CARD OF 'affidavitlaw14.VerifySteps'. -/
def verifyStepsCard : Claim7 := { stood := { row := verifyStepsRow, standIns := [], harness := (true, "5512f6f9f498acf05c3443bb30b9f3af60228010511e79eee8696f6f8f27502a"), looks := true }, kinds := [], alts := [], laidByText := true, laidKinds := [.data, .data, .data, .data, .sentinel, .sentinel], laidTests := true, laidLooks := .later }
def VerifyStepsCardSaid : Prop := Claim7.holds Tryz.pinned (.plain (OpenSpec.ofChange verifyStepsSpec)) verifyStepsCard

/-- THE TIED CARD OF 'affidavitlaw14.VerifyNone'. -/
def verifyNoneCard : Claim7 := { stood := { row := verifyNoneRow, standIns := [], harness := (true, "5512f6f9f498acf05c3443bb30b9f3af60228010511e79eee8696f6f8f27502a"), looks := true }, kinds := [], alts := [], laidByText := true, laidKinds := [.data, .data, .data, .data, .sentinel, .sentinel], laidTests := true, laidLooks := .later }
def VerifyNoneCardSaid : Prop := Claim7.holds Tryz.pinned (.plain (OpenSpec.ofChange verifyNoneSpec)) verifyNoneCard

/-- THE SECOND FORM's CARD OF 'affidavitlaw14.VerifySteps'. -/
def verifyStepsUptoCard : Claim7 := { stood := { row := verifyStepsUptoRow, standIns := [], harness := (true, "5512f6f9f498acf05c3443bb30b9f3af60228010511e79eee8696f6f8f27502a"), looks := true }, kinds := [], alts := [], laidByText := true, laidKinds := [.data, .data, .data, .data, .sentinel, .sentinel], laidTests := true, laidLooks := .later }
def VerifyStepsUptoCardSaid : Prop := Claim7.holds Tryz.pinned (.plain (OpenSpec.upto verifyStepsSpec)) verifyStepsUptoCard

/-- THE SECOND FORM's CARD OF 'affidavitlaw14.VerifyNone'. -/
def verifyNoneUptoCard : Claim7 := { stood := { row := verifyNoneUptoRow, standIns := [], harness := (true, "5512f6f9f498acf05c3443bb30b9f3af60228010511e79eee8696f6f8f27502a"), looks := true }, kinds := [], alts := [], laidByText := true, laidKinds := [.data, .data, .data, .data, .sentinel, .sentinel], laidTests := true, laidLooks := .later }
def VerifyNoneUptoCardSaid : Prop := Claim7.holds Tryz.pinned (.plain (OpenSpec.upto verifyNoneSpec)) verifyNoneUptoCard
end Rows
end Go.Proofs.YthkkjjlpahdagaaGreatDoor
