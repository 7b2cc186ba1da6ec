/-
  DERIVED. GIVEN WITH THE SEED: THE CARDS: each row of YtmfpmajkjhmliaaGreatDoorRows.lean that lists a variable, with what it lists TIED to the program's text (the seventh form; the later family's looks); each row that meets fmt, with fmt's text TOLD by the authors' own Lean function (tested against real Go, not proved from fmt's source: count such statements apart). THE CARD IS WHAT COUNTS. Prove the row's statement (the work); the ties are given (YtmfpmajkjhmliaaGreatDoorTie.lean); close each card by the builder's one call (the guide's Derived/Test/ToyasCard.lean, 'card_holds'). Laid BY PROGRAM, IN A SANDBOX (cutbox-door.mjs). By AI agents, Wed Nov 11 2026. No macro, syntax, notation, axiom, sorry.
-/
import Derived.Test.YtmfpmajkjhmliaaGreatDoorRows
import GoSem.ClaimSeven
namespace Go.Proofs.YtmfpmajkjhmliaaGreatDoor
namespace Rows

/-- THE TIED CARD OF 'affidavitlaw14.VerifySteps'. -/
def verifyStepsCard : Claim7 := { stood := { row := verifyStepsRow, standIns := [], harness := (true, "f7d4dcac1b703baa966cf070a22177df47bdaed6e5ed8fd0a7a5ee11bb2e7056"), looks := true }, kinds := [], alts := [], laidByText := true, laidKinds := [.data, .data, .data, .data, .sentinel, .sentinel], laidTests := true, laidLooks := .later }
def VerifyStepsCardSaid : Prop := Claim7.holds Tryz.pinned (.plain (OpenSpec.ofChange verifyStepsSpec)) verifyStepsCard

/-- THE TIED CARD OF 'affidavitlaw14.VerifyHonest'. -/
def verifyHonestCard : Claim7 := { stood := { row := verifyHonestRow, standIns := [], harness := (true, "f7d4dcac1b703baa966cf070a22177df47bdaed6e5ed8fd0a7a5ee11bb2e7056"), looks := true }, kinds := [], alts := [], laidByText := true, laidKinds := [.data, .data, .data, .data, .sentinel, .sentinel], laidTests := true, laidLooks := .later }
def VerifyHonestCardSaid : Prop := Claim7.holds Tryz.pinned (.plain (OpenSpec.ofChange verifyHonestSpec)) verifyHonestCard

/-- THE TIED CARD OF 'affidavitlaw14.VerifyMade'. -/
def verifyMadeCard : Claim7 := { stood := { row := verifyMadeRow, standIns := [], harness := (true, "f7d4dcac1b703baa966cf070a22177df47bdaed6e5ed8fd0a7a5ee11bb2e7056"), looks := true }, kinds := [], alts := [], laidByText := true, laidKinds := [.data, .data, .data, .data, .sentinel, .sentinel], laidTests := true, laidLooks := .later }
def VerifyMadeCardSaid : Prop := Claim7.holds Tryz.pinned (.plain (OpenSpec.ofChange verifyMadeSpec)) verifyMadeCard

/-- THE TIED CARD OF 'affidavitlaw14.VerifyNone'. -/
def verifyNoneCard : Claim7 := { stood := { row := verifyNoneRow, standIns := [], harness := (true, "f7d4dcac1b703baa966cf070a22177df47bdaed6e5ed8fd0a7a5ee11bb2e7056"), looks := true }, kinds := [], alts := [], laidByText := true, laidKinds := [.data, .data, .data, .data, .sentinel, .sentinel], laidTests := true, laidLooks := .later }
def VerifyNoneCardSaid : Prop := Claim7.holds Tryz.pinned (.plain (OpenSpec.ofChange verifyNoneSpec)) verifyNoneCard

/-- THE TIED CARD OF 'affidavitlaw15.UstorReads'. -/
def ustorReadsCard : Claim7 := { stood := { row := ustorReadsRow, standIns := [], harness := (true, "f7d4dcac1b703baa966cf070a22177df47bdaed6e5ed8fd0a7a5ee11bb2e7056"), looks := true }, kinds := [], alts := [], laidByText := true, laidKinds := [.data, .data, .data, .data, .sentinel, .sentinel], laidTests := true, laidLooks := .later }
def UstorReadsCardSaid : Prop := Claim7.holds Tryz.pinned (.plain (OpenSpec.ofChange ustorReadsSpec)) ustorReadsCard

/-- THE TIED CARD OF 'affidavitlaw15.UstorNone'. -/
def ustorNoneCard : Claim7 := { stood := { row := ustorNoneRow, standIns := [], harness := (true, "f7d4dcac1b703baa966cf070a22177df47bdaed6e5ed8fd0a7a5ee11bb2e7056"), looks := true }, kinds := [], alts := [], laidByText := true, laidKinds := [.data, .data, .data, .data, .sentinel, .sentinel], laidTests := true, laidLooks := .later }
def UstorNoneCardSaid : Prop := Claim7.holds Tryz.pinned (.plain (OpenSpec.ofChange ustorNoneSpec)) ustorNoneCard

/-- THE SECOND FORM's CARD OF 'affidavitlaw14.VerifySteps'. -/
def verifyStepsUptoCard : Claim7 := { stood := { row := verifyStepsUptoRow, standIns := [], harness := (true, "f7d4dcac1b703baa966cf070a22177df47bdaed6e5ed8fd0a7a5ee11bb2e7056"), looks := true }, kinds := [], alts := [], laidByText := true, laidKinds := [.data, .data, .data, .data, .sentinel, .sentinel], laidTests := true, laidLooks := .later }
def VerifyStepsUptoCardSaid : Prop := Claim7.holds Tryz.pinned (.plain (OpenSpec.upto verifyStepsSpec)) verifyStepsUptoCard

/-- THE SECOND FORM's CARD OF 'affidavitlaw14.VerifyHonest'. -/
def verifyHonestUptoCard : Claim7 := { stood := { row := verifyHonestUptoRow, standIns := [], harness := (true, "f7d4dcac1b703baa966cf070a22177df47bdaed6e5ed8fd0a7a5ee11bb2e7056"), looks := true }, kinds := [], alts := [], laidByText := true, laidKinds := [.data, .data, .data, .data, .sentinel, .sentinel], laidTests := true, laidLooks := .later }
def VerifyHonestUptoCardSaid : Prop := Claim7.holds Tryz.pinned (.plain (OpenSpec.upto verifyHonestSpec)) verifyHonestUptoCard

/-- THE SECOND FORM's CARD OF 'affidavitlaw14.VerifyMade'. -/
def verifyMadeUptoCard : Claim7 := { stood := { row := verifyMadeUptoRow, standIns := [], harness := (true, "f7d4dcac1b703baa966cf070a22177df47bdaed6e5ed8fd0a7a5ee11bb2e7056"), looks := true }, kinds := [], alts := [], laidByText := true, laidKinds := [.data, .data, .data, .data, .sentinel, .sentinel], laidTests := true, laidLooks := .later }
def VerifyMadeUptoCardSaid : Prop := Claim7.holds Tryz.pinned (.plain (OpenSpec.upto verifyMadeSpec)) verifyMadeUptoCard

/-- THE SECOND FORM's CARD OF 'affidavitlaw14.VerifyNone'. -/
def verifyNoneUptoCard : Claim7 := { stood := { row := verifyNoneUptoRow, standIns := [], harness := (true, "f7d4dcac1b703baa966cf070a22177df47bdaed6e5ed8fd0a7a5ee11bb2e7056"), looks := true }, kinds := [], alts := [], laidByText := true, laidKinds := [.data, .data, .data, .data, .sentinel, .sentinel], laidTests := true, laidLooks := .later }
def VerifyNoneUptoCardSaid : Prop := Claim7.holds Tryz.pinned (.plain (OpenSpec.upto verifyNoneSpec)) verifyNoneUptoCard

/-- THE SECOND FORM's CARD OF 'affidavitlaw15.UstorReads'. -/
def ustorReadsUptoCard : Claim7 := { stood := { row := ustorReadsUptoRow, standIns := [], harness := (true, "f7d4dcac1b703baa966cf070a22177df47bdaed6e5ed8fd0a7a5ee11bb2e7056"), looks := true }, kinds := [], alts := [], laidByText := true, laidKinds := [.data, .data, .data, .data, .sentinel, .sentinel], laidTests := true, laidLooks := .later }
def UstorReadsUptoCardSaid : Prop := Claim7.holds Tryz.pinned (.plain (OpenSpec.upto ustorReadsSpec)) ustorReadsUptoCard

/-- THE SECOND FORM's CARD OF 'affidavitlaw15.UstorNone'. -/
def ustorNoneUptoCard : Claim7 := { stood := { row := ustorNoneUptoRow, standIns := [], harness := (true, "f7d4dcac1b703baa966cf070a22177df47bdaed6e5ed8fd0a7a5ee11bb2e7056"), looks := true }, kinds := [], alts := [], laidByText := true, laidKinds := [.data, .data, .data, .data, .sentinel, .sentinel], laidTests := true, laidLooks := .later }
def UstorNoneUptoCardSaid : Prop := Claim7.holds Tryz.pinned (.plain (OpenSpec.upto ustorNoneSpec)) ustorNoneUptoCard
end Rows
end Go.Proofs.YtmfpmajkjhmliaaGreatDoor
