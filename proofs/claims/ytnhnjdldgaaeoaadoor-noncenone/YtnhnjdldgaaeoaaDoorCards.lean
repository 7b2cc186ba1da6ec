/-
  DERIVED. GIVEN WITH THE SEED: THE CARDS: each row of YtnhnjdldgaaeoaaDoorRows.lean that lists a variable, with what it lists TIED to the program's text (the seventh form; the later family's looks); each row that meets fmt, with fmt's text TOLD by the authors' own Lean function (tested against real Go, not proved from fmt's source: count such statements apart). THE CARD IS WHAT COUNTS. Prove the row's statement (the work); the ties are given (YtnhnjdldgaaeoaaDoorTie.lean); close each card by the builder's one call (the guide's Derived/Test/ToyasCard.lean, 'card_holds'). Laid BY PROGRAM, IN A SANDBOX (cutbox-door.mjs). By AI agents, Wed Nov 11 2026. No macro, syntax, notation, axiom, sorry.
-/
import Derived.Test.YtnhnjdldgaaeoaaDoorRows
import GoSem.ClaimSeven
namespace Go.Proofs.YtnhnjdldgaaeoaaDoor
namespace Rows

/-- THE TIED CARD OF 'affidavitlaw08.NonceOnce'. -/
def nonceOnceCard : Claim7 := { stood := { row := nonceOnceRow, standIns := [], harness := (true, "47f543dfd3ed15a23366a6ec875ce004b805b177df5ef6a2f40894d934c579fb"), looks := true }, kinds := [], alts := [], laidByText := true, laidKinds := [.data, .data, .data, .sentinel, .sentinel], laidTests := true, laidLooks := .later }
def NonceOnceCardSaid : Prop := Claim7.holds Tryd.pinned (.plain (OpenSpec.ofChange nonceOnceSpec)) nonceOnceCard

/-- THE TIED CARD OF 'affidavitlaw08.NonceKept'. -/
def nonceKeptCard : Claim7 := { stood := { row := nonceKeptRow, standIns := [], harness := (true, "47f543dfd3ed15a23366a6ec875ce004b805b177df5ef6a2f40894d934c579fb"), looks := true }, kinds := [], alts := [], laidByText := true, laidKinds := [.data, .data, .data, .sentinel, .sentinel], laidTests := true, laidLooks := .later }
def NonceKeptCardSaid : Prop := Claim7.holds Tryd.pinned (.plain (OpenSpec.ofChange nonceKeptSpec)) nonceKeptCard

/-- THE TIED CARD OF 'affidavitlaw08.NonceForeign'. -/
def nonceForeignCard : Claim7 := { stood := { row := nonceForeignRow, standIns := [], harness := (true, "47f543dfd3ed15a23366a6ec875ce004b805b177df5ef6a2f40894d934c579fb"), looks := true }, kinds := [], alts := [], laidByText := true, laidKinds := [.data, .data, .data, .sentinel, .sentinel], laidTests := true, laidLooks := .later }
def NonceForeignCardSaid : Prop := Claim7.holds Tryd.pinned (.plain (OpenSpec.ofChange nonceForeignSpec)) nonceForeignCard

/-- THE TIED CARD OF 'affidavitlaw08.NonceNone'. -/
def nonceNoneCard : Claim7 := { stood := { row := nonceNoneRow, standIns := [], harness := (true, "47f543dfd3ed15a23366a6ec875ce004b805b177df5ef6a2f40894d934c579fb"), looks := true }, kinds := [], alts := [], laidByText := true, laidKinds := [.data, .data, .data, .sentinel, .sentinel], laidTests := true, laidLooks := .later }
def NonceNoneCardSaid : Prop := Claim7.holds Tryd.pinned (.plain (OpenSpec.ofChange nonceNoneSpec)) nonceNoneCard

/-- THE SECOND FORM's CARD OF 'affidavitlaw08.NonceOnce'. -/
def nonceOnceUptoCard : Claim7 := { stood := { row := nonceOnceUptoRow, standIns := [], harness := (true, "47f543dfd3ed15a23366a6ec875ce004b805b177df5ef6a2f40894d934c579fb"), looks := true }, kinds := [], alts := [], laidByText := true, laidKinds := [.data, .data, .data, .sentinel, .sentinel], laidTests := true, laidLooks := .later }
def NonceOnceUptoCardSaid : Prop := Claim7.holds Tryd.pinned (.plain (OpenSpec.upto nonceOnceSpec)) nonceOnceUptoCard

/-- THE SECOND FORM's CARD OF 'affidavitlaw08.NonceKept'. -/
def nonceKeptUptoCard : Claim7 := { stood := { row := nonceKeptUptoRow, standIns := [], harness := (true, "47f543dfd3ed15a23366a6ec875ce004b805b177df5ef6a2f40894d934c579fb"), looks := true }, kinds := [], alts := [], laidByText := true, laidKinds := [.data, .data, .data, .sentinel, .sentinel], laidTests := true, laidLooks := .later }
def NonceKeptUptoCardSaid : Prop := Claim7.holds Tryd.pinned (.plain (OpenSpec.upto nonceKeptSpec)) nonceKeptUptoCard

/-- THE SECOND FORM's CARD OF 'affidavitlaw08.NonceForeign'. -/
def nonceForeignUptoCard : Claim7 := { stood := { row := nonceForeignUptoRow, standIns := [], harness := (true, "47f543dfd3ed15a23366a6ec875ce004b805b177df5ef6a2f40894d934c579fb"), looks := true }, kinds := [], alts := [], laidByText := true, laidKinds := [.data, .data, .data, .sentinel, .sentinel], laidTests := true, laidLooks := .later }
def NonceForeignUptoCardSaid : Prop := Claim7.holds Tryd.pinned (.plain (OpenSpec.upto nonceForeignSpec)) nonceForeignUptoCard

/-- THE SECOND FORM's CARD OF 'affidavitlaw08.NonceNone'. -/
def nonceNoneUptoCard : Claim7 := { stood := { row := nonceNoneUptoRow, standIns := [], harness := (true, "47f543dfd3ed15a23366a6ec875ce004b805b177df5ef6a2f40894d934c579fb"), looks := true }, kinds := [], alts := [], laidByText := true, laidKinds := [.data, .data, .data, .sentinel, .sentinel], laidTests := true, laidLooks := .later }
def NonceNoneUptoCardSaid : Prop := Claim7.holds Tryd.pinned (.plain (OpenSpec.upto nonceNoneSpec)) nonceNoneUptoCard
end Rows
end Go.Proofs.YtnhnjdldgaaeoaaDoor
