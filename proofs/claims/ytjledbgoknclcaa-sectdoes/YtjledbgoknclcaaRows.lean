/-
  No cell of these rows narrows 'for every input' (looked for: loops, veiled, ifaces, maps, wideKeys, modest, calm, conditions, laid).
  DERIVED. THE GIVEN ROWS OF THIS SEAT. 5 by the template 'for every input the law returns true; each argument reads behind the call as it read before'; 0 by the template 'total and deterministic' (their statements: YtjledbgoknclcaaTotals.lean).
  GIVEN WITH THE SEED: the statements are not yours to turn. If you find one false, say at which input.
  Laid BY PROGRAM, IN A SANDBOX (cutbox-rows.mjs): the forced cells as the released guide's own fill.sh prints them over the translation ab23282964f15988… (all of the seat's roots in one cut). By AI agents, Wed Nov 11 2026. No macro, syntax, notation, axiom, sorry.
-/
import Derived.Test.YtjledbgoknclcaaChecked
import GoSem.Claim
import GoSem.ClaimJoined
import GoSem.ClaimMapViews
import Derived.JoinedTies
import Derived.KernelRfl
namespace Go.Proofs.Ytjledbgoknclcaa
/- THE CELL 'sum', in the pinned program and in every row, IS THE sha256 OF THE DUMP (.gsa) THAT YtjledbgoknclcaaProg.lean LOADS. Nothing in Lean hashes anything: it is a label: what it is worth is what the hold of that sum in a sandbox is worth. -/
noncomputable def Try.pinned : Pinned := { name := "ytjledbgoknclcaa", sum := "ab23282964f159888e2b339b0afa8728894b0d849a3f94147d28f514498157e2", checked := Try.checked }
namespace Rows
def none {H : Type} : Left H := { results := [], args := [] }

/-- 'affidavitlaw06.SectDoes': WHATEVER THE INPUT: true; the input reads as it did. -/
def sectDoesSpec : ChangeSpec := { name := "sectDoes", fn := fun _ => fun
  | [d1, d2, d3] => { results := [.lit (.bool true)], args := [d1, d2, d3] }
  | _ => none }
def sectDoesRow : OpenClaim := { program := "ytjledbgoknclcaa", sum := "ab23282964f159888e2b339b0afa8728894b0d849a3f94147d28f514498157e2", func := "affidavit/affidavitlaw06.SectDoes", spec := "sectDoes", unfollowed := true, recurses := true, apart := false }
def SectDoesSaid : Prop := sectDoesRow.holds Try.pinned (OpenSpec.ofChange sectDoesSpec)

/-- ITS FALSE NEIGHBOUR: 'it returns false'. Refute it at one input. -/
def sectDoesWrong : ChangeSpec := { name := "sectDoes", fn := fun _ => fun
  | [d1, d2, d3] => { results := [.lit (.bool false)], args := [d1, d2, d3] }
  | _ => none }
def SectDoesWrongFalsely : Prop := sectDoesRow.holds Try.pinned (OpenSpec.ofChange sectDoesWrong)

/-- 'affidavitlaw06.SectSafe': WHATEVER THE INPUT: true; the input reads as it did. -/
def sectSafeSpec : ChangeSpec := { name := "sectSafe", fn := fun _ => fun
  | [d1, d2, d3] => { results := [.lit (.bool true)], args := [d1, d2, d3] }
  | _ => none }
def sectSafeRow : OpenClaim := { program := "ytjledbgoknclcaa", sum := "ab23282964f159888e2b339b0afa8728894b0d849a3f94147d28f514498157e2", func := "affidavit/affidavitlaw06.SectSafe", spec := "sectSafe", unfollowed := true, recurses := true, apart := false }
def SectSafeSaid : Prop := sectSafeRow.holds Try.pinned (OpenSpec.ofChange sectSafeSpec)

/-- ITS FALSE NEIGHBOUR: 'it returns false'. Refute it at one input. -/
def sectSafeWrong : ChangeSpec := { name := "sectSafe", fn := fun _ => fun
  | [d1, d2, d3] => { results := [.lit (.bool false)], args := [d1, d2, d3] }
  | _ => none }
def SectSafeWrongFalsely : Prop := sectSafeRow.holds Try.pinned (OpenSpec.ofChange sectSafeWrong)

/-- 'affidavitlaw06.SectApart': WHATEVER THE INPUT: true; the input reads as it did. -/
def sectApartSpec : ChangeSpec := { name := "sectApart", fn := fun _ => fun
  | [d1, d2, d3] => { results := [.lit (.bool true)], args := [d1, d2, d3] }
  | _ => none }
def sectApartRow : OpenClaim := { program := "ytjledbgoknclcaa", sum := "ab23282964f159888e2b339b0afa8728894b0d849a3f94147d28f514498157e2", func := "affidavit/affidavitlaw06.SectApart", spec := "sectApart", unfollowed := true, recurses := true, apart := false }
def SectApartSaid : Prop := sectApartRow.holds Try.pinned (OpenSpec.ofChange sectApartSpec)

/-- ITS FALSE NEIGHBOUR: 'it returns false'. Refute it at one input. -/
def sectApartWrong : ChangeSpec := { name := "sectApart", fn := fun _ => fun
  | [d1, d2, d3] => { results := [.lit (.bool false)], args := [d1, d2, d3] }
  | _ => none }
def SectApartWrongFalsely : Prop := sectApartRow.holds Try.pinned (OpenSpec.ofChange sectApartWrong)

/-- 'affidavitlaw06.SectArmed': WHATEVER THE INPUT: true; the input reads as it did. -/
def sectArmedSpec : ChangeSpec := { name := "sectArmed", fn := fun _ => fun
  | [d1, d2] => { results := [.lit (.bool true)], args := [d1, d2] }
  | _ => none }
def sectArmedRow : OpenClaim := { program := "ytjledbgoknclcaa", sum := "ab23282964f159888e2b339b0afa8728894b0d849a3f94147d28f514498157e2", func := "affidavit/affidavitlaw06.SectArmed", spec := "sectArmed", unfollowed := true, recurses := true, apart := false }
def SectArmedSaid : Prop := sectArmedRow.holds Try.pinned (OpenSpec.ofChange sectArmedSpec)

/-- ITS FALSE NEIGHBOUR: 'it returns false'. Refute it at one input. -/
def sectArmedWrong : ChangeSpec := { name := "sectArmed", fn := fun _ => fun
  | [d1, d2] => { results := [.lit (.bool false)], args := [d1, d2] }
  | _ => none }
def SectArmedWrongFalsely : Prop := sectArmedRow.holds Try.pinned (OpenSpec.ofChange sectArmedWrong)

/-- 'affidavitlaw06.SectNone': WHATEVER THE INPUT: true; the input reads as it did. -/
def sectNoneSpec : ChangeSpec := { name := "sectNone", fn := fun _ => fun
  | [d1, d2] => { results := [.lit (.bool true)], args := [d1, d2] }
  | _ => none }
def sectNoneRow : OpenClaim := { program := "ytjledbgoknclcaa", sum := "ab23282964f159888e2b339b0afa8728894b0d849a3f94147d28f514498157e2", func := "affidavit/affidavitlaw06.SectNone", spec := "sectNone", unfollowed := true, recurses := true, apart := false }
def SectNoneSaid : Prop := sectNoneRow.holds Try.pinned (OpenSpec.ofChange sectNoneSpec)

/-- ITS FALSE NEIGHBOUR: 'it returns false'. Refute it at one input. -/
def sectNoneWrong : ChangeSpec := { name := "sectNone", fn := fun _ => fun
  | [d1, d2] => { results := [.lit (.bool false)], args := [d1, d2] }
  | _ => none }
def SectNoneWrongFalsely : Prop := sectNoneRow.holds Try.pinned (OpenSpec.ofChange sectNoneWrong)

/- THE SECOND FORM. 'bulk': how many values and letters a reading holds, each counted each time it is reached (what is shared counts as often as it is met; a slice's spare places count too). A statement '..UptoSaid' is the law's where the arguments, and the package variables that the reading takes, are together of bulk at most 1048576: NARROWER than '..Said'. Prove '..Said' where nothing that the law and all that it calls make is longer than what came in: it says more and counts as full. Else prove '..UptoSaid'. A law counts once. -/
mutual
def uptoBulk {H : Type} : DataW H → Nat
  | .lit (.string bytes) => bytes.length + 1
  | .lit _ => 1
  | .nil => 1
  | .ptr d => uptoBulk d + 1
  | .slice elems spare => uptoBulkAll elems + uptoBulkAll spare + 1
  | .agg parts => uptoBulkAll parts + 1
  | .iface _ d => uptoBulk d + 1
  | .map entries => uptoBulkEntries entries + 1
  | .held _ => 1
def uptoBulkAll {H : Type} : List (DataW H) → Nat
  | [] => 0
  | d :: r => uptoBulk d + uptoBulkAll r
def uptoBulkEntries {H : Type} : List (Lit × DataW H) → Nat
  | [] => 0
  | x :: r => uptoBulkEntry x + uptoBulkEntries r
def uptoBulkEntry {H : Type} : Lit × DataW H → Nat
  | (.string bytes, d) => bytes.length + uptoBulk d + 1
  | (_, d) => uptoBulk d + 1
 end
def uptoSmall : (H : Type) → List (DataW H) → Bool := fun _ ds => decide (uptoBulkAll ds ≤ 1048576)
def OpenSpec.upto (s : _root_.Go.ChangeSpec) : _root_.Go.OpenSpec := { _root_.Go.OpenSpec.ofChange s with cond := some uptoSmall }

/-- 'affidavitlaw06.SectDoes', WHERE WHAT IT READS IS OF BULK AT MOST 1048576: true; the input reads as it did. -/
def sectDoesUptoRow : OpenClaim := { program := "ytjledbgoknclcaa", sum := "ab23282964f159888e2b339b0afa8728894b0d849a3f94147d28f514498157e2", func := "affidavit/affidavitlaw06.SectDoes", spec := "sectDoes", unfollowed := true, recurses := true, apart := false, narrowed := true }
def SectDoesUptoSaid : Prop := sectDoesUptoRow.holds Try.pinned (OpenSpec.upto sectDoesSpec)

/-- 'affidavitlaw06.SectSafe', WHERE WHAT IT READS IS OF BULK AT MOST 1048576: true; the input reads as it did. -/
def sectSafeUptoRow : OpenClaim := { program := "ytjledbgoknclcaa", sum := "ab23282964f159888e2b339b0afa8728894b0d849a3f94147d28f514498157e2", func := "affidavit/affidavitlaw06.SectSafe", spec := "sectSafe", unfollowed := true, recurses := true, apart := false, narrowed := true }
def SectSafeUptoSaid : Prop := sectSafeUptoRow.holds Try.pinned (OpenSpec.upto sectSafeSpec)

/-- 'affidavitlaw06.SectApart', WHERE WHAT IT READS IS OF BULK AT MOST 1048576: true; the input reads as it did. -/
def sectApartUptoRow : OpenClaim := { program := "ytjledbgoknclcaa", sum := "ab23282964f159888e2b339b0afa8728894b0d849a3f94147d28f514498157e2", func := "affidavit/affidavitlaw06.SectApart", spec := "sectApart", unfollowed := true, recurses := true, apart := false, narrowed := true }
def SectApartUptoSaid : Prop := sectApartUptoRow.holds Try.pinned (OpenSpec.upto sectApartSpec)

/-- 'affidavitlaw06.SectArmed', WHERE WHAT IT READS IS OF BULK AT MOST 1048576: true; the input reads as it did. -/
def sectArmedUptoRow : OpenClaim := { program := "ytjledbgoknclcaa", sum := "ab23282964f159888e2b339b0afa8728894b0d849a3f94147d28f514498157e2", func := "affidavit/affidavitlaw06.SectArmed", spec := "sectArmed", unfollowed := true, recurses := true, apart := false, narrowed := true }
def SectArmedUptoSaid : Prop := sectArmedUptoRow.holds Try.pinned (OpenSpec.upto sectArmedSpec)

/-- 'affidavitlaw06.SectNone', WHERE WHAT IT READS IS OF BULK AT MOST 1048576: true; the input reads as it did. -/
def sectNoneUptoRow : OpenClaim := { program := "ytjledbgoknclcaa", sum := "ab23282964f159888e2b339b0afa8728894b0d849a3f94147d28f514498157e2", func := "affidavit/affidavitlaw06.SectNone", spec := "sectNone", unfollowed := true, recurses := true, apart := false, narrowed := true }
def SectNoneUptoSaid : Prop := sectNoneUptoRow.holds Try.pinned (OpenSpec.upto sectNoneSpec)

end Rows
end Go.Proofs.Ytjledbgoknclcaa
