/-
  What awake is told.
-/
import Derived.Test.YtoddlbggbkabnaaDoorRawk
namespace Go.Proofs.YtoddlbggbkabnaaDoor
open Go Go.RowKit
set_option maxRecDepth 100000

/-- What awake is told, whatever the seed's own bytes. -/
structure Wake (s T : List UInt8) (w1 : World) (p h g b : Nat) : Prop where
  tag : Calls Tryd.prog 12 #[.pointer (some ⟨p, 0, none⟩), .int .i64 1, .int .i64 2, .string ⟨#[97]⟩] w1 fun e w' => e = .returned (.tuple #[.agg (T.map cb).toArray, .int .i64 0]) ∧ RingAt w' p h g b s 3 [(1, 2, [97])] ∧ Touch b w1 w'
  check : ∀ W, RingAt W p h g b s 3 [(1, 2, [97])] → Ktab W → Lay.Tabs W → Calls Tryd.prog 14 #[.pointer (some ⟨p, 0, none⟩), .int .i64 1, .int .i64 2, .string ⟨#[97]⟩, .agg (T.map cb).toArray] W fun e w' => e = .returned (.bool true) ∧ Below W.heap.size W w'
  made : ∀ W, RingAt W p h g b s 3 [(1, 2, [97])] → Calls Tryd.prog 18 #[.pointer (some ⟨p, 0, none⟩), .int .i64 1, .int .i64 2, .string ⟨#[97]⟩] W fun e w' => e = .returned (.bool true) ∧ Below W.heap.size W w'
  other : ∀ W, RingAt W p h g b s 3 [(1, 2, [97])] → Calls Tryd.prog 18 #[.pointer (some ⟨p, 0, none⟩), .int .i64 2, .int .i64 2, .string ⟨#[97]⟩] W fun e w' => e = .returned (.bool false) ∧ Below W.heap.size W w'
theorem wake (s T : List UInt8) (w1 : World) (p h g b : Nat) (hT : T = tagB s (1, 2, [97])) (r : RingAt w1 p h g b s 3 []) (hK : Ktab w1) (hTb : Lay.Tabs w1) : Wake s T w1 p h g b := by
  have hm : May 3 (1, 2, [97]) := by decide
  refine ⟨?_, fun W rr a c => check_own rr 1 2 [97] T hT hm a c, fun W rr => made_any rr 1 2 [97] ⟨by decide, by decide, by decide⟩, fun W rr => made_any rr 2 2 [97] ⟨by decide, by decide, by decide⟩⟩
  have h := tag_c r (by decide) 1 2 [97] hm (by decide) hK hTb
  rw [← hT] at h
  exact h

end Go.Proofs.YtoddlbggbkabnaaDoor
