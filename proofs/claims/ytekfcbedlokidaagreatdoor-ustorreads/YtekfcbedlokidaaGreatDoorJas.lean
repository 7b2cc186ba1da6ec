/-
  Which numbers of an operation, which lists and which replies may be: what the reference answers (R10.asks, Numbers, R09.Right).
-/
import Derived.Test.YtekfcbedlokidaaGreatDoorH02
namespace Go.Proofs.YtekfcbedlokidaaGreatDoor.Ms
open Go Go.RowKit
set_option maxRecDepth 100000
theorem numsB_bad (l : List Int) (i : Nat) (hi : i < l.length) (h : okAt l i = false) : numsB l = false := by
  unfold numsB
  have : (List.range l.length).all (okAt l) = false := by
    rw [List.all_eq_false]
    exact ⟨i, List.mem_range.2 hi, by rw [h]; exact Bool.false_ne_true⟩
  rw [this]; rfl
theorem numsB_all (l : List Int) (h : ∀ i, i < l.length → okAt l i = true) : numsB l = inB (l.length : Int) 1 64 := by
  unfold numsB
  have : (List.range l.length).all (okAt l) = true := by
    rw [List.all_eq_true]
    exact fun i hi => h i (List.mem_range.1 hi)
  rw [this]; rfl
theorem below_drawn {B : Nat} {w w' : World} (h : Below B w w') (n : Nat) : Below B w (w'.drewN n) := ⟨h.os, h.tape, h.output, h.size, h.block⟩
end Go.Proofs.YtekfcbedlokidaaGreatDoor.Ms
