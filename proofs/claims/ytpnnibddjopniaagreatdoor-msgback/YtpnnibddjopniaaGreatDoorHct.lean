/-
  What hist.Count answers.
-/
import Derived.Test.YtpnnibddjopniaaGreatDoorHit
namespace Go.Proofs.YtpnnibddjopniaaGreatDoor.Hist
open Go Go.RowKit Go.Shelf
set_option maxRecDepth 100000
attribute [local go_sem] Oper.semAt_some

theorem cell_set_same {W : World} {b : Nat} {v u : Value} (h : W.cell? ⟨b, 0, none⟩ = some v) : (W.setCell ⟨b, 0, none⟩ u).cell? ⟨b, 0, none⟩ = some u := World.cell?_setCell_same' _ _ _ (by rw [h]; rfl)
theorem frozen_set {W : World} {a p : Addr} {u : Value} : (W.setCell p u).frozen? a = W.frozen? a := World.frozen?_setCell _ _ _ _
theorem cell_set_other {W : World} {b b' : Nat} {u : Value} (h : b ≠ b') : (W.setCell ⟨b', 0, none⟩ u).cell? ⟨b, 0, none⟩ = W.cell? ⟨b, 0, none⟩ := World.cell?_of_block (w := W) (Below.heap_setCell W ⟨b', 0, none⟩ u b h)
theorem top_obj (W : World) (o : Obj) : (W.alloc o).heap[W.heap.size]? = some o := by show (W.heap.push o)[W.heap.size]? = _; simp

end Go.Proofs.YtpnnibddjopniaaGreatDoor.Hist
