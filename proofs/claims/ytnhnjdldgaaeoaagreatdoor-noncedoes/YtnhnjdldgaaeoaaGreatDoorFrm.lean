/-
  What a call leaves as it was: all blocks but some. No program plays a part.
-/
import Derived.Test.YtnhnjdldgaaeoaaGreatDoorRowl
namespace Go.Proofs.YtnhnjdldgaaeoaaGreatDoor
open Go Go.RowKit
set_option maxRecDepth 100000

/-- Nothing but the blocks X has changed of what there was. -/
structure Kp (X : List Nat) (w w' : World) : Prop where
  os : w'.os = w.os
  tape : w'.tape = w.tape
  output : w'.output = w.output
  size : w.heap.size ≤ w'.heap.size
  block : ∀ k, k < w.heap.size → k ∉ X → w'.heap[k]? = w.heap[k]?

theorem Kp.refl (X : List Nat) (w : World) : Kp X w w := ⟨rfl, rfl, rfl, Nat.le_refl _, fun _ _ _ => rfl⟩
theorem Kp.trans {X : List Nat} {a b c : World} (h : Kp X a b) (k : Kp X b c) : Kp X a c :=
  ⟨k.os.trans h.os, k.tape.trans h.tape, k.output.trans h.output, Nat.le_trans h.size k.size, fun i hi hp => (k.block i (Nat.lt_of_lt_of_le hi h.size) hp).trans (h.block i hi hp)⟩
theorem Kp.drop {X Y : List Nat} {w w' : World} (h : Kp X w w') (hX : ∀ x ∈ X, x ∈ Y ∨ w.heap.size ≤ x) : Kp Y w w' :=
  ⟨h.os, h.tape, h.output, h.size, fun k hk hp => h.block k hk (fun hx => by rcases hX k hx with e | e; exact hp e; omega)⟩
theorem Kp.of {X : List Nat} {w w' : World} (h : Below w.heap.size w w') : Kp X w w' := ⟨h.os, h.tape, h.output, h.size, fun k hk _ => h.block k hk⟩
theorem Kp.below {X : List Nat} {B : Nat} {w w' : World} (h : Kp X w w') (h1 : ∀ x ∈ X, B ≤ x) (h2 : B ≤ w.heap.size) : Below B w w' :=
  ⟨h.os, h.tape, h.output, h.size, fun k hk => h.block k (by omega) (fun hx => by have := h1 k hx; omega)⟩
theorem Kp.setRow {X : List Nat} {a w : World} (h : Kp X a w) (g : Nat) (cs : Array Value) (hg : g ∈ X ∨ a.heap.size ≤ g) : Kp X a (w.setRow g cs) := by
  refine ⟨h.os, h.tape, h.output, by simpa using h.size, fun k hk hx => ?_⟩
  rw [← h.block k hk hx]
  refine setRow_other w g k cs ?_
  rintro rfl
  rcases hg with e | e
  · exact hx e
  · omega
theorem Kp.setCell {X : List Nat} {a w : World} (h : Kp X a w) (p : Addr) (v : Value) (hg : p.block ∈ X ∨ a.heap.size ≤ p.block) : Kp X a (w.setCell p v) := by
  refine ⟨h.os, h.tape, h.output, by simpa [World.setCell] using h.size, fun k hk hx => ?_⟩
  rw [← h.block k hk hx]
  refine heap_setCell_other w p k v ?_
  rintro rfl
  rcases hg with e | e
  · exact hx e
  · omega
theorem Kp.drewN {X : List Nat} {a w : World} (h : Kp X a w) (n : Nat) : Kp X a (w.drewN n) := ⟨h.os, h.tape, h.output, h.size, h.block⟩
theorem Kp.drew {X : List Nat} {a w : World} (h : Kp X a w) : Kp X a w.drew := ⟨h.os, h.tape, h.output, h.size, h.block⟩
theorem Kp.alloc {X : List Nat} {a w : World} (h : Kp X a w) (o : Obj) : Kp X a (w.alloc o) :=
  ⟨h.os, h.tape, h.output, by have := h.size; simp; omega, fun k hk hx => (heap_old1 w o k (by have := h.size; omega)).trans (h.block k hk hx)⟩
theorem Kp.row {X : List Nat} {w w' : World} (h : Kp X w w') {k : Nat} {o : Obj} (hr : w.heap[k]? = some o) (hk : k ∉ X) : w'.heap[k]? = some o :=
  (h.block k (Array.getElem?_eq_some_iff.1 hr).1 hk).trans hr
theorem Kp.grown {X : List Nat} {a w w' : World} {row : Option Nat} (h : Kp X a w) (hg : w.grownBy w' row) (hr : ∀ k, row = some k → k ∈ X ∨ a.heap.size ≤ k) : Kp X a w' :=
  ⟨hg.os.trans h.os, hg.tape.trans h.tape, hg.output.trans h.output, Nat.le_trans h.size hg.size, fun k hk hx => (hg.block k (by have := h.size; omega) (fun e => by rcases hr k e.symm with q | q; exact hx q; omega)).trans (h.block k hk hx)⟩
theorem row_lt {w : World} {k : Nat} {o : Obj} (hr : w.heap[k]? = some o) : k < w.heap.size := (Array.getElem?_eq_some_iff.1 hr).1
theorem row_kept {w w' : World} {k : Nat} {o : Obj} (hr : w.heap[k]? = some o) (hb : Below w.heap.size w w') : w'.heap[k]? = some o := (hb.block k (row_lt hr)).trans hr
end Go.Proofs.YtnhnjdldgaaeoaaGreatDoor
