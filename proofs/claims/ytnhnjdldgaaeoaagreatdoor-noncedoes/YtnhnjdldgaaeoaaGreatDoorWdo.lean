/-
  What do answers: a call of both cells, and they stay alike.
-/
import Derived.Test.YtnhnjdldgaaeoaaGreatDoorGsav
import Derived.Test.YtnhnjdldgaaeoaaGreatDoorQlo
import Derived.Test.YtnhnjdldgaaeoaaGreatDoorKsa
import Derived.Deep.RegionHeld3
namespace Go.Proofs.YtnhnjdldgaaeoaaGreatDoor
open Go Go.RowKit
set_option maxRecDepth 100000

/-- Both disks, alike. -/
structure Both (w : World) (d g : Nat) (r : Rx) (D : Dk) : Prop where
  disk : DiskAt w d g D
  ref : RefAt w r D
abbrev allB (d g : Nat) (r : Rx) : List Nat := [d, g, r.x, r.gL, r.gO]
section
variable {w w' : World} {d g : Nat} {r : Rx} {D D' : Dk}
theorem Both.nes (h : Both w d g r D) : d ∉ [r.x, r.gL, r.gO] ∧ g ∉ [r.x, r.gL, r.gO] := by
  have h1 := h.disk.obj
  have h2 := h.disk.row
  have h3 := h.ref.obj
  have h4 := h.ref.L
  have h5 := h.ref.O
  constructor
  · intro hx
    simp at hx
    rcases hx with e | e | e
    · rw [e, h3] at h1; simp at h1
    · rw [e, h4] at h1; simp at h1
    · rw [e, h5] at h1; simp at h1
  · intro hx
    simp at hx
    rcases hx with e | e | e
    · rw [e, h3] at h2; simp at h2
    · rw [e, h4] at h2; simp at h2
    · rw [e, h5] at h2; simp at h2
theorem Both.kept (h : Both w d g r D) (hb : Below w.heap.size w w') : Both w' d g r D := ⟨h.disk.kept (X := []) (Kp.of hb) (by simp) (by simp), h.ref.below hb⟩
/-- The program's disk has changed: the reference's is as it was. -/
theorem Both.refKept (h : Both w d g r D) (hk : Kp [d, g] w w') : RefAt w' r D := by
  have hn := h.nes
  simp at hn
  exact h.ref.kept hk (by simp; exact ⟨Ne.symm hn.1.1, Ne.symm hn.2.1⟩) (by simp; exact ⟨Ne.symm hn.1.2.1, Ne.symm hn.2.2.1⟩) (by simp; exact ⟨Ne.symm hn.1.2.2, Ne.symm hn.2.2.2⟩)
theorem Both.diskKept (h : Both w d g r D) (hk : Kp [r.x, r.gL, r.gO] w w') : DiskAt w' d g D := h.disk.kept hk h.nes.1 h.nes.2

theorem Both.next (h : Both w d g r D) {w2 : World} (h2 : DiskAt w2 d g D') (h3 : RefAt w' r D') (k3 : Kp [r.x, r.gL, r.gO] w2 w') : Both w' d g r D' := ⟨h2.kept k3 h.nes.1 h.nes.2, h3⟩
theorem kp_both {w1 w2 w3 : World} (h0 : Kp (allB d g r) w w1) (h1 : Kp [d, g] w1 w2) (h2 : Kp [r.x, r.gL, r.gO] w2 w3) : Kp (allB d g r) w w3 :=
  (h0.trans (h1.drop (by simp))).trans (h2.drop (by simp))
theorem kp_both' {w1 w2 w3 : World} (h0 : Kp (allB d g r) w w1) (h1 : Kp [r.x, r.gL, r.gO] w1 w2) (h2 : Kp [d, g] w2 w3) : Kp (allB d g r) w w3 :=
  (h0.trans (h1.drop (by simp))).trans (h2.drop (by simp))

theorem writeD_len (D : Dk) (i : Int) (t : List UInt8) : (writeD D i t).S.length = D.S.length := by
  unfold writeD
  split
  · rfl
  · split
    · split
      · rw [countD_S]; simp [putS]
      · rfl
    · rfl
theorem syncD_len (D : Dk) : (syncD D).S.length = D.S.length := by
  unfold syncD
  split
  · rfl
  · split
    · rw [countD_S]
    · simp
theorem armD_len (D : Dk) (n : Int) : (armD D n).S.length = D.S.length := by
  unfold armD
  split
  · rfl
  · split <;> rfl
theorem crashD_len (D : Dk) (ks : List Int) : (crashD D ks).S.length = D.S.length := by simp [crashD, tearAll_len]

theorem putsL_len (D : Dk) (a : Nat) (cs : List (List UInt8)) : (putsL D a cs).2.S.length = D.S.length := by
  induction cs generalizing D a with
  | nil => rfl
  | cons c cs ih =>
    unfold putsL
    split
    · rw [ih, writeD_len]
    · exact writeD_len _ _ _
theorem putP_len (D : Dk) (first size i n : Nat) (t : List UInt8) : (putP D first size i n t).2.S.length = D.S.length := by
  unfold putP saveEnd
  split
  · split
    · split
      · show (syncD (writeD (syncD _) _ _)).S.length = _
        rw [syncD_len, writeD_len, syncD_len, putsL_len]
      · show (writeD (syncD _) _ _).S.length = _
        rw [writeD_len, syncD_len, putsL_len]
    · show (syncD _).S.length = _
      rw [syncD_len, putsL_len]
  · exact putsL_len _ _ _
theorem saveP_len (D : Dk) (first size : Nat) (t : List UInt8) : (saveP D first size t).2.S.length = D.S.length := by
  rw [save_as]
  split
  · rfl
  · split
    · rfl
    · split
      · rfl
      · exact putP_len _ _ _ _ _ _
/-- One act. -/
def actP (D : Dk) (first size : Nat) (k i : Int) (t : List UInt8) (ks : List Int) : Dk :=
  if k = 3 then armD D i else if k = 4 then crashD D ks else if k = 5 then syncD (writeD D i (t.take 64)) else (saveP D first size t).2
theorem actP_len (D : Dk) (first size : Nat) (k i : Int) (t : List UInt8) (ks : List Int) : (actP D first size k i t ks).S.length = D.S.length := by
  unfold actP
  split
  · exact armD_len _ _
  · split
    · exact crashD_len _ _
    · split
      · rw [syncD_len, writeD_len]
      · exact saveP_len _ _ _ _
/-- Both disks and both cells, alike. -/
structure Quad (w : World) (d g : Nat) (r : Rx) (x : Cx) (y : Nat) (D : Dk) (first size : Nat) : Prop where
  both : Both w d g r D
  cell : CellAt w x d first size
  ref : RcAt w y r first size
theorem Quad.stays {x : Cx} {y first size : Nat} (h : Quad w d g r x y D first size) (hb : Below w.heap.size w w') : Quad w' d g r x y D first size := ⟨h.both.kept hb, h.cell.stays hb, h.ref.stays hb⟩
/-- The cells are none of the disks' blocks. -/
theorem Quad.part {x : Cx} {y first size : Nat} (h : Quad w d g r x y D first size) : (x.c ∉ allB d g r ∧ x.p ∉ allB d g r ∧ x.q ∉ allB d g r ∧ x.r ∉ allB d g r) ∧ y ∉ allB d g r := by
  have h1 := h.both.disk.obj
  have h2 := h.both.disk.row
  have h3 := h.both.ref.obj
  have h4 := h.both.ref.L
  have h5 := h.both.ref.O
  have key : ∀ (k : Nat) (cs : Array Value) (t : TypeId), w.heap[k]? = some (.cells cs t) → t ≠ 61 → t ≠ 107 → t ≠ 64 → t ≠ 9 → k ∉ allB d g r := by
    intro k cs t hk n1 n2 n3 n4 hm
    simp only [List.mem_cons, List.not_mem_nil, or_false] at hm
    rcases hm with rfl | rfl | rfl | rfl | rfl
    · exact differ hk h1 n1
    · exact differ hk h2 n2
    · exact differ hk h3 n3
    · exact differ hk h4 n4
    · exact differ hk h5 n4
  exact ⟨⟨key _ _ _ h.cell.obj (by decide) (by decide) (by decide) (by decide), key _ _ _ h.cell.hp (by decide) (by decide) (by decide) (by decide), key _ _ _ h.cell.hq (by decide) (by decide) (by decide) (by decide), key _ _ _ h.cell.hr (by decide) (by decide) (by decide) (by decide)⟩, key _ _ _ h.ref.obj (by decide) (by decide) (by decide) (by decide)⟩
theorem Quad.next {x : Cx} {y first size : Nat} {D' : Dk} (h : Quad w d g r x y D first size) (hk : Kp (allB d g r) w w') (hb : Both w' d g r D') : Quad w' d g r x y D' first size := by
  obtain ⟨⟨a, b, c, e⟩, f⟩ := h.part
  exact ⟨hb, h.cell.kept hk a b c e, h.ref.kept hk f⟩
theorem kp_dr {X : List Nat} (h : Kp X w w') (hX : ∀ a ∈ X, a ∈ allB d g r) : Kp (allB d g r) w w' := h.drop (fun a ha => .inl (hX a ha))

end
end Go.Proofs.YtnhnjdldgaaeoaaGreatDoor
