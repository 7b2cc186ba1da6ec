/-
  The reference's disk in memory; what its small functions answer.
-/
import Derived.Test.YtnhnjdldgaaeoaaGreatDoorRfl
import Derived.Test.YtnhnjdldgaaeoaaGreatDoorDlo
namespace Go.Proofs.YtnhnjdldgaaeoaaGreatDoor
open Go Go.RowKit
set_option maxRecDepth 100000

/-- Where a reference's disk lies: its own block, its two rows, their rooms, and what lies behind the sectors in them. -/
structure Rx where
  x : Nat
  gL : Nat
  gO : Nat
  cL : Nat
  cO : Nat
  rL : List Value
  rO : List Value
def oldT (s : Sec) : List UInt8 := s.old.getD []
def nowL (S : List Sec) : List Value := S.map fun s => tx s.now
def oldL (S : List Sec) : List Value := S.map fun s => tx (oldT s)

structure RefAt (w : World) (r : Rx) (D : Dk) : Prop where
  obj : w.heap[r.x]? = some (.cells #[.slice (some ⟨r.gL, 0, none⟩) D.S.length r.cL, .slice (some ⟨r.gO, 0, none⟩) D.S.length r.cO, .int .i64 D.armed, .bool D.down] 64)
  L : w.heap[r.gL]? = some (.cells (nowL D.S ++ r.rL).toArray 9)
  O : w.heap[r.gO]? = some (.cells (oldL D.S ++ r.rO).toArray 9)
  ne : r.gL ≠ r.gO
  ok : AllOk D.S
  len : 1 ≤ D.S.length ∧ D.S.length ≤ 512
  arm : D.armed < 9223372036854775808

section
variable {w w' : World} {r : Rx} {D : Dk}
theorem RefAt.neL (h : RefAt w r D) : r.gL ≠ r.x := by
  intro e
  have := h.obj
  rw [← e, h.L] at this
  simp at this
theorem RefAt.neO (h : RefAt w r D) : r.gO ≠ r.x := by
  intro e
  have := h.obj
  rw [← e, h.O] at this
  simp at this
theorem RefAt.kept (h : RefAt w r D) {X : List Nat} (hk : Kp X w w') (h1 : r.x ∉ X) (h2 : r.gL ∉ X) (h3 : r.gO ∉ X) : RefAt w' r D := ⟨hk.row h.obj h1, hk.row h.L h2, hk.row h.O h3, h.ne, h.ok, h.len, h.arm⟩
theorem RefAt.c0 (h : RefAt w r D) : w.cell? ⟨r.x, 0, none⟩ = some (.slice (some ⟨r.gL, 0, none⟩) D.S.length r.cL) := by rw [cell_of_row _ _ _ _ _ _ h.obj]; rfl
theorem RefAt.c1 (h : RefAt w r D) : w.cell? ⟨r.x, 1, none⟩ = some (.slice (some ⟨r.gO, 0, none⟩) D.S.length r.cO) := by rw [cell_of_row _ _ _ _ _ _ h.obj]; rfl
theorem RefAt.c2 (h : RefAt w r D) : w.cell? ⟨r.x, 2, none⟩ = some (.int .i64 D.armed) := by rw [cell_of_row _ _ _ _ _ _ h.obj]; rfl
theorem RefAt.c3 (h : RefAt w r D) : w.cell? ⟨r.x, 3, none⟩ = some (.bool D.down) := by rw [cell_of_row _ _ _ _ _ _ h.obj]; rfl
theorem RefAt.fz (h : RefAt w r D) (j : Nat) : w.frozen? ⟨r.x, j, none⟩ = false := by simp [World.frozen?, h.obj]
theorem RefAt.fzL (h : RefAt w r D) (j : Nat) : w.frozen? ⟨r.gL, j, none⟩ = false := by simp [World.frozen?, h.L]
theorem RefAt.fzO (h : RefAt w r D) (j : Nat) : w.frozen? ⟨r.gO, j, none⟩ = false := by simp [World.frozen?, h.O]
theorem RefAt.now (h : RefAt w r D) (k : Nat) (hk : k < D.S.length) : w.cell? ⟨r.gL, k, none⟩ = some (tx D.S[k].now) := by
  rw [cell_of_row _ _ _ _ _ _ h.L, List.getElem?_toArray, List.getElem?_append_left (by simpa [nowL] using hk)]
  simp [nowL, hk]
theorem RefAt.old (h : RefAt w r D) (k : Nat) (hk : k < D.S.length) : w.cell? ⟨r.gO, k, none⟩ = some (tx (oldT D.S[k])) := by
  rw [cell_of_row _ _ _ _ _ _ h.O, List.getElem?_toArray, List.getElem?_append_left (by simpa [oldL] using hk)]
  simp [oldL, hk]

def objR (r : Rx) (D : Dk) : Array Value := #[.slice (some ⟨r.gL, 0, none⟩) D.S.length r.cL, .slice (some ⟨r.gO, 0, none⟩) D.S.length r.cO, .int .i64 D.armed, .bool D.down]
theorem RefAt.turned (h : RefAt w r D) (a : Nat) (b : Bool) (ha : a < 9223372036854775808) : RefAt (w.setRow r.x (objR r ⟨D.S, a, b⟩)) r ⟨D.S, a, b⟩ :=
  ⟨setRow_heap _ _ _ _ _ _ h.obj, (setRow_other _ _ _ _ h.neL).trans h.L, (setRow_other _ _ _ _ h.neO).trans h.O, h.ne, h.ok, h.len, ha⟩
theorem RefAt.put2 (h : RefAt w r D) (a : Nat) (b : Bool) : (w.setCell ⟨r.x, 2, none⟩ (.int .i64 a)).setCell ⟨r.x, 3, none⟩ (.bool b) = w.setRow r.x (objR r ⟨D.S, a, b⟩) := by
  rw [setCell_eq_setRow w r.x 2 _ 64 (0, 0) _ h.obj, setCell_eq_setRow _ r.x 3 _ 64 (0, 0) _ (setRow_heap _ _ _ _ _ _ h.obj), setRow_setRow]
  rfl
theorem RefAt.put2' (h : RefAt w r D) (a : Nat) (b : Bool) : (w.setCell ⟨r.x, 3, none⟩ (.bool b)).setCell ⟨r.x, 2, none⟩ (.int .i64 a) = w.setRow r.x (objR r ⟨D.S, a, b⟩) := by
  rw [setCell_eq_setRow w r.x 3 _ 64 (0, 0) _ h.obj, setCell_eq_setRow _ r.x 2 _ 64 (0, 0) _ (setRow_heap _ _ _ _ _ _ h.obj), setRow_setRow]
  rfl
theorem RefAt.put1 (h : RefAt w r D) (a : Nat) : w.setCell ⟨r.x, 2, none⟩ (.int .i64 a) = w.setRow r.x (objR r ⟨D.S, a, D.down⟩) := by
  rw [setCell_eq_setRow w r.x 2 _ 64 (0, 0) _ h.obj]
  rfl

theorem goes_any (h : RefAt w r D) (hd : D.down = false) : Calls Tryz.prog 59 #[.pointer (some ⟨r.x, 0, none⟩)] w fun e w' => e = .returned (.bool (countD D).down) ∧ RefAt w' r (countD D) ∧ Kp [r.x] w w' := by
  have h1 := h.c2
  have hz1 := h.fz 2
  have hz2 := h.fz 3
  have h2 := h.c3
  have H := hid h
  have harm := h.arm
  clear h
  by_cases h0 : D.armed = 0
  · have e0 : Hid (countD D = D) := by show _ = _; unfold countD; rw [if_pos h0]
    rw [e0.out, hd]
    rw [h0] at h1
    go_enter Tryz.func59, Tryz.ntmps59
    go_wp2
    go_ret
    exact ⟨rfl, H.out, Kp.refl _ w⟩
  · have e0 : Hid (countD D = ⟨D.S, D.armed - 1, decide (D.armed = 1)⟩) := by show _ = _; unfold countD; rw [if_neg h0]
    rw [e0.out]
    obtain ⟨a, ha⟩ : ∃ a, D.armed = a + 1 := ⟨D.armed - 1, by omega⟩
    have HP := hid (fun b => H.out.put2 a b)
    have HT := hid (fun b => H.out.turned a b (by omega))
    rw [ha] at h1 ⊢
    have eb : Hid (D.armed = a + 1) := ha
    have hcast : ((a + 1 : Nat) : Int) = (a : Int) + 1 := by omega
    rw [hcast] at h1
    clear ha
    have hne : ((a : Int) + 1 == 0) = false := by simp; omega
    have hwr : wrap64 (a : Int) = (a : Int) := by have h9 : D.armed = a + 1 := eb.out; unfold wrap64; omega
    have hx1 : (a + 1 : Nat) - 1 = a := by omega
    rw [hx1]
    have HPn : Hid (∀ b, RefAt ((w.setCell ⟨r.x, 2, none⟩ (.int .i64 a)).setCell ⟨r.x, 3, none⟩ (.bool b)) r ⟨D.S, a, b⟩) := fun b => by rw [HP.out]; exact HT.out b
    have HKp : Hid (∀ b, Kp [r.x] w ((w.setCell ⟨r.x, 2, none⟩ (.int .i64 a)).setCell ⟨r.x, 3, none⟩ (.bool b))) := fun b => ((Kp.refl _ w).setCell _ _ (by simp)).setCell _ _ (by simp)
    clear hx1 hcast h0 harm
    by_cases ha0 : a = 0
    · subst ha0
      go_enter Tryz.func59, Tryz.ntmps59
      go_wp2
      go_ret
      exact ⟨rfl, HPn.out true, HKp.out true⟩
    · have hb : decide (a + 1 = 1) = false := by simp; omega
      have hne0 : ((a : Int) == 0) = false := by simp; omega
      rw [hb]
      go_enter Tryz.func59, Tryz.ntmps59
      go_wp2
      go_ret
      exact ⟨rfl, HPn.out false, HKp.out false⟩

theorem rarm_any (h : RefAt w r D) (n : Int) (hn : n < 9223372036854775808) : Calls Tryz.prog 12 #[.pointer (some ⟨r.x, 0, none⟩), .int .i64 n] w fun e w' => e = .returned (.int .i64 (armE D n)) ∧ RefAt w' r (armD D n) ∧ Kp [r.x] w w' := by
  have H := hid h
  have h1 := h.c2
  have hz1 := h.fz 2
  have h2 := h.c3
  clear h
  unfold armE armD
  cases hd : D.down with
  | true =>
    rw [hd] at h2
    simp only [if_true]
    go_enter Tryz.func12, Tryz.ntmps12
    go_wp2
    go_ret
    exact ⟨rfl, H.out, Kp.refl _ w⟩
  | false =>
    rw [hd] at h2
    simp only [Bool.false_eq_true, if_false]
    by_cases hn1 : n < 1
    · have d1 : decide (n < 1) = true := by simpa using hn1
      simp only [if_pos hn1]
      go_enter Tryz.func12, Tryz.ntmps12
      go_wp2
      go_ret
      exact ⟨rfl, H.out, Kp.refl _ w⟩
    · have d1 : decide (n < 1) = false := by simpa using hn1
      simp only [if_neg hn1]
      obtain ⟨a, rfl⟩ : ∃ a : Nat, n = a := ⟨n.toNat, by omega⟩
      have HP := hid (H.out.put1 a)
      have HT := hid (H.out.turned a D.down (by omega))
      have hD : Hid (D.down = false) := hd
      go_enter Tryz.func12, Tryz.ntmps12
      go_wp2
      go_ret
      refine ⟨rfl, ?_, (Kp.refl _ w).setCell _ _ (by simp)⟩
      rw [HP.out, ← hD.out]
      exact HT.out

end
end Go.Proofs.YtnhnjdldgaaeoaaGreatDoor
