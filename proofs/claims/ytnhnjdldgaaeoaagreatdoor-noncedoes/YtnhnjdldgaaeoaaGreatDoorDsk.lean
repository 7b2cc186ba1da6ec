/-
  A disk in memory; what its small functions answer.
-/
import Derived.Test.YtnhnjdldgaaeoaaGreatDoorTer
namespace Go.Proofs.YtnhnjdldgaaeoaaGreatDoor
open Go Go.RowKit
set_option maxRecDepth 100000

/-- A disk: its sectors, how many writes are left, is it down. -/
structure Dk where
  S : List Sec
  armed : Nat
  down : Bool

structure DiskAt (w : World) (d g : Nat) (D : Dk) : Prop where
  obj : w.heap[d]? = some (.cells #[.slice (some ⟨g, 0, none⟩) D.S.length D.S.length, .int .i64 D.armed, .bool D.down] 61)
  row : w.heap[g]? = some (.cells (flatS D.S).toArray 107)
  ok : AllOk D.S
  len : 1 ≤ D.S.length ∧ D.S.length ≤ 512
  arm : D.armed < 9223372036854775808

section
variable {w w' : World} {d g : Nat} {D : Dk}
theorem DiskAt.ne (h : DiskAt w d g D) : g ≠ d := by
  rintro rfl
  have := h.obj.symm.trans h.row
  simp at this
theorem DiskAt.kept (h : DiskAt w d g D) {X : List Nat} (hk : Kp X w w') (h1 : d ∉ X) (h2 : g ∉ X) : DiskAt w' d g D := ⟨hk.row h.obj h1, hk.row h.row h2, h.ok, h.len, h.arm⟩
theorem DiskAt.c0 (h : DiskAt w d g D) : w.cell? ⟨d, 0, none⟩ = some (.slice (some ⟨g, 0, none⟩) D.S.length D.S.length) := by rw [cell_of_row _ _ _ _ _ _ h.obj]; rfl
theorem DiskAt.c1 (h : DiskAt w d g D) : w.cell? ⟨d, 1, none⟩ = some (.int .i64 D.armed) := by rw [cell_of_row _ _ _ _ _ _ h.obj]; rfl
theorem DiskAt.c2 (h : DiskAt w d g D) : w.cell? ⟨d, 2, none⟩ = some (.bool D.down) := by rw [cell_of_row _ _ _ _ _ _ h.obj]; rfl
theorem DiskAt.fz (h : DiskAt w d g D) (j : Nat) : w.frozen? ⟨d, j, none⟩ = false := by simp [World.frozen?, h.obj]

/-- The answer of a disk that is down, or not. -/
def eDown (b : Bool) : Int := if b then 12 else 0

theorem wrong_any (h : DiskAt w d g D) : Calls Tryz.prog 31 #[.pointer (some ⟨d, 0, none⟩)] w fun e w' => e = .returned (.int .i64 (eDown D.down)) ∧ w' = w := by
  have h2 := h.c2
  clear h
  cases hd : D.down with
  | true =>
    rw [hd] at h2
    go_enter Tryz.func31, Tryz.ntmps31
    go_wp2
    go_ret
    exact ⟨rfl, rfl⟩
  | false =>
    rw [hd] at h2
    go_enter Tryz.func31, Tryz.ntmps31
    go_wp2
    go_ret
    exact ⟨rfl, rfl⟩
theorem wrong_nil (w : World) : Calls Tryz.prog 31 #[.pointer none] w fun e w' => e = .returned (.int .i64 1) ∧ w' = w := by
  go_enter Tryz.func31, Tryz.ntmps31
  go_wp2
  go_ret
  exact ⟨rfl, rfl⟩
theorem down_any (h : DiskAt w d g D) : Calls Tryz.prog 25 #[.pointer (some ⟨d, 0, none⟩)] w fun e w' => e = .returned (.bool D.down) ∧ w' = w := by
  have h2 := h.c2
  clear h
  go_enter Tryz.func25, Tryz.ntmps25
  go_wp2
  go_ret
  exact ⟨rfl, rfl⟩
theorem down_nil (w : World) : Calls Tryz.prog 25 #[.pointer none] w fun e w' => e = .returned (.bool false) ∧ w' = w := by
  go_enter Tryz.func25, Tryz.ntmps25
  go_wp2
  go_ret
  exact ⟨rfl, rfl⟩
theorem sectors_any (h : DiskAt w d g D) : Calls Tryz.prog 24 #[.pointer (some ⟨d, 0, none⟩)] w fun e w' => e = .returned (.int .i64 D.S.length) ∧ w' = w := by
  have h0 := h.c0
  clear h
  go_enter Tryz.func24, Tryz.ntmps24
  go_wp2
  go_ret
  exact ⟨rfl, rfl⟩
theorem sectors_nil (w : World) : Calls Tryz.prog 24 #[.pointer none] w fun e w' => e = .returned (.int .i64 0) ∧ w' = w := by
  go_enter Tryz.func24, Tryz.ntmps24
  go_wp2
  go_ret
  exact ⟨rfl, rfl⟩
/-- Is there a sector i? -/
def hasB (n : Nat) (i : Int) : Bool := decide (0 ≤ i) && decide (i < n)
theorem has_any (h : DiskAt w d g D) (i : Int) : Calls Tryz.prog 63 #[.pointer (some ⟨d, 0, none⟩), .int .i64 i] w fun e w' => e = .returned (.bool (hasB D.S.length i)) ∧ w' = w := by
  have h0 := h.c0
  clear h
  unfold hasB
  by_cases hi : 0 ≤ i
  · have d0 : decide (0 ≤ i) = true := by simpa using hi
    by_cases hl : i < (D.S.length : Int)
    · have d1 : decide (i < (D.S.length : Int)) = true := by simpa using hl
      rw [d0, d1]
      go_enter Tryz.func63, Tryz.ntmps63
      go_wp2
      go_ret
      exact ⟨rfl, rfl⟩
    · have d1 : decide (i < (D.S.length : Int)) = false := by simpa using hl
      rw [d0, d1]
      go_enter Tryz.func63, Tryz.ntmps63
      go_wp2
      go_ret
      exact ⟨rfl, rfl⟩
  · have d0 : decide (0 ≤ i) = false := by simpa using hi
    rw [d0, Bool.false_and]
    go_enter Tryz.func63, Tryz.ntmps63
    go_wp2
    go_ret
    exact ⟨rfl, rfl⟩

/-- A write is counted. -/
def countD (D : Dk) : Dk := if D.armed = 0 then D else ⟨D.S, D.armed - 1, decide (D.armed = 1)⟩
theorem countD_S (D : Dk) : (countD D).S = D.S := by unfold countD; split <;> rfl
def objC (D : Dk) (g : Nat) : Array Value := #[.slice (some ⟨g, 0, none⟩) D.S.length D.S.length, .int .i64 D.armed, .bool D.down]
theorem DiskAt.turned (h : DiskAt w d g D) (a : Nat) (b : Bool) (ha : a < 9223372036854775808) : DiskAt (w.setRow d (objC ⟨D.S, a, b⟩ g)) d g ⟨D.S, a, b⟩ :=
  ⟨setRow_heap _ _ _ _ _ _ h.obj, (setRow_other _ _ _ _ h.ne).trans h.row, h.ok, h.len, ha⟩
theorem DiskAt.put2 (h : DiskAt w d g D) (a : Nat) (b : Bool) : (w.setCell ⟨d, 1, none⟩ (.int .i64 a)).setCell ⟨d, 2, none⟩ (.bool b) = w.setRow d (objC ⟨D.S, a, b⟩ g) := by
  rw [setCell_eq_setRow w d 1 _ 61 (0, 0) _ h.obj, setCell_eq_setRow _ d 2 _ 61 (0, 0) _ (setRow_heap _ _ _ _ _ _ h.obj), setRow_setRow]
  rfl
theorem DiskAt.put2' (h : DiskAt w d g D) (a : Nat) (b : Bool) : (w.setCell ⟨d, 2, none⟩ (.bool b)).setCell ⟨d, 1, none⟩ (.int .i64 a) = w.setRow d (objC ⟨D.S, a, b⟩ g) := by
  rw [setCell_eq_setRow w d 2 _ 61 (0, 0) _ h.obj, setCell_eq_setRow _ d 1 _ 61 (0, 0) _ (setRow_heap _ _ _ _ _ _ h.obj), setRow_setRow]
  rfl
theorem DiskAt.put1 (h : DiskAt w d g D) (a : Nat) : w.setCell ⟨d, 1, none⟩ (.int .i64 a) = w.setRow d (objC ⟨D.S, a, D.down⟩ g) := by
  rw [setCell_eq_setRow w d 1 _ 61 (0, 0) _ h.obj]
  rfl

theorem count_any (h : DiskAt w d g D) (hd : D.down = false) : Calls Tryz.prog 70 #[.pointer (some ⟨d, 0, none⟩)] w fun e w' => e = .returned (.int .i64 (eDown (countD D).down)) ∧ DiskAt w' d g (countD D) ∧ Kp [d] w w' := by
  have h1 := h.c1
  have hz1 := h.fz 1
  have hz2 := h.fz 2
  have h2 := h.c2
  have H := hid h
  have harm := h.arm
  clear h
  by_cases h0 : D.armed = 0
  · have e0 : Hid (countD D = D) := by show _ = _; unfold countD; rw [if_pos h0]
    rw [e0.out, hd]
    rw [h0] at h1
    go_enter Tryz.func70, Tryz.ntmps70
    go_wp2
    go_ret
    exact ⟨rfl, H.out, Kp.refl _ w⟩
  · have e0 : Hid (countD D = ⟨D.S, D.armed - 1, decide (D.armed = 1)⟩) := by show _ = _; unfold countD; rw [if_neg h0]
    rw [e0.out]
    obtain ⟨a, ha⟩ : ∃ a, D.armed = a + 1 := ⟨D.armed - 1, by omega⟩
    have HP := hid (fun b => H.out.put2 a b)
    have HT := hid (fun b => H.out.turned a b (by omega))
    rw [ha] at h1 ⊢
    have eb : Hid (D.armed = a + 1) := ha
    have hcast : ((a + 1 : Nat) : Int) = (a : Int) + 1 := by omega
    rw [hcast] at h1
    clear ha
    have hne : ((a : Int) + 1 == 0) = false := by simp; omega
    have hwr : wrap64 (a : Int) = (a : Int) := by have h9 : D.armed = a + 1 := eb.out; unfold wrap64; omega
    have hx1 : (a + 1 : Nat) - 1 = a := by omega
    rw [hx1]
    have HPn : Hid (∀ b, DiskAt ((w.setCell ⟨d, 1, none⟩ (.int .i64 a)).setCell ⟨d, 2, none⟩ (.bool b)) d g ⟨D.S, a, b⟩) := fun b => by rw [HP.out]; exact HT.out b
    have HKp : Hid (∀ b, Kp [d] w ((w.setCell ⟨d, 1, none⟩ (.int .i64 a)).setCell ⟨d, 2, none⟩ (.bool b))) := fun b => ((Kp.refl _ w).setCell _ _ (by simp)).setCell _ _ (by simp)
    clear hx1 hcast h0 harm
    by_cases ha0 : a = 0
    · subst ha0
      go_enter Tryz.func70, Tryz.ntmps70
      go_wp2
      go_ret
      exact ⟨rfl, HPn.out true, HKp.out true⟩
    · have hb : decide (a + 1 = 1) = false := by simp; omega
      have hne0 : ((a : Int) == 0) = false := by simp; omega
      rw [hb]
      go_enter Tryz.func70, Tryz.ntmps70
      go_wp2
      go_ret
      exact ⟨rfl, HPn.out false, HKp.out false⟩
end
end Go.Proofs.YtnhnjdldgaaeoaaGreatDoor
