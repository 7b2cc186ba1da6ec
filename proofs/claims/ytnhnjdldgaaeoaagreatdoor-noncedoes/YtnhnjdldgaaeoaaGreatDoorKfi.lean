/-
  What fill does: a text is written to a field.
-/
import Derived.Test.YtnhnjdldgaaeoaaGreatDoorKla
namespace Go.Proofs.YtnhnjdldgaaeoaaGreatDoor
open Go Go.RowKit
set_option maxRecDepth 100000

theorem chunks_nil : chunks [] = [] := rfl
theorem chunks_cons (u : List UInt8) (h : 0 < u.length) : chunks u = u.take 64 :: chunks (u.drop 64) := by
  have e : (u.length + 63) / 64 = ((u.drop 64).length + 63) / 64 + 1 := by rw [List.length_drop]; omega
  unfold chunks
  rw [e, List.range_succ_eq_map, List.map_cons, List.map_map]
  congr 1
  apply List.map_congr_left
  intro i _
  simp only [Function.comp, List.drop_drop]
  congr 2
  omega
def strLen : Value → Nat
  | .string s => s.size
  | _ => 0

section
variable {w w' : World} {x : Cx} {d g first size : Nat} {D : Dk}

set_option maxHeartbeats 2000000 in
theorem fill_cell (h : CellAt w x d first size) (hd : DiskAt w d g D) (i : Nat) (hi : i ≤ 1) (t : List UInt8) (ht : t.length ≤ 64 * size) :
    Calls Tryz.prog 54 #[.pointer (some ⟨x.c, 0, none⟩), .int .i64 i, .string ⟨t.toArray⟩] w fun e w' =>
      e = .returned (.int .i64 (putsL D (first + 2 + i * size) (chunks t)).1) ∧ DiskAt w' d g (putsL D (first + 2 + i * size) (chunks t)).2 ∧ Kp [d, g] w w' := by
  have HFd := hid (field_any h i hi)
  have HC0 : Hid (∀ W, Kp [d, g] w W → W.cell? ⟨x.c, 0, none⟩ = some (.pointer (some ⟨d, 0, none⟩))) := fun W hk => (h.next hd hk).c0
  have ha0 : first + 2 + i * size ≤ 769 := by
    have h1 := h.fst
    have h2 := h.sz.2
    rcases (by omega : i = 0 ∨ i = 1) with rfl | rfl <;> omega
  have htl : t.length ≤ 16320 := by have := h.sz.2; omega
  generalize first + 2 + i * size = a0 at *
  have HD0 := hid hd
  clear h hd
  have HR0 : ∃ R, R = putsL D a0 (chunks t) := ⟨_, rfl⟩
  obtain ⟨R, hR⟩ := HR0
  rw [← hR]
  have HR := hid hR
  clear hR
  go_enter Tryz.func54, Tryz.ntmps54
  go_wp2_with fail
  refine HFd.out.mono ?_
  rintro e w1 ⟨rfl, nn, hw1⟩
  have HD1 : Hid (DiskAt w1 d g D) := by subst hw1; exact HD0.out.kept (X := []) ((Kp.refl _ _).drewN _) (by simp) (by simp)
  have HK1 : Hid (Kp [d, g] w w1) := by subst hw1; exact (Kp.refl _ _).drewN _
  clear hw1 HD0 HFd
  go_wp2
  go_loopw [2, 7] (fun s k w' => ∃ (u : List UInt8) (a : Nat) (D' : Dk), s = .string ⟨u.toArray⟩ ∧ k = .int .i64 a ∧ u.length ≤ 16320 ∧ a + (u.length + 63) / 64 ≤ 1500 ∧ Hid (R = putsL D' a (chunks u)) ∧ Hid (DiskAt w' d g D') ∧ Hid (Kp [d, g] w w')) (fun s _ _ => strLen s)
  case atStart => exact ⟨t, a0, D, rfl, rfl, htl, by omega, HR, HD1, HK1⟩
  case round =>
    clear HD1 HK1
    obtain ⟨u, a, D', rfl, rfl, hul, hal, HE, HD, HK⟩ := hrel
    have hus : (⟨u.toArray⟩ : ByteArray).size = u.length := rfl
    have c0 := HC0.out _ HK.out
    by_cases h0 : u.length = 0
    · obtain rfl : u = [] := List.eq_nil_of_length_eq_zero h0
      rw [chunks_nil, putsL] at HE
      go_wp2
      go_ret
      exact ⟨by rw [HE.out]; rfl, by rw [HE.out]; exact HD.out, HK.out⟩
    · have hc := chunks_cons u (by omega)
      rw [hc, putsL] at HE
      have HW := hid (write_any HD.out a (u.take 64))
      generalize writeE D' a (u.take 64) = eE at *
      generalize writeD D' a (u.take 64) = D2 at *
      by_cases h64 : u.length ≤ 64
      · have hx1 : (⟨u.toArray⟩ : ByteArray).extract 0 u.length = ⟨(u.take 64).toArray⟩ := by rw [ext_take, List.take_of_length_le (Nat.le_refl _), List.take_of_length_le h64]
        have hx2 : (⟨u.toArray⟩ : ByteArray).extract u.length u.length = ⟨#[]⟩ := by rw [ext_drop _ _ _ rfl, List.drop_eq_nil_of_le (Nat.le_refl _)]
        have hps : (⟨(u.take 64).toArray⟩ : ByteArray).size = u.length := by show (u.take 64).length = _; rw [List.take_of_length_le h64]
        rw [List.drop_eq_nil_of_le h64] at HE
        by_cases hE : eE = 0
        · rw [if_pos hE] at HE
          subst hE
          go_wp2_with fail
          refine HW.out.mono ?_
          rintro e w2 ⟨rfl, h2, k2⟩
          have HD2 := hid h2
          have HK2 := hid (HK.out.trans k2)
          clear h2 k2 HD HK HW
          go_wp2
          go_roundw
          case rel => exact ⟨[], a + 1, D2, rfl, by go_num, by simp, by simp; omega, HE, HD2, HK2⟩
          case measure => simp [strLen]; omega
        · rw [if_neg hE] at HE
          go_wp2_with fail
          refine HW.out.mono ?_
          rintro e w2 ⟨rfl, h2, k2⟩
          have HD2 := hid h2
          have HK2 := hid (HK.out.trans k2)
          clear h2 k2 HD HK HW
          go_wp2
          go_ret
          exact ⟨by rw [HE.out]; rfl, by rw [HE.out]; exact HD2.out, HK2.out⟩
      · have hx1 : (⟨u.toArray⟩ : ByteArray).extract 0 64 = ⟨(u.take 64).toArray⟩ := ext_take _ _
        have hx2 : (⟨u.toArray⟩ : ByteArray).extract 64 u.length = ⟨(u.drop 64).toArray⟩ := ext_drop _ _ _ rfl
        have hps : (⟨(u.take 64).toArray⟩ : ByteArray).size = 64 := by show (u.take 64).length = _; simp; omega
        by_cases hE : eE = 0
        · rw [if_pos hE] at HE
          subst hE
          go_wp2_with fail
          refine HW.out.mono ?_
          rintro e w2 ⟨rfl, h2, k2⟩
          have HD2 := hid h2
          have HK2 := hid (HK.out.trans k2)
          clear h2 k2 HD HK HW
          go_wp2
          go_roundw
          case rel => exact ⟨u.drop 64, a + 1, D2, rfl, by go_num, by simp; omega, by simp; omega, HE, HD2, HK2⟩
          case measure => simp [strLen]; show (u.drop 64).length < u.length; simp; omega
        · rw [if_neg hE] at HE
          go_wp2_with fail
          refine HW.out.mono ?_
          rintro e w2 ⟨rfl, h2, k2⟩
          have HD2 := hid h2
          have HK2 := hid (HK.out.trans k2)
          clear h2 k2 HD HK HW
          go_wp2
          go_ret
          exact ⟨by rw [HE.out]; rfl, by rw [HE.out]; exact HD2.out, HK2.out⟩
end
end Go.Proofs.YtnhnjdldgaaeoaaGreatDoor
