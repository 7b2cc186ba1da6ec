/-
  What Save does.
-/
import Derived.Test.YtnhnjdldgaaeoaaGreatDoorKpu
namespace Go.Proofs.YtnhnjdldgaaeoaaGreatDoor
open Go Go.RowKit
set_option maxRecDepth 100000

section
variable {w w' : World} {x : Cx} {d g first size : Nat} {D : Dk}

theorem last_le (D : Dk) (first size : Nat) : (lastP D first size).1 ≤ 1 ∧ (lastP D first size).2.1 ≤ 1099511627776 ∧ (lastP D first size).2.2 ≤ 64 * size := by
  have h0 := says_le (D := D) (first := first) (size := size) 0
  have h1 := says_le (D := D) (first := first) (size := size) 1
  unfold lastP
  split
  · simp
  · split
    · exact ⟨Nat.le_refl _, h1.1, h1.2⟩
    · exact ⟨by simp, h0.1, h0.2⟩
theorem last_slot (hd : D.down = false) : slotTo D first size = 1 - (lastP D first size).1 ∧ slotN D first size = (lastP D first size).2.1 + 1 := by
  unfold slotTo slotN lastP saysP
  rw [hd]
  simp only [Bool.false_eq_true, if_false, Nat.add_zero]
  generalize sayN size (secB D.S first) = X
  generalize sayN size (secB D.S (first + 1)) = Y
  by_cases h : X.1 = 0 ∨ X.1 < Y.1
  · rw [if_pos h, if_neg (by omega)]
    exact ⟨rfl, by simp only; omega⟩
  · rw [if_neg h, if_pos (by omega)]
    exact ⟨rfl, by simp only; omega⟩
theorem save_is (t : List UInt8) : saveP D first size t = if 64 * size < t.length then (4, D) else if D.down then (12, D) else
    if (lastP D first size).2.1 = 1099511627776 then (3, D) else putP D first size (1 - (lastP D first size).1) ((lastP D first size).2.1 + 1) t := by
  unfold saveP
  split
  · rfl
  · cases hd : D.down with
    | true => rfl
    | false =>
      simp only [Bool.false_eq_true, if_false]
      obtain ⟨e1, e2⟩ := last_slot (first := first) (size := size) hd
      have h9 := (last_le D first size).2.1
      rw [e1, e2]
      by_cases h : (lastP D first size).2.1 = 1099511627776
      · rw [if_pos h, if_pos (by omega)]
      · rw [if_neg h, if_neg (by omega)]
        rfl

set_option maxHeartbeats 4000000 in
theorem save_any (h : CellAt w x d first size) (hd : DiskAt w d g D) (hr : first + 2 ≤ D.S.length) (t : List UInt8) :
    Calls Tryz.prog 15 #[.pointer (some ⟨x.c, 0, none⟩), .string ⟨t.toArray⟩] w fun e w' =>
      e = .returned (.int .i64 (saveP D first size t).1) ∧ DiskAt w' d g (saveP D first size t).2 ∧ Kp [d, g] w w' := by
  have hts : (⟨t.toArray⟩ : ByteArray).size = t.length := rfl
  have HRm := hid (room_any h)
  have HLa := hid (last_any h hd hr)
  have HPu : Hid (∀ W, Kp [d, g] w W → DiskAt W d g D → t.length ≤ 64 * size → ∀ i n : Nat, i ≤ 1 → n < 9223372036854775808 → Calls Tryz.prog 36 #[.pointer (some ⟨x.c, 0, none⟩), .int .i64 i, .string ⟨t.toArray⟩, .agg #[.int .i64 n, .int .i64 t.length]] W fun e w' =>
      e = .returned (.int .i64 (putP D first size i n t).1) ∧ DiskAt w' d g (putP D first size i n t).2 ∧ Kp [d, g] W w') :=
    fun W hk hdW ht i n hi hn => put_any (h.next hd hk) hdW i hi t ht n hn
  have HDk : Hid (∀ W, Below w.heap.size w W → DiskAt W d g D) := fun W hb => hd.kept (X := []) (Kp.of hb) (by simp) (by simp)
  have HD := hid hd
  have hls := last_le D first size
  have hsz := h.sz
  rw [save_is]
  clear h hd
  generalize lastP D first size = L at *
  obtain ⟨sl, cn, ln⟩ := L
  simp only at HLa hls ⊢
  by_cases hbig : 64 * size < t.length
  · rw [if_pos hbig]
    go_enter Tryz.func15, Tryz.ntmps15
    go_wp2_with fail
    refine HRm.out.mono ?_
    rintro e w1 ⟨rfl, hw1⟩
    subst w1
    go_wp2
    go_ret
    exact ⟨rfl, HD.out, Kp.refl _ _⟩
  · rw [if_neg hbig]
    have hgt : decide ((64 * size : Nat) < (t.length : Int)) = false := by simp; omega
    cases hdn : D.down with
    | true =>
      rw [hdn] at HLa
      simp only [if_true, eDown] at HLa ⊢
      go_enter Tryz.func15, Tryz.ntmps15
      go_wp2_with fail
      refine HRm.out.mono ?_
      rintro e w1 ⟨rfl, hw1⟩
      subst w1
      go_wp2_with fail
      refine HLa.out.mono ?_
      rintro e w1 ⟨rfl, hb1⟩
      have HB1 := hid hb1
      clear hb1
      go_wp2
      go_ret
      exact ⟨rfl, HDk.out _ (below_more HB1.out _ (Nat.le_refl _)), Kp.of (below_more HB1.out _ (Nat.le_refl _))⟩
    | false =>
      rw [hdn] at HLa
      simp only [Bool.false_eq_true, if_false, eDown] at HLa ⊢
      obtain ⟨R, hR⟩ : ∃ R, R = (if cn = 1099511627776 then (3, D) else putP D first size (1 - sl) (cn + 1) t) := ⟨_, rfl⟩
      rw [← hR]
      have HR := hid hR
      clear hR
      go_enter Tryz.func15, Tryz.ntmps15
      go_wp2_with fail
      refine HRm.out.mono ?_
      rintro e w1 ⟨rfl, hw1⟩
      subst w1
      go_wp2_with fail
      refine HLa.out.mono ?_
      rintro e w1 ⟨rfl, hb1⟩
      have HB1 : Hid (Below w.heap.size w (w1.alloc (.cells #[.int .i64 cn, .int .i64 ln] 86))) := below_more hb1 _ (Nat.le_refl _)
      clear hb1 HRm HLa
      by_cases hcn : cn = 1099511627776
      · rw [if_pos hcn] at HR
        subst hcn
        go_wp2
        go_ret
        exact ⟨by rw [HR.out]; rfl, by rw [HR.out]; exact HDk.out _ HB1.out, Kp.of HB1.out⟩
      · rw [if_neg hcn] at HR
        have HP := hid (HPu.out _ (Kp.of HB1.out) (HDk.out _ HB1.out) (by omega) (1 - sl) (cn + 1) (by omega) (by omega))
        have es : ((1 - sl : Nat) : Int) = 1 - (sl : Int) := by omega
        have ec : ((cn + 1 : Nat) : Int) = (cn : Int) + 1 := by omega
        rw [es, ec] at HP
        have hcn2 : ((cn : Int) == 1099511627776) = false := by simp; omega
        go_wp2_with fail
        refine HP.out.mono ?_
        rintro e w2 ⟨rfl, h2, k2⟩
        have HD2 := hid h2
        have HK2 := hid k2
        clear h2 k2
        go_wp2
        go_ret
        exact ⟨by rw [HR.out]; rfl, by rw [HR.out]; exact HD2.out, (Kp.of HB1.out).trans HK2.out⟩
theorem save_nil (w : World) (s : ByteArray) : Calls Tryz.prog 15 #[.pointer none, .string s] w fun e w' => e = .returned (.int .i64 1) ∧ w' = w := by
  go_enter Tryz.func15, Tryz.ntmps15
  go_wp2
  go_ret
  exact ⟨rfl, rfl⟩
end
end Go.Proofs.YtnhnjdldgaaeoaaGreatDoor
