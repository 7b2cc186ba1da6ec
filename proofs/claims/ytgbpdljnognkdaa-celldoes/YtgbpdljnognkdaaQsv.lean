/-
  What the reference's Save does, whole.
-/
import Derived.Test.YtgbpdljnognkdaaQsb
import Derived.Test.YtgbpdljnognkdaaQsc
namespace Go.Proofs.Ytgbpdljnognkdaa
open Go Go.RowKit
set_option maxRecDepth 100000

section
variable {w w' : World} {y : Nat} {r : Rx} {first size : Nat} {D : Dk}
set_option maxHeartbeats 4000000 in
theorem rsave_range (h : RcAt w y r first size) (hr : RefAt w r D) (hroom : first + 2 + 2 * size ≤ D.S.length) (t : List UInt8) (ht : t.length ≤ 64 * size) (hdn : D.down = false) (hN : 1099511627776 < slotN D first size) :
    Calls Try.prog 31 #[.pointer (some ⟨y, 0, none⟩), .string ⟨t.toArray⟩] w fun e w' => e = .returned (.int .i64 3) ∧ RefAt w' r D ∧ Kp [r.x, r.gL, r.gO] w w' := by
  have hts : (⟨t.toArray⟩ : ByteArray).size = t.length := rfl
  have c0 := h.c0
  have c2 := h.c2
  have c3 := hr.c3
  rw [hdn] at c3
  have hf := h.fst
  have hsz := h.sz
  have hlen := hr.len
  have HS0 := hid (fun W hb => rsays_any (h.stays (w' := W) hb) (hr.below hb) 0 (by omega))
  have HS1 := hid (fun W hb => rsays_any (h.stays (w' := W) hb) (hr.below hb) 1 (by omega))
  simp only [Nat.add_zero] at HS0
  have HRb : Hid (∀ W, Below w.heap.size w W → RefAt W r D) := fun W hb => hr.below hb
  have x0 := say_le size (secB D.S first)
  have x1 := say_le size (secB D.S (first + 1))
  unfold slotN at hN
  clear h hr
  generalize sayN size (secB D.S first) = X at *
  generalize sayN size (secB D.S (first + 1)) = Y at *
  obtain ⟨xn, xl⟩ := X
  obtain ⟨yn, yl⟩ := Y
  simp only at HS0 HS1 x0 x1 hN
  have dbig : decide ((64 : Int) * (size : Int) < (t.length : Int)) = false := by simp; omega
  by_cases hc : yn ≤ xn
  · have hx0 : 0 < xn := by omega
    have dnn : decide ((1099511627776 : Int) < (xn : Int) + 1) = true := decide_eq_true (by omega)
    clear hN
    go_enter Try.func31, Try.ntmps31
    go_wp2_with fail
    refine (HS0.out _ (Below.refl _ _)).mono ?_
    rintro e w1 ⟨rfl, hb1⟩
    have HB1 := hid hb1
    clear hb1
    go_wp2_with fail
    refine (HS1.out _ HB1.out).mono ?_
    rintro e w2 ⟨rfl, hb2⟩
    have HB2 : Hid (Below w.heap.size w w2) := HB1.out.trans (hb2.mono HB1.out.size)
    clear hb2 HB1
    go_wp2
    go_ret
    exact ⟨rfl, HRb.out _ HB2.out, Kp.of HB2.out⟩
  · have hxy : xn < yn := by omega
    have dnn : decide ((1099511627776 : Int) < (yn : Int) + 1) = true := decide_eq_true (by omega)
    clear hN hc
    go_enter Try.func31, Try.ntmps31
    go_wp2_with fail
    refine (HS0.out _ (Below.refl _ _)).mono ?_
    rintro e w1 ⟨rfl, hb1⟩
    have HB1 := hid hb1
    clear hb1
    go_wp2_with fail
    refine (HS1.out _ HB1.out).mono ?_
    rintro e w2 ⟨rfl, hb2⟩
    have HB2 : Hid (Below w.heap.size w w2) := HB1.out.trans (hb2.mono HB1.out.size)
    clear hb2 HB1
    go_wp2
    go_ret
    exact ⟨rfl, HRb.out _ HB2.out, Kp.of HB2.out⟩

theorem rsave_any (h : RcAt w y r first size) (hr : RefAt w r D) (hroom : first + 2 + 2 * size ≤ D.S.length) (t : List UInt8) :
    Calls Try.prog 31 #[.pointer (some ⟨y, 0, none⟩), .string ⟨t.toArray⟩] w fun e w' =>
      e = .returned (.int .i64 (saveP D first size t).1) ∧ RefAt w' r (saveP D first size t).2 ∧ Kp [r.x, r.gL, r.gO] w w' := by
  rw [save_as]
  by_cases hbig : 64 * size < t.length
  · rw [if_pos hbig]
    have hts : (⟨t.toArray⟩ : ByteArray).size = t.length := rfl
    have c2 := h.c2
    have hsz := h.sz
    have HR := hid hr
    have dbig : decide ((64 : Int) * (size : Int) < (t.length : Int)) = true := by simp; omega
    clear h hr
    go_enter Try.func31, Try.ntmps31
    go_wp2
    go_ret
    exact ⟨rfl, HR.out, Kp.refl _ _⟩
  · rw [if_neg hbig]
    cases hdn : D.down with
    | true =>
      simp only [if_true]
      have hts : (⟨t.toArray⟩ : ByteArray).size = t.length := rfl
      have c0 := h.c0
      have c2 := h.c2
      have c3 := hr.c3
      rw [hdn] at c3
      have hsz := h.sz
      have HR := hid hr
      have dbig : decide ((64 : Int) * (size : Int) < (t.length : Int)) = false := by simp; omega
      clear h hr
      go_enter Try.func31, Try.ntmps31
      go_wp2
      go_ret
      exact ⟨rfl, HR.out, Kp.refl _ _⟩
    | false =>
      simp only [Bool.false_eq_true, if_false]
      by_cases hN : 1099511627776 < slotN D first size
      · rw [if_pos hN]
        exact rsave_range h hr hroom t (by omega) hdn hN
      · rw [if_neg hN]
        by_cases hA : (sayN size (secB D.S (first + 1))).1 ≤ (sayN size (secB D.S first)).1 ∧ 0 < (sayN size (secB D.S first)).1
        · have e1 : slotTo D first size = 1 := by unfold slotTo; rw [if_pos hA]
          rw [e1]
          exact rsave_A h hr hroom t (by omega) hdn _ (by omega) hA.1 hA.2 (by unfold slotN; rw [Nat.max_eq_left hA.1])
        · have e1 : slotTo D first size = 0 := by unfold slotTo; rw [if_neg hA]
          rw [e1]
          by_cases hB : (sayN size (secB D.S first)).1 < (sayN size (secB D.S (first + 1))).1
          · exact rsave_B h hr hroom t (by omega) hdn _ (by omega) hB (by unfold slotN; rw [Nat.max_eq_right (by omega)])
          · have hx : (sayN size (secB D.S first)).1 = 0 := by omega
            have hy : (sayN size (secB D.S (first + 1))).1 = 0 := by omega
            exact rsave_C h hr hroom t (by omega) hdn _ (by omega) hx hy (by unfold slotN; rw [hx, hy]; rfl)
end
end Go.Proofs.Ytgbpdljnognkdaa
