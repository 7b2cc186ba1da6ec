/-
  The law LayBack, walked.
-/
import Derived.Test.YtldhhbkdhcidcaaDoorBack
namespace Go.Proofs.YtldhhbkdhcidcaaDoor
open Go.RowKit Go.Joins
set_option maxRecDepth 100000

/-- The struct in its box: block g. -/
def BoxAt (w : World) (g : Nat) (A B : ByteArray) (N : Int) (S : ByteArray) (l t : Value) : Prop :=
  g < w.heap.size ∧ w.cell? ⟨g, 0, none⟩ = some (.string A) ∧ w.cell? ⟨g, 1, none⟩ = some (.string B) ∧ w.cell? ⟨g, 2, none⟩ = some (.int .i64 N) ∧ w.cell? ⟨g, 3, none⟩ = some (.string S) ∧ w.cell? ⟨g, 4, none⟩ = some l ∧ w.cell? ⟨g, 5, none⟩ = some t
theorem BoxAt.stays {w w' : World} {g : Nat} {A B : ByteArray} {N : Int} {S : ByteArray} {l t : Value} (h : BoxAt w g A B N S l t) (hb : Below w.heap.size w w') : BoxAt w' g A B N S l t := by
  obtain ⟨h0, h1, h2, h3, h4, h5, h6⟩ := h
  have hc : ∀ j, w'.cell? ⟨g, j, none⟩ = w.cell? ⟨g, j, none⟩ := fun j => hb.cell (p := ⟨g, j, none⟩) h0
  exact ⟨Nat.lt_of_lt_of_le h0 hb.size, (hc 0).trans h1, (hc 1).trans h2, (hc 2).trans h3, (hc 3).trans h4, (hc 4).trans h5, (hc 5).trans h6⟩

theorem size_mk (l : List UInt8) : (⟨l.toArray⟩ : ByteArray).size = l.length := by simp [ByteArray.size]

theorem nOut_len {zs : List Int} (h : ∀ z ∈ zs, -9223372036854775808 ≤ z ∧ z ≤ 9223372036854775807) : (nOut zs).length ≤ 9000000 := by
  unfold nOut
  split
  · have := numsBody_len zs h
    simp; omega
  · simp
theorem xErr_zero {Xs : List ByteArray} (h : xErr Xs = 0) : Xs.length ≤ 512 ∧ ∀ x ∈ Xs, x.size ≤ 16384 := by
  unfold xErr at h
  split at h
  · rename_i h5
    refine ⟨h5, fun x hx => ?_⟩
    rcases Nat.lt_or_ge 16384 x.size with hb | hb
    · rw [(textsOut_bad hx hb).2] at h; omega
    · exact hb
  · omega
theorem xOut_len {Xs : List ByteArray} (h5 : Xs.length ≤ 512) (h : ∀ x ∈ Xs, x.size ≤ 16384) : (xOut Xs).length ≤ 9000000 := by
  unfold xOut
  rw [if_pos h5, (textsOut_ok h).1]
  have := textsBody_len Xs h
  simp; omega

set_option maxHeartbeats 4000000 in
theorem layBack_small (A B : ByteArray) (N : Int) (hN : -9223372036854775808 ≤ N ∧ N ≤ 9223372036854775807) (S : ByteArray) (a1 : Option Addr) (len1 cap1 : Nat) (zs : List Int) (a2 : Option Addr) (len2 cap2 : Nat) (Xs : List ByteArray) (hA : A.size ≤ 5000) (hB : B.size ≤ 5000) (w : World) (ht : Tabs w) (hin : IntsAt w a1 len1 zs) (htx : TextsAt w a2 len2 Xs) :
    Calls Tryd.prog 6 #[.agg #[.string A, .string B, .int .i64 N, .string S, .slice a1 len1 cap1, .slice a2 len2 cap2]] w fun e w' => e = .returned (.bool true) ∧ Below w.heap.size w w' := by
  have dA : decide (5000 < (A.size : Int)) = false := by simp; omega
  have dB : decide (5000 < (B.size : Int)) = false := by simp; omega
  have hil := hin.1
  have hxl := htx.1
  have hzs := hin.2.1
  have hitl := itoa_len N hN.1 hN.2
  have HX0 : Hid (BoxAt (w.alloc (.cells #[.string A, .string B, .int .i64 N, .string S, .slice a1 len1 cap1, .slice a2 len2 cap2] 45)) w.heap.size A B N S (.slice a1 len1 cap1) (.slice a2 len2 cap2)) := by
    refine ⟨by simp, ?_, ?_, ?_, ?_, ?_, ?_⟩ <;> simp
  have HB0 : Hid (Below w.heap.size w (w.alloc (.cells #[.string A, .string B, .int .i64 N, .string S, .slice a1 len1 cap1, .slice a2 len2 cap2] 45))) := below_alloc1 w _
  go_enter Tryd.func6, Tryd.ntmps6
  go_wp2_with fail
  refine (awake_any _ (ht.stays HB0.out)).mono ?_
  rintro e w1 ⟨rfl, hb1⟩
  have HX : Hid (BoxAt w1 w.heap.size A B N S (.slice a1 len1 cap1) (.slice a2 len2 cap2)) := HX0.out.stays hb1
  have HB : Hid (Below w.heap.size w w1) := below_two HB0.out hb1
  clear hb1 HX0 HB0
  obtain ⟨-, f0, f1, f2, f3, f4, f5⟩ := HX.out
  go_wp2_with fail
  refine (number_any N hN.1 hN.2 _ (ht.stays HB.out)).mono ?_
  rintro e w2 ⟨rfl, hb2⟩
  have HX : Hid (BoxAt w2 w.heap.size A B N S (.slice a1 len1 cap1) (.slice a2 len2 cap2)) := HX.out.stays hb2
  have HB : Hid (Below w.heap.size w w2) := below_two HB.out hb2
  clear hb2
  clear f0 f1 f2 f3 f4 f5
  obtain ⟨-, f0, f1, f2, f3, f4, f5⟩ := HX.out
  have hlen1 : (Lib.itoa N ++ [59]).length ≤ 22 := by rw [List.length_append]; simp; omega
  have hsm0 : (⟨(Lib.itoa N ++ [59]).toArray⟩ : ByteArray).size = (Lib.itoa N ++ [59]).length := size_mk _
  go_wp2_with fail
  refine (rn_back A B N hN.1 hN.2 hA hB _ (ht.stays HB.out)).mono ?_
  rintro e w3 ⟨rfl, hb3⟩
  have HX : Hid (BoxAt w3 w.heap.size A B N S (.slice a1 len1 cap1) (.slice a2 len2 cap2)) := HX.out.stays hb3
  have HB : Hid (Below w.heap.size w w3) := below_two HB.out hb3
  clear hb3
  clear f0 f1 f2 f3 f4 f5
  obtain ⟨-, f0, f1, f2, f3, f4, f5⟩ := HX.out
  generalize hol0 : (Lib.itoa N ++ [59]).length = ol0 at *
  have hsub0 : ((A.size : Int) + (ol0 : Int) - (A.size : Int) != (ol0 : Int)) = false := by rw [show (A.size : Int) + (ol0 : Int) - (A.size : Int) = ol0 by omega]; simp
  by_cases hS : S.size ≤ 16384
  · have HL : Hid ((textB S.data.toList).length ≤ 9000000) := Nat.le_trans (textB_len _ (by rw [size_list]; exact hS)) (by decide)
    have hll := HL.out
    have hsm : (⟨(textB S.data.toList).toArray⟩ : ByteArray).size = (textB S.data.toList).length := size_mk _
    clear f0 f1 f2 f3 f4 f5
    obtain ⟨-, f0, f1, f2, f3, f4, f5⟩ := HX.out
    go_wp2_with fail
    refine (text_ok S hS _ (ht.stays HB.out)).mono ?_
    rintro e w4 ⟨rfl, hb4⟩
    have HX : Hid (BoxAt w4 w.heap.size A B N S (.slice a1 len1 cap1) (.slice a2 len2 cap2)) := HX.out.stays hb4
    have HB : Hid (Below w.heap.size w w4) := below_two HB.out hb4
    clear hb4
    clear f0 f1 f2 f3 f4 f5
    obtain ⟨-, f0, f1, f2, f3, f4, f5⟩ := HX.out
    go_wp2_with fail
    refine (rt_back A B S hS hA hB _ (ht.stays HB.out)).mono ?_
    rintro e w5 ⟨rfl, hb5⟩
    have HX : Hid (BoxAt w5 w.heap.size A B N S (.slice a1 len1 cap1) (.slice a2 len2 cap2)) := HX.out.stays hb5
    have HB : Hid (Below w.heap.size w w5) := below_two HB.out hb5
    clear hb5
    clear f0 f1 f2 f3 f4 f5
    obtain ⟨-, f0, f1, f2, f3, f4, f5⟩ := HX.out
    generalize hol : (textB S.data.toList).length = ol at *
    have hsub : ((A.size : Int) + (ol : Int) - (A.size : Int) != (ol : Int)) = false := by rw [show (A.size : Int) + (ol : Int) - (A.size : Int) = ol by omega]; simp
    clear f0 f1 f2 f3 f4 f5
    obtain ⟨-, f0, f1, f2, f3, f4, f5⟩ := HX.out
    go_wp2_with fail
    refine (numbers14 a1 len1 cap1 zs _ (hin.stays HB.out) (ht.stays HB.out)).mono ?_
    rintro e w6 ⟨rfl, hb6⟩
    have HX : Hid (BoxAt w6 w.heap.size A B N S (.slice a1 len1 cap1) (.slice a2 len2 cap2)) := HX.out.stays hb6
    have HB : Hid (Below w.heap.size w w6) := below_two HB.out hb6
    clear hb6
    clear f0 f1 f2 f3 f4 f5
    obtain ⟨-, f0, f1, f2, f3, f4, f5⟩ := HX.out
    by_cases hn5 : len1 ≤ 512
    · have hne : ((nErr zs : Int) == 0) = true := by unfold nErr; rw [hil, if_pos hn5]; rfl
      have HL : Hid ((nOut zs).length ≤ 9000000) := nOut_len hzs
      have hll := HL.out
      have hsm : (⟨(nOut zs).toArray⟩ : ByteArray).size = (nOut zs).length := size_mk _
      go_wp2_with fail
      refine (rln_back A B zs hzs (by omega) hA hB _ (ht.stays HB.out)).mono ?_
      rintro e w7 ⟨ao, cp, rfl, hia, hb7⟩
      have HX : Hid (BoxAt w7 w.heap.size A B N S (.slice a1 len1 cap1) (.slice a2 len2 cap2)) := HX.out.stays hb7
      have HB : Hid (Below w.heap.size w w7) := below_two HB.out hb7
      have HIA : Hid (IntsAt w7 ao zs.length zs) := hia
      clear hb7 hia
      generalize hol : (nOut zs).length = ol at *
      have hsub : ((A.size : Int) + (ol : Int) - (A.size : Int) != (ol : Int)) = false := by rw [show (A.size : Int) + (ol : Int) - (A.size : Int) = ol by omega]; simp
      clear f0 f1 f2 f3 f4 f5
      obtain ⟨-, f0, f1, f2, f3, f4, f5⟩ := HX.out
      go_wp2_with fail
      refine (ints_same ao a1 len1 cp cap1 zs _ (by have := HIA.out; rwa [hil] at this) (hin.stays HB.out) hn5).mono ?_
      rintro e w8 ⟨rfl, hb8⟩
      have HX : Hid (BoxAt w8 w.heap.size A B N S (.slice a1 len1 cap1) (.slice a2 len2 cap2)) := HX.out.stays hb8
      have HB : Hid (Below w.heap.size w w8) := below_two HB.out hb8
      clear hb8
      clear f0 f1 f2 f3 f4 f5
      obtain ⟨-, f0, f1, f2, f3, f4, f5⟩ := HX.out
      go_wp2_with fail
      refine (texts16 a2 len2 cap2 Xs _ (htx.stays HB.out) (ht.stays HB.out)).mono ?_
      rintro e w9 ⟨rfl, hb9⟩
      have HX : Hid (BoxAt w9 w.heap.size A B N S (.slice a1 len1 cap1) (.slice a2 len2 cap2)) := HX.out.stays hb9
      have HB : Hid (Below w.heap.size w w9) := below_two HB.out hb9
      clear hb9
      clear f0 f1 f2 f3 f4 f5
      obtain ⟨-, f0, f1, f2, f3, f4, f5⟩ := HX.out
      by_cases hx0 : xErr Xs = 0
      · have hxe : ((xErr Xs : Int) == 0) = true := by rw [hx0]; rfl
        have HOK : Hid (Xs.length ≤ 512 ∧ ∀ x ∈ Xs, x.size ≤ 16384) := xErr_zero hx0
        have HL : Hid ((xOut Xs).length ≤ 9000000) := xOut_len HOK.out.1 HOK.out.2
        have hll := HL.out
        have hsm : (⟨(xOut Xs).toArray⟩ : ByteArray).size = (xOut Xs).length := size_mk _
        clear hx0
        go_wp2_with fail
        refine (rlt_back A B Xs HOK.out.2 HOK.out.1 hA hB _ (ht.stays HB.out)).mono ?_
        rintro e w10 ⟨ao, cp, rfl, hta, hb10⟩
        have HX : Hid (BoxAt w10 w.heap.size A B N S (.slice a1 len1 cap1) (.slice a2 len2 cap2)) := HX.out.stays hb10
        have HB : Hid (Below w.heap.size w w10) := below_two HB.out hb10
        have HTA : Hid (TextsAt w10 ao Xs.length Xs) := hta
        clear hb10 hta
        generalize hol : (xOut Xs).length = ol at *
        have hsub : ((A.size : Int) + (ol : Int) - (A.size : Int) != (ol : Int)) = false := by rw [show (A.size : Int) + (ol : Int) - (A.size : Int) = ol by omega]; simp
        clear f0 f1 f2 f3 f4 f5
        obtain ⟨-, f0, f1, f2, f3, f4, f5⟩ := HX.out
        go_wp2_with fail
        refine (texts_same ao a2 len2 cp cap2 Xs _ (by have := HTA.out; rwa [hxl] at this) (htx.stays HB.out) (by have := HOK.out.1; omega)).mono ?_
        rintro e w11 ⟨rfl, hb11⟩
        have HB : Hid (Below w.heap.size w w11) := below_two HB.out hb11
        clear hb11
        go_wp2
        go_ret
        exact ⟨rfl, HB.out⟩
      · have hxe : ((xErr Xs : Int) == 0) = false := by rw [beq_eq_false_iff_ne]; omega
        go_wp2
        go_ret
        exact ⟨rfl, HB.out⟩
    · have hne : ((nErr zs : Int) == 0) = false := by unfold nErr; rw [hil, if_neg (by omega)]; rfl
      clear f0 f1 f2 f3 f4 f5
      obtain ⟨-, f0, f1, f2, f3, f4, f5⟩ := HX.out
      go_wp2_with fail
      refine (texts16 a2 len2 cap2 Xs _ (htx.stays HB.out) (ht.stays HB.out)).mono ?_
      rintro e w9 ⟨rfl, hb9⟩
      have HX : Hid (BoxAt w9 w.heap.size A B N S (.slice a1 len1 cap1) (.slice a2 len2 cap2)) := HX.out.stays hb9
      have HB : Hid (Below w.heap.size w w9) := below_two HB.out hb9
      clear hb9
      clear f0 f1 f2 f3 f4 f5
      obtain ⟨-, f0, f1, f2, f3, f4, f5⟩ := HX.out
      by_cases hx0 : xErr Xs = 0
      · have hxe : ((xErr Xs : Int) == 0) = true := by rw [hx0]; rfl
        have HOK : Hid (Xs.length ≤ 512 ∧ ∀ x ∈ Xs, x.size ≤ 16384) := xErr_zero hx0
        have HL : Hid ((xOut Xs).length ≤ 9000000) := xOut_len HOK.out.1 HOK.out.2
        have hll := HL.out
        have hsm : (⟨(xOut Xs).toArray⟩ : ByteArray).size = (xOut Xs).length := size_mk _
        clear hx0
        go_wp2_with fail
        refine (rlt_back A B Xs HOK.out.2 HOK.out.1 hA hB _ (ht.stays HB.out)).mono ?_
        rintro e w10 ⟨ao, cp, rfl, hta, hb10⟩
        have HX : Hid (BoxAt w10 w.heap.size A B N S (.slice a1 len1 cap1) (.slice a2 len2 cap2)) := HX.out.stays hb10
        have HB : Hid (Below w.heap.size w w10) := below_two HB.out hb10
        have HTA : Hid (TextsAt w10 ao Xs.length Xs) := hta
        clear hb10 hta
        generalize hol : (xOut Xs).length = ol at *
        have hsub : ((A.size : Int) + (ol : Int) - (A.size : Int) != (ol : Int)) = false := by rw [show (A.size : Int) + (ol : Int) - (A.size : Int) = ol by omega]; simp
        clear f0 f1 f2 f3 f4 f5
        obtain ⟨-, f0, f1, f2, f3, f4, f5⟩ := HX.out
        go_wp2_with fail
        refine (texts_same ao a2 len2 cp cap2 Xs _ (by have := HTA.out; rwa [hxl] at this) (htx.stays HB.out) (by have := HOK.out.1; omega)).mono ?_
        rintro e w11 ⟨rfl, hb11⟩
        have HB : Hid (Below w.heap.size w w11) := below_two HB.out hb11
        clear hb11
        go_wp2
        go_ret
        exact ⟨rfl, HB.out⟩
      · have hxe : ((xErr Xs : Int) == 0) = false := by rw [beq_eq_false_iff_ne]; omega
        go_wp2
        go_ret
        exact ⟨rfl, HB.out⟩
  · clear f0 f1 f2 f3 f4 f5
    obtain ⟨-, f0, f1, f2, f3, f4, f5⟩ := HX.out
    go_wp2_with fail
    refine (text_big S (by omega) _).mono ?_
    rintro e w4 ⟨rfl, hw4⟩
    subst w4
    clear f0 f1 f2 f3 f4 f5
    obtain ⟨-, f0, f1, f2, f3, f4, f5⟩ := HX.out
    go_wp2_with fail
    refine (numbers14 a1 len1 cap1 zs _ (hin.stays HB.out) (ht.stays HB.out)).mono ?_
    rintro e w6 ⟨rfl, hb6⟩
    have HX : Hid (BoxAt w6 w.heap.size A B N S (.slice a1 len1 cap1) (.slice a2 len2 cap2)) := HX.out.stays hb6
    have HB : Hid (Below w.heap.size w w6) := below_two HB.out hb6
    clear hb6
    clear f0 f1 f2 f3 f4 f5
    obtain ⟨-, f0, f1, f2, f3, f4, f5⟩ := HX.out
    by_cases hn5 : len1 ≤ 512
    · have hne : ((nErr zs : Int) == 0) = true := by unfold nErr; rw [hil, if_pos hn5]; rfl
      have HL : Hid ((nOut zs).length ≤ 9000000) := nOut_len hzs
      have hll := HL.out
      have hsm : (⟨(nOut zs).toArray⟩ : ByteArray).size = (nOut zs).length := size_mk _
      go_wp2_with fail
      refine (rln_back A B zs hzs (by omega) hA hB _ (ht.stays HB.out)).mono ?_
      rintro e w7 ⟨ao, cp, rfl, hia, hb7⟩
      have HX : Hid (BoxAt w7 w.heap.size A B N S (.slice a1 len1 cap1) (.slice a2 len2 cap2)) := HX.out.stays hb7
      have HB : Hid (Below w.heap.size w w7) := below_two HB.out hb7
      have HIA : Hid (IntsAt w7 ao zs.length zs) := hia
      clear hb7 hia
      generalize hol : (nOut zs).length = ol at *
      have hsub : ((A.size : Int) + (ol : Int) - (A.size : Int) != (ol : Int)) = false := by rw [show (A.size : Int) + (ol : Int) - (A.size : Int) = ol by omega]; simp
      clear f0 f1 f2 f3 f4 f5
      obtain ⟨-, f0, f1, f2, f3, f4, f5⟩ := HX.out
      go_wp2_with fail
      refine (ints_same ao a1 len1 cp cap1 zs _ (by have := HIA.out; rwa [hil] at this) (hin.stays HB.out) hn5).mono ?_
      rintro e w8 ⟨rfl, hb8⟩
      have HX : Hid (BoxAt w8 w.heap.size A B N S (.slice a1 len1 cap1) (.slice a2 len2 cap2)) := HX.out.stays hb8
      have HB : Hid (Below w.heap.size w w8) := below_two HB.out hb8
      clear hb8
      clear f0 f1 f2 f3 f4 f5
      obtain ⟨-, f0, f1, f2, f3, f4, f5⟩ := HX.out
      go_wp2_with fail
      refine (texts16 a2 len2 cap2 Xs _ (htx.stays HB.out) (ht.stays HB.out)).mono ?_
      rintro e w9 ⟨rfl, hb9⟩
      have HX : Hid (BoxAt w9 w.heap.size A B N S (.slice a1 len1 cap1) (.slice a2 len2 cap2)) := HX.out.stays hb9
      have HB : Hid (Below w.heap.size w w9) := below_two HB.out hb9
      clear hb9
      clear f0 f1 f2 f3 f4 f5
      obtain ⟨-, f0, f1, f2, f3, f4, f5⟩ := HX.out
      by_cases hx0 : xErr Xs = 0
      · have hxe : ((xErr Xs : Int) == 0) = true := by rw [hx0]; rfl
        have HOK : Hid (Xs.length ≤ 512 ∧ ∀ x ∈ Xs, x.size ≤ 16384) := xErr_zero hx0
        have HL : Hid ((xOut Xs).length ≤ 9000000) := xOut_len HOK.out.1 HOK.out.2
        have hll := HL.out
        have hsm : (⟨(xOut Xs).toArray⟩ : ByteArray).size = (xOut Xs).length := size_mk _
        clear hx0
        go_wp2_with fail
        refine (rlt_back A B Xs HOK.out.2 HOK.out.1 hA hB _ (ht.stays HB.out)).mono ?_
        rintro e w10 ⟨ao, cp, rfl, hta, hb10⟩
        have HX : Hid (BoxAt w10 w.heap.size A B N S (.slice a1 len1 cap1) (.slice a2 len2 cap2)) := HX.out.stays hb10
        have HB : Hid (Below w.heap.size w w10) := below_two HB.out hb10
        have HTA : Hid (TextsAt w10 ao Xs.length Xs) := hta
        clear hb10 hta
        generalize hol : (xOut Xs).length = ol at *
        have hsub : ((A.size : Int) + (ol : Int) - (A.size : Int) != (ol : Int)) = false := by rw [show (A.size : Int) + (ol : Int) - (A.size : Int) = ol by omega]; simp
        clear f0 f1 f2 f3 f4 f5
        obtain ⟨-, f0, f1, f2, f3, f4, f5⟩ := HX.out
        go_wp2_with fail
        refine (texts_same ao a2 len2 cp cap2 Xs _ (by have := HTA.out; rwa [hxl] at this) (htx.stays HB.out) (by have := HOK.out.1; omega)).mono ?_
        rintro e w11 ⟨rfl, hb11⟩
        have HB : Hid (Below w.heap.size w w11) := below_two HB.out hb11
        clear hb11
        go_wp2
        go_ret
        exact ⟨rfl, HB.out⟩
      · have hxe : ((xErr Xs : Int) == 0) = false := by rw [beq_eq_false_iff_ne]; omega
        go_wp2
        go_ret
        exact ⟨rfl, HB.out⟩
    · have hne : ((nErr zs : Int) == 0) = false := by unfold nErr; rw [hil, if_neg (by omega)]; rfl
      clear f0 f1 f2 f3 f4 f5
      obtain ⟨-, f0, f1, f2, f3, f4, f5⟩ := HX.out
      go_wp2_with fail
      refine (texts16 a2 len2 cap2 Xs _ (htx.stays HB.out) (ht.stays HB.out)).mono ?_
      rintro e w9 ⟨rfl, hb9⟩
      have HX : Hid (BoxAt w9 w.heap.size A B N S (.slice a1 len1 cap1) (.slice a2 len2 cap2)) := HX.out.stays hb9
      have HB : Hid (Below w.heap.size w w9) := below_two HB.out hb9
      clear hb9
      clear f0 f1 f2 f3 f4 f5
      obtain ⟨-, f0, f1, f2, f3, f4, f5⟩ := HX.out
      by_cases hx0 : xErr Xs = 0
      · have hxe : ((xErr Xs : Int) == 0) = true := by rw [hx0]; rfl
        have HOK : Hid (Xs.length ≤ 512 ∧ ∀ x ∈ Xs, x.size ≤ 16384) := xErr_zero hx0
        have HL : Hid ((xOut Xs).length ≤ 9000000) := xOut_len HOK.out.1 HOK.out.2
        have hll := HL.out
        have hsm : (⟨(xOut Xs).toArray⟩ : ByteArray).size = (xOut Xs).length := size_mk _
        clear hx0
        go_wp2_with fail
        refine (rlt_back A B Xs HOK.out.2 HOK.out.1 hA hB _ (ht.stays HB.out)).mono ?_
        rintro e w10 ⟨ao, cp, rfl, hta, hb10⟩
        have HX : Hid (BoxAt w10 w.heap.size A B N S (.slice a1 len1 cap1) (.slice a2 len2 cap2)) := HX.out.stays hb10
        have HB : Hid (Below w.heap.size w w10) := below_two HB.out hb10
        have HTA : Hid (TextsAt w10 ao Xs.length Xs) := hta
        clear hb10 hta
        generalize hol : (xOut Xs).length = ol at *
        have hsub : ((A.size : Int) + (ol : Int) - (A.size : Int) != (ol : Int)) = false := by rw [show (A.size : Int) + (ol : Int) - (A.size : Int) = ol by omega]; simp
        clear f0 f1 f2 f3 f4 f5
        obtain ⟨-, f0, f1, f2, f3, f4, f5⟩ := HX.out
        go_wp2_with fail
        refine (texts_same ao a2 len2 cp cap2 Xs _ (by have := HTA.out; rwa [hxl] at this) (htx.stays HB.out) (by have := HOK.out.1; omega)).mono ?_
        rintro e w11 ⟨rfl, hb11⟩
        have HB : Hid (Below w.heap.size w w11) := below_two HB.out hb11
        clear hb11
        go_wp2
        go_ret
        exact ⟨rfl, HB.out⟩
      · have hxe : ((xErr Xs : Int) == 0) = false := by rw [beq_eq_false_iff_ne]; omega
        go_wp2
        go_ret
        exact ⟨rfl, HB.out⟩

end Go.Proofs.YtldhhbkdhcidcaaDoor
