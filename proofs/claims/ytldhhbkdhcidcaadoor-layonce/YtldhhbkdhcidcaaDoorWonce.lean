/-
  The law LayOnce, walked, at a place from 0 to the number of bytes.
-/
import Derived.Test.YtldhhbkdhcidcaaDoorCases
import Derived.Deep.QuietTactic
import Derived.BigQuiet
import Derived.Lib.QuietBelow
namespace Go.Proofs.YtldhhbkdhcidcaaDoor
open Go.RowKit Go.Joins
set_option maxRecDepth 100000

set_option maxHeartbeats 1000000 in
theorem layOnce_in (s : ByteArray) (p : Nat) (h : p ≤ s.size) (hs : s.size ≤ 281474976710656) (w : World) (ht : Tabs w) :
    Calls Tryd.prog 7 #[.string s, .int .i64 p] w fun e w' => e = .returned (.bool true) ∧ Below w.heap.size w w' := by
  have d1 : decide ((s.size : Int) < (p : Int)) = false := by simp; omega
  go_enter Tryd.func7, Tryd.ntmps7
  go_wp2_with fail
  refine (awake_any _ ht).mono ?_
  rintro e w0 ⟨rfl, hb0⟩
  have HB0 : Hid (Below w.heap.size w w0) := hb0
  clear hb0
  go_wp2_with fail
  refine (rn_cases s p h hs _ (ht.stays HB0.out)).mono ?_
  rintro e w1 ⟨(⟨n, c, HN, HX, hcs, hn0, hn1, rfl⟩ | ⟨n, en, hen, HE, rfl⟩), hb1⟩
  · have HB1 : Hid (Below w.heap.size w w1) := below_two HB0.out hb1
    clear hb1 HB0
    have hx := HX.out
    have HC : Hid (∀ d os, Calls Tryd.prog 10 #[.int .i64 n] (Sort.grow (redrawn w1 d) os) fun e w'' => e = .returned (.string ⟨(Lib.itoa n ++ [59]).toArray⟩) ∧ ∃ p : Regrown, w'' = Sort.grow (redrawn w1 p.d) p.os) := fun d os =>
      Calls.regrown_of (number_any n hn0 hn1 _ ((ht.stays HB1.out).stays (below_regrown w1 d os)))
    go_wp2
    refine wp_region_quiet_below (by kernel_rfl) (by kernel_rfl) ?_
    repeat (first | go_big_quiet_step (exact HC.out _ _) | quiet_step (exact HC.out _ _))
    refine wpQuiet_nil ?_
    intro _ hw'
    obtain ⟨⟨dq, osq⟩, hw''⟩ := hw'
    subst hw''
    have HB2 : Hid (Below w.heap.size w (Sort.grow (redrawn w1 dq) osq)) := below_two HB1.out (below_regrown w1 dq osq)
    generalize Sort.grow (redrawn w1 dq) osq = w2 at *
    clear HC hx HB1
    go_wp2_with fail
    refine (rt_cases s p h hs _ (ht.stays HB2.out)).mono ?_
    rintro e w3 ⟨(⟨t, c2, -, HX2, hcs2, htl, rfl⟩ | ⟨t, en2, hen2, -, rfl⟩), hb3⟩
    · have HB3 : Hid (Below w.heap.size w w3) := below_two HB2.out hb3
      clear hb3 HB2
      go_wp2_with fail
      refine (text_ok ⟨t.toArray⟩ htl _ (ht.stays HB3.out)).mono ?_
      rintro e w4 ⟨rfl, hb4⟩
      have HB4 : Hid (Below w.heap.size w w4) := below_two HB3.out hb4
      clear hb4 HB3
      have hx2 : s.extract p (p + c2) = ⟨(textB t).toArray⟩ := HX2.out
      have hx3 : (⟨t.toArray⟩ : ByteArray).data.toList = t := rfl
      rw [hx3]
      clear hx3
      generalize textB t = tb at *
      go_wp2_with fail
      try clear hx2
      refine (rln_cases s p h hs _ (ht.stays HB4.out)).mono ?_
      rintro e w5 ⟨(⟨xs, c3, ao, cp, -, HX3, HE3, hcs3, HI3, rfl⟩ | ⟨ao, cp, en3, hen3, -, rfl⟩), hb5⟩
      · have HB5 : Hid (Below w.heap.size w w5) := below_two HB4.out hb5
        clear hb5 HB4
        go_wp2_with fail
        refine (numbers14 ao xs.length cp xs _ HI3.out (ht.stays HB5.out)).mono ?_
        rintro e w6 ⟨rfl, hb6⟩
        have HB6 : Hid (Below w.heap.size w w6) := below_two HB5.out hb6
        clear hb6 HB5
        have hx3 := HX3.out
        have hne3 : ((nErr xs : Int) != 0) = false := by rw [HE3.out]; rfl
        go_wp2_with fail
        refine (rlt_cases s p h hs _ (ht.stays HB6.out)).mono ?_
        rintro e w7 ⟨(⟨Xs, xt, c4, at4, cp4, -, -, HX4, HE4, hcs4, HI4, rfl⟩ | ⟨at4, cp4, en4, hen4, -, rfl⟩), hb7⟩
        · have HB7 : Hid (Below w.heap.size w w7) := below_two HB6.out hb7
          clear hb7 HB6
          go_wp2_with fail
          refine (texts16 at4 Xs.length cp4 Xs _ HI4.out (ht.stays HB7.out)).mono ?_
          rintro e w8 ⟨rfl, hb8⟩
          have HB8 : Hid (Below w.heap.size w w8) := below_two HB7.out hb8
          clear hb8 HB7
          have hx4 := HX4.out
          have hne4 : ((xErr Xs : Int) == 0) = true := by rw [HE4.out]; rfl
          go_wp2
          go_ret
          exact ⟨rfl, HB8.out⟩
        · have HB8 : Hid (Below w.heap.size w w7) := below_two HB6.out hb7
          clear hb7 HB6
          have hd4 : ((en4 : Int) != 0) = true := by rw [bne_iff_ne]; omega
          go_wp2
          go_ret
          exact ⟨rfl, HB8.out⟩
      · have HB6 : Hid (Below w.heap.size w w5) := below_two HB4.out hb5
        clear hb5 HB4
        have hd3 : ((en3 : Int) == 0) = false := by rw [beq_eq_false_iff_ne]; omega
        go_wp2_with fail
        refine (rlt_cases s p h hs _ (ht.stays HB6.out)).mono ?_
        rintro e w7 ⟨(⟨Xs, xt, c4, at4, cp4, -, -, HX4, HE4, hcs4, HI4, rfl⟩ | ⟨at4, cp4, en4, hen4, -, rfl⟩), hb7⟩
        · have HB7 : Hid (Below w.heap.size w w7) := below_two HB6.out hb7
          clear hb7 HB6
          go_wp2_with fail
          refine (texts16 at4 Xs.length cp4 Xs _ HI4.out (ht.stays HB7.out)).mono ?_
          rintro e w8 ⟨rfl, hb8⟩
          have HB8 : Hid (Below w.heap.size w w8) := below_two HB7.out hb8
          clear hb8 HB7
          have hx4 := HX4.out
          have hne4 : ((xErr Xs : Int) == 0) = true := by rw [HE4.out]; rfl
          go_wp2
          go_ret
          exact ⟨rfl, HB8.out⟩
        · have HB8 : Hid (Below w.heap.size w w7) := below_two HB6.out hb7
          clear hb7 HB6
          have hd4 : ((en4 : Int) != 0) = true := by rw [bne_iff_ne]; omega
          go_wp2
          go_ret
          exact ⟨rfl, HB8.out⟩
    · have HB4 : Hid (Below w.heap.size w w3) := below_two HB2.out hb3
      clear hb3 HB2
      have hd2 : ((en2 : Int) == 0) = false := by rw [beq_eq_false_iff_ne]; omega
      go_wp2_with fail
      refine (rln_cases s p h hs _ (ht.stays HB4.out)).mono ?_
      rintro e w5 ⟨(⟨xs, c3, ao, cp, -, HX3, HE3, hcs3, HI3, rfl⟩ | ⟨ao, cp, en3, hen3, -, rfl⟩), hb5⟩
      · have HB5 : Hid (Below w.heap.size w w5) := below_two HB4.out hb5
        clear hb5 HB4
        go_wp2_with fail
        refine (numbers14 ao xs.length cp xs _ HI3.out (ht.stays HB5.out)).mono ?_
        rintro e w6 ⟨rfl, hb6⟩
        have HB6 : Hid (Below w.heap.size w w6) := below_two HB5.out hb6
        clear hb6 HB5
        have hx3 := HX3.out
        have hne3 : ((nErr xs : Int) != 0) = false := by rw [HE3.out]; rfl
        go_wp2_with fail
        refine (rlt_cases s p h hs _ (ht.stays HB6.out)).mono ?_
        rintro e w7 ⟨(⟨Xs, xt, c4, at4, cp4, -, -, HX4, HE4, hcs4, HI4, rfl⟩ | ⟨at4, cp4, en4, hen4, -, rfl⟩), hb7⟩
        · have HB7 : Hid (Below w.heap.size w w7) := below_two HB6.out hb7
          clear hb7 HB6
          go_wp2_with fail
          refine (texts16 at4 Xs.length cp4 Xs _ HI4.out (ht.stays HB7.out)).mono ?_
          rintro e w8 ⟨rfl, hb8⟩
          have HB8 : Hid (Below w.heap.size w w8) := below_two HB7.out hb8
          clear hb8 HB7
          have hx4 := HX4.out
          have hne4 : ((xErr Xs : Int) == 0) = true := by rw [HE4.out]; rfl
          go_wp2
          go_ret
          exact ⟨rfl, HB8.out⟩
        · have HB8 : Hid (Below w.heap.size w w7) := below_two HB6.out hb7
          clear hb7 HB6
          have hd4 : ((en4 : Int) != 0) = true := by rw [bne_iff_ne]; omega
          go_wp2
          go_ret
          exact ⟨rfl, HB8.out⟩
      · have HB6 : Hid (Below w.heap.size w w5) := below_two HB4.out hb5
        clear hb5 HB4
        have hd3 : ((en3 : Int) == 0) = false := by rw [beq_eq_false_iff_ne]; omega
        go_wp2_with fail
        refine (rlt_cases s p h hs _ (ht.stays HB6.out)).mono ?_
        rintro e w7 ⟨(⟨Xs, xt, c4, at4, cp4, -, -, HX4, HE4, hcs4, HI4, rfl⟩ | ⟨at4, cp4, en4, hen4, -, rfl⟩), hb7⟩
        · have HB7 : Hid (Below w.heap.size w w7) := below_two HB6.out hb7
          clear hb7 HB6
          go_wp2_with fail
          refine (texts16 at4 Xs.length cp4 Xs _ HI4.out (ht.stays HB7.out)).mono ?_
          rintro e w8 ⟨rfl, hb8⟩
          have HB8 : Hid (Below w.heap.size w w8) := below_two HB7.out hb8
          clear hb8 HB7
          have hx4 := HX4.out
          have hne4 : ((xErr Xs : Int) == 0) = true := by rw [HE4.out]; rfl
          go_wp2
          go_ret
          exact ⟨rfl, HB8.out⟩
        · have HB8 : Hid (Below w.heap.size w w7) := below_two HB6.out hb7
          clear hb7 HB6
          have hd4 : ((en4 : Int) != 0) = true := by rw [bne_iff_ne]; omega
          go_wp2
          go_ret
          exact ⟨rfl, HB8.out⟩
  · have HB1 : Hid (Below w.heap.size w w1) := below_two HB0.out hb1
    clear hb1 HB0
    have hd : ((en : Int) == 0) = false := by rw [beq_eq_false_iff_ne]; omega
    go_wp2
    go_quiet (fail)
    have HB2 : Hid (Below w.heap.size w (w1.drewN nq)) := HB1.out.trans (below_draws _ w1 nq)
    generalize w1.drewN nq = w2 at *
    clear HB1
    go_wp2_with fail
    refine (rt_cases s p h hs _ (ht.stays HB2.out)).mono ?_
    rintro e w3 ⟨(⟨t, c2, -, HX2, hcs2, htl, rfl⟩ | ⟨t, en2, hen2, -, rfl⟩), hb3⟩
    · have HB3 : Hid (Below w.heap.size w w3) := below_two HB2.out hb3
      clear hb3 HB2
      go_wp2_with fail
      refine (text_ok ⟨t.toArray⟩ htl _ (ht.stays HB3.out)).mono ?_
      rintro e w4 ⟨rfl, hb4⟩
      have HB4 : Hid (Below w.heap.size w w4) := below_two HB3.out hb4
      clear hb4 HB3
      have hx2 : s.extract p (p + c2) = ⟨(textB t).toArray⟩ := HX2.out
      have hx3 : (⟨t.toArray⟩ : ByteArray).data.toList = t := rfl
      rw [hx3]
      clear hx3
      generalize textB t = tb at *
      go_wp2_with fail
      try clear hx2
      refine (rln_cases s p h hs _ (ht.stays HB4.out)).mono ?_
      rintro e w5 ⟨(⟨xs, c3, ao, cp, -, HX3, HE3, hcs3, HI3, rfl⟩ | ⟨ao, cp, en3, hen3, -, rfl⟩), hb5⟩
      · have HB5 : Hid (Below w.heap.size w w5) := below_two HB4.out hb5
        clear hb5 HB4
        go_wp2_with fail
        refine (numbers14 ao xs.length cp xs _ HI3.out (ht.stays HB5.out)).mono ?_
        rintro e w6 ⟨rfl, hb6⟩
        have HB6 : Hid (Below w.heap.size w w6) := below_two HB5.out hb6
        clear hb6 HB5
        have hx3 := HX3.out
        have hne3 : ((nErr xs : Int) != 0) = false := by rw [HE3.out]; rfl
        go_wp2_with fail
        refine (rlt_cases s p h hs _ (ht.stays HB6.out)).mono ?_
        rintro e w7 ⟨(⟨Xs, xt, c4, at4, cp4, -, -, HX4, HE4, hcs4, HI4, rfl⟩ | ⟨at4, cp4, en4, hen4, -, rfl⟩), hb7⟩
        · have HB7 : Hid (Below w.heap.size w w7) := below_two HB6.out hb7
          clear hb7 HB6
          go_wp2_with fail
          refine (texts16 at4 Xs.length cp4 Xs _ HI4.out (ht.stays HB7.out)).mono ?_
          rintro e w8 ⟨rfl, hb8⟩
          have HB8 : Hid (Below w.heap.size w w8) := below_two HB7.out hb8
          clear hb8 HB7
          have hx4 := HX4.out
          have hne4 : ((xErr Xs : Int) == 0) = true := by rw [HE4.out]; rfl
          go_wp2
          go_ret
          exact ⟨rfl, HB8.out⟩
        · have HB8 : Hid (Below w.heap.size w w7) := below_two HB6.out hb7
          clear hb7 HB6
          have hd4 : ((en4 : Int) != 0) = true := by rw [bne_iff_ne]; omega
          go_wp2
          go_ret
          exact ⟨rfl, HB8.out⟩
      · have HB6 : Hid (Below w.heap.size w w5) := below_two HB4.out hb5
        clear hb5 HB4
        have hd3 : ((en3 : Int) == 0) = false := by rw [beq_eq_false_iff_ne]; omega
        go_wp2_with fail
        refine (rlt_cases s p h hs _ (ht.stays HB6.out)).mono ?_
        rintro e w7 ⟨(⟨Xs, xt, c4, at4, cp4, -, -, HX4, HE4, hcs4, HI4, rfl⟩ | ⟨at4, cp4, en4, hen4, -, rfl⟩), hb7⟩
        · have HB7 : Hid (Below w.heap.size w w7) := below_two HB6.out hb7
          clear hb7 HB6
          go_wp2_with fail
          refine (texts16 at4 Xs.length cp4 Xs _ HI4.out (ht.stays HB7.out)).mono ?_
          rintro e w8 ⟨rfl, hb8⟩
          have HB8 : Hid (Below w.heap.size w w8) := below_two HB7.out hb8
          clear hb8 HB7
          have hx4 := HX4.out
          have hne4 : ((xErr Xs : Int) == 0) = true := by rw [HE4.out]; rfl
          go_wp2
          go_ret
          exact ⟨rfl, HB8.out⟩
        · have HB8 : Hid (Below w.heap.size w w7) := below_two HB6.out hb7
          clear hb7 HB6
          have hd4 : ((en4 : Int) != 0) = true := by rw [bne_iff_ne]; omega
          go_wp2
          go_ret
          exact ⟨rfl, HB8.out⟩
    · have HB4 : Hid (Below w.heap.size w w3) := below_two HB2.out hb3
      clear hb3 HB2
      have hd2 : ((en2 : Int) == 0) = false := by rw [beq_eq_false_iff_ne]; omega
      go_wp2_with fail
      refine (rln_cases s p h hs _ (ht.stays HB4.out)).mono ?_
      rintro e w5 ⟨(⟨xs, c3, ao, cp, -, HX3, HE3, hcs3, HI3, rfl⟩ | ⟨ao, cp, en3, hen3, -, rfl⟩), hb5⟩
      · have HB5 : Hid (Below w.heap.size w w5) := below_two HB4.out hb5
        clear hb5 HB4
        go_wp2_with fail
        refine (numbers14 ao xs.length cp xs _ HI3.out (ht.stays HB5.out)).mono ?_
        rintro e w6 ⟨rfl, hb6⟩
        have HB6 : Hid (Below w.heap.size w w6) := below_two HB5.out hb6
        clear hb6 HB5
        have hx3 := HX3.out
        have hne3 : ((nErr xs : Int) != 0) = false := by rw [HE3.out]; rfl
        go_wp2_with fail
        refine (rlt_cases s p h hs _ (ht.stays HB6.out)).mono ?_
        rintro e w7 ⟨(⟨Xs, xt, c4, at4, cp4, -, -, HX4, HE4, hcs4, HI4, rfl⟩ | ⟨at4, cp4, en4, hen4, -, rfl⟩), hb7⟩
        · have HB7 : Hid (Below w.heap.size w w7) := below_two HB6.out hb7
          clear hb7 HB6
          go_wp2_with fail
          refine (texts16 at4 Xs.length cp4 Xs _ HI4.out (ht.stays HB7.out)).mono ?_
          rintro e w8 ⟨rfl, hb8⟩
          have HB8 : Hid (Below w.heap.size w w8) := below_two HB7.out hb8
          clear hb8 HB7
          have hx4 := HX4.out
          have hne4 : ((xErr Xs : Int) == 0) = true := by rw [HE4.out]; rfl
          go_wp2
          go_ret
          exact ⟨rfl, HB8.out⟩
        · have HB8 : Hid (Below w.heap.size w w7) := below_two HB6.out hb7
          clear hb7 HB6
          have hd4 : ((en4 : Int) != 0) = true := by rw [bne_iff_ne]; omega
          go_wp2
          go_ret
          exact ⟨rfl, HB8.out⟩
      · have HB6 : Hid (Below w.heap.size w w5) := below_two HB4.out hb5
        clear hb5 HB4
        have hd3 : ((en3 : Int) == 0) = false := by rw [beq_eq_false_iff_ne]; omega
        go_wp2_with fail
        refine (rlt_cases s p h hs _ (ht.stays HB6.out)).mono ?_
        rintro e w7 ⟨(⟨Xs, xt, c4, at4, cp4, -, -, HX4, HE4, hcs4, HI4, rfl⟩ | ⟨at4, cp4, en4, hen4, -, rfl⟩), hb7⟩
        · have HB7 : Hid (Below w.heap.size w w7) := below_two HB6.out hb7
          clear hb7 HB6
          go_wp2_with fail
          refine (texts16 at4 Xs.length cp4 Xs _ HI4.out (ht.stays HB7.out)).mono ?_
          rintro e w8 ⟨rfl, hb8⟩
          have HB8 : Hid (Below w.heap.size w w8) := below_two HB7.out hb8
          clear hb8 HB7
          have hx4 := HX4.out
          have hne4 : ((xErr Xs : Int) == 0) = true := by rw [HE4.out]; rfl
          go_wp2
          go_ret
          exact ⟨rfl, HB8.out⟩
        · have HB8 : Hid (Below w.heap.size w w7) := below_two HB6.out hb7
          clear hb7 HB6
          have hd4 : ((en4 : Int) != 0) = true := by rw [bne_iff_ne]; omega
          go_wp2
          go_ret
          exact ⟨rfl, HB8.out⟩

end Go.Proofs.YtldhhbkdhcidcaaDoor
