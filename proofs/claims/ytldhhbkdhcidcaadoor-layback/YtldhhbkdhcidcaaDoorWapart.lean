/-
  The law LayApart, walked.
-/
import Derived.Test.YtldhhbkdhcidcaaDoorCases
import Derived.Deep.QuietTactic
import Derived.BigQuiet
namespace Go.Proofs.YtldhhbkdhcidcaaDoor
open Go.RowKit Go.Joins
set_option maxRecDepth 100000

theorem num_apart (a b : Int) (ha : -9223372036854775808 ≤ a ∧ a ≤ 9223372036854775807) (hb : -9223372036854775808 ≤ b ∧ b ≤ 9223372036854775807) (h : a ≠ b) : ¬ (Lib.itoa a ++ [59]) <+: (Lib.itoa b ++ [59]) := by
  rintro ⟨r, hr⟩
  have h1 := readNum_back b hb.1 hb.2 []
  have e : Lib.itoa b ++ 59 :: [] = Lib.itoa a ++ 59 :: r := by rw [← hr]; simp
  rw [e, readNum_back a ha.1 ha.2 r] at h1
  injection h1 with _ h2
  injection h2 with h3 _
  exact h h3

theorem txt_apart (s t : List UInt8) (hs : s.length ≤ 16384) (ht : t.length ≤ 16384) (h : s ≠ t) : ¬ txtB s <+: txtB t := by
  rintro ⟨r, hr⟩
  have h1 := readTxt_back t ht []
  rw [List.append_nil, ← hr, readTxt_back s hs r] at h1
  injection h1 with _ h2
  injection h2 with h3 _
  exact h h3

theorem txtB_open (x : List UInt8) : closeB (txtB x) = false ∧ txtB x ≠ [] := by
  have hd := dec_digits x.length
  have hne := dec_ne x.length
  unfold txtB
  cases hl : Lib.decDigits x.length with
  | nil => exact absurd hl hne
  | cons c l =>
    have hc := hd c (by rw [hl]; simp)
    simp only [isDig, Bool.and_eq_true, decide_eq_true_eq] at hc
    refine ⟨?_, by simp⟩
    simp only [closeB, List.cons_append, List.getD_cons_zero]
    rw [beq_eq_false_iff_ne]
    intro e
    subst e
    revert hc
    decide

theorem txts_back (xs : List (List UInt8)) (hok : ∀ x ∈ xs, x.length ≤ 16384) (hc : xs.length ≤ 512) (p : Nat) (rest : List UInt8) : listRes readTxt p (40 :: bodyOf txtB xs ++ 41 :: rest) = (0, xs, p + ((bodyOf txtB xs).length + 2)) :=
  list_back readTxt txtB (fun x => x.length ≤ 16384) (fun x hx rest => readTxt_back x hx rest) (fun x _ => txtB_open x) xs hok hc p rest

theorem lists_apart (xs ys : List (List UInt8)) (hx : ∀ x ∈ xs, x.length ≤ 16384) (hy : ∀ x ∈ ys, x.length ≤ 16384) (hx5 : xs.length ≤ 512) (hy5 : ys.length ≤ 512) (h : xs ≠ ys) : ¬ (40 :: bodyOf txtB xs ++ [41]) <+: (40 :: bodyOf txtB ys ++ [41]) := by
  rintro ⟨r, hr⟩
  have h1 := txts_back ys hy hy5 0 []
  have e : 40 :: bodyOf txtB ys ++ 41 :: [] = 40 :: bodyOf txtB xs ++ 41 :: r := by rw [← hr]; simp
  rw [e, txts_back xs hx hx5 0 r] at h1
  injection h1 with _ h2
  injection h2 with h3 _
  exact h h3

theorem pre_extract (x y : ByteArray) (h : x = y.extract 0 x.size) : x.data.toList <+: y.data.toList := by
  have e := Lib.extract_data y 0 x.size
  rw [← h, List.drop_zero] at e
  rw [e]
  exact List.take_prefix _ _

theorem bytes_ne (x y : ByteArray) (h : x ≠ y) : (x.toList == y.toList) = false := by
  rw [beq_eq_false_iff_ne, ByteArray.toList_eq, ByteArray.toList_eq]
  intro e
  apply h
  rw [← bytes_eta x, ← bytes_eta y, e]

set_option maxHeartbeats 400000 in
theorem begins_no (x y : ByteArray) (h : ¬ x.data.toList <+: y.data.toList) (w : World) :
    Calls Tryd.prog 28 #[.string x, .string y] w fun e w' => e = .returned (.bool false) ∧ w' = w := by
  have hne := bytes_ne x (y.extract 0 x.size) fun e => h (pre_extract x y e)
  clear h
  by_cases hl : x.size ≤ y.size
  · have hb : decide ((x.size : Int) ≤ (y.size : Int)) = true := by simp; omega
    go_enter Tryd.func28, Tryd.ntmps28
    go_wp2
    go_ret
    exact ⟨rfl, rfl⟩
  · have hb : decide ((x.size : Int) ≤ (y.size : Int)) = false := by simp; omega
    clear hne
    go_enter Tryd.func28, Tryd.ntmps28
    go_wp2
    go_ret
    exact ⟨rfl, rfl⟩

/-- The bytes of a list of two texts and of a list of the first. -/
theorem two_out (s t : ByteArray) (hs : s.size ≤ 16384) (ht : t.size ≤ 16384) : xOut [s, t] = 40 :: bodyOf txtB [s.data.toList, t.data.toList] ++ [41] ∧ xErr [s, t] = 0 := by
  obtain ⟨o1, o2⟩ := textsOut_ok (Xs := [s, t]) (by intro x hx; simp at hx; rcases hx with rfl | rfl <;> assumption)
  exact ⟨by unfold xOut; rw [if_pos (by simp), o1]; rfl, by unfold xErr; rw [if_pos (by simp), o2]⟩
theorem one_out (s : ByteArray) (hs : s.size ≤ 16384) : xOut [s] = 40 :: bodyOf txtB [s.data.toList] ++ [41] ∧ xErr [s] = 0 := by
  obtain ⟨o1, o2⟩ := textsOut_ok (Xs := [s]) (by intro x hx; simp at hx; subst hx; exact hs)
  exact ⟨by unfold xOut; rw [if_pos (by simp), o1]; rfl, by unfold xErr; rw [if_pos (by simp), o2]⟩

theorem two_apart (s t : ByteArray) (hs : s.size ≤ 16384) (ht : t.size ≤ 16384) : ¬ (xOut [s]) <+: (xOut [s, t]) ∧ ¬ (xOut [s, t]) <+: (xOut [s]) := by
  have a1 : ∀ x ∈ [s.data.toList, t.data.toList], x.length ≤ 16384 := by
    intro x hx; simp only [List.mem_cons, List.not_mem_nil, or_false] at hx
    rcases hx with rfl | rfl
    · rw [size_list]; exact hs
    · rw [size_list]; exact ht
  have a2 : ∀ x ∈ [s.data.toList], x.length ≤ 16384 := fun x hx => a1 x (by simp at hx; simp [hx])
  rw [(two_out s t hs ht).1, (one_out s hs).1]
  exact ⟨lists_apart _ _ a2 a1 (by simp) (by simp) (by simp), lists_apart _ _ a1 a2 (by simp) (by simp) (by simp)⟩

theorem texts_new2 (w : World) (s t : ByteArray) : TextsAt (w.alloc (.cells #[.string s, .string t] 9)) (some ⟨w.heap.size, 0, none⟩) 2 [s, t] := by
  refine ⟨rfl, fun j hj => ⟨w.heap.size, 0, rfl, by simp, ?_⟩⟩
  rcases j with _ | _ | j
  · simp
  · simp
  · omega
theorem texts_new1 (w : World) (s : ByteArray) : TextsAt (w.alloc (.cells #[.string s] 9)) (some ⟨w.heap.size, 0, none⟩) 1 [s] := by
  refine ⟨rfl, fun j hj => ⟨w.heap.size, 0, rfl, by simp, ?_⟩⟩
  rcases j with _ | j
  · simp
  · omega

set_option maxHeartbeats 4000000 in
theorem layApart_any (a b : Int) (ha : -9223372036854775808 ≤ a ∧ a ≤ 9223372036854775807) (hb : -9223372036854775808 ≤ b ∧ b ≤ 9223372036854775807) (s t : ByteArray) (w : World) (ht : Tabs w) :
    Calls Tryd.prog 8 #[.agg #[.int .i64 a, .int .i64 b, .string s, .string t]] w fun e w' => e = .returned (.bool true) ∧ Below w.heap.size w w' := by
  go_enter Tryd.func8, Tryd.ntmps8
  go_wp2
  go_quiet (fail)
  have HB0 : Hid (Below w.heap.size w ((w.alloc (.cells #[.int .i64 a, .int .i64 b, .string s, .string t] 48)).drewN nq)) := (below_alloc1 w _).trans (below_draws _ _ nq)
  generalize (w.alloc (.cells #[.int .i64 a, .int .i64 b, .string s, .string t] 48)).drewN nq = w0 at *
  go_wp2_with fail
  refine (number_any a ha.1 ha.2 _ (ht.stays HB0.out)).mono ?_
  rintro e w1 ⟨rfl, hb1⟩
  have HB1 : Hid (Below w.heap.size w w1) := below_two HB0.out hb1
  clear hb1 HB0
  go_wp2_with fail
  refine (number_any b hb.1 hb.2 _ (ht.stays HB1.out)).mono ?_
  rintro e w2 ⟨rfl, hb2⟩
  have HB2 : Hid (Below w.heap.size w w2) := below_two HB1.out hb2
  clear hb2 HB1
  by_cases hab : a = b
  · have hn : (a != b) = false := by rw [hab]; simp
    clear hab
    by_cases hs1 : 16384 < s.size
    · by_cases ht1 : 16384 < t.size
      · go_wp2_with fail
        refine (text_big s hs1 _).mono ?_
        rintro e w3 ⟨rfl, hw3⟩
        have HB3 : Hid (Below w.heap.size w w3) := by rw [hw3]; exact HB2.out
        clear hw3 HB2
        go_wp2_with fail
        refine (text_big t ht1 _).mono ?_
        rintro e w4 ⟨rfl, hw4⟩
        have HB4 : Hid (Below w.heap.size w w4) := by rw [hw4]; exact HB3.out
        clear hw4 HB3
        go_wp2_with fail
        refine (awake_any _ (ht.stays HB4.out)).mono ?_
        rintro e w5 ⟨rfl, hb5⟩
        have HB5 : Hid (Below w.heap.size w w5) := below_two HB4.out hb5
        clear hb5 HB4
        go_wp2
        go_ret
        exact ⟨rfl, HB5.out⟩
      · have ht1 : t.size ≤ 16384 := by omega
        go_wp2_with fail
        refine (text_big s hs1 _).mono ?_
        rintro e w3 ⟨rfl, hw3⟩
        have HB3 : Hid (Below w.heap.size w w3) := by rw [hw3]; exact HB2.out
        clear hw3 HB2
        go_wp2_with fail
        refine (text_ok t ht1 _ (ht.stays HB3.out)).mono ?_
        rintro e w4 ⟨rfl, hb4⟩
        have HB4 : Hid (Below w.heap.size w w4) := below_two HB3.out hb4
        clear hb4 HB3
        go_wp2_with fail
        refine (awake_any _ (ht.stays HB4.out)).mono ?_
        rintro e w5 ⟨rfl, hb5⟩
        have HB5 : Hid (Below w.heap.size w w5) := below_two HB4.out hb5
        clear hb5 HB4
        go_wp2
        go_ret
        exact ⟨rfl, HB5.out⟩
    · have hs1 : s.size ≤ 16384 := by omega
      by_cases ht1 : 16384 < t.size
      · go_wp2_with fail
        refine (text_ok s hs1 _ (ht.stays HB2.out)).mono ?_
        rintro e w3 ⟨rfl, hb3⟩
        have HB3 : Hid (Below w.heap.size w w3) := below_two HB2.out hb3
        clear hb3 HB2
        go_wp2_with fail
        refine (text_big t ht1 _).mono ?_
        rintro e w4 ⟨rfl, hw4⟩
        have HB4 : Hid (Below w.heap.size w w4) := by rw [hw4]; exact HB3.out
        clear hw4 HB3
        go_wp2_with fail
        refine (awake_any _ (ht.stays HB4.out)).mono ?_
        rintro e w5 ⟨rfl, hb5⟩
        have HB5 : Hid (Below w.heap.size w w5) := below_two HB4.out hb5
        clear hb5 HB4
        go_wp2
        go_ret
        exact ⟨rfl, HB5.out⟩
      · have ht1 : t.size ≤ 16384 := by omega
        by_cases hst : s = t
        · have hstb : (s.toList == t.toList) = true := by rw [hst]; simp
          clear hst
          go_wp2_with fail
          refine (text_ok s hs1 _ (ht.stays HB2.out)).mono ?_
          rintro e w3 ⟨rfl, hb3⟩
          have HB3 : Hid (Below w.heap.size w w3) := below_two HB2.out hb3
          clear hb3 HB2
          go_wp2_with fail
          refine (text_ok t ht1 _ (ht.stays HB3.out)).mono ?_
          rintro e w4 ⟨rfl, hb4⟩
          have HB4 : Hid (Below w.heap.size w w4) := below_two HB3.out hb4
          clear hb4 HB3
          go_wp2_with fail
          refine (awake_any _ (ht.stays HB4.out)).mono ?_
          rintro e w5 ⟨rfl, hb5⟩
          have HB5 : Hid (Below w.heap.size w w5) := below_two HB4.out hb5
          clear hb5 HB4
          go_wp2
          go_ret
          exact ⟨rfl, HB5.out⟩
        · have hstb := bytes_ne s t hst
          go_wp2_with fail
          refine (text_ok s hs1 _ (ht.stays HB2.out)).mono ?_
          rintro e w3 ⟨rfl, hb3⟩
          have HB3 : Hid (Below w.heap.size w w3) := below_two HB2.out hb3
          clear hb3 HB2
          go_wp2_with fail
          refine (text_ok t ht1 _ (ht.stays HB3.out)).mono ?_
          rintro e w4 ⟨rfl, hb4⟩
          have HB4 : Hid (Below w.heap.size w w4) := below_two HB3.out hb4
          clear hb4 HB3
          have HAP := two_apart s t hs1 ht1
          have HH : Hid (¬ (xOut [s]) <+: (xOut [s, t]) ∧ ¬ (xOut [s, t]) <+: (xOut [s])) := HAP
          have HE2 : ((xErr [s, t] : Int) != 0) = false := by rw [(two_out s t hs1 ht1).2]; rfl
          have HE1 : ((xErr [s] : Int) != 0) = false := by rw [(one_out s hs1).2]; rfl
          have HU : Hid (¬ (textB s.data.toList) <+: (textB t.data.toList)) := txt_apart s.data.toList t.data.toList (by rw [size_list]; exact hs1) (by rw [size_list]; exact ht1) (fun e => hst (by rw [← bytes_eta s, ← bytes_eta t, e]))
          have HV : Hid (¬ (textB t.data.toList) <+: (textB s.data.toList)) := txt_apart t.data.toList s.data.toList (by rw [size_list]; exact ht1) (by rw [size_list]; exact hs1) (fun e => hst (by rw [← bytes_eta s, ← bytes_eta t, e]))
          clear HAP
          go_wp2_with fail
          refine (texts16 (some ⟨w4.heap.size, 0, none⟩) 2 2 [s, t] _ (texts_new2 w4 s t) ((ht.stays HB4.out).stays (below_alloc1 w4 _))).mono ?_
          rintro e w5 ⟨rfl, hb5⟩
          have HB5 : Hid (Below w.heap.size w w5) := below_two HB4.out (below_two (below_alloc1 w4 _) hb5)
          clear hb5 HB4
          generalize xOut [s, t] = o2 at *
          generalize xErr [s, t] = e2 at *
          go_wp2_with fail
          refine (texts16 (some ⟨w5.heap.size, 0, none⟩) 1 1 [s] _ (texts_new1 w5 s) ((ht.stays HB5.out).stays (below_alloc1 w5 _))).mono ?_
          rintro e w6 ⟨rfl, hb6⟩
          have HB6 : Hid (Below w.heap.size w w6) := below_two HB5.out (below_two (below_alloc1 w5 _) hb6)
          clear hb6 HB5
          generalize xOut [s] = o1 at *
          generalize xErr [s] = e1 at *
          go_wp2_with fail
          refine (awake_any _ (ht.stays HB6.out)).mono ?_
          rintro e w7 ⟨rfl, hb7⟩
          have HB7 : Hid (Below w.heap.size w w7) := below_two HB6.out hb7
          clear hb7 HB6
          generalize textB s.data.toList = bs at *
          generalize textB t.data.toList = bt at *
          go_wp2_with fail
          refine (begins_no ⟨bs.toArray⟩ ⟨bt.toArray⟩ HU.out _).mono ?_
          rintro e w8 ⟨rfl, hw8⟩
          subst w8
          go_wp2_with fail
          refine (begins_no ⟨bt.toArray⟩ ⟨bs.toArray⟩ HV.out _).mono ?_
          rintro e w8 ⟨rfl, hw8⟩
          subst w8
          go_wp2_with fail
          refine (begins_no ⟨o1.toArray⟩ ⟨o2.toArray⟩ HH.out.1 _).mono ?_
          rintro e w8 ⟨rfl, hw8⟩
          subst w8
          go_wp2_with fail
          refine (begins_no ⟨o2.toArray⟩ ⟨o1.toArray⟩ HH.out.2 _).mono ?_
          rintro e w8 ⟨rfl, hw8⟩
          subst w8
          go_wp2
          go_ret
          exact ⟨rfl, HB7.out⟩
  · have hn : (a != b) = true := by rw [bne_iff_ne]; exact hab
    have HP : Hid (¬ (Lib.itoa a ++ [59]) <+: (Lib.itoa b ++ [59])) := num_apart a b ha hb hab
    have HQ : Hid (¬ (Lib.itoa b ++ [59]) <+: (Lib.itoa a ++ [59])) := num_apart b a hb ha (fun e => hab e.symm)
    clear hab
    generalize Lib.itoa a ++ [59] = la at *
    generalize Lib.itoa b ++ [59] = lb at *
    go_wp2_with fail
    refine (begins_no ⟨la.toArray⟩ ⟨lb.toArray⟩ HP.out _).mono ?_
    rintro e w3 ⟨rfl, hw3⟩
    subst w3
    go_wp2_with fail
    refine (begins_no ⟨lb.toArray⟩ ⟨la.toArray⟩ HQ.out _).mono ?_
    rintro e w3 ⟨rfl, hw3⟩
    subst w3
    by_cases hs1 : 16384 < s.size
    · by_cases ht1 : 16384 < t.size
      · go_wp2_with fail
        refine (text_big s hs1 _).mono ?_
        rintro e w3 ⟨rfl, hw3⟩
        have HB3 : Hid (Below w.heap.size w w3) := by rw [hw3]; exact HB2.out
        clear hw3 HB2
        go_wp2_with fail
        refine (text_big t ht1 _).mono ?_
        rintro e w4 ⟨rfl, hw4⟩
        have HB4 : Hid (Below w.heap.size w w4) := by rw [hw4]; exact HB3.out
        clear hw4 HB3
        go_wp2_with fail
        refine (awake_any _ (ht.stays HB4.out)).mono ?_
        rintro e w5 ⟨rfl, hb5⟩
        have HB5 : Hid (Below w.heap.size w w5) := below_two HB4.out hb5
        clear hb5 HB4
        go_wp2
        go_ret
        exact ⟨rfl, HB5.out⟩
      · have ht1 : t.size ≤ 16384 := by omega
        go_wp2_with fail
        refine (text_big s hs1 _).mono ?_
        rintro e w3 ⟨rfl, hw3⟩
        have HB3 : Hid (Below w.heap.size w w3) := by rw [hw3]; exact HB2.out
        clear hw3 HB2
        go_wp2_with fail
        refine (text_ok t ht1 _ (ht.stays HB3.out)).mono ?_
        rintro e w4 ⟨rfl, hb4⟩
        have HB4 : Hid (Below w.heap.size w w4) := below_two HB3.out hb4
        clear hb4 HB3
        go_wp2_with fail
        refine (awake_any _ (ht.stays HB4.out)).mono ?_
        rintro e w5 ⟨rfl, hb5⟩
        have HB5 : Hid (Below w.heap.size w w5) := below_two HB4.out hb5
        clear hb5 HB4
        go_wp2
        go_ret
        exact ⟨rfl, HB5.out⟩
    · have hs1 : s.size ≤ 16384 := by omega
      by_cases ht1 : 16384 < t.size
      · go_wp2_with fail
        refine (text_ok s hs1 _ (ht.stays HB2.out)).mono ?_
        rintro e w3 ⟨rfl, hb3⟩
        have HB3 : Hid (Below w.heap.size w w3) := below_two HB2.out hb3
        clear hb3 HB2
        go_wp2_with fail
        refine (text_big t ht1 _).mono ?_
        rintro e w4 ⟨rfl, hw4⟩
        have HB4 : Hid (Below w.heap.size w w4) := by rw [hw4]; exact HB3.out
        clear hw4 HB3
        go_wp2_with fail
        refine (awake_any _ (ht.stays HB4.out)).mono ?_
        rintro e w5 ⟨rfl, hb5⟩
        have HB5 : Hid (Below w.heap.size w w5) := below_two HB4.out hb5
        clear hb5 HB4
        go_wp2
        go_ret
        exact ⟨rfl, HB5.out⟩
      · have ht1 : t.size ≤ 16384 := by omega
        by_cases hst : s = t
        · have hstb : (s.toList == t.toList) = true := by rw [hst]; simp
          clear hst
          go_wp2_with fail
          refine (text_ok s hs1 _ (ht.stays HB2.out)).mono ?_
          rintro e w3 ⟨rfl, hb3⟩
          have HB3 : Hid (Below w.heap.size w w3) := below_two HB2.out hb3
          clear hb3 HB2
          go_wp2_with fail
          refine (text_ok t ht1 _ (ht.stays HB3.out)).mono ?_
          rintro e w4 ⟨rfl, hb4⟩
          have HB4 : Hid (Below w.heap.size w w4) := below_two HB3.out hb4
          clear hb4 HB3
          go_wp2_with fail
          refine (awake_any _ (ht.stays HB4.out)).mono ?_
          rintro e w5 ⟨rfl, hb5⟩
          have HB5 : Hid (Below w.heap.size w w5) := below_two HB4.out hb5
          clear hb5 HB4
          go_wp2
          go_ret
          exact ⟨rfl, HB5.out⟩
        · have hstb := bytes_ne s t hst
          go_wp2_with fail
          refine (text_ok s hs1 _ (ht.stays HB2.out)).mono ?_
          rintro e w3 ⟨rfl, hb3⟩
          have HB3 : Hid (Below w.heap.size w w3) := below_two HB2.out hb3
          clear hb3 HB2
          go_wp2_with fail
          refine (text_ok t ht1 _ (ht.stays HB3.out)).mono ?_
          rintro e w4 ⟨rfl, hb4⟩
          have HB4 : Hid (Below w.heap.size w w4) := below_two HB3.out hb4
          clear hb4 HB3
          have HAP := two_apart s t hs1 ht1
          have HH : Hid (¬ (xOut [s]) <+: (xOut [s, t]) ∧ ¬ (xOut [s, t]) <+: (xOut [s])) := HAP
          have HE2 : ((xErr [s, t] : Int) != 0) = false := by rw [(two_out s t hs1 ht1).2]; rfl
          have HE1 : ((xErr [s] : Int) != 0) = false := by rw [(one_out s hs1).2]; rfl
          have HU : Hid (¬ (textB s.data.toList) <+: (textB t.data.toList)) := txt_apart s.data.toList t.data.toList (by rw [size_list]; exact hs1) (by rw [size_list]; exact ht1) (fun e => hst (by rw [← bytes_eta s, ← bytes_eta t, e]))
          have HV : Hid (¬ (textB t.data.toList) <+: (textB s.data.toList)) := txt_apart t.data.toList s.data.toList (by rw [size_list]; exact ht1) (by rw [size_list]; exact hs1) (fun e => hst (by rw [← bytes_eta s, ← bytes_eta t, e]))
          clear HAP
          go_wp2_with fail
          refine (texts16 (some ⟨w4.heap.size, 0, none⟩) 2 2 [s, t] _ (texts_new2 w4 s t) ((ht.stays HB4.out).stays (below_alloc1 w4 _))).mono ?_
          rintro e w5 ⟨rfl, hb5⟩
          have HB5 : Hid (Below w.heap.size w w5) := below_two HB4.out (below_two (below_alloc1 w4 _) hb5)
          clear hb5 HB4
          generalize xOut [s, t] = o2 at *
          generalize xErr [s, t] = e2 at *
          go_wp2_with fail
          refine (texts16 (some ⟨w5.heap.size, 0, none⟩) 1 1 [s] _ (texts_new1 w5 s) ((ht.stays HB5.out).stays (below_alloc1 w5 _))).mono ?_
          rintro e w6 ⟨rfl, hb6⟩
          have HB6 : Hid (Below w.heap.size w w6) := below_two HB5.out (below_two (below_alloc1 w5 _) hb6)
          clear hb6 HB5
          generalize xOut [s] = o1 at *
          generalize xErr [s] = e1 at *
          go_wp2_with fail
          refine (awake_any _ (ht.stays HB6.out)).mono ?_
          rintro e w7 ⟨rfl, hb7⟩
          have HB7 : Hid (Below w.heap.size w w7) := below_two HB6.out hb7
          clear hb7 HB6
          generalize textB s.data.toList = bs at *
          generalize textB t.data.toList = bt at *
          go_wp2_with fail
          refine (begins_no ⟨bs.toArray⟩ ⟨bt.toArray⟩ HU.out _).mono ?_
          rintro e w8 ⟨rfl, hw8⟩
          subst w8
          go_wp2_with fail
          refine (begins_no ⟨bt.toArray⟩ ⟨bs.toArray⟩ HV.out _).mono ?_
          rintro e w8 ⟨rfl, hw8⟩
          subst w8
          go_wp2_with fail
          refine (begins_no ⟨o1.toArray⟩ ⟨o2.toArray⟩ HH.out.1 _).mono ?_
          rintro e w8 ⟨rfl, hw8⟩
          subst w8
          go_wp2_with fail
          refine (begins_no ⟨o2.toArray⟩ ⟨o1.toArray⟩ HH.out.2 _).mono ?_
          rintro e w8 ⟨rfl, hw8⟩
          subst w8
          go_wp2
          go_ret
          exact ⟨rfl, HB7.out⟩

end Go.Proofs.YtldhhbkdhcidcaaDoor
