/-
  What lay.ReadText answers, at every place of every text.
-/
import Derived.Test.YtidlgecognedlaaGreatDoorLrdm
import Derived.Test.YtidlgecognedlaaGreatDoorLplb
namespace Go.Proofs.YtidlgecognedlaaGreatDoor.Lay
open Go.RowKit Go.Joins
set_option maxRecDepth 100000

set_option maxHeartbeats 400000 in
theorem clone_any (s : ByteArray) (w : World) (hlim : s.size ≤ 281474976710656) :
    Calls Tryz.prog 66 #[.string s] w fun e w' => e = .returned (.string s) ∧ Below w.heap.size w w' := by
  go_enter Tryz.func66, Tryz.ntmps66
  go_wp2_with fail
  refine (Tryz.stringslite_Clone s _ hlim).mono ?_
  rintro e w' ⟨rfl, hb⟩
  go_wp2
  go_ret
  exact ⟨rfl, hb⟩

set_option maxHeartbeats 400000 in
theorem rt_out (s : ByteArray) (p : Int) (h : p < 0 ∨ (s.size : Int) < p) (w : World) :
    Calls Tryz.prog 134 #[.string s, .int .i64 p] w fun e w' => e = .returned (.tuple #[.string ⟨#[]⟩, .int .i64 0, .int .i64 3]) ∧ w' = w := by
  go_enter Tryz.func134, Tryz.ntmps134
  go_wp2_with fail
  refine (place_no s p h _).mono ?_
  rintro e w' ⟨rfl, rfl⟩
  go_wp2
  go_ret3
  exact ⟨rfl, rfl⟩

set_option maxHeartbeats 400000 in
theorem rt_bad (s : ByteArray) (p : Nat) (h : p ≤ s.size) (hs : s.size ≤ maxLen) (r : List UInt8) (HR : Hid (s.data.toList.drop p = r)) (n : Nat) (he : eodErr r 58 = n) (hn : n ≠ 0) (w : World) :
    Calls Tryz.prog 134 #[.string s, .int .i64 p] w fun e w' => e = .returned (.tuple #[.string ⟨#[]⟩, .int .i64 0, .int .i64 n]) ∧ w' = w := by
  have HS : Hid (s.size ≤ maxLen) := hs
  unfold maxLen at hs
  have HE : Hid (eodErr r 58 = n) := he
  have hnb : ((n : Int) != 0) = true := by rw [bne_iff_ne]; omega
  clear he
  go_enter Tryz.func134, Tryz.ntmps134
  go_wp2_with fail
  refine (place_yes s p (by omega) _).mono ?_
  rintro e w' ⟨rfl, hw⟩
  subst hw
  go_wp2_with fail
  refine (eod_bad s _ p (by omega) (by omega) 58 HS.out _ r HR n HE.out hn).mono ?_
  rintro e w' ⟨rfl, hw⟩
  subst hw
  go_wp2
  go_ret3
  exact ⟨rfl, rfl⟩

set_option maxHeartbeats 400000 in
theorem rt_range (s : ByteArray) (p : Nat) (hs : s.size ≤ 281474976710656) (r : List UInt8) (HR : Hid (s.data.toList.drop p = r)) (he : eodErr r 58 = 0) (h1 : p ≤ s.size)
    (l : List UInt8) (hlt : (s.data.toList.drop p).take (digRun r) = l) (hl : Lib.atoiAll l = .range) (w : World) (ht : Tabs w) :
    Calls Tryz.prog 134 #[.string s, .int .i64 p] w fun e w' => e = .returned (.tuple #[.string ⟨#[]⟩, .int .i64 0, .int .i64 4]) ∧ Below w.heap.size w w' := by
  have HS : Hid (s.size ≤ maxLen) := by show s.size ≤ 9223372036854775807; omega
  have HE : Hid (eodErr r 58 = 0) := he
  have HL : Hid ((s.data.toList.drop p).take (digRun r) = l) := hlt
  have hdl := digRun_le r
  have hrl : r.length = s.size - p := by rw [← HR.out]; simp
  have hde : p + digRun r ≤ s.size := by omega
  have HLL : Hid (Lib.atoiAll l = .range) := hl
  clear he hlt hl hrl
  go_enter Tryz.func134, Tryz.ntmps134
  go_wp2_with fail
  refine (place_yes s p (by omega) _).mono ?_
  rintro e w' ⟨rfl, hw⟩
  subst hw
  go_wp2_with fail
  refine (eod_ok s _ p (by omega) (by omega) 58 HS.out _ r HR HE.out).mono ?_
  rintro e w' ⟨rfl, hw⟩
  subst hw
  go_wp2_with fail
  refine (atoi_at (s.extract p (p + digRun r)) l (by rw [Lib.extract_data, show p + digRun r - p = digRun r by omega]; exact HL.out) (Nat.le_trans (extract_size _ _ _) hs) (Or.inr HLL.out) _ ht).mono ?_
  rintro e w2 ⟨(⟨v, hv, rfl⟩ | ⟨hr, v, tt, pp, rfl⟩), hb⟩
  · rw [HLL.out] at hv; cases hv
  · clear hr HLL
    go_wp2
    go_ret3
    exact ⟨rfl, hb⟩

theorem size_of (s : ByteArray) : s.data.toList.length = s.size := by rw [Array.length_toList]; rfl

theorem rest_size (s : ByteArray) (a : Nat) (_h : a ≤ s.size) : (s.extract a s.size).size = s.size - a := by
  have h := congrArg List.length (Lib.extract_data s a s.size)
  rw [List.length_take, List.length_drop, size_of, size_of] at h
  omega

set_option maxHeartbeats 400000 in
/-- Digits that say m: too big; too few bytes are left; or the text. -/
theorem rt_num (s : ByteArray) (p : Nat) (hs : s.size ≤ 281474976710656) (r : List UInt8) (HR : Hid (s.data.toList.drop p = r)) (he : eodErr r 58 = 0) (h1 : p ≤ s.size) (hk1 : digRun r < r.length)
    (l : List UInt8) (hlt : (s.data.toList.drop p).take (digRun r) = l) (m : Nat) (hm : m ≤ 9223372036854775807) (hl : Lib.atoiAll l = .ok (m : Int)) (w : World) (ht : Tabs w) :
    Calls Tryz.prog 134 #[.string s, .int .i64 p] w fun e w' =>
      ((16384 < m ∧ e = .returned (.tuple #[.string ⟨#[]⟩, .int .i64 0, .int .i64 4])) ∨ (m ≤ 16384 ∧ s.size - (p + digRun r + 1) < m ∧ e = .returned (.tuple #[.string ⟨#[]⟩, .int .i64 0, .int .i64 5])) ∨
       (m ≤ 16384 ∧ m ≤ s.size - (p + digRun r + 1) ∧ e = .returned (.tuple #[.string ⟨((s.data.toList.drop (p + digRun r + 1)).take m).toArray⟩, .int .i64 ((p + (digRun r + 1 + m) : Nat) : Int), .int .i64 0]))) ∧ Below w.heap.size w w' := by
  have HS : Hid (s.size ≤ maxLen) := by show s.size ≤ 9223372036854775807; omega
  have HE : Hid (eodErr r 58 = 0) := he
  have HL : Hid ((s.data.toList.drop p).take (digRun r) = l) := hlt
  have hrl : r.length = s.size - p := by rw [← HR.out]; simp
  have hde : p + digRun r + 1 ≤ s.size := by omega
  have HLL : Hid (Lib.atoiAll l = .ok (m : Int)) := hl
  have hrs := rest_size s (p + digRun r + 1) hde
  clear he hlt hl hrl
  go_enter Tryz.func134, Tryz.ntmps134
  go_wp2_with fail
  refine (place_yes s p (by omega) _).mono ?_
  rintro e w' ⟨rfl, hw⟩
  subst hw
  go_wp2_with fail
  refine (eod_ok s _ p (by omega) (by omega) 58 HS.out _ r HR HE.out).mono ?_
  rintro e w' ⟨rfl, hw⟩
  subst hw
  go_wp2_with fail
  refine (atoi_at (s.extract p (p + digRun r)) l (by rw [Lib.extract_data, show p + digRun r - p = digRun r by omega]; exact HL.out) (Nat.le_trans (extract_size _ _ _) hs) (Or.inl ⟨_, HLL.out⟩) _ ht).mono ?_
  rintro e w2 ⟨(⟨v, hv, rfl⟩ | ⟨hr, v, tt, pp, rfl⟩), hb⟩
  · rw [HLL.out] at hv
    obtain rfl : (m : Int) = v := by injection hv
    clear hv HLL
    have HB : Hid (Below w'.heap.size w' w2) := hb
    clear hb
    by_cases hbig : 16384 < m
    · have hb2 : decide (16384 < (m : Int)) = true := by simp; omega
      go_wp2
      go_ret3
      exact ⟨.inl ⟨hbig, rfl⟩, HB.out⟩
    · have hb2 : decide (16384 < (m : Int)) = false := by simp; omega
      by_cases hsh : s.size - (p + digRun r + 1) < m
      · have hb3 : decide (((s.size - (p + digRun r + 1) : Nat) : Int) < (m : Int)) = true := by simp; omega
        go_wp2
        go_ret3
        exact ⟨.inr (.inl ⟨by omega, hsh, rfl⟩), HB.out⟩
      · have hb3 : decide (((s.size - (p + digRun r + 1) : Nat) : Int) < (m : Int)) = false := by simp; omega
        have HX : Hid ((s.extract (p + digRun r + 1) s.size).extract 0 m = ⟨((s.data.toList.drop (p + digRun r + 1)).take m).toArray⟩) := by
          show _ = _
          rw [← bytes_eta ((s.extract (p + digRun r + 1) s.size).extract 0 m), Lib.extract_data, Lib.extract_data, List.drop_zero, Nat.sub_zero, List.take_take, Nat.min_eq_left (by omega)]
        go_wp2_with fail
        refine (clone_any _ _ (Nat.le_trans (extract_size _ _ _) (Nat.le_trans (extract_size _ _ _) hs))).mono ?_
        rintro e w3 ⟨rfl, hb4⟩
        have HB3 : Hid (Below w'.heap.size w' w3) := below_two HB.out hb4
        clear hb4 HB
        go_wp2
        go_ret3
        refine ⟨.inr (.inr ⟨by omega, by omega, ?_⟩), HB3.out⟩
        rw [← HX.out]
        simp; omega
  · rw [HLL.out] at hr; cases hr

/-- The place behind a text, or 0 beside an error. -/
def txtTo (p : Nat) (r : List UInt8) : Nat := if (readTxt r).1 = 0 then p + (readTxt r).2.2 else 0

theorem readText_any (s : ByteArray) (p : Nat) (h : p ≤ s.size) (hs : s.size ≤ 281474976710656) (w : World) (ht : Tabs w) (r : List UInt8) (hr : s.data.toList.drop p = r) :
    Calls Tryz.prog 134 #[.string s, .int .i64 p] w fun e w' => e = .returned (.tuple #[.string ⟨(readTxt r).2.1.toArray⟩, .int .i64 (txtTo p r), .int .i64 (readTxt r).1]) ∧ Below w.heap.size w w' := by
  have hlen : r.length = s.size - p := by rw [← hr]; simp
  have hsm : s.size ≤ maxLen := by show s.size ≤ 9223372036854775807; omega
  by_cases he : eodErr r 58 = 0
  · obtain ⟨k0, k1, -, k3⟩ := eodz he
    have hne : r.take (digRun r) ≠ [] := take_ne k0 (by omega)
    have e0 : readTxt r = txtOf (Lib.atoiAll (r.take (digRun r))) (digRun r) r := by unfold readTxt; rw [he, if_neg (by simp)]
    rcases atoi_digits (r.take (digRun r)) (digRun_all r) hne with ⟨v, hv⟩ | hv
    · obtain ⟨v0, v1, -⟩ := atoi_once (r.take (digRun r)) (digRun_all r) hne (fun h1 => by rw [getD_take0 k0]; exact k3 (by rw [List.length_take] at h1; omega)) v hv
      obtain ⟨m, rfl⟩ : ∃ m : Nat, v = m := ⟨v.toNat, by omega⟩
      refine (rt_num s p hs r hr he h k1 (r.take (digRun r)) (by rw [hr]) m (by omega) hv w ht).mono ?_
      rw [hv] at e0
      simp only [txtOf, Int.toNat_natCast] at e0
      rintro e w' ⟨(⟨c1, rfl⟩ | ⟨c1, c2, rfl⟩ | ⟨c1, c2, rfl⟩), hb⟩
      · rw [if_pos (by omega)] at e0
        rw [show txtTo p r = 0 by unfold txtTo; rw [e0]; rfl, e0]
        exact ⟨rfl, hb⟩
      · rw [if_neg (by omega), if_pos (by omega)] at e0
        rw [show txtTo p r = 0 by unfold txtTo; rw [e0]; rfl, e0]
        exact ⟨rfl, hb⟩
      · rw [if_neg (by omega), if_neg (by omega)] at e0
        have e1 : s.data.toList.drop (p + digRun r + 1) = r.drop (digRun r + 1) := by rw [← hr, List.drop_drop]; congr 1
        rw [show txtTo p r = p + (digRun r + 1 + m) by unfold txtTo; rw [e0]; rfl, e0, e1]
        exact ⟨rfl, hb⟩
    · refine (rt_range s p hs r hr he h (r.take (digRun r)) (by rw [hr]) hv w ht).mono ?_
      rw [hv] at e0
      simp only [txtOf] at e0
      rintro e w' ⟨rfl, hb⟩
      rw [show txtTo p r = 0 by unfold txtTo; rw [e0]; rfl, e0]
      exact ⟨rfl, hb⟩
  · have e0 : readTxt r = (eodErr r 58, [], 0) := by unfold readTxt; rw [if_pos he]
    refine (rt_bad s p h hsm r hr _ rfl he w).mono ?_
    rintro e w' ⟨rfl, rfl⟩
    rw [show txtTo p r = 0 by unfold txtTo; rw [e0, if_neg he], e0]
    exact ⟨rfl, Below.refl _ _⟩

end Go.Proofs.YtidlgecognedlaaGreatDoor.Lay
