/-
  What lay.ReadNumber answers, at every place of every text.
-/
import Derived.Test.YtidlgecognedlaaGreatDoorLrdn
namespace Go.Proofs.YtidlgecognedlaaGreatDoor.Lay
open Go.RowKit Go.Joins
set_option maxRecDepth 100000

theorem eod_ok (s : ByteArray) (q : Int) (p : Nat) (hq : q = p) (h : p ≤ s.size) (c : UInt8) (hs : s.size ≤ maxLen) (w : World) (r : List UInt8) (HR : Hid (s.data.toList.drop p = r)) (he : eodErr r c = 0) :
    Calls Tryz.prog 144 #[.string s, .int .i64 q, .int .u8 c.toNat] w fun e w' => e = .returned (.tuple #[.int .i64 ((p + digRun r : Nat) : Int), .int .i64 0]) ∧ w' = w := by
  subst hq
  refine (eod_any s p h c hs w r HR).mono ?_
  rintro e w' ⟨rfl, rfl⟩
  rw [eodTo_ok he, he]
  exact ⟨rfl, rfl⟩

theorem eod_bad (s : ByteArray) (q : Int) (p : Nat) (hq : q = p) (h : p ≤ s.size) (c : UInt8) (hs : s.size ≤ maxLen) (w : World) (r : List UInt8) (HR : Hid (s.data.toList.drop p = r)) (n : Nat) (he : eodErr r c = n) (hn : n ≠ 0) :
    Calls Tryz.prog 144 #[.string s, .int .i64 q, .int .u8 c.toNat] w fun e w' => e = .returned (.tuple #[.int .i64 0, .int .i64 n]) ∧ w' = w := by
  subst hq
  refine (eod_any s p h c hs w r HR).mono ?_
  rintro e w' ⟨rfl, rfl⟩
  rw [eodTo_err he hn, he]
  exact ⟨rfl, rfl⟩

theorem pre_minus (s : ByteArray) (p : Nat) (w : World) (b : Bool) (hb : isNeg (s.data.toList.drop p) = b) :
    Calls Tryz.prog 143 #[.string (s.extract p s.size), .string ⟨#[45]⟩] w fun e w' => e = .returned (.bool b) ∧ w' = w := by
  refine (Tryz.strings_HasPrefix _ _ w).mono ?_
  rintro e w' ⟨rfl, rfl⟩
  rw [Lib.extract_data, List.take_of_length_le (by simp), ← hb]
  refine ⟨?_, rfl⟩
  congr 2
  generalize s.data.toList.drop p = l
  cases l with
  | nil => rfl
  | cons x l => simp only [Lib.hasPrefix, isNeg, List.isPrefixOf, List.getD_cons_zero, Bool.and_true]; rw [Bool.eq_iff_iff, beq_iff_eq, beq_iff_eq]; exact eq_comm

set_option maxHeartbeats 400000 in
theorem rd_out (s : ByteArray) (p : Int) (h : p < 0 ∨ (s.size : Int) < p) (w : World) :
    Calls Tryz.prog 96 #[.string s, .int .i64 p] w fun e w' => e = .returned (.tuple #[.int .i64 0, .int .i64 0, .int .i64 3]) ∧ w' = w := by
  go_enter Tryz.func96, Tryz.ntmps96
  go_wp2_with fail
  refine (place_no s p h _).mono ?_
  rintro e w' ⟨rfl, rfl⟩
  go_wp2
  go_ret3
  exact ⟨rfl, rfl⟩

set_option maxHeartbeats 400000 in
theorem rd_negbad (s : ByteArray) (p : Nat) (h : p < s.size) (hs : s.size ≤ maxLen) (hneg : isNeg (s.data.toList.drop p) = true) (r : List UInt8) (HR : Hid (s.data.toList.drop (p + 1) = r)) (n : Nat) (he : eodErr r 59 = n) (hn : n ≠ 0) (w : World) :
    Calls Tryz.prog 96 #[.string s, .int .i64 p] w fun e w' => e = .returned (.tuple #[.int .i64 0, .int .i64 0, .int .i64 n]) ∧ w' = w := by
  have HS : Hid (s.size ≤ maxLen) := hs
  unfold maxLen at hs
  have HE : Hid (eodErr r 59 = n) := he
  have HG : Hid (isNeg (s.data.toList.drop p) = true) := hneg
  have hnb : ((n : Int) != 0) = true := by rw [bne_iff_ne]; omega
  clear he hneg
  go_enter Tryz.func96, Tryz.ntmps96
  go_wp2_with fail
  refine (place_yes s p (by omega) _).mono ?_
  rintro e w' ⟨rfl, hw⟩
  subst hw
  go_wp2_with fail
  refine (pre_minus s p _ true HG.out).mono ?_
  rintro e w' ⟨rfl, hw⟩
  subst hw
  go_wp2_with fail
  refine (eod_bad s _ (p + 1) (by omega) (by omega) 59 HS.out _ r HR n HE.out hn).mono ?_
  rintro e w' ⟨rfl, hw⟩
  subst hw
  go_wp2
  go_ret3
  exact ⟨rfl, rfl⟩

set_option maxHeartbeats 400000 in
theorem rd_posbad (s : ByteArray) (p : Nat) (h : p ≤ s.size) (hs : s.size ≤ maxLen) (hneg : isNeg (s.data.toList.drop p) = false) (r : List UInt8) (HR : Hid (s.data.toList.drop p = r)) (n : Nat) (he : eodErr r 59 = n) (hn : n ≠ 0) (w : World) :
    Calls Tryz.prog 96 #[.string s, .int .i64 p] w fun e w' => e = .returned (.tuple #[.int .i64 0, .int .i64 0, .int .i64 n]) ∧ w' = w := by
  have HS : Hid (s.size ≤ maxLen) := hs
  unfold maxLen at hs
  have HE : Hid (eodErr r 59 = n) := he
  have HG : Hid (isNeg (s.data.toList.drop p) = false) := hneg
  have hnb : ((n : Int) != 0) = true := by rw [bne_iff_ne]; omega
  clear he hneg
  go_enter Tryz.func96, Tryz.ntmps96
  go_wp2_with fail
  refine (place_yes s p (by omega) _).mono ?_
  rintro e w' ⟨rfl, hw⟩
  subst hw
  go_wp2_with fail
  refine (pre_minus s p _ false HG.out).mono ?_
  rintro e w' ⟨rfl, hw⟩
  subst hw
  go_wp2_with fail
  refine (eod_bad s _ p (by omega) (by omega) 59 HS.out _ r HR n HE.out hn).mono ?_
  rintro e w' ⟨rfl, hw⟩
  subst hw
  go_wp2
  go_ret3
  exact ⟨rfl, rfl⟩

set_option maxHeartbeats 400000 in
theorem rd_negzero (s : ByteArray) (p : Nat) (hs : s.size ≤ maxLen) (hneg : isNeg (s.data.toList.drop p) = true) (r : List UInt8) (HR : Hid (s.data.toList.drop (p + 1) = r)) (he : eodErr r 59 = 0) (h1 : p + 1 < s.size) (hz : s[p + 1] = 48) (w : World) :
    Calls Tryz.prog 96 #[.string s, .int .i64 p] w fun e w' => e = .returned (.tuple #[.int .i64 0, .int .i64 0, .int .i64 6]) ∧ w' = w := by
  have HS : Hid (s.size ≤ maxLen) := hs
  unfold maxLen at hs
  have HE : Hid (eodErr r 59 = 0) := he
  have HG : Hid (isNeg (s.data.toList.drop p) = true) := hneg
  have hzb : ((s[p + 1].toNat : Int) == 48) = true := by rw [beq_iff_eq, hz]; rfl
  clear he hneg hz
  go_enter Tryz.func96, Tryz.ntmps96
  go_wp2_with fail
  refine (place_yes s p (by omega) _).mono ?_
  rintro e w' ⟨rfl, hw⟩
  subst hw
  go_wp2_with fail
  refine (pre_minus s p _ true HG.out).mono ?_
  rintro e w' ⟨rfl, hw⟩
  subst hw
  go_wp2_with fail
  refine (eod_ok s _ (p + 1) (by omega) (by omega) 59 HS.out _ r HR HE.out).mono ?_
  rintro e w' ⟨rfl, hw⟩
  subst hw
  go_wp2
  go_ret3
  exact ⟨rfl, rfl⟩

/-- What Atoi answers at digits, with or without a '-'. -/
theorem atoi_at (x : ByteArray) (l : List UInt8) (hx : x.data.toList = l) (hlim : x.size ≤ 281474976710656) (hl : (∃ v, Lib.atoiAll l = .ok v) ∨ Lib.atoiAll l = .range) (w : World) (ht : Tabs w) :
    Calls Tryz.prog 145 #[.string x] w fun e w' => ((∃ v, Lib.atoiAll l = .ok v ∧ e = .returned (.tuple #[.int .i64 v, .nilIface])) ∨ (Lib.atoiAll l = .range ∧ ∃ v tt pp, e = .returned (.tuple #[.int .i64 v, .iface tt pp]))) ∧ Below w.heap.size w w' := by
  subst hx
  rcases hl with ⟨v, hv⟩ | hr
  · refine (Tryz.strconv_Atoi_ok x (by omega) v hv w).mono ?_
    rintro e w' ⟨rfl, hw⟩
    refine ⟨.inl ⟨v, hv, rfl⟩, ?_⟩
    rcases hw with rfl | ⟨t, rfl⟩
    · exact Below.refl _ _
    · exact below_bytesWorld _ _ _ _ (Nat.le_refl _)
  · obtain ⟨tp, p, hvar⟩ := ht.2
    refine (Tryz.strconv_Atoi_range_var x hlim hr tp p w hvar).mono ?_
    rintro e w' ⟨N, rfl, -, -, hb⟩
    exact ⟨.inr ⟨hr, _, _, _, rfl⟩, hb⟩

theorem extract_size (s : ByteArray) (a b : Nat) : (s.extract a b).size ≤ s.size := by
  have h := congrArg List.length (Lib.extract_data s a b)
  rw [List.length_take, List.length_drop] at h
  have e1 : (s.extract a b).data.toList.length = (s.extract a b).size := by rw [Array.length_toList]; rfl
  have e2 : s.data.toList.length = s.size := by rw [Array.length_toList]; rfl
  omega

set_option maxHeartbeats 400000 in
theorem rd_neg (s : ByteArray) (p : Nat) (hs : s.size ≤ 281474976710656) (hneg : isNeg (s.data.toList.drop p) = true) (r : List UInt8) (HR : Hid (s.data.toList.drop (p + 1) = r)) (he : eodErr r 59 = 0) (h1 : p + 1 < s.size) (hz : s[p + 1] ≠ 48)
    (l : List UInt8) (hlt : (s.data.toList.drop p).take (1 + digRun r) = l) (hl : (∃ v, Lib.atoiAll l = .ok v) ∨ Lib.atoiAll l = .range) (w : World) (ht : Tabs w) :
    Calls Tryz.prog 96 #[.string s, .int .i64 p] w fun e w' => ((∃ v, Lib.atoiAll l = .ok v ∧ e = .returned (.tuple #[.int .i64 v, .int .i64 ((p + (1 + digRun r + 1) : Nat) : Int), .int .i64 0])) ∨ (Lib.atoiAll l = .range ∧ e = .returned (.tuple #[.int .i64 0, .int .i64 0, .int .i64 4]))) ∧ Below w.heap.size w w' := by
  have HS : Hid (s.size ≤ maxLen) := by show s.size ≤ 9223372036854775807; omega
  have HE : Hid (eodErr r 59 = 0) := he
  have HG : Hid (isNeg (s.data.toList.drop p) = true) := hneg
  have HL : Hid ((s.data.toList.drop p).take (1 + digRun r) = l) := hlt
  have hzb : ((s[p + 1].toNat : Int) == 48) = false := by
    rw [beq_eq_false_iff_ne]; intro h'; apply hz; apply UInt8.toNat_inj.1; show _ = 48; omega
  have hdl := digRun_le r
  have hrl : r.length = s.size - (p + 1) := by rw [← HR.out]; simp
  have hde : p + 1 + digRun r ≤ s.size := by omega
  have HLL : Hid ((∃ v, Lib.atoiAll l = .ok v) ∨ Lib.atoiAll l = .range) := hl
  clear he hneg hz hlt hl hrl
  go_enter Tryz.func96, Tryz.ntmps96
  go_wp2_with fail
  refine (place_yes s p (by omega) _).mono ?_
  rintro e w' ⟨rfl, hw⟩
  subst hw
  go_wp2_with fail
  refine (pre_minus s p _ true HG.out).mono ?_
  rintro e w' ⟨rfl, hw⟩
  subst hw
  go_wp2_with fail
  refine (eod_ok s _ (p + 1) (by omega) (by omega) 59 HS.out _ r HR HE.out).mono ?_
  rintro e w' ⟨rfl, hw⟩
  subst hw
  go_wp2_with fail
  refine (atoi_at (s.extract p (p + 1 + digRun r)) l (by rw [Lib.extract_data, show p + 1 + digRun r - p = 1 + digRun r by omega]; exact HL.out) (Nat.le_trans (extract_size _ _ _) hs) HLL.out _ ht).mono ?_
  rintro e w2 ⟨(⟨v, hv, rfl⟩ | ⟨hr, v, tt, pp, rfl⟩), hb⟩
  · have HV : Hid (Lib.atoiAll l = .ok v) := hv
    clear hv HLL
    go_wp2
    go_ret3
    exact ⟨.inl ⟨v, HV.out, by simp; omega⟩, hb⟩
  · have HV : Hid (Lib.atoiAll l = .range) := hr
    clear hr HLL
    go_wp2
    go_ret3
    exact ⟨.inr ⟨HV.out, rfl⟩, hb⟩

set_option maxHeartbeats 400000 in
theorem rd_pos (s : ByteArray) (p : Nat) (hs : s.size ≤ 281474976710656) (hneg : isNeg (s.data.toList.drop p) = false) (r : List UInt8) (HR : Hid (s.data.toList.drop p = r)) (he : eodErr r 59 = 0) (h1 : p ≤ s.size)
    (l : List UInt8) (hlt : (s.data.toList.drop p).take (0 + digRun r) = l) (hl : (∃ v, Lib.atoiAll l = .ok v) ∨ Lib.atoiAll l = .range) (w : World) (ht : Tabs w) :
    Calls Tryz.prog 96 #[.string s, .int .i64 p] w fun e w' => ((∃ v, Lib.atoiAll l = .ok v ∧ e = .returned (.tuple #[.int .i64 v, .int .i64 ((p + (0 + digRun r + 1) : Nat) : Int), .int .i64 0])) ∨ (Lib.atoiAll l = .range ∧ e = .returned (.tuple #[.int .i64 0, .int .i64 0, .int .i64 4]))) ∧ Below w.heap.size w w' := by
  have HS : Hid (s.size ≤ maxLen) := by show s.size ≤ 9223372036854775807; omega
  have HE : Hid (eodErr r 59 = 0) := he
  have HG : Hid (isNeg (s.data.toList.drop p) = false) := hneg
  have HL : Hid ((s.data.toList.drop p).take (0 + digRun r) = l) := hlt
  have hdl := digRun_le r
  have hrl : r.length = s.size - p := by rw [← HR.out]; simp
  have hde : p + digRun r ≤ s.size := by omega
  have HLL : Hid ((∃ v, Lib.atoiAll l = .ok v) ∨ Lib.atoiAll l = .range) := hl
  clear he hneg hlt hl hrl
  go_enter Tryz.func96, Tryz.ntmps96
  go_wp2_with fail
  refine (place_yes s p (by omega) _).mono ?_
  rintro e w' ⟨rfl, hw⟩
  subst hw
  go_wp2_with fail
  refine (pre_minus s p _ false HG.out).mono ?_
  rintro e w' ⟨rfl, hw⟩
  subst hw
  go_wp2_with fail
  refine (eod_ok s _ p (by omega) (by omega) 59 HS.out _ r HR HE.out).mono ?_
  rintro e w' ⟨rfl, hw⟩
  subst hw
  go_wp2_with fail
  refine (atoi_at (s.extract p (p + digRun r)) l (by rw [Lib.extract_data, show p + digRun r - p = 0 + digRun r by omega]; exact HL.out) (Nat.le_trans (extract_size _ _ _) hs) HLL.out _ ht).mono ?_
  rintro e w2 ⟨(⟨v, hv, rfl⟩ | ⟨hr, v, tt, pp, rfl⟩), hb⟩
  · have HV : Hid (Lib.atoiAll l = .ok v) := hv
    clear hv HLL
    go_wp2
    go_ret3
    exact ⟨.inl ⟨v, HV.out, by simp; omega⟩, hb⟩
  · have HV : Hid (Lib.atoiAll l = .range) := hr
    clear hr HLL
    go_wp2
    go_ret3
    exact ⟨.inr ⟨HV.out, rfl⟩, hb⟩

/-- The place behind a number, or 0 beside an error. -/
def numTo (p : Nat) (r : List UInt8) : Nat := if (readNum r).1 = 0 then p + (readNum r).2.2 else 0

theorem atoi_digits (l : List UInt8) (hl : ∀ c ∈ l, isDig c = true) (hne : l ≠ []) : (∃ v, Lib.atoiAll l = .ok v) ∨ Lib.atoiAll l = .range := by
  have hp := parse_digits l hl 0
  cases l with
  | nil => exact absurd rfl hne
  | cons c r =>
    have hc := isDig_ne (hl c (by simp))
    simp only [Lib.atoiAll]
    rw [if_neg (by omega)]
    simp only [Lib.parseMag]
    rw [if_neg (by simp)]
    rcases hp with ⟨u, hu⟩ | hu
    · rw [hu]
      simp only
      split
      · exact .inr rfl
      · split
        · exact .inr rfl
        · exact .inl ⟨_, rfl⟩
    · rw [hu]; exact .inr rfl

theorem atoi_negdigits (l : List UInt8) (hl : ∀ c ∈ l, isDig c = true) (hne : l ≠ []) : (∃ v, Lib.atoiAll (45 :: l) = .ok v) ∨ Lib.atoiAll (45 :: l) = .range := by
  have hp := parse_digits l hl 0
  simp only [Lib.atoiAll]
  rw [if_pos (Or.inr (by decide))]
  simp only [Lib.parseMag]
  rw [if_neg hne]
  rcases hp with ⟨u, hu⟩ | hu
  · rw [hu]
    simp only
    split
    · exact .inr rfl
    · split
      · exact .inr rfl
      · exact .inl ⟨_, rfl⟩
  · rw [hu]; exact .inr rfl

theorem eod_zero {r : List UInt8} {c : UInt8} (h : eodErr r c = 0) : 0 < digRun r ∧ digRun r < r.length ∧ r.getD (digRun r) 0 = c ∧ (1 < digRun r → r.getD 0 0 ≠ 48) := by
  unfold eodErr at h
  have hl := digRun_le r
  split at h
  · omega
  · split at h
    · omega
    · rename_i h1 h2
      refine ⟨?_, by omega, ?_, ?_⟩
      · rcases Nat.eq_zero_or_pos (digRun r) with h3 | h3
        · exact absurd (Or.inl h3) h2
        · exact h3
      · by_cases h3 : r.getD (digRun r) 0 = c
        · exact h3
        · exact absurd (Or.inr (Or.inl h3)) h2
      · intro h3 h4; exact h2 (Or.inr (Or.inr ⟨h3, h4⟩))

theorem neg_form {r : List UInt8} (h : isNeg r = true) : ∃ r', r = 45 :: r' := by
  cases r with
  | nil => simp [isNeg] at h
  | cons c r => simp [isNeg] at h; exact ⟨r, by rw [h]⟩

theorem readNumber_any (s : ByteArray) (p : Nat) (h : p ≤ s.size) (hs : s.size ≤ 281474976710656) (w : World) (ht : Tabs w) (r : List UInt8) (hr : s.data.toList.drop p = r) :
    Calls Tryz.prog 96 #[.string s, .int .i64 p] w fun e w' => e = .returned (.tuple #[.int .i64 (readNum r).2.1, .int .i64 (numTo p r), .int .i64 (readNum r).1]) ∧ Below w.heap.size w w' := by
  have hlen : r.length = s.size - p := by rw [← hr]; simp
  have hsm : s.size ≤ maxLen := by show s.size ≤ 9223372036854775807; omega
  cases hneg : isNeg r with
  | true =>
    obtain ⟨r', rfl⟩ := neg_form hneg
    have hp : p < s.size := by simp at hlen; omega
    have hr' : s.data.toList.drop (p + 1) = r' := by rw [← List.drop_drop, hr]; rfl
    have hnl : negLen (45 :: r') = 1 := by unfold negLen; rw [if_pos hneg]
    have hd : (45 :: r').drop 1 = r' := rfl
    by_cases he : eodErr r' 59 = 0
    · obtain ⟨k0, k1, -, -⟩ := eod_zero he
      have h1 : p + 1 < s.size := by simp at hlen; omega
      have hg : r'.getD 0 0 = s[p + 1] := by rw [← byte_drop s (p + 1) 0 (by omega), hr']
      by_cases hz : s[p + 1] = 48
      · have e : readNum (45 :: r') = (6, 0, 0) := by
          unfold readNum; rw [hnl, hd, he, if_neg (by simp), if_pos ⟨hneg, by rw [hg, hz]⟩]
        refine (rd_negzero s p hsm (by rw [hr]; exact hneg) r' hr' he h1 hz w).mono ?_
        rintro e w' ⟨rfl, rfl⟩
        rw [show numTo p (45 :: r') = 0 by unfold numTo; rw [‹readNum _ = _›]; rfl, ‹readNum _ = _›]
        exact ⟨rfl, Below.refl _ _⟩
      · have ht1 : (45 :: r').take (1 + digRun r') = 45 :: r'.take (digRun r') := by rw [Nat.add_comm, List.take_succ_cons]
        have hl := atoi_negdigits (r'.take (digRun r')) (digRun_all r') (by intro h0; have := congrArg List.length h0; rw [List.length_take, List.length_nil] at this; omega)
        refine (rd_neg s p hs (by rw [hr]; exact hneg) r' hr' he h1 hz (45 :: r'.take (digRun r')) (by rw [hr, ht1]) hl w ht).mono ?_
        have e0 : readNum (45 :: r') = numOf (Lib.atoiAll (45 :: r'.take (digRun r'))) (1 + digRun r' + 1) := by
          unfold readNum; rw [hnl, hd, he, if_neg (by simp), if_neg (by rw [hg]; exact fun h' => hz h'.2), ht1]
        rintro e w' ⟨(⟨v, hv, rfl⟩ | ⟨hv, rfl⟩), hb⟩
        · rw [hv] at e0
          simp only [numOf] at e0
          rw [show numTo p (45 :: r') = p + (1 + digRun r' + 1) by unfold numTo; rw [e0]; rfl, e0]
          exact ⟨rfl, hb⟩
        · rw [hv] at e0
          simp only [numOf] at e0
          rw [show numTo p (45 :: r') = 0 by unfold numTo; rw [e0]; rfl, e0]
          exact ⟨rfl, hb⟩
    · have e0 : readNum (45 :: r') = (eodErr r' 59, 0, 0) := by unfold readNum; rw [hnl, hd, if_pos he]
      refine (rd_negbad s p hp hsm (by rw [hr]; exact hneg) r' hr' _ rfl he w).mono ?_
      rintro e w' ⟨rfl, rfl⟩
      rw [show numTo p (45 :: r') = 0 by unfold numTo; rw [e0, if_neg he], e0]
      exact ⟨rfl, Below.refl _ _⟩
  | false =>
    have hnl : negLen r = 0 := by unfold negLen; rw [hneg]; rfl
    by_cases he : eodErr r 59 = 0
    · obtain ⟨k0, k1, -, -⟩ := eod_zero he
      have hl := atoi_digits (r.take (digRun r)) (digRun_all r) (by intro h0; have := congrArg List.length h0; rw [List.length_take, List.length_nil] at this; omega)
      refine (rd_pos s p hs (by rw [hr]; exact hneg) r hr he h (r.take (digRun r)) (by rw [hr, Nat.zero_add]) hl w ht).mono ?_
      have e0 : readNum r = numOf (Lib.atoiAll (r.take (digRun r))) (0 + digRun r + 1) := by
        unfold readNum; rw [hnl, List.drop_zero, he, if_neg (by simp), if_neg (by rw [hneg]; simp), Nat.zero_add]
      rintro e w' ⟨(⟨v, hv, rfl⟩ | ⟨hv, rfl⟩), hb⟩
      · rw [hv] at e0
        simp only [numOf] at e0
        rw [show numTo p r = p + (0 + digRun r + 1) by unfold numTo; rw [e0]; rfl, e0]
        exact ⟨rfl, hb⟩
      · rw [hv] at e0
        simp only [numOf] at e0
        rw [show numTo p r = 0 by unfold numTo; rw [e0]; rfl, e0]
        exact ⟨rfl, hb⟩
    · have e0 : readNum r = (eodErr r 59, 0, 0) := by unfold readNum; rw [hnl, List.drop_zero, if_pos he]
      refine (rd_posbad s p h hsm (by rw [hr]; exact hneg) r hr _ rfl he w).mono ?_
      rintro e w' ⟨rfl, rfl⟩
      rw [show numTo p r = 0 by unfold numTo; rw [e0, if_neg he], e0]
      exact ⟨rfl, Below.refl _ _⟩

end Go.Proofs.YtidlgecognedlaaGreatDoor.Lay
