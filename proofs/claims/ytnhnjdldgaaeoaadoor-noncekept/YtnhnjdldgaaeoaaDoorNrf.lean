/-
  What the reference's ReadNumber answers at place 0.
-/
import Derived.Test.YtnhnjdldgaaeoaaDoorNrr
import Derived.Test.YtnhnjdldgaaeoaaDoorNpl
namespace Go.Proofs.YtnhnjdldgaaeoaaDoor
open Go Go.RowKit
set_option maxRecDepth 100000

theorem rdF_step (u : Nat) (c : UInt8) (l : List UInt8) (hc : isDig c = true) : (9223372036854775808 < u * 10 + (c.toNat - 48) → rdF (-(u : Int)) (c :: l) = none) ∧ (u * 10 + (c.toNat - 48) ≤ 9223372036854775808 → rdF (-(u : Int)) (c :: l) = rdF (-((u * 10 + (c.toNat - 48) : Nat) : Int)) l) := by
  have hd := (isDig_iff c).1 hc
  have ec : (c.toNat : Int) - 48 = ((c.toNat - 48 : Nat) : Int) := by omega
  have ht := tdiv_ten u (c.toNat - 48) (by omega)
  rw [rdF, ec]
  constructor
  · intro h
    rw [if_pos (ht.2 h)]
  · intro h
    rw [if_neg (fun h9 => by have := ht.1 h9; omega)]
    congr 1
    omega
theorem tdiv_is (u : Nat) (c : UInt8) (hc : isDig c = true) : ((-(u : Int)) < (-9223372036854775808 + ((c.toNat : Int) - 48)).tdiv 10) ↔ 9223372036854775808 < u * 10 + (c.toNat - 48) := by
  have hd := (isDig_iff c).1 hc
  have ec : (c.toNat : Int) - 48 = ((c.toNat - 48 : Nat) : Int) := by omega
  rw [ec]
  exact tdiv_ten u _ (by omega)
/-- What is left of the digits. -/
theorem dig_cons (r : List UInt8) (k : Nat) (h : k < digRun r) : (r.take (digRun r)).drop k = r.getD k 0 :: (r.take (digRun r)).drop (k + 1) := by
  have hl := digRun_le r
  have h9 : k < (r.take (digRun r)).length := by rw [List.length_take]; omega
  rw [List.drop_eq_getElem_cons h9, List.getElem_take]
  congr 1
  simp [List.getD, List.getElem?_eq_getElem (show k < r.length by omega)]
theorem ret_three {a b c a' b' c' : Int} (h1 : a = a') (h2 : b = b') (h3 : c = c') : Ending.returned (.tuple #[.int .i64 a, .int .i64 b, .int .i64 c]) = .returned (.tuple #[.int .i64 a', .int .i64 b', .int .i64 c']) := by rw [h1, h2, h3]

set_option maxHeartbeats 2000000 in
theorem refRead_neg (s : ByteArray) (hs : s.size ≤ maxLen) (w : World) (t : List UInt8) (HT : Hid (s.data.toList = t)) (hneg : isNeg t = true) :
    Calls Tryd.prog 17 #[.string s, .int .i64 0] w fun e w' => e = .returned (.tuple #[.int .i64 (readNum t).2.1, .int .i64 (Lay.numTo 0 t), .int .i64 (readNum t).1]) ∧ w' = w := by
  have hpos : 0 < s.size := by
    obtain ⟨r', hr'⟩ := Lay.neg_form hneg
    have h9 := congrArg List.length HT.out
    rw [hr'] at h9
    simp at h9
    omega
  have q0 : ((s[0].toNat : Int) == 45) = true := by
    have h9 := Lay.byte_at s 0 hpos
    rw [HT.out] at h9
    unfold isNeg at hneg
    rw [h9] at hneg
    rw [beq_iff_eq] at hneg ⊢
    rw [hneg]
    rfl
  have qs : decide ((0 : Int) < (s.size : Int)) = true := by simp; omega
  have hnl : negLen t = 1 := by unfold negLen; rw [hneg]; rfl
  have hrn := readNum_ref t
  rw [hnl, hneg] at hrn
  obtain ⟨r, hr⟩ : ∃ r, r = t.drop 1 := ⟨_, rfl⟩
  rw [← hr] at hrn
  have HR : Hid (s.data.toList.drop 1 = r) := by show _ = _; rw [HT.out, hr]
  have hl := digRun_le r
  have hl2 : r.length = s.size - 1 := by rw [← HR.out]; simp
  have HDg := digRun_at r
  have HEn := hid (refEnd_any s 1 (by omega) hs w r HR 1 rfl)
  have HBd : Hid (∀ v u : Int, v = 1 → u = ((1 + digRun r : Nat) : Int) → Calls Tryd.prog 33 #[.string s, .int .i64 v, .int .i64 u, .int .u8 59] w fun e w' => e = .returned (.int .i64 (eodErr r 59)) ∧ w' = w) := fun v u hv hu => refBad_any s 1 (by omega) 59 hs w r HR v u hv hu
  have hms : s.size ≤ 9223372036854775807 := hs
  have HRn := hid hrn
  obtain ⟨N, hN⟩ : ∃ N, N = readNum t := ⟨_, rfl⟩
  rw [← hN] at HRn
  unfold Lay.numTo
  rw [← hN]
  obtain ⟨A1, hA1⟩ : ∃ A, A = N.2.1 := ⟨_, rfl⟩
  obtain ⟨A2, hA2⟩ : ∃ A, A = (if N.1 = 0 then 0 + N.2.2 else 0) := ⟨_, rfl⟩
  obtain ⟨A3, hA3⟩ : ∃ A, A = N.1 := ⟨_, rfl⟩
  rw [← hA1, ← hA2, ← hA3]
  have HA : Hid (A1 = N.2.1 ∧ A2 = (if N.1 = 0 then 0 + N.2.2 else 0) ∧ A3 = N.1) := ⟨hA1, hA2, hA3⟩
  clear hrn hN hr hA1 hA2 hA3
  by_cases hE : eodErr r 59 = 0
  · rw [if_neg (fun h => h hE)] at HRn
    obtain ⟨z0, z1, z2, z3⟩ := Lay.eod_zero hE
    rw [hE] at HBd
    have hx : s.extract 1 (1 + digRun r) = ⟨(r.take (digRun r)).toArray⟩ := by
      apply ByteArray.ext
      have h9 := Lib.extract_data s 1 (1 + digRun r)
      rw [show 1 + digRun r - 1 = digRun r by omega, HR.out] at h9
      rw [← h9]
    have hg0 : r.getD 0 0 = s[1] := by rw [← Lay.byte_drop s 1 0 (by omega), HR.out]
    by_cases hz : r.getD 0 0 = 48
    · rw [if_pos ⟨rfl, hz⟩] at HRn
      have hd1 : digRun r = 1 := by
        by_cases h9 : 1 < digRun r
        · exact absurd hz (z3 h9)
        · omega
      have hx2 : s.extract 1 2 = ⟨#[48]⟩ := by
        rw [hd1] at hx
        rw [hx]
        congr 1
        rw [show r.take 1 = [48] from by
          cases r with
          | nil => simp at z1
          | cons c l => simp at hz; simp [hz]]
      rw [hd1] at HEn HBd
      clear hx hz hg0 z1 z2 z3 z0 HDg
      have hsz2 : 2 ≤ s.size := by omega
      go_enter Tryd.func17, Tryd.ntmps17
      go_wp2_with fail
      refine HEn.out.mono ?_
      rintro e W ⟨rfl, hW⟩
      subst W
      go_wp2_with fail
      refine (HBd.out _ _ (by omega) (by omega)).mono ?_
      rintro e W ⟨rfl, hW⟩
      subst W
      go_wp2
      go_ret3
      obtain ⟨f1, f2, f3⟩ := HA.out
      rw [HRn.out] at f1 f2 f3
      exact ⟨ret_three f1.symm (by rw [f2]; rfl) (by rw [f3]; rfl), rfl⟩
    · rw [if_neg (fun h => hz h.2)] at HRn
      have hxn : ¬ (s.extract 1 (1 + digRun r) = ⟨#[48]⟩) := by
        rw [hx]
        intro h9
        have h8 : r.take (digRun r) = [48] := by
          have h7 := congrArg (fun b => b.data.toList) h9
          simpa using h7
        apply hz
        cases r with
        | nil => simp at z1
        | cons c l =>
          have h6 : ((c :: l).take (digRun (c :: l)))[0]? = some 48 := by rw [h8]; rfl
          rw [List.getElem?_take, if_pos z0] at h6
          simpa using h6
      have hxt : ((s.extract 1 (1 + digRun r)).toList == [48]) = false := by
        rw [beq_eq_false_iff_ne]
        intro h9
        apply hxn
        apply ByteArray.ext
        rw [ByteArray.toList_eq] at h9
        have h8 : (s.extract 1 (1 + digRun r)).data = (s.extract 1 (1 + digRun r)).data.toList.toArray := by rw [Array.toArray_toList]
        rw [h8, h9]
      clear hx hz hg0 z2 z3 hxn
      go_enter Tryd.func17, Tryd.ntmps17
      go_wp2_with fail
      refine HEn.out.mono ?_
      rintro e W ⟨rfl, hW⟩
      subst W
      go_wp2_with fail
      refine (HBd.out _ _ (by omega) (by omega)).mono ?_
      rintro e W ⟨rfl, hW⟩
      subst W
      go_wp2
      obtain ⟨M, hM⟩ : ∃ M, M = rdF 0 (r.take (digRun r)) := ⟨_, rfl⟩
      rw [← hM] at HRn
      have HM0 : Hid (M = rdF (-((0 : Nat) : Int)) ((r.take (digRun r)).drop 0)) := by show _ = _; rw [hM]; rfl
      clear hM
      go_loop [10, 11] (fun n i => ∃ k u : Nat, k ≤ digRun r ∧ u ≤ 9223372036854775808 ∧ n = .int .i64 (-(u : Int)) ∧ i = .int .i64 ((1 + k : Nat) : Int) ∧ Hid (M = rdF (-(u : Int)) ((r.take (digRun r)).drop k))) (fun _ i => 1 + digRun r - (intOf i).toNat)
      case atStart => exact ⟨0, 0, Nat.zero_le _, Nat.zero_le _, rfl, rfl, HM0⟩
      case round =>
        obtain ⟨k, u, hk, hu, rfl, rfl, HM⟩ := hrel
        clear HM0
        by_cases hlt : k < digRun r
        · have hd := HDg k hlt
          have hps : 1 + k < s.size := by omega
          have HC := dig_cons r k hlt
          have hbd : r.getD k 0 = s[1 + k] := by rw [← Lay.byte_drop s 1 k hps, HR.out]
          rw [hbd] at hd HC
          have hst := rdF_step u s[1 + k] ((r.take (digRun r)).drop (k + 1)) hd
          rw [← HC] at hst
          have HSt := hid hst
          have htd := tdiv_is u s[1 + k] hd
          have hd2 := (isDig_iff _).1 hd
          clear hst HC hbd hd HDg
          by_cases hbig : 9223372036854775808 < u * 10 + (s[1 + k].toNat - 48)
          · have bb : decide (-(u : Int) < (-9223372036854775808 + ((s[1 + k].toNat : Int) - 48)).tdiv 10) = true := decide_eq_true (htd.2 hbig)
            have HMn : Hid (M = none) := HM.out.trans (HSt.out.1 hbig)
            clear htd HSt HM
            go_wp2
            go_ret3
            obtain ⟨f1, f2, f3⟩ := HA.out
            rw [HRn.out, HMn.out] at f1 f2 f3
            exact ⟨ret_three f1.symm (by rw [f2]; rfl) (by rw [f3]; rfl), rfl⟩
          · have bb : decide (-(u : Int) < (-9223372036854775808 + ((s[1 + k].toNat : Int) - 48)).tdiv 10) = false := decide_eq_false (fun h => hbig (htd.1 h))
            have HM2 : Hid (M = rdF (-((u * 10 + (s[1 + k].toNat - 48) : Nat) : Int)) ((r.take (digRun r)).drop (k + 1))) := HM.out.trans (HSt.out.2 (by omega))
            clear htd HSt HM
            go_wp2
            go_round
            case rel => exact ⟨k + 1, u * 10 + (s[1 + k].toNat - 48), by omega, by omega, by go_num, by go_num, HM2⟩
            case measure => simp [intOf]; omega
        · obtain rfl : k = digRun r := by omega
          have HMs : Hid (M = some (-(u : Int))) := by
            have h9 := HM.out
            rw [List.drop_eq_nil_of_le (by rw [List.length_take]; omega), rdF] at h9
            exact h9
          clear HM HDg
          go_wp2
          go_ret3
          obtain ⟨f1, f2, f3⟩ := HA.out
          rw [HRn.out, HMs.out] at f1 f2 f3
          exact ⟨ret_three (by rw [f1]; rfl) (by rw [f2]; simp [numR]) (by rw [f3]; rfl), rfl⟩
  · rw [if_pos hE] at HRn
    have b1 : ((eodErr r 59 : Int) != 0) = true := by simp; omega
    generalize eodErr r 59 = E at *
    go_enter Tryd.func17, Tryd.ntmps17
    go_wp2_with fail
    refine HEn.out.mono ?_
    rintro e W ⟨rfl, hW⟩
    subst W
    go_wp2_with fail
    refine (HBd.out _ _ (by omega) (by omega)).mono ?_
    rintro e W ⟨rfl, hW⟩
    subst W
    go_wp2
    go_ret3
    obtain ⟨f1, f2, f3⟩ := HA.out
    rw [HRn.out] at f1 f2 f3
    exact ⟨ret_three f1.symm (by rw [f2, if_neg hE]; rfl) (by rw [f3]), rfl⟩

set_option maxHeartbeats 2000000 in
theorem refRead_pos (s : ByteArray) (hs : s.size ≤ maxLen) (w : World) (t : List UInt8) (HT : Hid (s.data.toList = t)) (hneg : isNeg t = false) :
    Calls Tryd.prog 17 #[.string s, .int .i64 0] w fun e w' => e = .returned (.tuple #[.int .i64 (readNum t).2.1, .int .i64 (Lay.numTo 0 t), .int .i64 (readNum t).1]) ∧ w' = w := by
  have hnl : negLen t = 0 := by unfold negLen; rw [hneg]; rfl
  have hrn := readNum_ref t
  rw [hnl, hneg] at hrn
  obtain ⟨r, hr⟩ : ∃ r, r = t.drop 0 := ⟨_, rfl⟩
  rw [← hr] at hrn
  have HR : Hid (s.data.toList.drop 0 = r) := by show _ = _; rw [HT.out, hr]
  have hl := digRun_le r
  have hl2 : r.length = s.size - 0 := by rw [← HR.out]; simp
  have HDg := digRun_at r
  have HEn := hid (refEnd_any s 0 (by omega) hs w r HR 0 rfl)
  have HBd : Hid (∀ v u : Int, v = 0 → u = ((0 + digRun r : Nat) : Int) → Calls Tryd.prog 33 #[.string s, .int .i64 v, .int .i64 u, .int .u8 59] w fun e w' => e = .returned (.int .i64 (eodErr r 59)) ∧ w' = w) := fun v u hv hu => refBad_any s 0 (by omega) 59 hs w r HR v u hv hu
  have hms : s.size ≤ 9223372036854775807 := hs
  have HRn := hid hrn
  obtain ⟨N, hN⟩ : ∃ N, N = readNum t := ⟨_, rfl⟩
  rw [← hN] at HRn
  unfold Lay.numTo
  rw [← hN]
  obtain ⟨A1, hA1⟩ : ∃ A, A = N.2.1 := ⟨_, rfl⟩
  obtain ⟨A2, hA2⟩ : ∃ A, A = (if N.1 = 0 then 0 + N.2.2 else 0) := ⟨_, rfl⟩
  obtain ⟨A3, hA3⟩ : ∃ A, A = N.1 := ⟨_, rfl⟩
  rw [← hA1, ← hA2, ← hA3]
  have HA : Hid (A1 = N.2.1 ∧ A2 = (if N.1 = 0 then 0 + N.2.2 else 0) ∧ A3 = N.1) := ⟨hA1, hA2, hA3⟩
  clear hrn hN hr hA1 hA2 hA3
  by_cases hE : eodErr r 59 = 0
  · rw [if_neg (fun h => h hE)] at HRn
    obtain ⟨z0, z1, z2, z3⟩ := Lay.eod_zero hE
    rw [hE] at HBd
    rw [if_neg (fun h => by simp at h)] at HRn
    have hpos : 0 < s.size := by omega
    have q0 : ((s[0].toNat : Int) == 45) = false := by
      have h9 := Lay.byte_at s 0 hpos
      rw [HT.out] at h9
      unfold isNeg at hneg
      rw [h9] at hneg
      rw [beq_eq_false_iff_ne] at hneg ⊢
      intro h8
      apply hneg
      apply UInt8.toNat_inj.1
      show _ = 45
      omega
    have qs : decide ((0 : Int) < (s.size : Int)) = true := by simp; omega
    clear z2 z3
    go_enter Tryd.func17, Tryd.ntmps17
    go_wp2_with fail
    refine HEn.out.mono ?_
    rintro e W ⟨rfl, hW⟩
    subst W
    go_wp2_with fail
    refine (HBd.out _ _ (by omega) (by omega)).mono ?_
    rintro e W ⟨rfl, hW⟩
    subst W
    go_wp2
    obtain ⟨M, hM⟩ : ∃ M, M = rdF 0 (r.take (digRun r)) := ⟨_, rfl⟩
    rw [← hM] at HRn
    have HM0 : Hid (M = rdF (-((0 : Nat) : Int)) ((r.take (digRun r)).drop 0)) := by show _ = _; rw [hM]; rfl
    clear hM
    go_loop [10, 11] (fun n i => ∃ k u : Nat, k ≤ digRun r ∧ u ≤ 9223372036854775808 ∧ n = .int .i64 (-(u : Int)) ∧ i = .int .i64 (k : Int) ∧ Hid (M = rdF (-(u : Int)) ((r.take (digRun r)).drop k))) (fun _ i => digRun r - (intOf i).toNat)
    case atStart => exact ⟨0, 0, Nat.zero_le _, Nat.zero_le _, rfl, rfl, HM0⟩
    case round =>
      obtain ⟨k, u, hk, hu, rfl, rfl, HM⟩ := hrel
      clear HM0
      by_cases hlt : k < digRun r
      · have hd := HDg k hlt
        have hps : k < s.size := by omega
        have HC := dig_cons r k hlt
        have hbd : r.getD k 0 = s[k] := by rw [← Lay.byte_at s k hps, ← HR.out, List.drop_zero]
        rw [hbd] at hd HC
        have hst := rdF_step u s[k] ((r.take (digRun r)).drop (k + 1)) hd
        rw [← HC] at hst
        have HSt := hid hst
        have htd := tdiv_is u s[k] hd
        have hd2 := (isDig_iff _).1 hd
        clear hst HC hbd hd HDg
        by_cases hbig : 9223372036854775808 < u * 10 + (s[k].toNat - 48)
        · have bb : decide (-(u : Int) < (-9223372036854775808 + ((s[k].toNat : Int) - 48)).tdiv 10) = true := decide_eq_true (htd.2 hbig)
          have HMn : Hid (M = none) := HM.out.trans (HSt.out.1 hbig)
          clear htd HSt HM
          go_wp2
          go_ret3
          obtain ⟨f1, f2, f3⟩ := HA.out
          rw [HRn.out, HMn.out] at f1 f2 f3
          exact ⟨ret_three f1.symm (by rw [f2]; rfl) (by rw [f3]; rfl), rfl⟩
        · have bb : decide (-(u : Int) < (-9223372036854775808 + ((s[k].toNat : Int) - 48)).tdiv 10) = false := decide_eq_false (fun h => hbig (htd.1 h))
          have HM2 : Hid (M = rdF (-((u * 10 + (s[k].toNat - 48) : Nat) : Int)) ((r.take (digRun r)).drop (k + 1))) := HM.out.trans (HSt.out.2 (by omega))
          clear htd HSt HM
          go_wp2
          go_round
          case rel => exact ⟨k + 1, u * 10 + (s[k].toNat - 48), by omega, by omega, by go_num, by go_num, HM2⟩
          case measure => simp [intOf]; omega
      · obtain rfl : k = digRun r := by omega
        have HMs : Hid (M = some (-(u : Int))) := by
          have h9 := HM.out
          rw [List.drop_eq_nil_of_le (by rw [List.length_take]; omega), rdF] at h9
          exact h9
        clear HM HDg
        by_cases hmin : u = 9223372036854775808
        · subst hmin
          go_wp2
          go_ret3
          obtain ⟨f1, f2, f3⟩ := HA.out
          rw [HRn.out, HMs.out] at f1 f2 f3
          exact ⟨ret_three (by rw [f1]; rfl) (by rw [f2]; rfl) (by rw [f3]; rfl), rfl⟩
        · have bm : (-(u : Int) == -9223372036854775808) = false := by rw [beq_eq_false_iff_ne]; omega
          have HNu : Hid (numR false (some (-(u : Int))) (0 + digRun r + 1) = (0, (u : Int), digRun r + 1)) := by
            show _ = _
            unfold numR
            simp only [Bool.false_eq_true, if_false]
            rw [if_neg (by omega)]
            simp
          go_wp2
          go_ret3
          obtain ⟨f1, f2, f3⟩ := HA.out
          rw [HRn.out, HMs.out, HNu.out] at f1 f2 f3
          exact ⟨ret_three (by rw [f1] <;> simp) (by rw [f2] <;> simp) (by rw [f3] <;> rfl), rfl⟩
  · rw [if_pos hE] at HRn
    have b1 : ((eodErr r 59 : Int) != 0) = true := by simp; omega
    by_cases hpos : 0 < s.size
    · have q0 : ((s[0].toNat : Int) == 45) = false := by
        have h9 := Lay.byte_at s 0 hpos
        rw [HT.out] at h9
        unfold isNeg at hneg
        rw [h9] at hneg
        rw [beq_eq_false_iff_ne] at hneg ⊢
        intro h8
        apply hneg
        apply UInt8.toNat_inj.1
        show _ = 45
        omega
      have qs : decide ((0 : Int) < (s.size : Int)) = true := by simp; omega
      generalize eodErr r 59 = E at *
      go_enter Tryd.func17, Tryd.ntmps17
      go_wp2_with fail
      refine HEn.out.mono ?_
      rintro e W ⟨rfl, hW⟩
      subst W
      go_wp2_with fail
      refine (HBd.out _ _ (by omega) (by omega)).mono ?_
      rintro e W ⟨rfl, hW⟩
      subst W
      go_wp2
      go_ret3
      obtain ⟨f1, f2, f3⟩ := HA.out
      rw [HRn.out] at f1 f2 f3
      exact ⟨ret_three f1.symm (by rw [f2, if_neg hE]; rfl) (by rw [f3]), rfl⟩
    · have qs : decide ((0 : Int) < (s.size : Int)) = false := decide_eq_false (by omega)
      generalize eodErr r 59 = E at *
      go_enter Tryd.func17, Tryd.ntmps17
      go_wp2_with fail
      refine HEn.out.mono ?_
      rintro e W ⟨rfl, hW⟩
      subst W
      go_wp2_with fail
      refine (HBd.out _ _ (by omega) (by omega)).mono ?_
      rintro e W ⟨rfl, hW⟩
      subst W
      go_wp2
      go_ret3
      obtain ⟨f1, f2, f3⟩ := HA.out
      rw [HRn.out] at f1 f2 f3
      exact ⟨ret_three f1.symm (by rw [f2, if_neg hE]; rfl) (by rw [f3]), rfl⟩
theorem refRead_any (s : ByteArray) (hs : s.size ≤ maxLen) (w : World) (t : List UInt8) (hT : s.data.toList = t) :
    Calls Tryd.prog 17 #[.string s, .int .i64 0] w fun e w' => e = .returned (.tuple #[.int .i64 (readNum t).2.1, .int .i64 (Lay.numTo 0 t), .int .i64 (readNum t).1]) ∧ w' = w := by
  cases h : isNeg t with
  | true => exact refRead_neg s hs w t hT h
  | false => exact refRead_pos s hs w t hT h
end Go.Proofs.YtnhnjdldgaaeoaaDoor
