/-
  SectArmed: it goes down at just that write.
-/
import Derived.Test.YtjledbgoknclcaaWmd
namespace Go.Proofs.Ytjledbgoknclcaa
open Go Go.RowKit
set_option maxRecDepth 100000

def armS : Nat → List Sec
  | 0 => List.replicate 9 sec0
  | m + 1 => putS (armS m) (m + 1) [120]
theorem armS_len (m : Nat) : (armS m).length = 9 := by
  induction m with
  | zero => simp [armS]
  | succ m ih => simp [armS, putS, ih]
theorem arm_loose (m : Nat) (h : m < 6) : (looseN (armS m)).length = m := by
  match m, h with
  | 0, _ => rfl
  | 1, _ => rfl
  | 2, _ => rfl
  | 3, _ => rfl
  | 4, _ => rfl
  | 5, _ => rfl
  | n + 6, h => omega
def armK (k m : Nat) : Dk := ⟨armS m, k - m, false⟩
theorem armK_write (k m : Nat) (h : m + 1 < k) (h6 : k ≤ 6) : writeE (armK k m) ((m + 1 : Nat) : Int) [120] = 0 ∧ writeD (armK k m) ((m + 1 : Nat) : Int) [120] = armK k (m + 1) := by
  have hh : hasB (armK k m).S.length ((m + 1 : Nat) : Int) = true := by
    have := armS_len m
    unfold hasB armK
    simp [this]; omega
  have hc : ∀ S, countD ⟨S, k - m, false⟩ = ⟨S, k - (m + 1), false⟩ := by
    intro S
    unfold countD
    rw [if_neg (by simp; omega)]
    have e1 : decide (k - m = 1) = false := by simp; omega
    simp only [e1]
    congr 1
  unfold writeE writeD
  rw [hh]
  constructor
  · simp only [armK, Bool.false_eq_true, if_false, if_true]
    rw [if_pos (by simp), hc]
    rfl
  · simp only [armK, Bool.false_eq_true, if_false, if_true]
    rw [if_pos (by simp), hc]
    congr 1
def downK (k : Nat) : Dk := ⟨armS (k - 1), 0, true⟩
theorem armK_sync (k : Nat) (h1 : 1 ≤ k) : syncE (armK k (k - 1)) = 12 ∧ syncD (armK k (k - 1)) = downK k := by
  have hc : countD (armK k (k - 1)) = downK k := by
    unfold countD armK
    have e : k - (k - 1) = 1 := by omega
    rw [e]
    rfl
  unfold syncE syncD
  rw [hc]
  exact ⟨rfl, rfl⟩
theorem down_write (k : Nat) (i : Int) (t : List UInt8) : writeE (downK k) i t = 12 ∧ writeD (downK k) i t = downK k := ⟨rfl, rfl⟩
theorem down_sync (k : Nat) : syncE (downK k) = 12 ∧ syncD (downK k) = downK k := ⟨rfl, rfl⟩
theorem down_arm (k : Nat) (i : Int) : armE (downK k) i = 12 ∧ armD (downK k) i = downK k := ⟨rfl, rfl⟩
theorem down_read (k : Nat) (i : Int) : readE (downK k) i = 12 ∧ readT (downK k) i = [] := ⟨rfl, rfl⟩
theorem new_arm (k : Nat) (h1 : 1 ≤ k) : armE (newD 9) (k : Int) = 0 ∧ armD (newD 9) (k : Int) = armK k 0 := by
  unfold armE armD
  have e : ¬ ((k : Int) < 1) := by omega
  rw [if_neg e, if_neg e]
  exact ⟨rfl, rfl⟩
theorem crash_loose (D : Dk) (ks : List Int) : looseN (crashD D ks).S = [] := loIdx_torn 0 D.S ks

set_option maxHeartbeats 4000000 in
theorem armed_walk (w : World) (n : Nat) (hn : n < 256) (k0 i : Int) (t : List UInt8) (v : Value) (ks : List Int) (hi : i < 9223372036854775808) (hI : IntsAt w v ks) :
    Calls Try.prog 6 #[.int .u8 (n : Int), .agg #[.int .i64 k0, .int .i64 i, .string ⟨t.toArray⟩, v]] w fun e w' => e = .returned (.bool true) ∧ Below w.heap.size w w' := by
  have HI0 := hid hI
  obtain ⟨ao, cap, rfl, -⟩ := hI
  have hb0 : Below w.heap.size w (w.alloc (.cells #[.int .i64 k0, .int .i64 i, .string ⟨t.toArray⟩, .slice ao ks.length cap] 44)) := below_a1 w _
  have HB0 := hid hb0
  have HI1 := hid (HI0.out.kept hb0)
  have hq0 : Hid ((w.alloc (.cells #[.int .i64 k0, .int .i64 i, .string ⟨t.toArray⟩, .slice ao ks.length cap] 44)).heap[w.heap.size]? = some (.cells #[.int .i64 k0, .int .i64 i, .string ⟨t.toArray⟩, .slice ao ks.length cap] 44)) := top_row w _
  have hs0 : Hid ((w.alloc (.cells #[.int .i64 k0, .int .i64 i, .string ⟨t.toArray⟩, .slice ao ks.length cap] 44)).heap.size = w.heap.size + 1) := show _ = _ by simp
  have HAW := hid awake_any
  have HN := hid (fun W => new_ok W 9 (by omega) (by omega))
  obtain ⟨q, hq⟩ : ∃ q : Nat, q = n % 6 := ⟨_, rfl⟩
  have hq6 : q < 6 := by omega
  have hqi : (n : Int) % 6 = (q : Int) := by omega
  have hqn : n % 6 = q := hq.symm
  have Hk1 : Hid (armE (newD 9) ((q : Int) + 1) = 0 ∧ armD (newD 9) ((q : Int) + 1) = armK (q + 1) 0) := new_arm (q + 1) (by omega)
  generalize newD 9 = D0 at *
  clear hb0 hq
  go_enter Try.func6, Try.ntmps6
  go_wp2_with fail
  generalize w.alloc (.cells #[.int .i64 k0, .int .i64 i, .string ⟨t.toArray⟩, .slice ao ks.length cap] 44) = w1 at *
  refine (HN.out _).mono ?_
  rintro e w2 ⟨d, g, rfl, hd2, hb2, hg1, hg2⟩
  have HD2 := hid hd2
  have HB2 := hid hb2
  have HG1 := hid hg1
  have HG2 := hid hg2
  clear hd2 hb2 hg1 hg2 HN
  have HBw2 : Hid (Below w.heap.size w w2) := HB0.out.trans (HB2.out.mono HB0.out.size)
  have HQ : Hid (∀ W, Kp [d, g] w2 W → W.cell? ⟨w.heap.size, 1, none⟩ = some (.int .i64 i) ∧ W.cell? ⟨w.heap.size, 2, none⟩ = some (.string ⟨t.toArray⟩) ∧ W.cell? ⟨w.heap.size, 3, none⟩ = some (.slice ao ks.length cap) ∧ IntsAt W (.slice ao ks.length cap) ks ∧ Below w.heap.size w W) := by
    intro W hW
    have e1 := HG1.out
    have e2 := HG2.out
    have e3 := hs0.out
    have h8 := row_kept hq0.out HB2.out
    have h9 := hW.row h8 (by simp; omega)
    have hbe : Below w.heap.size w W := HBw2.out.trans (hW.below (fun x hx => by simp at hx; omega) HBw2.out.size)
    refine ⟨by rw [cell_of_row _ _ _ _ _ _ h9]; rfl, by rw [cell_of_row _ _ _ _ _ _ h9]; rfl, by rw [cell_of_row _ _ _ _ _ _ h9]; rfl, HI0.out.kept hbe, hbe⟩
  have HA1 : Hid (Calls Try.prog 21 #[.pointer (some ⟨d, 0, none⟩), .int .i64 ((q : Int) + 1)] w2 fun e w' => e = .returned (.int .i64 0) ∧ DiskAt w' d g (armK (q + 1) 0) ∧ Kp [d, g] w2 w') := by
    have h9 := arm_any HD2.out ((q : Int) + 1) (by omega)
    rw [Hk1.out.1, Hk1.out.2] at h9
    exact h9.mono fun e w' ⟨a, b, c⟩ => ⟨a, b, c.drop (by simp)⟩
  clear HBw2 HB0 HI1 hq0 hs0 HB2 Hk1 HI0
  go_wp2_with fail
  refine HA1.out.mono ?_
  rintro e w3 ⟨rfl, h3, k3⟩
  have HD3 := hid h3
  have HK3 := hid k3
  clear h3 k3 HA1
  go_wp2_with fail
  refine (HAW.out _).mono ?_
  rintro e w4 ⟨rfl, hb4⟩
  have HD4 := hid (HD3.out.kept (X := []) (Kp.of hb4) (by simp) (by simp))
  have HK4 : Hid (Kp [d, g] w2 w4) := HK3.out.trans (Kp.of hb4)
  clear hb4 HD3 HK3
  go_wp2
  go_loopw [8] (fun i w' => ∃ m : Nat, m ≤ q ∧ i = .int .i64 ((m : Int) + 1) ∧ Hid (DiskAt w' d g (armK (q + 1) m)) ∧ Hid (Kp [d, g] w2 w')) (fun i _ => q + 1 - (intOf i).toNat)
  case atStart => exact ⟨0, by omega, rfl, HD4, HK4⟩
  case round =>
    clear HD4 HK4
    obtain ⟨m, hm, rfl, HD, HK⟩ := hrel
    by_cases hlt : m < q
    · have d1 : decide ((m : Int) + 1 < (q : Int) + 1) = true := by simp; omega
      have d2 : decide ((m : Int) < (q : Int)) = true := by simp; omega
      have d3 : decide (m < q) = true := by simp; omega
      have hw9 := armK_write (q + 1) m (by omega) (by omega)
      have HW : Hid (Calls Try.prog 18 #[.pointer (some ⟨d, 0, none⟩), .int .i64 ((m : Int) + 1), .string ⟨#[120]⟩] wr fun e w' => e = .returned (.int .i64 0) ∧ DiskAt w' d g (armK (q + 1) (m + 1)) ∧ Kp [d, g] wr w') := by
        have h9 := write_any HD.out ((m + 1 : Nat) : Int) [120]
        rw [hw9.1, hw9.2] at h9
        exact h9
      clear hw9
      go_wp2_with fail
      refine HW.out.mono ?_
      rintro e w5 ⟨rfl, h5, k5⟩
      have HD5 := hid h5
      have HK5 : Hid (Kp [d, g] w2 w5) := HK.out.trans k5
      have HDn := hid (down_any h5)
      have hdn : (armK (q + 1) (m + 1)).down = false := rfl
      rw [hdn] at HDn
      clear h5 k5 HD HK HW hdn
      go_wp2_with (first | (go_at_call 12; refine HDn.out.mono ?_; rintro e w6 ⟨rfl, hw6⟩; subst w6))
      go_roundw
      case rel => exact ⟨m + 1, by omega, by go_num, HD5, HK5⟩
      case measure => simp [intOf]; omega
    · obtain rfl : m = q := by omega
      have hs9 := armK_sync (m + 1) (by omega)
      simp only [Nat.add_sub_cancel] at hs9
      have HS : Hid (Calls Try.prog 22 #[.pointer (some ⟨d, 0, none⟩)] wr fun e w' => e = .returned (.int .i64 12) ∧ DiskAt w' d g (downK (m + 1)) ∧ Kp [d, g] wr w') := by
        have h9 := sync_any HD.out
        rw [hs9.1, hs9.2] at h9
        exact h9
      have hll := hid (arm_loose m hq6)
      have HLo : Hid (∀ W, DiskAt W d g (downK (m + 1)) → Calls Try.prog 15 #[.pointer (some ⟨d, 0, none⟩)] W fun e w' => ∃ v, e = .returned v ∧ (∃ ao cap, v = .slice ao m cap) ∧ Below W.heap.size W w') := by
        intro W h
        refine (loose_any h).mono ?_
        rintro e w' ⟨v, rfl, h1, h2⟩
        have h3 := own_form h1
        have e6 : (looseN (downK (m + 1)).S).length = m := hll.out
        rw [e6] at h3
        exact ⟨v, rfl, h3, h2⟩
      have HDn : Hid (∀ W, DiskAt W d g (downK (m + 1)) → Calls Try.prog 12 #[.pointer (some ⟨d, 0, none⟩)] W fun e w' => e = .returned (.bool true) ∧ w' = W) := fun W h => down_any h
      have HRd : Hid (∀ W, DiskAt W d g (downK (m + 1)) → Calls Try.prog 10 #[.pointer (some ⟨d, 0, none⟩), .int .i64 0] W fun e w' => e = .returned (.tuple #[.string ⟨#[]⟩, .int .i64 12]) ∧ w' = W) := fun W h => read_any h 0
      have HWd : Hid (∀ W, DiskAt W d g (downK (m + 1)) → Calls Try.prog 18 #[.pointer (some ⟨d, 0, none⟩), .int .i64 i, .string ⟨t.toArray⟩] W fun e w' => e = .returned (.int .i64 12) ∧ DiskAt w' d g (downK (m + 1)) ∧ Kp [d, g] W w') := fun W h => write_any h i t
      have HSd : Hid (∀ W, DiskAt W d g (downK (m + 1)) → Calls Try.prog 22 #[.pointer (some ⟨d, 0, none⟩)] W fun e w' => e = .returned (.int .i64 12) ∧ DiskAt w' d g (downK (m + 1)) ∧ Kp [d, g] W w') := fun W h => sync_any h
      have HAd : Hid (∀ W, DiskAt W d g (downK (m + 1)) → Calls Try.prog 21 #[.pointer (some ⟨d, 0, none⟩), .int .i64 i] W fun e w' => e = .returned (.int .i64 12) ∧ DiskAt w' d g (downK (m + 1)) ∧ Kp [d, g] W w') := fun W h => (arm_any h i hi).mono fun e w' ⟨a, b, c⟩ => ⟨a, b, c.drop (by simp)⟩
      have HCd : Hid (∀ W, DiskAt W d g (downK (m + 1)) → IntsAt W (.slice ao ks.length cap) ks → Calls Try.prog 17 #[.pointer (some ⟨d, 0, none⟩), .slice ao ks.length cap] W fun e w' => e = .returned (.int .i64 0) ∧ DiskAt w' d g (crashD (downK (m + 1)) ks) ∧ Kp [d, g] W w') := fun W h h2 => crash_any h _ _ h2
      have HDc : Hid (∀ W, DiskAt W d g (crashD (downK (m + 1)) ks) → Calls Try.prog 12 #[.pointer (some ⟨d, 0, none⟩)] W fun e w' => e = .returned (.bool false) ∧ w' = W) := fun W h => down_any h
      have HLc : Hid (∀ W, DiskAt W d g (crashD (downK (m + 1)) ks) → Calls Try.prog 15 #[.pointer (some ⟨d, 0, none⟩)] W fun e w' => ∃ v, e = .returned v ∧ (∃ ao cap, v = .slice ao 0 cap) ∧ Below W.heap.size W w') := by
        intro W h
        refine (loose_any h).mono ?_
        rintro e w' ⟨v, rfl, h1, h2⟩
        have h3 := own_form h1
        rw [crash_loose] at h3
        exact ⟨v, rfl, h3, h2⟩
      clear hs9 hll HAW
      generalize crashD (downK (m + 1)) ks = DC at *
      generalize downK (m + 1) = DD at *
      go_wp2_with fail
      refine HS.out.mono ?_
      rintro e w5 ⟨rfl, h5, k5⟩
      have HD5 := hid h5
      have HK5 : Hid (Kp [d, g] w2 w5) := HK.out.trans k5
      clear h5 k5 HD HK HS
      go_wp2_with fail
      refine (HDn.out _ HD5.out).mono ?_
      rintro e w6 ⟨rfl, hw6⟩
      subst w6
      go_wp2_with fail
      refine (HLo.out _ HD5.out).mono ?_
      rintro e w6 ⟨lv, rfl, ⟨lao, lcap, hlv⟩, hb6⟩
      subst hlv
      have HD6 := hid (HD5.out.kept (X := []) (Kp.of hb6) (by simp) (by simp))
      have HK6 : Hid (Kp [d, g] w2 w6) := HK5.out.trans (Kp.of hb6)
      obtain ⟨q61, q62, -⟩ := HQ.out _ HK6.out
      clear hb6 HD5 HK5
      go_wp2_with fail
      refine (HRd.out _ HD6.out).mono ?_
      rintro e w7 ⟨rfl, hw7⟩
      subst w7
      go_wp2_with fail
      refine (HWd.out _ HD6.out).mono ?_
      rintro e w7 ⟨rfl, h7, k7⟩
      have HD7 := hid h7
      have HK7 : Hid (Kp [d, g] w2 w7) := HK6.out.trans k7
      clear h7 k7 HD6 HK6 q61 q62
      go_wp2_with fail
      refine (HSd.out _ HD7.out).mono ?_
      rintro e w8 ⟨rfl, h8, k8⟩
      have HD8 := hid h8
      have HK8 : Hid (Kp [d, g] w2 w8) := HK7.out.trans k8
      obtain ⟨q81, -⟩ := HQ.out _ HK8.out
      clear h8 k8 HD7 HK7
      go_wp2_with fail
      refine (HAd.out _ HD8.out).mono ?_
      rintro e w9 ⟨rfl, h9, k9⟩
      have HD9 := hid h9
      have HK9 : Hid (Kp [d, g] w2 w9) := HK8.out.trans k9
      obtain ⟨-, -, q93, hI9, -⟩ := HQ.out _ HK9.out
      have HI9 := hid hI9
      clear h9 k9 HD8 HK8 q81 hI9
      go_wp2_with fail
      refine (HCd.out _ HD9.out HI9.out).mono ?_
      rintro e wa ⟨rfl, ha, ka⟩
      have HDa := hid ha
      have HKa : Hid (Kp [d, g] w2 wa) := HK9.out.trans ka
      clear ha ka HD9 HK9 q93 HI9
      go_wp2_with fail
      refine (HDc.out _ HDa.out).mono ?_
      rintro e wb ⟨rfl, hwb⟩
      subst wb
      go_wp2_with fail
      refine (HLc.out _ HDa.out).mono ?_
      rintro e wb ⟨lv2, rfl, ⟨lao2, lcap2, hlv2⟩, hbb⟩
      subst hlv2
      have HKb : Hid (Kp [d, g] w2 wb) := HKa.out.trans (Kp.of hbb)
      have HBb := hid (HQ.out _ HKb.out).2.2.2.2
      clear hbb HDa HKa HQ
      go_wp2
      go_ret
      exact ⟨rfl, HBb.out⟩
end Go.Proofs.Ytjledbgoknclcaa
