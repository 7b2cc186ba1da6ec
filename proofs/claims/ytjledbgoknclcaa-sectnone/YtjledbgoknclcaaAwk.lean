/-
  What Ints answers for like lists, and what awake answers.
-/
import Derived.Test.YtjledbgoknclcaaRsy
import Derived.BigQuiet
namespace Go.Proofs.Ytjledbgoknclcaa
open Go Go.RowKit
set_option maxRecDepth 100000

set_option maxHeartbeats 2000000 in
theorem ints_any {w : World} {v u : Value} {ks : List Int} (hl : ks.length ≤ 512) (h1 : IntsAt w v ks) (h2 : IntsAt w u ks) : Calls Try.prog 14 #[v, u] w fun e w' => e = .returned (.bool true) ∧ Below w.heap.size w w' := by
  obtain ⟨ao, cap, rfl, -, hk1⟩ := h1
  obtain ⟨bo, cap2, rfl, -, hk2⟩ := h2
  go_enter Try.func14, Try.ntmps14
  go_wp2
  go_loopw [5] (fun i w' => ∃ j n : Nat, j ≤ ks.length ∧ i = .int .i64 j ∧ w' = w.drewN n) (fun i _ => ks.length - (intOf i).toNat)
  case atStart => exact ⟨0, 0, by omega, rfl, rfl⟩
  case round =>
    obtain ⟨j, n, hj, rfl, hw⟩ := hrel
    subst wr
    by_cases hlt : j < ks.length
    · have hne : ks ≠ [] := by intro e; rw [e] at hlt; simp at hlt
      obtain ⟨b, off, rfl, hc1⟩ := hk1 hne
      obtain ⟨b2, off2, rfl, hc2⟩ := hk2 hne
      have q1 := hc1 j ks[j] (List.getElem?_eq_getElem hlt)
      have q2 := hc2 j ks[j] (List.getElem?_eq_getElem hlt)
      have d1 : decide ((j : Int) < (ks.length : Int)) = true := by simpa using hlt
      have d2 : decide (j < ks.length) = true := by simpa using hlt
      obtain ⟨x, hx⟩ : ∃ x, x = ks[j] := ⟨_, rfl⟩
      rw [← hx] at q1 q2
      have HLT := hid hlt
      clear hk1 hk2 hc1 hc2 hx
      go_wp2_with fail
      go_quiet (fail)
      go_wp2
      go_roundw
      case rel => exact ⟨j + 1, n + nq, HLT.out, by go_num, rfl⟩
      case measure => have h9 : j < ks.length := HLT.out; simp [intOf]; omega
    · have d1 : decide ((j : Int) < (ks.length : Int)) = false := by simpa using hlt
      have d2 : decide (j < ks.length) = false := by simpa using hlt
      clear hk1 hk2
      go_wp2
      go_ret
      exact ⟨rfl, below_drawn (Below.refl _ _) _⟩

theorem aw1 : writeE (newD 2) 0 [97, 97] = 0 := by decide
theorem aw2 : syncE (writeD (newD 2) 0 [97, 97]) = 0 := by decide
theorem aw3 : writeE (syncD (writeD (newD 2) 0 [97, 97])) 0 [98, 98, 98] = 0 := by decide
def awD : Dk := crashD (writeD (syncD (writeD (newD 2) 0 [97, 97])) 0 [98, 98, 98]) [1]
theorem aw4 : readT awD 0 = fillB [98, 97] := by decide +kernel
theorem aw5 : readE awD 0 = 0 := by decide +kernel
theorem aw6 : looseN awD.S = [] := by rfl
theorem aw7 : awD.S.length = 2 := by rfl

set_option maxHeartbeats 2000000 in
theorem awake_any (w : World) : Calls Try.prog 9 #[] w fun e w' => e = .returned (.bool true) ∧ Below w.heap.size w w' := by
  have HN := hid (new_ok w 2 (by omega) (by omega))
  have e1 := aw1
  have e2 := aw2
  have e3 := aw3
  have e4 := aw4
  have e5 := aw5
  have e6 := aw6
  have e7 := aw7
  unfold awD at e4 e5 e6 e7
  generalize newD 2 = D1 at *
  obtain ⟨D2, hD2⟩ : ∃ D, D = writeD D1 0 [97, 97] := ⟨_, rfl⟩
  rw [← hD2] at e2 e3 e4 e5 e6 e7
  obtain ⟨D3, hD3⟩ : ∃ D, D = syncD D2 := ⟨_, rfl⟩
  rw [← hD3] at e3 e4 e5 e6 e7
  obtain ⟨D4, hD4⟩ : ∃ D, D = writeD D3 0 [98, 98, 98] := ⟨_, rfl⟩
  rw [← hD4] at e4 e5 e6 e7
  have HD2 := hid hD2.symm
  have HD3 := hid hD3.symm
  have HD4 := hid hD4.symm
  clear hD2 hD3 hD4
  have HF := hid (fun W => rfill_any [98, 97] (by decide) W)
  rw [← e4] at HF
  have HRd : Hid (∀ (W : World) (d g : Nat), DiskAt W d g (crashD D4 [1]) → Calls Try.prog 10 #[.pointer (some ⟨d, 0, none⟩), .int .i64 0] W fun e w' => e = .returned (.tuple #[.string ⟨(readT (crashD D4 [1]) 0).toArray⟩, .int .i64 0]) ∧ w' = W) := by
    intro W d g h
    have h9 := read_any h 0
    rw [e5] at h9
    exact h9
  have HLo : Hid (∀ (W : World) (d g : Nat), DiskAt W d g (crashD D4 [1]) → Calls Try.prog 15 #[.pointer (some ⟨d, 0, none⟩)] W fun e w' => ∃ v, e = .returned v ∧ (∃ ao cap, v = .slice ao 0 cap) ∧ Below W.heap.size W w') := by
    intro W d g h
    refine (loose_any h).mono ?_
    rintro e w' ⟨v, rfl, h1, h2⟩
    have h3 := own_form h1
    rw [e6] at h3
    exact ⟨v, rfl, h3, h2⟩
  have HSe : Hid (∀ (W : World) (d g : Nat), DiskAt W d g (crashD D4 [1]) → Calls Try.prog 13 #[.pointer (some ⟨d, 0, none⟩)] W fun e w' => e = .returned (.int .i64 2) ∧ w' = W) := by
    intro W d g h
    have h9 := sectors_any h
    rw [e7] at h9
    exact h9
  have HCr : Hid (∀ (W : World) (d g : Nat), DiskAt W d g D4 → Calls Try.prog 17 #[.pointer (some ⟨d, 0, none⟩), .slice (some ⟨W.heap.size, 0, none⟩) 1 1] (W.alloc (.cells #[.int .i64 1] 3)) fun e w' => e = .returned (.int .i64 0) ∧ DiskAt w' d g (crashD D4 [1]) ∧ Kp [d, g] W w') := by
    intro W d g h
    have hI : IntsAt (W.alloc (.cells #[.int .i64 1] 3)) (.slice (some ⟨W.heap.size, 0, none⟩) 1 1) [1] := by
      refine ⟨some ⟨W.heap.size, 0, none⟩, 1, rfl, Nat.le_refl _, fun _ => ⟨W.heap.size, 0, rfl, fun j x hj => ?_⟩⟩
      have hj0 : j = 0 := by have := (List.getElem?_eq_some_iff.1 hj).1; simp at this; omega
      subst hj0
      have hx : x = 1 := by simpa using hj.symm
      subst hx
      rw [cell_of_row _ _ _ _ _ _ (top_row W _)]
      rfl
    refine (crash_any (h.kept (X := []) ((Kp.refl _ _).alloc _) (by simp) (by simp)) _ _ hI).mono ?_
    rintro e w' ⟨rfl, h1, h2⟩
    exact ⟨rfl, h1, ((Kp.refl _ _).alloc _).trans h2⟩
  have HW1 : Hid (∀ (W : World) (d g : Nat), DiskAt W d g D1 → Calls Try.prog 18 #[.pointer (some ⟨d, 0, none⟩), .int .i64 0, .string ⟨#[97, 97]⟩] W fun e w' => e = .returned (.int .i64 0) ∧ DiskAt w' d g D2 ∧ Kp [d, g] W w') := by
    intro W d g h
    have h9 := write_any h 0 [97, 97]
    rw [e1, HD2.out] at h9
    exact h9
  have HS1 : Hid (∀ (W : World) (d g : Nat), DiskAt W d g D2 → Calls Try.prog 22 #[.pointer (some ⟨d, 0, none⟩)] W fun e w' => e = .returned (.int .i64 0) ∧ DiskAt w' d g D3 ∧ Kp [d, g] W w') := by
    intro W d g h
    have h9 := sync_any h
    rw [e2, HD3.out] at h9
    exact h9
  have HW2 : Hid (∀ (W : World) (d g : Nat), DiskAt W d g D3 → Calls Try.prog 18 #[.pointer (some ⟨d, 0, none⟩), .int .i64 0, .string ⟨#[98, 98, 98]⟩] W fun e w' => e = .returned (.int .i64 0) ∧ DiskAt w' d g D4 ∧ Kp [d, g] W w') := by
    intro W d g h
    have h9 := write_any h 0 [98, 98, 98]
    rw [e3, HD4.out] at h9
    exact h9
  have HFF : Hid (∀ W, Calls Try.prog 25 #[.string ⟨#[98, 97]⟩] W fun e w' => e = .returned (.string ⟨(readT (crashD D4 [1]) 0).toArray⟩) ∧ Below W.heap.size W w') := HF
  clear e1 e2 e3 e4 e5 e6 e7 HF HD2 HD3 HD4
  generalize readT (crashD D4 [1]) 0 = T5 at *
  generalize crashD D4 [1] = D5 at *
  go_enter Try.func9, Try.ntmps9
  go_wp2_with (first | (go_at_call 20; refine HN.out.mono ?_; rintro e w1 ⟨d, g, rfl, hd1, hb1, hg1, hg2⟩; have HD1 := hid hd1; have HB1 := hid hb1; have HG1 := hid hg1; have HG2 := hid hg2; clear hd1 hb1 hg1 hg2))
  refine (HW1.out _ _ _ HD1.out).mono ?_
  rintro e w2 ⟨rfl, h2, k2⟩
  have HD2 := hid h2
  have HK2 := hid k2
  clear h2 k2
  go_wp2_with fail
  refine (HS1.out _ _ _ HD2.out).mono ?_
  rintro e w3 ⟨rfl, h3, k3⟩
  have HD3 := hid h3
  have HK3 := hid (HK2.out.trans k3)
  clear h3 k3
  go_wp2_with fail
  refine (HW2.out _ _ _ HD3.out).mono ?_
  rintro e w4 ⟨rfl, h4, k4⟩
  have HD4 := hid h4
  have HK4 := hid (HK3.out.trans k4)
  clear h4 k4
  go_wp2_with fail
  refine (HCr.out _ _ _ HD4.out).mono ?_
  rintro e w5 ⟨rfl, h5, k5⟩
  have HD5 := hid h5
  have HK5 := hid (HK4.out.trans k5)
  clear h5 k5
  go_wp2_with fail
  refine (HRd.out _ _ _ HD5.out).mono ?_
  rintro e w6 ⟨rfl, hw6⟩
  subst w6
  go_wp2_with fail
  refine (HFF.out _).mono ?_
  rintro e w6 ⟨rfl, hb6⟩
  have HD6 := hid (HD5.out.kept (X := []) (Kp.of hb6) (by simp) (by simp))
  have HK6 : Hid (Kp [d, g] w1 w6) := HK5.out.trans (Kp.of hb6)
  clear hb6
  go_wp2_with fail
  refine (HLo.out _ _ _ HD6.out).mono ?_
  rintro e w7 ⟨lv, rfl, ⟨ao, cap, hlv⟩, hb7⟩
  subst hlv
  have HD7 := hid (HD6.out.kept (X := []) (Kp.of hb7) (by simp) (by simp))
  have HK7 : Hid (Kp [d, g] w1 w7) := HK6.out.trans (Kp.of hb7)
  clear hb7
  go_wp2_with fail
  refine (HSe.out _ _ _ HD7.out).mono ?_
  rintro e w8 ⟨rfl, hw8⟩
  subst w8
  go_wp2
  go_ret
  refine ⟨rfl, HB1.out.trans (HK7.out.below ?_ HB1.out.size)⟩
  intro x hx
  have h8 := HG1.out
  have h9 := HG2.out
  simp at hx
  omega
end Go.Proofs.Ytjledbgoknclcaa
