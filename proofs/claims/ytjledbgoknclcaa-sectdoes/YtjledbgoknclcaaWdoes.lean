/-
  SectDoes: every call of a disk is answered as the document says.
-/
import Derived.Test.YtjledbgoknclcaaWmd
import Derived.Deep.RegionHeld3
namespace Go.Proofs.Ytjledbgoknclcaa
open Go Go.RowKit
set_option maxRecDepth 100000

theorem does_bad (w : World) (n : Int) (h : n < 1 ∨ 512 < n) (l : Value) (other : Int) : Calls Try.prog 3 #[.int .i64 n, l, .int .i64 other] w fun e w' => e = .returned (.bool true) ∧ Below w.heap.size w w' := by
  have HM := hid (made_bad w n h l)
  have HAW := hid awake_any
  clear h
  go_enter Try.func3, Try.ntmps3
  go_wp2_with fail
  refine HM.out.mono ?_
  rintro e w1 ⟨rfl, hw1⟩
  subst w1
  go_wp2_with fail
  refine (HAW.out _).mono ?_
  rintro e w2 ⟨rfl, hb2⟩
  have HB2 := hid hb2
  clear hb2
  go_wp2_with fail
  refine (HAW.out _).mono ?_
  rintro e w3 ⟨rfl, hb3⟩
  have HB3 : Hid (Below w.heap.size w w3) := HB2.out.trans (hb3.mono HB2.out.size)
  clear hb3 HB2
  go_wp2
  go_ret
  exact ⟨rfl, HB3.out⟩

set_option maxHeartbeats 4000000 in
theorem does_ok (w : World) (n : Nat) (h1 : 1 ≤ n) (h2 : n ≤ 512) (a : Option Addr) (len cap : Nat) (ha : ActsAt w a len) (other : Int) :
    Calls Try.prog 3 #[.int .i64 (n : Int), .slice a len cap, .int .i64 other] w fun e w' => e = .returned (.bool true) ∧ Below w.heap.size w w' := by
  have HM := hid (made_ok w n h1 h2 a len cap ha)
  have HAW := hid awake_any
  clear ha h1
  go_enter Try.func3, Try.ntmps3
  go_wp2_with fail
  refine HM.out.mono ?_
  rintro e w1 ⟨d, g, r, D, rfl, hB1, hL1, hb1, hg1⟩
  have HBo := hid hB1
  have HLn := hid hL1
  have HB1 := hid hb1
  clear hB1 hL1 hb1 hg1 HM
  go_wp2_with fail
  refine (HAW.out _).mono ?_
  rintro e w2 ⟨rfl, hb2⟩
  have HBo2 := hid (HBo.out.kept hb2)
  have HB2 : Hid (Below w.heap.size w w2) := HB1.out.trans (hb2.mono HB1.out.size)
  clear hb2 HBo HB1 HAW
  have HR1 := hid (read_any HBo2.out.disk other)
  have HR2 := hid (rread_any HBo2.out.ref other)
  generalize readT D other = rt at *
  generalize readE D other = re at *
  go_wp2_with fail
  refine HR1.out.mono ?_
  rintro e w3 ⟨rfl, hw3⟩
  subst w3
  go_wp2_with fail
  refine HR2.out.mono ?_
  rintro e w3 ⟨rfl, hw3⟩
  subst w3
  have HH : Hid (∀ W, Below w2.heap.size w2 W → W.cell? ⟨r.x, 3, none⟩ = some (.bool D.down) ∧ W.cell? ⟨r.x, 0, none⟩ = some (.slice (some ⟨r.gL, 0, none⟩) n r.cL)) := by
    intro W hb
    have h9 := (HBo2.out.kept hb).ref
    refine ⟨h9.c3, ?_⟩
    have h8 := h9.c0
    rw [HLn.out] at h8
    exact h8
  have HDn : Hid (∀ W, Below w2.heap.size w2 W → Calls Try.prog 12 #[.pointer (some ⟨d, 0, none⟩)] W fun e w' => e = .returned (.bool D.down) ∧ w' = W) := fun W hb => down_any (HBo2.out.kept hb).disk
  have HSe : Hid (∀ W, Below w2.heap.size w2 W → Calls Try.prog 13 #[.pointer (some ⟨d, 0, none⟩)] W fun e w' => e = .returned (.int .i64 (n : Int)) ∧ w' = W) := fun W hb => by
    have h9 := sectors_any (HBo2.out.kept hb).disk
    rw [HLn.out] at h9
    exact h9
  obtain ⟨Lo, hLo⟩ : ∃ L, L = looseN D.S := ⟨_, rfl⟩
  have hLl : Lo.length ≤ 512 := by rw [hLo]; exact Nat.le_trans (loIdx_len 0 _) (by rw [HLn.out]; exact h2)
  have HLo : Hid (∀ W, Below w2.heap.size w2 W → Calls Try.prog 15 #[.pointer (some ⟨d, 0, none⟩)] W fun e w' => ∃ ao cap, e = .returned (.slice ao Lo.length cap) ∧ IntsAt w' (.slice ao Lo.length cap) (castL Lo) ∧ Below w2.heap.size w2 w') := by
    intro W hb
    refine (loose_any (HBo2.out.kept hb).disk).mono ?_
    rintro e w' ⟨v, rfl, h8, h9⟩
    rw [← hLo] at h8
    obtain ⟨ao, cap, rfl⟩ := own_form h8
    exact ⟨ao, cap, rfl, ints_of_own h8, hb.trans (h9.mono hb.size)⟩
  have HLr : Hid (∀ W, Below w2.heap.size w2 W → Calls Try.prog 16 #[.pointer (some ⟨r.x, 0, none⟩)] W fun e w' => ∃ ao cap, e = .returned (.slice ao Lo.length cap) ∧ IntsAt w' (.slice ao Lo.length cap) (castL Lo) ∧ Below W.heap.size W w') := by
    intro W hb
    refine (rloose_any (HBo2.out.kept hb).ref).mono ?_
    rintro e w' ⟨v, rfl, h8, h9⟩
    rw [← hLo] at h8
    obtain ⟨ao, cap, rfl⟩ := own_form h8
    exact ⟨ao, cap, rfl, ints_of_own h8, h9⟩
  have HIn : Hid (∀ (W : World) (u v : Value), IntsAt W u (castL Lo) → IntsAt W v (castL Lo) → Calls Try.prog 14 #[u, v] W fun e w' => e = .returned (.bool true) ∧ Below W.heap.size W w') := fun W u v h8 h9 => ints_any (by rw [castL_len]; exact hLl) h8 h9
  clear hLo HR1 HR2
  generalize Lo.length = ll at *
  go_wp2_with fail
  go_region_held3 (fun W => W.cell? ⟨r.x, 3, none⟩ = some (.bool D.down) ∧ W.cell? ⟨r.x, 0, none⟩ = some (.slice (some ⟨r.gL, 0, none⟩) n r.cL))
    (with_reducible first | exact HH.out _ HBc | exact HH.out _ HBb | exact HH.out _ HBa | exact HH.out _ (Below.refl _ _).drew | exact HH.out _ (Below.refl _ _))
    (first | (go_at_call 12; refine (HDn.out _ (Below.refl _ _).drew).mono ?_; rintro e W1 ⟨rfl, hW1⟩; subst W1) | (go_at_call 13; refine (HSe.out _ (Below.refl _ _).drew).mono ?_; rintro e W1 ⟨rfl, hW1⟩; subst W1) | (go_at_call 15; refine (HLo.out _ (Below.refl _ _).drew).mono ?_; rintro e W2 ⟨ao2, cap2, rfl, hi2, HBa⟩; have HI2 := hid hi2; clear hi2) | (go_at_call 16; refine (HLr.out _ HBa).mono ?_; rintro e W3 ⟨ao3, cap3, rfl, hi3, hb3⟩; have HI3 := hid hi3; have HI2' := hid (HI2.out.kept hb3); have HBb : Below w2.heap.size w2 W3 := HBa.trans (hb3.mono HBa.size); clear hi3 hb3) | (go_at_call 14; refine (HIn.out _ _ _ HI2'.out HI3.out).mono ?_; rintro e W4 ⟨rfl, hb4⟩; have HBc : Below w2.heap.size w2 W4 := HBb.trans (hb4.mono HBb.size); clear hb4))
  have HB4 : Hid (Below w.heap.size w W4) := HB2.out.trans (HBc.mono HB2.out.size)
  have HBo4 := hid (HBo2.out.kept HBc)
  have q0 := (HH.out _ HBc).2
  clear HH HDn HSe HLo HLr HIn HI2 HI2' HI3 HBa HBb HBc HBo2 HB2 hLl
  go_wp2
  go_loopw [14] (fun i w' => ∃ j : Nat, j ≤ 20 ∧ i = .int .i64 j ∧ w' = W4) (fun i _ => 20 - (intOf i).toNat)
  case atStart => exact ⟨0, by omega, rfl, rfl⟩
  case round =>
    obtain ⟨j, hj, rfl, hw⟩ := hrel
    subst wr
    by_cases hlt : j < n
    · have d1 : decide ((j : Int) < (n : Int)) = true := by simpa using hlt
      have d1' : decide (j < n) = true := by simpa using hlt
      by_cases h20 : j < 20
      · have d2 : decide ((j : Int) < 20) = true := by simp; omega
        have HR1 := hid (read_any HBo4.out.disk (j : Int))
        have HR2 := hid (rread_any HBo4.out.ref (j : Int))
        generalize readT D (j : Int) = rt2 at *
        generalize readE D (j : Int) = re2 at *
        go_wp2_with fail
        refine HR1.out.mono ?_
        rintro e w5 ⟨rfl, hw5⟩
        subst w5
        go_wp2_with fail
        refine HR2.out.mono ?_
        rintro e w5 ⟨rfl, hw5⟩
        subst w5
        go_wp2
        go_roundw
        case rel => exact ⟨j + 1, by omega, by go_num, by first | trivial | rfl⟩
        case measure => simp [intOf]; omega
      · have d2 : decide ((j : Int) < 20) = false := by simp; omega
        go_wp2
        go_ret
        exact ⟨rfl, HB4.out⟩
    · have d1 : decide ((j : Int) < (n : Int)) = false := by simpa using hlt
      have d1' : decide (j < n) = false := by simpa using hlt
      go_wp2
      go_ret
      exact ⟨rfl, HB4.out⟩
end Go.Proofs.Ytjledbgoknclcaa
