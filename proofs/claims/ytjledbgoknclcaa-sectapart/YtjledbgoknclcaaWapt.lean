/-
  SectApart: what is written to one sector changes no other one.
-/
import Derived.Test.YtjledbgoknclcaaWmd
import Derived.Lib.QuietBelow
namespace Go.Proofs.Ytjledbgoknclcaa
open Go Go.RowKit
set_option maxRecDepth 100000

set_option maxHeartbeats 2000000 in
theorem apart_walk (w : World) (a : Option Addr) (len cap : Nat) (ha : ActsAt w a len) (i : Int) (t : List UInt8) :
    Calls Try.prog 5 #[.slice a len cap, .int .i64 i, .string ⟨t.toArray⟩] w fun e w' => e = .returned (.bool true) ∧ Below w.heap.size w w' := by
  have HM := hid (made_ok w 6 (by omega) (by omega) a len cap ha)
  have HAW := hid awake_any
  clear ha
  go_enter Try.func5, Try.ntmps5
  go_wp2_with fail
  refine HM.out.mono ?_
  rintro e w1 ⟨d, g, r, D, rfl, hB1, hL1, hb1, hg1⟩
  have HBo := hid hB1
  have HLn := hid hL1
  have HB1 := hid hb1
  have HG := hid hg1
  clear hB1 hL1 hb1 hg1 HM
  go_wp2_with fail
  refine (HAW.out _).mono ?_
  rintro e w2 ⟨rfl, hb2⟩
  have HBo2 := hid (HBo.out.kept hb2)
  have HB2 : Hid (Below w.heap.size w w2) := HB1.out.trans (hb2.mono HB1.out.size)
  have HW := hid (write_any HBo2.out.disk i t)
  have HW2 : Hid (∀ W, RefAt W r D → Calls Try.prog 19 #[.pointer (some ⟨r.x, 0, none⟩), .int .i64 i, .string ⟨t.toArray⟩] W fun e w' => e = .returned (.int .i64 (writeE D i t)) ∧ RefAt w' r (writeD D i t) ∧ Kp [r.x, r.gL, r.gO] W w') := fun W h => rwrite_any h i t
  have HLn2 : Hid ((writeD D i t).S.length = 6) := by show _ = _; rw [writeD_len]; exact HLn.out
  clear hb2 HBo HB1 HAW HLn
  generalize writeE D i t = eW at *
  obtain ⟨D2, hD2⟩ : ∃ D2, D2 = writeD D i t := ⟨_, rfl⟩
  rw [← hD2] at HW HW2 HLn2
  clear hD2
  go_wp2_with fail
  refine HW.out.mono ?_
  rintro e w3 ⟨rfl, h3, k3⟩
  have HD3 := hid h3
  have HR3 := hid (HBo2.out.refKept k3)
  have HK3 := hid k3
  clear h3 k3
  go_wp2_with fail
  refine (HW2.out _ HR3.out).mono ?_
  rintro e w4 ⟨rfl, h4, k4⟩
  have HBo4 := hid (HBo2.out.next HD3.out h4 k4)
  have HB4 : Hid (Below w.heap.size w w4) := HB2.out.trans (((HK3.out.drop (by simp)).trans (k4.drop (by simp)) : Kp (allB d g r) w2 w4).below HG.out HB2.out.size)
  clear h4 k4 HW HW2 HR3 HK3 HD3 HBo2 HB2
  have hx3 := HBo4.out.ref.c3
  have c3 : ∀ dd os, (Sort.grow (redrawn w4 dd) os).cell? ⟨r.x, 3, none⟩ = some (.bool D2.down) := fun dd os => cell_regrown hx3 _ _
  have HC : Hid (∀ dd os, Calls Try.prog 12 #[.pointer (some ⟨d, 0, none⟩)] (Sort.grow (redrawn w4 dd) os) fun e w'' => e = .returned (.bool D2.down) ∧ ∃ p : Regrown, w'' = Sort.grow (redrawn w4 p.d) p.os) :=
    fun dd os => Calls.regrown_of ((down_any (HBo4.out.kept (below_regrown w4 dd os)).disk).mono fun e w' ⟨h1, h2⟩ => ⟨h1, by rw [h2]; exact Below.refl _ _⟩)
  clear hx3
  go_wp2_with fail
  refine wp_region_quiet_below (by kernel_rfl) (by kernel_rfl) ?_
  iterate 5 (first | go_big_quiet_step (fail) | quiet_step (fail))
  iterate 1 (first | go_big_quiet_step (exact HC.out _ _) | quiet_step (exact HC.out _ _))
  repeat (first | go_big_quiet_step (fail) | quiet_step (fail))
  refine wpQuiet_nil ?_
  intro _ hw'
  obtain ⟨⟨dq, osq⟩, hw''⟩ := hw'
  subst hw''
  have HB5 : Hid (Below w.heap.size w (Sort.grow (redrawn w4 dq) osq)) := HB4.out.trans ((below_regrown w4 dq osq).mono HB4.out.size)
  have HBo5 := hid (HBo4.out.kept (below_regrown w4 dq osq))
  generalize Sort.grow (redrawn w4 dq) osq = w5 at *
  clear HC c3 HB4 HBo4
  go_wp2
  go_loopw [12] (fun i w' => ∃ j : Nat, j ≤ 6 ∧ i = .int .i64 j ∧ w' = w5) (fun i _ => 6 - (intOf i).toNat)
  case atStart => exact ⟨0, by omega, rfl, rfl⟩
  case round =>
    obtain ⟨j, hj, rfl, hw⟩ := hrel
    subst wr
    by_cases hlt : j < 6
    · have d1 : decide ((j : Int) < 6) = true := by simp; omega
      have hjS : j < D2.S.length := by rw [HLn2.out]; exact hlt
      have HR := hid (read_any HBo5.out.disk (j : Int))
      have HDn := hid (down_any HBo5.out.disk)
      cases hdn : D2.down with
      | true =>
        rw [hdn] at HDn
        generalize readT D2 (j : Int) = rt at *
        generalize readE D2 (j : Int) = re at *
        go_wp2_with (first | (go_at_call 10; refine HR.out.mono ?_; rintro e w6 ⟨rfl, hw6⟩; subst w6) | (go_at_call 12; refine HDn.out.mono ?_; rintro e w6 ⟨rfl, hw6⟩; subst w6))
        go_roundw
        case rel => exact ⟨j + 1, by omega, by go_num, by first | trivial | rfl⟩
        case measure => simp [intOf]; omega
      | false =>
        rw [hdn] at HDn
        have hhas : hasB D2.S.length (j : Int) = true := by unfold hasB; simp; omega
        have e1 : readE D2 (j : Int) = 0 := by unfold readE; rw [hdn, hhas]; rfl
        have e2 : readT D2 (j : Int) = D2.S[j].now := by
          unfold readT
          rw [hdn, hhas]
          simp [List.getD, hjS]
        rw [e1, e2] at HR
        have q0 := HBo5.out.ref.c0
        rw [HLn2.out] at q0
        have q1 := HBo5.out.ref.now j hjS
        unfold tx at q1
        clear e1 e2 hhas
        generalize D2.S[j].now = nw at *
        go_wp2_with (first | (go_at_call 10; refine HR.out.mono ?_; rintro e w6 ⟨rfl, hw6⟩; subst w6) | (go_at_call 12; refine HDn.out.mono ?_; rintro e w6 ⟨rfl, hw6⟩; subst w6))
        go_roundw
        case rel => exact ⟨j + 1, by omega, by go_num, by first | trivial | rfl⟩
        case measure => simp [intOf]; omega
    · have d1 : decide ((j : Int) < 6) = false := by simp; omega
      go_wp2
      go_ret
      exact ⟨rfl, HB5.out⟩
end Go.Proofs.Ytjledbgoknclcaa
