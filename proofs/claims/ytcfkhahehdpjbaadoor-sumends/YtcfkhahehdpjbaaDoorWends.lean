/-
  What the law SumEnds answers at any number and any byte.
-/
import Derived.Test.YtcfkhahehdpjbaaDoorAwk
import Derived.Deep.QuietTactic
import Derived.BigQuiet
import Derived.Lib.QuietBelow
namespace Go.Proofs.YtcfkhahehdpjbaaDoor
open Go Go.RowKit
set_option maxRecDepth 100000

set_option maxHeartbeats 2000000 in
theorem sumEnds_any (n : Nat) (hn : n < 65536) (c : UInt8) (w : World) (hK : Ktab w) : Calls Tryd.prog 4 #[.int .u16 n, .int .u8 (bv c)] w fun e w' => e = .returned (.bool true) ∧ Below w.heap.size w w' := by
  have HK : Hid (Ktab w) := hK
  obtain ⟨m, hm⟩ : ∃ m, m = n % 400 := ⟨_, rfl⟩
  have hm4 : m < 400 := by omega
  have HE0 : Hid (brow w w.heap.size (.slice none 0 0) (List.replicate 0 c)) := Or.inl ⟨rfl, rfl⟩
  have HB0 : Hid (Below w.heap.size w w) := Below.refl _ _
  have hmi : ((n : Int) % 400) = (m : Int) := by omega
  clear hK hm
  go_enter Tryd.func4, Tryd.ntmps4
  go_wp2
  go_loopw [5, 6] (fun v i w' => ∃ j : Nat, j ≤ m ∧ i = .int .i64 j ∧ Hid (brow w' w.heap.size v (List.replicate j c)) ∧ Hid (Below w.heap.size w w')) (fun _ i _ => m - (intOf i).toNat)
  case atStart => exact ⟨0, by omega, rfl, HE0, HB0⟩
  case round =>
    clear HE0 HB0
    obtain ⟨j, hj, rfl, HE, HB⟩ := hrel
    have hsz : w.heap.size ≤ wr.heap.size := HB.out.size
    by_cases hlt : j < m
    · have HS : Hid (List.replicate j c ++ [c] = List.replicate (j + 1) c) := by show _ = _; rw [← List.replicate_succ']
      have HL : Hid ((List.replicate j c).length = j) := by show _ = _; simp
      generalize List.replicate j c = L at *
      go_wp2_with (first | (at_builtin; refine wpList_app rfl _ _ rfl w.heap.size w.heap.size _ _ L [c] rfl rfl (brow_below HE.out (below_a1 _ _) (Nat.le_refl _)) (brow_lit _ _ c _ rfl hsz) (Or.inr (by simp)) ?c1 ?c2 ?_))
      case c1 => rw [HL.out]; simp; omega
      case c2 => simp; omega
      intro v3 w3 hr3 hg3
      have HB3 : Hid (Below w.heap.size w w3) := (HB.out.alloc hsz _).grown hg3 (by simp; omega) (brow_own HE.out)
      rw [HS.out] at hr3
      have HR3 : Hid (brow w3 w.heap.size v3 (List.replicate (j + 1) c)) := hr3
      clear hr3 hg3 HE HB
      go_wp2
      go_roundw
      case rel => exact ⟨j + 1, by omega, by go_num, HR3, HB3⟩
      case measure => simp [intOf]; omega
    · obtain rfl : j = m := by omega
      have HL : Hid ((List.replicate j c).length < 400) := by show _ < _; simp; omega
      have HKr : Hid (Ktab wr) := HK.out.stays HB.out HK.out.pos
      generalize List.replicate j c = L at *
      have HV : ∀ d os, (convert 29 9 u5).run Tryd.prog (Sort.grow (redrawn wr d) os) = .ok (.string ⟨L.toArray⟩) (Sort.grow (redrawn wr d) os) := fun d os => conv_brow (brow_below HE.out (below_regrown wr d os) (Nat.le_refl _))
      have HC9 : Hid (∀ d os, Calls Tryd.prog 9 #[] (Sort.grow (redrawn wr d) os) fun e w'' => e = .returned (.bool true) ∧ ∃ p : Regrown, w'' = Sort.grow (redrawn wr p.d) p.os) := fun d os =>
        Calls.regrown_of (awake_any _ (HKr.out.stays (below_regrown wr d os) HKr.out.pos))
      have HC10 : Hid (∀ d os, Calls Tryd.prog 10 #[.string ⟨L.toArray⟩] (Sort.grow (redrawn wr d) os) fun e w'' => e = .returned (.agg ((sha L).map cb).toArray) ∧ ∃ p : Regrown, w'' = Sort.grow (redrawn wr p.d) p.os) := fun d os =>
        Calls.regrown_of (sum_any L (by have := HL.out; omega) _ (HKr.out.stays (below_regrown wr d os) HKr.out.pos))
      have HC11 : Hid (∀ d os, Calls Tryd.prog 11 #[.string ⟨L.toArray⟩] (Sort.grow (redrawn wr d) os) fun e w'' => e = .returned (.agg ((sha L).map cb).toArray) ∧ ∃ p : Regrown, w'' = Sort.grow (redrawn wr p.d) p.os) := fun d os =>
        Calls.regrown_of (rsum_any L (by have := HL.out; omega) _)
      have HQ := same25 L
      generalize ((sha L).map cb).toArray = X at *
      clear HE HKr HK
      go_wp2
      refine wp_region_quiet_below (by kernel_rfl) (by kernel_rfl) ?_
      repeat (first | go_big_quiet_step (first | exact HC9.out _ _ | exact HC10.out _ _ | exact HC11.out _ _) | quiet_step (first | exact HC9.out _ _ | exact HC10.out _ _ | exact HC11.out _ _))
      refine wpQuiet_nil ?_
      intro _ hw'
      obtain ⟨⟨dq, osq⟩, hw''⟩ := hw'
      subst hw''
      have HB2 : Hid (Below w.heap.size w (Sort.grow (redrawn wr dq) osq)) := HB.out.trans ((below_regrown wr dq osq).mono hsz)
      go_wp2
      go_ret
      exact ⟨rfl, HB2.out⟩

end Go.Proofs.YtcfkhahehdpjbaaDoor
