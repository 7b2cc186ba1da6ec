/-
  What Sync, Crash and Loose do.
-/
import Derived.Test.YtnhnjdldgaaeoaaGreatDoorDet
import Derived.Test.YtnhnjdldgaaeoaaGreatDoorIrw
namespace Go.Proofs.YtnhnjdldgaaeoaaGreatDoor
open Go Go.RowKit
set_option maxRecDepth 100000

section
variable {w w' : World} {d g : Nat} {D : Dk}

def syncE (D : Dk) : Int := if D.down then 12 else eDown (countD D).down
def syncD (D : Dk) : Dk := if D.down then D else if (countD D).down then countD D else ⟨D.S.map setS, (countD D).armed, false⟩

theorem sync_any (h : DiskAt w d g D) : Calls Tryz.prog 55 #[.pointer (some ⟨d, 0, none⟩)] w fun e w' => e = .returned (.int .i64 (syncE D)) ∧ DiskAt w' d g (syncD D) ∧ Kp [d, g] w w' := by
  have H := hid h
  have HW := hid (wrong_any h)
  unfold syncE syncD
  cases hd : D.down with
  | true =>
    rw [hd] at HW
    clear h
    simp only [if_true]
    go_enter Tryz.func55, Tryz.ntmps55
    go_wp2_with (go_at_call 31; refine HW.out.mono ?_; rintro e w1 ⟨rfl, rfl⟩; simp only [eDown, if_true])
    go_ret
    exact ⟨rfl, H.out, Kp.refl _ _⟩
  | false =>
    rw [hd] at HW
    have HC := hid (count_any h hd)
    clear h
    simp only [Bool.false_eq_true, if_false]
    have hS : Hid ((countD D).S = D.S) := countD_S D
    cases hc : (countD D).down with
    | true =>
      rw [hc] at HC
      simp only [if_true]
      go_enter Tryz.func55, Tryz.ntmps55
      go_wp2_with (first | (go_at_call 31; refine HW.out.mono ?_; rintro e w1 ⟨rfl, rfl⟩; simp only [eDown, Bool.false_eq_true, if_false]) | (go_at_call 70; refine HC.out.mono ?_; rintro e w2 ⟨rfl, h2, h3⟩; have H2 := hid h2; have H3 := hid h3; clear h2 h3; simp only [eDown, if_true]))
      go_ret
      exact ⟨rfl, H2.out, H3.out.drop (by simp)⟩
    | false =>
      rw [hc] at HC
      simp only [Bool.false_eq_true, if_false]
      have hcd := hid hc
      go_enter Tryz.func55, Tryz.ntmps55
      go_wp2_with (first | (go_at_call 31; refine HW.out.mono ?_; rintro e w1 ⟨rfl, rfl⟩; simp only [eDown, Bool.false_eq_true, if_false]) | (go_at_call 70; refine HC.out.mono ?_; rintro e w2 ⟨rfl, h2, h3⟩; have H2 := hid h2; have H3 := hid h3; have HE := hid (each_settle h2); clear h2 h3; simp only [eDown, Bool.false_eq_true, if_false]) | (go_at_call 32; refine HE.out.mono ?_; rintro e w3 ⟨rfl, h4, h5⟩; have H4 := hid h4; have H5 := hid h5; clear h4 h5))
      go_ret
      have h6 := H4.out
      rw [hS.out, hcd.out] at h6
      exact ⟨rfl, h6, (H3.out.drop (by simp)).trans (H5.out.drop (by simp))⟩
theorem sync_nil (w : World) : Calls Tryz.prog 55 #[.pointer none] w fun e w' => e = .returned (.int .i64 1) ∧ w' = w := by
  go_enter Tryz.func55, Tryz.ntmps55
  go_wp2
  go_ret
  exact ⟨rfl, rfl⟩

def crashD (D : Dk) (ks : List Int) : Dk := ⟨tearAll D.S ks, 0, false⟩
theorem crash_any (h : DiskAt w d g D) (v : Value) (ks : List Int) (hk : IntsAt w v ks) : Calls Tryz.prog 13 #[.pointer (some ⟨d, 0, none⟩), v] w fun e w' => e = .returned (.int .i64 0) ∧ DiskAt w' d g (crashD D ks) ∧ Kp [d, g] w w' := by
  have hb1 : Below w.heap.size w (w.alloc (.cells #[v] 81)) := below_a1 w _
  have h1 : DiskAt (w.alloc (.cells #[v] 81)) d g D := h.kept (X := []) (Kp.of hb1) (by simp) (by simp)
  have HE := hid (each_tear h1 w.heap.size v ks (top_row w _) (hk.kept hb1))
  have hK0 : Hid (Kp [d, g] w (w.alloc (.cells #[v] 81))) := (Kp.refl _ _).alloc _
  clear h1 hb1
  obtain ⟨ao, cap, rfl, -⟩ := hk
  clear h
  generalize ks.length = kl at *
  go_enter Tryz.func13, Tryz.ntmps13
  go_wp2_with (go_at_call 32; refine HE.out.mono ?_; rintro e w1 ⟨rfl, h4, h5⟩; have H4 := hid h4; have H5 := hid h5; have hz1 := h4.fz 1; have hz2 := h4.fz 2; have hc1 := h4.c1; have hc2 := h4.c2; have HP := hid (h4.put2' 0 false); have HT := hid (h4.turned 0 false (by omega)); clear h4 h5)
  go_ret
  refine ⟨rfl, ?_, ?_⟩
  · show DiskAt ((w1.setCell ⟨d, 2, none⟩ (.bool false)).setCell ⟨d, 1, none⟩ (.int .i64 ((0 : Nat) : Int))) d g _
    rw [HP.out]
    exact HT.out
  · have h7 : Kp [d, g, w.heap.size] w w1 := (hK0.out.drop (by simp)).trans (H5.out.drop (by simp))
    exact ((h7.drop (by simp)).setCell _ _ (by simp)).setCell _ _ (by simp)
theorem crash_nil (w : World) (v : Value) : Calls Tryz.prog 13 #[.pointer none, v] w fun e w' => e = .returned (.int .i64 1) ∧ w' = w := by
  go_enter Tryz.func13, Tryz.ntmps13
  go_wp2
  go_ret
  exact ⟨rfl, rfl⟩
end
end Go.Proofs.YtnhnjdldgaaeoaaGreatDoor
