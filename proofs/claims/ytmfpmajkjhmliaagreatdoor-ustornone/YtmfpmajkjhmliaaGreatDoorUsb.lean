/-
  The message that asks for what is waited for ((*ustor.Reg).submit), what a Write is refused for (refuses), and what a nil client answers.
-/
import Derived.Test.YtmfpmajkjhmliaaGreatDoorUnx
namespace Go.Proofs.YtmfpmajkjhmliaaGreatDoor.Ms
open Go Go.RowKit
set_option maxRecDepth 100000
theorem build_msg0 (W : World) : (Instr.build 88 #[]).run Tryz.prog W = .ok (.agg (msgC (zeroM 0 0) (.slice none 0 0) (.slice none 0 0)).toArray) W := by kernel_rfl
theorem zeroM0_wf : (zeroM 0 0).Wf := zeroM_wf 0 0
theorem one_msgN (m : Msg) : ∀ v ∈ msgC m (.slice none 0 0) (.slice none 0 0), v.oneCell' = true := one_msg m _ _ rfl rfl
section
variable {w : World} {p h g b n G : Nat} {s : List UInt8} {L : List Ent} {U : Ureg}
set_option maxHeartbeats 8000000 in
theorem usubmit_core {w : World} {G : Nat} {me : Int} {V MV Z : List Value} (CG1 : Hid (w.cell? ⟨G, 1, none⟩ = some (nu me))) (CG4 : Hid (∀ j v, V[j]? = some v → w.cell? ⟨G, 4 + j, none⟩ = some v)) (ZV : (Tryz.prog.info? 51).map (·.size) = some V.length)
    (HBm : Hid (∀ W, (Instr.build 88 #[(0, nu 1), (1, nu me), (2, .agg V.toArray)]).run Tryz.prog W = .ok (.agg MV.toArray) W)) (ZZ : (Tryz.prog.info? 88).map (·.zero) = some (some (.agg Z.toArray))) (LM : Z.length = MV.length) (OM : Hid (∀ v ∈ MV, v.oneCell' = true)) (ZM : Hid ((Tryz.prog.info? 88).map (·.size) = some MV.length)) :
    Calls Tryz.prog 81 #[pt G 0] w fun e w' => e = .returned (.agg MV.toArray) ∧ Below w.heap.size w w' := by
  have B0 := hid (below_a1 w (.cells Z.toArray 88))
  have T0 := hid (top_obj w (.cells Z.toArray 88))
  go_enter Tryz.func81, Tryz.ntmps81
  go_upto_region 1 with ((with_reducible refine wl_alloc 88 ?_ ?_ Z.toArray ZZ ?_); exact rfl; exact rfl)
  simp only [Act.put, List.setIfInBounds_toArray, List.set_cons_zero, List.set_cons_succ]
  generalize w.alloc (.cells Z.toArray 88) = W0 at *
  generalize hX : w.heap.size = X at *
  refine wp_region_cs (N := 12) [(pt G 0), (pt G 0), (pt G 1), (nu me), (pt G 0), (pt G 0), (pt G 4), (.agg (V).toArray), (.agg MV.toArray), undef] (fun L w' => Below w.heap.size w w' ∧ w'.heap[X]? = some (.cells (bif L 9 then MV else Z).toArray 88)) [(3, (pt G 0)), (4, (pt G 0)), (5, (pt G 1)), (6, (nu me)), (7, (pt G 0)), (8, (pt G 0)), (9, (pt G 4)), (10, (.agg (V).toArray)), (11, (.agg MV.toArray))] (by kernel_rfl) (by kernel_rfl) rfl (fun w1 hb => ⟨(hX ▸ B0.out : Below w.heap.size w W0).trans (hb.mono (hX ▸ B0.out : Below w.heap.size w W0).size), row_kept T0.out hb⟩) (by kernel_rfl) ?_ ?_
  · intro i o ho
    match i, ho with
    | 0, ho => cases ho; exact fun L a w hLi hw hnot hJ hk hv K h => op_move 0 _ rfl (hk 0 (by kernel_rfl)) (h _ hJ)
    | 1, ho => cases ho; exact fun L a w hLi hw hnot hJ hk hv K h => op_nil 3 G 0 rfl (hv 0 3 (by kernel_rfl) (by kernel_rfl)) (h _ hJ)
    | 2, ho => cases ho; exact fun L a w hLi hw hnot hJ hk hv K h => op_fa 4 _ 1 G 0 1 rfl (fun W => by kernel_rfl) (hv 1 4 (by kernel_rfl) (by kernel_rfl)) (h _ hJ)
    | 3, ho => cases ho; exact fun L a w hLi hw hnot hJ hk hv K h => op_load1 _ (.tmp 5) rfl G 1 (hv 2 5 (by kernel_rfl) (by kernel_rfl)) (nu me) _ (cell_keptY CG1.out hJ.1) Tryz.underlying3 rfl (h _ hJ)
    | 4, ho => cases ho; exact fun L a w hLi hw hnot hJ hk hv K h => op_move 0 _ rfl (hk 0 (by kernel_rfl)) (h _ hJ)
    | 5, ho => cases ho; exact fun L a w hLi hw hnot hJ hk hv K h => op_nil 7 G 0 rfl (hv 4 7 (by kernel_rfl) (by kernel_rfl)) (h _ hJ)
    | 6, ho => cases ho; exact fun L a w hLi hw hnot hJ hk hv K h => op_fa 8 _ 4 G 0 4 rfl (fun W => by kernel_rfl) (hv 5 8 (by kernel_rfl) (by kernel_rfl)) (h _ hJ)
    | 7, ho => cases ho; exact fun L a w hLi hw hnot hJ hk hv K h => op_load _ (.tmp 9) rfl G 4 (hv 6 9 (by kernel_rfl) (by kernel_rfl)) (V) _ (seg_keptY CG4.out hJ.1) Tryz.underlying51 rfl ZV (h _ hJ)
    | 8, ho => cases ho; exact fun L a w hLi hw hnot hJ hk hv K h => op_buildY _ [(0, .const (nu (1))), (1, .tmp 6), (2, .tmp 10)] rfl (.agg MV.toArray) (by have e1 : a.eval (.tmp 6) = (nu me) := (hv 3 6 (by kernel_rfl) (by kernel_rfl)); have e2 : a.eval (.tmp 10) = (.agg (V).toArray) := (hv 7 10 (by kernel_rfl) (by kernel_rfl)); simp only [List.map_cons, List.map_nil, e1, e2]; exact (HBm.out w)) (h _ hJ)
    | 9, ho => cases ho; exact fun L a w hLi hw hnot hJ hk hv K h => op_put _ 2 11 rfl rfl X 0 (hk 2 (by kernel_rfl)) [] MV Z [] (hv 8 11 (by kernel_rfl) (by kernel_rfl)) _ (row_nilY (by have e := hJ.2; simp only [hLi, cond_false] at e; exact e)) rfl LM OM.out ZM.out (fun w1 hr hb => h _ ⟨hb.below hJ.1 (by omega), (by show w1.heap[X]? = some (.cells (bif up L 9 9 then MV else Z).toArray _); rw [up_self]; simpa using hr)⟩)
    | (i + 10), ho => exact absurd ho (by simp)
  intro LL W1 hall hJ
  simp only [List.foldl_cons, List.foldl_nil, List.setIfInBounds_toArray, List.set_cons_zero, List.set_cons_succ]
  obtain ⟨b1, r1⟩ := hJ
  rw [hall 9 (by decide), cond_true] at r1
  have R1 := hid r1
  have B1 := hid b1
  clear r1 b1
  go_wp2
  refine bodyPost_ret_by (results_cY (fn := Tryz.f81) (p := 2) (ty := 88) (by kernel_rfl) _ _ X 88 MV.toArray (0, 0) _ rfl R1.out Tryz.underlying88 rfl (by rw [List.size_toArray]; exact ZM.out)) rfl ?_
  exact ⟨rfl, B1.out⟩
theorem usubmit_any (u : UAt w G p U) : Calls Tryz.prog 81 #[pt G 0] w fun e w' => e = .returned (.agg (msgC (subM U.me U.asked) (.slice none 0 0) (.slice none 0 0)).toArray) ∧ Below w.heap.size w w' :=
  usubmit_core u.c1 u.c4 (szSY u.wf) (fun W => build_subm W U.me U.asked u.wf) zeroMsg (by rw [msgC_len zeroM0_wf, msgC_len (vsub_wf u.wf)]) (one_msgN _) (szMY (vsub_wf u.wf) _ _)
set_option maxHeartbeats 4000000 in
theorem urefuses_ok (u : UAt w G p U) (r : RgAt w p s n) (hm : hasB n U.me = true) (v : List UInt8) (hv : v.length ≤ 256) (hw : U.view.length < 512) :
    Calls Tryz.prog 79 #[pt G 0, nu 1, nu U.me, st v] w fun e w' => e = .returned (nu 0) ∧ w' = w := by
  have HH := hid (uhas_any r U.me)
  rw [hm] at HH
  have c0 := u.c0
  have c1 := u.c1
  have c2 := u.c2
  have hz : (⟨v.toArray⟩ : ByteArray).size = v.length := rfl
  have hz2 : (⟨U.view.toArray⟩ : ByteArray).size = U.view.length := rfl
  have d1 : decide ((256 : Int) < (v.length : Int)) = false := decide_eq_false (by omega)
  have d2 : decide ((512 : Int) ≤ (U.view.length : Int)) = false := decide_eq_false (by omega)
  have d3 : decide (256 < v.length) = false := decide_eq_false (by omega)
  have d4 : decide (512 ≤ U.view.length) = false := decide_eq_false (by omega)
  clear u r hm
  go_enter Tryz.func79, Tryz.ntmps79
  go_wp2_with fail
  refine HH.out.mono ?_
  rintro e w1 ⟨rfl, hw1⟩
  subst w1
  go_wp2
  go_ret
  exact ⟨rfl, rfl⟩
set_option maxHeartbeats 4000000 in
theorem uask_nil (w : World) (k t : Int) (v : List UInt8) : Calls Tryz.prog 31 #[.pointer none, nu k, nu t, st v] w fun e w' => e = .returned (.tuple #[.agg (msgC (zeroM 0 0) (.slice none 0 0) (.slice none 0 0)).toArray, nu 1]) ∧ Below w.heap.size w w' := by
  have T0 := hid (top_obj w (.cells (msgC (zeroM 0 0) (.slice none 0 0) (.slice none 0 0)).toArray 88))
  have B0 := hid (below_a1 w (.cells (msgC (zeroM 0 0) (.slice none 0 0) (.slice none 0 0)).toArray 88))
  have HM := hid (fun W => umade_nil W)
  have ZZ := zeroMsg
  have HB := hid build_msg0
  have OZ := hid (one_msgN (zeroM 0 0))
  have ZS := hid (szMY zeroM0_wf (.slice none 0 0) (.slice none 0 0))
  generalize msgC (zeroM 0 0) (.slice none 0 0) (.slice none 0 0) = Z at *
  go_enter Tryz.func31, Tryz.ntmps31
  go_upto_region 1 with ((with_reducible refine wl_alloc 88 ?_ ?_ Z.toArray ZZ ?_); exact rfl; exact rfl)
  try simp only [Act.put, List.setIfInBounds_toArray, List.set_cons_zero, List.set_cons_succ]
  generalize w.alloc (.cells Z.toArray 88) = W0 at *
  generalize hX : w.heap.size = X at *
  go_wp2_with fail
  refine (HM.out _).mono ?_
  rintro e w1 ⟨rfl, hw1⟩
  subst w1
  go_wp2_with (first
    | ((with_reducible refine wl_build 88 ?_ ?_ Z.toArray (HB.out _) ?_); exact rfl; exact rfl)
    | ((with_reducible refine wl_put 88 (.tmp 8) (.tmp 14) ?_ ?_ X 0 ?_ ?_ [] Z Z [] ?_ 88 (row_nilY T0.out) rfl rfl OZ.out ZS.out ?_); exact rfl; exact rfl; exact rfl; exact rfl; exact rfl; intro W6 hr6 hbut))
  have hr7 : W6.heap[X]? = some (.cells Z.toArray 88) := by simpa using hr6
  refine bodyPost_ret_by (results_ctY (fn := Tryz.f31) (p := 8) (u := 9) (ty := 88) (by kernel_rfl) _ _ X 88 Z.toArray (0, 0) _ rfl hr7 Tryz.underlying88 rfl (by rw [List.size_toArray]; exact ZS.out)) rfl ?_
  exact ⟨rfl, hX ▸ hbut.below B0.out (Nat.le_refl _)⟩
set_option maxHeartbeats 4000000 in
theorem uagain_nil (w : World) : Calls Tryz.prog 32 #[.pointer none] w fun e w' => e = .returned (.tuple #[.agg (msgC (zeroM 0 0) (.slice none 0 0) (.slice none 0 0)).toArray, .bool false]) ∧ Below w.heap.size w w' := by
  have T0 := hid (top_obj w (.cells (msgC (zeroM 0 0) (.slice none 0 0) (.slice none 0 0)).toArray 88))
  have B0 := hid (below_a1 w (.cells (msgC (zeroM 0 0) (.slice none 0 0) (.slice none 0 0)).toArray 88))
  have HM := hid (fun W => ubusy_nil W)
  have ZZ := zeroMsg
  have HB := hid build_msg0
  have OZ := hid (one_msgN (zeroM 0 0))
  have ZS := hid (szMY zeroM0_wf (.slice none 0 0) (.slice none 0 0))
  generalize msgC (zeroM 0 0) (.slice none 0 0) (.slice none 0 0) = Z at *
  go_enter Tryz.func32, Tryz.ntmps32
  go_upto_region 1 with ((with_reducible refine wl_alloc 88 ?_ ?_ Z.toArray ZZ ?_); exact rfl; exact rfl)
  try simp only [Act.put, List.setIfInBounds_toArray, List.set_cons_zero, List.set_cons_succ]
  generalize w.alloc (.cells Z.toArray 88) = W0 at *
  generalize hX : w.heap.size = X at *
  go_wp2_with fail
  refine (HM.out _).mono ?_
  rintro e w1 ⟨rfl, hw1⟩
  subst w1
  go_wp2_with (first
    | ((with_reducible refine wl_build 88 ?_ ?_ Z.toArray (HB.out _) ?_); exact rfl; exact rfl)
    | ((with_reducible refine wl_put 88 (.tmp 2) (.tmp 7) ?_ ?_ X 0 ?_ ?_ [] Z Z [] ?_ 88 (row_nilY T0.out) rfl rfl OZ.out ZS.out ?_); exact rfl; exact rfl; exact rfl; exact rfl; exact rfl; intro W6 hr6 hbut))
  have hr7 : W6.heap[X]? = some (.cells Z.toArray 88) := by simpa using hr6
  refine bodyPost_ret_by (results_ctY (fn := Tryz.f32) (p := 2) (u := 3) (ty := 88) (by kernel_rfl) _ _ X 88 Z.toArray (0, 0) _ rfl hr7 Tryz.underlying88 rfl (by rw [List.size_toArray]; exact ZS.out)) rfl ?_
  exact ⟨rfl, hX ▸ hbut.below B0.out (Nat.le_refl _)⟩
set_option maxHeartbeats 4000000 in
theorem ucommit_nil (w : World) : Calls Tryz.prog 34 #[.pointer none] w fun e w' => e = .returned (.tuple #[.agg (msgC (zeroM 0 0) (.slice none 0 0) (.slice none 0 0)).toArray, .bool false]) ∧ Below w.heap.size w w' := by
  have T0 := hid (top_obj w (.cells (msgC (zeroM 0 0) (.slice none 0 0) (.slice none 0 0)).toArray 88))
  have B0 := hid (below_a1 w (.cells (msgC (zeroM 0 0) (.slice none 0 0) (.slice none 0 0)).toArray 88))
  have HM := hid (fun W => unumber_nil W)
  have ZZ := zeroMsg
  have HB := hid build_msg0
  have OZ := hid (one_msgN (zeroM 0 0))
  have ZS := hid (szMY zeroM0_wf (.slice none 0 0) (.slice none 0 0))
  generalize msgC (zeroM 0 0) (.slice none 0 0) (.slice none 0 0) = Z at *
  go_enter Tryz.func34, Tryz.ntmps34
  go_upto_region 1 with ((with_reducible refine wl_alloc 88 ?_ ?_ Z.toArray ZZ ?_); exact rfl; exact rfl)
  try simp only [Act.put, List.setIfInBounds_toArray, List.set_cons_zero, List.set_cons_succ]
  generalize w.alloc (.cells Z.toArray 88) = W0 at *
  generalize hX : w.heap.size = X at *
  go_wp2_with fail
  refine (HM.out _).mono ?_
  rintro e w1 ⟨rfl, hw1⟩
  subst w1
  go_wp2_with (first
    | ((with_reducible refine wl_build 88 ?_ ?_ Z.toArray (HB.out _) ?_); exact rfl; exact rfl)
    | ((with_reducible refine wl_put 88 (.tmp 2) (.tmp 7) ?_ ?_ X 0 ?_ ?_ [] Z Z [] ?_ 88 (row_nilY T0.out) rfl rfl OZ.out ZS.out ?_); exact rfl; exact rfl; exact rfl; exact rfl; exact rfl; intro W6 hr6 hbut))
  have hr7 : W6.heap[X]? = some (.cells Z.toArray 88) := by simpa using hr6
  refine bodyPost_ret_by (results_ctY (fn := Tryz.f34) (p := 2) (u := 3) (ty := 88) (by kernel_rfl) _ _ X 88 Z.toArray (0, 0) _ rfl hr7 Tryz.underlying88 rfl (by rw [List.size_toArray]; exact ZS.out)) rfl ?_
  exact ⟨rfl, hX ▸ hbut.below B0.out (Nat.le_refl _)⟩
set_option maxHeartbeats 4000000 in
theorem ureply_nil (w : World) (V : List Value) : Calls Tryz.prog 33 #[.pointer none, .agg V.toArray] w fun e w' => e = .returned (.tuple #[.agg (gotC zeroT).toArray, nu 1]) ∧ Below w.heap.size w w' := by
  have e1 : (w.alloc (.cells V.toArray 88)).heap.size = w.heap.size + 1 := by simp
  have T0 := hid (top_obj (w.alloc (.cells V.toArray 88)) (.cells (gotC zeroT).toArray 59))
  rw [e1] at T0
  have B0 := hid (below_two (below_a1 w (.cells V.toArray 88)) (below_a1 (w.alloc (.cells V.toArray 88)) (.cells (gotC zeroT).toArray 59)))
  have HM := hid (fun W => umade_nil W)
  have ZZ := zeroGot
  have HB := hid build_got0
  have OZ := hid (one_got zeroT)
  have ZS := hid (szGY zeroT_wf)
  generalize gotC zeroT = Z at *
  go_enter Tryz.func33, Tryz.ntmps33
  go_upto_region 1 with ((with_reducible refine wl_alloc 59 ?_ ?_ Z.toArray ZZ ?_); exact rfl; exact rfl)
  try simp only [Act.put, List.setIfInBounds_toArray, List.set_cons_zero, List.set_cons_succ, e1]
  generalize (w.alloc (.cells V.toArray 88)).alloc (.cells Z.toArray 59) = W0 at *
  clear e1
  have hle : w.heap.size ≤ w.heap.size + 1 := Nat.le_succ _
  generalize w.heap.size + 1 = Y at *
  generalize hX : w.heap.size = X at *
  go_wp2_with fail
  refine (HM.out _).mono ?_
  rintro e w1 ⟨rfl, hw1⟩
  subst w1
  go_wp2_with (first
    | ((with_reducible refine wl_build 59 ?_ ?_ Z.toArray (HB.out _) ?_); exact rfl; exact rfl)
    | ((with_reducible refine wl_put 59 (.tmp 4) (.tmp 11) ?_ ?_ Y 0 ?_ ?_ [] Z Z [] ?_ 59 (row_nilY T0.out) rfl rfl OZ.out ZS.out ?_); exact rfl; exact rfl; exact rfl; exact rfl; exact rfl; intro W6 hr6 hbut))
  have hr7 : W6.heap[Y]? = some (.cells Z.toArray 59) := by simpa using hr6
  refine bodyPost_ret_by (results_ctY (fn := Tryz.f33) (p := 4) (u := 5) (ty := 59) (by kernel_rfl) _ _ Y 59 Z.toArray (0, 0) _ rfl hr7 Tryz.underlying59 rfl (by rw [List.size_toArray]; exact ZS.out)) rfl ?_
  exact ⟨rfl, hX ▸ hbut.below B0.out hle⟩
set_option maxHeartbeats 2000000 in
theorem uread_nil (w : World) (me : Int) (s : List UInt8) : Calls Tryz.prog 25 #[.pointer none, nu me, st s] w fun e w' => e = .returned (.tuple #[.pointer none, nu 1]) ∧ w' = w := by
  have HN := hid (unew_nil w me)
  go_enter Tryz.func25, Tryz.ntmps25
  go_wp2_with fail
  refine HN.out.mono ?_
  rintro e w1 ⟨rfl, hw1⟩
  subst w1
  go_wp2
  go_ret2
  exact ⟨rfl, rfl⟩
end
end Go.Proofs.YtmfpmajkjhmliaaGreatDoor.Ms
