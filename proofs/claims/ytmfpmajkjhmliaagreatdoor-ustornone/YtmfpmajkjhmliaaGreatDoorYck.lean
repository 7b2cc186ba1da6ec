/-
  Who may ask, what may answer, the reply's View by itself, what is ahead of my operation, what is learned: what verify's functions answer.
-/
import Derived.Test.YtmfpmajkjhmliaaGreatDoorG30
import Derived.Test.YtmfpmajkjhmliaaGreatDoorG08
namespace Go.Proofs.YtmfpmajkjhmliaaGreatDoor.Ms
open Go Go.RowKit
set_option maxRecDepth 100000
theorem wrap1 (n : Int) (h0 : -9223372036854775808 ≤ n) (h1 : n ≤ 9223372036854775806) : IntKind.i64.wrap (n + 1) = n + 1 := by rw [IntKind.wrap_i64]; omega
theorem i64_le {n : Nat} (h : n ≤ 140737488351232) : n < 9223372036854775807 := by omega
set_option maxHeartbeats 4000000 in
theorem mayAsk_any {w : World} {p n : Nat} {s : List UInt8} (r : RgAt w p s n) {me : Int} {view : List UInt8} (hv : view.length ≤ 140737488351232) {x : Sub} (hx : x.Wf) (hr : (subM me x).Rng) :
    Calls Tryz.prog 57 #[pt p 0, nu me, st view, .agg (subC x).toArray] w fun e w' => e = .returned (.bool (askOk n me view x)) ∧ Below w.heap.size w w' := by
  have T0 := top_obj w (.cells (subC x).toArray 51)
  have B0 := hid (below_a1 w (.cells (subC x).toArray 51))
  have r0 := r.kept B0.out
  have H1 := regr (fun W hb => vsub_any (r0.kept hb) hx hr)
  have H2 := regr (fun W hb => (rgclients (r0.kept hb)).mono (fun _ _ h => ⟨h.1, by rw [h.2]; exact Below.refl _ _⟩))
  have H3 := regr (w := w.alloc (.cells (subC x).toArray 51)) (fun W _ => Hist.right_any view (n : Int) W)
  have H4 := regr (w := w.alloc (.cells (subC x).toArray 51)) (fun W _ => Hist.count_any view (i64_le hv) me W)
  have hcl := Hist.cnt_le view me
  have hw1 := wrap1 (Hist.cnt view me : Int) (by omega) (by omega)
  have HLd := hid (cells_regrown _ w.heap.size (subC x) 51 T0)
  have hc0 : ∀ dd os, (Sort.grow (redrawn (w.alloc (.cells (subC x).toArray 51)) dd) os).cell? ⟨w.heap.size, 0, none⟩ = some (nu x.number) := fun dd os => cell_regrown (srow_number T0 hx) _ _
  have ZS := szSY hx
  unfold askOk
  clear r r0 hr T0 hx hv hcl
  generalize x.number = xn at *
  generalize (Hist.cnt view me : Int) = cn at *
  generalize subC x = V at *
  generalize vsub n me x = B1 at *
  generalize Hist.rightB view (n : Int) = B2 at *
  cases B1
  · rw [Bool.false_and]
    go_enter Tryz.func57, Tryz.ntmps57
    go_upto_region 1 with fail
    generalize w.alloc (.cells V.toArray 51) = W0 at *
    refine wp_region_quiet_below (by kernel_rfl) (by kernel_rfl) ?_
    iterate 2 (first | go_big_quiet_step (fail) | quiet_step (fail))
    refine wpQuiet_load_seg rfl 51 _ rfl w.heap.size rfl V _ HLd.out Tryz.underlying51 rfl ZS ?_
    repeat (first | go_big_quiet_step (exact H1.out _ _) | quiet_step (exact H1.out _ _))
    refine wpQuiet_nil ?_
    intro _ hw'
    obtain ⟨⟨dq, osq⟩, hw''⟩ := hw'
    subst hw''
    have HB2 := hid (below_two B0.out (below_regrown W0 dq osq))
    clear hc0 H1 H2 H3 H4 HLd
    go_wp2
    go_ret
    exact ⟨rfl, HB2.out⟩
  · rw [Bool.true_and]
    cases B2
    · rw [Bool.false_and]
      go_enter Tryz.func57, Tryz.ntmps57
      go_upto_region 1 with fail
      generalize w.alloc (.cells V.toArray 51) = W0 at *
      refine wp_region_quiet_below (by kernel_rfl) (by kernel_rfl) ?_
      iterate 2 (first | go_big_quiet_step (fail) | quiet_step (fail))
      refine wpQuiet_load_seg rfl 51 _ rfl w.heap.size rfl V _ HLd.out Tryz.underlying51 rfl ZS ?_
      iterate 2 (first | go_big_quiet_step (exact H1.out _ _) | quiet_step (exact H1.out _ _))
      iterate 3 (first | go_big_quiet_step (exact H2.out _ _) | quiet_step (exact H2.out _ _))
      repeat (first | go_big_quiet_step (exact H3.out _ _) | quiet_step (exact H3.out _ _))
      refine wpQuiet_nil ?_
      intro _ hw'
      obtain ⟨⟨dq, osq⟩, hw''⟩ := hw'
      subst hw''
      have HB2 := hid (below_two B0.out (below_regrown W0 dq osq))
      clear hc0 H1 H2 H3 H4 HLd
      go_wp2
      go_ret
      exact ⟨rfl, HB2.out⟩
    · rw [Bool.true_and]
      cases hB3 : (xn == cn + 1)
      all_goals (
        go_enter Tryz.func57, Tryz.ntmps57
        go_upto_region 1 with fail
        generalize w.alloc (.cells V.toArray 51) = W0 at *
        refine wp_region_quiet_below (by kernel_rfl) (by kernel_rfl) ?_
        iterate 2 (first | go_big_quiet_step (fail) | quiet_step (fail))
        refine wpQuiet_load_seg rfl 51 _ rfl w.heap.size rfl V _ HLd.out Tryz.underlying51 rfl ZS ?_
        iterate 2 (first | go_big_quiet_step (exact H1.out _ _) | quiet_step (exact H1.out _ _))
        iterate 3 (first | go_big_quiet_step (exact H2.out _ _) | quiet_step (exact H2.out _ _))
        iterate 3 (first | go_big_quiet_step (exact H3.out _ _) | quiet_step (exact H3.out _ _))
        repeat (first | go_big_quiet_step (exact H4.out _ _) | quiet_step (exact H4.out _ _))
        refine wpQuiet_nil ?_
        intro _ hw'
        obtain ⟨⟨dq, osq⟩, hw''⟩ := hw'
        subst hw''
        have HB2 := hid (below_two B0.out (below_regrown W0 dq osq))
        clear hc0 H1 H2 H3 H4 HLd
        go_wp2
        go_ret
        exact ⟨rfl, HB2.out⟩
        )
theorem build_repm (W : World) (y : Rep) (hy : y.Wf) (v : Value) : (Instr.build 88 #[(0, nu 2), (3, .agg (repC y v).toArray)]).run Tryz.prog W = .ok (.agg (msgC (repM y) v (.slice none 0 0)).toArray) W := by
  refine run_build_all msgPl Tryz.underlying88 zeroMsgs (by kernel_rfl) msgS rfl (fits_of _ _ (by kernel_rfl)) [(0, [nu 2], nu 2), (3, repC y v, .agg (repC y v).toArray)] ?_ _ ?_
  · intro z hz
    simp only [List.mem_cons, List.not_mem_nil, or_false] at hz
    rcases hz with rfl | rfl
    · exact ⟨rfl, _, rfl, rfl⟩
    · exact ⟨rfl, _, rfl, by rw [repC_len hy, repC_len wfZeroR]⟩
  · simp [msgS, msgC, repM, zeroM]
structure RepRng (y : Rep) : Prop where
  number : I64 y.number
  last : I64 y.last
  vnum : I64 y.vnum
  ps : ∀ p ∈ y.pend, penOk p
theorem repM_wf {y : Rep} (hy : y.Wf) : (repM y).Wf := ⟨wfZeroS, hy, rfl, rfl, wfZeroB⟩
theorem repM_rng {y : Rep} (hr : RepRng y) : (repM y).Rng :=
  ⟨⟨by show (-9223372036854775808 : Int) ≤ 2; decide, by show (2 : Int) ≤ _; decide⟩, i64_zero, i64_zero, i64_zero, i64_zero, hr.number, hr.last, hr.vnum, i64_zero, i64_zero, i64_zero, (fun n hn => by cases hn), hr.ps⟩
set_option maxHeartbeats 4000000 in
theorem mayAnswer_any {w : World} (ht : Tb w) {x : Sub} (hx : x.Wf) {y : Rep} (hy : y.Wf) (hr : RepRng y) {v : Value} (hp : PensAt w v y.pend) (hl : y.pend.length ≤ 9223372036854775807) :
    Calls Tryz.prog 58 #[.agg (subC x).toArray, .agg (repC y v).toArray] w fun e w' => e = .returned (.bool (ansOk x y)) ∧ Below w.heap.size w w' := by
  have B0 := below_a1 w (.cells (subC x).toArray 51)
  have B1 := hid (below_two B0 (below_a1 (w.alloc (.cells (subC x).toArray 51)) (.cells (repC y v).toArray 55)))
  have T0 := row_kept (top_obj w (.cells (subC x).toArray 51)) (below_a1 (w.alloc (.cells (subC x).toArray 51)) (.cells (repC y v).toArray 55))
  have T1 := top_obj (w.alloc (.cells (subC x).toArray 51)) (.cells (repC y v).toArray 55)
  have e1 : (w.alloc (.cells (subC x).toArray 51)).heap.size = w.heap.size + 1 := by simp
  rw [e1] at T1
  have HM := hid (vmay_any (vP := v) (vN := .slice none 0 0) (repM_wf hy) (repM_rng hr) (hp.kept B1.out) (IntsAt.nil _) ⟨hl, Nat.zero_le _⟩ (ht.stays B1.out))
  have c0 := hid (srow_number T0 hx)
  have c1 := hid (rrow_number T1 hy)
  have SX := hid (row_zeroY T1)
  have HBm := hid (fun W => build_repm W y hy v)
  have ZS := szRY hy v
  unfold ansOk
  clear ht hr hp hl T0 T1 hx hy B0
  generalize msgC (repM y) v (.slice none 0 0) = MV at *
  generalize mayB (repM y) = BM at *
  generalize x.number = xn at *
  generalize y.number = yn at *
  generalize subC x = V at *
  generalize repC y v = U at *
  cases BM
  · rw [Bool.false_and]
    go_enter Tryz.func58, Tryz.ntmps58
    go_upto_region 1 with fail
    try simp only [e1]
    generalize (w.alloc (.cells V.toArray 51)).alloc (.cells U.toArray 55) = W0 at *
    have hsz : w.heap.size ≤ W0.heap.size := B1.out.size
    clear e1
    generalize w.heap.size + 1 = Y at *
    generalize hX : w.heap.size = X at *
    go_wp2_with (first
      | ((with_reducible refine wl_load 55 (.tmp 3) ?_ Y 0 ?_ ?_ U _ SX.out Tryz.underlying55 ?_ ZS ?_); exact rfl; exact rfl; exact rfl; exact rfl)
      | ((with_reducible refine wl_buildY 88 [(0, .const (nu 2)), (3, .tmp 5)] ?_ ?_ MV.toArray ?_ ?_); exact rfl; exact rfl; exact (HBm.out _)))
    refine HM.out.mono ?_
    rintro e w1 ⟨rfl, hb⟩
    have HB1 := hid (B1.out.trans (hb.mono hsz))
    clear hb
    go_wp2
    go_ret
    exact ⟨rfl, hX ▸ HB1.out⟩
  · rw [Bool.true_and]
    go_enter Tryz.func58, Tryz.ntmps58
    go_upto_region 1 with fail
    try simp only [e1]
    generalize (w.alloc (.cells V.toArray 51)).alloc (.cells U.toArray 55) = W0 at *
    have hsz : w.heap.size ≤ W0.heap.size := B1.out.size
    clear e1
    generalize w.heap.size + 1 = Y at *
    generalize hX : w.heap.size = X at *
    go_wp2_with (first
      | ((with_reducible refine wl_load 55 (.tmp 3) ?_ Y 0 ?_ ?_ U _ SX.out Tryz.underlying55 ?_ ZS ?_); exact rfl; exact rfl; exact rfl; exact rfl)
      | ((with_reducible refine wl_buildY 88 [(0, .const (nu 2)), (3, .tmp 5)] ?_ ?_ MV.toArray ?_ ?_); exact rfl; exact rfl; exact (HBm.out _)))
    refine HM.out.mono ?_
    rintro e w1 ⟨rfl, hb⟩
    have HB1 := hid (B1.out.trans (hb.mono hsz))
    have d0 := cell_keptY c0.out hb
    have d1 := cell_keptY c1.out hb
    clear hb
    go_wp2
    go_ret
    exact ⟨rfl, hX ▸ HB1.out⟩
end Go.Proofs.YtmfpmajkjhmliaaGreatDoor.Ms
