/-
  What the reference answers: Longest.
-/
import Derived.Test.YtfigbgpfkhcpcaaIrf
namespace Go.Proofs.Ytfigbgpfkhcpcaa.Kn
open Go Go.RowKit
set_option maxRecDepth 100000

theorem take_sub {L : List Ln} (k : Nat) : ∀ x ∈ L.take k, x ∈ L := fun _ hx => List.mem_of_mem_take hx
theorem PI.topWf {n : Int} {L : List Ln} (h : PI n L) : (topL L).Wf := h.tag
set_option maxHeartbeats 8000000 in
theorem rlongest_any {w : World} {q n me : Nat} {v : Value} {L : List Ln} (h : RAt w q v n me L) : Calls Try.prog 16 #[pt q 0] w fun e w' => e = .returned (.agg (lnC (topL L)).toArray) ∧ Below w.heap.size w w' := by
  have H := hid h
  have hL := h.len
  obtain ⟨va, vc, hv⟩ := h.row.nil_val
  subst hv
  have HB := hid build_noLn
  have Z0 := hid (sizeOf_ln noLn_wf)
  have B0 := hid (below_a1 w (.cells (lnC zeroB).toArray 36))
  have B1 := hid (B0.out.alloc B0.out.size (.cells (lnC zeroB).toArray 36))
  have T0 : Hid (((w.alloc (.cells (lnC zeroB).toArray 36)).alloc (.cells (lnC zeroB).toArray 36)).heap[w.heap.size]? = some (.cells (lnC zeroB).toArray 36)) := (heap_old1 _ _ _ (by simp)).trans (top_obj w _)
  have T1 : Hid (((w.alloc (.cells (lnC zeroB).toArray 36)).alloc (.cells (lnC zeroB).toArray 36)).heap[w.heap.size + 1]? = some (.cells (lnC zeroB).toArray 36)) := by
    show _ = _
    have := top_obj (w.alloc (.cells (lnC zeroB).toArray 36)) (.cells (lnC zeroB).toArray 36)
    simpa using this
  obtain ⟨X1, hX1⟩ : ∃ X1, w.heap.size + 1 = X1 := ⟨_, rfl⟩
  rw [hX1] at T1
  have HX := hid hX1
  have LN : (lnC zeroB).length = (lnC noLn).length := rfl
  have zl := zeroBl
  clear h
  go_enter Try.func16, Try.ntmps16
  go_upto_region 1 with ((with_reducible refine wl_alloc 36 ?_ ?_ (lnC zeroB).toArray zl ?_); exact rfl; exact rfl)
  try simp only [Act.put, List.setIfInBounds_toArray, List.set_cons_zero, List.set_cons_succ]
  generalize hW0 : w.alloc (.cells (lnC zeroB).toArray 36) = W0 at *
  have hs0 : W0.heap.size = X1 := by rw [← hW0, ← hX1]; simp
  have HS0 := hid hs0
  clear hW0 hs0 hX1
  go_upto_region 2 with (first
    | ((with_reducible refine wl_buildY 36 [(1, .const (nu (-1)))] ?_ ?_ (lnC noLn).toArray ?_ ?_); exact rfl; exact rfl; exact HB.out _)
    | ((with_reducible refine wl_alloc 36 ?_ ?_ (lnC zeroB).toArray zl ?_); exact rfl; exact rfl; try rw [HS0.out]; try simp only [Act.put, List.setIfInBounds_toArray, List.set_cons_zero, List.set_cons_succ]; generalize W0.alloc (.cells (lnC zeroB).toArray 36) = Wx at *)
    | ((with_reducible refine wl_put 36 (.tmp 3) (.tmp 5) ?_ ?_ X1 0 ?_ ?_ [] (lnC noLn) (lnC zeroB) [] ?_ 36 (row_nilY T1.out) rfl LN (one_ln noLn) Z0.out ?_); exact rfl; exact rfl; exact rfl; exact rfl; exact rfl; intro W2 r2 b2))
  have hX0 : w.heap.size < X1 := by have := HX.out; omega
  have R2 : Hid (W2.heap[X1]? = some (.cells (lnC noLn).toArray 36)) := by
    show _ = _
    simpa using r2
  have R0 := hid (b2.row T0.out (by omega))
  have B2 := hid (b2.below B1.out (by omega))
  clear r2 b2 T0 T1 B0 B1 HS0 LN
  go_wp2
  go_loopw [4] (fun i wr => ∃ k : Nat, k ≤ L.length ∧ i = nu k ∧ Hid (wr.heap[X1]? = some (.cells (lnC (topL (L.take k))).toArray 36)) ∧ Hid (wr.heap[w.heap.size]? = some (.cells (lnC zeroB).toArray 36)) ∧ Hid (Below w.heap.size w wr)) (fun i _ => L.length - (intOf i).toNat)
  case atStart => exact ⟨0, by omega, rfl, R2, R0, B2⟩
  case round =>
    obtain ⟨k, hk, rfl, HT, HZ, HBl⟩ := hrel
    have Hr := hid (H.out.kept HBl.out)
    have c2 := Hr.out.c2
    by_cases hlt : k < L.length
    · have d1 : decide ((k : Int) < (L.length : Int)) = true := by simpa using hlt
      obtain ⟨g, cap, e1, hc⟩ := Hr.out.at hlt
      cases e1
      have b2 : wr.cell? ⟨g, k * 35 + 2, none⟩ = some (st L[k].view) := hc 2 _ rfl
      have HC : Hid (∀ j c, (lnC L[k])[j]? = some c → wr.cell? ⟨g, k * 35 + j, none⟩ = some c) := hc
      have HS : Hid (topL (L.take (k + 1)) = topF (topL (L.take k)) L[k]) := fold_take topF noLn L k hlt
      have hbw : L[k].Wf := H.out.inv.wf _ (List.getElem_mem hlt)
      have htw : (topL (L.take k)).Wf := (pi_sub H.out.inv (take_sub k)).topWf
      have hvl : L[k].view.length ≤ 512 := right_len ((okB_iff _ _).1 (H.out.inv.ok _ (List.getElem_mem hlt))).2.2.1
      clear hc
      generalize L[k] = b at *
      generalize topL (L.take k) = t at *
      have t2 : wr.cell? ⟨X1, 2, none⟩ = some (st t.view) := lrow_c HT.out
      have hs1 : (⟨b.view.toArray⟩ : ByteArray).size = b.view.length := rfl
      have hs2 : (⟨t.view.toArray⟩ : ByteArray).size = t.view.length := rfl
      have Zb := hid (sizeOf_ln hbw)
      have LL : Hid ((lnC t).length = (lnC b).length) := by show _ = _; rw [lnC_len htw, lnC_len hbw]
      by_cases hln : t.view.length < b.view.length
      · have d3 : decide ((t.view.length : Int) < (b.view.length : Int)) = true := decide_eq_true (by omega)
        have d3b : decide (t.view.length < b.view.length) = true := decide_eq_true hln
        have HS2 : Hid (topL (L.take (k + 1)) = b) := by
          show _ = _
          rw [HS.out]
          unfold topF
          rw [if_pos hln]
        clear hln
        go_upto_region 5 with fail
        have p2 : ∀ dd os, (Sort.grow (redrawn wr dd) os).cell? ⟨q, 2, none⟩ = some (.slice (some ⟨g, 0, none⟩) L.length vc) := fun dd os => cell_regrown c2 _ _
        have pb : ∀ dd os, (Sort.grow (redrawn wr dd) os).cell? ⟨g, k * 35 + 2, none⟩ = some (st b.view) := fun dd os => cell_regrown b2 _ _
        have pt2 : ∀ dd os, (Sort.grow (redrawn wr dd) os).cell? ⟨X1, 2, none⟩ = some (st t.view) := fun dd os => cell_regrown t2 _ _
        refine wp_region_quiet_below (by kernel_rfl) (by kernel_rfl) ?_
        repeat (first | go_big_quiet_step (fail) | quiet_step (fail))
        refine wpQuiet_nil ?_
        intro _ hw'
        obtain ⟨⟨dq, osq⟩, hw''⟩ := hw'
        subst hw''
        have HBq := hid (below_regrown wr dq osq)
        generalize Sort.grow (redrawn wr dq) osq = W5 at *
        have c5 : W5.cell? ⟨q, 2, none⟩ = some (.slice (some ⟨g, 0, none⟩) L.length vc) := (Hr.out.kept HBq.out).c2
        have T5 := hid (row_kept HT.out HBq.out)
        have Z5 := hid (row_kept HZ.out HBq.out)
        have B5 := hid (below_twoY HBl.out HBq.out HBl.out.size)
        have C5 := hid (seg_keptY HC.out HBq.out)
        clear p2 pb pt2 c2 b2 t2
        go_upto_region 4 with (first
          | ((with_reducible refine wl_load 36 (.tmp 33) ?_ g (k * 35) ?_ ?_ (lnC b) _ C5.out Try.underlying36 ?_ Zb.out ?_); exact rfl; exact rfl; exact rfl; exact rfl)
          | ((with_reducible refine wl_put 36 (.tmp 3) (.tmp 34) ?_ ?_ X1 0 ?_ ?_ [] (lnC b) (lnC t) [] ?_ 36 (row_nilY T5.out) rfl LL.out (one_ln b) Zb.out ?_); exact rfl; exact rfl; exact rfl; exact rfl; exact rfl; intro W6 r6 b6))
        have R6 : Hid (W6.heap[X1]? = some (.cells (lnC (topL (L.take (k + 1)))).toArray 36)) := by
          show _ = _
          rw [HS2.out]
          simpa using r6
        have Z6 := hid (b6.row Z5.out (by omega))
        have B6 := hid (b6.below B5.out (by omega))
        clear r6 b6
        go_wp2
        exact ⟨⟨k + 1, by omega, by go_num, R6, Z6, B6⟩, by simp [intOf]; omega⟩
      · have d3 : decide ((t.view.length : Int) < (b.view.length : Int)) = false := decide_eq_false (by omega)
        have d3b : decide (t.view.length < b.view.length) = false := decide_eq_false hln
        have HS2 : Hid (topL (L.take (k + 1)) = t) := by
          show _ = _
          rw [HS.out]
          unfold topF
          rw [if_neg hln]
        clear hln
        go_upto_region 5 with fail
        have p2 : ∀ dd os, (Sort.grow (redrawn wr dd) os).cell? ⟨q, 2, none⟩ = some (.slice (some ⟨g, 0, none⟩) L.length vc) := fun dd os => cell_regrown c2 _ _
        have pb : ∀ dd os, (Sort.grow (redrawn wr dd) os).cell? ⟨g, k * 35 + 2, none⟩ = some (st b.view) := fun dd os => cell_regrown b2 _ _
        have pt2 : ∀ dd os, (Sort.grow (redrawn wr dd) os).cell? ⟨X1, 2, none⟩ = some (st t.view) := fun dd os => cell_regrown t2 _ _
        refine wp_region_quiet_below (by kernel_rfl) (by kernel_rfl) ?_
        repeat (first | go_big_quiet_step (fail) | quiet_step (fail))
        refine wpQuiet_nil ?_
        intro _ hw'
        obtain ⟨⟨dq, osq⟩, hw''⟩ := hw'
        subst hw''
        have HBq := hid (below_regrown wr dq osq)
        generalize Sort.grow (redrawn wr dq) osq = W5 at *
        have c5 : W5.cell? ⟨q, 2, none⟩ = some (.slice (some ⟨g, 0, none⟩) L.length vc) := (Hr.out.kept HBq.out).c2
        have T5 := hid (row_kept HT.out HBq.out)
        have Z5 := hid (row_kept HZ.out HBq.out)
        have B5 := hid (below_twoY HBl.out HBq.out HBl.out.size)
        have C5 := hid (seg_keptY HC.out HBq.out)
        clear p2 pb pt2 c2 b2 t2
        have R6 : Hid (W5.heap[X1]? = some (.cells (lnC (topL (L.take (k + 1)))).toArray 36)) := by
          show _ = _
          rw [HS2.out]
          exact T5.out
        go_wp2
        exact ⟨⟨k + 1, by omega, by go_num, R6, Z5, B5⟩, by simp [intOf]; omega⟩
    · have d1 : decide ((k : Int) < (L.length : Int)) = false := by simpa using hlt
      have hke : L.take k = L := List.take_of_length_le (by omega)
      rw [hke] at HT
      have htw : (topL L).Wf := H.out.inv.topWf
      have Zt := hid (sizeOf_ln htw)
      have OT := hid (one_ln (topL L))
      have LL : Hid ((lnC zeroB).length = (lnC (topL L)).length) := by show _ = _; rw [lnC_len htw]; rfl
      clear hke
      obtain ⟨CT, hCT⟩ : ∃ CT, lnC (topL L) = CT := ⟨_, rfl⟩
      rw [hCT] at HT Zt OT LL
      have HCT := hid hCT
      clear hCT
      have HT2 := hid (row_zeroY HT.out)
      go_wp2_with (first
        | ((with_reducible refine wl_load 36 (.tmp 3) ?_ X1 0 ?_ ?_ CT _ HT2.out Try.underlying36 ?_ Zt.out ?_); exact rfl; exact rfl; exact rfl; exact rfl)
        | ((with_reducible refine wl_put 36 (.tmp 2) (.tmp 35) ?_ ?_ w.heap.size 0 ?_ ?_ [] CT (lnC zeroB) [] ?_ 36 (row_nilY HZ.out) rfl LL.out OT.out Zt.out ?_); exact rfl; exact rfl; exact rfl; exact rfl; exact rfl; intro W6 r6 b6))
      have hr7 : W6.heap[w.heap.size]? = some (.cells CT.toArray 36) := by simpa using r6
      refine bodyPost_ret_by (results_cY (fn := Try.f16) (p := 2) (ty := 36) (by kernel_rfl) _ _ w.heap.size 36 CT.toArray (0, 0) _ rfl hr7 Try.underlying36 rfl (by rw [List.size_toArray]; exact Zt.out)) rfl ?_
      exact ⟨by rw [HCT.out], b6.below HBl.out (Nat.le_refl _)⟩
end Go.Proofs.Ytfigbgpfkhcpcaa.Kn
