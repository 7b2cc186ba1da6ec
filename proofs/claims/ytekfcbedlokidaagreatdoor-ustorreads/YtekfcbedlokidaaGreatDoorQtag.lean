/-
  What the reference's Tag answers, and what it does.
-/
import Derived.Test.YtekfcbedlokidaaGreatDoorH23
import Derived.Test.YtekfcbedlokidaaGreatDoorH34
namespace Go.Proofs.YtekfcbedlokidaaGreatDoor
open Go Go.RowKit
set_option maxRecDepth 100000
section
variable {w : World} {x n : Nat} {s : List UInt8} {v : Value} {L : List Ent}
theorem Lines.more {w : World} {v : Value} {L : List Ent} (h : Lines w v L) (o : Obj) : Lines (w.alloc o) v L := h.kept (below_a1 w o)
theorem Lines.drew {w : World} {v : Value} {L : List Ent} (h : Lines w v L) : Lines w.drew v L := h
theorem RefAt.far {w w' : World} {x n q : Nat} {s : List UInt8} {v : Value} {L : List Ent} {cs : Array Value} (r : RefAt w x s n v L) (ht : Touch q w w') (hq : x ≠ q) (hc : w.heap[q]? = some (.cells cs 23)) : RefAt w' x s n v L :=
  ⟨row_touch r.obj ht hq, r.book.touch ht (fun cur h => by rw [hc] at h; injection h with h; injection h with _ h; exact absurd h (by decide))⟩
theorem ref_store {w : World} {x n : Nat} {s : List UInt8} {v v2 : Value} {L L2 : List Ent} (r : RefAt w x s n v L) (h : Lines w v2 L2) : RefAt (w.setCell ⟨x, 2, none⟩ v2) x s n v2 L2 :=
  ⟨heap_setCell_same _ _ _ _ _ _ r.obj, h.touch (touch_setCell x 2 w v2) (fun cur hc => by rw [r.obj] at hc; injection hc with hc; injection hc with _ hc; exact absurd hc (by decide))⟩
theorem below_da (w : World) (o : Obj) : Below w.heap.size w (w.drew.alloc o) := (Below.refl _ _).drew.trans (below_a1 w.drew o)
theorem below_daa (w : World) (o o' : Obj) : Below w.heap.size w ((w.drew.alloc o).alloc o') := below_more (below_da w o) o' (Nat.le_refl _)
set_option maxHeartbeats 8000000 in
theorem rtag_ok (r : RefAt w x s n v L) (hs : s.length ≤ 64) (hn : n ≤ 8) (c d : Int) (t : List UInt8) (hc : -9223372036854775808 ≤ c ∧ c ≤ 9223372036854775807) (hd : -9223372036854775808 ≤ d ∧ d ≤ 9223372036854775807) (hm : May n (c, d, t)) (hL : ∀ e ∈ L, EntWf e) (hl : L.length ≤ 900) :
    Calls Tryz.prog 87 #[.pointer (some ⟨x, 0, none⟩), .agg #[.int .i64 c, .int .i64 d, .string ⟨t.toArray⟩]] w fun e w' => e = .returned (.tuple #[.agg ((tagB s (c, d, t)).map cb).toArray, .int .i64 0]) ∧ ∃ v', RefAt w' x s n v' (noteL L (c, d, t)) ∧ Touch x w w' := by
  have hx := hm.wf hn
  have htl : t.length ≤ 140737488351232 := by have := hm.2.2.2.2; simp only at this; omega
  have HZ := zero25
  have hZs : Hid (zb32.size = 32) := show zb32.size = 32 from rfl
  generalize zb32 = Z at *
  have HB1 : Hid (Below w.heap.size w ((w.alloc (.cells #[.int .i64 c, .int .i64 d, .string ⟨t.toArray⟩] 166)).alloc (.cells Z 23))) := below_more (below_a1 w _) _ (Nat.le_refl _)
  have hR1 : Hid (((w.alloc (.cells #[.int .i64 c, .int .i64 d, .string ⟨t.toArray⟩] 166)).alloc (.cells Z 23)).heap[w.heap.size + 1]? = some (.cells Z 23)) := heap_alloc2_new w _ _
  have hQ1 : Hid (((w.alloc (.cells #[.int .i64 c, .int .i64 d, .string ⟨t.toArray⟩] 166)).alloc (.cells Z 23)).heap[w.heap.size]? = some (.cells #[.int .i64 c, .int .i64 d, .string ⟨t.toArray⟩] 166)) := row_kept (top_row w _) (below_a1 _ _)
  have r1 := hid (r.kept HB1.out)
  have hxl : Hid (x < w.heap.size) := row_lt r.obj
  have HMy := hid (rmay_any r1.out c d t true (decide_eq_true hm).symm)
  have HMd := hid (fun W (rr : RefAt W x s n v L) => rmade_any rr c d t hx hL (by omega))
  have HOf : Hid (∀ W v' L', RefAt W x s n v' L' → Calls Tryz.prog 122 #[.pointer (some ⟨x, 0, none⟩), .agg #[.int .i64 c, .int .i64 d, .string ⟨t.toArray⟩]] W fun e w' => e = .returned (.agg ((tagB s (c, d, t)).map cb).toArray) ∧ Below W.heap.size W w') := fun W v' L' rr => of_any rr hs c d t hc hd htl
  have H1 := hid (one_cb (tagB s (c, d, t)))
  have hSl : Hid (((tagB s (c, d, t)).map cb).length = 32) := by show List.length _ = _; rw [List.length_map]; exact tagB_len _ _
  have HI : Hid ((Tryz.prog.info? 23).map (·.size) = some ((tagB s (c, d, t)).map cb).length) := by show _ = _; rw [hSl.out]; exact size25
  generalize hS : (tagB s (c, d, t)).map cb = S at *
  clear hS
  have HF : Hid (0 + S.length ≤ Z.size) := by show _ ≤ _; rw [hSl.out, hZs.out]; omega
  have HRR : Hid ((List.take 0 Z.toList ++ S ++ List.drop (0 + S.length) Z.toList).toArray = S.toArray) := by
    have h64 : Z.toList.length ≤ 0 + S.length := by rw [Array.length_toList, hSl.out, hZs.out]; omega
    show _ = _
    rw [List.drop_eq_nil_of_le h64]; simp
  by_cases hin : (c, d, t) ∈ L
  · have hN : Hid (noteL L (c, d, t) = L) := if_pos hin
    rw [decide_eq_true hin] at HMd
    clear r hm hin hx hc hd hs htl
    go_enter Tryz.func87, Tryz.ntmps87
    go_upto_region 1 with (first | (refine wpList_alloc_row rfl 23 rfl Z HZ ?_))
    have hc0 : ((w.alloc (.cells #[.int .i64 c, .int .i64 d, .string ⟨t.toArray⟩] 166)).alloc (.cells Z 23)).cell? ⟨w.heap.size, 0, none⟩ = some (.int .i64 c) := by rw [cell_of_row _ _ _ _ _ _ hQ1.out]; rfl
    have hc1 : ((w.alloc (.cells #[.int .i64 c, .int .i64 d, .string ⟨t.toArray⟩] 166)).alloc (.cells Z 23)).cell? ⟨w.heap.size, 1, none⟩ = some (.int .i64 d) := by rw [cell_of_row _ _ _ _ _ _ hQ1.out]; rfl
    have hc2 : ((w.alloc (.cells #[.int .i64 c, .int .i64 d, .string ⟨t.toArray⟩] 166)).alloc (.cells Z 23)).cell? ⟨w.heap.size, 2, none⟩ = some (.string ⟨t.toArray⟩) := by rw [cell_of_row _ _ _ _ _ _ hQ1.out]; rfl
    generalize (w.alloc (.cells #[.int .i64 c, .int .i64 d, .string ⟨t.toArray⟩] 166)).alloc (.cells Z 23) = w1 at *
    go_wp2_with (first | (go_at_call 120; refine Calls.mono HMy.out ?_))
    rintro e w2 ⟨rfl, hb2⟩
    have hR2 := hid (row_kept hR1.out hb2)
    have hQ2 := hid (row_kept hQ1.out hb2)
    have r2 := hid (r1.out.kept hb2)
    have HB2 := hid (HB1.out.trans (hb2.mono HB1.out.size))
    clear hb2 HMy hc0 hc1 hc2 hQ1 hR1 r1 HB1
    have hc0 : w2.cell? ⟨w.heap.size, 0, none⟩ = some (.int .i64 c) := by rw [cell_of_row _ _ _ _ _ _ hQ2.out]; rfl
    have hc1 : w2.cell? ⟨w.heap.size, 1, none⟩ = some (.int .i64 d) := by rw [cell_of_row _ _ _ _ _ _ hQ2.out]; rfl
    have hc2 : w2.cell? ⟨w.heap.size, 2, none⟩ = some (.string ⟨t.toArray⟩) := by rw [cell_of_row _ _ _ _ _ _ hQ2.out]; rfl
    go_wp2_with (first | (go_at_call 121; refine (HMd.out _ r2.out).mono ?_))
    rintro e wz ⟨rfl, hb3⟩
    have hRz := hid (row_kept hR2.out hb3)
    have hQz := hid (row_kept hQ2.out hb3)
    have RF := hid (r2.out.kept hb3)
    have HTz : Hid (Touch x w wz) := Touch.of (HB2.out.trans (hb3.mono HB2.out.size))
    clear hb3 HMd hc0 hc1 hc2 hQ2 hR2 r2 HB2
    have hc0 : wz.cell? ⟨w.heap.size, 0, none⟩ = some (.int .i64 c) := by rw [cell_of_row _ _ _ _ _ _ hQz.out]; rfl
    have hc1 : wz.cell? ⟨w.heap.size, 1, none⟩ = some (.int .i64 d) := by rw [cell_of_row _ _ _ _ _ _ hQz.out]; rfl
    have hc2 : wz.cell? ⟨w.heap.size, 2, none⟩ = some (.string ⟨t.toArray⟩) := by rw [cell_of_row _ _ _ _ _ _ hQz.out]; rfl
    go_wp2_with (first | (go_at_call 122; refine (HOf.out _ _ _ RF.out).mono ?_))
    rintro e w7 ⟨rfl, hb7⟩
    have R7 := hid (RF.out.kept hb7)
    have hR7 := hid (row_kept hRz.out hb7)
    have HT7 : Hid (Touch x w w7) := HTz.out.trans (Touch.of hb7)
    clear hb7 hc0 hc1 hc2
    go_wp2_with (first | (refine wpList_store_seg rfl 23 _ _ rfl rfl (w.heap.size + 1) 0 rfl S rfl Z 23 hR7.out HF.out H1.out HI.out ?_))
    refine bodyPost_ret_by (results_row_tmp (fn := Tryz.f87) (p := 4) (u := 5) (ty := 23) (by kernel_rfl) _ _ (w.heap.size + 1) 23 S.toArray (0, 0) _ rfl (by first | (rw [HRR.out]; exact setRow_heap _ _ _ _ _ _ hR7.out) | (have e := HRR.out; simp at e; rw [e]; exact setRow_heap _ _ _ _ _ _ hR7.out)) Tryz.underlying23 rfl (by rw [List.size_toArray, hSl.out]; exact size25)) rfl ?_
    exact ⟨rfl, _, by rw [hN.out]; exact R7.out.far (touch_setRow _ _ _) (by have := hxl.out; omega) hR7.out, HT7.out.past (touch_setRow _ _ _) (by omega)⟩
  · have hN : Hid (noteL L (c, d, t) = L ++ [(c, d, t)]) := if_neg hin
    rw [decide_eq_false hin] at HMd
    clear r hm hin hx hc hd hs htl
    go_enter Tryz.func87, Tryz.ntmps87
    go_upto_region 1 with (first | (refine wpList_alloc_row rfl 23 rfl Z HZ ?_))
    have hc0 : ((w.alloc (.cells #[.int .i64 c, .int .i64 d, .string ⟨t.toArray⟩] 166)).alloc (.cells Z 23)).cell? ⟨w.heap.size, 0, none⟩ = some (.int .i64 c) := by rw [cell_of_row _ _ _ _ _ _ hQ1.out]; rfl
    have hc1 : ((w.alloc (.cells #[.int .i64 c, .int .i64 d, .string ⟨t.toArray⟩] 166)).alloc (.cells Z 23)).cell? ⟨w.heap.size, 1, none⟩ = some (.int .i64 d) := by rw [cell_of_row _ _ _ _ _ _ hQ1.out]; rfl
    have hc2 : ((w.alloc (.cells #[.int .i64 c, .int .i64 d, .string ⟨t.toArray⟩] 166)).alloc (.cells Z 23)).cell? ⟨w.heap.size, 2, none⟩ = some (.string ⟨t.toArray⟩) := by rw [cell_of_row _ _ _ _ _ _ hQ1.out]; rfl
    generalize (w.alloc (.cells #[.int .i64 c, .int .i64 d, .string ⟨t.toArray⟩] 166)).alloc (.cells Z 23) = w1 at *
    go_wp2_with (first | (go_at_call 120; refine Calls.mono HMy.out ?_))
    rintro e w2 ⟨rfl, hb2⟩
    have hR2 := hid (row_kept hR1.out hb2)
    have hQ2 := hid (row_kept hQ1.out hb2)
    have r2 := hid (r1.out.kept hb2)
    have HB2 := hid (HB1.out.trans (hb2.mono HB1.out.size))
    clear hb2 HMy hc0 hc1 hc2 hQ1 hR1 r1 HB1
    have hc0 : w2.cell? ⟨w.heap.size, 0, none⟩ = some (.int .i64 c) := by rw [cell_of_row _ _ _ _ _ _ hQ2.out]; rfl
    have hc1 : w2.cell? ⟨w.heap.size, 1, none⟩ = some (.int .i64 d) := by rw [cell_of_row _ _ _ _ _ _ hQ2.out]; rfl
    have hc2 : w2.cell? ⟨w.heap.size, 2, none⟩ = some (.string ⟨t.toArray⟩) := by rw [cell_of_row _ _ _ _ _ _ hQ2.out]; rfl
    go_wp2_with (first | (go_at_call 121; refine (HMd.out _ r2.out).mono ?_))
    rintro e wm ⟨rfl, hb3⟩
    have hR3 := hid (row_kept hR2.out hb3)
    have hQ3 := hid (row_kept hQ2.out hb3)
    have r3 := hid (r2.out.kept hb3)
    have HB3 := hid (HB2.out.trans (hb3.mono HB2.out.size))
    clear hb3 HMd hc0 hc1 hc2 hQ2 hR2 r2 HB2
    have hc0 : wm.cell? ⟨w.heap.size, 0, none⟩ = some (.int .i64 c) := by rw [cell_of_row _ _ _ _ _ _ hQ3.out]; rfl
    have hc1 : wm.cell? ⟨w.heap.size, 1, none⟩ = some (.int .i64 d) := by rw [cell_of_row _ _ _ _ _ _ hQ3.out]; rfl
    have hc2 : wm.cell? ⟨w.heap.size, 2, none⟩ = some (.string ⟨t.toArray⟩) := by rw [cell_of_row _ _ _ _ _ _ hQ3.out]; rfl
    have hx2 := r3.out.c2
    have hxf : wm.frozen? ⟨x, 2, none⟩ = false := frozen_of_row _ _ _ _ _ r3.out.obj
    have hlq : w.heap.size < wm.heap.size := row_lt hQ3.out
    have hlx : x < wm.heap.size := row_lt r3.out.obj
    have nq : wm.heap.size ≠ w.heap.size := by omega
    have nx : wm.heap.size ≠ x := by omega
    have nq1 : wm.heap.size + 1 ≠ w.heap.size := by omega
    have nx1 : wm.heap.size + 1 ≠ x := by omega
    have HLm := hid r3.out.book
    go_upto_region 4 with fail
    have HC : Hid (∀ W, Below wm.heap.size wm W → W.cell? ⟨w.heap.size, 0, none⟩ = some (.int .i64 c) ∧ W.cell? ⟨w.heap.size, 1, none⟩ = some (.int .i64 d) ∧ W.cell? ⟨w.heap.size, 2, none⟩ = some (.string ⟨t.toArray⟩) ∧ W.cell? ⟨x, 2, none⟩ = some v ∧ W.frozen? ⟨x, 2, none⟩ = false ∧ wm.heap.size ≤ W.heap.size) := fun W hb => by
      have hq' := row_kept hQ3.out hb
      have rr := r3.out.kept hb
      refine ⟨?_, ?_, ?_, rr.c2, frozen_of_row _ _ _ _ _ rr.obj, hb.size⟩
      · rw [cell_of_row _ _ _ _ _ _ hq']; rfl
      · rw [cell_of_row _ _ _ _ _ _ hq']; rfl
      · rw [cell_of_row _ _ _ _ _ _ hq']; rfl
    go_region_law (first | (refine step_app1 _ (by rfl) _ _ (by rfl) _ (by rfl) _ (by rfl) L wm.heap.size (by omega) ?_ ?_ ?_ ?_; (first | exact (HLm.out.drew).more _ | exact ((HLm.out.drew).more _).more _); (first | exact top_row wm.drew _ | exact heap_alloc2_new wm.drew _ _ | exact heap_alloc2_old wm.drew _ _); (first | omega | (simp; omega)); intro g1 cap1 W1 hrow1 hbl1 hk1; have HBa : Hid (Below wm.heap.size wm W1) := (by first | exact (below_da wm _).trans hbl1 | exact (below_daa wm _ _).trans hbl1); have hfa := HC.out _ HBa.out; obtain ⟨a0, a1, a2, a3, a4, a5⟩ := hfa; clear hbl1) | (refine step_app2 _ (by rfl) _ _ (by rfl) _ L.length _ (by rfl) _ (by rfl) L wm.heap.size c d t (by omega) ?_ ?_ ?_ ?_; (first | omega | (simp; omega)); (first | exact hrow1 | exact hrow1.alloc _); (first | exact top_row W1 _ | exact hk1 _ _ (by omega) (heap_alloc2_new wm.drew _ _) | exact hk1 _ _ (by omega) (heap_alloc2_old wm.drew _ _)); intro g2 cap2 W2 hrow2 hbl2; have HBb : Hid (Below wm.heap.size wm W2) := (by first | exact HBa.out.trans hbl2 | exact (below_more HBa.out _ (Nat.le_refl _)).trans hbl2); have hfb := HC.out _ HBb.out; obtain ⟨b0, b1, b2, b3, b4, b5⟩ := hfb; clear hbl2))
    all_goals (
      have RF := hid (ref_store (r3.out.kept HBb.out) (hrow2.lines (by rw [List.length_append]; rfl)))
      have TT := hid (touch_setCell x 2 W2 (.slice (some ⟨g2, 0, none⟩) (L.length + 1) cap2))
      have hRz := hid (row_touch (row_kept hR3.out HBb.out) TT.out (by have := hxl.out; omega))
      have hQz := hid (row_touch (row_kept hQ3.out HBb.out) TT.out (by have := hxl.out; omega))
      have HTz : Hid (Touch x w (W2.setCell ⟨x, 2, none⟩ (.slice (some ⟨g2, 0, none⟩) (L.length + 1) cap2))) := (Touch.of (HB3.out.trans (HBb.out.mono HB3.out.size))).trans TT.out
      clear hrow2 hrow1 hk1 TT HBa HBb a0 a1 a2 a3 a4 a5 b0 b1 b2 b3 b4 b5 hc0 hc1 hc2 hx2 hxf
      generalize W2.setCell ⟨x, 2, none⟩ (.slice (some ⟨g2, 0, none⟩) (L.length + 1) cap2) = wz at *
      have hc0 : wz.cell? ⟨w.heap.size, 0, none⟩ = some (.int .i64 c) := by rw [cell_of_row _ _ _ _ _ _ hQz.out]; rfl
      have hc1 : wz.cell? ⟨w.heap.size, 1, none⟩ = some (.int .i64 d) := by rw [cell_of_row _ _ _ _ _ _ hQz.out]; rfl
      have hc2 : wz.cell? ⟨w.heap.size, 2, none⟩ = some (.string ⟨t.toArray⟩) := by rw [cell_of_row _ _ _ _ _ _ hQz.out]; rfl
      go_wp2_with (first | (go_at_call 122; refine (HOf.out _ _ _ RF.out).mono ?_))
      rintro e w7 ⟨rfl, hb7⟩
      have R7 := hid (RF.out.kept hb7)
      have hR7 := hid (row_kept hRz.out hb7)
      have HT7 : Hid (Touch x w w7) := HTz.out.trans (Touch.of hb7)
      clear hb7 hc0 hc1 hc2
      go_wp2_with (first | (refine wpList_store_seg rfl 23 _ _ rfl rfl (w.heap.size + 1) 0 rfl S rfl Z 23 hR7.out HF.out H1.out HI.out ?_))
      refine bodyPost_ret_by (results_row_tmp (fn := Tryz.f87) (p := 4) (u := 5) (ty := 23) (by kernel_rfl) _ _ (w.heap.size + 1) 23 S.toArray (0, 0) _ rfl (by first | (rw [HRR.out]; exact setRow_heap _ _ _ _ _ _ hR7.out) | (have e := HRR.out; simp at e; rw [e]; exact setRow_heap _ _ _ _ _ _ hR7.out)) Tryz.underlying23 rfl (by rw [List.size_toArray, hSl.out]; exact size25)) rfl ?_
      exact ⟨rfl, _, by rw [hN.out]; exact R7.out.far (touch_setRow _ _ _) (by have := hxl.out; omega) hR7.out, HT7.out.past (touch_setRow _ _ _) (by omega)⟩)
end
end Go.Proofs.YtekfcbedlokidaaGreatDoor
