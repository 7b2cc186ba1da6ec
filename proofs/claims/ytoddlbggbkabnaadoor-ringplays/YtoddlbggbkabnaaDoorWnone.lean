/-
  What the law RingNone answers at every input.
-/
import Derived.Test.YtoddlbggbkabnaaDoorRawa
namespace Go.Proofs.YtoddlbggbkabnaaDoor
open Go Go.RowKit
set_option maxRecDepth 100000

/-- The digest of zero bytes, as a list of cells. -/
theorem zeroL : ∃ ZL : List Value, zb32 = ZL.toArray ∧ ZL.length = 32 ∧ (∀ v ∈ ZL, v.oneCell' = true) ∧ (∀ W, (Op.equalIn 10000 34 (.agg ZL.toArray) (.agg ZL.toArray)).run Tryd.prog W = .ok true W) ∧ ZL = (List.replicate 32 (0 : UInt8)).map cb :=
  ⟨(List.replicate 32 0).map cb, rfl, by rw [List.length_map, List.length_replicate], one_cb _, fun W => same25 _ (List.length_replicate ..) W, rfl⟩

/-- An act's cells. -/
def actL (k c d : Int) (t D : List UInt8) : List Value := [.int .i64 k, .int .i64 c, .int .i64 d, .string ⟨t.toArray⟩] ++ D.map cb
theorem actL_seg (k c d : Int) (t D : List UInt8) (j : Nat) (v : Value) (h : (D.map cb)[j]? = some v) : (actL k c d t D)[4 + j]? = some v := by
  unfold actL
  rw [List.getElem?_append_right (by simp)]
  simpa using h

set_option maxHeartbeats 4000000 in
theorem ringNone_any (k c d : Int) (t D : List UInt8) (hD : D.length = 32) (w : World) (hK : Ktab w) (hT : Lay.Tabs w) :
    Calls Tryd.prog 7 #[.agg (actL k c d t D).toArray] w fun e w' => e = .returned (.bool true) ∧ Below w.heap.size w w' := by
  have HTN := hid (fun W => ringTag_nil W c d t)
  have HCN := hid (fun W => check_nil W c d t D)
  have HMN := hid (fun W => made_nil W c d t)
  have HA := hid (fun W a b => awake_any W a b)
  have HKb : Hid (∀ V, Below w.heap.size w V → Ktab V) := fun V h => hK.stays h hK.pos
  have HTb : Hid (∀ V, Below w.heap.size w V → Lay.Tabs V) := fun V h => hT.stays h
  have HZ := zero25
  have H25 := hid build25
  obtain ⟨ZL, hz, hzl, hz1, HEz, -⟩ := zeroL
  rw [hz] at HZ H25 HTN
  have HIz : Hid ((Tryd.prog.info? 34).map (·.size) = some ZL.length) := by show _ = _; rw [hzl]; exact size25
  have HO := hid hz1
  have HFz : Hid (ZL.length = ZL.toArray.size) := by show _ = _; rw [List.size_toArray]
  have HId : Hid ((Tryd.prog.info? 34).map (·.size) = some (D.map cb).length) := by show _ = _; rw [List.length_map, hD]; exact size25
  have hq := top_row w (.cells (actL k c d t D).toArray 36)
  have HB0 := hid (below_a1 w (.cells (actL k c d t D).toArray 36))
  have HSG := hid (actL_seg k c d t D)
  have g1 : (actL k c d t D).toArray[1]? = some (.int .i64 c) := rfl
  have g2 : (actL k c d t D).toArray[2]? = some (.int .i64 d) := rfl
  have g3 : (actL k c d t D).toArray[3]? = some (.string ⟨t.toArray⟩) := rfl
  generalize actL k c d t D = AL at *
  generalize D.map cb = S at *
  clear hK hT hD hz hzl hz1
  go_enter Tryd.func7, Tryd.ntmps7
  go_upto_region 2 with fail
  have hc1 : (w.alloc (.cells AL.toArray 36)).cell? ⟨w.heap.size, 1, none⟩ = some (.int .i64 c) := by rw [cell_of_row _ _ _ _ _ _ hq]; exact g1
  have hc2 : (w.alloc (.cells AL.toArray 36)).cell? ⟨w.heap.size, 2, none⟩ = some (.int .i64 d) := by rw [cell_of_row _ _ _ _ _ _ hq]; exact g2
  have hc3 : (w.alloc (.cells AL.toArray 36)).cell? ⟨w.heap.size, 3, none⟩ = some (.string ⟨t.toArray⟩) := by rw [cell_of_row _ _ _ _ _ _ hq]; exact g3
  have HQ := hid hq
  clear hq
  generalize w.alloc (.cells AL.toArray 36) = w0 at *
  go_wp2_with (first | (go_at_call 12; refine (HTN.out _).mono ?_))
  rintro e w1 ⟨rfl, hb1⟩
  have HB1 := hid (HB0.out.trans (hb1.mono HB0.out.size))
  have HQ1 := hid (row_kept HQ.out hb1)
  clear hb1 hc1 hc2 hc3 HB0 HQ
  have HB2 : Hid (Below w.heap.size w (w1.alloc (.cells ZL.toArray 34))) := below_more HB1.out _ (Nat.le_refl _)
  have HQ2 : Hid ((w1.alloc (.cells ZL.toArray 34)).heap[w.heap.size]? = some (.cells AL.toArray 36)) := row_kept HQ1.out (below_a1 _ _)
  have HZ2 := hid (top_row w1 (.cells ZL.toArray 34))
  go_upto_region 3 with (first | (refine wpList_alloc_row rfl 34 rfl ZL.toArray HZ ?_) | (refine wpList_store_top rfl 34 _ _ rfl rfl w1.heap.size rfl ZL rfl ZL.toArray 34 rfl HFz.out HO.out HIz.out ?_))
  generalize w1.alloc (.cells ZL.toArray 34) = w2 at *
  clear HZ
  go_wp2_with (first | (go_at_call 10; refine (HA.out _ (HKb.out _ HB2.out) (HTb.out _ HB2.out)).mono ?_))
  rintro e w3 ⟨rfl, hb3⟩
  have HB3 := hid (HB2.out.trans (hb3.mono HB2.out.size))
  have HQ3 := hid (row_kept HQ2.out hb3)
  have HZ3 := hid (seg_of_row (row_kept HZ2.out hb3))
  clear hb3 HB2 HQ2 HZ2 HB1 HQ1
  have hc1 : w3.cell? ⟨w.heap.size, 1, none⟩ = some (.int .i64 c) := by rw [cell_of_row _ _ _ _ _ _ HQ3.out]; exact g1
  have hc2 : w3.cell? ⟨w.heap.size, 2, none⟩ = some (.int .i64 d) := by rw [cell_of_row _ _ _ _ _ _ HQ3.out]; exact g2
  have hc3 : w3.cell? ⟨w.heap.size, 3, none⟩ = some (.string ⟨t.toArray⟩) := by rw [cell_of_row _ _ _ _ _ _ HQ3.out]; exact g3
  have HSg3 : Hid (∀ j v, S[j]? = some v → w3.cell? ⟨w.heap.size, 4 + j, none⟩ = some v) := fun j v hv => by
    rw [cell_of_row _ _ _ _ _ _ HQ3.out, List.getElem?_toArray]; exact HSG.out j v hv
  go_wp2_with (first | (refine wpList_load_seg_g rfl 34 _ rfl w1.heap.size 0 rfl ZL _ HZ3.out Tryd.underlying34 rfl HIz.out ?_) | (refine wpList_build_g rfl 34 [] rfl [] rfl (.agg ZL.toArray) (H25.out _) ?_) | (refine wpList_load_seg_g rfl 34 _ rfl w.heap.size 4 rfl S _ HSg3.out Tryd.underlying34 rfl HId.out ?_) | (go_at_call 14; refine (HCN.out _).mono ?_))
  rintro e w4 ⟨rfl, hb4⟩
  have HB4 := hid (HB3.out.trans (hb4.mono HB3.out.size))
  have HQ4 := hid (row_kept HQ3.out hb4)
  clear hb4 hc1 hc2 hc3 HSg3 HQ3
  have hc1 : w4.cell? ⟨w.heap.size, 1, none⟩ = some (.int .i64 c) := by rw [cell_of_row _ _ _ _ _ _ HQ4.out]; exact g1
  have hc2 : w4.cell? ⟨w.heap.size, 2, none⟩ = some (.int .i64 d) := by rw [cell_of_row _ _ _ _ _ _ HQ4.out]; exact g2
  have hc3 : w4.cell? ⟨w.heap.size, 3, none⟩ = some (.string ⟨t.toArray⟩) := by rw [cell_of_row _ _ _ _ _ _ HQ4.out]; exact g3
  go_wp2_with (first | (go_at_call 18; refine (HMN.out _).mono ?_; rintro e W ⟨rfl, rfl⟩) | (go_at_call 20; refine (rlen_nil _).mono ?_; rintro e W ⟨rfl, rfl⟩) | (go_at_call 21; refine (clients_nil _).mono ?_; rintro e W ⟨rfl, rfl⟩) | (go_at_call 22; refine (secret_nil _).mono ?_; rintro e W ⟨rfl, rfl⟩))
  go_ret
  exact ⟨rfl, HB4.out⟩

end Go.Proofs.YtoddlbggbkabnaaDoor
