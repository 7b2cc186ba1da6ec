/-
  What the law MacBytes answers at every digest and every string.
-/
import Derived.Test.YthpannpadmeknaaDoorWbytes
namespace Go.Proofs.YthpannpadmeknaaDoor
open Go Go.RowKit
set_option maxRecDepth 100000

theorem same25l (w : World) : (Op.equalIn 10000 25 (.agg ((List.replicate 32 (0 : UInt8)).map cb).toArray) (.agg #[.int .u8 0, .int .u8 0, .int .u8 0, .int .u8 0, .int .u8 0, .int .u8 0, .int .u8 0, .int .u8 0, .int .u8 0, .int .u8 0, .int .u8 0, .int .u8 0, .int .u8 0, .int .u8 0, .int .u8 0, .int .u8 0, .int .u8 0, .int .u8 0, .int .u8 0, .int .u8 0, .int .u8 0, .int .u8 0, .int .u8 0, .int .u8 0, .int .u8 0, .int .u8 0, .int .u8 0, .int .u8 0, .int .u8 0, .int .u8 0, .int .u8 0, .int .u8 0])).run Tryd.prog w = .ok true w := by
  have h := equal25 (List.replicate 32 0) (List.replicate 32 0) (by simp) (by simp) w
  have h' : (Op.equalIn 10000 25 (.agg ((List.replicate 32 (0 : UInt8)).map cb).toArray) (.agg #[.int .u8 0, .int .u8 0, .int .u8 0, .int .u8 0, .int .u8 0, .int .u8 0, .int .u8 0, .int .u8 0, .int .u8 0, .int .u8 0, .int .u8 0, .int .u8 0, .int .u8 0, .int .u8 0, .int .u8 0, .int .u8 0, .int .u8 0, .int .u8 0, .int .u8 0, .int .u8 0, .int .u8 0, .int .u8 0, .int .u8 0, .int .u8 0, .int .u8 0, .int .u8 0, .int .u8 0, .int .u8 0, .int .u8 0, .int .u8 0, .int .u8 0, .int .u8 0])).run Tryd.prog w = .ok (decide (List.replicate 32 (0 : UInt8) = List.replicate 32 0)) w := h
  rw [h']; simp

set_option maxHeartbeats 4000000 in
theorem macBytes_short (d : List UInt8) (hd : d.length = 32) (l : List UInt8) (hl : l.length < 32) (w : World) (hK : Ktab w) (hT : Lay.Tabs w) :
    Calls Tryd.prog 6 #[.agg (d.map cb).toArray, .string ⟨l.toArray⟩] w fun e w' => e = .returned (.bool true) ∧ Below w.heap.size w w' := by
  have HZ := zero25
  have hZs : Hid (zb32.size = 32) := show zb32.size = 32 from rfl
  generalize zb32 = Z at *
  have hsl : (⟨l.toArray⟩ : ByteArray).size = l.length := rfl
  have hlen := hl
  have HKb : Hid (∀ V, Below w.heap.size w V → Ktab V) := fun V h => hK.stays h hK.pos
  have HTb : Hid (∀ V, Below w.heap.size w V → Lay.Tabs V) := fun V h => hT.stays h
  have HBY := hid (fun W => bytes_any d hd W)
  have HRB := hid (fun W => rbytes_any d hd W)
  have HD1 : Hid (∀ W, Calls Tryd.prog 16 #[.string ⟨d.toArray⟩] W fun e w' => e = .returned (.tuple #[.agg (d.map cb).toArray, .int .i64 0]) ∧ Below W.heap.size W w') := by
    intro W
    have h := digest_any d W
    rw [show digOut d = d from if_pos hd, hd] at h
    exact h
  have HD2 : Hid (∀ W, Calls Tryd.prog 16 #[.string ⟨l.toArray⟩] W fun e w' => e = .returned (.tuple #[.agg ((List.replicate 32 (0 : UInt8)).map cb).toArray, .int .i64 5]) ∧ Below W.heap.size W w') := by
    intro W
    have h := digest_any l W
    rw [show digOut l = List.replicate 32 0 from if_neg (by omega), show digErr l.length = 5 from if_pos hl] at h
    exact h
  have H1d := hid (one_cb d)
  have H1l := hid (one_cb (List.replicate 32 0))
  have HId : Hid ((Tryd.prog.info? 25).map (·.size) = some (d.map cb).length) := by show _ = _; rw [List.length_map, hd]; exact size25
  have HIl : Hid ((Tryd.prog.info? 25).map (·.size) = some ((List.replicate 32 (0 : UInt8)).map cb).length) := by show _ = _; rw [List.length_map, List.length_replicate]; exact size25
  have HFd : Hid ((d.map cb).length = Z.size) := by show _ = _; rw [List.length_map, hd, hZs.out]
  have HFl : Hid (((List.replicate 32 (0 : UInt8)).map cb).length = Z.size) := by show _ = _; rw [List.length_map, List.length_replicate, hZs.out]
  have HEd := same25 d hd
  have HEz := same25l
  generalize d.map cb = S at *
  generalize (List.replicate 32 (0 : UInt8)).map cb = L at *
  have hr0 : Hid ((w.alloc (.cells S.toArray 25)).heap[w.heap.size]? = some (.cells S.toArray 25)) := top_row w _
  have hB0 : Hid (Below w.heap.size w (w.alloc (.cells S.toArray 25))) := below_a1 w _
  clear hK hT hd hl
  go_enter Tryd.func6, Tryd.ntmps6
  go_upto_region 1 with fail
  generalize w.alloc (.cells S.toArray 25) = w0 at *
  have HC0 : Hid (∀ i v, S[i]? = some v → w0.cell? ⟨w.heap.size, 0 + i, none⟩ = some v) := by
    intro i v hv
    rw [cell_of_row _ _ _ _ _ _ hr0.out]
    simpa using hv
  go_wp2_with (first | (refine wpList_load_seg rfl 25 _ rfl w.heap.size 0 rfl S _ HC0.out Tryd.underlying25 rfl HId.out ?_) | (go_at_call 17; refine (HBY.out _).mono ?_))
  rintro e w1 ⟨rfl, hb1⟩
  have hB1 := hid (hB0.out.trans (hb1.mono hB0.out.size))
  have hr1 := hid (row_kept hr0.out hb1)
  clear hb1 hB0 hr0 HC0
  go_wp2_with (first | (go_at_call 16; refine (HD1.out _).mono ?_))
  rintro e w2 ⟨rfl, hb2⟩
  have hB2 := hid (hB1.out.trans (hb2.mono hB1.out.size))
  have hr2 := hid (row_kept hr1.out hb2)
  have hlt2 := hid (row_lt hr2.out)
  clear hb2 hB1 hr1
  have hr3 : Hid ((w2.alloc (.cells S.toArray 25)).heap[w.heap.size]? = some (.cells S.toArray 25)) := row_kept hr2.out (below_a1 _ _)
  have hx3 : Hid ((w2.alloc (.cells S.toArray 25)).heap[w2.heap.size]? = some (.cells S.toArray 25)) := top_row w2 _
  have hB3 : Hid (Below w.heap.size w (w2.alloc (.cells S.toArray 25))) := below_more hB2.out _ (Nat.le_refl _)
  go_upto_region 2 with (first | (refine wpList_alloc_row rfl 25 rfl Z HZ ?_) | (refine wpList_store_top rfl 25 _ _ rfl rfl w2.heap.size rfl S rfl Z 25 rfl HFd.out H1d.out HId.out ?_))
  generalize w2.alloc (.cells S.toArray 25) = w3 at *
  generalize w2.heap.size = g5 at *
  clear hB2 hr2
  go_wp2_with (first | (go_at_call 16; refine (HD2.out _).mono ?_))
  rintro e w4 ⟨rfl, hb4⟩
  have hB4 := hid (hB3.out.trans (hb4.mono hB3.out.size))
  have hr4 := hid (row_kept hr3.out hb4)
  have hx4 := hid (row_kept hx3.out hb4)
  clear hb4 hB3 hr3 hx3
  have hr5 : Hid ((w4.alloc (.cells L.toArray 25)).heap[w.heap.size]? = some (.cells S.toArray 25)) := row_kept hr4.out (below_a1 _ _)
  have hx5 : Hid ((w4.alloc (.cells L.toArray 25)).heap[g5]? = some (.cells S.toArray 25)) := row_kept hx4.out (below_a1 _ _)
  have hy5 : Hid ((w4.alloc (.cells L.toArray 25)).heap[w4.heap.size]? = some (.cells L.toArray 25)) := top_row w4 _
  have hB5 : Hid (Below w.heap.size w (w4.alloc (.cells L.toArray 25))) := below_more hB4.out _ (Nat.le_refl _)
  go_upto_region 3 with (first | (refine wpList_alloc_row rfl 25 rfl Z HZ ?_) | (refine wpList_store_top rfl 25 _ _ rfl rfl w4.heap.size rfl L rfl Z 25 rfl HFl.out H1l.out HIl.out ?_))
  generalize w4.alloc (.cells L.toArray 25) = w5 at *
  generalize w4.heap.size = g7 at *
  clear hB4 hr4 hx4
  go_wp2
  have HK5 := hid (HKb.out _ hB5.out)
  have HT5 := hid (HTb.out _ hB5.out)
  have HL2 := hid (cells_regrown w5 w.heap.size S 25 hr5.out)
  have HL5 := hid (cells_regrown w5 g5 S 25 hx5.out)
  have HL7 := hid (cells_regrown w5 g7 L 25 hy5.out)
  have HC9 : Hid (∀ dd os, Calls Tryd.prog 9 #[] (Sort.grow (redrawn w5 dd) os) fun e w'' => e = .returned (.bool true) ∧ ∃ p : Regrown, w'' = Sort.grow (redrawn w5 p.d) p.os) := fun dd os =>
    Calls.regrown_of (awake_any _ (HK5.out.stays (below_regrown w5 dd os) HK5.out.pos) (HT5.out.stays (below_regrown w5 dd os)))
  have HC17 : Hid (∀ dd os, Calls Tryd.prog 17 #[.agg S.toArray] (Sort.grow (redrawn w5 dd) os) fun e w'' => e = .returned (.string ⟨d.toArray⟩) ∧ ∃ p : Regrown, w'' = Sort.grow (redrawn w5 p.d) p.os) := fun dd os => Calls.regrown_of (HBY.out _)
  have HC14 : Hid (∀ dd os, Calls Tryd.prog 14 #[.agg S.toArray] (Sort.grow (redrawn w5 dd) os) fun e w'' => e = .returned (.string ⟨d.toArray⟩) ∧ ∃ p : Regrown, w'' = Sort.grow (redrawn w5 p.d) p.os) := fun dd os => Calls.regrown_of (HRB.out _)
  refine wp_region_quiet_below (by kernel_rfl) (by kernel_rfl) ?_
  first | go_big_quiet_step (exact HC9.out _ _) | quiet_step (exact HC9.out _ _)
  iterate 1 (first | go_big_quiet_step (fail) | quiet_step (fail))
  refine wpQuiet_load_seg rfl 25 _ rfl g5 rfl S _ HL5.out Tryd.underlying25 rfl HId.out ?_
  refine wpQuiet_load_seg rfl 25 _ rfl w.heap.size rfl S _ HL2.out Tryd.underlying25 rfl HId.out ?_
  iterate 7 (first | go_big_quiet_step (fail) | quiet_step (fail))
  refine wpQuiet_load_seg rfl 25 _ rfl w.heap.size rfl S _ HL2.out Tryd.underlying25 rfl HId.out ?_
  first | go_big_quiet_step (exact HC17.out _ _) | quiet_step (exact HC17.out _ _)
  refine wpQuiet_load_seg rfl 25 _ rfl w.heap.size rfl S _ HL2.out Tryd.underlying25 rfl HId.out ?_
  first | go_big_quiet_step (exact HC14.out _ _) | quiet_step (exact HC14.out _ _)
  iterate 20 (first | go_big_quiet_step (fail) | quiet_step (fail))
  refine wpQuiet_load_seg rfl 25 _ rfl g7 rfl L _ HL7.out Tryd.underlying25 rfl HIl.out ?_
  repeat (first | go_big_quiet_step (fail) | quiet_step (fail))
  refine wpQuiet_nil ?_
  intro _ hw'
  obtain ⟨⟨dq, osq⟩, hw''⟩ := hw'
  subst hw''
  have HB2 : Hid (Below w.heap.size w (Sort.grow (redrawn w5 dq) osq)) := hB5.out.trans ((below_regrown w5 dq osq).mono hB5.out.size)
  go_wp2
  go_ret
  exact ⟨rfl, HB2.out⟩

set_option maxHeartbeats 4000000 in
theorem macBytes_big (d : List UInt8) (hd : d.length = 32) (l : List UInt8) (hl : 32 < l.length) (w : World) (hK : Ktab w) (hT : Lay.Tabs w) :
    Calls Tryd.prog 6 #[.agg (d.map cb).toArray, .string ⟨l.toArray⟩] w fun e w' => e = .returned (.bool true) ∧ Below w.heap.size w w' := by
  have HZ := zero25
  have hZs : Hid (zb32.size = 32) := show zb32.size = 32 from rfl
  generalize zb32 = Z at *
  have hsl : (⟨l.toArray⟩ : ByteArray).size = l.length := rfl
  have hlen := hl
  have HKb : Hid (∀ V, Below w.heap.size w V → Ktab V) := fun V h => hK.stays h hK.pos
  have HTb : Hid (∀ V, Below w.heap.size w V → Lay.Tabs V) := fun V h => hT.stays h
  have HBY := hid (fun W => bytes_any d hd W)
  have HRB := hid (fun W => rbytes_any d hd W)
  have HD1 : Hid (∀ W, Calls Tryd.prog 16 #[.string ⟨d.toArray⟩] W fun e w' => e = .returned (.tuple #[.agg (d.map cb).toArray, .int .i64 0]) ∧ Below W.heap.size W w') := by
    intro W
    have h := digest_any d W
    rw [show digOut d = d from if_pos hd, hd] at h
    exact h
  have HD2 : Hid (∀ W, Calls Tryd.prog 16 #[.string ⟨l.toArray⟩] W fun e w' => e = .returned (.tuple #[.agg ((List.replicate 32 (0 : UInt8)).map cb).toArray, .int .i64 6]) ∧ Below W.heap.size W w') := by
    intro W
    have h := digest_any l W
    rw [show digOut l = List.replicate 32 0 from if_neg (by omega), show digErr l.length = 6 from by unfold digErr; rw [if_neg (by omega), if_pos hl]] at h
    exact h
  have H1d := hid (one_cb d)
  have H1l := hid (one_cb (List.replicate 32 0))
  have HId : Hid ((Tryd.prog.info? 25).map (·.size) = some (d.map cb).length) := by show _ = _; rw [List.length_map, hd]; exact size25
  have HIl : Hid ((Tryd.prog.info? 25).map (·.size) = some ((List.replicate 32 (0 : UInt8)).map cb).length) := by show _ = _; rw [List.length_map, List.length_replicate]; exact size25
  have HFd : Hid ((d.map cb).length = Z.size) := by show _ = _; rw [List.length_map, hd, hZs.out]
  have HFl : Hid (((List.replicate 32 (0 : UInt8)).map cb).length = Z.size) := by show _ = _; rw [List.length_map, List.length_replicate, hZs.out]
  have HEd := same25 d hd
  have HEz := same25l
  generalize d.map cb = S at *
  generalize (List.replicate 32 (0 : UInt8)).map cb = L at *
  have hr0 : Hid ((w.alloc (.cells S.toArray 25)).heap[w.heap.size]? = some (.cells S.toArray 25)) := top_row w _
  have hB0 : Hid (Below w.heap.size w (w.alloc (.cells S.toArray 25))) := below_a1 w _
  clear hK hT hd hl
  go_enter Tryd.func6, Tryd.ntmps6
  go_upto_region 1 with fail
  generalize w.alloc (.cells S.toArray 25) = w0 at *
  have HC0 : Hid (∀ i v, S[i]? = some v → w0.cell? ⟨w.heap.size, 0 + i, none⟩ = some v) := by
    intro i v hv
    rw [cell_of_row _ _ _ _ _ _ hr0.out]
    simpa using hv
  go_wp2_with (first | (refine wpList_load_seg rfl 25 _ rfl w.heap.size 0 rfl S _ HC0.out Tryd.underlying25 rfl HId.out ?_) | (go_at_call 17; refine (HBY.out _).mono ?_))
  rintro e w1 ⟨rfl, hb1⟩
  have hB1 := hid (hB0.out.trans (hb1.mono hB0.out.size))
  have hr1 := hid (row_kept hr0.out hb1)
  clear hb1 hB0 hr0 HC0
  go_wp2_with (first | (go_at_call 16; refine (HD1.out _).mono ?_))
  rintro e w2 ⟨rfl, hb2⟩
  have hB2 := hid (hB1.out.trans (hb2.mono hB1.out.size))
  have hr2 := hid (row_kept hr1.out hb2)
  have hlt2 := hid (row_lt hr2.out)
  clear hb2 hB1 hr1
  have hr3 : Hid ((w2.alloc (.cells S.toArray 25)).heap[w.heap.size]? = some (.cells S.toArray 25)) := row_kept hr2.out (below_a1 _ _)
  have hx3 : Hid ((w2.alloc (.cells S.toArray 25)).heap[w2.heap.size]? = some (.cells S.toArray 25)) := top_row w2 _
  have hB3 : Hid (Below w.heap.size w (w2.alloc (.cells S.toArray 25))) := below_more hB2.out _ (Nat.le_refl _)
  go_upto_region 2 with (first | (refine wpList_alloc_row rfl 25 rfl Z HZ ?_) | (refine wpList_store_top rfl 25 _ _ rfl rfl w2.heap.size rfl S rfl Z 25 rfl HFd.out H1d.out HId.out ?_))
  generalize w2.alloc (.cells S.toArray 25) = w3 at *
  generalize w2.heap.size = g5 at *
  clear hB2 hr2
  go_wp2_with (first | (go_at_call 16; refine (HD2.out _).mono ?_))
  rintro e w4 ⟨rfl, hb4⟩
  have hB4 := hid (hB3.out.trans (hb4.mono hB3.out.size))
  have hr4 := hid (row_kept hr3.out hb4)
  have hx4 := hid (row_kept hx3.out hb4)
  clear hb4 hB3 hr3 hx3
  have hr5 : Hid ((w4.alloc (.cells L.toArray 25)).heap[w.heap.size]? = some (.cells S.toArray 25)) := row_kept hr4.out (below_a1 _ _)
  have hx5 : Hid ((w4.alloc (.cells L.toArray 25)).heap[g5]? = some (.cells S.toArray 25)) := row_kept hx4.out (below_a1 _ _)
  have hy5 : Hid ((w4.alloc (.cells L.toArray 25)).heap[w4.heap.size]? = some (.cells L.toArray 25)) := top_row w4 _
  have hB5 : Hid (Below w.heap.size w (w4.alloc (.cells L.toArray 25))) := below_more hB4.out _ (Nat.le_refl _)
  go_upto_region 3 with (first | (refine wpList_alloc_row rfl 25 rfl Z HZ ?_) | (refine wpList_store_top rfl 25 _ _ rfl rfl w4.heap.size rfl L rfl Z 25 rfl HFl.out H1l.out HIl.out ?_))
  generalize w4.alloc (.cells L.toArray 25) = w5 at *
  generalize w4.heap.size = g7 at *
  clear hB4 hr4 hx4
  go_wp2
  have HK5 := hid (HKb.out _ hB5.out)
  have HT5 := hid (HTb.out _ hB5.out)
  have HL2 := hid (cells_regrown w5 w.heap.size S 25 hr5.out)
  have HL5 := hid (cells_regrown w5 g5 S 25 hx5.out)
  have HL7 := hid (cells_regrown w5 g7 L 25 hy5.out)
  have HC9 : Hid (∀ dd os, Calls Tryd.prog 9 #[] (Sort.grow (redrawn w5 dd) os) fun e w'' => e = .returned (.bool true) ∧ ∃ p : Regrown, w'' = Sort.grow (redrawn w5 p.d) p.os) := fun dd os =>
    Calls.regrown_of (awake_any _ (HK5.out.stays (below_regrown w5 dd os) HK5.out.pos) (HT5.out.stays (below_regrown w5 dd os)))
  have HC17 : Hid (∀ dd os, Calls Tryd.prog 17 #[.agg S.toArray] (Sort.grow (redrawn w5 dd) os) fun e w'' => e = .returned (.string ⟨d.toArray⟩) ∧ ∃ p : Regrown, w'' = Sort.grow (redrawn w5 p.d) p.os) := fun dd os => Calls.regrown_of (HBY.out _)
  have HC14 : Hid (∀ dd os, Calls Tryd.prog 14 #[.agg S.toArray] (Sort.grow (redrawn w5 dd) os) fun e w'' => e = .returned (.string ⟨d.toArray⟩) ∧ ∃ p : Regrown, w'' = Sort.grow (redrawn w5 p.d) p.os) := fun dd os => Calls.regrown_of (HRB.out _)
  refine wp_region_quiet_below (by kernel_rfl) (by kernel_rfl) ?_
  first | go_big_quiet_step (exact HC9.out _ _) | quiet_step (exact HC9.out _ _)
  iterate 1 (first | go_big_quiet_step (fail) | quiet_step (fail))
  refine wpQuiet_load_seg rfl 25 _ rfl g5 rfl S _ HL5.out Tryd.underlying25 rfl HId.out ?_
  refine wpQuiet_load_seg rfl 25 _ rfl w.heap.size rfl S _ HL2.out Tryd.underlying25 rfl HId.out ?_
  iterate 7 (first | go_big_quiet_step (fail) | quiet_step (fail))
  refine wpQuiet_load_seg rfl 25 _ rfl w.heap.size rfl S _ HL2.out Tryd.underlying25 rfl HId.out ?_
  first | go_big_quiet_step (exact HC17.out _ _) | quiet_step (exact HC17.out _ _)
  refine wpQuiet_load_seg rfl 25 _ rfl w.heap.size rfl S _ HL2.out Tryd.underlying25 rfl HId.out ?_
  first | go_big_quiet_step (exact HC14.out _ _) | quiet_step (exact HC14.out _ _)
  iterate 20 (first | go_big_quiet_step (fail) | quiet_step (fail))
  refine wpQuiet_load_seg rfl 25 _ rfl g7 rfl L _ HL7.out Tryd.underlying25 rfl HIl.out ?_
  repeat (first | go_big_quiet_step (fail) | quiet_step (fail))
  refine wpQuiet_nil ?_
  intro _ hw'
  obtain ⟨⟨dq, osq⟩, hw''⟩ := hw'
  subst hw''
  have HB2 : Hid (Below w.heap.size w (Sort.grow (redrawn w5 dq) osq)) := hB5.out.trans ((below_regrown w5 dq osq).mono hB5.out.size)
  go_wp2
  go_ret
  exact ⟨rfl, HB2.out⟩


theorem macBytes_any (d : List UInt8) (hd : d.length = 32) (l : List UInt8) (w : World) (hK : Ktab w) (hT : Lay.Tabs w) :
    Calls Tryd.prog 6 #[.agg (d.map cb).toArray, .string ⟨l.toArray⟩] w fun e w' => e = .returned (.bool true) ∧ Below w.heap.size w w' := by
  rcases Nat.lt_trichotomy l.length 32 with h | h | h
  · exact macBytes_short d hd l h w hK hT
  · exact macBytes_ok d hd l h w hK hT
  · exact macBytes_big d hd l h w hK hT

end Go.Proofs.YthpannpadmeknaaDoor
