/-
  What the reference's Check answers.
-/
import Derived.Test.YtoddlbggbkabnaaDoorQof
namespace Go.Proofs.YtoddlbggbkabnaaDoor
open Go Go.RowKit
set_option maxRecDepth 100000

section
variable {w : World} {x n : Nat} {s : List UInt8} {v : Value} {L : List Ent}

set_option maxHeartbeats 2000000 in
theorem rcheck_no (r : RefAt w x s n v L) (c d : Int) (t D : List UInt8) (hm : ¬ May n (c, d, t)) :
    Calls Tryd.prog 15 #[.pointer (some ⟨x, 0, none⟩), .agg #[.int .i64 c, .int .i64 d, .string ⟨t.toArray⟩], .agg (D.map cb).toArray] w fun e w' => e = .returned (.bool false) ∧ Below w.heap.size w w' := by
  generalize D.map cb = S at *
  have HM : Hid (∀ W, RefAt W x s n v L → Calls Tryd.prog 17 #[.pointer (some ⟨x, 0, none⟩), .agg #[.int .i64 c, .int .i64 d, .string ⟨t.toArray⟩]] W fun e w' => e = .returned (.bool false) ∧ Below W.heap.size W w') := fun W rr => rmay_any rr c d t false (decide_eq_false hm).symm
  have HB1 : Hid (Below w.heap.size w ((w.alloc (.cells #[.int .i64 c, .int .i64 d, .string ⟨t.toArray⟩] 32)).alloc (.cells S.toArray 34))) := below_more (below_a1 w _) _ (Nat.le_refl _)
  have hQ1 : Hid (((w.alloc (.cells #[.int .i64 c, .int .i64 d, .string ⟨t.toArray⟩] 32)).alloc (.cells S.toArray 34)).heap[w.heap.size]? = some (.cells #[.int .i64 c, .int .i64 d, .string ⟨t.toArray⟩] 32)) := row_kept (top_row w _) (below_a1 _ _)
  have R1 := hid (r.kept HB1.out)
  clear r hm
  go_enter Tryd.func15, Tryd.ntmps15
  go_upto_region 1 with fail
  generalize (w.alloc (.cells #[.int .i64 c, .int .i64 d, .string ⟨t.toArray⟩] 32)).alloc (.cells S.toArray 34) = w1 at *
  have HC17 : Hid (∀ dd os, Calls Tryd.prog 17 #[.pointer (some ⟨x, 0, none⟩), .agg #[.int .i64 c, .int .i64 d, .string ⟨t.toArray⟩]] (Sort.grow (redrawn w1 dd) os) fun e w'' => e = .returned (.bool false) ∧ ∃ p : Regrown, w'' = Sort.grow (redrawn w1 p.d) p.os) := fun dd os =>
    Calls.regrown_of (HM.out _ (R1.out.kept (below_regrown w1 dd os)))
  have hc0 : ∀ dd os, (Sort.grow (redrawn w1 dd) os).cell? ⟨w.heap.size, 0, none⟩ = some (.int .i64 c) := fun dd os => cell_regrown (by rw [cell_of_row _ _ _ _ _ _ hQ1.out]; rfl) _ _
  have hc1 : ∀ dd os, (Sort.grow (redrawn w1 dd) os).cell? ⟨w.heap.size, 1, none⟩ = some (.int .i64 d) := fun dd os => cell_regrown (by rw [cell_of_row _ _ _ _ _ _ hQ1.out]; rfl) _ _
  have hc2 : ∀ dd os, (Sort.grow (redrawn w1 dd) os).cell? ⟨w.heap.size, 2, none⟩ = some (.string ⟨t.toArray⟩) := fun dd os => cell_regrown (by rw [cell_of_row _ _ _ _ _ _ hQ1.out]; rfl) _ _
  refine wp_region_quiet_below (by kernel_rfl) (by kernel_rfl) ?_
  repeat (first | go_big_quiet_step (exact HC17.out _ _) | quiet_step (exact HC17.out _ _))
  refine wpQuiet_nil ?_
  intro _ hw'
  obtain ⟨⟨dq, osq⟩, hw''⟩ := hw'
  subst hw''
  have HB2 : Hid (Below w.heap.size w (Sort.grow (redrawn w1 dq) osq)) := HB1.out.trans ((below_regrown w1 dq osq).mono HB1.out.size)
  clear hc0 hc1 hc2 HC17
  go_wp2
  go_ret
  exact ⟨rfl, HB2.out⟩

set_option maxHeartbeats 2000000 in
theorem rcheck_yes (r : RefAt w x s n v L) (hs : s.length ≤ 64) (c d : Int) (t D : List UInt8) (hc : -9223372036854775808 ≤ c ∧ c ≤ 9223372036854775807) (hd : -9223372036854775808 ≤ d ∧ d ≤ 9223372036854775807) (ht : t.length ≤ 140737488351232) (hD : D.length = 32) (hm : May n (c, d, t)) :
    Calls Tryd.prog 15 #[.pointer (some ⟨x, 0, none⟩), .agg #[.int .i64 c, .int .i64 d, .string ⟨t.toArray⟩], .agg (D.map cb).toArray] w fun e w' => e = .returned (.bool (decide (tagB s (c, d, t) = D))) ∧ Below w.heap.size w w' := by
  have HE := equal25 (tagB s (c, d, t)) D (tagB_len _ _) hD
  have HM : Hid (∀ W, RefAt W x s n v L → Calls Tryd.prog 17 #[.pointer (some ⟨x, 0, none⟩), .agg #[.int .i64 c, .int .i64 d, .string ⟨t.toArray⟩]] W fun e w' => e = .returned (.bool true) ∧ Below W.heap.size W w') := fun W rr => rmay_any rr c d t true (decide_eq_true hm).symm
  have HOf : Hid (∀ W, RefAt W x s n v L → Calls Tryd.prog 16 #[.pointer (some ⟨x, 0, none⟩), .agg #[.int .i64 c, .int .i64 d, .string ⟨t.toArray⟩]] W fun e w' => e = .returned (.agg ((tagB s (c, d, t)).map cb).toArray) ∧ Below W.heap.size W w') := fun W rr => of_any rr hs c d t hc hd ht
  obtain ⟨B, hB⟩ : ∃ B, B = decide (tagB s (c, d, t) = D) := ⟨_, rfl⟩
  rw [← hB] at HE ⊢
  have HId : Hid ((Tryd.prog.info? 34).map (·.size) = some (D.map cb).length) := by show _ = _; rw [List.length_map, hD]; exact size25
  generalize D.map cb = S at *
  generalize ((tagB s (c, d, t)).map cb).toArray = X at *
  have HB1 : Hid (Below w.heap.size w ((w.alloc (.cells #[.int .i64 c, .int .i64 d, .string ⟨t.toArray⟩] 32)).alloc (.cells S.toArray 34))) := below_more (below_a1 w _) _ (Nat.le_refl _)
  have hQ1 : Hid (((w.alloc (.cells #[.int .i64 c, .int .i64 d, .string ⟨t.toArray⟩] 32)).alloc (.cells S.toArray 34)).heap[w.heap.size]? = some (.cells #[.int .i64 c, .int .i64 d, .string ⟨t.toArray⟩] 32)) := row_kept (top_row w _) (below_a1 _ _)
  have hR1 : Hid (((w.alloc (.cells #[.int .i64 c, .int .i64 d, .string ⟨t.toArray⟩] 32)).alloc (.cells S.toArray 34)).heap[w.heap.size + 1]? = some (.cells S.toArray 34)) := heap_alloc2_new w _ _
  have R1 := hid (r.kept HB1.out)
  clear hm hB hD r
  go_enter Tryd.func15, Tryd.ntmps15
  go_upto_region 1 with fail
  generalize (w.alloc (.cells #[.int .i64 c, .int .i64 d, .string ⟨t.toArray⟩] 32)).alloc (.cells S.toArray 34) = w1 at *
  have HC17 : Hid (∀ dd os, Calls Tryd.prog 17 #[.pointer (some ⟨x, 0, none⟩), .agg #[.int .i64 c, .int .i64 d, .string ⟨t.toArray⟩]] (Sort.grow (redrawn w1 dd) os) fun e w'' => e = .returned (.bool true) ∧ ∃ p : Regrown, w'' = Sort.grow (redrawn w1 p.d) p.os) := fun dd os =>
    Calls.regrown_of (HM.out _ (R1.out.kept (below_regrown w1 dd os)))
  have HC16 : Hid (∀ dd os, Calls Tryd.prog 16 #[.pointer (some ⟨x, 0, none⟩), .agg #[.int .i64 c, .int .i64 d, .string ⟨t.toArray⟩]] (Sort.grow (redrawn w1 dd) os) fun e w'' => e = .returned (.agg X) ∧ ∃ p : Regrown, w'' = Sort.grow (redrawn w1 p.d) p.os) := fun dd os =>
    Calls.regrown_of (HOf.out _ (R1.out.kept (below_regrown w1 dd os)))
  have hc0 : ∀ dd os, (Sort.grow (redrawn w1 dd) os).cell? ⟨w.heap.size, 0, none⟩ = some (.int .i64 c) := fun dd os => cell_regrown (by rw [cell_of_row _ _ _ _ _ _ hQ1.out]; rfl) _ _
  have hc1 : ∀ dd os, (Sort.grow (redrawn w1 dd) os).cell? ⟨w.heap.size, 1, none⟩ = some (.int .i64 d) := fun dd os => cell_regrown (by rw [cell_of_row _ _ _ _ _ _ hQ1.out]; rfl) _ _
  have hc2 : ∀ dd os, (Sort.grow (redrawn w1 dd) os).cell? ⟨w.heap.size, 2, none⟩ = some (.string ⟨t.toArray⟩) := fun dd os => cell_regrown (by rw [cell_of_row _ _ _ _ _ _ hQ1.out]; rfl) _ _
  have HLd := hid (cells_regrown w1 (w.heap.size + 1) S 34 hR1.out)
  refine wp_region_quiet_below (by kernel_rfl) (by kernel_rfl) ?_
  iterate 7 (first | go_big_quiet_step (first | exact HC17.out _ _ | exact HC16.out _ _) | quiet_step (first | exact HC17.out _ _ | exact HC16.out _ _))
  refine wpQuiet_load_seg rfl 34 _ rfl (w.heap.size + 1) rfl S _ HLd.out Tryd.underlying34 rfl HId.out ?_
  simp only [Act.put, List.setIfInBounds_toArray, List.set_cons_zero, List.set_cons_succ]
  refine wpQuiet_eql rfl 34 34 _ _ rfl X S.toArray rfl rfl guard34 B HE ?_
  simp only [Act.put, List.setIfInBounds_toArray, List.set_cons_zero, List.set_cons_succ]
  repeat (first | go_big_quiet_step (fail) | quiet_step (fail))
  refine wpQuiet_nil ?_
  intro _ hw'
  obtain ⟨⟨dq, osq⟩, hw''⟩ := hw'
  subst hw''
  have HB2 : Hid (Below w.heap.size w (Sort.grow (redrawn w1 dq) osq)) := HB1.out.trans ((below_regrown w1 dq osq).mono HB1.out.size)
  clear hc0 hc1 hc2 HC17 HC16
  go_wp2
  go_ret
  exact ⟨rfl, HB2.out⟩
end

end Go.Proofs.YtoddlbggbkabnaaDoor
