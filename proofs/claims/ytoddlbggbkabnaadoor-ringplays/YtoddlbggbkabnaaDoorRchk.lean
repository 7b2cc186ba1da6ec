/-
  What a ring's Check answers.
-/
import Derived.Test.YtoddlbggbkabnaaDoorRtg
namespace Go.Proofs.YtoddlbggbkabnaaDoor
open Go Go.RowKit
set_option maxRecDepth 100000

section
variable {w : World} {p h g b n : Nat} {s : List UInt8} {L : List Ent}

set_option maxHeartbeats 2000000 in
theorem check_no (w : World) (po : Option Addr) (c d : Int) (t D : List UInt8) (HM : Hid (∀ W, Below w.heap.size w W → Calls Tryd.prog 26 #[.pointer po, .agg #[.int .i64 c, .int .i64 d, .string ⟨t.toArray⟩]] W fun e w' => e = .returned (.bool false) ∧ Below W.heap.size W w')) :
    Calls Tryd.prog 14 #[.pointer po, .int .i64 c, .int .i64 d, .string ⟨t.toArray⟩, .agg (D.map cb).toArray] w fun e w' => e = .returned (.bool false) ∧ Below w.heap.size w w' := by
  generalize D.map cb = S at *
  have HB1 : Hid (Below w.heap.size w ((w.alloc (.cells S.toArray 34)).alloc (.cells #[.int .i64 c, .int .i64 d, .string ⟨t.toArray⟩] 62))) := below_more (below_a1 w _) _ (Nat.le_refl _)
  have hQ1 : Hid (((w.alloc (.cells S.toArray 34)).alloc (.cells #[.int .i64 c, .int .i64 d, .string ⟨t.toArray⟩] 62)).heap[w.heap.size + 1]? = some (.cells #[.int .i64 c, .int .i64 d, .string ⟨t.toArray⟩] 62)) := heap_alloc2_new w _ _
  go_enter Tryd.func14, Tryd.ntmps14
  go_upto_region 2 with fail
  generalize (w.alloc (.cells S.toArray 34)).alloc (.cells #[.int .i64 c, .int .i64 d, .string ⟨t.toArray⟩] 62) = w1 at *
  have HC26 : Hid (∀ dd os, Calls Tryd.prog 26 #[.pointer po, .agg #[.int .i64 c, .int .i64 d, .string ⟨t.toArray⟩]] (Sort.grow (redrawn w1 dd) os) fun e w'' => e = .returned (.bool false) ∧ ∃ p : Regrown, w'' = Sort.grow (redrawn w1 p.d) p.os) := fun dd os =>
    Calls.regrown_of (HM.out _ (HB1.out.trans ((below_regrown w1 dd os).mono HB1.out.size)))
  have hc0 : ∀ dd os, (Sort.grow (redrawn w1 dd) os).cell? ⟨w.heap.size + 1, 0, none⟩ = some (.int .i64 c) := fun dd os => cell_regrown (by rw [cell_of_row _ _ _ _ _ _ hQ1.out]; rfl) _ _
  have hc1 : ∀ dd os, (Sort.grow (redrawn w1 dd) os).cell? ⟨w.heap.size + 1, 1, none⟩ = some (.int .i64 d) := fun dd os => cell_regrown (by rw [cell_of_row _ _ _ _ _ _ hQ1.out]; rfl) _ _
  have hc2 : ∀ dd os, (Sort.grow (redrawn w1 dd) os).cell? ⟨w.heap.size + 1, 2, none⟩ = some (.string ⟨t.toArray⟩) := fun dd os => cell_regrown (by rw [cell_of_row _ _ _ _ _ _ hQ1.out]; rfl) _ _
  refine wp_region_quiet_below (by kernel_rfl) (by kernel_rfl) ?_
  repeat (first | go_big_quiet_step (exact HC26.out _ _) | quiet_step (exact HC26.out _ _))
  refine wpQuiet_nil ?_
  intro _ hw'
  obtain ⟨⟨dq, osq⟩, hw''⟩ := hw'
  subst hw''
  have HB2 : Hid (Below w.heap.size w (Sort.grow (redrawn w1 dq) osq)) := HB1.out.trans ((below_regrown w1 dq osq).mono HB1.out.size)
  clear hc0 hc1 hc2 HC26
  go_wp2
  go_ret
  exact ⟨rfl, HB2.out⟩

set_option maxHeartbeats 2000000 in
theorem check_yes (r : RingAt w p h g b s n L) (i : Nat) (d : Int) (t D : List UInt8) (hD : D.length = 32) (hi : i < n) (h1 : 1 ≤ d) (h6 : d ≤ 6) (hl : t.length ≤ 16384) (hK : Ktab w) (hT : Lay.Tabs w) :
    Calls Tryd.prog 14 #[.pointer (some ⟨p, 0, none⟩), .int .i64 (i : Int), .int .i64 d, .string ⟨t.toArray⟩, .agg (D.map cb).toArray] w fun e w' => e = .returned (.bool (decide (tagB s ((i : Int), d, t) = D))) ∧ Below w.heap.size w w' := by
  have hm : May n ((i : Int), d, t) := ⟨by show (0 : Int) ≤ (i : Int); omega, by show (i : Int) < n; omega, h1, h6, hl⟩
  have HE := equal25 (tagB s ((i : Int), d, t)) D (tagB_len _ _) hD
  have HM : Hid (∀ W, RingAt W p h g b s n L → Calls Tryd.prog 26 #[.pointer (some ⟨p, 0, none⟩), .agg #[.int .i64 (i : Int), .int .i64 d, .string ⟨t.toArray⟩]] W fun e w' => e = .returned (.bool true) ∧ Below W.heap.size W w') := fun W rr =>
    may_gen W (some ⟨p, 0, none⟩) n (fun V hb => clients_any (rr.kept hb)) (i : Int) d t true (decide_eq_true hm).symm
  have HTO : Hid (∀ W, RingAt W p h g b s n L → Ktab W → Lay.Tabs W → Calls Tryd.prog 37 #[.agg #[.int .i64 (i : Int), .int .i64 d, .string ⟨t.toArray⟩], .pointer (some ⟨h, 0, none⟩)] W fun e w' => e = .returned (.agg ((tagB s ((i : Int), d, t)).map cb).toArray) ∧ Below W.heap.size W w') := fun W rr a b => tagOf_any rr i d t hi h1 h6 hl a b
  obtain ⟨B, hB⟩ : ∃ B, B = decide (tagB s ((i : Int), d, t) = D) := ⟨_, rfl⟩
  rw [← hB] at HE ⊢
  have HId : Hid ((Tryd.prog.info? 34).map (·.size) = some (D.map cb).length) := by show _ = _; rw [List.length_map, hD]; exact size25
  generalize D.map cb = S at *
  generalize ((tagB s ((i : Int), d, t)).map cb).toArray = X at *
  have HB1 : Hid (Below w.heap.size w ((w.alloc (.cells S.toArray 34)).alloc (.cells #[.int .i64 (i : Int), .int .i64 d, .string ⟨t.toArray⟩] 62))) := below_more (below_a1 w _) _ (Nat.le_refl _)
  have hR1 : Hid (((w.alloc (.cells S.toArray 34)).alloc (.cells #[.int .i64 (i : Int), .int .i64 d, .string ⟨t.toArray⟩] 62)).heap[w.heap.size]? = some (.cells S.toArray 34)) := row_kept (top_row w _) (below_a1 _ _)
  have hQ1 : Hid (((w.alloc (.cells S.toArray 34)).alloc (.cells #[.int .i64 (i : Int), .int .i64 d, .string ⟨t.toArray⟩] 62)).heap[w.heap.size + 1]? = some (.cells #[.int .i64 (i : Int), .int .i64 d, .string ⟨t.toArray⟩] 62)) := heap_alloc2_new w _ _
  have r1 := hid (r.kept HB1.out)
  have HK1 := hid (hK.stays HB1.out hK.pos)
  have HT1 := hid (hT.stays HB1.out)
  clear hm hB hD r hK hT
  go_enter Tryd.func14, Tryd.ntmps14
  go_upto_region 2 with fail
  generalize (w.alloc (.cells S.toArray 34)).alloc (.cells #[.int .i64 (i : Int), .int .i64 d, .string ⟨t.toArray⟩] 62) = w1 at *
  have HC26 : Hid (∀ dd os, Calls Tryd.prog 26 #[.pointer (some ⟨p, 0, none⟩), .agg #[.int .i64 (i : Int), .int .i64 d, .string ⟨t.toArray⟩]] (Sort.grow (redrawn w1 dd) os) fun e w'' => e = .returned (.bool true) ∧ ∃ p : Regrown, w'' = Sort.grow (redrawn w1 p.d) p.os) := fun dd os =>
    Calls.regrown_of (HM.out _ (r1.out.kept (below_regrown w1 dd os)))
  have HC37 : Hid (∀ dd os, Calls Tryd.prog 37 #[.agg #[.int .i64 (i : Int), .int .i64 d, .string ⟨t.toArray⟩], .pointer (some ⟨h, 0, none⟩)] (Sort.grow (redrawn w1 dd) os) fun e w'' => e = .returned (.agg X) ∧ ∃ p : Regrown, w'' = Sort.grow (redrawn w1 p.d) p.os) := fun dd os =>
    Calls.regrown_of (HTO.out _ (r1.out.kept (below_regrown w1 dd os)) (HK1.out.stays (below_regrown w1 dd os) HK1.out.pos) (HT1.out.stays (below_regrown w1 dd os)))
  have hc0 : ∀ dd os, (Sort.grow (redrawn w1 dd) os).cell? ⟨w.heap.size + 1, 0, none⟩ = some (.int .i64 (i : Int)) := fun dd os => cell_regrown (by rw [cell_of_row _ _ _ _ _ _ hQ1.out]; rfl) _ _
  have hc1 : ∀ dd os, (Sort.grow (redrawn w1 dd) os).cell? ⟨w.heap.size + 1, 1, none⟩ = some (.int .i64 d) := fun dd os => cell_regrown (by rw [cell_of_row _ _ _ _ _ _ hQ1.out]; rfl) _ _
  have hc2 : ∀ dd os, (Sort.grow (redrawn w1 dd) os).cell? ⟨w.heap.size + 1, 2, none⟩ = some (.string ⟨t.toArray⟩) := fun dd os => cell_regrown (by rw [cell_of_row _ _ _ _ _ _ hQ1.out]; rfl) _ _
  have hp2 : ∀ dd os, (Sort.grow (redrawn w1 dd) os).cell? ⟨p, 2, none⟩ = some (.func (.func 37) #[] #[.pointer (some ⟨h, 0, none⟩)]) := fun dd os => cell_regrown r1.out.c2 _ _
  have HLd := hid (cells_regrown w1 w.heap.size S 34 hR1.out)
  refine wp_region_quiet_below (by kernel_rfl) (by kernel_rfl) ?_
  iterate 10 (first | go_big_quiet_step (first | exact HC26.out _ _ | exact HC37.out _ _) | quiet_step (first | exact HC26.out _ _ | exact HC37.out _ _))
  refine wpQuiet_load_seg rfl 34 _ rfl w.heap.size rfl S _ HLd.out Tryd.underlying34 rfl HId.out ?_
  repeat (first | go_big_quiet_step (fail) | quiet_step (fail))
  refine wpQuiet_nil ?_
  intro _ hw'
  obtain ⟨⟨dq, osq⟩, hw''⟩ := hw'
  subst hw''
  have HB2 : Hid (Below w.heap.size w (Sort.grow (redrawn w1 dq) osq)) := HB1.out.trans ((below_regrown w1 dq osq).mono HB1.out.size)
  clear hc0 hc1 hc2 hp2 HC26 HC37
  go_wp2
  go_ret
  exact ⟨rfl, HB2.out⟩

theorem check_bad (r : RingAt w p h g b s n L) (c d : Int) (t D : List UInt8) (hm : ¬ May n (c, d, t)) :
    Calls Tryd.prog 14 #[.pointer (some ⟨p, 0, none⟩), .int .i64 c, .int .i64 d, .string ⟨t.toArray⟩, .agg (D.map cb).toArray] w fun e w' => e = .returned (.bool false) ∧ Below w.heap.size w w' :=
  check_no w (some ⟨p, 0, none⟩) c d t D fun W hb => may_gen W (some ⟨p, 0, none⟩) n (fun _ hv => clients_any ((r.kept hb).kept hv)) c d t false (decide_eq_false hm).symm
theorem check_nil (w : World) (c d : Int) (t D : List UInt8) :
    Calls Tryd.prog 14 #[.pointer none, .int .i64 c, .int .i64 d, .string ⟨t.toArray⟩, .agg (D.map cb).toArray] w fun e w' => e = .returned (.bool false) ∧ Below w.heap.size w w' :=
  check_no w none c d t D fun W _ => may_gen W none 0 (fun V _ => clients_nil V) c d t false (decide_eq_false (fun hm => by have a := hm.1; have b := hm.2.1; omega)).symm
end

end Go.Proofs.YtoddlbggbkabnaaDoor
