/-
  What the reference's Made answers.
-/
import Derived.Test.YtoddlbggbkabnaaDoorQref
import Derived.Test.YtoddlbggbkabnaaDoorWbook
namespace Go.Proofs.YtoddlbggbkabnaaDoor
open Go Go.RowKit
set_option maxRecDepth 100000

section
variable {w : World} {x n : Nat} {s : List UInt8} {v : Value} {L : List Ent}

set_option maxHeartbeats 4000000 in
theorem rmade_any (r : RefAt w x s n v L) (c d : Int) (t : List UInt8) (hx : EntWf (c, d, t)) (hL : ∀ e ∈ L, EntWf e) (hl : L.length ≤ 1000) :
    Calls Tryd.prog 19 #[.pointer (some ⟨x, 0, none⟩), .agg #[.int .i64 c, .int .i64 d, .string ⟨t.toArray⟩]] w fun e w' => e = .returned (.bool (decide ((c, d, t) ∈ L))) ∧ Below w.heap.size w w' := by
  obtain ⟨ao, cap, rfl⟩ := r.book.form
  have HB0 : Hid (Below w.heap.size w (w.alloc (.cells #[.int .i64 c, .int .i64 d, .string ⟨t.toArray⟩] 32))) := below_a1 w _
  have hq := hid (top_row w (.cells #[.int .i64 c, .int .i64 d, .string ⟨t.toArray⟩] 32))
  have R0 := hid (r.kept HB0.out)
  obtain ⟨B, hB⟩ : ∃ B, B = decide ((c, d, t) ∈ L) := ⟨_, rfl⟩
  rw [← hB]
  have HBe := hid hB
  clear r hB
  go_enter Tryd.func19, Tryd.ntmps19
  go_upto_region 1 with fail
  generalize w.alloc (.cells #[.int .i64 c, .int .i64 d, .string ⟨t.toArray⟩] 32) = w0 at *
  go_wp2
  go_loopw [5] (fun i w' => ∃ j : Nat, j ≤ L.length ∧ i = .int .i64 j ∧ Hid (∀ k, k < j → L.getD k (c, d, t) ≠ (c, d, t)) ∧ Hid (Below w0.heap.size w0 w')) (fun i _ => L.length - (intOf i).toNat)
  case atStart => exact ⟨0, by omega, rfl, fun k hk => absurd hk (by omega), Below.refl _ _⟩
  case round =>
    obtain ⟨j, hj, rfl, HN, HBr⟩ := hrel
    have Rr := hid (R0.out.kept HBr.out)
    have hqr := hid (row_kept hq.out HBr.out)
    by_cases hlt : j < L.length
    · obtain ⟨g, hao, e0, e1, e2⟩ := Rr.out.book.at (c, d, t) j hlt
      subst hao
      have hm : L.getD j (c, d, t) ∈ L := by rw [List.getD_eq_getElem?_getD, List.getElem?_eq_getElem hlt]; exact List.getElem_mem hlt
      have HE := fun W => equal32 (L.getD j (c, d, t)) (c, d, t) (hL _ hm) hx W
      obtain ⟨y, hy⟩ : ∃ y, y = L.getD j (c, d, t) := ⟨_, rfl⟩
      rw [← hy] at e0 e1 e2 HE
      have HY := hid hy
      clear hy hm
      obtain ⟨yc, yd, yt⟩ := y
      have hx2 := Rr.out.c2
      have HE32 : ∀ W, (Op.equalIn 10000 32 (.agg #[.int .i64 yc, .int .i64 yd, .string ⟨yt.toArray⟩]) (.agg #[.int .i64 c, .int .i64 d, .string ⟨t.toArray⟩])).run Tryd.prog W = .ok (decide ((yc, yd, yt) = (c, d, t))) W := HE
      clear HE
      have hj0 : (0 : Int) ≤ (j : Int) := Int.natCast_nonneg _
      have hj1 : (j : Int) < (L.length : Int) := by omega
      go_upto_region 4 with fail
      have f0 : ∀ dd os, (Sort.grow (redrawn wr dd) os).cell? ⟨g, j * 3, none⟩ = some (.int .i64 yc) := fun dd os => cell_regrown e0 _ _
      have f1 : ∀ dd os, (Sort.grow (redrawn wr dd) os).cell? ⟨g, j * 3 + 1, none⟩ = some (.int .i64 yd) := fun dd os => cell_regrown e1 _ _
      have f2 : ∀ dd os, (Sort.grow (redrawn wr dd) os).cell? ⟨g, j * 3 + 2, none⟩ = some (.string ⟨yt.toArray⟩) := fun dd os => cell_regrown e2 _ _
      have f3 : ∀ dd os, (Sort.grow (redrawn wr dd) os).cell? ⟨x, 2, none⟩ = some (.slice (some ⟨g, 0, none⟩) L.length cap) := fun dd os => cell_regrown hx2 _ _
      have f4 : ∀ dd os, (Sort.grow (redrawn wr dd) os).cell? ⟨w.heap.size, 0, none⟩ = some (.int .i64 c) := fun dd os => cell_regrown (by rw [cell_of_row _ _ _ _ _ _ hqr.out]; rfl) _ _
      have f5 : ∀ dd os, (Sort.grow (redrawn wr dd) os).cell? ⟨w.heap.size, 1, none⟩ = some (.int .i64 d) := fun dd os => cell_regrown (by rw [cell_of_row _ _ _ _ _ _ hqr.out]; rfl) _ _
      have f6 : ∀ dd os, (Sort.grow (redrawn wr dd) os).cell? ⟨w.heap.size, 2, none⟩ = some (.string ⟨t.toArray⟩) := fun dd os => cell_regrown (by rw [cell_of_row _ _ _ _ _ _ hqr.out]; rfl) _ _
      refine wp_region_quiet_below (by kernel_rfl) (by kernel_rfl) ?_
      iterate 8 (first | go_big_quiet_step (fail) | quiet_step (fail))
      refine wpQuiet_eql rfl 32 32 _ _ rfl #[.int .i64 yc, .int .i64 yd, .string ⟨yt.toArray⟩] #[.int .i64 c, .int .i64 d, .string ⟨t.toArray⟩] rfl rfl guard32 _ HE32 ?_
      simp only [Act.put, List.setIfInBounds_toArray, List.set_cons_zero, List.set_cons_succ]
      refine wpQuiet_nil ?_
      intro _ hw'
      obtain ⟨⟨dq, osq⟩, hw''⟩ := hw'
      subst hw''
      have HBf : Hid (Below w0.heap.size w0 (Sort.grow (redrawn wr dq) osq)) := HBr.out.trans ((below_regrown wr dq osq).mono HBr.out.size)
      clear f0 f1 f2 f3 f4 f5 f6 HE32 e0 e1 e2
      generalize Sort.grow (redrawn wr dq) osq = wz at *
      by_cases heq : (yc, yd, yt) = (c, d, t)
      · have hd1 : decide ((yc, yd, yt) = (c, d, t)) = true := decide_eq_true heq
        have HBt : Hid (B = true) := by
          show B = true
          rw [HBe.out]
          refine decide_eq_true ?_
          have := HY.out
          rw [← heq, this, List.getD_eq_getElem?_getD, List.getElem?_eq_getElem hlt]
          exact List.getElem_mem hlt
        rw [hd1]
        clear heq hd1
        go_wp2
        go_ret
        exact ⟨by rw [HBt.out]; rfl, HB0.out.trans (HBf.out.mono HB0.out.size)⟩
      · have hd1 : decide ((yc, yd, yt) = (c, d, t)) = false := decide_eq_false heq
        have HN' : Hid (∀ k, k < j + 1 → L.getD k (c, d, t) ≠ (c, d, t)) := fun k hk => by
          by_cases e : k = j
          · subst e; rw [← HY.out]; exact heq
          · exact HN.out k (by omega)
        rw [hd1]
        clear heq hd1
        go_wp2
        go_roundw
        case rel => exact ⟨j + 1, by omega, by go_num, HN', HBf⟩
        case measure => simp [intOf]; omega
    · obtain rfl : j = L.length := by omega
      have HBf : Hid (B = false) := by
        show B = false
        rw [HBe.out]
        refine decide_eq_false fun hm => ?_
        obtain ⟨k, hk, hke⟩ := List.getElem_of_mem hm
        exact HN.out k hk (by rw [List.getD_eq_getElem?_getD, List.getElem?_eq_getElem hk]; exact hke)
      have hx2 := Rr.out.c2
      go_wp2
      go_ret
      exact ⟨by rw [HBf.out]; rfl, HB0.out.trans (HBr.out.mono HB0.out.size)⟩
end

end Go.Proofs.YtoddlbggbkabnaaDoor
