/-
  What hist.Count answers.
-/
import Derived.Test.YtfigbgpfkhcpcaaHit
namespace Go.Proofs.Ytfigbgpfkhcpcaa.Hist
open Go Go.RowKit Go.Shelf
set_option maxRecDepth 100000
attribute [local go_sem] Oper.semAt_some

theorem cell_set_same {W : World} {b : Nat} {v u : Value} (h : W.cell? ⟨b, 0, none⟩ = some v) : (W.setCell ⟨b, 0, none⟩ u).cell? ⟨b, 0, none⟩ = some u := World.cell?_setCell_same' _ _ _ (by rw [h]; rfl)
theorem frozen_set {W : World} {a p : Addr} {u : Value} : (W.setCell p u).frozen? a = W.frozen? a := World.frozen?_setCell _ _ _ _
theorem cell_set_other {W : World} {b b' : Nat} {u : Value} (h : b ≠ b') : (W.setCell ⟨b', 0, none⟩ u).cell? ⟨b, 0, none⟩ = W.cell? ⟨b, 0, none⟩ := World.cell?_of_block (w := W) (Below.heap_setCell W ⟨b', 0, none⟩ u b h)
theorem top_obj (W : World) (o : Obj) : (W.alloc o).heap[W.heap.size]? = some o := by show (W.heap.push o)[W.heap.size]? = _; simp

set_option maxHeartbeats 2000000 in
theorem count_any (h : List UInt8) (hl : h.length < 9223372036854775807) (c : Int) (w : World) : Calls Try.prog 43 #[.string ⟨h.toArray⟩, .int .i64 c] w fun e w' =>
    e = .returned (.int .i64 (cnt h c)) ∧ Below w.heap.size w w' := by
  have hC := fun W => operations_any h W
  refine (callsIn_wide (n := 3)).1 ?_
  refine callsIn_of_wp_marks Try.func43 rfl trivial ?_ rfl
  simp only [Try.ntmps43, List.size_toArray, List.length_cons, List.length_nil, Nat.reduceAdd, Nat.reduceSub, Array.replicate_succ, Array.replicate_zero, List.push_toArray, List.append_toArray, List.nil_append, List.cons_append]
  gi_wp2_with (refine ⟨trivial, ?_⟩; gi_at_call 44; refine (callsIn_wide.2 (hC _)).mono ?_; rintro e w' ⟨rfl, rfl⟩)
  have z2 : ((w.alloc (.cells #[.int .i64 c] 3)).alloc (.cells #[.int .i64 0] 3)).heap.size = w.heap.size + 2 := by simp
  have hbw : Below w.heap.size w (((w.alloc (.cells #[.int .i64 c] 3)).alloc (.cells #[.int .i64 0] 3)).alloc (.cells #[.string ⟨h.toArray⟩] 9)) := (((Below.refl _ w).alloc (Nat.le_refl _) _).alloc (by simp) _).alloc (by simp; omega) _
  have r0 : (((w.alloc (.cells #[.int .i64 c] 3)).alloc (.cells #[.int .i64 0] 3)).alloc (.cells #[.string ⟨h.toArray⟩] 9)).heap[w.heap.size]? = some (.cells #[.int .i64 c] 3) := (Below.heap_alloc _ _ _ (by simp; omega)).trans (heap_alloc2_old w _ _)
  have r1 : (((w.alloc (.cells #[.int .i64 c] 3)).alloc (.cells #[.int .i64 0] 3)).alloc (.cells #[.string ⟨h.toArray⟩] 9)).heap[w.heap.size + 1]? = some (.cells #[.int .i64 0] 3) := (Below.heap_alloc _ _ _ (by simp)).trans (heap_alloc2_new w _ _)
  have r2 : (((w.alloc (.cells #[.int .i64 c] 3)).alloc (.cells #[.int .i64 0] 3)).alloc (.cells #[.string ⟨h.toArray⟩] 9)).heap[w.heap.size + 2]? = some (.cells #[.string ⟨h.toArray⟩] 9) := by rw [← z2]; exact top_obj _ _
  have z3 : (((w.alloc (.cells #[.int .i64 c] 3)).alloc (.cells #[.int .i64 0] 3)).alloc (.cells #[.string ⟨h.toArray⟩] 9)).heap.size = w.heap.size + 3 := by simp
  generalize ((w.alloc (.cells #[.int .i64 c] 3)).alloc (.cells #[.int .i64 0] 3)).alloc (.cells #[.string ⟨h.toArray⟩] 9) = W0 at *
  refine wpIn_rangeFunc_seq rfl (by decide) (gf := 47) (lb := #[.pointer (some ⟨w.heap.size + 2, 0, none⟩)]) rfl trivial (enters_of Try.func47 (by kernel_rfl) rfl)
    (ops_seq _ h hl (w.heap.size + 2) W0 (by omega) r2) (Below.refl _ _) (by omega) (fun x hx => by obtain ⟨k, _, rfl⟩ := opsA_mem hx; rfl)
    (fun k W => (W.heap[w.heap.size]? = some (.cells #[.int .i64 c] 3) ∧ W.heap[w.heap.size + 1]? = some (.cells #[.int .i64 (cnt (h.take k) c)] 3)) ∧ Below w.heap.size w W)
    (fun _ _ _ => False)
    (fun k X Y hs hb => ⟨⟨(hb.block _ (by omega)).trans hs.1.1, (hb.block _ (by omega)).trans hs.1.2⟩, hs.2.trans (hb.mono (by omega))⟩)
    (fun _ _ _ _ hs _ => hs)
    ⟨⟨r0, r1⟩, hbw⟩
    (fun x => { tmps := #[.string ⟨h.toArray⟩, .int .i64 c, undef, .pointer (some ⟨w.heap.size, 0, none⟩), .int .i64 0, .pointer (some ⟨w.heap.size + 1, 0, none⟩), x.getD 0 undef, x.getD 1 undef, .string ⟨h.toArray⟩, .func (.func 47) #[] #[.pointer (some ⟨w.heap.size + 2, 0, none⟩)], x.getD 0 undef, x.getD 1 undef, undef, undef, undef, undef, undef], defers := [] }) ?assign ?body ?done ?stop
  case assign =>
    intro l x W K hx hK
    obtain ⟨k, hk, rfl⟩ := opsA_mem hx
    obtain ⟨p, q, hop⟩ : ∃ p q : Int, opA h k = #[.int .i64 p, .int .i64 q] := ⟨_, _, rfl⟩
    rw [hop] at hK ⊢
    clear hx hk hop
    gi_wp2
    exact hK
  case body =>
    rintro l k x W hx ⟨⟨q0, q1⟩, hB⟩
    obtain ⟨hk, rfl⟩ := opsA_at hx
    have c0 : W.cell? ⟨w.heap.size, 0, none⟩ = some (.int .i64 c) := by rw [cell_of_row _ _ _ _ _ _ q0]; rfl
    have c1 : W.cell? ⟨w.heap.size + 1, 0, none⟩ = some (.int .i64 (cnt (h.take k) c)) := by rw [cell_of_row _ _ _ _ _ _ q1]; rfl
    have f1 : W.frozen? ⟨w.heap.size + 1, 0, none⟩ = false := by simp [World.frozen?, q1]
    have hs := cnt_step h k hk c
    unfold opA
    generalize h.getD k 0 = x at *
    have Q0 := hid q0
    have Q1 := hid q1
    have HB := hid hB
    clear hx q0 q1 hB
    by_cases he : bv x = c
    · rw [if_pos he, ← he] at hs
      have HS := hid hs
      subst he
      clear hs
      have d1 : (bv x == bv x) = true := by simp
      gi_wp2
      refine ⟨(Above.refl _ W).setCell (p := ⟨w.heap.size + 1, 0, none⟩) (by show w.heap.size + 1 < w.heap.size + 2; omega) _, ⟨?_, ?_⟩, HB.out.setCell (p := ⟨w.heap.size + 1, 0, none⟩) (by simp) _⟩
      · rw [Below.heap_setCell _ _ _ _ (by simp)]; exact Q0.out
      · rw [heap_setCell_at W _ 0 _ _ _ Q1.out]; rfl
    · rw [if_neg he] at hs
      have d1 : (bv x == c) = false := by simpa using he
      gi_wp2
      refine ⟨Above.refl _ W, ⟨Q0.out, ?_⟩, HB.out⟩
      rw [hs]; exact Q1.out
  case done =>
    rintro D W hD ⟨⟨q0, q1⟩, hB⟩ hK
    rw [opsA_len, cnt_all] at q1
    have c1 : W.cell? ⟨w.heap.size + 1, 0, none⟩ = some (.int .i64 (cnt h c)) := by rw [cell_of_row _ _ _ _ _ _ q1]; rfl
    have HB := hid hB
    have HKk := hid hK
    clear hB q0 q1 hK
    gi_wp2
    refine ⟨by simp, .inl ⟨_, _, rfl, run_takeDeferred HKk.out, ?_⟩⟩
    exact ⟨_, results_tmp rfl _ _ _, rfl, HB.out.trans (below_put W D _ _ (by omega) HKk.out)⟩
  case stop =>
    rintro D c k W _ _ h _
    exact h.elim
end Go.Proofs.Ytfigbgpfkhcpcaa.Hist
