/-
  Which slot counts.
-/
import Derived.Test.YtnhnjdldgaaeoaaGreatDoorKcl
namespace Go.Proofs.YtnhnjdldgaaeoaaGreatDoor
open Go Go.RowKit
set_option maxRecDepth 100000

theorem results_tmp_row_tmp {P : Program} {fn : Func} {t0 p u : Tmp} {ty : TypeId} (h : fn.results = #[.tmp t0, .cell p ty, .tmp u]) (tmps : Array Value) (w : World) (g : Nat) (t : TypeId) (cs : Array Value) (fr : Nat × Nat) (d : TypeDesc)
    (hp : tmps.getD p undef = .pointer (some ⟨g, 0, none⟩)) (hg : w.heap[g]? = some (.cells cs t fr))
    (hu : P.underlying ty = some d) (hd : (match d with | .struct _ | .array _ _ => true | _ => false) = true) (hi : (P.info? ty).map (·.size) = some cs.size) :
    (results fn tmps).run P w = .ok (.tuple #[tmps.getD t0 undef, .agg cs, tmps.getD u undef]) w := by
  have hp' : tmps[p]?.getD undef = .pointer (some ⟨g, 0, none⟩) := by simpa using hp
  simp [results, h, hp', asAddr, run_loadVar_row w g t ty cs fr d hg hu hd hi]
theorem size71 : (Tryz.prog.info? 86).map (·.size) = some 2 := by kernel_rfl

theorem set_two {w : World} {g : Nat} {a b : Value} {t : TypeId} (h : w.heap[g]? = some (.cells #[a, b] t)) (u v : Value) : ((w.setCell ⟨g, 0, none⟩ u).setCell ⟨g, 1, none⟩ v).heap[g]? = some (.cells #[u, v] t) := by
  have h1 := heap_setCell_same w g 0 _ t u h
  have h2 := heap_setCell_same _ g 1 _ t v h1
  rw [h2]
  rfl
theorem set_two_alloc {w : World} {g : Nat} {a b : Value} {t : TypeId} (h : w.heap[g]? = some (.cells #[a, b] t)) (u v : Value) (o : Obj) : (((w.setCell ⟨g, 0, none⟩ u).setCell ⟨g, 1, none⟩ v).alloc o).heap[g]? = some (.cells #[u, v] t) := by
  have h1 := set_two h u v
  rw [heap_old1 _ _ _ (row_lt h1)]
  exact h1
/-- The slot that counts, and what it says. -/
def lastP (D : Dk) (first size : Nat) : Nat × Nat × Nat :=
  if D.down then (0, 0, 0) else
  if (saysP D first size 0).1 = 0 ∨ (saysP D first size 0).1 < (saysP D first size 1).1 then (1, saysP D first size 1) else (0, saysP D first size 0)
theorem say_pair (size : Nat) (b : List UInt8) : (sayN size b).1 = 0 → (sayN size b).2 = 0 := by
  unfold sayN
  split
  · rename_i h
    intro e
    simp only at e
    omega
  · intro _; rfl
theorem say_le (size : Nat) (b : List UInt8) : (sayN size b).1 ≤ 1099511627776 ∧ (sayN size b).2 ≤ 64 * size := by
  unfold sayN
  split
  · rename_i h
    simp only
    omega
  · simp

section
variable {w w' : World} {x : Cx} {d g first size : Nat} {D : Dk}
theorem says_pair (i : Nat) : (saysP D first size i).1 = 0 → (saysP D first size i).2 = 0 := by
  unfold saysP
  split
  · intro _; rfl
  · exact say_pair _ _
theorem says_le (i : Nat) : (saysP D first size i).1 ≤ 1099511627776 ∧ (saysP D first size i).2 ≤ 64 * size := by
  unfold saysP
  split
  · simp
  · exact say_le _ _

set_option maxHeartbeats 2000000 in
theorem last_any (h : CellAt w x d first size) (hd : DiskAt w d g D) (hr : first + 2 ≤ D.S.length) :
    Calls Tryz.prog 35 #[.pointer (some ⟨x.c, 0, none⟩)] w fun e w' =>
      e = .returned (.tuple #[.int .i64 (lastP D first size).1, .agg #[.int .i64 (lastP D first size).2.1, .int .i64 (lastP D first size).2.2], .int .i64 (eDown D.down)]) ∧ Below w.heap.size w w' := by
  have HS : Hid (∀ W, Below w.heap.size w W → ∀ i : Nat, i ≤ 1 → Calls Tryz.prog 45 #[.int .i64 i, .pointer (some ⟨x.p, 0, none⟩), .pointer (some ⟨x.q, 0, none⟩), .pointer (some ⟨x.r, 0, none⟩)] W fun e w' =>
      e = .returned (.tuple #[.agg #[.int .i64 (saysP D first size i).1, .int .i64 (saysP D first size i).2], .int .i64 (eDown D.down)]) ∧ Below W.heap.size W w') :=
    fun W hb i hi => says_any (h.stays hb) (hd.kept (X := []) (Kp.of hb) (by simp) (by simp)) hr i hi
  have HC : Hid (∀ W, Below w.heap.size w W → W.cell? ⟨x.c, 3, none⟩ = some (.func (.func 45) #[] #[.pointer (some ⟨x.p, 0, none⟩), .pointer (some ⟨x.q, 0, none⟩), .pointer (some ⟨x.r, 0, none⟩)])) := fun W hb => (h.stays hb).c3
  have p0 := says_pair (D := D) (first := first) (size := size) 0
  have p1 := says_pair (D := D) (first := first) (size := size) 1
  have b0 := says_le (D := D) (first := first) (size := size) 0
  have b1 := says_le (D := D) (first := first) (size := size) 1
  have hsz := h.sz.2
  unfold lastP
  have HS0 := hid (fun W hb => HS.out W hb 0 (by omega))
  have HS1 := hid (fun W hb => HS.out W hb 1 (by omega))
  clear HS h hd hr
  generalize saysP D first size 0 = X at *
  generalize saysP D first size 1 = Y at *
  obtain ⟨x1, x2⟩ := X
  obtain ⟨y1, y2⟩ := Y
  simp only at p0 p1 b0 b1 HS0 HS1 ⊢
  have HB0 : Hid (Below w.heap.size w (w.alloc (.cells #[.int .i64 0, .int .i64 0] 86))) := below_a1 _ _
  have HT0 : Hid ((w.alloc (.cells #[.int .i64 0, .int .i64 0] 86)).heap[w.heap.size]? = some (.cells #[.int .i64 0, .int .i64 0] 86)) := top_row _ _
  have q0 := HC.out _ HB0.out
  cases hdn : D.down with
  | true =>
    rw [hdn] at HS0 HS1
    simp only [if_true, eDown] at HS0 HS1 ⊢
    go_enter Tryz.func35, Tryz.ntmps35
    go_wp2_with fail
    refine (HS0.out _ HB0.out).mono ?_
    rintro e w1 ⟨rfl, hb1⟩
    have HB1 : Hid (Below w.heap.size w w1) := HB0.out.trans (hb1.mono HB0.out.size)
    have hT1 : w1.heap[w.heap.size]? = some (.cells #[.int .i64 0, .int .i64 0] 86) := row_kept HT0.out hb1
    have hlt1 : w.heap.size < w1.heap.size := row_lt hT1
    have c0 : w1.cell? ⟨w.heap.size, 0, none⟩ = some (.int .i64 0) := by rw [cell_of_row _ _ _ _ _ _ hT1]; rfl
    have c1 : w1.cell? ⟨w.heap.size, 1, none⟩ = some (.int .i64 0) := by rw [cell_of_row _ _ _ _ _ _ hT1]; rfl
    have f0 : w1.frozen? ⟨w.heap.size, 0, none⟩ = false := by simp [World.frozen?, hT1]
    have f1 : w1.frozen? ⟨w.heap.size, 1, none⟩ = false := by simp [World.frozen?, hT1]
    have HT1 := hid hT1
    clear hb1 hT1
    go_wp2
    refine bodyPost_ret_by (results_tmp_row_tmp (fn := Tryz.f35) (t0 := 2) (p := 3) (u := 4) (ty := 86) (by kernel_rfl) _ _ w.heap.size 86 _ (0, 0) _ rfl (set_two_alloc HT1.out _ _ _) Tryz.underlying86 rfl size71) rfl ?_
    exact ⟨rfl, below_more (below_setCell (below_setCell HB1.out _ _ (Nat.le_refl _)) _ _ (Nat.le_refl _)) _ (Nat.le_refl _)⟩
  | false =>
    rw [hdn] at HS0 HS1
    simp only [Bool.false_eq_true, if_false, eDown] at HS0 HS1 ⊢
    obtain ⟨sl, a, b, hres, hcase⟩ : ∃ sl a b : Nat, (if x1 = 0 ∨ x1 < y1 then ((1, y1, y2) : Nat × Nat × Nat) else (0, x1, x2)) = (sl, a, b) ∧ ((x1 = 0 ∧ sl = 1 ∧ a = y1 ∧ b = y2) ∨ (x1 ≠ 0 ∧ x1 < y1 ∧ sl = 1 ∧ a = y1 ∧ b = y2) ∨ (x1 ≠ 0 ∧ ¬ x1 < y1 ∧ sl = 0 ∧ a = x1 ∧ b = x2)) := by
      by_cases h1 : x1 = 0
      · exact ⟨1, y1, y2, by rw [if_pos (.inl h1)], .inl ⟨h1, rfl, rfl, rfl⟩⟩
      · by_cases h2 : x1 < y1
        · exact ⟨1, y1, y2, by rw [if_pos (.inr h2)], .inr (.inl ⟨h1, h2, rfl, rfl, rfl⟩)⟩
        · exact ⟨0, x1, x2, by rw [if_neg (by omega)], .inr (.inr ⟨h1, h2, rfl, rfl, rfl⟩)⟩
    rw [hres]
    have HCase := hid hcase
    clear hres hcase
    go_enter Tryz.func35, Tryz.ntmps35
    go_wp2_with fail
    refine (HS0.out _ HB0.out).mono ?_
    rintro e w1 ⟨rfl, hb1⟩
    have HB1 : Hid (Below w.heap.size w w1) := HB0.out.trans (hb1.mono HB0.out.size)
    have hT1 : w1.heap[w.heap.size]? = some (.cells #[.int .i64 0, .int .i64 0] 86) := row_kept HT0.out hb1
    have hlt1 : w.heap.size < w1.heap.size := row_lt hT1
    have HB1a : Hid (Below w.heap.size w (w1.alloc (.cells #[.int .i64 x1, .int .i64 x2] 86))) := below_more HB1.out _ (Nat.le_refl _)
    have HT1a : Hid ((w1.alloc (.cells #[.int .i64 x1, .int .i64 x2] 86)).heap[w.heap.size]? = some (.cells #[.int .i64 0, .int .i64 0] 86)) := by show _ = _; rw [heap_old1 _ _ _ hlt1]; exact hT1
    have HO1 : Hid ((w1.alloc (.cells #[.int .i64 x1, .int .i64 x2] 86)).heap[w1.heap.size]? = some (.cells #[.int .i64 x1, .int .i64 x2] 86)) := top_row _ _
    have q1 := HC.out _ HB1a.out
    clear hb1 hT1 q0
    go_wp2_with fail
    refine (HS1.out _ HB1a.out).mono ?_
    rintro e w2 ⟨rfl, hb2⟩
    have HB2 : Hid (Below w.heap.size w w2) := HB1a.out.trans (hb2.mono HB1a.out.size)
    have hT2 : w2.heap[w.heap.size]? = some (.cells #[.int .i64 0, .int .i64 0] 86) := row_kept HT1a.out hb2
    have hO2 : w2.heap[w1.heap.size]? = some (.cells #[.int .i64 x1, .int .i64 x2] 86) := row_kept HO1.out hb2
    have hlt2 : w.heap.size < w2.heap.size := row_lt hT2
    have hlt3 : w1.heap.size < w2.heap.size := row_lt hO2
    have c0 : w2.cell? ⟨w.heap.size, 0, none⟩ = some (.int .i64 0) := by rw [cell_of_row _ _ _ _ _ _ hT2]; rfl
    have c1 : w2.cell? ⟨w.heap.size, 1, none⟩ = some (.int .i64 0) := by rw [cell_of_row _ _ _ _ _ _ hT2]; rfl
    have f0 : w2.frozen? ⟨w.heap.size, 0, none⟩ = false := by simp [World.frozen?, hT2]
    have f1 : w2.frozen? ⟨w.heap.size, 1, none⟩ = false := by simp [World.frozen?, hT2]
    have o0 : w2.cell? ⟨w1.heap.size, 0, none⟩ = some (.int .i64 x1) := by rw [cell_of_row _ _ _ _ _ _ hO2]; rfl
    have o1 : w2.cell? ⟨w1.heap.size, 1, none⟩ = some (.int .i64 x2) := by rw [cell_of_row _ _ _ _ _ _ hO2]; rfl
    have HT2 := hid hT2
    clear hb2 hT2 hO2 q1 HB1 HB1a HT1a HO1 HB0 HT0 HC HS0 HS1
    have HP0 := hid p0
    clear p0 p1
    rcases HCase.out with ⟨hx, rfl, rfl, rfl⟩ | ⟨hx, hlt, rfl, rfl, rfl⟩ | ⟨hx, hlt, rfl, rfl, rfl⟩
    · have hx2 := HP0.out hx
      subst hx hx2
      clear HP0 HCase
      go_wp2_with fail
      go_region
      all_goals
        go_wp2
        refine bodyPost_ret_by (results_tmp_row_tmp (fn := Tryz.f35) (t0 := 2) (p := 3) (u := 4) (ty := 86) (by kernel_rfl) _ _ w.heap.size 86 _ (0, 0) _ rfl (set_two_alloc HT2.out _ _ _) Tryz.underlying86 rfl size71) rfl ?_
        exact ⟨rfl, below_drawn (below_more (below_setCell (below_setCell HB2.out _ _ (Nat.le_refl _)) _ _ (Nat.le_refl _)) _ (Nat.le_refl _)) 1⟩
    · clear HP0 HCase
      go_wp2_with fail
      go_region
      all_goals
        go_wp2
        refine bodyPost_ret_by (results_tmp_row_tmp (fn := Tryz.f35) (t0 := 2) (p := 3) (u := 4) (ty := 86) (by kernel_rfl) _ _ w.heap.size 86 _ (0, 0) _ rfl (set_two_alloc HT2.out _ _ _) Tryz.underlying86 rfl size71) rfl ?_
        exact ⟨rfl, below_drawn (below_more (below_setCell (below_setCell HB2.out _ _ (Nat.le_refl _)) _ _ (Nat.le_refl _)) _ (Nat.le_refl _)) 1⟩
    · clear HP0 HCase
      go_wp2_with fail
      go_region
      all_goals
        go_wp2
        refine bodyPost_ret_by (results_tmp_row_tmp (fn := Tryz.f35) (t0 := 2) (p := 3) (u := 4) (ty := 86) (by kernel_rfl) _ _ w.heap.size 86 _ (0, 0) _ rfl (set_two_alloc HT2.out _ _ _) Tryz.underlying86 rfl size71) rfl ?_
        exact ⟨rfl, below_drawn (below_more (below_setCell (below_setCell HB2.out _ _ (Nat.le_refl _)) _ _ (Nat.le_refl _)) _ (Nat.le_refl _)) 1⟩
end
end Go.Proofs.YtnhnjdldgaaeoaaGreatDoor
