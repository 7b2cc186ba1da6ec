/-
  The prober's takeDue.
-/
import Derived.Test.YtkjgiidmajjonaaQnw
namespace Go.Proofs.Ytkjgiidmajjonaa.Kn
open Go Go.RowKit
set_option maxRecDepth 100000

theorem rowD {w : World} {X : Nat} {t k : Int} (h : w.heap[X]? = some (.cells #[nu t, nu k] 49)) : w.heap[X]? = some (.cells ([] ++ ([nu t, nu k] ++ [])).toArray 49) := h
section
variable {w : World} {pp g cap : Nat} {n me now nx : Int} {L : List En} {S : List Value}
theorem el0 (h : RAt w pp g cap n me now nx L S) (hl : L.length ≠ 0) : w.cell? ⟨g, 0, none⟩ = some (nu (at_ L 0).1) ∧ w.cell? ⟨g, 1, none⟩ = some (nu (at_ L 0).2) := by
  have h0 := h.e0 (show 0 < L.length by omega)
  have h1 := h.e1 (show 0 < L.length by omega)
  exact ⟨h0, h1⟩
set_option maxHeartbeats 8000000 in
theorem take_none (h : RAt w pp g cap n me now nx L S) (hl : L.length = 0) : Calls Try.prog 30 #[pt pp 0] w fun e w' => e = .returned (.tuple #[.agg #[nu 0, nu 0], .bool false]) ∧ Below w.heap.size w w' := by
  have HL := hid (fun W (hb : Below w.heap.size w W) => len_any (h.kept hb))
  have H := hid h
  have hlt := h.lt
  have ZD := zeroD
  have SD := sizeD
  have d2 : ((L.length : Int) == 0) = true := by rw [hl]; rfl
  have d2' : (L.length == 0) = true := by rw [hl]; rfl
  clear hl
  clear h
  go_enter Try.func30, Try.ntmps30
  go_upto_region 1 with fail
  have B0 := hid (below_a1 w (.cells #[nu 0, nu 0] 49))
  have X0 := hid (top_obj w (.cells #[nu 0, nu 0] 49))
  obtain ⟨X, hX⟩ : ∃ X, w.heap.size = X := ⟨_, rfl⟩
  rw [hX] at X0 hlt ⊢
  have HX := hid hX
  clear hX
  generalize w.alloc (.cells #[nu 0, nu 0] 49) = W0 at *
  have HLq : Hid (∀ d os, Calls Try.prog 36 #[pt pp 4] (Sort.grow (redrawn W0 d) os) fun e w'' => e = .returned (nu L.length) ∧ ∃ p : Regrown, w'' = Sort.grow (redrawn W0 p.d) p.os) := fun d os => Calls.regrown_of ((HL.out _ (below_twoY B0.out (below_regrown W0 d os) B0.out.size)).mono fun e w' hq => ⟨hq.1, hq.2 ▸ Below.refl _ _⟩)
  have R0 := hid (H.out.kept B0.out)
  have p4 : ∀ dd os, (Sort.grow (redrawn W0 dd) os).cell? ⟨pp, 4, none⟩ = some (.slice (some ⟨g, 0, none⟩) L.length cap) := fun dd os => cell_regrown R0.out.c4 _ _
  have p2 : ∀ dd os, (Sort.grow (redrawn W0 dd) os).cell? ⟨pp, 2, none⟩ = some (nu now) := fun dd os => cell_regrown R0.out.c2 _ _
  refine wp_region_quiet_below (by kernel_rfl) (by kernel_rfl) ?_
  iterate 3 (first | go_big_quiet_step (fail) | quiet_step (fail))
  (first | go_big_quiet_step (exact HLq.out _ _) | quiet_step (exact HLq.out _ _))
  iterate 16 (first | go_big_quiet_step (fail) | quiet_step (fail))
  refine wpQuiet_nil ?_
  intro _ hw'
  obtain ⟨⟨dq, osq⟩, hw''⟩ := hw'
  subst hw''
  have bq := below_regrown W0 dq osq
  have B1 := hid (below_twoY B0.out bq B0.out.size)
  have X1 := hid (row_kept X0.out bq)
  have R1 := hid (R0.out.kept bq)
  generalize Sort.grow (redrawn W0 dq) osq = W1 at *
  clear bq p4 p2 HLq HL
  go_wp2_with (first
    | ((with_reducible refine wl_put 49 (.tmp 2) (.tmp 26) ?_ ?_ X 0 ?_ ?_ [] [nu 0, nu 0] [nu 0, nu 0] [] ?_ 49 (rowD X1.out) rfl rfl ?_ ?_ ?_); exact rfl; exact rfl; exact rfl; exact rfl; exact rfl; exact oneD (0, 0); exact sizeD; intro W4 r4 b4))
  refine bodyPost_ret_by (results_ctY (fn := Try.f30) (p := 2) (u := 3) (ty := 49) (by kernel_rfl) _ _ X 49 #[nu 0, nu 0] (0, 0) _ rfl r4 Try.underlying49 rfl sizeD) rfl ?_
  exact ⟨rfl, b4.below B1.out (by rw [HX.out]; exact Nat.le_refl _)⟩
set_option maxHeartbeats 8000000 in
theorem take_late (h : RAt w pp g cap n me now nx L S) (hl : L.length ≠ 0) (hn : now < (at_ L 0).1) : Calls Try.prog 30 #[pt pp 0] w fun e w' => e = .returned (.tuple #[.agg #[nu 0, nu 0], .bool false]) ∧ Below w.heap.size w w' := by
  have HL := hid (fun W (hb : Below w.heap.size w W) => len_any (h.kept hb))
  have H := hid h
  have hlt := h.lt
  have ZD := zeroD
  have SD := sizeD
  have d1 : decide ((0 : Int) < (L.length : Int)) = true := decide_eq_true (by omega)
  have d1' : decide (0 < L.length) = true := decide_eq_true (by omega)
  have d2 : ((L.length : Int) == 0) = false := by rw [beq_eq_false_iff_ne]; omega
  have d2' : (L.length == 0) = false := by rw [beq_eq_false_iff_ne]; omega
  have HE := hid (fun W (hb : Below w.heap.size w W) => (el0 (h.kept hb) hl).1)
  have d3 : decide (now < (at_ L 0).1) = true := decide_eq_true hn
  clear h
  go_enter Try.func30, Try.ntmps30
  go_upto_region 1 with fail
  have B0 := hid (below_a1 w (.cells #[nu 0, nu 0] 49))
  have X0 := hid (top_obj w (.cells #[nu 0, nu 0] 49))
  obtain ⟨X, hX⟩ : ∃ X, w.heap.size = X := ⟨_, rfl⟩
  rw [hX] at X0 hlt ⊢
  have HX := hid hX
  clear hX
  generalize w.alloc (.cells #[nu 0, nu 0] 49) = W0 at *
  have HLq : Hid (∀ d os, Calls Try.prog 36 #[pt pp 4] (Sort.grow (redrawn W0 d) os) fun e w'' => e = .returned (nu L.length) ∧ ∃ p : Regrown, w'' = Sort.grow (redrawn W0 p.d) p.os) := fun d os => Calls.regrown_of ((HL.out _ (below_twoY B0.out (below_regrown W0 d os) B0.out.size)).mono fun e w' hq => ⟨hq.1, hq.2 ▸ Below.refl _ _⟩)
  have R0 := hid (H.out.kept B0.out)
  have p4 : ∀ dd os, (Sort.grow (redrawn W0 dd) os).cell? ⟨pp, 4, none⟩ = some (.slice (some ⟨g, 0, none⟩) L.length cap) := fun dd os => cell_regrown R0.out.c4 _ _
  have p2 : ∀ dd os, (Sort.grow (redrawn W0 dd) os).cell? ⟨pp, 2, none⟩ = some (nu now) := fun dd os => cell_regrown R0.out.c2 _ _
  have p0 : ∀ dd os, (Sort.grow (redrawn W0 dd) os).cell? ⟨g, 0, none⟩ = some (nu (at_ L 0).1) := fun dd os => cell_regrown (HE.out _ B0.out) _ _
  refine wp_region_quiet_below (by kernel_rfl) (by kernel_rfl) ?_
  iterate 3 (first | go_big_quiet_step (fail) | quiet_step (fail))
  (first | go_big_quiet_step (exact HLq.out _ _) | quiet_step (exact HLq.out _ _))
  iterate 16 (first | go_big_quiet_step (fail) | quiet_step (fail))
  refine wpQuiet_nil ?_
  intro _ hw'
  obtain ⟨⟨dq, osq⟩, hw''⟩ := hw'
  subst hw''
  have bq := below_regrown W0 dq osq
  have B1 := hid (below_twoY B0.out bq B0.out.size)
  have X1 := hid (row_kept X0.out bq)
  have R1 := hid (R0.out.kept bq)
  generalize Sort.grow (redrawn W0 dq) osq = W1 at *
  clear bq p4 p2 HLq HL p0 HE
  go_wp2_with (first
    | ((with_reducible refine wl_put 49 (.tmp 2) (.tmp 26) ?_ ?_ X 0 ?_ ?_ [] [nu 0, nu 0] [nu 0, nu 0] [] ?_ 49 (rowD X1.out) rfl rfl ?_ ?_ ?_); exact rfl; exact rfl; exact rfl; exact rfl; exact rfl; exact oneD (0, 0); exact sizeD; intro W4 r4 b4))
  refine bodyPost_ret_by (results_ctY (fn := Try.f30) (p := 2) (u := 3) (ty := 49) (by kernel_rfl) _ _ X 49 #[nu 0, nu 0] (0, 0) _ rfl r4 Try.underlying49 rfl sizeD) rfl ?_
  exact ⟨rfl, b4.below B1.out (by rw [HX.out]; exact Nat.le_refl _)⟩
set_option maxHeartbeats 8000000 in
theorem take_due (h : RAt w pp g cap n me now nx L S) (hL : L.length ≤ 1000) (hh : Hp L L.length) (hl : L.length ≠ 0) (hn : (at_ L 0).1 ≤ now) : Calls Try.prog 30 #[pt pp 0] w fun e w' => e = .returned (.tuple #[.agg #[nu (at_ L 0).1, nu (at_ L 0).2], .bool true]) ∧ ∃ L' S', ((at_ L 0 :: L').Perm L ∧ Hp L' L'.length ∧ ∀ e ∈ L', leE (at_ L 0) e) ∧ RAt w' pp g cap n me now nx L' S' ∧ Kp [pp, g] w w' := by
  obtain ⟨m, hm⟩ : ∃ m, L.length = m + 1 := ⟨L.length - 1, by omega⟩
  have HL := hid (fun W (hb : Below w.heap.size w W) => len_any (h.kept hb))
  have H := hid h
  have hlt := h.lt
  have ZD := zeroD
  have SD := sizeD
  have d1 : decide ((0 : Int) < (L.length : Int)) = true := decide_eq_true (by omega)
  have d1' : decide (0 < L.length) = true := decide_eq_true (by omega)
  have d2 : ((L.length : Int) == 0) = false := by rw [beq_eq_false_iff_ne]; omega
  have d2' : (L.length == 0) = false := by rw [beq_eq_false_iff_ne]; omega
  have HE := hid (fun W (hb : Below w.heap.size w W) => (el0 (h.kept hb) hl).1)
  have d3 : decide (now < (at_ L 0).1) = false := decide_eq_false (by omega)
  clear h
  go_enter Try.func30, Try.ntmps30
  go_upto_region 1 with fail
  have B0 := hid (below_a1 w (.cells #[nu 0, nu 0] 49))
  have X0 := hid (top_obj w (.cells #[nu 0, nu 0] 49))
  obtain ⟨X, hX⟩ : ∃ X, w.heap.size = X := ⟨_, rfl⟩
  rw [hX] at X0 hlt ⊢
  have HX := hid hX
  clear hX
  generalize w.alloc (.cells #[nu 0, nu 0] 49) = W0 at *
  have HLq : Hid (∀ d os, Calls Try.prog 36 #[pt pp 4] (Sort.grow (redrawn W0 d) os) fun e w'' => e = .returned (nu L.length) ∧ ∃ p : Regrown, w'' = Sort.grow (redrawn W0 p.d) p.os) := fun d os => Calls.regrown_of ((HL.out _ (below_twoY B0.out (below_regrown W0 d os) B0.out.size)).mono fun e w' hq => ⟨hq.1, hq.2 ▸ Below.refl _ _⟩)
  have R0 := hid (H.out.kept B0.out)
  have p4 : ∀ dd os, (Sort.grow (redrawn W0 dd) os).cell? ⟨pp, 4, none⟩ = some (.slice (some ⟨g, 0, none⟩) L.length cap) := fun dd os => cell_regrown R0.out.c4 _ _
  have p2 : ∀ dd os, (Sort.grow (redrawn W0 dd) os).cell? ⟨pp, 2, none⟩ = some (nu now) := fun dd os => cell_regrown R0.out.c2 _ _
  have p0 : ∀ dd os, (Sort.grow (redrawn W0 dd) os).cell? ⟨g, 0, none⟩ = some (nu (at_ L 0).1) := fun dd os => cell_regrown (HE.out _ B0.out) _ _
  refine wp_region_quiet_below (by kernel_rfl) (by kernel_rfl) ?_
  iterate 3 (first | go_big_quiet_step (fail) | quiet_step (fail))
  (first | go_big_quiet_step (exact HLq.out _ _) | quiet_step (exact HLq.out _ _))
  iterate 16 (first | go_big_quiet_step (fail) | quiet_step (fail))
  refine wpQuiet_nil ?_
  intro _ hw'
  obtain ⟨⟨dq, osq⟩, hw''⟩ := hw'
  subst hw''
  have bq := below_regrown W0 dq osq
  have B1 := hid (below_twoY B0.out bq B0.out.size)
  have X1 := hid (row_kept X0.out bq)
  have R1 := hid (R0.out.kept bq)
  generalize Sort.grow (redrawn W0 dq) osq = W1 at *
  clear bq p4 p2 HLq HL p0 HE
  have HP := hid (hpop_any R1.out hL hm hh)
  have TA : ∀ W, (Instr.typeAssert (.iface 49 (.agg #[nu (at_ L 0).1, nu (at_ L 0).2])) 20 49 true).run Try.prog W = .ok (.tuple #[.agg #[nu (at_ L 0).1, nu (at_ L 0).2], .bool true]) W := fun W => by kernel_rfl
  go_wp2_with fail
  refine HP.out.mono ?_
  rintro e W2 ⟨rfl, L2, S2, ⟨hp2, hh2, -, hle⟩, r2, k2⟩
  have R2 := hid r2
  have hXg : X ∉ [pp, g] := by have := H.out.lt; have := HX.out; simp; omega
  have X2 := hid (k2.row X1.out hXg)
  have K2 : Hid (Kp [pp, g] w W2) := hid ((Kp.of B1.out).trans k2)
  have HH := hid (⟨hp2, hh2, hle⟩ : (at_ L 0 :: L2).Perm L ∧ Hp L2 L2.length ∧ ∀ e ∈ L2, leE (at_ L 0) e)
  clear r2 k2 hp2 hh2 hle HP R1 B1
  have ee : (ec (at_ L 0)).toArray = #[nu (at_ L 0).1, nu (at_ L 0).2] := rfl
  have TA2 := TA W2
  rw [ee]
  obtain ⟨t, ht⟩ : ∃ t, (at_ L 0).1 = t := ⟨_, rfl⟩
  obtain ⟨k, hkk⟩ : ∃ k, (at_ L 0).2 = k := ⟨_, rfl⟩
  have HT := hid ht
  have HKK := hid hkk
  rw [ht, hkk] at TA2 ⊢
  clear TA ee ht hkk
  have B3 := hid (below_a1 W2 (.cells #[nu t, nu k] 49))
  have X3 := hid (row_kept X2.out B3.out)
  go_upto_region 4 with fail
  have R3 := hid (R2.out.kept B3.out)
  have Y3 := hid (top_obj W2 (.cells #[nu t, nu k] 49))
  obtain ⟨Y, hY⟩ : ∃ Y, W2.heap.size = Y := ⟨_, rfl⟩
  rw [hY] at Y3 ⊢
  have K3 : Hid (Kp [pp, g] w _) := hid (K2.out.trans (Kp.of B3.out))
  clear hY
  generalize W2.alloc (.cells #[nu t, nu k] 49) = W3 at *
  have y0 : W3.cell? ⟨Y, 0, none⟩ = some (nu t) := row_cell (A := []) (C := [nu k]) Y3.out rfl rfl
  have y1 : W3.cell? ⟨Y, 1, none⟩ = some (nu k) := row_cell (A := [nu t]) (C := []) Y3.out rfl rfl
  go_wp2_with (first
    | ((with_reducible refine wl_put 49 (.tmp 2) (.tmp 36) ?_ ?_ X 0 ?_ ?_ [] [nu t, nu k] [nu 0, nu 0] [] ?_ 49 (rowD X3.out) rfl rfl ?_ ?_ ?_); exact rfl; exact rfl; exact rfl; exact rfl; exact rfl; exact oneD (t, k); exact sizeD; intro W4 r4 b4))
  refine bodyPost_ret_by (results_ctY (fn := Try.f30) (p := 2) (u := 3) (ty := 49) (by kernel_rfl) _ _ X 49 #[nu t, nu k] (0, 0) _ rfl r4 Try.underlying49 rfl sizeD) rfl ?_
  refine ⟨by rw [HT.out, HKK.out]; rfl, L2, S2, HH.out, ⟨b4.row R3.out.obj (by have := H.out.lt; have := HX.out; omega), b4.row R3.out.row (by have := H.out.lt; have := HX.out; omega), R3.out.ne, R3.out.sz⟩, ?_⟩
  exact ⟨b4.os.trans K3.out.os, b4.tape.trans K3.out.tape, b4.output.trans K3.out.output, by rw [b4.size]; exact K3.out.size, fun k hk hX => (b4.block k (by have := HX.out; omega)).trans (K3.out.block k hk hX)⟩
end
end Go.Proofs.Ytkjgiidmajjonaa.Kn
