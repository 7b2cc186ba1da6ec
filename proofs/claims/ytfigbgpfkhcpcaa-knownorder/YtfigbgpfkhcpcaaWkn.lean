/-
  The walk of KnownNone: nil knows nothing.
-/
import Derived.Test.YtfigbgpfkhcpcaaIwk
namespace Go.Proofs.Ytfigbgpfkhcpcaa.Kn
open Go Go.RowKit
set_option maxRecDepth 100000

theorem wq_build {P : Program} {ops : Array Oper} {C : World → Prop} {Q : Act → Prop} {a : Act} {o : Oper} {rest : List Oper} (ty : TypeId) (ho : o.op = .build ty #[]) (hw : Region.wanted o (yielded ops a.tmps) = true) (z : Array Value) (hr : ∀ w, (Instr.build ty #[]).run P w = .ok (.agg z) w)
    (h : wpQuiet P ops C Q rest (a.put o.dst (.agg z))) : wpQuiet P ops C Q (o :: rest) a := by
  unfold wpQuiet
  rw [if_pos hw]
  refine ⟨.agg z, fun w hC => ?_, h⟩
  unfold Oper.quietAt execOp
  simp only [ho, List.map_toArray, List.map_nil, Sem.run_bind, hr, Result.andThen_ok, Sem.run_pure, Oper.quietUpon]
  trivial
theorem guardDig : Try.prog.eqGuardType Try.prog.depth 32 = false := by kernel_rfl
theorem lrow_t {w : World} {g : Nat} {b : Ln} {t : TypeId} (h : w.heap[g]? = some (.cells (lnC b).toArray t)) : ∀ j v, (dg b.tag)[j]? = some v → w.cell? ⟨g, 3 + j, none⟩ = some v := row_seg (A := [nu b.fro, nu b.byc, st b.view]) (C := []) h (by simp [lnC]) rfl
set_option maxHeartbeats 8000000 in
theorem none_walk (w : World) (x : Ln) (hx : x.Wf) : Calls Try.prog 8 #[.agg (lnC x).toArray] w fun e w' => e = .returned (.bool true) ∧ Below w.heap.size w w' := by
  have B0 := hid (below_a1 w (.cells (lnC x).toArray 36))
  have R0 := hid (top_obj w (.cells (lnC x).toArray 36))
  have ZT := hid (sizeDg hx)
  have Z0 := hid (sizeDg (d := List.replicate 32 0) (by decide))
  have O0 := hid (one_dg (List.replicate 32 0))
  have EQ := hid (fun W => equal_dig W (List.replicate 32 0) (List.replicate 32 0) (by decide) (by decide))
  rw [beq_self_eq_true] at EQ
  have HB := hid build_dg
  have hz := zeroDg
  have HLg := hid longest_nil
  obtain ⟨D0, hD0⟩ : ∃ D0, dg (List.replicate 32 0) = D0 := ⟨_, rfl⟩
  rw [hD0] at Z0 O0 EQ HB hz HLg
  clear hD0
  obtain ⟨fr, bc, vw, tg⟩ := x
  simp only at *
  go_enter Try.func8, Try.ntmps8
  go_upto_region 1 with fail
  generalize w.alloc (.cells (lnC ⟨fr, bc, vw, tg⟩).toArray 36) = W0 at *
  go_wp2_with fail
  refine (HLg.out W0).mono ?_
  rintro e W1 ⟨rfl, b1⟩
  have B1 := hid (below_two B0.out b1)
  have R1 := hid (row_kept R0.out b1)
  clear b1 HLg
  obtain ⟨X, hX⟩ : ∃ X, W1.heap.size = X := ⟨_, rfl⟩
  have T2 := hid (top_obj W1 (.cells D0.toArray 32))
  have B2 := hid (B1.out.alloc B1.out.size (.cells D0.toArray 32))
  have R2 := hid (row_kept R1.out (below_a1 W1 (.cells D0.toArray 32)))
  have hXw : w.heap.size ≤ X := by rw [← hX]; exact B1.out.size
  have hne : w.heap.size ≠ X := by have := row_lt R1.out; omega
  rw [hX] at T2
  have HXe := hid hX
  clear hX
  go_upto_region 3 with (first
    | ((with_reducible refine wl_alloc 32 ?_ ?_ D0.toArray hz ?_); exact rfl; exact rfl; rw [HXe.out]; try simp only [Act.put, List.setIfInBounds_toArray, List.set_cons_zero, List.set_cons_succ])
    | ((with_reducible refine wl_put 32 (.tmp 6) (.tmp 12) ?_ ?_ X 0 ?_ ?_ [] D0 D0 [] ?_ 32 (row_nilY T2.out) rfl rfl O0.out Z0.out ?_); exact rfl; exact rfl; exact rfl; exact rfl; exact rfl; intro W9 r9 b9))
  have R9 := hid (b9.row R2.out hne)
  have T9 : Hid (W9.heap[X]? = some (.cells D0.toArray 32)) := by
    show _ = _
    simpa using r9
  have B9 := hid (b9.below B2.out hXw)
  clear r9 b9 R2 T2 B2 R1 B1 R0
  have p0 : ∀ dd os, (Sort.grow (redrawn W9 dd) os).cell? ⟨w.heap.size, 0, none⟩ = some (nu fr) := fun dd os => cell_regrown (lrow_o R9.out) _ _
  have p1 : ∀ dd os, (Sort.grow (redrawn W9 dd) os).cell? ⟨w.heap.size, 1, none⟩ = some (nu bc) := fun dd os => cell_regrown (lrow_n R9.out) _ _
  have p2 : ∀ dd os, (Sort.grow (redrawn W9 dd) os).cell? ⟨w.heap.size, 2, none⟩ = some (st vw) := fun dd os => cell_regrown (lrow_c R9.out) _ _
  have SA := hid (fun w' (hw : ∃ p : Regrown, w' = Sort.grow (redrawn W9 p.d) p.os) => (by obtain ⟨p, rfl⟩ := hw; exact fun i c hi => cell_regrown (lrow_t R9.out i c hi) _ _ : ∀ i c, (dg tg)[i]? = some c → w'.cell? ⟨w.heap.size, 3 + i, none⟩ = some c))
  have SB := hid (fun w' (hw : ∃ p : Regrown, w' = Sort.grow (redrawn W9 p.d) p.os) => (by obtain ⟨p, rfl⟩ := hw; exact fun i c hi => cell_regrown (row_zeroY T9.out i c hi) _ _ : ∀ i c, D0[i]? = some c → w'.cell? ⟨X, 0 + i, none⟩ = some c))
  have HA : Hid (∀ d os, Calls Try.prog 10 #[] (Sort.grow (redrawn W9 d) os) fun e w'' => e = .returned (.bool true) ∧ ∃ p : Regrown, w'' = Sort.grow (redrawn W9 p.d) p.os) := fun d os => Calls.regrown_of (awake_any _)
  have HL : Hid (∀ d os, Calls Try.prog 29 #[.pointer none, nu fr, nu bc, st vw, .agg (dg tg).toArray] (Sort.grow (redrawn W9 d) os) fun e w'' => e = .returned (nu 1) ∧ ∃ p : Regrown, w'' = Sort.grow (redrawn W9 p.d) p.os) := fun d os => Calls.regrown_of (learn_nil _ _ _ _ _)
  have HW : Hid (∀ d os, Calls Try.prog 11 #[.pointer none, nu fr] (Sort.grow (redrawn W9 d) os) fun e w'' => e = .returned (st []) ∧ ∃ p : Regrown, w'' = Sort.grow (redrawn W9 p.d) p.os) := fun d os => Calls.regrown_of ((word_nil _ _).mono (fun _ _ ⟨h1, h2⟩ => ⟨h1, h2 ▸ Below.refl _ _⟩))
  have HO : Hid (∀ d os, Calls Try.prog 13 #[.pointer none, nu fr] (Sort.grow (redrawn W9 d) os) fun e w'' => e = .returned (st []) ∧ ∃ p : Regrown, w'' = Sort.grow (redrawn W9 p.d) p.os) := fun d os => Calls.regrown_of ((own_nil _ _).mono (fun _ _ ⟨h1, h2⟩ => ⟨h1, h2 ▸ Below.refl _ _⟩))
  have HS : Hid (∀ d os, Calls Try.prog 18 #[.pointer none] (Sort.grow (redrawn W9 d) os) fun e w'' => e = .returned (.slice none 0 0) ∧ ∃ p : Regrown, w'' = Sort.grow (redrawn W9 p.d) p.os) := fun d os => Calls.regrown_of ((stable_nil _).mono (fun _ _ ⟨h1, h2⟩ => ⟨h1, h2 ▸ Below.refl _ _⟩))
  have HC : Hid (∀ d os, Calls Try.prog 20 #[.pointer none] (Sort.grow (redrawn W9 d) os) fun e w'' => e = .returned (nu 0) ∧ ∃ p : Regrown, w'' = Sort.grow (redrawn W9 p.d) p.os) := fun d os => Calls.regrown_of ((cut_nil _).mono (fun _ _ ⟨h1, h2⟩ => ⟨h1, h2 ▸ Below.refl _ _⟩))
  have HE : Hid (∀ d os, Calls Try.prog 22 #[.pointer none] (Sort.grow (redrawn W9 d) os) fun e w'' => e = .returned (nu 0) ∧ ∃ p : Regrown, w'' = Sort.grow (redrawn W9 p.d) p.os) := fun d os => Calls.regrown_of ((seen_nil _).mono (fun _ _ ⟨h1, h2⟩ => ⟨h1, h2 ▸ Below.refl _ _⟩))
  have hE : ({ data := #[] } : ByteArray) ++ { data := #[] } = { data := #[] } := rfl
  have hE2 : (({ data := #[] } : ByteArray)).toList = [] := by rw [ByteArray.toList_eq]
  refine wp_region_quiet_below (by kernel_rfl) (by kernel_rfl) ?_
  (first | go_big_quiet_step (exact HA.out _ _) | quiet_step (exact HA.out _ _))
  iterate 9 (first | go_big_quiet_step (fail) | quiet_step (fail))
  refine wq_load 32 (.tmp 22) rfl w.heap.size 3 rfl rfl (dg tg) _ (fun w' hw' => SA.out w' hw') Try.underlying32 rfl ZT.out ?_
  simp only [Act.put, List.setIfInBounds_toArray, List.set_cons_zero, List.set_cons_succ]
  (first | go_big_quiet_step (exact HL.out _ _) | quiet_step (exact HL.out _ _))
  iterate 11 (first | go_big_quiet_step (fail) | quiet_step (fail))
  refine wq_load 32 (.tmp 6) rfl X 0 rfl rfl D0 _ (fun w' hw' => SB.out w' hw') Try.underlying32 rfl Z0.out ?_
  simp only [Act.put, List.setIfInBounds_toArray, List.set_cons_zero, List.set_cons_succ]
  refine wq_build 32 rfl rfl D0.toArray HB.out ?_
  simp only [Act.put, List.setIfInBounds_toArray, List.set_cons_zero, List.set_cons_succ]
  refine wq_eql rfl 32 32 (.tmp 36) (.tmp 37) rfl D0.toArray D0.toArray rfl rfl guardDig true EQ.out ?_
  simp only [Act.put, List.setIfInBounds_toArray, List.set_cons_zero, List.set_cons_succ]
  iterate 5 (first | go_big_quiet_step (fail) | quiet_step (fail))
  (first | go_big_quiet_step (exact HW.out _ _) | quiet_step (exact HW.out _ _))
  iterate 3 (first | go_big_quiet_step (fail) | quiet_step (fail))
  (first | go_big_quiet_step (exact HO.out _ _) | quiet_step (exact HO.out _ _))
  iterate 5 (first | go_big_quiet_step (fail) | quiet_step (fail))
  (first | go_big_quiet_step (exact HS.out _ _) | quiet_step (exact HS.out _ _))
  iterate 2 (first | go_big_quiet_step (fail) | quiet_step (fail))
  (first | go_big_quiet_step (exact HC.out _ _) | quiet_step (exact HC.out _ _))
  iterate 2 (first | go_big_quiet_step (fail) | quiet_step (fail))
  (first | go_big_quiet_step (exact HE.out _ _) | quiet_step (exact HE.out _ _))
  iterate 4 (first | go_big_quiet_step (fail) | quiet_step (fail))
  refine wpQuiet_nil ?_
  intro _ hw'
  obtain ⟨⟨dq, osq⟩, hw''⟩ := hw'
  subst hw''
  have HBq := hid (below_regrown W9 dq osq)
  generalize Sort.grow (redrawn W9 dq) osq = W10 at *
  clear p0 p1 p2 SA SB HA HL HW HO HS HC HE
  go_wp2
  go_ret
  exact ⟨rfl, below_two B9.out HBq.out⟩
end Go.Proofs.Ytfigbgpfkhcpcaa.Kn
