/-
  The walk of BlobsNone: a nil store has nothing.
-/
import Derived.Test.YtjpclmkkccffhaaBmd
namespace Go.Proofs.Ytjpclmkkccffhaa.Bl
open Go Go.RowKit Go.Maps
set_option maxRecDepth 100000

theorem wq_build {P : Program} {ops : Array Oper} {C : World → Prop} {Q : Act → Prop} {a : Act} {o : Oper} {rest : List Oper} (ty : TypeId) (ho : o.op = .build ty #[]) (hw : Region.wanted o (yielded ops a.tmps) = true) (z : Array Value) (hr : ∀ w, (Instr.build ty #[]).run P w = .ok (.agg z) w)
    (h : wpQuiet P ops C Q rest (a.put o.dst (.agg z))) : wpQuiet P ops C Q (o :: rest) a := by
  unfold wpQuiet
  rw [if_pos hw]
  refine ⟨.agg z, fun w hC => ?_, h⟩
  unfold Oper.quietAt execOp
  simp only [ho, List.map_toArray, List.map_nil, Sem.run_bind, hr, Result.andThen_ok, Sem.run_pure, Oper.quietUpon]
  trivial

set_option maxHeartbeats 4000000 in
theorem none_walk (w : World) (a : Ac) (ha : a.Ok) (vL : Value) : Calls Try.prog 7 #[.agg (acC a vL).toArray] w fun e w' => e = .returned (.bool true) ∧ Below w.heap.size w w' := by
  have B0 := hid (below_a1 w (.cells (acC a vL).toArray 42))
  have R0 := hid (top_obj w (.cells (acC a vL).toArray 42))
  have c1 := arow_o R0.out
  have c2 := arow_n R0.out
  have Zb := hid (sizeOf_blo ha.wf)
  have Zz := hid (sizeOf_blo zeroB_wf)
  have hwf := ha.wf
  have EQ := hid (fun W => equal_blo W zeroB zeroB zeroB_wf zeroB_wf)
  rw [sameB_self] at EQ
  go_enter Try.func7, Try.ntmps7
  go_upto_region 1 with fail
  generalize w.alloc (.cells (acC a vL).toArray 42) = W0 at *
  have HG := hid (get_nil a.owner a.number W0)
  go_upto_region 4 with (first
    | (go_at_call 12; refine HG.out.mono ?_; rintro e W7 ⟨rfl, b7⟩; have B7 := hid b7; clear b7)
    | ((with_reducible refine wl_allocK 33 ?_ ?_ (bloC zeroB).toArray zeroBl ?_); exact rfl; exact rfl; intro W8 r8 b8 s8; have R8 := hid r8; have B8 := hid b8; clear r8 b8 s8)
    | ((with_reducible refine wl_putK 33 (.tmp 4) (.tmp 15) ?_ ?_ W7.heap.size ?_ ?_ (bloC zeroB) (bloC zeroB) ?_ 33 R8.out ?_ (one_blo _) Zz.out ?_); exact rfl; exact rfl; exact rfl; exact rfl; exact rfl; exact rfl; intro W9 r9 k9 s9; have R9 := hid r9; have B9 := hid (B7.out.trans ((B8.out.mono B7.out.size).trans (k9.below (by simp; exact B7.out.size) (Nat.le_trans B7.out.size B8.out.size)))); have HU := hid (used_nil W9 a.owner); have f1 := arow_o (row_kept R0.out B9.out); clear r9 k9 s9)
    | (go_at_call 16; refine HU.out.mono ?_; rintro e w1 ⟨rfl, hw1⟩; subst w1))
  have A9 := hid (row_kept R0.out B9.out)
  generalize W7.heap.size = g7 at *
  clear HG HU R8 c1 c2
  have p1 : ∀ dd os, (Sort.grow (redrawn W9 dd) os).cell? ⟨w.heap.size, 1, none⟩ = some (nu a.owner) := fun dd os => cell_regrown f1 _ _
  have p38 : ∀ dd os, (Sort.grow (redrawn W9 dd) os).cell? ⟨w.heap.size, 38, none⟩ = some vL := fun dd os => cell_regrown (arow_l A9.out hwf) _ _
  have SA := hid (fun w' (hw : ∃ p : Regrown, w' = Sort.grow (redrawn W9 p.d) p.os) => (by obtain ⟨p, rfl⟩ := hw; exact fun i c hi => cell_regrown (arow_b A9.out i c hi) _ _ : ∀ i c, (bloC a.b)[i]? = some c → w'.cell? ⟨w.heap.size, 3 + i, none⟩ = some c))
  have SB := hid (fun w' (hw : ∃ p : Regrown, w' = Sort.grow (redrawn W9 p.d) p.os) => (by obtain ⟨p, rfl⟩ := hw; exact fun i c hi => cell_regrown (brow_all R9.out i c hi) _ _ : ∀ i c, (bloC zeroB)[i]? = some c → w'.cell? ⟨g7, 0 + i, none⟩ = some c))
  have HA : Hid (∀ d os, Calls Try.prog 9 #[] (Sort.grow (redrawn W9 d) os) fun e w'' => e = .returned (.bool true) ∧ ∃ p : Regrown, w'' = Sort.grow (redrawn W9 p.d) p.os) := fun d os => Calls.regrown_of (awake_any _)
  have HP : Hid (∀ d os, Calls Try.prog 11 #[.pointer none, .agg (bloC a.b).toArray] (Sort.grow (redrawn W9 d) os) fun e w'' => e = .returned (nu 1) ∧ ∃ p : Regrown, w'' = Sort.grow (redrawn W9 p.d) p.os) := fun d os => Calls.regrown_of (put_nil _ _)
  have HR : Hid (∀ d os, Calls Try.prog 13 #[.pointer none, nu a.owner, vL] (Sort.grow (redrawn W9 d) os) fun e w'' => e = .returned (nu 0) ∧ ∃ p : Regrown, w'' = Sort.grow (redrawn W9 p.d) p.os) := fun d os => Calls.regrown_of ((prune_nil _ _ _).mono (fun _ _ ⟨h1, h2⟩ => ⟨h1, h2 ▸ Below.refl _ _⟩))
  have HN : Hid (∀ d os, Calls Try.prog 17 #[.pointer none, nu a.owner] (Sort.grow (redrawn W9 d) os) fun e w'' => e = .returned (.slice none 0 0) ∧ ∃ p : Regrown, w'' = Sort.grow (redrawn W9 p.d) p.os) := fun d os => Calls.regrown_of ((numbers_nil _ _).mono (fun _ _ ⟨h1, h2⟩ => ⟨h1, h2 ▸ Below.refl _ _⟩))
  refine wp_region_quiet_below (by kernel_rfl) (by kernel_rfl) ?_
  (first | go_big_quiet_step (exact HA.out _ _) | quiet_step (exact HA.out _ _))
  iterate 1 (first | go_big_quiet_step (fail) | quiet_step (fail))
  refine wq_load 33 (.tmp 4) rfl g7 0 rfl rfl (bloC zeroB) _ (fun w' hw' => SB.out w' hw') Try.underlying33 rfl Zz.out ?_
  simp only [Act.put, List.setIfInBounds_toArray, List.set_cons_zero, List.set_cons_succ]
  refine wq_build 33 rfl rfl (bloC zeroB).toArray (fun W => by kernel_rfl) ?_
  simp only [Act.put, List.setIfInBounds_toArray, List.set_cons_zero, List.set_cons_succ]
  refine wq_eql rfl 33 33 (.tmp 26) (.tmp 27) rfl (bloC zeroB).toArray (bloC zeroB).toArray rfl rfl guardBlo true EQ.out ?_
  simp only [Act.put, List.setIfInBounds_toArray, List.set_cons_zero, List.set_cons_succ]
  iterate 8 (first | go_big_quiet_step (fail) | quiet_step (fail))
  refine wq_load 33 (.tmp 36) rfl w.heap.size 3 rfl rfl (bloC a.b) _ (fun w' hw' => SA.out w' hw') Try.underlying33 rfl Zb.out ?_
  simp only [Act.put, List.setIfInBounds_toArray, List.set_cons_zero, List.set_cons_succ]
  (first | go_big_quiet_step (exact HP.out _ _) | quiet_step (exact HP.out _ _))
  iterate 8 (first | go_big_quiet_step (fail) | quiet_step (fail))
  (first | go_big_quiet_step (exact HR.out _ _) | quiet_step (exact HR.out _ _))
  iterate 7 (first | go_big_quiet_step (fail) | quiet_step (fail))
  (first | go_big_quiet_step (exact HN.out _ _) | quiet_step (exact HN.out _ _))
  iterate 5 (first | go_big_quiet_step (fail) | quiet_step (fail))
  refine wpQuiet_nil ?_
  intro _ hw'
  obtain ⟨⟨dq, osq⟩, hw''⟩ := hw'
  subst hw''
  have HBq := hid (below_regrown W9 dq osq)
  generalize Sort.grow (redrawn W9 dq) osq = W10 at *
  clear p1 p38 SA SB HA HP HR HN
  go_wp2
  go_ret
  exact ⟨rfl, below_two (below_two B0.out B9.out) HBq.out⟩
end Go.Proofs.Ytjpclmkkccffhaa.Bl
