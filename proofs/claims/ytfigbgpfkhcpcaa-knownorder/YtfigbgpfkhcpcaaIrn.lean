/-
  What the reference answers: Learn.
-/
import Derived.Test.YtfigbgpfkhcpcaaIox
namespace Go.Proofs.Ytfigbgpfkhcpcaa.Kn
open Go Go.RowKit
set_option maxRecDepth 100000

theorem op_notB {P : Program} {o : Oper} {a : Act} {w : World} {Q : Exit → Act → World → Prop} {K : Act → World → Prop} (x : Tmp) (T : TypeId) (b : Bool) (ho : o.op = .unOp .not T (.tmp x)) (hx : a.tmps.getD x undef = .bool b) (h : K (a.put o.dst (.bool (!b))) w) : o.wp P a w K Q := by
  have ex : a.eval (.tmp x) = .bool b := hx
  unfold Oper.wp execOp
  simp [ho, ex, Op.unary]
  exact h
def RnPost (w : World) (q : Nat) (v : Value) (n me : Nat) (L : List Ln) (x : Ln) (e : Ending) (w' : World) : Prop := e = .returned (nu (learnE n L x)) ∧ (∃ v', RAt w' q v' n me (learnL n L x) ∧ Fr w v v') ∧ Kp [q] w w'
section
variable {w : World} {q n me : Nat} {v : Value} {L : List Ln}
set_option maxHeartbeats 8000000 in
theorem rlearn_1 (h : RAt w q v n me L) (x : Ln)  (h1 : x.fro < 0) : Calls Try.prog 31 #[pt q 0, .agg (lnC x).toArray] w (RnPost w q v n me L x) := by
  have R0 := hid (top_obj w (.cells (lnC x).toArray 36))
  have B0 := hid (below_a1 w (.cells (lnC x).toArray 36))
  have c0 := lrow_o R0.out
  have c1 := lrow_n R0.out
  have c2 := lrow_c R0.out
  have q0 := (h.kept B0.out).c0
  have HRt : Hid (∀ W dd os, Calls Try.prog 41 #[st x.view, nu n] (Sort.grow (redrawn W dd) os) fun e w'' => e = .returned (.bool (Hist.rightB x.view n)) ∧ ∃ p : Regrown, w'' = Sort.grow (redrawn W p.d) p.os) :=
    fun W dd os => Calls.regrown_of ((Hist.rright_any x.view n _).mono fun e w' hq => ⟨hq.1, by rw [hq.2]; exact Below.refl _ _⟩)
  have hno : okB n x = false := by
    cases e : okB n x
    · rfl
    · have := (okB_iff _ _).1 e
      omega
  have HP : Hid (∀ W, Below w.heap.size w W → RnPost w q v n me L x (.returned (nu 2)) W) := fun W hb => by
    rcases learn_cases n L x with ⟨-, e1, e2⟩ | ⟨e, -⟩ | ⟨e, -⟩
    · unfold RnPost
      rw [e1, e2]
      exact ⟨rfl, ⟨v, h.kept hb, Fr.same _ _⟩, Kp.of hb⟩
    · rw [hno] at e; cases e
    · rw [hno] at e; cases e
  have d1 : decide (x.fro < 0) = true := decide_eq_true h1
  clear h1
  clear h hno
  generalize RnPost w q v n me L x = PO at *
  obtain ⟨fr, bc, vw, tg⟩ := x
  simp only at *
  go_enter Try.func31, Try.ntmps31
  go_upto_region 1 with fail
  generalize w.alloc (.cells (lnC ⟨fr, bc, vw, tg⟩).toArray 36) = W0 at *
  have p0 : ∀ dd os, (Sort.grow (redrawn W0 dd) os).cell? ⟨w.heap.size, 0, none⟩ = some (nu fr) := fun dd os => cell_regrown c0 _ _
  have p1 : ∀ dd os, (Sort.grow (redrawn W0 dd) os).cell? ⟨w.heap.size, 1, none⟩ = some (nu bc) := fun dd os => cell_regrown c1 _ _
  have p2 : ∀ dd os, (Sort.grow (redrawn W0 dd) os).cell? ⟨w.heap.size, 2, none⟩ = some (st vw) := fun dd os => cell_regrown c2 _ _
  have pq : ∀ dd os, (Sort.grow (redrawn W0 dd) os).cell? ⟨q, 0, none⟩ = some (nu n) := fun dd os => cell_regrown q0 _ _
  refine wp_region_quiet_below (by kernel_rfl) (by kernel_rfl) ?_
  repeat (first | go_big_quiet_step (exact HRt.out _ _ _) | quiet_step (exact HRt.out _ _ _))
  refine wpQuiet_nil ?_
  intro _ hw'
  obtain ⟨⟨dq, osq⟩, hw''⟩ := hw'
  subst hw''
  have HBq := hid (below_regrown W0 dq osq)
  have R1 := hid (row_kept R0.out HBq.out)
  generalize Sort.grow (redrawn W0 dq) osq = W1 at *
  have BB := hid (below_two B0.out HBq.out)
  clear p0 p1 p2 pq c0 c1 c2 q0 HRt HBq R0 B0
  go_wp2
  exact HP.out _ BB.out
set_option maxHeartbeats 8000000 in
theorem rlearn_2 (h : RAt w q v n me L) (x : Ln) (h1 : ¬ x.fro < 0) (h2 : (n : Int) ≤ x.fro) : Calls Try.prog 31 #[pt q 0, .agg (lnC x).toArray] w (RnPost w q v n me L x) := by
  have R0 := hid (top_obj w (.cells (lnC x).toArray 36))
  have B0 := hid (below_a1 w (.cells (lnC x).toArray 36))
  have c0 := lrow_o R0.out
  have c1 := lrow_n R0.out
  have c2 := lrow_c R0.out
  have q0 := (h.kept B0.out).c0
  have HRt : Hid (∀ W dd os, Calls Try.prog 41 #[st x.view, nu n] (Sort.grow (redrawn W dd) os) fun e w'' => e = .returned (.bool (Hist.rightB x.view n)) ∧ ∃ p : Regrown, w'' = Sort.grow (redrawn W p.d) p.os) :=
    fun W dd os => Calls.regrown_of ((Hist.rright_any x.view n _).mono fun e w' hq => ⟨hq.1, by rw [hq.2]; exact Below.refl _ _⟩)
  have hno : okB n x = false := by
    cases e : okB n x
    · rfl
    · have := (okB_iff _ _).1 e
      omega
  have HP : Hid (∀ W, Below w.heap.size w W → RnPost w q v n me L x (.returned (nu 2)) W) := fun W hb => by
    rcases learn_cases n L x with ⟨-, e1, e2⟩ | ⟨e, -⟩ | ⟨e, -⟩
    · unfold RnPost
      rw [e1, e2]
      exact ⟨rfl, ⟨v, h.kept hb, Fr.same _ _⟩, Kp.of hb⟩
    · rw [hno] at e; cases e
    · rw [hno] at e; cases e
  have d1 : decide (x.fro < 0) = false := decide_eq_false h1
  clear h1
  have d2 : decide ((n : Int) ≤ x.fro) = true := decide_eq_true h2
  clear h2
  clear h hno
  generalize RnPost w q v n me L x = PO at *
  obtain ⟨fr, bc, vw, tg⟩ := x
  simp only at *
  go_enter Try.func31, Try.ntmps31
  go_upto_region 1 with fail
  generalize w.alloc (.cells (lnC ⟨fr, bc, vw, tg⟩).toArray 36) = W0 at *
  have p0 : ∀ dd os, (Sort.grow (redrawn W0 dd) os).cell? ⟨w.heap.size, 0, none⟩ = some (nu fr) := fun dd os => cell_regrown c0 _ _
  have p1 : ∀ dd os, (Sort.grow (redrawn W0 dd) os).cell? ⟨w.heap.size, 1, none⟩ = some (nu bc) := fun dd os => cell_regrown c1 _ _
  have p2 : ∀ dd os, (Sort.grow (redrawn W0 dd) os).cell? ⟨w.heap.size, 2, none⟩ = some (st vw) := fun dd os => cell_regrown c2 _ _
  have pq : ∀ dd os, (Sort.grow (redrawn W0 dd) os).cell? ⟨q, 0, none⟩ = some (nu n) := fun dd os => cell_regrown q0 _ _
  refine wp_region_quiet_below (by kernel_rfl) (by kernel_rfl) ?_
  repeat (first | go_big_quiet_step (exact HRt.out _ _ _) | quiet_step (exact HRt.out _ _ _))
  refine wpQuiet_nil ?_
  intro _ hw'
  obtain ⟨⟨dq, osq⟩, hw''⟩ := hw'
  subst hw''
  have HBq := hid (below_regrown W0 dq osq)
  have R1 := hid (row_kept R0.out HBq.out)
  generalize Sort.grow (redrawn W0 dq) osq = W1 at *
  have BB := hid (below_two B0.out HBq.out)
  clear p0 p1 p2 pq c0 c1 c2 q0 HRt HBq R0 B0
  go_wp2
  exact HP.out _ BB.out
set_option maxHeartbeats 8000000 in
theorem rlearn_3 (h : RAt w q v n me L) (x : Ln) (h1 : ¬ x.fro < 0) (h2 : ¬ (n : Int) ≤ x.fro) (h3 : x.byc < 0) : Calls Try.prog 31 #[pt q 0, .agg (lnC x).toArray] w (RnPost w q v n me L x) := by
  have R0 := hid (top_obj w (.cells (lnC x).toArray 36))
  have B0 := hid (below_a1 w (.cells (lnC x).toArray 36))
  have c0 := lrow_o R0.out
  have c1 := lrow_n R0.out
  have c2 := lrow_c R0.out
  have q0 := (h.kept B0.out).c0
  have HRt : Hid (∀ W dd os, Calls Try.prog 41 #[st x.view, nu n] (Sort.grow (redrawn W dd) os) fun e w'' => e = .returned (.bool (Hist.rightB x.view n)) ∧ ∃ p : Regrown, w'' = Sort.grow (redrawn W p.d) p.os) :=
    fun W dd os => Calls.regrown_of ((Hist.rright_any x.view n _).mono fun e w' hq => ⟨hq.1, by rw [hq.2]; exact Below.refl _ _⟩)
  have hno : okB n x = false := by
    cases e : okB n x
    · rfl
    · have := (okB_iff _ _).1 e
      omega
  have HP : Hid (∀ W, Below w.heap.size w W → RnPost w q v n me L x (.returned (nu 2)) W) := fun W hb => by
    rcases learn_cases n L x with ⟨-, e1, e2⟩ | ⟨e, -⟩ | ⟨e, -⟩
    · unfold RnPost
      rw [e1, e2]
      exact ⟨rfl, ⟨v, h.kept hb, Fr.same _ _⟩, Kp.of hb⟩
    · rw [hno] at e; cases e
    · rw [hno] at e; cases e
  have d1 : decide (x.fro < 0) = false := decide_eq_false h1
  clear h1
  have d2 : decide ((n : Int) ≤ x.fro) = false := decide_eq_false h2
  clear h2
  have d3 : decide (x.byc < 0) = true := decide_eq_true h3
  clear h3
  clear h hno
  generalize RnPost w q v n me L x = PO at *
  obtain ⟨fr, bc, vw, tg⟩ := x
  simp only at *
  go_enter Try.func31, Try.ntmps31
  go_upto_region 1 with fail
  generalize w.alloc (.cells (lnC ⟨fr, bc, vw, tg⟩).toArray 36) = W0 at *
  have p0 : ∀ dd os, (Sort.grow (redrawn W0 dd) os).cell? ⟨w.heap.size, 0, none⟩ = some (nu fr) := fun dd os => cell_regrown c0 _ _
  have p1 : ∀ dd os, (Sort.grow (redrawn W0 dd) os).cell? ⟨w.heap.size, 1, none⟩ = some (nu bc) := fun dd os => cell_regrown c1 _ _
  have p2 : ∀ dd os, (Sort.grow (redrawn W0 dd) os).cell? ⟨w.heap.size, 2, none⟩ = some (st vw) := fun dd os => cell_regrown c2 _ _
  have pq : ∀ dd os, (Sort.grow (redrawn W0 dd) os).cell? ⟨q, 0, none⟩ = some (nu n) := fun dd os => cell_regrown q0 _ _
  refine wp_region_quiet_below (by kernel_rfl) (by kernel_rfl) ?_
  repeat (first | go_big_quiet_step (exact HRt.out _ _ _) | quiet_step (exact HRt.out _ _ _))
  refine wpQuiet_nil ?_
  intro _ hw'
  obtain ⟨⟨dq, osq⟩, hw''⟩ := hw'
  subst hw''
  have HBq := hid (below_regrown W0 dq osq)
  have R1 := hid (row_kept R0.out HBq.out)
  generalize Sort.grow (redrawn W0 dq) osq = W1 at *
  have BB := hid (below_two B0.out HBq.out)
  clear p0 p1 p2 pq c0 c1 c2 q0 HRt HBq R0 B0
  go_wp2
  exact HP.out _ BB.out
set_option maxHeartbeats 8000000 in
theorem rlearn_4 (h : RAt w q v n me L) (x : Ln) (h1 : ¬ x.fro < 0) (h2 : ¬ (n : Int) ≤ x.fro) (h3 : ¬ x.byc < 0) (h4 : (n : Int) ≤ x.byc) : Calls Try.prog 31 #[pt q 0, .agg (lnC x).toArray] w (RnPost w q v n me L x) := by
  have R0 := hid (top_obj w (.cells (lnC x).toArray 36))
  have B0 := hid (below_a1 w (.cells (lnC x).toArray 36))
  have c0 := lrow_o R0.out
  have c1 := lrow_n R0.out
  have c2 := lrow_c R0.out
  have q0 := (h.kept B0.out).c0
  have HRt : Hid (∀ W dd os, Calls Try.prog 41 #[st x.view, nu n] (Sort.grow (redrawn W dd) os) fun e w'' => e = .returned (.bool (Hist.rightB x.view n)) ∧ ∃ p : Regrown, w'' = Sort.grow (redrawn W p.d) p.os) :=
    fun W dd os => Calls.regrown_of ((Hist.rright_any x.view n _).mono fun e w' hq => ⟨hq.1, by rw [hq.2]; exact Below.refl _ _⟩)
  have hno : okB n x = false := by
    cases e : okB n x
    · rfl
    · have := (okB_iff _ _).1 e
      omega
  have HP : Hid (∀ W, Below w.heap.size w W → RnPost w q v n me L x (.returned (nu 2)) W) := fun W hb => by
    rcases learn_cases n L x with ⟨-, e1, e2⟩ | ⟨e, -⟩ | ⟨e, -⟩
    · unfold RnPost
      rw [e1, e2]
      exact ⟨rfl, ⟨v, h.kept hb, Fr.same _ _⟩, Kp.of hb⟩
    · rw [hno] at e; cases e
    · rw [hno] at e; cases e
  have d1 : decide (x.fro < 0) = false := decide_eq_false h1
  clear h1
  have d2 : decide ((n : Int) ≤ x.fro) = false := decide_eq_false h2
  clear h2
  have d3 : decide (x.byc < 0) = false := decide_eq_false h3
  clear h3
  have d4 : decide ((n : Int) ≤ x.byc) = true := decide_eq_true h4
  clear h4
  clear h hno
  generalize RnPost w q v n me L x = PO at *
  obtain ⟨fr, bc, vw, tg⟩ := x
  simp only at *
  go_enter Try.func31, Try.ntmps31
  go_upto_region 1 with fail
  generalize w.alloc (.cells (lnC ⟨fr, bc, vw, tg⟩).toArray 36) = W0 at *
  have p0 : ∀ dd os, (Sort.grow (redrawn W0 dd) os).cell? ⟨w.heap.size, 0, none⟩ = some (nu fr) := fun dd os => cell_regrown c0 _ _
  have p1 : ∀ dd os, (Sort.grow (redrawn W0 dd) os).cell? ⟨w.heap.size, 1, none⟩ = some (nu bc) := fun dd os => cell_regrown c1 _ _
  have p2 : ∀ dd os, (Sort.grow (redrawn W0 dd) os).cell? ⟨w.heap.size, 2, none⟩ = some (st vw) := fun dd os => cell_regrown c2 _ _
  have pq : ∀ dd os, (Sort.grow (redrawn W0 dd) os).cell? ⟨q, 0, none⟩ = some (nu n) := fun dd os => cell_regrown q0 _ _
  refine wp_region_quiet_below (by kernel_rfl) (by kernel_rfl) ?_
  repeat (first | go_big_quiet_step (exact HRt.out _ _ _) | quiet_step (exact HRt.out _ _ _))
  refine wpQuiet_nil ?_
  intro _ hw'
  obtain ⟨⟨dq, osq⟩, hw''⟩ := hw'
  subst hw''
  have HBq := hid (below_regrown W0 dq osq)
  have R1 := hid (row_kept R0.out HBq.out)
  generalize Sort.grow (redrawn W0 dq) osq = W1 at *
  have BB := hid (below_two B0.out HBq.out)
  clear p0 p1 p2 pq c0 c1 c2 q0 HRt HBq R0 B0
  go_wp2
  exact HP.out _ BB.out
set_option maxHeartbeats 8000000 in
theorem rlearn_5 (h : RAt w q v n me L) (x : Ln) (h1 : ¬ x.fro < 0) (h2 : ¬ (n : Int) ≤ x.fro) (h3 : ¬ x.byc < 0) (h4 : ¬ (n : Int) ≤ x.byc) (h5 : x.view = []) : Calls Try.prog 31 #[pt q 0, .agg (lnC x).toArray] w (RnPost w q v n me L x) := by
  have R0 := hid (top_obj w (.cells (lnC x).toArray 36))
  have B0 := hid (below_a1 w (.cells (lnC x).toArray 36))
  have c0 := lrow_o R0.out
  have c1 := lrow_n R0.out
  have c2 := lrow_c R0.out
  have q0 := (h.kept B0.out).c0
  have HRt : Hid (∀ W dd os, Calls Try.prog 41 #[st x.view, nu n] (Sort.grow (redrawn W dd) os) fun e w'' => e = .returned (.bool (Hist.rightB x.view n)) ∧ ∃ p : Regrown, w'' = Sort.grow (redrawn W p.d) p.os) :=
    fun W dd os => Calls.regrown_of ((Hist.rright_any x.view n _).mono fun e w' hq => ⟨hq.1, by rw [hq.2]; exact Below.refl _ _⟩)
  have hno : okB n x = false := by
    cases e : okB n x
    · rfl
    · have := (okB_iff _ _).1 e
      rw [h5] at this
      exact absurd this.2.2.2 (by unfold endsB; simp)
  have HP : Hid (∀ W, Below w.heap.size w W → RnPost w q v n me L x (.returned (nu 2)) W) := fun W hb => by
    rcases learn_cases n L x with ⟨-, e1, e2⟩ | ⟨e, -⟩ | ⟨e, -⟩
    · unfold RnPost
      rw [e1, e2]
      exact ⟨rfl, ⟨v, h.kept hb, Fr.same _ _⟩, Kp.of hb⟩
    · rw [hno] at e; cases e
    · rw [hno] at e; cases e
  have d1 : decide (x.fro < 0) = false := decide_eq_false h1
  clear h1
  have d2 : decide ((n : Int) ≤ x.fro) = false := decide_eq_false h2
  clear h2
  have d3 : decide (x.byc < 0) = false := decide_eq_false h3
  clear h3
  have d4 : decide ((n : Int) ≤ x.byc) = false := decide_eq_false h4
  clear h4
  rw [h5] at c2
  clear h5
  clear h hno
  generalize RnPost w q v n me L x = PO at *
  obtain ⟨fr, bc, vw, tg⟩ := x
  simp only at *
  go_enter Try.func31, Try.ntmps31
  go_upto_region 1 with fail
  generalize w.alloc (.cells (lnC ⟨fr, bc, vw, tg⟩).toArray 36) = W0 at *
  have p0 : ∀ dd os, (Sort.grow (redrawn W0 dd) os).cell? ⟨w.heap.size, 0, none⟩ = some (nu fr) := fun dd os => cell_regrown c0 _ _
  have p1 : ∀ dd os, (Sort.grow (redrawn W0 dd) os).cell? ⟨w.heap.size, 1, none⟩ = some (nu bc) := fun dd os => cell_regrown c1 _ _
  have p2 : ∀ dd os, (Sort.grow (redrawn W0 dd) os).cell? ⟨w.heap.size, 2, none⟩ = some (st []) := fun dd os => cell_regrown c2 _ _
  have pq : ∀ dd os, (Sort.grow (redrawn W0 dd) os).cell? ⟨q, 0, none⟩ = some (nu n) := fun dd os => cell_regrown q0 _ _
  refine wp_region_quiet_below (by kernel_rfl) (by kernel_rfl) ?_
  repeat (first | go_big_quiet_step (exact HRt.out _ _ _) | quiet_step (exact HRt.out _ _ _))
  refine wpQuiet_nil ?_
  intro _ hw'
  obtain ⟨⟨dq, osq⟩, hw''⟩ := hw'
  subst hw''
  have HBq := hid (below_regrown W0 dq osq)
  have R1 := hid (row_kept R0.out HBq.out)
  generalize Sort.grow (redrawn W0 dq) osq = W1 at *
  have BB := hid (below_two B0.out HBq.out)
  clear p0 p1 p2 pq c0 c1 c2 q0 HRt HBq R0 B0
  go_wp2
  exact HP.out _ BB.out
set_option maxHeartbeats 8000000 in
theorem rlearn_6 (h : RAt w q v n me L) (x : Ln) (h1 : ¬ x.fro < 0) (h2 : ¬ (n : Int) ≤ x.fro) (h3 : ¬ x.byc < 0) (h4 : ¬ (n : Int) ≤ x.byc) (h5 : x.view ≠ []) (h6 : Hist.rightB x.view n = false) : Calls Try.prog 31 #[pt q 0, .agg (lnC x).toArray] w (RnPost w q v n me L x) := by
  have R0 := hid (top_obj w (.cells (lnC x).toArray 36))
  have B0 := hid (below_a1 w (.cells (lnC x).toArray 36))
  have c0 := lrow_o R0.out
  have c1 := lrow_n R0.out
  have c2 := lrow_c R0.out
  have q0 := (h.kept B0.out).c0
  have HRt : Hid (∀ W dd os, Calls Try.prog 41 #[st x.view, nu n] (Sort.grow (redrawn W dd) os) fun e w'' => e = .returned (.bool (Hist.rightB x.view n)) ∧ ∃ p : Regrown, w'' = Sort.grow (redrawn W p.d) p.os) :=
    fun W dd os => Calls.regrown_of ((Hist.rright_any x.view n _).mono fun e w' hq => ⟨hq.1, by rw [hq.2]; exact Below.refl _ _⟩)
  have hno : okB n x = false := by
    cases e : okB n x
    · rfl
    · have := (okB_iff _ _).1 e
      rw [h6] at this
      exact absurd this.2.2.1 (by simp)
  have HP : Hid (∀ W, Below w.heap.size w W → RnPost w q v n me L x (.returned (nu 2)) W) := fun W hb => by
    rcases learn_cases n L x with ⟨-, e1, e2⟩ | ⟨e, -⟩ | ⟨e, -⟩
    · unfold RnPost
      rw [e1, e2]
      exact ⟨rfl, ⟨v, h.kept hb, Fr.same _ _⟩, Kp.of hb⟩
    · rw [hno] at e; cases e
    · rw [hno] at e; cases e
  have d1 : decide (x.fro < 0) = false := decide_eq_false h1
  clear h1
  have d2 : decide ((n : Int) ≤ x.fro) = false := decide_eq_false h2
  clear h2
  have d3 : decide (x.byc < 0) = false := decide_eq_false h3
  clear h3
  have d4 : decide ((n : Int) ≤ x.byc) = false := decide_eq_false h4
  clear h4
  have he : x.view.isEmpty = false := by cases e : x.view with | nil => exact absurd e h5 | cons a b => rfl
  rw [h6] at HRt
  clear h6
  clear h hno
  generalize RnPost w q v n me L x = PO at *
  obtain ⟨fr, bc, vw, tg⟩ := x
  simp only at *
  go_enter Try.func31, Try.ntmps31
  go_upto_region 1 with fail
  generalize w.alloc (.cells (lnC ⟨fr, bc, vw, tg⟩).toArray 36) = W0 at *
  have p0 : ∀ dd os, (Sort.grow (redrawn W0 dd) os).cell? ⟨w.heap.size, 0, none⟩ = some (nu fr) := fun dd os => cell_regrown c0 _ _
  have p1 : ∀ dd os, (Sort.grow (redrawn W0 dd) os).cell? ⟨w.heap.size, 1, none⟩ = some (nu bc) := fun dd os => cell_regrown c1 _ _
  have p2 : ∀ dd os, (Sort.grow (redrawn W0 dd) os).cell? ⟨w.heap.size, 2, none⟩ = some (st vw) := fun dd os => cell_regrown c2 _ _
  have pq : ∀ dd os, (Sort.grow (redrawn W0 dd) os).cell? ⟨q, 0, none⟩ = some (nu n) := fun dd os => cell_regrown q0 _ _
  refine wp_region_quiet_below (by kernel_rfl) (by kernel_rfl) ?_
  repeat (first | go_big_quiet_step (exact HRt.out _ _ _) | quiet_step (exact HRt.out _ _ _))
  refine wpQuiet_nil ?_
  intro _ hw'
  obtain ⟨⟨dq, osq⟩, hw''⟩ := hw'
  subst hw''
  have HBq := hid (below_regrown W0 dq osq)
  have R1 := hid (row_kept R0.out HBq.out)
  generalize Sort.grow (redrawn W0 dq) osq = W1 at *
  have BB := hid (below_two B0.out HBq.out)
  clear p0 p1 p2 pq c0 c1 c2 q0 HRt HBq R0 B0
  go_wp2
  exact HP.out _ BB.out
end
end Go.Proofs.Ytfigbgpfkhcpcaa.Kn
