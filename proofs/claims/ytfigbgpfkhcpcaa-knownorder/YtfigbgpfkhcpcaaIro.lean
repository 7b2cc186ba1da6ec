/-
  What the reference answers: Learn, where the line may be.
-/
import Derived.Test.YtfigbgpfkhcpcaaIrn
namespace Go.Proofs.Ytfigbgpfkhcpcaa.Kn
open Go Go.RowKit
set_option maxRecDepth 100000

section
variable {w : World} {q n me : Nat} {v : Value} {L : List Ln}
set_option maxHeartbeats 8000000 in
theorem rlearn_7 (h : RAt w q v n me L) (x : Ln) (h1 : ¬ x.fro < 0) (h2 : ¬ (n : Int) ≤ x.fro) (h3 : ¬ x.byc < 0) (h4 : ¬ (n : Int) ≤ x.byc) (h5 : x.view ≠ []) (h6 : Hist.rightB x.view n = true) (h7 : endsB x.view x.byc = false) : Calls Try.prog 31 #[pt q 0, .agg (lnC x).toArray] w (RnPost w q v n me L x) := by
  have R0 := hid (top_obj w (.cells (lnC x).toArray 36))
  have B0 := hid (below_a1 w (.cells (lnC x).toArray 36))
  have c0 := lrow_o R0.out
  have c1 := lrow_n R0.out
  have c2 := lrow_c R0.out
  have q0 := (h.kept B0.out).c0
  have HRt : Hid (∀ W dd os, Calls Try.prog 41 #[st x.view, nu n] (Sort.grow (redrawn W dd) os) fun e w'' => e = .returned (.bool (Hist.rightB x.view n)) ∧ ∃ p : Regrown, w'' = Sort.grow (redrawn W p.d) p.os) :=
    fun W dd os => Calls.regrown_of ((Hist.rright_any x.view n _).mono fun e w' hq => ⟨hq.1, by rw [hq.2]; exact Below.refl _ _⟩)
  have HLn := hid (fun W ty => len_str (P := Try.prog) W x.view 9 Try.underlying9 ty)
  have hl : x.view.length ≤ 512 := right_len h6
  obtain ⟨mm, hmm⟩ : ∃ mm, x.view.length = mm + 1 := by
    cases e : x.view with
    | nil => exact absurd e h5
    | cons a b => exact ⟨b.length, by simp⟩
  have hI : I64 ((x.view.length : Int) - 1) := by unfold I64; omega
  have hm1 : (x.view.length : Int) - 1 = (mm : Int) := by omega
  have HIx : Hid (∀ W, (Instr.index 9 (st x.view) (nu (mm : Int))).run Try.prog W = .ok (.int .u8 (bv (x.view.getD mm 0))) W) := fun W => index_byte W 9 Try.underlying9 x.view mm (by omega)
  have hbb : 0 ≤ bv (x.view.getD mm 0) ∧ bv (x.view.getD mm 0) < 256 := by
    have := (x.view.getD mm 0).toNat_lt
    unfold bv
    omega
  have hE : endsB x.view x.byc = (bv (x.view.getD mm 0) == x.byc) := by
    unfold endsB
    rw [hmm, decide_eq_true (by omega)]
    rfl
  have hno : okB n x = false := by
    cases e : okB n x
    · rfl
    · have := (okB_iff _ _).1 e
      rw [h7] at this
      exact absurd this.2.2.2 (by simp)
  have HP : Hid (∀ W, Below w.heap.size w W → RnPost w q v n me L x (.returned (nu 2)) W) := fun W hb => by
    rcases learn_cases n L x with ⟨-, e1, e2⟩ | ⟨e, -⟩ | ⟨e, -⟩
    · unfold RnPost
      rw [e1, e2]
      exact ⟨rfl, ⟨v, h.kept hb, Fr.same _ _⟩, Kp.of hb⟩
    · rw [hno] at e; cases e
    · rw [hno] at e; cases e
  rw [hE] at h7
  have d1 : decide (x.fro < 0) = false := decide_eq_false h1
  clear h1
  have d2 : decide ((n : Int) ≤ x.fro) = false := decide_eq_false h2
  clear h2
  have d3 : decide (x.byc < 0) = false := decide_eq_false h3
  clear h3
  have d4 : decide ((n : Int) ≤ x.byc) = false := decide_eq_false h4
  clear h4
  have he : x.view.isEmpty = false := by cases e : x.view with | nil => exact absurd e h5 | cons a b => rfl
  rw [h6] at HRt
  clear h6 h hno hE hl
  generalize bv (x.view.getD mm 0) = bb at *
  clear hmm h5
  generalize RnPost w q v n me L x = PO at *
  obtain ⟨fr, bc, vw, tg⟩ := x
  simp only at *
  go_enter Try.func31, Try.ntmps31
  go_upto_region 1 with fail
  generalize w.alloc (.cells (lnC ⟨fr, bc, vw, tg⟩).toArray 36) = W0 at *
  generalize vw.length = vl at *
  have p0 : ∀ dd os, (Sort.grow (redrawn W0 dd) os).cell? ⟨w.heap.size, 0, none⟩ = some (nu fr) := fun dd os => cell_regrown c0 _ _
  have p1 : ∀ dd os, (Sort.grow (redrawn W0 dd) os).cell? ⟨w.heap.size, 1, none⟩ = some (nu bc) := fun dd os => cell_regrown c1 _ _
  have p2 : ∀ dd os, (Sort.grow (redrawn W0 dd) os).cell? ⟨w.heap.size, 2, none⟩ = some (st vw) := fun dd os => cell_regrown c2 _ _
  have pq : ∀ dd os, (Sort.grow (redrawn W0 dd) os).cell? ⟨q, 0, none⟩ = some (nu n) := fun dd os => cell_regrown q0 _ _
  refine wp_region_quiet_below (by kernel_rfl) (by kernel_rfl) ?_
  repeat (first | go_big_quiet_step (exact HRt.out _ _ _) | quiet_step (exact HRt.out _ _ _))
  refine wpQuiet_nil ?_
  intro _ hw'
  obtain ⟨⟨dq, osq⟩, hw''⟩ := hw'
  subst hw''
  have HBq := hid (below_regrown W0 dq osq)
  have R1 := hid (row_kept R0.out HBq.out)
  generalize Sort.grow (redrawn W0 dq) osq = W1 at *
  have BB := hid (below_two B0.out HBq.out)
  clear p0 p1 p2 pq c0 c1 c2 q0 HRt HBq R0 B0
  go_upto_region 3 with fail
  refine wp_region_cs (N := 76) [(pt w.heap.size 2), (st vw), (pt w.heap.size 2), (st vw), (nu (vl : Int)), (nu (mm : Int)), (.int .u8 bb), (nu bb), (pt w.heap.size 1), (nu bc), (.bool true)] (fun _ W => Below w.heap.size w W ∧ W.heap[w.heap.size]? = some (.cells (lnC ⟨fr, bc, vw, tg⟩).toArray 36)) [(46, (pt w.heap.size 2)), (47, (st vw)), (48, (pt w.heap.size 2)), (49, (st vw)), (50, (nu (vl : Int))), (51, (nu (mm : Int))), (52, (.int .u8 bb)), (53, (nu bb)), (54, (pt w.heap.size 1)), (55, (nu bc)), (56, (.bool true))] (by kernel_rfl) (by kernel_rfl) rfl (fun w1 hb => ⟨below_twoY BB.out hb BB.out.size, row_kept R1.out hb⟩) (by kernel_rfl) ?_ ?_
  · intro i o ho
    match i, ho with
    | 0, ho => cases ho; exact fun L a w1 hLi hw hnot hJ hk hv K h => op_fa 3 _ 2 w.heap.size 0 2 rfl (fun W => by kernel_rfl) (hk 3 (by kernel_rfl)) (h _ hJ)
    | 1, ho => cases ho; exact fun L a w1 hLi hw hnot hJ hk hv K h => op_load1 _ (.tmp 46) rfl w.heap.size 2 (hv 0 46 (by kernel_rfl) (by kernel_rfl)) (st vw) _ (lrow_c hJ.2) Try.underlying9 rfl (h _ hJ)
    | 2, ho => cases ho; exact fun L a w1 hLi hw hnot hJ hk hv K h => op_fa 3 _ 2 w.heap.size 0 2 rfl (fun W => by kernel_rfl) (hk 3 (by kernel_rfl)) (h _ hJ)
    | 3, ho => cases ho; exact fun L a w1 hLi hw hnot hJ hk hv K h => op_load1 _ (.tmp 48) rfl w.heap.size 2 (hv 2 48 (by kernel_rfl) (by kernel_rfl)) (st vw) _ (lrow_c hJ.2) Try.underlying9 rfl (h _ hJ)
    | 4, ho => cases ho; exact fun L a w1 hLi hw hnot hJ hk hv K h => op_len 49 9 vl rfl (st vw) (hv 3 49 (by kernel_rfl) (by kernel_rfl)) (fun ty => HLn.out _ ty) (h _ hJ)
    | 5, ho => cases ho; exact fun L a w1 hLi hw hnot hJ hk hv K h => op_subC 50 _ _ (vl : Int) 1 rfl (hv 4 50 (by kernel_rfl) (by kernel_rfl)) hI (by rw [hm1]; exact h _ hJ)
    | 6, ho => cases ho; exact fun L a w1 hLi hw hnot hJ hk hv K h => op_index 47 51 9 (st vw) (nu (mm : Int)) (.int .u8 bb) rfl (hv 1 47 (by kernel_rfl) (by kernel_rfl)) (hv 5 51 (by kernel_rfl) (by kernel_rfl)) (HIx.out _) (h _ hJ)
    | 7, ho => cases ho; exact fun L a w1 hLi hw hnot hJ hk hv K h => op_conv 52 5 3 (.int .u8 bb) (nu bb) rfl (hv 6 52 (by kernel_rfl) (by kernel_rfl)) (conv_byte _ bb hbb) (h _ hJ)
    | 8, ho => cases ho; exact fun L a w1 hLi hw hnot hJ hk hv K h => op_fa 3 _ 1 w.heap.size 0 1 rfl (fun W => by kernel_rfl) (hk 3 (by kernel_rfl)) (h _ hJ)
    | 9, ho => cases ho; exact fun L a w1 hLi hw hnot hJ hk hv K h => op_load1 _ (.tmp 54) rfl w.heap.size 1 (hv 8 54 (by kernel_rfl) (by kernel_rfl)) (nu bc) _ (lrow_n hJ.2) Try.underlying3 rfl (h _ hJ)
    | 10, ho => cases ho; exact fun L a w1 hLi hw hnot hJ hk hv K h => op_neqI 53 55 _ _ bb bc rfl (hv 7 53 (by kernel_rfl) (by kernel_rfl)) (hv 9 55 (by kernel_rfl) (by kernel_rfl)) (by rw [h7]; exact h _ hJ)
    | (i + 11), ho => exact absurd ho (by simp)
  intro LL W3 hall hJ
  simp only [List.foldl_cons, List.foldl_nil, List.setIfInBounds_toArray, List.set_cons_zero, List.set_cons_succ]
  clear R1 BB
  have BB := hid hJ.1
  have R1 := hid hJ.2
  clear hJ hall
  go_wp2
  exact HP.out _ BB.out
set_option maxHeartbeats 8000000 in
theorem rlearn_8 (h : RAt w q v n me L) (x : Ln) (h1 : ¬ x.fro < 0) (h2 : ¬ (n : Int) ≤ x.fro) (h3 : ¬ x.byc < 0) (h4 : ¬ (n : Int) ≤ x.byc) (h5 : x.view ≠ []) (h6 : Hist.rightB x.view n = true) (h7 : endsB x.view x.byc = true) (h8 : Hist.fitB x.view (longL L) = false) : Calls Try.prog 31 #[pt q 0, .agg (lnC x).toArray] w (RnPost w q v n me L x) := by
  have R0 := hid (top_obj w (.cells (lnC x).toArray 36))
  have B0 := hid (below_a1 w (.cells (lnC x).toArray 36))
  have c0 := lrow_o R0.out
  have c1 := lrow_n R0.out
  have c2 := lrow_c R0.out
  have q0 := (h.kept B0.out).c0
  have HRt : Hid (∀ W dd os, Calls Try.prog 41 #[st x.view, nu n] (Sort.grow (redrawn W dd) os) fun e w'' => e = .returned (.bool (Hist.rightB x.view n)) ∧ ∃ p : Regrown, w'' = Sort.grow (redrawn W p.d) p.os) :=
    fun W dd os => Calls.regrown_of ((Hist.rright_any x.view n _).mono fun e w' hq => ⟨hq.1, by rw [hq.2]; exact Below.refl _ _⟩)
  have HLn := hid (fun W ty => len_str (P := Try.prog) W x.view 9 Try.underlying9 ty)
  have hl : x.view.length ≤ 512 := right_len h6
  obtain ⟨mm, hmm⟩ : ∃ mm, x.view.length = mm + 1 := by
    cases e : x.view with
    | nil => exact absurd e h5
    | cons a b => exact ⟨b.length, by simp⟩
  have hI : I64 ((x.view.length : Int) - 1) := by unfold I64; omega
  have hm1 : (x.view.length : Int) - 1 = (mm : Int) := by omega
  have HIx : Hid (∀ W, (Instr.index 9 (st x.view) (nu (mm : Int))).run Try.prog W = .ok (.int .u8 (bv (x.view.getD mm 0))) W) := fun W => index_byte W 9 Try.underlying9 x.view mm (by omega)
  have hbb : 0 ≤ bv (x.view.getD mm 0) ∧ bv (x.view.getD mm 0) < 256 := by
    have := (x.view.getD mm 0).toNat_lt
    unfold bv
    omega
  have hE : endsB x.view x.byc = (bv (x.view.getD mm 0) == x.byc) := by
    unfold endsB
    rw [hmm, decide_eq_true (by omega)]
    rfl
  have HLg : Hid (∀ W, Below w.heap.size w W → Calls Try.prog 16 #[pt q 0] W fun e w' => e = .returned (.agg (lnC (topL L)).toArray) ∧ Below W.heap.size W w') := fun W hb => rlongest_any (h.kept hb)
  have HFt : Hid (∀ W, Calls Try.prog 30 #[st (topL L).view, st x.view] W fun e w' => e = .returned (.bool (Hist.fitB x.view (longL L))) ∧ Below W.heap.size W w') := fun W => by
    have := Hist.rfit_any (topL L).view x.view (by have := h.inv.long; unfold longL at this; omega) (by omega) W
    rw [Hist.fit_comm] at this
    exact this
  have HP : Hid (∀ W, Below w.heap.size w W → RnPost w q v n me L x (.returned (nu 8)) W) := fun W hb => by
    have hok : okB n x = true := (okB_iff _ _).2 ⟨⟨by omega, by omega⟩, ⟨by omega, by omega⟩, h6, h7⟩
    rcases learn_cases n L x with ⟨e, -⟩ | ⟨-, -, e1, e2⟩ | ⟨-, e, -⟩
    · rw [hok] at e; cases e
    · unfold RnPost
      rw [e1, e2]
      exact ⟨rfl, ⟨v, h.kept hb, Fr.same _ _⟩, Kp.of hb⟩
    · rw [h8] at e; cases e
  rw [hE] at h7
  have d1 : decide (x.fro < 0) = false := decide_eq_false h1
  clear h1
  have d2 : decide ((n : Int) ≤ x.fro) = false := decide_eq_false h2
  clear h2
  have d3 : decide (x.byc < 0) = false := decide_eq_false h3
  clear h3
  have d4 : decide ((n : Int) ≤ x.byc) = false := decide_eq_false h4
  clear h4
  have he : x.view.isEmpty = false := by cases e : x.view with | nil => exact absurd e h5 | cons a b => rfl
  rw [h6] at HRt
  rw [h8] at HFt
  clear h6 h8 h hE hl
  generalize bv (x.view.getD mm 0) = bb at *
  clear hmm h5
  generalize topL L = tt at *
  generalize RnPost w q v n me L x = PO at *
  obtain ⟨fr, bc, vw, tg⟩ := x
  simp only at *
  go_enter Try.func31, Try.ntmps31
  go_upto_region 1 with fail
  generalize w.alloc (.cells (lnC ⟨fr, bc, vw, tg⟩).toArray 36) = W0 at *
  generalize vw.length = vl at *
  have p0 : ∀ dd os, (Sort.grow (redrawn W0 dd) os).cell? ⟨w.heap.size, 0, none⟩ = some (nu fr) := fun dd os => cell_regrown c0 _ _
  have p1 : ∀ dd os, (Sort.grow (redrawn W0 dd) os).cell? ⟨w.heap.size, 1, none⟩ = some (nu bc) := fun dd os => cell_regrown c1 _ _
  have p2 : ∀ dd os, (Sort.grow (redrawn W0 dd) os).cell? ⟨w.heap.size, 2, none⟩ = some (st vw) := fun dd os => cell_regrown c2 _ _
  have pq : ∀ dd os, (Sort.grow (redrawn W0 dd) os).cell? ⟨q, 0, none⟩ = some (nu n) := fun dd os => cell_regrown q0 _ _
  refine wp_region_quiet_below (by kernel_rfl) (by kernel_rfl) ?_
  repeat (first | go_big_quiet_step (exact HRt.out _ _ _) | quiet_step (exact HRt.out _ _ _))
  refine wpQuiet_nil ?_
  intro _ hw'
  obtain ⟨⟨dq, osq⟩, hw''⟩ := hw'
  subst hw''
  have HBq := hid (below_regrown W0 dq osq)
  have R1 := hid (row_kept R0.out HBq.out)
  generalize Sort.grow (redrawn W0 dq) osq = W1 at *
  have BB := hid (below_two B0.out HBq.out)
  clear p0 p1 p2 pq c0 c1 c2 q0 HRt HBq R0 B0
  go_upto_region 3 with fail
  refine wp_region_cs (N := 76) [(pt w.heap.size 2), (st vw), (pt w.heap.size 2), (st vw), (nu (vl : Int)), (nu (mm : Int)), (.int .u8 bb), (nu bb), (pt w.heap.size 1), (nu bc), (.bool false)] (fun _ W => Below w.heap.size w W ∧ W.heap[w.heap.size]? = some (.cells (lnC ⟨fr, bc, vw, tg⟩).toArray 36)) [(46, (pt w.heap.size 2)), (47, (st vw)), (48, (pt w.heap.size 2)), (49, (st vw)), (50, (nu (vl : Int))), (51, (nu (mm : Int))), (52, (.int .u8 bb)), (53, (nu bb)), (54, (pt w.heap.size 1)), (55, (nu bc)), (56, (.bool false))] (by kernel_rfl) (by kernel_rfl) rfl (fun w1 hb => ⟨below_twoY BB.out hb BB.out.size, row_kept R1.out hb⟩) (by kernel_rfl) ?_ ?_
  · intro i o ho
    match i, ho with
    | 0, ho => cases ho; exact fun L a w1 hLi hw hnot hJ hk hv K h => op_fa 3 _ 2 w.heap.size 0 2 rfl (fun W => by kernel_rfl) (hk 3 (by kernel_rfl)) (h _ hJ)
    | 1, ho => cases ho; exact fun L a w1 hLi hw hnot hJ hk hv K h => op_load1 _ (.tmp 46) rfl w.heap.size 2 (hv 0 46 (by kernel_rfl) (by kernel_rfl)) (st vw) _ (lrow_c hJ.2) Try.underlying9 rfl (h _ hJ)
    | 2, ho => cases ho; exact fun L a w1 hLi hw hnot hJ hk hv K h => op_fa 3 _ 2 w.heap.size 0 2 rfl (fun W => by kernel_rfl) (hk 3 (by kernel_rfl)) (h _ hJ)
    | 3, ho => cases ho; exact fun L a w1 hLi hw hnot hJ hk hv K h => op_load1 _ (.tmp 48) rfl w.heap.size 2 (hv 2 48 (by kernel_rfl) (by kernel_rfl)) (st vw) _ (lrow_c hJ.2) Try.underlying9 rfl (h _ hJ)
    | 4, ho => cases ho; exact fun L a w1 hLi hw hnot hJ hk hv K h => op_len 49 9 vl rfl (st vw) (hv 3 49 (by kernel_rfl) (by kernel_rfl)) (fun ty => HLn.out _ ty) (h _ hJ)
    | 5, ho => cases ho; exact fun L a w1 hLi hw hnot hJ hk hv K h => op_subC 50 _ _ (vl : Int) 1 rfl (hv 4 50 (by kernel_rfl) (by kernel_rfl)) hI (by rw [hm1]; exact h _ hJ)
    | 6, ho => cases ho; exact fun L a w1 hLi hw hnot hJ hk hv K h => op_index 47 51 9 (st vw) (nu (mm : Int)) (.int .u8 bb) rfl (hv 1 47 (by kernel_rfl) (by kernel_rfl)) (hv 5 51 (by kernel_rfl) (by kernel_rfl)) (HIx.out _) (h _ hJ)
    | 7, ho => cases ho; exact fun L a w1 hLi hw hnot hJ hk hv K h => op_conv 52 5 3 (.int .u8 bb) (nu bb) rfl (hv 6 52 (by kernel_rfl) (by kernel_rfl)) (conv_byte _ bb hbb) (h _ hJ)
    | 8, ho => cases ho; exact fun L a w1 hLi hw hnot hJ hk hv K h => op_fa 3 _ 1 w.heap.size 0 1 rfl (fun W => by kernel_rfl) (hk 3 (by kernel_rfl)) (h _ hJ)
    | 9, ho => cases ho; exact fun L a w1 hLi hw hnot hJ hk hv K h => op_load1 _ (.tmp 54) rfl w.heap.size 1 (hv 8 54 (by kernel_rfl) (by kernel_rfl)) (nu bc) _ (lrow_n hJ.2) Try.underlying3 rfl (h _ hJ)
    | 10, ho => cases ho; exact fun L a w1 hLi hw hnot hJ hk hv K h => op_neqI 53 55 _ _ bb bc rfl (hv 7 53 (by kernel_rfl) (by kernel_rfl)) (hv 9 55 (by kernel_rfl) (by kernel_rfl)) (by rw [h7]; exact h _ hJ)
    | (i + 11), ho => exact absurd ho (by simp)
  intro LL W3 hall hJ
  simp only [List.foldl_cons, List.foldl_nil, List.setIfInBounds_toArray, List.set_cons_zero, List.set_cons_succ]
  clear R1 BB
  have BB := hid hJ.1
  have R1 := hid hJ.2
  clear hJ hall
  go_upto_region 5 with fail
  refine wp_region_cs (N := 76) [(pt q 0), (.agg (lnC tt).toArray), (st tt.view), (pt w.heap.size 2), (st vw), (.bool false), (.bool true)] (fun _ W => Below w.heap.size w W ∧ W.heap[w.heap.size]? = some (.cells (lnC ⟨fr, bc, vw, tg⟩).toArray 36)) [(57, (pt q 0)), (58, (.agg (lnC tt).toArray)), (59, (st tt.view)), (60, (pt w.heap.size 2)), (61, (st vw)), (62, (.bool false)), (63, (.bool true))] (by kernel_rfl) (by kernel_rfl) rfl (fun w1 hb => ⟨below_twoY BB.out hb BB.out.size, row_kept R1.out hb⟩) (by kernel_rfl) ?_ ?_
  · intro i o ho
    match i, ho with
    | 0, ho => cases ho; exact fun L a w1 hLi hw hnot hJ hk hv K h => op_move 0 _ rfl (hk 0 (by kernel_rfl)) (h _ hJ)
    | 1, ho => cases ho; exact fun L a w1 hLi hw hnot hJ hk hv K h => op_call 16 [.tmp 57] _ #[(pt q 0)] (.agg (lnC tt).toArray) rfl (fun _ _ => by kernel_rfl) (args1 (hv 0 57 (by kernel_rfl) (by kernel_rfl))) (J := fun w2 => Below w1.heap.size w1 w2) (HLg.out _ hJ.1) (fun w2 e1 => h _ ⟨below_twoY hJ.1 e1 hJ.1.size, row_kept hJ.2 e1⟩)
    | 2, ho => cases ho; exact fun L a w1 hLi hw hnot hJ hk hv K h => op_field 58 _ 2 (.agg (lnC tt).toArray) (st tt.view) rfl (hv 1 58 (by kernel_rfl) (by kernel_rfl)) (field_view tt _) (h _ hJ)
    | 3, ho => cases ho; exact fun L a w1 hLi hw hnot hJ hk hv K h => op_fa 3 _ 2 w.heap.size 0 2 rfl (fun W => by kernel_rfl) (hk 3 (by kernel_rfl)) (h _ hJ)
    | 4, ho => cases ho; exact fun L a w1 hLi hw hnot hJ hk hv K h => op_load1 _ (.tmp 60) rfl w.heap.size 2 (hv 3 60 (by kernel_rfl) (by kernel_rfl)) (st vw) _ (lrow_c hJ.2) Try.underlying9 rfl (h _ hJ)
    | 5, ho => cases ho; exact fun L a w1 hLi hw hnot hJ hk hv K h => op_call 30 [.tmp 59, .tmp 61] _ #[(st tt.view), (st vw)] (.bool false) rfl (fun _ _ => by kernel_rfl) (args2 (hv 2 59 (by kernel_rfl) (by kernel_rfl)) (hv 4 61 (by kernel_rfl) (by kernel_rfl))) (J := fun w2 => Below w1.heap.size w1 w2) (HFt.out _) (fun w2 e1 => h _ ⟨below_twoY hJ.1 e1 hJ.1.size, row_kept hJ.2 e1⟩)
    | 6, ho => cases ho; exact fun L a w1 hLi hw hnot hJ hk hv K h => op_notB 62 _ false rfl (hv 5 62 (by kernel_rfl) (by kernel_rfl)) (h _ hJ)
    | (i + 7), ho => exact absurd ho (by simp)
  intro LL W5 hall hJ
  simp only [List.foldl_cons, List.foldl_nil, List.setIfInBounds_toArray, List.set_cons_zero, List.set_cons_succ]
  clear R1 BB
  have BB := hid hJ.1
  have R1 := hid hJ.2
  clear hJ hall
  go_wp2
  exact HP.out _ BB.out
set_option maxHeartbeats 16000000 in
theorem rlearn_9 (h : RAt w q v n me L) (x : Ln) (hx : x.Wf) (hlen : L.length < 100000) (h1 : ¬ x.fro < 0) (h2 : ¬ (n : Int) ≤ x.fro) (h3 : ¬ x.byc < 0) (h4 : ¬ (n : Int) ≤ x.byc) (h5 : x.view ≠ []) (h6 : Hist.rightB x.view n = true) (h7 : endsB x.view x.byc = true) (h8 : Hist.fitB x.view (longL L) = true) : Calls Try.prog 31 #[pt q 0, .agg (lnC x).toArray] w (RnPost w q v n me L x) := by
  have R0 := hid (top_obj w (.cells (lnC x).toArray 36))
  have B0 := hid (below_a1 w (.cells (lnC x).toArray 36))
  have c0 := lrow_o R0.out
  have c1 := lrow_n R0.out
  have c2 := lrow_c R0.out
  have q0 := (h.kept B0.out).c0
  have HRt : Hid (∀ W dd os, Calls Try.prog 41 #[st x.view, nu n] (Sort.grow (redrawn W dd) os) fun e w'' => e = .returned (.bool (Hist.rightB x.view n)) ∧ ∃ p : Regrown, w'' = Sort.grow (redrawn W p.d) p.os) :=
    fun W dd os => Calls.regrown_of ((Hist.rright_any x.view n _).mono fun e w' hq => ⟨hq.1, by rw [hq.2]; exact Below.refl _ _⟩)
  have HLn := hid (fun W ty => len_str (P := Try.prog) W x.view 9 Try.underlying9 ty)
  have hl : x.view.length ≤ 512 := right_len h6
  obtain ⟨mm, hmm⟩ : ∃ mm, x.view.length = mm + 1 := by
    cases e : x.view with
    | nil => exact absurd e h5
    | cons a b => exact ⟨b.length, by simp⟩
  have hI : I64 ((x.view.length : Int) - 1) := by unfold I64; omega
  have hm1 : (x.view.length : Int) - 1 = (mm : Int) := by omega
  have HIx : Hid (∀ W, (Instr.index 9 (st x.view) (nu (mm : Int))).run Try.prog W = .ok (.int .u8 (bv (x.view.getD mm 0))) W) := fun W => index_byte W 9 Try.underlying9 x.view mm (by omega)
  have hbb : 0 ≤ bv (x.view.getD mm 0) ∧ bv (x.view.getD mm 0) < 256 := by
    have := (x.view.getD mm 0).toNat_lt
    unfold bv
    omega
  have hE : endsB x.view x.byc = (bv (x.view.getD mm 0) == x.byc) := by
    unfold endsB
    rw [hmm, decide_eq_true (by omega)]
    rfl
  have HLg : Hid (∀ W, Below w.heap.size w W → Calls Try.prog 16 #[pt q 0] W fun e w' => e = .returned (.agg (lnC (topL L)).toArray) ∧ Below W.heap.size W w') := fun W hb => rlongest_any (h.kept hb)
  have HFt : Hid (∀ W, Calls Try.prog 30 #[st (topL L).view, st x.view] W fun e w' => e = .returned (.bool (Hist.fitB x.view (longL L))) ∧ Below W.heap.size W w') := fun W => by
    have := Hist.rfit_any (topL L).view x.view (by have := h.inv.long; unfold longL at this; omega) (by omega) W
    rw [Hist.fit_comm] at this
    exact this
  have hok : okB n x = true := (okB_iff _ _).2 ⟨⟨by omega, by omega⟩, ⟨by omega, by omega⟩, h6, h7⟩
  have HP : Hid (∀ v' W, RAt W q v' n me (L ++ [x]) → Fr w v v' → Kp [q] w W → RnPost w q v n me L x (.returned (nu 0)) W) := fun v' W h1 h2 h3 => by
    rcases learn_cases n L x with ⟨e, -⟩ | ⟨-, e, -⟩ | ⟨-, -, e1, e2⟩
    · rw [hok] at e; cases e
    · rw [h8] at e; cases e
    · unfold RnPost
      rw [e1, e2]
      exact ⟨rfl, ⟨v', h1, h2⟩, h3⟩
  have HI := hid (h.inv.more hx hok h8).1
  have HK : Hid (∀ W, Below w.heap.size w W → RAt W q v n me L) := fun W hb => h.kept hb
  have HX := hid hx
  have HLen := hid hlen
  have Zb := hid (sizeOf_ln hx)
  rw [hE] at h7
  have d1 : decide (x.fro < 0) = false := decide_eq_false h1
  clear h1
  have d2 : decide ((n : Int) ≤ x.fro) = false := decide_eq_false h2
  clear h2
  have d3 : decide (x.byc < 0) = false := decide_eq_false h3
  clear h3
  have d4 : decide ((n : Int) ≤ x.byc) = false := decide_eq_false h4
  clear h4
  have he : x.view.isEmpty = false := by cases e : x.view with | nil => exact absurd e h5 | cons a b => rfl
  rw [h6] at HRt
  rw [h8] at HFt
  clear h6 h8 h hE hl hok hx
  generalize bv (x.view.getD mm 0) = bb at *
  clear hmm h5
  generalize topL L = tt at *
  generalize RnPost w q v n me L x = PO at *
  obtain ⟨fr, bc, vw, tg⟩ := x
  simp only at *
  go_enter Try.func31, Try.ntmps31
  go_upto_region 1 with fail
  generalize w.alloc (.cells (lnC ⟨fr, bc, vw, tg⟩).toArray 36) = W0 at *
  generalize vw.length = vl at *
  have p0 : ∀ dd os, (Sort.grow (redrawn W0 dd) os).cell? ⟨w.heap.size, 0, none⟩ = some (nu fr) := fun dd os => cell_regrown c0 _ _
  have p1 : ∀ dd os, (Sort.grow (redrawn W0 dd) os).cell? ⟨w.heap.size, 1, none⟩ = some (nu bc) := fun dd os => cell_regrown c1 _ _
  have p2 : ∀ dd os, (Sort.grow (redrawn W0 dd) os).cell? ⟨w.heap.size, 2, none⟩ = some (st vw) := fun dd os => cell_regrown c2 _ _
  have pq : ∀ dd os, (Sort.grow (redrawn W0 dd) os).cell? ⟨q, 0, none⟩ = some (nu n) := fun dd os => cell_regrown q0 _ _
  refine wp_region_quiet_below (by kernel_rfl) (by kernel_rfl) ?_
  repeat (first | go_big_quiet_step (exact HRt.out _ _ _) | quiet_step (exact HRt.out _ _ _))
  refine wpQuiet_nil ?_
  intro _ hw'
  obtain ⟨⟨dq, osq⟩, hw''⟩ := hw'
  subst hw''
  have HBq := hid (below_regrown W0 dq osq)
  have R1 := hid (row_kept R0.out HBq.out)
  generalize Sort.grow (redrawn W0 dq) osq = W1 at *
  have BB := hid (below_two B0.out HBq.out)
  clear p0 p1 p2 pq c0 c1 c2 q0 HRt HBq R0 B0
  go_upto_region 3 with fail
  refine wp_region_cs (N := 76) [(pt w.heap.size 2), (st vw), (pt w.heap.size 2), (st vw), (nu (vl : Int)), (nu (mm : Int)), (.int .u8 bb), (nu bb), (pt w.heap.size 1), (nu bc), (.bool false)] (fun _ W => Below w.heap.size w W ∧ W.heap[w.heap.size]? = some (.cells (lnC ⟨fr, bc, vw, tg⟩).toArray 36)) [(46, (pt w.heap.size 2)), (47, (st vw)), (48, (pt w.heap.size 2)), (49, (st vw)), (50, (nu (vl : Int))), (51, (nu (mm : Int))), (52, (.int .u8 bb)), (53, (nu bb)), (54, (pt w.heap.size 1)), (55, (nu bc)), (56, (.bool false))] (by kernel_rfl) (by kernel_rfl) rfl (fun w1 hb => ⟨below_twoY BB.out hb BB.out.size, row_kept R1.out hb⟩) (by kernel_rfl) ?_ ?_
  · intro i o ho
    match i, ho with
    | 0, ho => cases ho; exact fun L a w1 hLi hw hnot hJ hk hv K h => op_fa 3 _ 2 w.heap.size 0 2 rfl (fun W => by kernel_rfl) (hk 3 (by kernel_rfl)) (h _ hJ)
    | 1, ho => cases ho; exact fun L a w1 hLi hw hnot hJ hk hv K h => op_load1 _ (.tmp 46) rfl w.heap.size 2 (hv 0 46 (by kernel_rfl) (by kernel_rfl)) (st vw) _ (lrow_c hJ.2) Try.underlying9 rfl (h _ hJ)
    | 2, ho => cases ho; exact fun L a w1 hLi hw hnot hJ hk hv K h => op_fa 3 _ 2 w.heap.size 0 2 rfl (fun W => by kernel_rfl) (hk 3 (by kernel_rfl)) (h _ hJ)
    | 3, ho => cases ho; exact fun L a w1 hLi hw hnot hJ hk hv K h => op_load1 _ (.tmp 48) rfl w.heap.size 2 (hv 2 48 (by kernel_rfl) (by kernel_rfl)) (st vw) _ (lrow_c hJ.2) Try.underlying9 rfl (h _ hJ)
    | 4, ho => cases ho; exact fun L a w1 hLi hw hnot hJ hk hv K h => op_len 49 9 vl rfl (st vw) (hv 3 49 (by kernel_rfl) (by kernel_rfl)) (fun ty => HLn.out _ ty) (h _ hJ)
    | 5, ho => cases ho; exact fun L a w1 hLi hw hnot hJ hk hv K h => op_subC 50 _ _ (vl : Int) 1 rfl (hv 4 50 (by kernel_rfl) (by kernel_rfl)) hI (by rw [hm1]; exact h _ hJ)
    | 6, ho => cases ho; exact fun L a w1 hLi hw hnot hJ hk hv K h => op_index 47 51 9 (st vw) (nu (mm : Int)) (.int .u8 bb) rfl (hv 1 47 (by kernel_rfl) (by kernel_rfl)) (hv 5 51 (by kernel_rfl) (by kernel_rfl)) (HIx.out _) (h _ hJ)
    | 7, ho => cases ho; exact fun L a w1 hLi hw hnot hJ hk hv K h => op_conv 52 5 3 (.int .u8 bb) (nu bb) rfl (hv 6 52 (by kernel_rfl) (by kernel_rfl)) (conv_byte _ bb hbb) (h _ hJ)
    | 8, ho => cases ho; exact fun L a w1 hLi hw hnot hJ hk hv K h => op_fa 3 _ 1 w.heap.size 0 1 rfl (fun W => by kernel_rfl) (hk 3 (by kernel_rfl)) (h _ hJ)
    | 9, ho => cases ho; exact fun L a w1 hLi hw hnot hJ hk hv K h => op_load1 _ (.tmp 54) rfl w.heap.size 1 (hv 8 54 (by kernel_rfl) (by kernel_rfl)) (nu bc) _ (lrow_n hJ.2) Try.underlying3 rfl (h _ hJ)
    | 10, ho => cases ho; exact fun L a w1 hLi hw hnot hJ hk hv K h => op_neqI 53 55 _ _ bb bc rfl (hv 7 53 (by kernel_rfl) (by kernel_rfl)) (hv 9 55 (by kernel_rfl) (by kernel_rfl)) (by rw [h7]; exact h _ hJ)
    | (i + 11), ho => exact absurd ho (by simp)
  intro LL W3 hall hJ
  simp only [List.foldl_cons, List.foldl_nil, List.setIfInBounds_toArray, List.set_cons_zero, List.set_cons_succ]
  clear R1 BB
  have BB := hid hJ.1
  have R1 := hid hJ.2
  clear hJ hall
  go_upto_region 5 with fail
  refine wp_region_cs (N := 76) [(pt q 0), (.agg (lnC tt).toArray), (st tt.view), (pt w.heap.size 2), (st vw), (.bool true), (.bool false)] (fun _ W => Below w.heap.size w W ∧ W.heap[w.heap.size]? = some (.cells (lnC ⟨fr, bc, vw, tg⟩).toArray 36)) [(57, (pt q 0)), (58, (.agg (lnC tt).toArray)), (59, (st tt.view)), (60, (pt w.heap.size 2)), (61, (st vw)), (62, (.bool true)), (63, (.bool false))] (by kernel_rfl) (by kernel_rfl) rfl (fun w1 hb => ⟨below_twoY BB.out hb BB.out.size, row_kept R1.out hb⟩) (by kernel_rfl) ?_ ?_
  · intro i o ho
    match i, ho with
    | 0, ho => cases ho; exact fun L a w1 hLi hw hnot hJ hk hv K h => op_move 0 _ rfl (hk 0 (by kernel_rfl)) (h _ hJ)
    | 1, ho => cases ho; exact fun L a w1 hLi hw hnot hJ hk hv K h => op_call 16 [.tmp 57] _ #[(pt q 0)] (.agg (lnC tt).toArray) rfl (fun _ _ => by kernel_rfl) (args1 (hv 0 57 (by kernel_rfl) (by kernel_rfl))) (J := fun w2 => Below w1.heap.size w1 w2) (HLg.out _ hJ.1) (fun w2 e1 => h _ ⟨below_twoY hJ.1 e1 hJ.1.size, row_kept hJ.2 e1⟩)
    | 2, ho => cases ho; exact fun L a w1 hLi hw hnot hJ hk hv K h => op_field 58 _ 2 (.agg (lnC tt).toArray) (st tt.view) rfl (hv 1 58 (by kernel_rfl) (by kernel_rfl)) (field_view tt _) (h _ hJ)
    | 3, ho => cases ho; exact fun L a w1 hLi hw hnot hJ hk hv K h => op_fa 3 _ 2 w.heap.size 0 2 rfl (fun W => by kernel_rfl) (hk 3 (by kernel_rfl)) (h _ hJ)
    | 4, ho => cases ho; exact fun L a w1 hLi hw hnot hJ hk hv K h => op_load1 _ (.tmp 60) rfl w.heap.size 2 (hv 3 60 (by kernel_rfl) (by kernel_rfl)) (st vw) _ (lrow_c hJ.2) Try.underlying9 rfl (h _ hJ)
    | 5, ho => cases ho; exact fun L a w1 hLi hw hnot hJ hk hv K h => op_call 30 [.tmp 59, .tmp 61] _ #[(st tt.view), (st vw)] (.bool true) rfl (fun _ _ => by kernel_rfl) (args2 (hv 2 59 (by kernel_rfl) (by kernel_rfl)) (hv 4 61 (by kernel_rfl) (by kernel_rfl))) (J := fun w2 => Below w1.heap.size w1 w2) (HFt.out _) (fun w2 e1 => h _ ⟨below_twoY hJ.1 e1 hJ.1.size, row_kept hJ.2 e1⟩)
    | 6, ho => cases ho; exact fun L a w1 hLi hw hnot hJ hk hv K h => op_notB 62 _ true rfl (hv 5 62 (by kernel_rfl) (by kernel_rfl)) (h _ hJ)
    | (i + 7), ho => exact absurd ho (by simp)
  intro LL W5 hall hJ
  simp only [List.foldl_cons, List.foldl_nil, List.setIfInBounds_toArray, List.set_cons_zero, List.set_cons_succ]
  clear R1 BB
  have BB := hid hJ.1
  have R1 := hid hJ.2
  clear hJ hall
  go_upto_region 7 with fail
  have H1 := hid (HK.out _ BB.out)
  have LR : Hid (q < W5.heap.size) := row_lt H1.out.obj
  refine wp_region_chain (N := 76) 12 [1, 6, 8, 9] (vQ W5.heap.size L ⟨fr, bc, vw, tg⟩) [pt q 0, undef, pt q 0, pt q 0, pt q 2, v, undef, .agg (lnC ⟨fr, bc, vw, tg⟩).toArray, undef, undef, pt q 0, pt q 2] (by kernel_rfl) (by kernel_rfl) (by kernel_rfl) rfl ?_ ?_ ?_ ?_
  · intro i hi hn L' j u w' h
    exact vQ_up (by rintro rfl; simp at hi) (by rintro rfl; simp at hi) j h
  · intro i o hi hS ho
    match i, ho with
    | 0, ho => cases ho; exact fun a w hB hk hc K h => op_move 0 _ rfl (hk 0 (by kernel_rfl)) h
    | 1, ho => simp at hS
    | 2, ho => cases ho; exact fun a w hB hk hc K h => op_move 0 _ rfl (hk 0 (by kernel_rfl)) h
    | 3, ho => cases ho; exact fun a w hB hk hc K h => op_nil 66 q 0 rfl (hc 2 66 (by kernel_rfl) (by decide) (by kernel_rfl)) h
    | 4, ho => cases ho; exact fun a w hB hk hc K h => op_fa 67 _ 2 q 0 2 rfl (fun W => by kernel_rfl) (hc 3 67 (by kernel_rfl) (by decide) (by kernel_rfl)) h
    | 5, ho => cases ho; exact fun a V hB hk hc K h => op_load1 _ (.tmp 68) rfl q 2 (hc 4 68 (by kernel_rfl) (by decide) (by kernel_rfl)) v _ (H1.out.kept hB).c2 uBlos rfl h
    | 6, ho => simp at hS
    | 7, ho => cases ho; exact fun a V hB hk hc K h => op_load _ (.tmp 3) rfl w.heap.size 0 (hk 3 (by kernel_rfl)) (lnC ⟨fr, bc, vw, tg⟩) _ (lrow_all (row_kept R1.out hB)) Try.underlying36 rfl Zb.out h
    | 8, ho => simp at hS
    | 9, ho => simp at hS
    | 10, ho => cases ho; exact fun a w hB hk hc K h => op_nil 64 q 0 rfl (hc 0 64 (by kernel_rfl) (by decide) (by kernel_rfl)) h
    | 11, ho => cases ho; exact fun a w hB hk hc K h => op_fa 74 _ 2 q 0 2 rfl (fun W => by kernel_rfl) (hc 10 74 (by kernel_rfl) (by decide) (by kernel_rfl)) h
    | (i + 12), ho => omega
  · intro i o hi hS ho
    match i, ho with
    | 1, ho =>
      cases ho
      intro L' a V hLi hw hnot hcl hB hk hc hv
      refine op_bs0 22 36 rfl uBlos 35 sizeLn ⟨_, rfl, ?_, hB.trans ((below_a1 V _).mono hB.size), fun j d hj hjs hd => ?_⟩
      · rw [vQ1]
        exact Or.inr ⟨V.heap.size, rfl, hB.size, top_obj V _⟩
      · exact vQ_up (by decide) (by decide) j (vQ_kept (below_a1 V _) j (hv j d hj hjs hd))
    | 6, ho =>
      cases ho
      intro L' a V hLi hw hnot hcl hB hk hc hv
      have h1' := vQ1.1 (hv 1 65 (hw 1 (by kernel_rfl)) (by decide) (by kernel_rfl))
      rw [hLi] at h1'
      obtain ⟨g, e72, hge, hrow⟩ := h1'.resolve_left Bool.noConfusion
      have e76 : a.tmps.getD 69 undef = v := hc 5 69 (by kernel_rfl) (by decide) (by kernel_rfl)
      refine op_append 65 69 W5.heap.size 22 36 _ 35 64 rfl uBlos infoB (by simpa [Value.cells] using lnC_len zeroB_wf) (by decide) 0 L.length [] (flatB L) (by rw [e72]; exact own_none hge hrow) (by rw [e76]; exact own_pc (own_kept H1.out.row hB)) (one_flat L) (by omega) (by decide) hB.size ?_
      intro v' w' g1 g2
      rw [e72] at g2
      refine ⟨v', rfl, ?_, below_grown hB g2 (fun k hk => by cases hk; exact hge) hB.size, fun j d hj hjs hd => ?_⟩
      · rw [vQ6]
        exact Or.inr (by simpa using g1)
      · have h0 := hv j d hj hjs hd
        simp only [List.mem_cons, List.not_mem_nil, or_false] at hjs
        rcases hjs with rfl | rfl | rfl | rfl
        · rw [vQ1]
          exact Or.inl (up_self _ _)
        · rw [hLi] at hj
          cases hj
        · rw [vQ8] at h0 ⊢
          rcases h0 with h0 | ⟨g8, e8, hg8, hr8⟩
          · exact Or.inl (by rw [up_ne (by decide)]; exact h0)
          · refine Or.inr ⟨g8, e8, hg8, (g2.block g8 (row_lt hr8) ?_).trans hr8⟩
            intro e
            cases e
            rw [hrow] at hr8
            have h35 := lnC_len HX.out
            have : (#[] : Array Value) = (lnC ⟨fr, bc, vw, tg⟩).toArray := by simpa using hr8
            have := congrArg Array.size this
            simp [h35] at this
        · rw [hnot 9 _ rfl (by kernel_rfl)] at hj
          cases hj
    | 8, ho =>
      cases ho
      intro L' a V hLi hw hnot hcl hB hk hc hv
      refine op_bs1 22 36 71 rfl uBlos _ 35 64 infoB (by decide) (by decide) (.agg (lnC ⟨fr, bc, vw, tg⟩).toArray) (hc 7 71 (by kernel_rfl) (by decide) (by kernel_rfl)) (lnC ⟨fr, bc, vw, tg⟩).toArray rfl (by simpa using lnC_len HX.out) ⟨_, rfl, ?_, hB.trans ((below_a1 V _).mono hB.size), fun j d hj hjs hd => ?_⟩
      · rw [vQ8]
        exact Or.inr ⟨V.heap.size, rfl, hB.size, top_obj V _⟩
      · exact vQ_up (by decide) (by decide) j (vQ_kept (below_a1 V _) j (hv j d hj hjs hd))
    | 9, ho =>
      cases ho
      intro L' a V hLi hw hnot hcl hB hk hc hv
      have h6 := vQ6.1 (hv 6 70 (hw 6 (by kernel_rfl)) (by decide) (by kernel_rfl))
      have h8 := vQ8.1 (hv 8 72 (hw 8 (by kernel_rfl)) (by decide) (by kernel_rfl))
      rw [hLi] at h6 h8
      have hO := h6.resolve_left Bool.noConfusion
      obtain ⟨g8, e8, hg8, hr8⟩ := h8.resolve_left Bool.noConfusion
      refine op_append 70 72 W5.heap.size 22 36 _ 35 64 rfl uBlos infoB (by simpa [Value.cells] using lnC_len zeroB_wf) (by decide) L.length 1 (flatB L) (lnC ⟨fr, bc, vw, tg⟩) hO (by rw [e8]; exact own_one1 (lnC_len HX.out) hr8) (one_ln _) (by omega) (by decide) hB.size ?_
      intro v' w' g1 g2
      refine ⟨v', rfl, ?_, below_grown hB g2 (own_ge hO) hB.size, fun j d hj hjs hd => ?_⟩
      · rw [vQ9]
        show World.ownsRow _ _ _ _ _ _ _
        rw [flat_app, flat_one, List.length_append]
        exact g1
      · simp only [List.mem_cons, List.not_mem_nil, or_false] at hjs
        rcases hjs with rfl | rfl | rfl | rfl
        · rw [vQ1]
          exact Or.inl (by rw [up_ne (by decide)]; exact hw 6 (by kernel_rfl))
        · rw [vQ6]
          exact Or.inl (up_self _ _)
        · rw [vQ8]
          exact Or.inl (up_self _ _)
        · rw [hLi] at hj
          cases hj
    | 0, ho | 2, ho | 3, ho | 4, ho | 5, ho | 7, ho | 10, ho | 11, ho => simp at hS
    | (i + 12), ho => omega
  · intro L' o a V hall hLn ho hB hs hd hk hcs hvs
    cases ho
    have hO := vQ9.1 (hvs 9 73 (by decide) (by decide) (by kernel_rfl))
    have hobj : V.heap[q]? = some (.cells ([nu n, nu me] ++ ([v] ++ [])).toArray 53) := row_kept H1.out.obj hB
    refine op_put1 22 75 73 rfl rfl q 2 (hcs 11 75 (by decide) (by decide) (by kernel_rfl)) [nu n, nu me] [] v _ rfl 53 hobj rfl (own_slice hO) sizeLns (fun V9 hr9 hb9 => ?_)
    generalize a.tmps.getD 73 undef = v9 at hO hr9
    have HR9 : Hid (RAt V9 q v9 n me (L ++ [⟨fr, bc, vw, tg⟩])) := by
      refine ⟨hr9, own_same (own_zero hO) (fun k hk => hb9.block k ?_), HI.out, H1.out.n2, H1.out.n8, H1.out.hme, by rw [List.length_append]; have := HLen.out; simp; omega⟩
      have h1 := own_ge hO k hk
      have h2 := LR.out
      omega
    have HK9 : Hid (Kp [q] w V9) := (Kp.of (BB.out.trans (hB.mono BB.out.size)) : Kp [q] w V).butK hb9 (Or.inl (by simp))
    obtain ⟨tm, df⟩ := a
    obtain rfl : df = [] := hd
    have h4 : 4 < tm.size := by
      have : tm.size = 76 := hs
      omega
    have HF9 : Hid (Fr w v v9) := fun k hk => Or.inr (Nat.le_trans BB.out.size (own_ge hO k hk))
    clear hcs hvs hk hall hs hO hobj hr9 hb9
    go_wp2
    have e0 := HP.out v9 V9 HR9.out HF9.out HK9.out
    simpa [h4] using e0
theorem rlearn_any (h : RAt w q v n me L) (x : Ln) (hx : x.Wf) (hlen : L.length < 100000) : Calls Try.prog 31 #[pt q 0, .agg (lnC x).toArray] w (RnPost w q v n me L x) := by
  by_cases h1 : x.fro < 0
  · exact rlearn_1 h x h1
  by_cases h2 : (n : Int) ≤ x.fro
  · exact rlearn_2 h x h1 h2
  by_cases h3 : x.byc < 0
  · exact rlearn_3 h x h1 h2 h3
  by_cases h4 : (n : Int) ≤ x.byc
  · exact rlearn_4 h x h1 h2 h3 h4
  by_cases h5 : x.view = []
  · exact rlearn_5 h x h1 h2 h3 h4 h5
  cases h6 : Hist.rightB x.view n with
  | false => exact rlearn_6 h x h1 h2 h3 h4 h5 h6
  | true =>
    cases h7 : endsB x.view x.byc with
    | false => exact rlearn_7 h x h1 h2 h3 h4 h5 h6 h7
    | true =>
      cases h8 : Hist.fitB x.view (longL L) with
      | false => exact rlearn_8 h x h1 h2 h3 h4 h5 h6 h7 h8
      | true => exact rlearn_9 h x hx hlen h1 h2 h3 h4 h5 h6 h7 h8
end
end Go.Proofs.Ytfigbgpfkhcpcaa.Kn
