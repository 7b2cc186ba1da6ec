/-
  A register's client in memory (ustor.Reg): what its looks answer, and New.
-/
import Derived.Test.YtekfcbedlokidaaGreatDoorYal
import Derived.Test.YtekfcbedlokidaaGreatDoorHsr
import Derived.Test.YtekfcbedlokidaaGreatDoorH23
namespace Go.Proofs.YtekfcbedlokidaaGreatDoor.Ms
open Go Go.RowKit
set_option maxRecDepth 100000
structure Ureg where
  me : Int
  view : List UInt8
  value : List UInt8
  asked : Sub
def uregC (p : Nat) (U : Ureg) : List Value := [pt p 0] ++ ([nu U.me] ++ ([st U.view] ++ ([st U.value] ++ subC U.asked)))
def newU (me : Int) : Ureg := ⟨me, [], [], zeroS⟩
def busyB (U : Ureg) : Bool := !sameS U.asked zeroS
structure UAt (w : World) (G p : Nat) (U : Ureg) : Prop where
  row : w.heap[G]? = some (.cells (uregC p U).toArray 109)
  wf : U.asked.Wf
theorem UAt.kept {w w' : World} {G p : Nat} {U : Ureg} (h : UAt w G p U) (hb : Below w.heap.size w w') : UAt w' G p U := ⟨row_kept h.row hb, h.wf⟩
section
variable {w : World} {G p : Nat} {U : Ureg}
theorem UAt.c0 (h : UAt w G p U) : w.cell? ⟨G, 0, none⟩ = some (pt p 0) := row_cell (A := []) (C := [nu U.me] ++ ([st U.view] ++ ([st U.value] ++ subC U.asked))) h.row rfl rfl
theorem UAt.c1 (h : UAt w G p U) : w.cell? ⟨G, 1, none⟩ = some (nu U.me) := row_cell (A := [pt p 0]) (C := [st U.view] ++ ([st U.value] ++ subC U.asked)) h.row rfl rfl
theorem UAt.c2 (h : UAt w G p U) : w.cell? ⟨G, 2, none⟩ = some (st U.view) := row_cell (A := [pt p 0] ++ [nu U.me]) (C := [st U.value] ++ subC U.asked) h.row rfl rfl
theorem UAt.c3 (h : UAt w G p U) : w.cell? ⟨G, 3, none⟩ = some (st U.value) := row_cell (A := [pt p 0] ++ ([nu U.me] ++ [st U.view])) (C := subC U.asked) h.row rfl rfl
theorem UAt.c4 (h : UAt w G p U) : ∀ j v, (subC U.asked)[j]? = some v → w.cell? ⟨G, 4 + j, none⟩ = some v := row_seg (A := [pt p 0] ++ ([nu U.me] ++ ([st U.view] ++ [st U.value]))) (cs := subC U.asked) (C := []) h.row (by simp [uregC]) rfl
set_option maxHeartbeats 1000000 in
theorem umade_any (h : UAt w G p U) : Calls Tryz.prog 49 #[pt G 0] w fun e w' => e = .returned (.bool true) ∧ w' = w := by
  have c0 := h.c0
  clear h
  go_enter Tryz.func49, Tryz.ntmps49
  go_wp2
  go_ret
  exact ⟨rfl, rfl⟩
theorem build_sub0 (W : World) : (Instr.build 25 #[]).run Tryz.prog W = .ok (.agg (subC zeroS).toArray) W := build_sub W
set_option maxHeartbeats 4000000 in
theorem ubusy_any (h : UAt w G p U) : Calls Tryz.prog 16 #[pt G 0] w fun e w' => e = .returned (.bool (busyB U)) ∧ w' = w := by
  have HM := hid (umade_any h)
  have C4 := hid h.c4
  have ZS := szSY h.wf
  have E := fun W => equal_sub W U.asked zeroS h.wf wfZeroS
  have HB := hid build_sub0
  unfold busyB
  clear h
  generalize sameS U.asked zeroS = B at *
  generalize subC U.asked = V at *
  generalize subC zeroS = Z at *
  go_enter Tryz.func16, Tryz.ntmps16
  go_wp2_with fail
  refine HM.out.mono ?_
  rintro e w1 ⟨rfl, hw1⟩
  subst w1
  go_wp2_with (first
    | ((with_reducible refine wl_load 25 (.tmp 8) ?_ G 4 ?_ ?_ V _ C4.out Tryz.underlying25 ?_ ZS ?_); exact rfl; exact rfl; exact rfl; exact rfl)
    | ((with_reducible refine wl_build 25 ?_ ?_ Z.toArray (HB.out _) ?_); exact rfl; exact rfl))
  go_ret
  exact ⟨rfl, rfl⟩
set_option maxHeartbeats 2000000 in
theorem unumber_any (h : UAt w G p U) (hv : U.view.length ≤ 140737488351232) : Calls Tryz.prog 38 #[pt G 0] w fun e w' => e = .returned (nu (Hist.cnt U.view U.me : Int)) ∧ Below w.heap.size w w' := by
  have HM := hid (umade_any h)
  have H1 := regr (w := w) (fun W _ => Hist.count_any U.view (i64_le hv) U.me W)
  have hc1 : ∀ dd os, (Sort.grow (redrawn w dd) os).cell? ⟨G, 1, none⟩ = some (nu U.me) := fun dd os => cell_regrown h.c1 _ _
  have hc2 : ∀ dd os, (Sort.grow (redrawn w dd) os).cell? ⟨G, 2, none⟩ = some (st U.view) := fun dd os => cell_regrown h.c2 _ _
  clear h hv
  generalize U.view = vw at *
  generalize U.me = me at *
  go_enter Tryz.func38, Tryz.ntmps38
  go_wp2_with fail
  refine HM.out.mono ?_
  rintro e w1 ⟨rfl, hw1⟩
  subst w1
  go_upto_region 3 with fail
  refine wp_region_quiet_below (by kernel_rfl) (by kernel_rfl) ?_
  repeat (first | go_big_quiet_step (exact H1.out _ _) | quiet_step (exact H1.out _ _))
  refine wpQuiet_nil ?_
  intro _ hw'
  obtain ⟨⟨dq, osq⟩, hw''⟩ := hw'
  subst hw''
  have HB2 := hid (below_regrown w dq osq)
  clear hc1 hc2 H1 HM
  go_wp2
  go_ret
  exact ⟨rfl, HB2.out⟩
set_option maxHeartbeats 1000000 in
theorem uview_any (h : UAt w G p U) : Calls Tryz.prog 14 #[pt G 0] w fun e w' => e = .returned (st U.view) ∧ w' = w := by
  have HM := hid (umade_any h)
  have c := h.c2
  clear h
  go_enter Tryz.func14, Tryz.ntmps14
  go_wp2_with fail
  refine HM.out.mono ?_
  rintro e w1 ⟨rfl, hw1⟩
  subst w1
  go_wp2
  go_ret
  exact ⟨rfl, rfl⟩
set_option maxHeartbeats 1000000 in
theorem uvalue_any (h : UAt w G p U) : Calls Tryz.prog 15 #[pt G 0] w fun e w' => e = .returned (st U.value) ∧ w' = w := by
  have HM := hid (umade_any h)
  have c := h.c3
  clear h
  go_enter Tryz.func15, Tryz.ntmps15
  go_wp2_with fail
  refine HM.out.mono ?_
  rintro e w1 ⟨rfl, hw1⟩
  subst w1
  go_wp2
  go_ret
  exact ⟨rfl, rfl⟩
theorem build_reg (W : World) (p : Nat) (me : Int) : (Instr.build 109 #[(0, pt p 0), (1, nu me)]).run Tryz.prog W = .ok (.agg (uregC p (newU me)).toArray) W := by kernel_rfl
set_option maxHeartbeats 2000000 in
theorem unew_ok {n : Nat} {s : List UInt8} (r : RgAt w p s n) {me : Int} (hm : hasB n me = true) : Calls Tryz.prog 34 #[pt p 0, nu me] w fun e w' => e = .returned (.tuple #[pt w.heap.size 0, nu 0]) ∧ UAt w' w.heap.size p (newU me) ∧ Below w.heap.size w w' := by
  have HH := hid (uhas_any r me)
  rw [hm] at HH
  have HB := hid (fun W => build_reg W p me)
  have HU : Hid (UAt (w.alloc (.cells (uregC p (newU me)).toArray 109)) w.heap.size p (newU me)) := ⟨top_obj w _, wfZeroS⟩
  have B0 := hid (below_a1 w (.cells (uregC p (newU me)).toArray 109))
  clear r hm
  generalize uregC p (newU me) = V at *
  go_enter Tryz.func34, Tryz.ntmps34
  go_wp2_with fail
  refine HH.out.mono ?_
  rintro e w1 ⟨rfl, hw1⟩
  subst w1
  go_wp2_with ((with_reducible refine wl_buildY 109 [(0, .tmp 12), (1, .tmp 13)] ?_ ?_ V.toArray ?_ ?_); exact rfl; exact rfl; exact (HB.out _))
  go_ret2
  exact ⟨rfl, HU.out, B0.out⟩
end
open Go Go.RowKit
set_option maxRecDepth 100000
structure RgL (w : World) (p h g b : Nat) (s : List UInt8) (n : Nat) (L : List Ent) : Prop where
  n2 : 2 ≤ n
  n8 : n ≤ 8
  ring : RingAt w p h g b s n L
  kt : Ktab w
  tb : Lay.Tabs w
section
variable {w w' W0 : World} {p h g b n G : Nat} {s : List UInt8} {L L' : List Ent} {U : Ureg}
theorem RgL.rg (r : RgL w p h g b s n L) : RgAt w p s n := ⟨r.n2, r.n8, ⟨h, g, b, L, r.ring⟩, r.kt, r.tb⟩
theorem RgL.kept (r : RgL w p h g b s n L) (hb : Below w.heap.size w w') : RgL w' p h g b s n L := ⟨r.n2, r.n8, r.ring.kept hb, r.kt.stays hb r.kt.pos, r.tb.stays hb⟩
theorem RgL.touch (r : RgL w p h g b s n L) (ht : Touch b w w') (hb : Book w' b L') : RgL w' p h g b s n L' :=
  ⟨r.n2, r.n8, r.ring.grown hb ht, ktab_touch r.kt r.ring.book ht, tabs_touch r.tb r.ring.book ht⟩
theorem UAt.touch {M : List Ent} (u : UAt w G p U) (hk : Book w b M) (ht : Touch b w w') : UAt w' G p U := ⟨row_touch u.row ht (hk.ne u.row), u.wf⟩
theorem touch_but {x : Nat} (ht : Touch b W0 w) (hb : But x w w') (hx : W0.heap.size ≤ x) : Touch b W0 w' :=
  ⟨hb.os.trans ht.os, hb.tape.trans ht.tape, hb.output.trans ht.output, Nat.le_trans ht.size (Nat.le_of_eq hb.size.symm), fun k hk hne => (hb.block k (by omega)).trans (ht.block k hk hne)⟩
theorem zeroDigY : (Tryz.prog.info? 23).map (·.zero) = some (some (.agg (dg zeroD).toArray)) := by kernel_rfl
theorem tag_d (r : RgL w p h g b s n L) (c d : Int) (t : List UInt8) (hm : May n (c, d, t)) (hL : L.length < 1000000) : Calls Tryz.prog 68 #[pt p 0, nu c, nu d, st t] w fun e w1 => e = .returned (.tuple #[.agg (dg (tagB s (c, d, t))).toArray, nu 0]) ∧ (Touch b w w1 ∧ Book w1 b (noteL L (c, d, t))) := by
  rw [dg_cb]
  refine (tag_c r.ring r.n8 c d t hm hL r.kt r.tb).mono ?_
  rintro e w1 ⟨h1, h2, h3⟩
  exact ⟨h1, h3, h2.book⟩
set_option maxHeartbeats 8000000 in
theorem utag_any (u : UAt w G p U) (r : RgL w p h g b s n L) (d : Int) (hd : 1 ≤ d ∧ d ≤ 6) (t : List UInt8) (ht : t.length ≤ 16384) (hme : 0 ≤ U.me ∧ U.me < n) (hL : L.length < 1000000) :
    Calls Tryz.prog 81 #[pt G 0, nu d, st t] w fun e w' => e = .returned (.agg (dg (tagB s (U.me, d, t))).toArray) ∧ Book w' b (noteL L (U.me, d, t)) ∧ Touch b w w' := by
  have hm : May n (U.me, d, t) := ⟨hme.1, hme.2, hd.1, hd.2, ht⟩
  have B0 := below_a1 w (.cells (dg zeroD).toArray 23)
  have T0 := hid (top_obj w (.cells (dg zeroD).toArray 23))
  have r0 := r.kept B0
  have u0 := u.kept B0
  have HTG := hid (fun W (ht : Touch b (w.alloc (.cells (dg zeroD).toArray 23)) W) (hb : Book W b L) => tag_d (r0.touch ht hb) U.me d t hm hL)
  have CG0 := hid (fun W (ht : Touch b (w.alloc (.cells (dg zeroD).toArray 23)) W) => (u0.touch r0.ring.book ht).c0)
  have CG1 := hid (fun W (ht : Touch b (w.alloc (.cells (dg zeroD).toArray 23)) W) => (u0.touch r0.ring.book ht).c1)
  have K0 := hid r0.ring.book
  have HB0 := hid B0
  have lt := tagB_len s (U.me, d, t)
  have ZT := hid (szDY lt)
  have OT := hid (one_dg (tagB s (U.me, d, t)))
  have LT : (dg (tagB s (U.me, d, t))).length = 32 := by rw [dg_len]; exact lt
  have ZD := zeroDigY
  have LZ : (dg zeroD).length = 32 := rfl
  clear hm u r B0 r0 u0 hd ht hme hL
  generalize hL0 : noteL L (U.me, d, t) = L1 at *
  generalize hL1 : L = L0 at *
  generalize hT : tagB s (U.me, d, t) = TG at *
  generalize U.me = me at *
  generalize dg zeroD = Z at *
  generalize dg TG = DT at *
  clear hL0 hL1 hT lt
  go_enter Tryz.func81, Tryz.ntmps81
  go_upto_region 1 with ((with_reducible refine wl_alloc 23 ?_ ?_ Z.toArray ZD ?_); exact rfl; exact rfl)
  simp only [Act.put, List.setIfInBounds_toArray, List.set_cons_zero, List.set_cons_succ]
  generalize w.alloc (.cells Z.toArray 23) = W0 at *
  generalize hX : w.heap.size = X at *
  refine wp_region_nj (N := 24) 14 15 7 23 32 DT W0.heap.size [(pt G 0), (pt G 0), (pt G 0), (pt p 0), (pt G 0), (pt G 0), (pt G 1), (nu me), (nu d), (st t), (.tuple #[(.agg DT.toArray), (nu 0)]), (.tuple #[(.agg DT.toArray), (nu 0)]), (.agg DT.toArray), (nu 0), undef, undef, (nu 0)] (fun L w => Touch b W0 w ∧ Book w b (bif L 10 then L1 else L0)) (fun g => [(10, (pt G 0)), (11, (pt G 0)), (12, (pt G 0)), (13, (pt p 0)), (14, (pt G 0)), (15, (pt G 0)), (16, (pt G 1)), (17, (nu me)), (18, (nu d)), (19, (st t)), (20, (.tuple #[(.agg DT.toArray), (nu 0)])), (9, (.tuple #[(.agg DT.toArray), (nu 0)])), (21, (.agg DT.toArray)), (22, (nu 0)), (7, (pt g 0)), (8, (nu 0))]) (by kernel_rfl) (by kernel_rfl) rfl (by kernel_rfl) (by decide) (by simp) (fun g => by kernel_rfl) (fun w1 hb => ⟨Touch.of hb, K0.out.kept hb⟩) ?_ ?_
  · intro i o ho
    match i, ho with
    | 0, ho => cases ho; exact oweN (pt G 0) (by decide) (by decide) rfl (fun L a w hLi hJ hw hnot hk hv K h => op_move 0 _ rfl (hk 0 (by kernel_rfl)) (h _ hJ (fun _ _ _ e => e)))
    | 1, ho => cases ho; exact oweN (pt G 0) (by decide) (by decide) rfl (fun L a w hLi hJ hw hnot hk hv K h => op_nil 10 G 0 rfl (hv 0 10 (by kernel_rfl) (by decide) (by kernel_rfl)) (h _ hJ (fun _ _ _ e => e)))
    | 2, ho => cases ho; exact oweN (pt G 0) (by decide) (by decide) rfl (fun L a w hLi hJ hw hnot hk hv K h => op_fa 11 _ 0 G 0 0 rfl (fun W => by kernel_rfl) (hv 1 11 (by kernel_rfl) (by decide) (by kernel_rfl)) (h _ hJ (fun _ _ _ e => e)))
    | 3, ho => cases ho; exact oweN (pt p 0) (by decide) (by decide) rfl (fun L a w hLi hJ hw hnot hk hv K h => op_load1 _ (.tmp 12) rfl G 0 (hv 2 12 (by kernel_rfl) (by decide) (by kernel_rfl)) (pt p 0) _ (CG0.out _ hJ.1) Tryz.underlying42 rfl (h _ hJ (fun _ _ _ e => e)))
    | 4, ho => cases ho; exact oweN (pt G 0) (by decide) (by decide) rfl (fun L a w hLi hJ hw hnot hk hv K h => op_move 0 _ rfl (hk 0 (by kernel_rfl)) (h _ hJ (fun _ _ _ e => e)))
    | 5, ho => cases ho; exact oweN (pt G 0) (by decide) (by decide) rfl (fun L a w hLi hJ hw hnot hk hv K h => op_nil 14 G 0 rfl (hv 4 14 (by kernel_rfl) (by decide) (by kernel_rfl)) (h _ hJ (fun _ _ _ e => e)))
    | 6, ho => cases ho; exact oweN (pt G 1) (by decide) (by decide) rfl (fun L a w hLi hJ hw hnot hk hv K h => op_fa 15 _ 1 G 0 1 rfl (fun W => by kernel_rfl) (hv 5 15 (by kernel_rfl) (by decide) (by kernel_rfl)) (h _ hJ (fun _ _ _ e => e)))
    | 7, ho => cases ho; exact oweN (nu me) (by decide) (by decide) rfl (fun L a w hLi hJ hw hnot hk hv K h => op_load1 _ (.tmp 16) rfl G 1 (hv 6 16 (by kernel_rfl) (by decide) (by kernel_rfl)) (nu me) _ (CG1.out _ hJ.1) Tryz.underlying3 rfl (h _ hJ (fun _ _ _ e => e)))
    | 8, ho => cases ho; exact oweN (nu d) (by decide) (by decide) rfl (fun L a w hLi hJ hw hnot hk hv K h => op_move 1 _ rfl (hk 1 (by kernel_rfl)) (h _ hJ (fun _ _ _ e => e)))
    | 9, ho => cases ho; exact oweN (st t) (by decide) (by decide) rfl (fun L a w hLi hJ hw hnot hk hv K h => op_move 2 _ rfl (hk 2 (by kernel_rfl)) (h _ hJ (fun _ _ _ e => e)))
    | 10, ho => cases ho; exact oweN (.tuple #[(.agg DT.toArray), (nu 0)]) (by decide) (by decide) rfl (fun L a w hLi hJ hw hnot hk hv K h => op_call 68 [.tmp 13, .tmp 17, .tmp 18, .tmp 19] _ #[(pt p 0), (nu me), (nu d), (st t)] (.tuple #[(.agg DT.toArray), (nu 0)]) rfl (fun _ _ => by kernel_rfl) (args4 (hv 3 13 (by kernel_rfl) (by decide) (by kernel_rfl)) (hv 7 17 (by kernel_rfl) (by decide) (by kernel_rfl)) (hv 8 18 (by kernel_rfl) (by decide) (by kernel_rfl)) (hv 9 19 (by kernel_rfl) (by decide) (by kernel_rfl))) (J := fun w1 => Touch b w w1 ∧ Book w1 b L1) (HTG.out w hJ.1 (by have e := hJ.2; simp only [hLi, cond_false] at e; exact e)) (fun w1 e1 => h _ ⟨hJ.1.trans e1.1, by show Book w1 b (bif up L 10 10 then L1 else L0); rw [up_self]; exact e1.2⟩ (fun k r _ hr => row_touch hr e1.1 (hJ.2.ne hr))))
    | 11, ho => cases ho; exact oweN (.tuple #[(.agg DT.toArray), (nu 0)]) (by decide) (by decide) rfl (fun L a w hLi hJ hw hnot hk hv K h => op_move 20 _ rfl (hv 10 20 (by kernel_rfl) (by decide) (by kernel_rfl)) (h _ hJ (fun _ _ _ e => e)))
    | 12, ho => cases ho; exact oweN (.agg DT.toArray) (by decide) (by decide) rfl (fun L a w hLi hJ hw hnot hk hv K h => op_extract 9 0 #[(.agg DT.toArray), (nu 0)] _ rfl (hv 11 9 (by kernel_rfl) (by decide) (by kernel_rfl)) rfl (h _ hJ (fun _ _ _ e => e)))
    | 13, ho => cases ho; exact oweN (nu 0) (by decide) (by decide) rfl (fun L a w hLi hJ hw hnot hk hv K h => op_extract 9 1 #[(.agg DT.toArray), (nu 0)] _ rfl (hv 11 9 (by kernel_rfl) (by decide) (by kernel_rfl)) rfl (h _ hJ (fun _ _ _ e => e)))
    | 14, ho => cases ho; exact oweN_alloc rfl Z ZD LZ _ rfl (by kernel_rfl) (by decide) (fun _ _ h => h.1.size) (fun _ w o h => ⟨h.1.trans (Touch.of (below_a1 w o)), h.2.kept (below_a1 w o)⟩)
    | 15, ho => cases ho; exact oweN_store 7 21 rfl rfl (by kernel_rfl) 12 (by kernel_rfl) (by decide) (by kernel_rfl) (by kernel_rfl) rfl LT OT.out ZT.out (fun _ w w2 g _ h hg hr hb => ⟨touch_but h.1 hb hg, h.2.at (hb.block b (Ne.symm (h.2.ne hr)))⟩)
    | 16, ho => cases ho; exact oweN (nu 0) (by decide) (by decide) rfl (fun L a w hLi hJ hw hnot hk hv K h => op_assign 22 _ rfl (hv 13 22 (by kernel_rfl) (by decide) (by kernel_rfl)) (h _ hJ (fun _ _ _ e => e)))
    | (i + 17), ho => exact absurd ho (by simp)
  intro gN LL W1 hgN hrN hall hJ
  simp only [List.foldl_cons, List.foldl_nil, List.setIfInBounds_toArray, List.set_cons_zero, List.set_cons_succ]
  obtain ⟨ht1, hb1⟩ := hJ
  rw [hall 10 (by decide), cond_true] at hb1
  have hXn : X ≠ b := K0.out.ne T0.out
  have T1 := hid (row_touch T0.out ht1 hXn)
  have N1 := hid hrN
  have HT1 := hid ht1
  have HK1 := hid hb1
  clear hrN ht1 hb1 CG0 CG1 HTG K0
  go_wp2_with (first
    | ((with_reducible refine wl_load 23 (.tmp 7) ?_ gN 0 ?_ ?_ DT _ (row_zeroY N1.out) Tryz.underlying23 ?_ ZT.out ?_); exact rfl; exact rfl; exact rfl; exact rfl)
    | ((with_reducible refine wl_put 23 (.tmp 6) (.tmp 23) ?_ ?_ X 0 ?_ ?_ [] DT Z [] ?_ 23 (row_nilY T1.out) rfl (LZ.trans LT.symm) OT.out ZT.out ?_); exact rfl; exact rfl; exact rfl; exact rfl; exact rfl; intro W6 hr6 hbut))
  have hr7 : W6.heap[X]? = some (.cells DT.toArray 23) := by simpa using hr6
  refine bodyPost_ret_by (results_cY (fn := Tryz.f81) (p := 6) (ty := 23) (by kernel_rfl) _ _ X 23 DT.toArray (0, 0) _ rfl hr7 Tryz.underlying23 rfl (by rw [List.size_toArray]; exact ZT.out)) rfl ?_
  refine ⟨rfl, HK1.out.at (hbut.block b (Ne.symm hXn)), ?_⟩
  exact touch_but ((Touch.of (hX ▸ HB0.out)).trans HT1.out) hbut (by omega)
end
end Go.Proofs.YtekfcbedlokidaaGreatDoor.Ms
