/-
  The next Submit ((*ustor.Reg).next), and the message that asks for it (submit).
-/
import Derived.Test.YtekfcbedlokidaaGreatDoorH31
import Derived.Test.YtekfcbedlokidaaGreatDoorH15
namespace Go.Proofs.YtekfcbedlokidaaGreatDoor.Ms
open Go Go.RowKit
set_option maxRecDepth 100000
def cnU (U : Ureg) : Int := (Hist.cnt U.view U.me : Int) + 1
def plainS (U : Ureg) (k t : Int) : Sub := ⟨cnU U, k, t, U.value, zeroD, zeroD⟩
def entA (U : Ureg) (k t : Int) : Ent := (U.me, 1, askB U.me (plainS U k t))
def entD (U : Ureg) : Ent := (U.me, 2, numB (cnU U) ++ layT U.value)
def nextS (s : List UInt8) (U : Ureg) (k t : Int) : Sub := ⟨cnU U, k, t, U.value, tagB s (entA U k t), tagB s (entD U)⟩
def bookN (L : List Ent) (U : Ureg) (k t : Int) : List Ent := noteL (noteL L (entA U k t)) (entD U)
theorem nextS_wf (s : List UInt8) (U : Ureg) (k t : Int) : (nextS s U k t).Wf := ⟨tagB_len _ _, tagB_len _ _⟩
theorem build_sub4 (W : World) (a b c : Int) (v : List UInt8) : (Instr.build 25 #[(0, nu a), (1, nu b), (2, nu c), (3, st v)]).run Tryz.prog W = .ok (.agg (subC ⟨a, b, c, v, zeroD, zeroD⟩).toArray) W := by kernel_rfl
theorem subC_mk (n k t : Int) (v a d : List UInt8) : subC ⟨n, k, t, v, a, d⟩ = [nu n, nu k, nu t, st v] ++ (dg a ++ dg d) := rfl
theorem subC_mk2 (n k t : Int) (v a d : List UInt8) : subC ⟨n, k, t, v, a, d⟩ = ([nu n, nu k, nu t, st v] ++ dg a) ++ (dg d ++ []) := by rw [subC_mk, List.append_nil, List.append_assoc]
theorem noteL_len (L : List Ent) (x : Ent) : (noteL L x).length ≤ L.length + 1 := by unfold noteL; split <;> simp
set_option maxHeartbeats 16000000 in
theorem unext_core {w : World} {b G : Nat} {k tg cn me : Int} {TA TD vl : List UInt8} {V0 V1 V2 D0 D1 D2 A Z : List Value} {L0 L1 L2 : List Ent} (IN : I64 (cn + 1))
    (ZV2 : Hid ((Tryz.prog.info? 25).map (·.size) = some V2.length)) (OV2 : Hid (∀ v ∈ V2, v.oneCell' = true)) (ZV0 : Hid ((Tryz.prog.info? 25).map (·.size) = some V0.length)) (LV0 : V0.length = 68) (OV0 : Hid (∀ v ∈ V0, v.oneCell' = true)) (K0 : Hid (Book w b L0))
    (ZD1 : Hid ((Tryz.prog.info? 23).map (·.size) = some D1.length)) (OD1 : Hid (∀ v ∈ D1, v.oneCell' = true))
    (HT1 : Hid (∀ W, Touch b w W → Book W b L0 → Calls Tryz.prog 81 #[pt G 0, nu 1, st TA] W fun e w' => e = .returned (.agg D1.toArray) ∧ Book w' b L1 ∧ Touch b W w'))
    (ZD2 : Hid ((Tryz.prog.info? 23).map (·.size) = some D2.length)) (OD2 : Hid (∀ v ∈ D2, v.oneCell' = true))
    (HT2 : Hid (∀ W, Touch b w W → Book W b L1 → Calls Tryz.prog 81 #[pt G 0, nu 2, st TD] W fun e w' => e = .returned (.agg D2.toArray) ∧ Book w' b L2 ∧ Touch b W w'))
    (LD1 : D0.length = D1.length) (LD2 : D0.length = D2.length) (hA : A.length = 4) (hA2 : (A ++ D1).length = 36)
    (HV2 : Hid (V2 = (A ++ D1) ++ (D2 ++ []))) (HV0 : Hid (V0 = A ++ (D0 ++ D0))) (HV1 : Hid (V1 = A ++ (D1 ++ D0)))
    (CG1 : Hid (∀ W : World, Touch b w W → W.cell? ⟨G, 1, none⟩ = some (nu me)))
    (HAs : Hid (∀ W, Touch b w W → Calls Tryz.prog 27 #[nu me, .agg V0.toArray] W fun e w' => e = .returned (st TA) ∧ Below W.heap.size W w'))
    (HDa : Hid (∀ W, Touch b w W → Calls Tryz.prog 62 #[nu (cn + 1), st vl] W fun e w' => e = .returned (st TD) ∧ Below W.heap.size W w'))
    (hCS : Hid (∀ (W : World) (y : Nat), W.heap[y]? = some (.cells V1.toArray 25) → W.cell? ⟨y, 0, none⟩ = some (nu (cn + 1)) ∧ W.cell? ⟨y, 3, none⟩ = some (st vl)))
    (HBs : Hid (∀ W, (Instr.build 25 #[(0, nu (cn + 1)), (1, nu k), (2, nu tg), (3, st vl)]).run Tryz.prog W = .ok (.agg V0.toArray) W))
    (B0 : Hid (Below w.heap.size w (w.alloc (.cells Z.toArray 25)))) (T0 : Hid ((w.alloc (.cells Z.toArray 25)).heap[w.heap.size]? = some (.cells Z.toArray 25))) (ZS : (Tryz.prog.info? 25).map (·.zero) = some (some (.agg Z.toArray))) (LZ : Z.length = 68)
    (HNu : Hid (∀ W, Below (w.alloc (.cells Z.toArray 25)).heap.size (w.alloc (.cells Z.toArray 25)) W → Calls Tryz.prog 38 #[pt G 0] W fun e w' => e = .returned (nu cn) ∧ Below W.heap.size W w')) (LV2 : Z.length = V2.length)
    (CG3 : Hid (∀ W : World, Below (w.alloc (.cells Z.toArray 25)).heap.size (w.alloc (.cells Z.toArray 25)) W → W.cell? ⟨G, 3, none⟩ = some (st vl))) :
    Calls Tryz.prog 42 #[pt G 0, nu k, nu tg] w fun e w' => e = .returned (.agg V2.toArray) ∧ Book w' b L2 ∧ Touch b w w' := by
  go_enter Tryz.func42, Tryz.ntmps42
  go_upto_region 1 with ((with_reducible refine wl_alloc 25 ?_ ?_ Z.toArray ZS ?_); exact rfl; exact rfl)
  simp only [Act.put, List.setIfInBounds_toArray, List.set_cons_zero, List.set_cons_succ]
  generalize w.alloc (.cells Z.toArray 25) = W0 at *
  have hs0 : w.heap.size ≤ W0.heap.size := B0.out.size
  generalize hX : w.heap.size = X at *
  refine wp_region_nj (N := 36) 10 11 7 25 68 V0 W0.heap.size [(pt G 0), (nu cn), (nu (cn + 1)), (nu k), (nu tg), (pt G 0), (pt G 0), (pt G 3), (st vl), (.agg V0.toArray), undef, undef] (fun _ w => Below W0.heap.size W0 w) (fun g => [(8, (pt G 0)), (9, (nu cn)), (10, (nu (cn + 1))), (11, (nu k)), (12, (nu tg)), (13, (pt G 0)), (14, (pt G 0)), (15, (pt G 3)), (16, (st vl)), (17, (.agg V0.toArray)), (7, (pt g 0))]) (by kernel_rfl) (by kernel_rfl) rfl (by kernel_rfl) (by decide) (by simp) (fun g => by kernel_rfl) (fun _ h => h) ?_ ?_
  · intro i o ho
    match i, ho with
    | 0, ho => cases ho; exact oweN (pt G 0) (by decide) (by decide) rfl (fun L a w hLi hJ hw hnot hk hv K h => op_move 0 _ rfl (hk 0 (by kernel_rfl)) (h _ hJ (fun _ _ _ e => e)))
    | 1, ho => cases ho; exact oweN (nu cn) (by decide) (by decide) rfl (fun L a w hLi hJ hw hnot hk hv K h => op_call 38 [.tmp 8] _ #[(pt G 0)] (nu cn) rfl (fun _ _ => by kernel_rfl) (args1 (hv 0 8 (by kernel_rfl) (by decide) (by kernel_rfl))) (J := fun w1 => Below w.heap.size w w1) (HNu.out w hJ) (fun w1 e1 => h _ (hJ.trans (e1.mono hJ.size)) (fun _ _ _ e => row_kept e e1)))
    | 2, ho => cases ho; exact oweN (nu (cn + 1)) (by decide) (by decide) rfl (fun L a w hLi hJ hw hnot hk hv K h => op_addC 9 _ _ cn 1 rfl (hv 1 9 (by kernel_rfl) (by decide) (by kernel_rfl)) IN (h _ hJ (fun _ _ _ e => e)))
    | 3, ho => cases ho; exact oweN (nu k) (by decide) (by decide) rfl (fun L a w hLi hJ hw hnot hk hv K h => op_move 1 _ rfl (hk 1 (by kernel_rfl)) (h _ hJ (fun _ _ _ e => e)))
    | 4, ho => cases ho; exact oweN (nu tg) (by decide) (by decide) rfl (fun L a w hLi hJ hw hnot hk hv K h => op_move 2 _ rfl (hk 2 (by kernel_rfl)) (h _ hJ (fun _ _ _ e => e)))
    | 5, ho => cases ho; exact oweN (pt G 0) (by decide) (by decide) rfl (fun L a w hLi hJ hw hnot hk hv K h => op_move 0 _ rfl (hk 0 (by kernel_rfl)) (h _ hJ (fun _ _ _ e => e)))
    | 6, ho => cases ho; exact oweN (pt G 0) (by decide) (by decide) rfl (fun L a w hLi hJ hw hnot hk hv K h => op_nil 13 G 0 rfl (hv 5 13 (by kernel_rfl) (by decide) (by kernel_rfl)) (h _ hJ (fun _ _ _ e => e)))
    | 7, ho => cases ho; exact oweN (pt G 3) (by decide) (by decide) rfl (fun L a w hLi hJ hw hnot hk hv K h => op_fa 14 _ 3 G 0 3 rfl (fun W => by kernel_rfl) (hv 6 14 (by kernel_rfl) (by decide) (by kernel_rfl)) (h _ hJ (fun _ _ _ e => e)))
    | 8, ho => cases ho; exact oweN (st vl) (by decide) (by decide) rfl (fun L a w hLi hJ hw hnot hk hv K h => op_load1 _ (.tmp 15) rfl G 3 (hv 7 15 (by kernel_rfl) (by decide) (by kernel_rfl)) (st vl) _ (CG3.out _ hJ) Tryz.underlying9 rfl (h _ hJ (fun _ _ _ e => e)))
    | 9, ho => cases ho; exact oweN (.agg V0.toArray) (by decide) (by decide) rfl (fun L a w hLi hJ hw hnot hk hv K h => op_buildY _ [(0, .tmp 10), (1, .tmp 11), (2, .tmp 12), (3, .tmp 16)] rfl (.agg V0.toArray) (by have e0 : a.eval (.tmp 10) = (nu (cn + 1)) := (hv 2 10 (by kernel_rfl) (by decide) (by kernel_rfl)); have e1 : a.eval (.tmp 11) = (nu k) := (hv 3 11 (by kernel_rfl) (by decide) (by kernel_rfl)); have e2 : a.eval (.tmp 12) = (nu tg) := (hv 4 12 (by kernel_rfl) (by decide) (by kernel_rfl)); have e3 : a.eval (.tmp 16) = (st vl) := (hv 8 16 (by kernel_rfl) (by decide) (by kernel_rfl)); simp only [List.map_cons, List.map_nil, e0, e1, e2, e3]; exact (HBs.out w)) (h _ hJ (fun _ _ _ e => e)))
    | 10, ho => cases ho; exact oweN_alloc rfl Z ZS LZ _ rfl (by kernel_rfl) (by decide) (fun _ _ h => h.size) (fun _ w o h => h.trans ((below_a1 w o).mono h.size))
    | 11, ho => cases ho; exact oweN_store 7 17 rfl rfl (by kernel_rfl) 9 (by kernel_rfl) (by decide) (by kernel_rfl) (by kernel_rfl) rfl LV0 OV0.out ZV0.out (fun _ w w2 g _ h hg _ hb => hb.below h hg)
    | (i + 12), ho => exact absurd ho (by simp)
  intro Y LL W1 hgN hrN hall hJ
  simp only [List.foldl_cons, List.foldl_nil, List.setIfInBounds_toArray, List.set_cons_zero, List.set_cons_succ]
  have hXl := row_ltA T0.out
  have hYw : Hid (w.heap.size ≤ Y) := by show _ ≤ _; omega
  have hXY : Hid (X ≠ Y) := by show _ ≠ _; omega
  have BW : Below w.heap.size w W1 := (hX ▸ B0.out : Below w.heap.size w W0).trans (hJ.mono (by omega))
  have T1 := hid (row_kept T0.out hJ)
  have N1 := hid hrN
  have HT := hid (Touch.of (p := b) BW)
  have HK := hid (K0.out.kept BW)
  have hbY : Hid (b ≠ Y) := Ne.symm (HK.out.ne N1.out)
  clear hJ hrN BW hgN hXl hall HNu CG3 HBs
  go_upto_region 2 with fail
  refine wp_region_cs (N := 36) [(pt G 0), (pt G 0), (pt G 0), (pt G 1), (nu me), (.agg (V0).toArray), (st TA), (.agg D1.toArray), (pt Y 4), undef] (fun L w' => Touch b w w' ∧ Book w' b (bif L 7 then L1 else L0) ∧ w'.heap[Y]? = some (.cells (bif L 9 then V1 else V0).toArray 25) ∧ w'.heap[X]? = some (.cells Z.toArray 25)) [(18, (pt G 0)), (19, (pt G 0)), (20, (pt G 0)), (21, (pt G 1)), (22, (nu me)), (23, (.agg (V0).toArray)), (24, (st TA)), (25, (.agg D1.toArray)), (26, (pt Y 4))] (by kernel_rfl) (by kernel_rfl) rfl (fun w1 hb => ⟨HT.out.trans (Touch.of hb), HK.out.kept hb, row_kept N1.out hb, row_kept T1.out hb⟩) (by kernel_rfl) ?_ ?_
  · intro i o ho
    match i, ho with
    | 0, ho => cases ho; exact fun L a w hLi hw hnot hJ hk hv K h => op_move 0 _ rfl (hk 0 (by kernel_rfl)) (h _ hJ)
    | 1, ho => cases ho; exact fun L a w hLi hw hnot hJ hk hv K h => op_move 0 _ rfl (hk 0 (by kernel_rfl)) (h _ hJ)
    | 2, ho => cases ho; exact fun L a w hLi hw hnot hJ hk hv K h => op_nil 19 G 0 rfl (hv 1 19 (by kernel_rfl) (by kernel_rfl)) (h _ hJ)
    | 3, ho => cases ho; exact fun L a w hLi hw hnot hJ hk hv K h => op_fa 20 _ 1 G 0 1 rfl (fun W => by kernel_rfl) (hv 2 20 (by kernel_rfl) (by kernel_rfl)) (h _ hJ)
    | 4, ho => cases ho; exact fun L a w hLi hw hnot hJ hk hv K h => op_load1 _ (.tmp 21) rfl G 1 (hv 3 21 (by kernel_rfl) (by kernel_rfl)) (nu me) _ (CG1.out _ hJ.1) Tryz.underlying3 rfl (h _ hJ)
    | 5, ho => cases ho; exact fun L a w hLi hw hnot hJ hk hv K h => op_load _ (.tmp 7) rfl Y 0 (hk 7 (by kernel_rfl)) (V0) _ (row_zeroY (by have e := hJ.2.2.1; have e9 : L 9 = false := hnot 9 _ rfl (by kernel_rfl); simp only [e9, cond_false] at e; exact e)) Tryz.underlying25 rfl ZV0.out (h _ hJ)
    | 6, ho => cases ho; exact fun L a w hLi hw hnot hJ hk hv K h => op_call 27 [.tmp 22, .tmp 23] _ #[(nu me), (.agg (V0).toArray)] (st TA) rfl (fun _ _ => by kernel_rfl) (args2 (hv 4 22 (by kernel_rfl) (by kernel_rfl)) (hv 5 23 (by kernel_rfl) (by kernel_rfl))) (J := fun w1 => Below w.heap.size w w1) (HAs.out w hJ.1) (fun w1 e1 => h _ ⟨hJ.1.trans (Touch.of e1), hJ.2.1.kept e1, row_kept hJ.2.2.1 e1, row_kept hJ.2.2.2 e1⟩)
    | 7, ho => cases ho; exact fun L a w hLi hw hnot hJ hk hv K h => op_call 81 [.tmp 18, .const (nu (1)), .tmp 24] _ #[(pt G 0), (nu (1)), (st TA)] (.agg D1.toArray) rfl (fun _ _ => by kernel_rfl) (args3 (hv 0 18 (by kernel_rfl) (by kernel_rfl)) rfl (hv 6 24 (by kernel_rfl) (by kernel_rfl))) (J := fun w1 => Book w1 b L1 ∧ Touch b w w1) (HT1.out w hJ.1 (by have e := hJ.2.1; simp only [hLi, cond_false] at e; exact e)) (fun w1 e1 => h _ ⟨hJ.1.trans e1.2, (by show Book w1 b (bif up L 7 7 then L1 else L0); rw [up_self]; exact e1.1), row_touch hJ.2.2.1 e1.2 (hJ.2.1.ne hJ.2.2.1), row_touch hJ.2.2.2 e1.2 (hJ.2.1.ne hJ.2.2.2)⟩)
    | 8, ho => cases ho; exact fun L a w hLi hw hnot hJ hk hv K h => op_fa 7 _ 4 Y 0 4 rfl (fun W => by kernel_rfl) (hk 7 (by kernel_rfl)) (h _ hJ)
    | 9, ho => cases ho; exact fun L a w hLi hw hnot hJ hk hv K h => op_put _ 26 25 rfl rfl Y 4 (hv 8 26 (by kernel_rfl) (by kernel_rfl)) A D1 D0 D0 (hv 7 25 (by kernel_rfl) (by kernel_rfl)) _ (by have e := hJ.2.2.1; simp only [hLi, cond_false] at e; rw [HV0.out] at e; exact e) hA LD1 OD1.out ZD1.out (fun w1 hr hb => h _ ⟨touch_but hJ.1 hb hYw.out, hJ.2.1.at (hb.block b hbY.out), (by show w1.heap[Y]? = some (.cells (bif up L 9 9 then V1 else V0).toArray _); rw [up_self]; rw [← HV1.out] at hr; exact hr), hb.row hJ.2.2.2 hXY.out⟩)
    | (i + 10), ho => exact absurd ho (by simp)
  intro LL2 W2 hall2 hJ2
  simp only [List.foldl_cons, List.foldl_nil, List.setIfInBounds_toArray, List.set_cons_zero, List.set_cons_succ]
  obtain ⟨t2, k2, y2, x2⟩ := hJ2
  rw [hall2 7 (by decide), cond_true] at k2
  rw [hall2 9 (by decide), cond_true] at y2
  have c0 := (hCS.out _ _ y2).1
  have c3 := (hCS.out _ _ y2).2
  have T2 := hid t2
  have K2 := hid k2
  have Y2 := hid y2
  have X2 := hid x2
  clear t2 k2 y2 x2 hall2 HT HK N1 T1 HAs HT1 CG1
  go_wp2_with fail
  refine (HDa.out _ T2.out).mono ?_
  rintro e W3 ⟨rfl, b3⟩
  have T3 := hid (T2.out.trans (Touch.of b3))
  have K3 := hid (K2.out.kept b3)
  have Y3 := hid (row_kept Y2.out b3)
  have X3 := hid (row_kept X2.out b3)
  clear b3 c0 c3 T2 K2 Y2 X2
  go_wp2_with fail
  refine (HT2.out _ T3.out K3.out).mono ?_
  rintro e W4 ⟨rfl, k4, t4⟩
  have T4 := hid (T3.out.trans t4)
  have K4 := hid k4
  have X4 := hid (row_touch X3.out t4 (K3.out.ne X3.out))
  have Y4 : Hid (W4.heap[Y]? = some (.cells ((A ++ D1) ++ (D0 ++ [])).toArray 25)) := by
    have e := row_touch Y3.out t4 (K3.out.ne Y3.out)
    rw [HV1.out] at e
    show _ = _
    rw [List.append_nil, List.append_assoc]
    exact e
  clear k4 t4 T3 K3 Y3 X3 HDa HT2
  go_upto_region 4 with ((with_reducible refine wl_put 23 (.tmp 34) (.tmp 33) ?_ ?_ Y 36 ?_ ?_ (A ++ D1) D2 D0 [] ?_ 25 Y4.out hA2 LD2 OD2.out ZD2.out ?_); exact rfl; exact rfl; exact rfl; exact rfl; exact rfl; intro W5 r5 b5)
  rw [← HV2.out] at r5
  have Y5 := hid r5
  have T5 := hid (touch_but T4.out b5 hYw.out)
  have K5 := hid (K4.out.at (b5.block b hbY.out))
  have X5 := hid (b5.row X4.out hXY.out)
  clear r5 b5 T4 K4 X4 Y4
  go_wp2_with (first
    | ((with_reducible refine wl_load 25 (.tmp 7) ?_ Y 0 ?_ ?_ V2 _ (row_zeroY Y5.out) Tryz.underlying25 ?_ ZV2.out ?_); exact rfl; exact rfl; exact rfl; exact rfl)
    | ((with_reducible refine wl_put 25 (.tmp 6) (.tmp 35) ?_ ?_ X 0 ?_ ?_ [] V2 Z [] ?_ 25 (row_nilY X5.out) rfl LV2 OV2.out ZV2.out ?_); exact rfl; exact rfl; exact rfl; exact rfl; exact rfl; intro W6 hr6 hbut))
  have hr7 : W6.heap[X]? = some (.cells V2.toArray 25) := by simpa using hr6
  refine bodyPost_ret_by (results_cY (fn := Tryz.f42) (p := 6) (ty := 25) (by kernel_rfl) _ _ X 25 V2.toArray (0, 0) _ rfl hr7 Tryz.underlying25 rfl (by rw [List.size_toArray]; exact ZV2.out)) rfl ?_
  exact ⟨rfl, K5.out.at (hbut.block b (Ne.symm (K5.out.ne X5.out))), touch_but T5.out hbut (by omega)⟩
section
variable {w : World} {p h g b n G : Nat} {s : List UInt8} {L : List Ent} {U : Ureg}
set_option maxHeartbeats 16000000 in
theorem unext_any (u : UAt w G p U) (r : RgL w p h g b s n L) (k tg : Int) (hv : U.view.length ≤ 140737488351232) (hk : I64 k) (ht : I64 tg) (hme : 0 ≤ U.me ∧ U.me < n) (hL : L.length < 900000)
    (h1 : (askB U.me (plainS U k tg)).length ≤ 16384) (h2 : (numB (cnU U) ++ layT U.value).length ≤ 16384) :
    Calls Tryz.prog 42 #[pt G 0, nu k, nu tg] w fun e w' => e = .returned (.agg (subC (nextS s U k tg)).toArray) ∧ Book w' b (bookN L U k tg) ∧ Touch b w w' := by
  have B0 := hid (below_a1 w (.cells (subC zeroS).toArray 25))
  have T0 := hid (top_obj w (.cells (subC zeroS).toArray 25))
  have hcl := Hist.cnt_le U.view U.me
  have IN : I64 ((Hist.cnt U.view U.me : Int) + 1) := ⟨by omega, by omega⟩
  have hn8 := r.n8
  have IM : I64 U.me := ⟨by omega, by omega⟩
  have HNu := hid (fun W (hb : Below (w.alloc (.cells (subC zeroS).toArray 25)).heap.size (w.alloc (.cells (subC zeroS).toArray 25)) W) => unumber_any ((u.kept B0.out).kept hb) hv)
  have CG3 := hid (fun W (hb : Below (w.alloc (.cells (subC zeroS).toArray 25)).heap.size (w.alloc (.cells (subC zeroS).toArray 25)) W) => ((u.kept B0.out).kept hb).c3)
  have CG1 := hid (fun W (ht : Touch b w W) => (u.touch r.ring.book ht).c1)
  have HBs : Hid (∀ W, (Instr.build 25 #[(0, nu ((Hist.cnt U.view U.me : Int) + 1)), (1, nu k), (2, nu tg), (3, st U.value)]).run Tryz.prog W = .ok (.agg (subC (plainS U k tg)).toArray) W) := fun W => build_sub4 W _ _ _ _
  have HAs : Hid (∀ W, Touch b w W → Calls Tryz.prog 27 #[nu U.me, .agg (subC (plainS U k tg)).toArray] W fun e w' => e = .returned (st (askB U.me (plainS U k tg))) ∧ Below W.heap.size W w') := fun W (ht' : Touch b w W) => asked_any U.me IM (plainS U k tg) ⟨rfl, rfl⟩ ⟨IN, hk, ht⟩ W (tabs_touch r.tb r.ring.book ht')
  have HDa : Hid (∀ W, Touch b w W → Calls Tryz.prog 62 #[nu ((Hist.cnt U.view U.me : Int) + 1), st U.value] W fun e w' => e = .returned (st (numB (cnU U) ++ layT U.value)) ∧ Below W.heap.size W w') := fun W (ht' : Touch b w W) => data_any (cnU U) IN U.value W (tabs_touch r.tb r.ring.book ht')
  have HT1 : Hid (∀ W, Touch b w W → Book W b L → Calls Tryz.prog 81 #[pt G 0, nu 1, st (askB U.me (plainS U k tg))] W fun e w' => e = .returned (.agg (dg (tagB s (entA U k tg))).toArray) ∧ Book w' b (noteL L (entA U k tg)) ∧ Touch b W w') := fun W (ht' : Touch b w W) (hb : Book W b L) => utag_any (u.touch r.ring.book ht') (r.touch ht' hb) 1 ⟨by decide, by decide⟩ (askB U.me (plainS U k tg)) h1 hme (by omega)
  have hl1 := noteL_len L (entA U k tg)
  have HT2 : Hid (∀ W, Touch b w W → Book W b (noteL L (entA U k tg)) → Calls Tryz.prog 81 #[pt G 0, nu 2, st (numB (cnU U) ++ layT U.value)] W fun e w' => e = .returned (.agg (dg (tagB s (entD U))).toArray) ∧ Book w' b (noteL (noteL L (entA U k tg)) (entD U)) ∧ Touch b W w') := fun W (ht' : Touch b w W) (hb : Book W b (noteL L (entA U k tg))) => utag_any (u.touch r.ring.book ht') (r.touch ht' hb) 2 ⟨by decide, by decide⟩ (numB (cnU U) ++ layT U.value) h2 hme (by omega)
  have K0 := hid r.ring.book
  have lA := tagB_len s (entA U k tg)
  have lD := tagB_len s (entD U)
  have LD1 : (dg zeroD).length = (dg (tagB s (entA U k tg))).length := by rw [dg_len, dg_len, lA]; rfl
  have LD2 : (dg zeroD).length = (dg (tagB s (entD U))).length := by rw [dg_len, dg_len, lD]; rfl
  have ZD1 := hid (szDY lA)
  have ZD2 := hid (szDY lD)
  have OD1 := hid (one_dg (tagB s (entA U k tg)))
  have OD2 := hid (one_dg (tagB s (entD U)))
  have ZV0 := hid (szSY (x := plainS U k tg) ⟨rfl, rfl⟩)
  have LV0 := subC_len (x := plainS U k tg) ⟨rfl, rfl⟩
  have OV0 := hid (one_sub (plainS U k tg))
  have W2 := nextS_wf s U k tg
  have ZV2 := hid (szSY W2)
  have LV2 : (subC zeroS).length = (subC (nextS s U k tg)).length := by rw [subC_len W2]; rfl
  have OV2 := hid (one_sub (nextS s U k tg))
  have HV0 : Hid (subC (plainS U k tg) = [nu ((Hist.cnt U.view U.me : Int) + 1), nu k, nu tg, st U.value] ++ (dg zeroD ++ dg zeroD)) := subC_mk _ _ _ _ _ _
  have HV1 : Hid (subC ⟨((Hist.cnt U.view U.me : Int) + 1), k, tg, U.value, tagB s (entA U k tg), zeroD⟩ = [nu ((Hist.cnt U.view U.me : Int) + 1), nu k, nu tg, st U.value] ++ (dg (tagB s (entA U k tg)) ++ dg zeroD)) := subC_mk _ _ _ _ _ _
  have HV2 : Hid (subC (nextS s U k tg) = ([nu ((Hist.cnt U.view U.me : Int) + 1), nu k, nu tg, st U.value] ++ dg (tagB s (entA U k tg))) ++ (dg (tagB s (entD U)) ++ [])) := subC_mk2 _ _ _ _ _ _
  have hA : ([nu ((Hist.cnt U.view U.me : Int) + 1), nu k, nu tg, st U.value] : List Value).length = 4 := rfl
  have hA2 : ([nu ((Hist.cnt U.view U.me : Int) + 1), nu k, nu tg, st U.value] ++ dg (tagB s (entA U k tg))).length = 36 := by simp [dg_len, lA]
  have ZS := zeroSubY
  have LZ : (subC zeroS).length = 68 := rfl
  have hCS : Hid (∀ (W : World) (y : Nat), W.heap[y]? = some (.cells (subC ⟨((Hist.cnt U.view U.me : Int) + 1), k, tg, U.value, tagB s (entA U k tg), zeroD⟩).toArray 25) → W.cell? ⟨y, 0, none⟩ = some (nu ((Hist.cnt U.view U.me : Int) + 1)) ∧ W.cell? ⟨y, 3, none⟩ = some (st U.value)) := fun W y hr => ⟨srow_number hr ⟨lA, rfl⟩, srow_value hr ⟨lA, rfl⟩⟩
  unfold bookN
  exact unext_core IN ZV2 OV2 ZV0 LV0 OV0 K0 ZD1 OD1 HT1 ZD2 OD2 HT2 LD1 LD2 hA hA2 HV2 HV0 HV1 CG1 HAs HDa hCS HBs B0 T0 ZS LZ HNu LV2 CG3
end
open Go Go.RowKit
set_option maxRecDepth 100000
theorem build_msg0 (W : World) : (Instr.build 97 #[]).run Tryz.prog W = .ok (.agg (msgC (zeroM 0 0) (.slice none 0 0) (.slice none 0 0)).toArray) W := by kernel_rfl
theorem zeroM0_wf : (zeroM 0 0).Wf := zeroM_wf 0 0
theorem one_msgN (m : Msg) : ∀ v ∈ msgC m (.slice none 0 0) (.slice none 0 0), v.oneCell' = true := one_msg m _ _ rfl rfl
section
variable {w : World} {p h g b n G : Nat} {s : List UInt8} {L : List Ent} {U : Ureg}
set_option maxHeartbeats 8000000 in
theorem usubmit_core {w : World} {G : Nat} {me : Int} {V MV Z : List Value} (CG1 : Hid (w.cell? ⟨G, 1, none⟩ = some (nu me))) (CG4 : Hid (∀ j v, V[j]? = some v → w.cell? ⟨G, 4 + j, none⟩ = some v)) (ZV : (Tryz.prog.info? 25).map (·.size) = some V.length)
    (HBm : Hid (∀ W, (Instr.build 97 #[(0, nu 1), (1, nu me), (2, .agg V.toArray)]).run Tryz.prog W = .ok (.agg MV.toArray) W)) (ZZ : (Tryz.prog.info? 97).map (·.zero) = some (some (.agg Z.toArray))) (LM : Z.length = MV.length) (OM : Hid (∀ v ∈ MV, v.oneCell' = true)) (ZM : Hid ((Tryz.prog.info? 97).map (·.size) = some MV.length)) :
    Calls Tryz.prog 79 #[pt G 0] w fun e w' => e = .returned (.agg MV.toArray) ∧ Below w.heap.size w w' := by
  have B0 := hid (below_a1 w (.cells Z.toArray 97))
  have T0 := hid (top_obj w (.cells Z.toArray 97))
  go_enter Tryz.func79, Tryz.ntmps79
  go_upto_region 1 with ((with_reducible refine wl_alloc 97 ?_ ?_ Z.toArray ZZ ?_); exact rfl; exact rfl)
  simp only [Act.put, List.setIfInBounds_toArray, List.set_cons_zero, List.set_cons_succ]
  generalize w.alloc (.cells Z.toArray 97) = W0 at *
  generalize hX : w.heap.size = X at *
  refine wp_region_cs (N := 12) [(pt G 0), (pt G 0), (pt G 1), (nu me), (pt G 0), (pt G 0), (pt G 4), (.agg (V).toArray), (.agg MV.toArray), undef] (fun L w' => Below w.heap.size w w' ∧ w'.heap[X]? = some (.cells (bif L 9 then MV else Z).toArray 97)) [(3, (pt G 0)), (4, (pt G 0)), (5, (pt G 1)), (6, (nu me)), (7, (pt G 0)), (8, (pt G 0)), (9, (pt G 4)), (10, (.agg (V).toArray)), (11, (.agg MV.toArray))] (by kernel_rfl) (by kernel_rfl) rfl (fun w1 hb => ⟨(hX ▸ B0.out : Below w.heap.size w W0).trans (hb.mono (hX ▸ B0.out : Below w.heap.size w W0).size), row_kept T0.out hb⟩) (by kernel_rfl) ?_ ?_
  · intro i o ho
    match i, ho with
    | 0, ho => cases ho; exact fun L a w hLi hw hnot hJ hk hv K h => op_move 0 _ rfl (hk 0 (by kernel_rfl)) (h _ hJ)
    | 1, ho => cases ho; exact fun L a w hLi hw hnot hJ hk hv K h => op_nil 3 G 0 rfl (hv 0 3 (by kernel_rfl) (by kernel_rfl)) (h _ hJ)
    | 2, ho => cases ho; exact fun L a w hLi hw hnot hJ hk hv K h => op_fa 4 _ 1 G 0 1 rfl (fun W => by kernel_rfl) (hv 1 4 (by kernel_rfl) (by kernel_rfl)) (h _ hJ)
    | 3, ho => cases ho; exact fun L a w hLi hw hnot hJ hk hv K h => op_load1 _ (.tmp 5) rfl G 1 (hv 2 5 (by kernel_rfl) (by kernel_rfl)) (nu me) _ (cell_keptY CG1.out hJ.1) Tryz.underlying3 rfl (h _ hJ)
    | 4, ho => cases ho; exact fun L a w hLi hw hnot hJ hk hv K h => op_move 0 _ rfl (hk 0 (by kernel_rfl)) (h _ hJ)
    | 5, ho => cases ho; exact fun L a w hLi hw hnot hJ hk hv K h => op_nil 7 G 0 rfl (hv 4 7 (by kernel_rfl) (by kernel_rfl)) (h _ hJ)
    | 6, ho => cases ho; exact fun L a w hLi hw hnot hJ hk hv K h => op_fa 8 _ 4 G 0 4 rfl (fun W => by kernel_rfl) (hv 5 8 (by kernel_rfl) (by kernel_rfl)) (h _ hJ)
    | 7, ho => cases ho; exact fun L a w hLi hw hnot hJ hk hv K h => op_load _ (.tmp 9) rfl G 4 (hv 6 9 (by kernel_rfl) (by kernel_rfl)) (V) _ (seg_keptY CG4.out hJ.1) Tryz.underlying25 rfl ZV (h _ hJ)
    | 8, ho => cases ho; exact fun L a w hLi hw hnot hJ hk hv K h => op_buildY _ [(0, .const (nu (1))), (1, .tmp 6), (2, .tmp 10)] rfl (.agg MV.toArray) (by have e1 : a.eval (.tmp 6) = (nu me) := (hv 3 6 (by kernel_rfl) (by kernel_rfl)); have e2 : a.eval (.tmp 10) = (.agg (V).toArray) := (hv 7 10 (by kernel_rfl) (by kernel_rfl)); simp only [List.map_cons, List.map_nil, e1, e2]; exact (HBm.out w)) (h _ hJ)
    | 9, ho => cases ho; exact fun L a w hLi hw hnot hJ hk hv K h => op_put _ 2 11 rfl rfl X 0 (hk 2 (by kernel_rfl)) [] MV Z [] (hv 8 11 (by kernel_rfl) (by kernel_rfl)) _ (row_nilY (by have e := hJ.2; simp only [hLi, cond_false] at e; exact e)) rfl LM OM.out ZM.out (fun w1 hr hb => h _ ⟨hb.below hJ.1 (by omega), (by show w1.heap[X]? = some (.cells (bif up L 9 9 then MV else Z).toArray _); rw [up_self]; simpa using hr)⟩)
    | (i + 10), ho => exact absurd ho (by simp)
  intro LL W1 hall hJ
  simp only [List.foldl_cons, List.foldl_nil, List.setIfInBounds_toArray, List.set_cons_zero, List.set_cons_succ]
  obtain ⟨b1, r1⟩ := hJ
  rw [hall 9 (by decide), cond_true] at r1
  have R1 := hid r1
  have B1 := hid b1
  clear r1 b1
  go_wp2
  refine bodyPost_ret_by (results_cY (fn := Tryz.f79) (p := 2) (ty := 97) (by kernel_rfl) _ _ X 97 MV.toArray (0, 0) _ rfl R1.out Tryz.underlying97 rfl (by rw [List.size_toArray]; exact ZM.out)) rfl ?_
  exact ⟨rfl, B1.out⟩
theorem usubmit_any (u : UAt w G p U) : Calls Tryz.prog 79 #[pt G 0] w fun e w' => e = .returned (.agg (msgC (subM U.me U.asked) (.slice none 0 0) (.slice none 0 0)).toArray) ∧ Below w.heap.size w w' :=
  usubmit_core u.c1 u.c4 (szSY u.wf) (fun W => build_subm W U.me U.asked u.wf) zeroMsg (by rw [msgC_len zeroM0_wf, msgC_len (vsub_wf u.wf)]) (one_msgN _) (szMY (vsub_wf u.wf) _ _)
set_option maxHeartbeats 4000000 in
theorem urefuses_ok (u : UAt w G p U) (r : RgAt w p s n) (hm : hasB n U.me = true) (v : List UInt8) (hv : v.length ≤ 256) (hw : U.view.length < 512) :
    Calls Tryz.prog 78 #[pt G 0, nu 1, nu U.me, st v] w fun e w' => e = .returned (nu 0) ∧ w' = w := by
  have HH := hid (uhas_any r U.me)
  rw [hm] at HH
  have c0 := u.c0
  have c1 := u.c1
  have c2 := u.c2
  have hz : (⟨v.toArray⟩ : ByteArray).size = v.length := rfl
  have hz2 : (⟨U.view.toArray⟩ : ByteArray).size = U.view.length := rfl
  have d1 : decide ((256 : Int) < (v.length : Int)) = false := decide_eq_false (by omega)
  have d2 : decide ((512 : Int) ≤ (U.view.length : Int)) = false := decide_eq_false (by omega)
  have d3 : decide (256 < v.length) = false := decide_eq_false (by omega)
  have d4 : decide (512 ≤ U.view.length) = false := decide_eq_false (by omega)
  clear u r hm
  go_enter Tryz.func78, Tryz.ntmps78
  go_wp2_with fail
  refine HH.out.mono ?_
  rintro e w1 ⟨rfl, hw1⟩
  subst w1
  go_wp2
  go_ret
  exact ⟨rfl, rfl⟩
end
end Go.Proofs.YtekfcbedlokidaaGreatDoor.Ms
