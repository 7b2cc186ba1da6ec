/-
  The reference's next operation waits ((*R15.Reg).set).
-/
import Derived.Test.YtekfcbedlokidaaGreatDoorH35
import Derived.Test.YtekfcbedlokidaaGreatDoorZla
import Derived.Test.YtekfcbedlokidaaGreatDoorQtag
import Derived.Test.YtekfcbedlokidaaGreatDoorH32
namespace Go.Proofs.YtekfcbedlokidaaGreatDoor.Ms
open Go Go.RowKit
set_option maxRecDepth 100000
theorem cond_mono {b : Bool} {p q p' q' : Prop} (h1 : p → p') (h2 : q → q') (h : cond b p q) : cond b p' q' := by
  cases b
  · exact h2 h
  · exact h1 h
theorem kp_touch {x G : Nat} {w w' : World} (h : Touch x w w') : Kp [x, G] w w' := ⟨h.os, h.tape, h.output, h.size, fun k hk hn => h.block k hk (fun e => hn (by simp [e]))⟩
theorem build_line (W : World) (a b : Int) (t : List UInt8) : (Instr.build 166 #[(0, nu a), (1, nu b), (2, st t)]).run Tryz.prog W = .ok (.agg #[nu a, nu b, st t]) W := by kernel_rfl
set_option maxHeartbeats 16000000 in
theorem rset_core {w : World} {x G : Nat} {k tg cn me : Int} {TA TD vl vw : List UInt8} {V0 V1 V2 D0 D1 D2 A Z ZD0 R0 R1 R2 A3 C3 A4 C4 : List Value} {o3 : Value} {RA RB RC : World → Prop} (IN : I64 (cn + 1)) (hGw : G < w.heap.size) (hxw : x < w.heap.size) (hGx : G ≠ x)
    (kA : Hid (∀ W W', RA W → Below W.heap.size W W' → RA W')) (kB : Hid (∀ W W', RB W → Below W.heap.size W W' → RB W')) (kC : Hid (∀ W W', RC W → Below W.heap.size W W' → RC W'))
    (sA : Hid (∀ W W' g r, RA W → W.heap[g]? = some (.cells r 23) → But g W W' → g ≠ x → RA W')) (sB : Hid (∀ W W' g r, RB W → W.heap[g]? = some (.cells r 23) → But g W W' → g ≠ x → RB W')) (sC : Hid (∀ W W' g r, RC W → W.heap[g]? = some (.cells r 23) → But g W W' → g ≠ x → RC W'))
    (K0 : Hid (RA w)) (G0 : Hid (w.heap[G]? = some (.cells R0.toArray 56)))
    (CR : Hid (∀ W : World, W.heap[G]? = some (.cells R0.toArray 56) → W.cell? ⟨G, 0, none⟩ = some (pt x 0) ∧ W.cell? ⟨G, 1, none⟩ = some (nu me))) (CR2 : Hid (∀ W : World, W.heap[G]? = some (.cells R0.toArray 56) → W.cell? ⟨G, 2, none⟩ = some (st vw)))
    (HCn : Hid (∀ W, Calls Tryz.prog 46 #[st vw, nu me] W fun e w' => e = .returned (nu cn) ∧ Below W.heap.size W w'))
    (HAs : Hid (∀ W, Calls Tryz.prog 69 #[nu me, .agg V0.toArray] W fun e w' => e = .returned (st TA) ∧ Below W.heap.size W w'))
    (HNb : Hid (∀ W, Calls Tryz.prog 70 #[nu (cn + 1), st vl] W fun e w' => e = .returned (st TD) ∧ Below W.heap.size W w'))
    (HT1 : Hid (∀ W, RA W → Calls Tryz.prog 87 #[pt x 0, .agg #[nu me, nu 1, st TA]] W fun e w' => e = .returned (.tuple #[.agg D1.toArray, nu 0]) ∧ RB w' ∧ Touch x W w'))
    (HT2 : Hid (∀ W, RB W → Calls Tryz.prog 87 #[pt x 0, .agg #[nu me, nu 2, st TD]] W fun e w' => e = .returned (.tuple #[.agg D2.toArray, nu 0]) ∧ RC w' ∧ Touch x W w'))
    (HBs : Hid (∀ W, (Instr.build 25 #[(0, nu (cn + 1)), (1, nu k), (2, nu tg), (3, st vl)]).run Tryz.prog W = .ok (.agg V0.toArray) W))
    (HL1 : Hid (∀ W, (Instr.build 166 #[(0, nu me), (1, nu 1), (2, st TA)]).run Tryz.prog W = .ok (.agg #[nu me, nu 1, st TA]) W)) (HL2 : Hid (∀ W, (Instr.build 166 #[(0, nu me), (1, nu 2), (2, st TD)]).run Tryz.prog W = .ok (.agg #[nu me, nu 2, st TD]) W))
    (CYv : Hid (∀ (W : World) (Y : Nat), W.heap[Y]? = some (.cells V0.toArray 25) → W.cell? ⟨Y, 0, none⟩ = some (nu (cn + 1)) ∧ W.cell? ⟨Y, 3, none⟩ = some (st vl)))
    (ZS : (Tryz.prog.info? 25).map (·.zero) = some (some (.agg Z.toArray))) (LZ : Z.length = 68) (LV0 : V0.length = 68) (OV0 : Hid (∀ v ∈ V0, v.oneCell' = true)) (ZV0 : Hid ((Tryz.prog.info? 25).map (·.size) = some V0.length))
    (ZD : (Tryz.prog.info? 23).map (·.zero) = some (some (.agg ZD0.toArray))) (LZD : ZD0.length = 32) (LD1 : D1.length = 32) (OD1 : Hid (∀ v ∈ D1, v.oneCell' = true)) (ZD1 : Hid ((Tryz.prog.info? 23).map (·.size) = some D1.length)) (LD2 : D2.length = 32) (OD2 : Hid (∀ v ∈ D2, v.oneCell' = true)) (ZD2 : Hid ((Tryz.prog.info? 23).map (·.size) = some D2.length))
    (HV0 : Hid (V0 = A ++ (D0 ++ D0))) (HV1 : Hid (V1 = A ++ (D1 ++ D0))) (HV1b : Hid (V1 = (A ++ D1) ++ (D0 ++ []))) (HV2 : Hid (V2 = (A ++ D1) ++ (D2 ++ []))) (hA : A.length = 4) (hA2 : (A ++ D1).length = 36) (LD0 : D0.length = 32) (ZV2 : Hid ((Tryz.prog.info? 25).map (·.size) = some V2.length)) (OV2 : Hid (∀ v ∈ V2, v.oneCell' = true))
    (HR0 : Hid (R0 = A3 ++ ([o3] ++ C3))) (HR1 : Hid (R1 = A3 ++ ([st vl] ++ C3))) (HR1b : Hid (R1 = A4 ++ (C4 ++ []))) (HR2 : Hid (R2 = A4 ++ (V2 ++ []))) (hA3 : A3.length = 3) (hA4 : A4.length = 4) (LC4 : C4.length = V2.length) :
    Calls Tryz.prog 48 #[pt G 0, nu k, nu tg, st vl] w fun e w' => e = .returned (.tuple #[]) ∧ w'.heap[G]? = some (.cells R2.toArray 56) ∧ Kp [x, G] w w' := by
  have CG : Hid (∀ W : World, Below w.heap.size w W → W.cell? ⟨G, 0, none⟩ = some (pt x 0) ∧ W.cell? ⟨G, 1, none⟩ = some (nu me) ∧ W.cell? ⟨G, 2, none⟩ = some (st vw)) := fun W hb => by
    have g := row_kept G0.out hb
    exact ⟨(CR.out _ g).1, (CR.out _ g).2, CR2.out _ g⟩
  go_enter Tryz.func48, Tryz.ntmps48
  go_upto_region 0 with fail
  refine wp_region_nj (N := 76) 14 15 8 25 68 V0 w.heap.size [(pt G 0), (pt G 0), (pt G 2), (st vw), (pt G 0), (pt G 0), (pt G 1), (nu me), (nu cn), (nu (cn + 1)), (nu k), (nu tg), (st vl), (.agg V0.toArray), undef, undef] (fun _ W => Below w.heap.size w W) (fun g => [(13, (pt G 0)), (14, (pt G 0)), (15, (pt G 2)), (16, (st vw)), (17, (pt G 0)), (18, (pt G 0)), (19, (pt G 1)), (20, (nu me)), (21, (nu cn)), (22, (nu (cn + 1))), (23, (nu k)), (24, (nu tg)), (25, (st vl)), (26, (.agg V0.toArray)), (8, (pt g 0))]) (by kernel_rfl) (by kernel_rfl) rfl (by kernel_rfl) (by decide) (by simp) (fun g => by kernel_rfl) (fun _ h => h) ?_ ?_
  · intro i o ho
    match i, ho with
    | 0, ho => cases ho; exact oweN (pt G 0) (by decide) (by decide) rfl (fun L a w hLi hJ hw hnot hk hv K h => op_move 0 _ rfl (hk 0 (by kernel_rfl)) (h _ hJ (fun _ _ _ e => e)))
    | 1, ho => cases ho; exact oweN (pt G 0) (by decide) (by decide) rfl (fun L a w hLi hJ hw hnot hk hv K h => op_nil 13 G 0 rfl (hv 0 13 (by kernel_rfl) (by decide) (by kernel_rfl)) (h _ hJ (fun _ _ _ e => e)))
    | 2, ho => cases ho; exact oweN (pt G 2) (by decide) (by decide) rfl (fun L a w hLi hJ hw hnot hk hv K h => op_fa 14 _ 2 G 0 2 rfl (fun W => by kernel_rfl) (hv 1 14 (by kernel_rfl) (by decide) (by kernel_rfl)) (h _ hJ (fun _ _ _ e => e)))
    | 3, ho => cases ho; exact oweN (st vw) (by decide) (by decide) rfl (fun L a w hLi hJ hw hnot hk hv K h => op_load1 _ (.tmp 15) rfl G 2 (hv 2 15 (by kernel_rfl) (by decide) (by kernel_rfl)) (st vw) _ (CG.out _ hJ).2.2 Tryz.underlying9 rfl (h _ hJ (fun _ _ _ e => e)))
    | 4, ho => cases ho; exact oweN (pt G 0) (by decide) (by decide) rfl (fun L a w hLi hJ hw hnot hk hv K h => op_move 0 _ rfl (hk 0 (by kernel_rfl)) (h _ hJ (fun _ _ _ e => e)))
    | 5, ho => cases ho; exact oweN (pt G 0) (by decide) (by decide) rfl (fun L a w hLi hJ hw hnot hk hv K h => op_nil 17 G 0 rfl (hv 4 17 (by kernel_rfl) (by decide) (by kernel_rfl)) (h _ hJ (fun _ _ _ e => e)))
    | 6, ho => cases ho; exact oweN (pt G 1) (by decide) (by decide) rfl (fun L a w hLi hJ hw hnot hk hv K h => op_fa 18 _ 1 G 0 1 rfl (fun W => by kernel_rfl) (hv 5 18 (by kernel_rfl) (by decide) (by kernel_rfl)) (h _ hJ (fun _ _ _ e => e)))
    | 7, ho => cases ho; exact oweN (nu me) (by decide) (by decide) rfl (fun L a w hLi hJ hw hnot hk hv K h => op_load1 _ (.tmp 19) rfl G 1 (hv 6 19 (by kernel_rfl) (by decide) (by kernel_rfl)) (nu me) _ (CG.out _ hJ).2.1 Tryz.underlying3 rfl (h _ hJ (fun _ _ _ e => e)))
    | 8, ho => cases ho; exact oweN (nu cn) (by decide) (by decide) rfl (fun L a w hLi hJ hw hnot hk hv K h => op_call 46 [.tmp 16, .tmp 20] _ #[(st vw), (nu me)] (nu cn) rfl (fun _ _ => by kernel_rfl) (args2 (hv 3 16 (by kernel_rfl) (by decide) (by kernel_rfl)) (hv 7 20 (by kernel_rfl) (by decide) (by kernel_rfl))) (J := fun w1 => Below w.heap.size w w1) (HCn.out w) (fun w1 e1 => h _ (hJ.trans (e1.mono hJ.size)) (fun _ _ _ e => row_kept e e1)))
    | 9, ho => cases ho; exact oweN (nu (cn + 1)) (by decide) (by decide) rfl (fun L a w hLi hJ hw hnot hk hv K h => op_addC 21 _ _ cn 1 rfl (hv 8 21 (by kernel_rfl) (by decide) (by kernel_rfl)) IN (h _ hJ (fun _ _ _ e => e)))
    | 10, ho => cases ho; exact oweN (nu k) (by decide) (by decide) rfl (fun L a w hLi hJ hw hnot hk hv K h => op_move 1 _ rfl (hk 1 (by kernel_rfl)) (h _ hJ (fun _ _ _ e => e)))
    | 11, ho => cases ho; exact oweN (nu tg) (by decide) (by decide) rfl (fun L a w hLi hJ hw hnot hk hv K h => op_move 2 _ rfl (hk 2 (by kernel_rfl)) (h _ hJ (fun _ _ _ e => e)))
    | 12, ho => cases ho; exact oweN (st vl) (by decide) (by decide) rfl (fun L a w hLi hJ hw hnot hk hv K h => op_move 3 _ rfl (hk 3 (by kernel_rfl)) (h _ hJ (fun _ _ _ e => e)))
    | 13, ho => cases ho; exact oweN (.agg V0.toArray) (by decide) (by decide) rfl (fun L a w hLi hJ hw hnot hk hv K h => op_buildY _ [(0, .tmp 22), (1, .tmp 23), (2, .tmp 24), (3, .tmp 25)] rfl (.agg V0.toArray) (by have e0 : a.eval (.tmp 22) = (nu (cn + 1)) := (hv 9 22 (by kernel_rfl) (by decide) (by kernel_rfl)); have e1 : a.eval (.tmp 23) = (nu k) := (hv 10 23 (by kernel_rfl) (by decide) (by kernel_rfl)); have e2 : a.eval (.tmp 24) = (nu tg) := (hv 11 24 (by kernel_rfl) (by decide) (by kernel_rfl)); have e3 : a.eval (.tmp 25) = (st vl) := (hv 12 25 (by kernel_rfl) (by decide) (by kernel_rfl)); simp only [List.map_cons, List.map_nil, e0, e1, e2, e3]; exact (HBs.out w)) (h _ hJ (fun _ _ _ e => e)))
    | 14, ho => cases ho; exact oweN_alloc rfl Z ZS LZ _ rfl (by kernel_rfl) (by decide) (fun _ _ h => h.size) (fun _ w o h => h.trans ((below_a1 w o).mono h.size))
    | 15, ho => cases ho; exact oweN_store 8 26 rfl rfl (by kernel_rfl) 13 (by kernel_rfl) (by decide) (by kernel_rfl) (by kernel_rfl) rfl LV0 OV0.out ZV0.out (fun _ w w2 g _ h hg _ hb => hb.below h hg)
    | (i + 16), ho => exact absurd ho (by simp)
  intro Y LL W1 hgN hrN hall hJ
  simp only [List.foldl_cons, List.foldl_nil, List.setIfInBounds_toArray, List.set_cons_zero, List.set_cons_succ]
  have hYl := row_ltA hrN
  have hWB : w.heap.size ≤ W1.heap.size := hJ.size
  have N1 := hid hrN
  have T1 := hid (Touch.of (p := x) hJ)
  have K1 := hid (kA.out _ _ K0.out hJ)
  have G1 := hid (row_kept G0.out hJ)
  have CY := hid (fun W (hr : W.heap[Y]? = some (.cells V0.toArray 25)) => CYv.out W Y hr)
  clear hrN hJ hall K0 G0 CG HCn HBs CR2
  go_upto_region 1 with fail
  refine wp_region_nj (N := 76) 19 20 9 23 32 D1 W1.heap.size [(pt G 0), (pt G 0), (pt G 0), (pt x 0), (pt G 0), (pt G 0), (pt G 1), (nu me), (pt G 0), (pt G 0), (pt G 1), (nu me), (.agg (V0).toArray), (st TA), (.agg #[nu me, nu 1, st TA]), (.tuple #[(.agg D1.toArray), (nu 0)]), (.tuple #[(.agg D1.toArray), (nu 0)]), (.agg D1.toArray), (nu 0), undef, undef, (nu 0)] (fun L W => Touch x W1 W ∧ (cond (L 15) (RB W) (RA W)) ∧ W.heap[Y]? = some (.cells V0.toArray 25) ∧ W.heap[G]? = some (.cells R0.toArray 56)) (fun g => [(28, (pt G 0)), (29, (pt G 0)), (30, (pt G 0)), (31, (pt x 0)), (32, (pt G 0)), (33, (pt G 0)), (34, (pt G 1)), (35, (nu me)), (36, (pt G 0)), (37, (pt G 0)), (38, (pt G 1)), (39, (nu me)), (40, (.agg (V0).toArray)), (41, (st TA)), (42, (.agg #[nu me, nu 1, st TA])), (43, (.tuple #[(.agg D1.toArray), (nu 0)])), (27, (.tuple #[(.agg D1.toArray), (nu 0)])), (44, (.agg D1.toArray)), (45, (nu 0)), (9, (pt g 0)), (10, (nu 0))]) (by kernel_rfl) (by kernel_rfl) rfl (by kernel_rfl) (by decide) (by simp) (fun g => by kernel_rfl) (fun w1 hb => ⟨Touch.of hb, kA.out _ _ K1.out hb, row_kept N1.out hb, row_kept G1.out hb⟩) ?_ ?_
  · intro i o ho
    match i, ho with
    | 0, ho => cases ho; exact oweN (pt G 0) (by decide) (by decide) rfl (fun L a w hLi hJ hw hnot hk hv K h => op_move 0 _ rfl (hk 0 (by kernel_rfl)) (h _ hJ (fun _ _ _ e => e)))
    | 1, ho => cases ho; exact oweN (pt G 0) (by decide) (by decide) rfl (fun L a w hLi hJ hw hnot hk hv K h => op_nil 28 G 0 rfl (hv 0 28 (by kernel_rfl) (by decide) (by kernel_rfl)) (h _ hJ (fun _ _ _ e => e)))
    | 2, ho => cases ho; exact oweN (pt G 0) (by decide) (by decide) rfl (fun L a w hLi hJ hw hnot hk hv K h => op_fa 29 _ 0 G 0 0 rfl (fun W => by kernel_rfl) (hv 1 29 (by kernel_rfl) (by decide) (by kernel_rfl)) (h _ hJ (fun _ _ _ e => e)))
    | 3, ho => cases ho; exact oweN (pt x 0) (by decide) (by decide) rfl (fun L a w hLi hJ hw hnot hk hv K h => op_load1 _ (.tmp 30) rfl G 0 (hv 2 30 (by kernel_rfl) (by decide) (by kernel_rfl)) (pt x 0) _ (CR.out _ hJ.2.2.2).1 Tryz.underlying45 rfl (h _ hJ (fun _ _ _ e => e)))
    | 4, ho => cases ho; exact oweN (pt G 0) (by decide) (by decide) rfl (fun L a w hLi hJ hw hnot hk hv K h => op_move 0 _ rfl (hk 0 (by kernel_rfl)) (h _ hJ (fun _ _ _ e => e)))
    | 5, ho => cases ho; exact oweN (pt G 0) (by decide) (by decide) rfl (fun L a w hLi hJ hw hnot hk hv K h => op_nil 32 G 0 rfl (hv 4 32 (by kernel_rfl) (by decide) (by kernel_rfl)) (h _ hJ (fun _ _ _ e => e)))
    | 6, ho => cases ho; exact oweN (pt G 1) (by decide) (by decide) rfl (fun L a w hLi hJ hw hnot hk hv K h => op_fa 33 _ 1 G 0 1 rfl (fun W => by kernel_rfl) (hv 5 33 (by kernel_rfl) (by decide) (by kernel_rfl)) (h _ hJ (fun _ _ _ e => e)))
    | 7, ho => cases ho; exact oweN (nu me) (by decide) (by decide) rfl (fun L a w hLi hJ hw hnot hk hv K h => op_load1 _ (.tmp 34) rfl G 1 (hv 6 34 (by kernel_rfl) (by decide) (by kernel_rfl)) (nu me) _ (CR.out _ hJ.2.2.2).2 Tryz.underlying3 rfl (h _ hJ (fun _ _ _ e => e)))
    | 8, ho => cases ho; exact oweN (pt G 0) (by decide) (by decide) rfl (fun L a w hLi hJ hw hnot hk hv K h => op_move 0 _ rfl (hk 0 (by kernel_rfl)) (h _ hJ (fun _ _ _ e => e)))
    | 9, ho => cases ho; exact oweN (pt G 0) (by decide) (by decide) rfl (fun L a w hLi hJ hw hnot hk hv K h => op_nil 36 G 0 rfl (hv 8 36 (by kernel_rfl) (by decide) (by kernel_rfl)) (h _ hJ (fun _ _ _ e => e)))
    | 10, ho => cases ho; exact oweN (pt G 1) (by decide) (by decide) rfl (fun L a w hLi hJ hw hnot hk hv K h => op_fa 37 _ 1 G 0 1 rfl (fun W => by kernel_rfl) (hv 9 37 (by kernel_rfl) (by decide) (by kernel_rfl)) (h _ hJ (fun _ _ _ e => e)))
    | 11, ho => cases ho; exact oweN (nu me) (by decide) (by decide) rfl (fun L a w hLi hJ hw hnot hk hv K h => op_load1 _ (.tmp 38) rfl G 1 (hv 10 38 (by kernel_rfl) (by decide) (by kernel_rfl)) (nu me) _ (CR.out _ hJ.2.2.2).2 Tryz.underlying3 rfl (h _ hJ (fun _ _ _ e => e)))
    | 12, ho => cases ho; exact oweN (.agg (V0).toArray) (by decide) (by decide) rfl (fun L a w hLi hJ hw hnot hk hv K h => op_load _ (.tmp 8) rfl Y 0 (hk 8 (by kernel_rfl)) (V0) _ (row_zeroY hJ.2.2.1) Tryz.underlying25 rfl ZV0.out (h _ hJ (fun _ _ _ e => e)))
    | 13, ho => cases ho; exact oweN (st TA) (by decide) (by decide) rfl (fun L a w hLi hJ hw hnot hk hv K h => op_call 69 [.tmp 39, .tmp 40] _ #[(nu me), (.agg (V0).toArray)] (st TA) rfl (fun _ _ => by kernel_rfl) (args2 (hv 11 39 (by kernel_rfl) (by decide) (by kernel_rfl)) (hv 12 40 (by kernel_rfl) (by decide) (by kernel_rfl))) (J := fun w1 => Below w.heap.size w w1) (HAs.out w) (fun w1 e1 => h _ ⟨hJ.1.trans (Touch.of e1), cond_mono (kB.out _ _ · e1) (kA.out _ _ · e1) hJ.2.1, row_kept hJ.2.2.1 e1, row_kept hJ.2.2.2 e1⟩ (fun _ _ _ e => row_kept e e1)))
    | 14, ho => cases ho; exact oweN (.agg #[nu me, nu 1, st TA]) (by decide) (by decide) rfl (fun L a w hLi hJ hw hnot hk hv K h => op_buildY _ [(0, .tmp 35), (1, .const (nu (1))), (2, .tmp 41)] rfl (.agg #[nu me, nu 1, st TA]) (by have e0 : a.eval (.tmp 35) = (nu me) := (hv 7 35 (by kernel_rfl) (by decide) (by kernel_rfl)); have e2 : a.eval (.tmp 41) = (st TA) := (hv 13 41 (by kernel_rfl) (by decide) (by kernel_rfl)); simp only [List.map_cons, List.map_nil, e0, e2]; exact (HL1.out w)) (h _ hJ (fun _ _ _ e => e)))
    | 15, ho => cases ho; exact oweN (.tuple #[(.agg D1.toArray), (nu 0)]) (by decide) (by decide) rfl (fun L a w hLi hJ hw hnot hk hv K h => op_call 87 [.tmp 31, .tmp 42] _ #[(pt x 0), (.agg #[nu me, nu 1, st TA])] (.tuple #[(.agg D1.toArray), (nu 0)]) rfl (fun _ _ => by kernel_rfl) (args2 (hv 3 31 (by kernel_rfl) (by decide) (by kernel_rfl)) (hv 14 42 (by kernel_rfl) (by decide) (by kernel_rfl))) (J := fun w1 => RB w1 ∧ Touch x w w1) (HT1.out w (by have e := hJ.2.1; simp only [hLi, cond_false] at e; exact e)) (fun w1 e1 => h _ ⟨hJ.1.trans e1.2, (by show cond (up L 15 15) (RB w1) (RA w1); rw [up_self]; exact e1.1), row_touch hJ.2.2.1 e1.2 (by omega), row_touch hJ.2.2.2 e1.2 hGx⟩ (fun k r hk9 hr9 => row_touch hr9 e1.2 (by omega))))
    | 16, ho => cases ho; exact oweN (.tuple #[(.agg D1.toArray), (nu 0)]) (by decide) (by decide) rfl (fun L a w hLi hJ hw hnot hk hv K h => op_move 43 _ rfl (hv 15 43 (by kernel_rfl) (by decide) (by kernel_rfl)) (h _ hJ (fun _ _ _ e => e)))
    | 17, ho => cases ho; exact oweN (.agg D1.toArray) (by decide) (by decide) rfl (fun L a w hLi hJ hw hnot hk hv K h => op_extract 27 0 #[(.agg D1.toArray), (nu 0)] _ rfl (hv 16 27 (by kernel_rfl) (by decide) (by kernel_rfl)) rfl (h _ hJ (fun _ _ _ e => e)))
    | 18, ho => cases ho; exact oweN (nu 0) (by decide) (by decide) rfl (fun L a w hLi hJ hw hnot hk hv K h => op_extract 27 1 #[(.agg D1.toArray), (nu 0)] _ rfl (hv 16 27 (by kernel_rfl) (by decide) (by kernel_rfl)) rfl (h _ hJ (fun _ _ _ e => e)))
    | 19, ho => cases ho; exact oweN_alloc rfl ZD0 ZD LZD _ rfl (by kernel_rfl) (by decide) (fun _ _ h => h.1.size) (fun _ w o h => ⟨h.1.trans (Touch.of (below_a1 w o)), cond_mono (kB.out _ _ · (below_a1 w o)) (kA.out _ _ · (below_a1 w o)) h.2.1, row_kept h.2.2.1 (below_a1 w o), row_kept h.2.2.2 (below_a1 w o)⟩)
    | 20, ho => cases ho; exact oweN_store 9 44 rfl rfl (by kernel_rfl) 17 (by kernel_rfl) (by decide) (by kernel_rfl) (by kernel_rfl) rfl LD1 OD1.out ZD1.out (fun L w w2 g r h hg hr hb => ⟨touch_but h.1 hb (by omega), cond_mono (sB.out _ _ _ _ · hr hb (by omega)) (sA.out _ _ _ _ · hr hb (by omega)) h.2.1, hb.row h.2.2.1 (by omega), hb.row h.2.2.2 (by omega)⟩)
    | 21, ho => cases ho; exact oweN (nu 0) (by decide) (by decide) rfl (fun L a w hLi hJ hw hnot hk hv K h => op_assign 45 _ rfl (hv 18 45 (by kernel_rfl) (by decide) (by kernel_rfl)) (h _ hJ (fun _ _ _ e => e)))
    | (i + 22), ho => exact absurd ho (by simp)
  intro Ya LL1 W2 hg2 hr2 hall1 hJ1
  simp only [List.foldl_cons, List.foldl_nil, List.setIfInBounds_toArray, List.set_cons_zero, List.set_cons_succ]
  obtain ⟨t2, k2, y2, g2⟩ := hJ1
  rw [hall1 15 (by decide), cond_true] at k2
  have hYal := row_ltA hr2
  have hsz2 : W1.heap.size ≤ W2.heap.size := by omega
  have T2 := hid (T1.out.trans t2)
  have K2 := hid k2
  have N2 := hid y2
  have G2 := hid g2
  have A2 := hid hr2
  clear t2 k2 y2 g2 hr2 hall1 T1 K1 N1 G1 HAs HT1
  go_upto_region 2 with fail
  have hWB2 : w.heap.size ≤ W2.heap.size := by omega
  have hWB := hWB2
  refine wp_region_nj (N := 76) 18 19 11 23 32 D2 W2.heap.size [(pt G 0), (pt G 0), (pt G 0), (pt x 0), (pt G 0), (pt G 0), (pt G 1), (nu me), (pt Y 0), (nu (cn + 1)), (pt Y 3), (st vl), (st TD), (.agg #[nu me, nu 2, st TD]), (.tuple #[(.agg D2.toArray), (nu 0)]), (.tuple #[(.agg D2.toArray), (nu 0)]), (.agg D2.toArray), (nu 0), undef, undef, (nu 0)] (fun L W => Touch x W2 W ∧ (cond (L 14) (RC W) (RB W)) ∧ W.heap[Y]? = some (.cells V0.toArray 25) ∧ W.heap[G]? = some (.cells R0.toArray 56) ∧ W.heap[Ya]? = some (.cells D1.toArray 23)) (fun g => [(47, (pt G 0)), (48, (pt G 0)), (49, (pt G 0)), (50, (pt x 0)), (51, (pt G 0)), (52, (pt G 0)), (53, (pt G 1)), (54, (nu me)), (55, (pt Y 0)), (56, (nu (cn + 1))), (57, (pt Y 3)), (58, (st vl)), (59, (st TD)), (60, (.agg #[nu me, nu 2, st TD])), (61, (.tuple #[(.agg D2.toArray), (nu 0)])), (46, (.tuple #[(.agg D2.toArray), (nu 0)])), (62, (.agg D2.toArray)), (63, (nu 0)), (11, (pt g 0)), (12, (nu 0))]) (by kernel_rfl) (by kernel_rfl) rfl (by kernel_rfl) (by decide) (by simp) (fun g => by kernel_rfl) (fun w1 hb => ⟨Touch.of hb, kB.out _ _ K2.out hb, row_kept N2.out hb, row_kept G2.out hb, row_kept A2.out hb⟩) ?_ ?_
  · intro i o ho
    match i, ho with
    | 0, ho => cases ho; exact oweN (pt G 0) (by decide) (by decide) rfl (fun L a w hLi hJ hw hnot hk hv K h => op_move 0 _ rfl (hk 0 (by kernel_rfl)) (h _ hJ (fun _ _ _ e => e)))
    | 1, ho => cases ho; exact oweN (pt G 0) (by decide) (by decide) rfl (fun L a w hLi hJ hw hnot hk hv K h => op_nil 47 G 0 rfl (hv 0 47 (by kernel_rfl) (by decide) (by kernel_rfl)) (h _ hJ (fun _ _ _ e => e)))
    | 2, ho => cases ho; exact oweN (pt G 0) (by decide) (by decide) rfl (fun L a w hLi hJ hw hnot hk hv K h => op_fa 48 _ 0 G 0 0 rfl (fun W => by kernel_rfl) (hv 1 48 (by kernel_rfl) (by decide) (by kernel_rfl)) (h _ hJ (fun _ _ _ e => e)))
    | 3, ho => cases ho; exact oweN (pt x 0) (by decide) (by decide) rfl (fun L a w hLi hJ hw hnot hk hv K h => op_load1 _ (.tmp 49) rfl G 0 (hv 2 49 (by kernel_rfl) (by decide) (by kernel_rfl)) (pt x 0) _ (CR.out _ hJ.2.2.2.1).1 Tryz.underlying45 rfl (h _ hJ (fun _ _ _ e => e)))
    | 4, ho => cases ho; exact oweN (pt G 0) (by decide) (by decide) rfl (fun L a w hLi hJ hw hnot hk hv K h => op_move 0 _ rfl (hk 0 (by kernel_rfl)) (h _ hJ (fun _ _ _ e => e)))
    | 5, ho => cases ho; exact oweN (pt G 0) (by decide) (by decide) rfl (fun L a w hLi hJ hw hnot hk hv K h => op_nil 51 G 0 rfl (hv 4 51 (by kernel_rfl) (by decide) (by kernel_rfl)) (h _ hJ (fun _ _ _ e => e)))
    | 6, ho => cases ho; exact oweN (pt G 1) (by decide) (by decide) rfl (fun L a w hLi hJ hw hnot hk hv K h => op_fa 52 _ 1 G 0 1 rfl (fun W => by kernel_rfl) (hv 5 52 (by kernel_rfl) (by decide) (by kernel_rfl)) (h _ hJ (fun _ _ _ e => e)))
    | 7, ho => cases ho; exact oweN (nu me) (by decide) (by decide) rfl (fun L a w hLi hJ hw hnot hk hv K h => op_load1 _ (.tmp 53) rfl G 1 (hv 6 53 (by kernel_rfl) (by decide) (by kernel_rfl)) (nu me) _ (CR.out _ hJ.2.2.2.1).2 Tryz.underlying3 rfl (h _ hJ (fun _ _ _ e => e)))
    | 8, ho => cases ho; exact oweN (pt Y 0) (by decide) (by decide) rfl (fun L a w hLi hJ hw hnot hk hv K h => op_fa 8 _ 0 Y 0 0 rfl (fun W => by kernel_rfl) (hk 8 (by kernel_rfl)) (h _ hJ (fun _ _ _ e => e)))
    | 9, ho => cases ho; exact oweN (nu (cn + 1)) (by decide) (by decide) rfl (fun L a w hLi hJ hw hnot hk hv K h => op_load1 _ (.tmp 55) rfl Y 0 (hv 8 55 (by kernel_rfl) (by decide) (by kernel_rfl)) (nu (cn + 1)) _ (CY.out _ hJ.2.2.1).1 Tryz.underlying3 rfl (h _ hJ (fun _ _ _ e => e)))
    | 10, ho => cases ho; exact oweN (pt Y 3) (by decide) (by decide) rfl (fun L a w hLi hJ hw hnot hk hv K h => op_fa 8 _ 3 Y 0 3 rfl (fun W => by kernel_rfl) (hk 8 (by kernel_rfl)) (h _ hJ (fun _ _ _ e => e)))
    | 11, ho => cases ho; exact oweN (st vl) (by decide) (by decide) rfl (fun L a w hLi hJ hw hnot hk hv K h => op_load1 _ (.tmp 57) rfl Y 3 (hv 10 57 (by kernel_rfl) (by decide) (by kernel_rfl)) (st vl) _ (CY.out _ hJ.2.2.1).2 Tryz.underlying9 rfl (h _ hJ (fun _ _ _ e => e)))
    | 12, ho => cases ho; exact oweN (st TD) (by decide) (by decide) rfl (fun L a w hLi hJ hw hnot hk hv K h => op_call 70 [.tmp 56, .tmp 58] _ #[(nu (cn + 1)), (st vl)] (st TD) rfl (fun _ _ => by kernel_rfl) (args2 (hv 9 56 (by kernel_rfl) (by decide) (by kernel_rfl)) (hv 11 58 (by kernel_rfl) (by decide) (by kernel_rfl))) (J := fun w1 => Below w.heap.size w w1) (HNb.out w) (fun w1 e1 => h _ ⟨hJ.1.trans (Touch.of e1), cond_mono (kC.out _ _ · e1) (kB.out _ _ · e1) hJ.2.1, row_kept hJ.2.2.1 e1, row_kept hJ.2.2.2.1 e1, row_kept hJ.2.2.2.2 e1⟩ (fun _ _ _ e => row_kept e e1)))
    | 13, ho => cases ho; exact oweN (.agg #[nu me, nu 2, st TD]) (by decide) (by decide) rfl (fun L a w hLi hJ hw hnot hk hv K h => op_buildY _ [(0, .tmp 54), (1, .const (nu (2))), (2, .tmp 59)] rfl (.agg #[nu me, nu 2, st TD]) (by have e0 : a.eval (.tmp 54) = (nu me) := (hv 7 54 (by kernel_rfl) (by decide) (by kernel_rfl)); have e2 : a.eval (.tmp 59) = (st TD) := (hv 12 59 (by kernel_rfl) (by decide) (by kernel_rfl)); simp only [List.map_cons, List.map_nil, e0, e2]; exact (HL2.out w)) (h _ hJ (fun _ _ _ e => e)))
    | 14, ho => cases ho; exact oweN (.tuple #[(.agg D2.toArray), (nu 0)]) (by decide) (by decide) rfl (fun L a w hLi hJ hw hnot hk hv K h => op_call 87 [.tmp 50, .tmp 60] _ #[(pt x 0), (.agg #[nu me, nu 2, st TD])] (.tuple #[(.agg D2.toArray), (nu 0)]) rfl (fun _ _ => by kernel_rfl) (args2 (hv 3 50 (by kernel_rfl) (by decide) (by kernel_rfl)) (hv 13 60 (by kernel_rfl) (by decide) (by kernel_rfl))) (J := fun w1 => RC w1 ∧ Touch x w w1) (HT2.out w (by have e := hJ.2.1; simp only [hLi, cond_false] at e; exact e)) (fun w1 e1 => h _ ⟨hJ.1.trans e1.2, (by show cond (up L 14 14) (RC w1) (RB w1); rw [up_self]; exact e1.1), row_touch hJ.2.2.1 e1.2 (by omega), row_touch hJ.2.2.2.1 e1.2 hGx, row_touch hJ.2.2.2.2 e1.2 (by omega)⟩ (fun k r hk9 hr9 => row_touch hr9 e1.2 (by omega))))
    | 15, ho => cases ho; exact oweN (.tuple #[(.agg D2.toArray), (nu 0)]) (by decide) (by decide) rfl (fun L a w hLi hJ hw hnot hk hv K h => op_move 61 _ rfl (hv 14 61 (by kernel_rfl) (by decide) (by kernel_rfl)) (h _ hJ (fun _ _ _ e => e)))
    | 16, ho => cases ho; exact oweN (.agg D2.toArray) (by decide) (by decide) rfl (fun L a w hLi hJ hw hnot hk hv K h => op_extract 46 0 #[(.agg D2.toArray), (nu 0)] _ rfl (hv 15 46 (by kernel_rfl) (by decide) (by kernel_rfl)) rfl (h _ hJ (fun _ _ _ e => e)))
    | 17, ho => cases ho; exact oweN (nu 0) (by decide) (by decide) rfl (fun L a w hLi hJ hw hnot hk hv K h => op_extract 46 1 #[(.agg D2.toArray), (nu 0)] _ rfl (hv 15 46 (by kernel_rfl) (by decide) (by kernel_rfl)) rfl (h _ hJ (fun _ _ _ e => e)))
    | 18, ho => cases ho; exact oweN_alloc rfl ZD0 ZD LZD _ rfl (by kernel_rfl) (by decide) (fun _ _ h => h.1.size) (fun _ w o h => ⟨h.1.trans (Touch.of (below_a1 w o)), cond_mono (kC.out _ _ · (below_a1 w o)) (kB.out _ _ · (below_a1 w o)) h.2.1, row_kept h.2.2.1 (below_a1 w o), row_kept h.2.2.2.1 (below_a1 w o), row_kept h.2.2.2.2 (below_a1 w o)⟩)
    | 19, ho => cases ho; exact oweN_store 11 62 rfl rfl (by kernel_rfl) 16 (by kernel_rfl) (by decide) (by kernel_rfl) (by kernel_rfl) rfl LD2 OD2.out ZD2.out (fun L w w2 g r h hg hr hb => ⟨touch_but h.1 hb (by omega), cond_mono (sC.out _ _ _ _ · hr hb (by omega)) (sB.out _ _ _ _ · hr hb (by omega)) h.2.1, hb.row h.2.2.1 (by omega), hb.row h.2.2.2.1 (by omega), hb.row h.2.2.2.2 (by omega)⟩)
    | 20, ho => cases ho; exact oweN (nu 0) (by decide) (by decide) rfl (fun L a w hLi hJ hw hnot hk hv K h => op_assign 63 _ rfl (hv 17 63 (by kernel_rfl) (by decide) (by kernel_rfl)) (h _ hJ (fun _ _ _ e => e)))
    | (i + 21), ho => exact absurd ho (by simp)
  intro Yd LL2 W3 hg3 hr3 hall2 hJ2
  simp only [List.foldl_cons, List.foldl_nil, List.setIfInBounds_toArray, List.set_cons_zero, List.set_cons_succ]
  obtain ⟨t3, -, y3, g3, a3⟩ := hJ2
  have T3 := hid (kp_touch (G := G) (T2.out.trans t3))
  have N3 : Hid (W3.heap[Y]? = some (.cells (A ++ (D0 ++ D0)).toArray 25)) := by show _ = _; rw [← HV0.out]; exact y3
  have G3 := hid g3
  have A3r := hid a3
  have D3r := hid hr3
  have hYG : Y ≠ G := by omega
  have hYx : Y ≠ x := by omega
  have hYY : Ya ≠ Y := by omega
  have hYd : Yd ≠ Y := by omega
  have hYw : w.heap.size ≤ Y := hgN
  clear t3 y3 g3 a3 hr3 hall2 T2 K2 N2 G2 A2 HNb HT2
  go_upto_region 4 with (first
    | ((with_reducible refine wl_load 23 (.tmp 9) ?_ Ya 0 ?_ ?_ D1 _ (row_zeroY A3r.out) Tryz.underlying23 ?_ ZD1.out ?_); exact rfl; exact rfl; exact rfl; exact rfl)
    | ((with_reducible refine wl_put 23 (.tmp 65) (.tmp 64) ?_ ?_ Y 4 ?_ ?_ A D1 D0 D0 ?_ 25 N3.out hA (LD0.trans LD1.symm) OD1.out ZD1.out ?_); exact rfl; exact rfl; exact rfl; exact rfl; exact rfl; intro W4 hr4 hb4))
  rw [← HV1.out, HV1b.out] at hr4
  have N4 := hid hr4
  have T4 := hid (T3.out.but hb4 (Or.inr hYw))
  have G4 := hid (hb4.row G3.out (Ne.symm hYG))
  have D4r := hid (hb4.row D3r.out hYd)
  clear hr4 hb4 T3 N3 G3 A3r D3r
  go_upto_region 5 with (first
    | ((with_reducible refine wl_load 23 (.tmp 11) ?_ Yd 0 ?_ ?_ D2 _ (row_zeroY D4r.out) Tryz.underlying23 ?_ ZD2.out ?_); exact rfl; exact rfl; exact rfl; exact rfl)
    | ((with_reducible refine wl_put 23 (.tmp 67) (.tmp 66) ?_ ?_ Y 36 ?_ ?_ (A ++ D1) D2 D0 [] ?_ 25 N4.out hA2 (LD0.trans LD2.symm) OD2.out ZD2.out ?_); exact rfl; exact rfl; exact rfl; exact rfl; exact rfl; intro W5 hr5 hb5))
  rw [← HV2.out] at hr5
  have N5 := hid hr5
  have T5 := hid (T4.out.but hb5 (Or.inr hYw))
  have G5 : Hid (W5.heap[G]? = some (.cells (A3 ++ ([o3] ++ C3)).toArray 56)) := by show _ = _; rw [← HR0.out]; exact hb5.row G4.out (Ne.symm hYG)
  clear hr5 hb5 T4 N4 G4 D4r
  go_upto_region 6 with ((with_reducible refine wl_put1 9 (.tmp 71) (.tmp 69) ?_ ?_ G 3 ?_ ?_ A3 C3 o3 (st vl) ?_ 56 G5.out hA3 ?_ ?_ ?_); exact rfl; exact rfl; exact rfl; exact rfl; exact rfl; exact rfl; kernel_rfl; intro W6 hr6 hb6)
  rw [← HR1.out, HR1b.out] at hr6
  have N6 := hid (hb6.row N5.out hYG)
  have T6 := hid (T5.out.but hb6 (Or.inl (by simp)))
  have G6 := hid hr6
  clear hr6 hb6 T5 N5 G5
  go_wp2_with (first
    | ((with_reducible refine wl_load 25 (.tmp 8) ?_ Y 0 ?_ ?_ V2 _ (row_zeroY N6.out) Tryz.underlying25 ?_ ZV2.out ?_); exact rfl; exact rfl; exact rfl; exact rfl)
    | ((with_reducible refine wl_put 25 (.tmp 75) (.tmp 73) ?_ ?_ G 4 ?_ ?_ A4 V2 C4 [] ?_ 56 G6.out hA4 LC4 OV2.out ZV2.out ?_); exact rfl; exact rfl; exact rfl; exact rfl; exact rfl; intro W7 hr7 hb7))
  rw [← HR2.out] at hr7
  go_end0
  exact ⟨rfl, hr7, T6.out.but hb7 (Or.inl (by simp))⟩
end Go.Proofs.YtekfcbedlokidaaGreatDoor.Ms
