/-
  What a client answers that is asked for a Write (Ask), when it may.
-/
import Derived.Test.YtekfcbedlokidaaGreatDoorH32
import Derived.Test.YtekfcbedlokidaaGreatDoorH29
namespace Go.Proofs.YtekfcbedlokidaaGreatDoor.Ms
open Go Go.RowKit
set_option maxRecDepth 100000
set_option maxHeartbeats 16000000 in
theorem uask_core {w : World} {G b : Nat} {me : Int} {v vo : List UInt8} {R0 R1 R2 A3 A4 C VX MV Z : List Value} {RL RL' : World → Prop}
    (hR : w.heap[G]? = some (.cells R0.toArray 109)) (hRL : RL w) (hGb : G ≠ b)
    (RLk : Hid (∀ W W', RL W → Below W.heap.size W W' → RL W')) (RLg : Hid (∀ W W', RL W → But G W W' → RL W')) (RLk' : Hid (∀ W W', RL' W → Below W.heap.size W W' → RL' W')) (RLg' : Hid (∀ W W', RL' W → But G W W' → RL' W')) (RLx' : Hid (∀ W W' x, RL' W → w.heap.size ≤ x → But x W W' → RL' W'))
    (HM : Hid (∀ W : World, W.heap[G]? = some (.cells R0.toArray 109) → Calls Tryz.prog 49 #[pt G 0] W fun e w' => e = .returned (.bool true) ∧ w' = W))
    (HBz : Hid (∀ W : World, W.heap[G]? = some (.cells R0.toArray 109) → Calls Tryz.prog 16 #[pt G 0] W fun e w' => e = .returned (.bool false) ∧ w' = W))
    (HRf : Hid (∀ W : World, W.heap[G]? = some (.cells R0.toArray 109) → RL W → Calls Tryz.prog 78 #[pt G 0, nu 1, nu me, st v] W fun e w' => e = .returned (nu 0) ∧ w' = W))
    (HCl : Hid (∀ W, Calls Tryz.prog 60 #[st v] W fun e w' => e = .returned (st v) ∧ Below W.heap.size W w'))
    (HNx : Hid (∀ W : World, W.heap[G]? = some (.cells R1.toArray 109) → RL W → Calls Tryz.prog 42 #[pt G 0, nu 1, nu me] W fun e w' => e = .returned (.agg VX.toArray) ∧ RL' w' ∧ Touch b W w'))
    (HSb : Hid (∀ W : World, W.heap[G]? = some (.cells R2.toArray 109) → Calls Tryz.prog 79 #[pt G 0] W fun e w' => e = .returned (.agg MV.toArray) ∧ Below W.heap.size W w'))
    (E0 : Hid (R0 = A3 ++ ([st vo] ++ C))) (E1 : Hid (R1 = A3 ++ ([st v] ++ C))) (E2 : Hid (R1 = A4 ++ (C ++ []))) (E3 : Hid (R2 = A4 ++ (VX ++ []))) (hA3 : A3.length = 3) (hA4 : A4.length = 4) (LC : C.length = VX.length) (OX : Hid (∀ u ∈ VX, u.oneCell' = true)) (ZX : Hid ((Tryz.prog.info? 25).map (·.size) = some VX.length))
    (ZZ : (Tryz.prog.info? 97).map (·.zero) = some (some (.agg Z.toArray))) (LM : Z.length = MV.length) (OM : Hid (∀ u ∈ MV, u.oneCell' = true)) (ZM : Hid ((Tryz.prog.info? 97).map (·.size) = some MV.length)) (hbk : Hid (∀ W (cs : Array Value) t f x, RL W → W.heap[x]? = some (.cells cs t f) → x ≠ b)) :
    Calls Tryz.prog 35 #[pt G 0, nu 1, nu me, st v] w fun e w' => e = .returned (.tuple #[.agg MV.toArray, nu 0]) ∧ w'.heap[G]? = some (.cells R2.toArray 109) ∧ RL' w' ∧ Kp [b, G] w w' := by
  have B0 := below_a1 w (.cells Z.toArray 97)
  have T0 := hid (top_obj w (.cells Z.toArray 97))
  have G0 := hid (row_kept hR B0)
  have L0 := hid (RLk.out _ _ hRL B0)
  have K0 : Hid (Kp [b, G] w (w.alloc (.cells Z.toArray 97))) := Kp.of B0
  have hGl := row_ltA hR
  clear hR hRL B0
  go_enter Tryz.func35, Tryz.ntmps35
  go_upto_region 1 with ((with_reducible refine wl_alloc 97 ?_ ?_ Z.toArray ZZ ?_); exact rfl; exact rfl)
  try simp only [Act.put, List.setIfInBounds_toArray, List.set_cons_zero, List.set_cons_succ]
  generalize w.alloc (.cells Z.toArray 97) = W0 at *
  generalize hX : w.heap.size = X at *
  have hXG : X ≠ G := by omega
  go_wp2_with fail
  refine (HM.out _ G0.out).mono ?_
  rintro e w1 ⟨rfl, hw1⟩
  subst w1
  go_wp2_with fail
  refine (HBz.out _ G0.out).mono ?_
  rintro e w1 ⟨rfl, hw1⟩
  subst w1
  go_wp2_with fail
  refine (HRf.out _ G0.out L0.out).mono ?_
  rintro e w1 ⟨rfl, hw1⟩
  subst w1
  go_wp2_with fail
  refine (HCl.out _).mono ?_
  rintro e W1 ⟨rfl, b1⟩
  have G1 : Hid (W1.heap[G]? = some (.cells (A3 ++ ([st vo] ++ C)).toArray 109)) := by
    have e := row_kept G0.out b1
    rw [E0.out] at e
    exact e
  have L1 := hid (RLk.out _ _ L0.out b1)
  have T1 := hid (row_kept T0.out b1)
  have K1 := hid (K0.out.trans (Kp.of b1))
  clear b1 G0 L0 T0 K0
  go_upto_region 10 with ((with_reducible refine wl_put1 9 (.tmp 33) (.tmp 31) ?_ ?_ G 3 ?_ ?_ A3 C (st vo) (st v) ?_ 109 G1.out hA3 ?_ ?_ ?_); exact rfl; exact rfl; exact rfl; exact rfl; exact rfl; exact rfl; kernel_rfl; intro W2 r2 b2)
  rw [← E1.out] at r2
  have G2 := hid r2
  have L2 := hid (RLg.out _ _ L1.out b2)
  have T2 := hid (b2.row T1.out hXG)
  have K2 := hid (K1.out.but b2 (Or.inl (by simp)))
  clear r2 b2 G1 L1 T1 K1
  go_wp2_with fail
  refine (HNx.out _ G2.out L2.out).mono ?_
  rintro e W3 ⟨rfl, l3, t3⟩
  have G3 : Hid (W3.heap[G]? = some (.cells (A4 ++ (C ++ [])).toArray 109)) := by
    have e := row_touch G2.out t3 hGb
    rw [E2.out] at e
    exact e
  have T3 := hid (row_touch T2.out t3 (hbk.out _ _ _ _ _ L2.out T2.out))
  have K3 := hid (K2.out.trans (⟨t3.os, t3.tape, t3.output, t3.size, fun k hk hn => t3.block k hk (fun e => hn (by rw [e]; simp))⟩ : Kp [b, G] W2 W3))
  have L3 := hid l3
  clear l3 t3 G2 L2 T2 K2
  go_upto_region 11 with ((with_reducible refine wl_put 25 (.tmp 40) (.tmp 38) ?_ ?_ G 4 ?_ ?_ A4 VX C [] ?_ 109 G3.out hA4 LC OX.out ZX.out ?_); exact rfl; exact rfl; exact rfl; exact rfl; exact rfl; intro W4 r4 b4)
  rw [← E3.out] at r4
  have G4 := hid r4
  have L4 := hid (RLg'.out _ _ L3.out b4)
  have T4 := hid (b4.row T3.out hXG)
  have K4 := hid (K3.out.but b4 (Or.inl (by simp)))
  clear r4 b4 G3 L3 T3 K3
  go_wp2_with fail
  refine (HSb.out _ G4.out).mono ?_
  rintro e W5 ⟨rfl, b5⟩
  have G5 := hid (row_kept G4.out b5)
  have L5 := hid (RLk'.out _ _ L4.out b5)
  have T5 := hid (row_kept T4.out b5)
  have K5 := hid (K4.out.trans (Kp.of b5))
  clear b5 G4 L4 T4 K4
  go_wp2_with ((with_reducible refine wl_put 97 (.tmp 8) (.tmp 42) ?_ ?_ X 0 ?_ ?_ [] MV Z [] ?_ 97 (row_nilY T5.out) rfl LM OM.out ZM.out ?_); exact rfl; exact rfl; exact rfl; exact rfl; exact rfl; intro W6 hr6 hbut)
  have hr7 : W6.heap[X]? = some (.cells MV.toArray 97) := by simpa using hr6
  refine bodyPost_ret_by (results_ctY (fn := Tryz.f35) (p := 8) (u := 9) (ty := 97) (by kernel_rfl) _ _ X 97 MV.toArray (0, 0) _ rfl hr7 Tryz.underlying97 rfl (by rw [List.size_toArray]; exact ZM.out)) rfl ?_
  exact ⟨rfl, hbut.row G5.out (Ne.symm hXG), RLx'.out _ _ X L5.out (by omega) hbut, K5.out.but hbut (Or.inr (by omega))⟩
open Go Go.RowKit
set_option maxRecDepth 100000
set_option maxHeartbeats 16000000 in
theorem ucommit_core {w : World} {G b : Nat} {me cn : Int} {vw : List UInt8} {DT MV Z : List Value} {L0 L1 : List Ent} (hcn : (cn == 0) = false)
    (K0 : Hid (Book w b L0)) (CG1 : Hid (∀ W : World, Touch b w W → W.cell? ⟨G, 1, none⟩ = some (nu me))) (CG2 : Hid (∀ W : World, Touch b w W → W.cell? ⟨G, 2, none⟩ = some (st vw)))
    (HNu : Hid (∀ W, Touch b w W → Calls Tryz.prog 38 #[pt G 0] W fun e w' => e = .returned (nu cn) ∧ Below W.heap.size W w'))
    (HT : Hid (∀ W, Touch b w W → Book W b L0 → Calls Tryz.prog 81 #[pt G 0, nu 3, st vw] W fun e w' => e = .returned (.agg DT.toArray) ∧ Book w' b L1 ∧ Touch b W w'))
    (HBm : Hid (∀ W, (Instr.build 97 #[(0, nu 3), (1, nu me), (4, st vw), (6, .agg DT.toArray)]).run Tryz.prog W = .ok (.agg MV.toArray) W))
    (ZZ : (Tryz.prog.info? 97).map (·.zero) = some (some (.agg Z.toArray))) (LM : Z.length = MV.length) (OM : Hid (∀ u ∈ MV, u.oneCell' = true)) (ZM : Hid ((Tryz.prog.info? 97).map (·.size) = some MV.length)) :
    Calls Tryz.prog 37 #[pt G 0] w fun e w' => e = .returned (.tuple #[.agg MV.toArray, .bool true]) ∧ Book w' b L1 ∧ Touch b w w' := by
  have B0 := hid (below_a1 w (.cells Z.toArray 97))
  have T0 := hid (top_obj w (.cells Z.toArray 97))
  go_enter Tryz.func37, Tryz.ntmps37
  go_upto_region 1 with ((with_reducible refine wl_alloc 97 ?_ ?_ Z.toArray ZZ ?_); exact rfl; exact rfl)
  try simp only [Act.put, List.setIfInBounds_toArray, List.set_cons_zero, List.set_cons_succ]
  generalize w.alloc (.cells Z.toArray 97) = W0 at *
  generalize hX : w.heap.size = X at *
  have t0 : Touch b w W0 := Touch.of (hX ▸ B0.out)
  go_wp2_with fail
  refine (HNu.out _ t0).mono ?_
  rintro e W1 ⟨rfl, b1⟩
  have HT1 := hid (t0.trans (Touch.of b1))
  have HK1 := hid ((K0.out.kept (hX ▸ B0.out : Below w.heap.size w W0)).kept b1)
  have T1 := hid (row_kept T0.out b1)
  clear b1 t0 T0 B0
  go_upto_region 3 with fail
  refine wp_region_cs (N := 23) [(pt G 0), (pt G 0), (pt G 1), (nu me), (pt G 0), (pt G 0), (pt G 2), (st vw), (pt G 0), (pt G 0), (pt G 0), (pt G 2), (st vw), (.agg DT.toArray), (.agg MV.toArray), undef, (Value.bool true)] (fun L w' => Touch b w w' ∧ Book w' b (bif L 13 then L1 else L0) ∧ w'.heap[X]? = some (.cells (bif L 15 then MV else Z).toArray 97)) [(8, (pt G 0)), (9, (pt G 0)), (10, (pt G 1)), (11, (nu me)), (12, (pt G 0)), (13, (pt G 0)), (14, (pt G 2)), (15, (st vw)), (16, (pt G 0)), (17, (pt G 0)), (18, (pt G 0)), (19, (pt G 2)), (20, (st vw)), (21, (.agg DT.toArray)), (22, (.agg MV.toArray)), (3, (Value.bool true))] (by kernel_rfl) (by kernel_rfl) rfl (fun w1 hb => ⟨HT1.out.trans (Touch.of hb), HK1.out.kept hb, row_kept T1.out hb⟩) (by kernel_rfl) ?_ ?_
  · intro i o ho
    match i, ho with
    | 0, ho => cases ho; exact fun L a w hLi hw hnot hJ hk hv K h => op_move 0 _ rfl (hk 0 (by kernel_rfl)) (h _ hJ)
    | 1, ho => cases ho; exact fun L a w hLi hw hnot hJ hk hv K h => op_nil 8 G 0 rfl (hv 0 8 (by kernel_rfl) (by kernel_rfl)) (h _ hJ)
    | 2, ho => cases ho; exact fun L a w hLi hw hnot hJ hk hv K h => op_fa 9 _ 1 G 0 1 rfl (fun W => by kernel_rfl) (hv 1 9 (by kernel_rfl) (by kernel_rfl)) (h _ hJ)
    | 3, ho => cases ho; exact fun L a w hLi hw hnot hJ hk hv K h => op_load1 _ (.tmp 10) rfl G 1 (hv 2 10 (by kernel_rfl) (by kernel_rfl)) (nu me) _ (CG1.out _ hJ.1) Tryz.underlying3 rfl (h _ hJ)
    | 4, ho => cases ho; exact fun L a w hLi hw hnot hJ hk hv K h => op_move 0 _ rfl (hk 0 (by kernel_rfl)) (h _ hJ)
    | 5, ho => cases ho; exact fun L a w hLi hw hnot hJ hk hv K h => op_nil 12 G 0 rfl (hv 4 12 (by kernel_rfl) (by kernel_rfl)) (h _ hJ)
    | 6, ho => cases ho; exact fun L a w hLi hw hnot hJ hk hv K h => op_fa 13 _ 2 G 0 2 rfl (fun W => by kernel_rfl) (hv 5 13 (by kernel_rfl) (by kernel_rfl)) (h _ hJ)
    | 7, ho => cases ho; exact fun L a w hLi hw hnot hJ hk hv K h => op_load1 _ (.tmp 14) rfl G 2 (hv 6 14 (by kernel_rfl) (by kernel_rfl)) (st vw) _ (CG2.out _ hJ.1) Tryz.underlying9 rfl (h _ hJ)
    | 8, ho => cases ho; exact fun L a w hLi hw hnot hJ hk hv K h => op_move 0 _ rfl (hk 0 (by kernel_rfl)) (h _ hJ)
    | 9, ho => cases ho; exact fun L a w hLi hw hnot hJ hk hv K h => op_move 0 _ rfl (hk 0 (by kernel_rfl)) (h _ hJ)
    | 10, ho => cases ho; exact fun L a w hLi hw hnot hJ hk hv K h => op_nil 17 G 0 rfl (hv 9 17 (by kernel_rfl) (by kernel_rfl)) (h _ hJ)
    | 11, ho => cases ho; exact fun L a w hLi hw hnot hJ hk hv K h => op_fa 18 _ 2 G 0 2 rfl (fun W => by kernel_rfl) (hv 10 18 (by kernel_rfl) (by kernel_rfl)) (h _ hJ)
    | 12, ho => cases ho; exact fun L a w hLi hw hnot hJ hk hv K h => op_load1 _ (.tmp 19) rfl G 2 (hv 11 19 (by kernel_rfl) (by kernel_rfl)) (st vw) _ (CG2.out _ hJ.1) Tryz.underlying9 rfl (h _ hJ)
    | 13, ho => cases ho; exact fun L a w hLi hw hnot hJ hk hv K h => op_call 81 [.tmp 16, .const (nu (3)), .tmp 20] _ #[(pt G 0), (nu (3)), (st vw)] (.agg DT.toArray) rfl (fun _ _ => by kernel_rfl) (args3 (hv 8 16 (by kernel_rfl) (by kernel_rfl)) rfl (hv 12 20 (by kernel_rfl) (by kernel_rfl))) (J := fun w1 => Book w1 b L1 ∧ Touch b w w1) (HT.out w hJ.1 (by have e := hJ.2.1; simp only [hLi, cond_false] at e; exact e)) (fun w1 e1 => h _ ⟨hJ.1.trans e1.2, (by show Book w1 b (bif up L 13 13 then L1 else L0); rw [up_self]; exact e1.1), row_touch hJ.2.2 e1.2 (hJ.2.1.ne hJ.2.2)⟩)
    | 14, ho => cases ho; exact fun L a w hLi hw hnot hJ hk hv K h => op_buildY _ [(0, .const (nu (3))), (1, .tmp 11), (4, .tmp 15), (6, .tmp 21)] rfl (.agg MV.toArray) (by have e1 : a.eval (.tmp 11) = (nu me) := (hv 3 11 (by kernel_rfl) (by kernel_rfl)); have e2 : a.eval (.tmp 15) = (st vw) := (hv 7 15 (by kernel_rfl) (by kernel_rfl)); have e3 : a.eval (.tmp 21) = (.agg DT.toArray) := (hv 13 21 (by kernel_rfl) (by kernel_rfl)); simp only [List.map_cons, List.map_nil, e1, e2, e3]; exact (HBm.out w)) (h _ hJ)
    | 15, ho => cases ho; exact fun L a w hLi hw hnot hJ hk hv K h => op_put _ 2 22 rfl rfl X 0 (hk 2 (by kernel_rfl)) [] MV Z [] (hv 14 22 (by kernel_rfl) (by kernel_rfl)) _ (row_nilY (by have e := hJ.2.2; simp only [hLi, cond_false] at e; exact e)) rfl LM OM.out ZM.out (fun w1 hr hb => h _ ⟨touch_but hJ.1 hb (by omega), hJ.2.1.at (hb.block b (Ne.symm (hJ.2.1.ne hJ.2.2))), (by show w1.heap[X]? = some (.cells (bif up L 15 15 then MV else Z).toArray _); rw [up_self]; simpa using hr)⟩)
    | 16, ho => cases ho; exact fun L a w hLi hw hnot hJ hk hv K h => op_assignC _ rfl (h _ hJ)
    | (i + 17), ho => exact absurd ho (by simp)
  intro LL W2 hall hJ
  simp only [List.foldl_cons, List.foldl_nil, List.setIfInBounds_toArray, List.set_cons_zero, List.set_cons_succ]
  obtain ⟨t2, k2, r2⟩ := hJ
  rw [hall 13 (by decide), cond_true] at k2
  rw [hall 15 (by decide), cond_true] at r2
  have T2 := hid t2
  have K2 := hid k2
  have R2 := hid r2
  clear t2 k2 r2
  go_wp2
  refine bodyPost_ret_by (results_ctY (fn := Tryz.f37) (p := 2) (u := 3) (ty := 97) (by kernel_rfl) _ _ X 97 MV.toArray (0, 0) _ rfl R2.out Tryz.underlying97 rfl (by rw [List.size_toArray]; exact ZM.out)) rfl ?_
  exact ⟨rfl, K2.out, T2.out⟩
end Go.Proofs.YtekfcbedlokidaaGreatDoor.Ms
