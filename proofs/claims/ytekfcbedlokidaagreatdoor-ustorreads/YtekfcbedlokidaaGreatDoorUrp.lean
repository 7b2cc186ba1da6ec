/-
  What a client learns from a reply that is believed (Reply).
-/
import Derived.Test.YtekfcbedlokidaaGreatDoorH32
import Derived.Test.YtekfcbedlokidaaGreatDoorH29
namespace Go.Proofs.YtekfcbedlokidaaGreatDoor.Ms
open Go Go.RowKit
set_option maxRecDepth 100000
theorem args5 {x c y d z e u f v k : Value} (h : x = c) (i : y = d) (l : z = e) (m : u = f) (n : v = k) : [x, y, z, u, v].toArray = #[c, d, e, f, k] := by rw [h, i, l, m, n]
set_option maxHeartbeats 16000000 in
theorem ureply_core {w : World} {G p : Nat} {me yn : Int} {vw nv : List UInt8} {R0 R1 R2 A2 A4 C2 VA VR MV GV Z ZS : List Value} (hR : w.heap[G]? = some (.cells R0.toArray 109))
    (HM : Hid (∀ W : World, W.heap[G]? = some (.cells R0.toArray 109) → Calls Tryz.prog 49 #[pt G 0] W fun e w' => e = .returned (.bool true) ∧ w' = W))
    (HBz : Hid (∀ W : World, W.heap[G]? = some (.cells R0.toArray 109) → Calls Tryz.prog 16 #[pt G 0] W fun e w' => e = .returned (.bool true) ∧ w' = W))
    (HMy : Hid (∀ W, Below w.heap.size w W → Calls Tryz.prog 80 #[.agg MV.toArray] W fun e w' => e = .returned (.bool true) ∧ Below W.heap.size W w'))
    (HCk0 : Hid (∀ W, Below w.heap.size w W → Calls Tryz.prog 5 #[pt p 0, nu me, st vw, .agg VA.toArray, .agg VR.toArray] W fun e w' => e = .returned (.tuple #[.agg GV.toArray, nu 0]) ∧ Below W.heap.size W w'))
    (HG : Hid (∀ W : World, W.heap[G]? = some (.cells R0.toArray 109) → W.cell? ⟨G, 0, none⟩ = some (pt p 0) ∧ W.cell? ⟨G, 1, none⟩ = some (nu me) ∧ W.cell? ⟨G, 2, none⟩ = some (st vw) ∧ (∀ j u, VA[j]? = some u → W.cell? ⟨G, 4 + j, none⟩ = some u) ∧ W.cell? ⟨G, 4, none⟩ = some (nu yn)))
    (HX : Hid (∀ (W : World) (x : Nat), W.heap[x]? = some (.cells MV.toArray 97) → W.cell? ⟨x, 0, none⟩ = some (nu 2) ∧ (∀ j u, VR[j]? = some u → W.cell? ⟨x, 70 + j, none⟩ = some u) ∧ W.cell? ⟨x, 70, none⟩ = some (nu yn)))
    (HN : Hid (∀ (W : World) (x : Nat), W.heap[x]? = some (.cells GV.toArray 34) → W.cell? ⟨x, 0, none⟩ = some (st nv)))
    (E0 : Hid (R0 = A2 ++ ([st vw] ++ C2))) (E1 : Hid (R1 = A2 ++ ([st nv] ++ C2))) (E2 : Hid (R1 = A4 ++ (VA ++ []))) (E3 : Hid (R2 = A4 ++ (ZS ++ []))) (hA2 : A2.length = 2) (hA4 : A4.length = 4) (LA : VA.length = ZS.length) (OS : Hid (∀ u ∈ ZS, u.oneCell' = true)) (ZSz : Hid ((Tryz.prog.info? 25).map (·.size) = some ZS.length)) (HBs : Hid (∀ W, (Instr.build 25 #[]).run Tryz.prog W = .ok (.agg ZS.toArray) W))
    (ZA : (Tryz.prog.info? 25).map (·.size) = some VA.length) (ZR : (Tryz.prog.info? 28).map (·.size) = some VR.length) (ZM : Hid ((Tryz.prog.info? 97).map (·.size) = some MV.length)) (ZZ : (Tryz.prog.info? 34).map (·.zero) = some (some (.agg Z.toArray))) (LZ : Z.length = 70) (LG : GV.length = 70) (OG : Hid (∀ u ∈ GV, u.oneCell' = true)) (ZG : Hid ((Tryz.prog.info? 34).map (·.size) = some GV.length)) :
    Calls Tryz.prog 36 #[pt G 0, .agg MV.toArray] w fun e w' => e = .returned (.tuple #[.agg GV.toArray, nu 0]) ∧ w'.heap[G]? = some (.cells R2.toArray 109) ∧ Kp [G] w w' := by
  have e1 : (w.alloc (.cells MV.toArray 97)).heap.size = w.heap.size + 1 := by simp
  have b0 := below_a1 w (.cells MV.toArray 97)
  have b1 := below_a1 (w.alloc (.cells MV.toArray 97)) (.cells Z.toArray 34)
  have T0 := hid (row_kept (top_obj w (.cells MV.toArray 97)) b1)
  have Y0 := hid (top_obj (w.alloc (.cells MV.toArray 97)) (.cells Z.toArray 34))
  rw [e1] at Y0
  have B0 := hid (below_two b0 b1)
  have G0 := hid (row_kept hR B0.out)
  have hGl := row_ltA hR
  clear hR b0 b1
  go_enter Tryz.func36, Tryz.ntmps36
  go_upto_region 1 with ((with_reducible refine wl_alloc 34 ?_ ?_ Z.toArray ZZ ?_); exact rfl; exact rfl)
  try simp only [Act.put, List.setIfInBounds_toArray, List.set_cons_zero, List.set_cons_succ, e1]
  generalize (w.alloc (.cells MV.toArray 97)).alloc (.cells Z.toArray 34) = W0 at *
  clear e1
  generalize hY : w.heap.size + 1 = Y at *
  generalize hX : w.heap.size = X at *
  have hB0 : X ≤ W0.heap.size := hX ▸ B0.out.size
  go_wp2_with fail
  refine (HM.out _ G0.out).mono ?_
  rintro e w1 ⟨rfl, hw1⟩
  subst w1
  have ck := (HX.out _ _ T0.out).1
  go_wp2_with ((with_reducible refine wl_load 97 (.tmp 3) ?_ X 0 ?_ ?_ MV _ (row_zeroY T0.out) Tryz.underlying97 ?_ ZM.out ?_); exact rfl; exact rfl; exact rfl; exact rfl)
  refine (HMy.out _ B0.out).mono ?_
  rintro e W1 ⟨rfl, b1⟩
  have B1 := hid (B0.out.trans (b1.mono hB0))
  have G1 := hid (row_kept G0.out b1)
  have T1 := hid (row_kept T0.out b1)
  have Y1 := hid (row_kept Y0.out b1)
  clear b1 ck G0 T0 Y0 B0
  have hB1 : X ≤ W1.heap.size := hX ▸ B1.out.size
  go_upto_region 5 with fail
  have H1 := regr (w := W1) (fun W hb => (HBz.out W (row_kept G1.out hb)).mono (fun _ _ q => ⟨q.1, by rw [q.2]; exact Below.refl _ _⟩))
  have hc1 : ∀ dd os, (Sort.grow (redrawn W1 dd) os).cell? ⟨X, 70, none⟩ = some (nu yn) := fun dd os => cell_regrown (HX.out _ _ T1.out).2.2 _ _
  have hc2 : ∀ dd os, (Sort.grow (redrawn W1 dd) os).cell? ⟨G, 4, none⟩ = some (nu yn) := fun dd os => cell_regrown (HG.out _ G1.out).2.2.2.2 _ _
  refine wp_region_quiet_below (by kernel_rfl) (by kernel_rfl) ?_
  repeat (first | go_big_quiet_step (exact H1.out _ _) | quiet_step (exact H1.out _ _))
  refine wpQuiet_nil ?_
  intro _ hw'
  obtain ⟨⟨dq, osq⟩, hw''⟩ := hw'
  subst hw''
  have b2 := below_regrown W1 dq osq
  have B2 := hid (B1.out.trans (b2.mono hB1))
  have G2 := hid (row_kept G1.out b2)
  have T2 := hid (row_kept T1.out b2)
  have Y2 := hid (row_kept Y1.out b2)
  clear hc1 hc2 H1 b2 G1 T1 Y1 B1
  generalize Sort.grow (redrawn W1 dq) osq = W2 at *
  have hB2 : X ≤ W2.heap.size := hX ▸ B2.out.size
  obtain ⟨g0, g1, g2, g4, -⟩ := HG.out _ G2.out
  have CG0 := hid g0
  have CG1 := hid g1
  have CG2 := hid g2
  have CG4 := hid g4
  have CX70 := hid (HX.out _ _ T2.out).2.1
  have HCk := hid (fun W (hb : Below W2.heap.size W2 W) => HCk0.out W (B2.out.trans (hb.mono hB2)))
  clear g0 g1 g2 g4
  go_upto_region 7 with fail
  refine wp_region_nj (N := 72) 22 23 6 34 70 GV W2.heap.size [(pt G 0), (pt G 0), (pt G 0), (pt p 0), (pt G 0), (pt G 0), (pt G 1), (nu me), (pt G 0), (pt G 0), (pt G 2), (st vw), (pt G 0), (pt G 0), (pt G 4), (.agg (VA).toArray), (pt X 70), (.agg (VR).toArray), (.tuple #[(.agg GV.toArray), (nu 0)]), (.tuple #[(.agg GV.toArray), (nu 0)]), (.agg GV.toArray), (nu 0), undef, undef, (nu 0)] (fun _ w => Below W2.heap.size W2 w) (fun g => [(37, (pt G 0)), (38, (pt G 0)), (39, (pt G 0)), (40, (pt p 0)), (41, (pt G 0)), (42, (pt G 0)), (43, (pt G 1)), (44, (nu me)), (45, (pt G 0)), (46, (pt G 0)), (47, (pt G 2)), (48, (st vw)), (49, (pt G 0)), (50, (pt G 0)), (51, (pt G 4)), (52, (.agg (VA).toArray)), (53, (pt X 70)), (54, (.agg (VR).toArray)), (55, (.tuple #[(.agg GV.toArray), (nu 0)])), (36, (.tuple #[(.agg GV.toArray), (nu 0)])), (56, (.agg GV.toArray)), (57, (nu 0)), (6, (pt g 0)), (7, (nu 0))]) (by kernel_rfl) (by kernel_rfl) rfl (by kernel_rfl) (by decide) (by simp) (fun g => by kernel_rfl) (fun _ h => h) ?_ ?_
  · intro i o ho
    match i, ho with
    | 0, ho => cases ho; exact oweN (pt G 0) (by decide) (by decide) rfl (fun L a w hLi hJ hw hnot hk hv K h => op_move 0 _ rfl (hk 0 (by kernel_rfl)) (h _ hJ (fun _ _ _ e => e)))
    | 1, ho => cases ho; exact oweN (pt G 0) (by decide) (by decide) rfl (fun L a w hLi hJ hw hnot hk hv K h => op_nil 37 G 0 rfl (hv 0 37 (by kernel_rfl) (by decide) (by kernel_rfl)) (h _ hJ (fun _ _ _ e => e)))
    | 2, ho => cases ho; exact oweN (pt G 0) (by decide) (by decide) rfl (fun L a w hLi hJ hw hnot hk hv K h => op_fa 38 _ 0 G 0 0 rfl (fun W => by kernel_rfl) (hv 1 38 (by kernel_rfl) (by decide) (by kernel_rfl)) (h _ hJ (fun _ _ _ e => e)))
    | 3, ho => cases ho; exact oweN (pt p 0) (by decide) (by decide) rfl (fun L a w hLi hJ hw hnot hk hv K h => op_load1 _ (.tmp 39) rfl G 0 (hv 2 39 (by kernel_rfl) (by decide) (by kernel_rfl)) (pt p 0) _ (cell_keptY CG0.out hJ) Tryz.underlying42 rfl (h _ hJ (fun _ _ _ e => e)))
    | 4, ho => cases ho; exact oweN (pt G 0) (by decide) (by decide) rfl (fun L a w hLi hJ hw hnot hk hv K h => op_move 0 _ rfl (hk 0 (by kernel_rfl)) (h _ hJ (fun _ _ _ e => e)))
    | 5, ho => cases ho; exact oweN (pt G 0) (by decide) (by decide) rfl (fun L a w hLi hJ hw hnot hk hv K h => op_nil 41 G 0 rfl (hv 4 41 (by kernel_rfl) (by decide) (by kernel_rfl)) (h _ hJ (fun _ _ _ e => e)))
    | 6, ho => cases ho; exact oweN (pt G 1) (by decide) (by decide) rfl (fun L a w hLi hJ hw hnot hk hv K h => op_fa 42 _ 1 G 0 1 rfl (fun W => by kernel_rfl) (hv 5 42 (by kernel_rfl) (by decide) (by kernel_rfl)) (h _ hJ (fun _ _ _ e => e)))
    | 7, ho => cases ho; exact oweN (nu me) (by decide) (by decide) rfl (fun L a w hLi hJ hw hnot hk hv K h => op_load1 _ (.tmp 43) rfl G 1 (hv 6 43 (by kernel_rfl) (by decide) (by kernel_rfl)) (nu me) _ (cell_keptY CG1.out hJ) Tryz.underlying3 rfl (h _ hJ (fun _ _ _ e => e)))
    | 8, ho => cases ho; exact oweN (pt G 0) (by decide) (by decide) rfl (fun L a w hLi hJ hw hnot hk hv K h => op_move 0 _ rfl (hk 0 (by kernel_rfl)) (h _ hJ (fun _ _ _ e => e)))
    | 9, ho => cases ho; exact oweN (pt G 0) (by decide) (by decide) rfl (fun L a w hLi hJ hw hnot hk hv K h => op_nil 45 G 0 rfl (hv 8 45 (by kernel_rfl) (by decide) (by kernel_rfl)) (h _ hJ (fun _ _ _ e => e)))
    | 10, ho => cases ho; exact oweN (pt G 2) (by decide) (by decide) rfl (fun L a w hLi hJ hw hnot hk hv K h => op_fa 46 _ 2 G 0 2 rfl (fun W => by kernel_rfl) (hv 9 46 (by kernel_rfl) (by decide) (by kernel_rfl)) (h _ hJ (fun _ _ _ e => e)))
    | 11, ho => cases ho; exact oweN (st vw) (by decide) (by decide) rfl (fun L a w hLi hJ hw hnot hk hv K h => op_load1 _ (.tmp 47) rfl G 2 (hv 10 47 (by kernel_rfl) (by decide) (by kernel_rfl)) (st vw) _ (cell_keptY CG2.out hJ) Tryz.underlying9 rfl (h _ hJ (fun _ _ _ e => e)))
    | 12, ho => cases ho; exact oweN (pt G 0) (by decide) (by decide) rfl (fun L a w hLi hJ hw hnot hk hv K h => op_move 0 _ rfl (hk 0 (by kernel_rfl)) (h _ hJ (fun _ _ _ e => e)))
    | 13, ho => cases ho; exact oweN (pt G 0) (by decide) (by decide) rfl (fun L a w hLi hJ hw hnot hk hv K h => op_nil 49 G 0 rfl (hv 12 49 (by kernel_rfl) (by decide) (by kernel_rfl)) (h _ hJ (fun _ _ _ e => e)))
    | 14, ho => cases ho; exact oweN (pt G 4) (by decide) (by decide) rfl (fun L a w hLi hJ hw hnot hk hv K h => op_fa 50 _ 4 G 0 4 rfl (fun W => by kernel_rfl) (hv 13 50 (by kernel_rfl) (by decide) (by kernel_rfl)) (h _ hJ (fun _ _ _ e => e)))
    | 15, ho => cases ho; exact oweN (.agg (VA).toArray) (by decide) (by decide) rfl (fun L a w hLi hJ hw hnot hk hv K h => op_load _ (.tmp 51) rfl G 4 (hv 14 51 (by kernel_rfl) (by decide) (by kernel_rfl)) (VA) _ (seg_keptY CG4.out hJ) Tryz.underlying25 rfl ZA (h _ hJ (fun _ _ _ e => e)))
    | 16, ho => cases ho; exact oweN (pt X 70) (by decide) (by decide) rfl (fun L a w hLi hJ hw hnot hk hv K h => op_fa 3 _ 3 X 0 70 rfl (fun W => by kernel_rfl) (hk 3 (by kernel_rfl)) (h _ hJ (fun _ _ _ e => e)))
    | 17, ho => cases ho; exact oweN (.agg (VR).toArray) (by decide) (by decide) rfl (fun L a w hLi hJ hw hnot hk hv K h => op_load _ (.tmp 53) rfl X 70 (hv 16 53 (by kernel_rfl) (by decide) (by kernel_rfl)) (VR) _ (seg_keptY CX70.out hJ) Tryz.underlying28 rfl ZR (h _ hJ (fun _ _ _ e => e)))
    | 18, ho => cases ho; exact oweN (.tuple #[(.agg GV.toArray), (nu 0)]) (by decide) (by decide) rfl (fun L a w hLi hJ hw hnot hk hv K h => op_call 5 [.tmp 40, .tmp 44, .tmp 48, .tmp 52, .tmp 54] _ #[(pt p 0), (nu me), (st vw), (.agg (VA).toArray), (.agg (VR).toArray)] (.tuple #[(.agg GV.toArray), (nu 0)]) rfl (fun _ _ => by kernel_rfl) (args5 (hv 3 40 (by kernel_rfl) (by decide) (by kernel_rfl)) (hv 7 44 (by kernel_rfl) (by decide) (by kernel_rfl)) (hv 11 48 (by kernel_rfl) (by decide) (by kernel_rfl)) (hv 15 52 (by kernel_rfl) (by decide) (by kernel_rfl)) (hv 17 54 (by kernel_rfl) (by decide) (by kernel_rfl))) (J := fun w1 => Below w.heap.size w w1) (HCk.out w hJ) (fun w1 e1 => h _ (hJ.trans (e1.mono hJ.size)) (fun _ _ _ e => row_kept e e1)))
    | 19, ho => cases ho; exact oweN (.tuple #[(.agg GV.toArray), (nu 0)]) (by decide) (by decide) rfl (fun L a w hLi hJ hw hnot hk hv K h => op_move 55 _ rfl (hv 18 55 (by kernel_rfl) (by decide) (by kernel_rfl)) (h _ hJ (fun _ _ _ e => e)))
    | 20, ho => cases ho; exact oweN (.agg GV.toArray) (by decide) (by decide) rfl (fun L a w hLi hJ hw hnot hk hv K h => op_extract 36 0 #[(.agg GV.toArray), (nu 0)] _ rfl (hv 19 36 (by kernel_rfl) (by decide) (by kernel_rfl)) rfl (h _ hJ (fun _ _ _ e => e)))
    | 21, ho => cases ho; exact oweN (nu 0) (by decide) (by decide) rfl (fun L a w hLi hJ hw hnot hk hv K h => op_extract 36 1 #[(.agg GV.toArray), (nu 0)] _ rfl (hv 19 36 (by kernel_rfl) (by decide) (by kernel_rfl)) rfl (h _ hJ (fun _ _ _ e => e)))
    | 22, ho => cases ho; exact oweN_alloc rfl Z ZZ LZ _ rfl (by kernel_rfl) (by decide) (fun _ _ h => h.size) (fun _ w o h => h.trans ((below_a1 w o).mono h.size))
    | 23, ho => cases ho; exact oweN_store 6 56 rfl rfl (by kernel_rfl) 20 (by kernel_rfl) (by decide) (by kernel_rfl) (by kernel_rfl) rfl LG OG.out ZG.out (fun _ w w2 g _ h hg _ hb => hb.below h hg)
    | 24, ho => cases ho; exact oweN (nu 0) (by decide) (by decide) rfl (fun L a w hLi hJ hw hnot hk hv K h => op_assign 57 _ rfl (hv 21 57 (by kernel_rfl) (by decide) (by kernel_rfl)) (h _ hJ (fun _ _ _ e => e)))
    | (i + 25), ho => exact absurd ho (by simp)
  intro gN LL W3 hgN hrN _ hJ
  simp only [List.foldl_cons, List.foldl_nil, List.setIfInBounds_toArray, List.set_cons_zero, List.set_cons_succ]
  have B3 := hid (B2.out.trans (hJ.mono hB2))
  have G3 : Hid (W3.heap[G]? = some (.cells (A2 ++ ([st vw] ++ C2)).toArray 109)) := by
    have e := row_kept G2.out hJ
    rw [E0.out] at e
    exact e
  have Y3 := hid (row_kept Y2.out hJ)
  have N3 := hid hrN
  have cn0 := HN.out _ _ hrN
  have hGN : gN ≠ G := by have := row_ltA G2.out; omega
  have hYl := row_ltA Y2.out
  have hYN : gN ≠ Y := by omega
  have hYG : Y ≠ G := by omega
  clear hJ hrN G2 T2 Y2 CG0 CG1 CG2 CG4 CX70 HCk B2
  go_upto_region 11 with (first
    | ((with_reducible refine wl_build 25 ?_ ?_ ZS.toArray (HBs.out _) ?_); exact rfl; exact rfl)
    | ((with_reducible refine wl_put1 9 (.tmp 68) (.tmp 65) ?_ ?_ G 2 ?_ ?_ A2 C2 (st vw) (st nv) ?_ 109 G3.out hA2 ?_ ?_ ?_); exact rfl; exact rfl; exact rfl; exact rfl; exact rfl; exact rfl; kernel_rfl; intro W4 r4 b4; rw [← E1.out, E2.out] at r4)
    | ((with_reducible refine wl_put 25 (.tmp 70) (.tmp 66) ?_ ?_ G 4 ?_ ?_ A4 ZS VA [] ?_ 109 r4 hA4 LA OS.out ZSz.out ?_); exact rfl; exact rfl; exact rfl; exact rfl; exact rfl; intro W5 r5 b5; rw [← E3.out] at r5))
  have G5 := hid r5
  have Y5 := hid (b5.row (b4.row Y3.out hYG) hYG)
  have N5 := hid (b5.row (b4.row N3.out hGN) hGN)
  have K5 : Hid (Kp [G] w W5) := ((Kp.of (hX ▸ B3.out : Below w.heap.size w W3)).but b4 (Or.inl (by simp))).but b5 (Or.inl (by simp))
  clear r4 b4 r5 b5 G3 Y3 N3 B3 cn0
  go_wp2_with (first
    | ((with_reducible refine wl_load 34 (.tmp 6) ?_ gN 0 ?_ ?_ GV _ (row_zeroY N5.out) Tryz.underlying34 ?_ ZG.out ?_); exact rfl; exact rfl; exact rfl; exact rfl)
    | ((with_reducible refine wl_put 34 (.tmp 4) (.tmp 71) ?_ ?_ Y 0 ?_ ?_ [] GV Z [] ?_ 34 (row_nilY Y5.out) rfl (LZ.trans LG.symm) OG.out ZG.out ?_); exact rfl; exact rfl; exact rfl; exact rfl; exact rfl; intro W6 hr6 hbut))
  have hr7 : W6.heap[Y]? = some (.cells GV.toArray 34) := by simpa using hr6
  refine bodyPost_ret_by (results_ctY (fn := Tryz.f36) (p := 4) (u := 5) (ty := 34) (by kernel_rfl) _ _ Y 34 GV.toArray (0, 0) _ rfl hr7 Tryz.underlying34 rfl (by rw [List.size_toArray]; exact ZG.out)) rfl ?_
  exact ⟨rfl, hbut.row G5.out (Ne.symm hYG), K5.out.but hbut (Or.inr (by omega))⟩
end Go.Proofs.YtekfcbedlokidaaGreatDoor.Ms
