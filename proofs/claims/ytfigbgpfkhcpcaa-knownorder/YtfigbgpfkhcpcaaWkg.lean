/-
  The walk of KnownGrows: what is known only grows.
-/
import Derived.Test.YtfigbgpfkhcpcaaWkl
namespace Go.Proofs.Ytfigbgpfkhcpcaa.Kn
open Go Go.RowKit
set_option maxRecDepth 100000

set_option maxHeartbeats 16000000 in
theorem grows_bad {w : World} (n me : Int) {SV : Value}
    (HN : Hid (∀ W, Calls Try.prog 27 #[nu n, nu me] W fun e w' => e = .returned (.tuple #[.pointer none, nu 2]) ∧ w' = W))
    (HA : Hid (∀ W, Calls Try.prog 10 #[] W fun e w' => e = .returned (.bool true) ∧ Below W.heap.size W w')) :
    Calls Try.prog 5 #[nu n, nu me, SV] w fun e w' => e = .returned (.bool true) ∧ Below w.heap.size w w' := by
  go_enter Try.func5, Try.ntmps5
  go_wp2_with fail
  refine (HN.out _).mono ?_
  rintro e W2 ⟨rfl, hw⟩
  subst W2
  go_wp2_with fail
  refine (HA.out _).mono ?_
  rintro e W3 ⟨rfl, b3⟩
  have B3 := hid b3
  clear b3
  go_wp2
  go_ret
  exact ⟨rfl, B3.out⟩
set_option maxHeartbeats 16000000 in
theorem grows_core {w : World} (n : Nat) (me : Int) (hn8 : n ≤ 8) {ad : Option Addr} {len cap : Nat} {FL : List Ln} (hw : ∀ x ∈ FL, x.Wf) (hFl : FL.length ≤ 25) {S : Nat → Nat → World → Prop} {T : Nat → List UInt8} {by' : Nat → Int} {tg : Nat → List UInt8} {SL : Nat → List Int} {cn sn E : Nat → Int} {D0 : List Value}
    (HN : Hid (∀ W, Below w.heap.size w W → Calls Try.prog 27 #[nu n, nu me] W fun e w' => ∃ p, e = .returned (.tuple #[pt p 0, nu 0]) ∧ S p 0 w' ∧ Below W.heap.size W w' ∧ w.heap.size ≤ p))
    (HF : Hid (∀ W, Below w.heap.size w W → Calls Try.prog 28 #[.slice ad len cap] W fun e w' => ∃ v, e = .returned v ∧ OwnB w' w.heap.size v FL ∧ Below W.heap.size W w'))
    (HA : Hid (∀ W, Calls Try.prog 10 #[] W fun e w' => e = .returned (.bool true) ∧ Below W.heap.size W w'))
    (HK : Hid (∀ p k W W', S p k W → Below W.heap.size W W' → S p k W'))
    (HO : Hid (∀ p k W W' v, S p k W → OwnB W w.heap.size v FL → Kp [p] W W' → OwnB W' w.heap.size v FL))
    (HPl : Hid (∀ p k W, S p k W → p < W.heap.size))
    (HLn : Hid (∀ p k W (hk : k < FL.length), S p k W → Calls Try.prog 29 #[pt p 0, nu FL[k].fro, nu FL[k].byc, st FL[k].view, .agg (dg FL[k].tag).toArray] W fun e w' => e = .returned (nu (E k)) ∧ S p (k + 1) w' ∧ Kp [p] W w'))
    (HL : Hid (∀ p k W, S p k W → Calls Try.prog 15 #[pt p 0] W fun e w' => e = .returned (.tuple #[st (T k), nu (by' k), .agg (dg (tg k)).toArray]) ∧ Below W.heap.size W w'))
    (HS : Hid (∀ p k W, S p k W → Calls Try.prog 18 #[pt p 0] W fun e w' => ∃ g, e = .returned (.slice (some ⟨g, 0, none⟩) n n) ∧ W.heap.size ≤ g ∧ w'.heap[g]? = some (.cells (ic (SL k)).toArray 3) ∧ Below W.heap.size W w'))
    (HC : Hid (∀ p k W, S p k W → Calls Try.prog 20 #[pt p 0] W fun e w' => e = .returned (nu (cn k)) ∧ Below W.heap.size W w'))
    (HE : Hid (∀ p k W, S p k W → Calls Try.prog 22 #[pt p 0] W fun e w' => e = .returned (nu (sn k)) ∧ Below W.heap.size W w'))
    (HG : Hid (∀ k W, k < FL.length → Calls Try.prog 24 #[st (T (k + 1)), st (T k)] W fun e w' => e = .returned (.bool true) ∧ Below W.heap.size W w'))
    (HI : Hid (∀ k W u u', IntsAt W u (SL k) → IntsAt W u' (SL k) → Calls Try.prog 17 #[u, u'] W fun e w' => e = .returned (.bool true) ∧ Below W.heap.size W w'))
    (HM : Hid (∀ k, k < FL.length → cn k ≤ cn (k + 1) ∧ sn k ≤ sn (k + 1) ∧ ∀ j, (SL k).getD j 0 ≤ (SL (k + 1)).getD j 0))
    (HQ : Hid (∀ k, k < FL.length → (E k != 0) = false ∨ ((E k != 0) = true ∧ T (k + 1) = T k ∧ SL (k + 1) = SL k)))
    (HSn : Hid (∀ k, (SL k).length = n)) (HT : Hid (∀ k, (tg k).length = 32)) (hD0 : dg (List.replicate 32 0) = D0) :
    Calls Try.prog 5 #[nu n, nu me, .slice ad len cap] w fun e w' => e = .returned (.bool true) ∧ Below w.heap.size w w' := by
  have HFw := hid hw
  have hz := zeroDg
  have LD : Hid (∀ k, D0.length = (dg (tg k)).length) := hid (fun k => by rw [← hD0, dg_len, dg_len, HT.out k, List.length_replicate])
  rw [hD0] at hz
  clear hD0 hw
  go_enter Try.func5, Try.ntmps5
  go_wp2_with fail
  refine (HN.out _ (Below.refl _ _)).mono ?_
  rintro e W1 ⟨p, rfl, s1, b1, hpw⟩
  have S1 := hid s1
  have B1 := hid b1
  clear s1 b1
  go_wp2_with fail
  refine (HF.out _ B1.out).mono ?_
  rintro e W2 ⟨vF, rfl, o2, b2⟩
  have S2' := hid (HK.out _ _ _ _ S1.out b2)
  have B2 := hid (below_twoY B1.out b2 B1.out.size)
  have O2 := hid o2
  obtain ⟨va, vc, hv⟩ := OwnB.nil_val (own_zero o2)
  subst hv
  clear o2 b2 S1 B1 HF HN
  go_wp2
  go_loopw [9] (fun i wr => ∃ k : Nat, k ≤ FL.length ∧ i = nu k ∧ Hid (S p k wr) ∧ Hid (OwnB wr w.heap.size (.slice va FL.length vc) FL) ∧ Hid (Below w.heap.size w wr)) (fun i _ => FL.length - (intOf i).toNat)
  case atStart => exact ⟨0, by omega, rfl, S2', O2, B2⟩
  case round =>
    obtain ⟨k, hk, rfl, HS', HOw, HBl⟩ := hrel
    by_cases hlt : k < FL.length
    · have d1 : decide ((k : Int) < (FL.length : Int)) = true := decide_eq_true (by omega)
      have d1' : decide (k < FL.length) = true := decide_eq_true hlt
      clear S2' O2 B2
      obtain ⟨g, cap', ev, hcx⟩ := own_cells HOw.out HFw.out hlt
      cases ev
      have hxw : FL[k].Wf := HFw.out _ (List.getElem_mem hlt)
      have HLr : Hid (∀ W, S p k W → Calls Try.prog 29 #[pt p 0, nu FL[k].fro, nu FL[k].byc, st FL[k].view, .agg (dg FL[k].tag).toArray] W fun e w' => e = .returned (nu (E k)) ∧ S p (k + 1) w' ∧ Kp [p] W w') := fun W h => HLn.out p k W hlt h
      have CX : Hid (∀ W, OwnB W w.heap.size (.slice (some ⟨g, 0, none⟩) FL.length vc) FL → ∀ j c, (lnC FL[k])[j]? = some c → W.cell? ⟨g, 0 + k * 35 + j, none⟩ = some c) := hcx
      have ZT := hid (sizeDg hxw)
      generalize FL[k] = x at *
      obtain ⟨fr, bc, vw, tx⟩ := x
      simp only at *
      have CT : Hid (∀ W, OwnB W w.heap.size (.slice (some ⟨g, 0, none⟩) FL.length vc) FL → ∀ j c, (dg tx)[j]? = some c → W.cell? ⟨g, 0 + k * 35 + 3 + j, none⟩ = some c) := fun W hW j c hj => by
        have := CX.out W hW (3 + j) c (by
          show ([nu fr, nu bc, st vw] ++ dg tx)[3 + j]? = some c
          rw [List.getElem?_append_right (by simp)]
          simpa using hj)
        rwa [← Nat.add_assoc] at this
      clear hcx
      go_wp2_with fail
      refine (HL.out _ _ _ HS'.out).mono ?_
      rintro e W4 ⟨rfl, bb⟩
      have S4 := hid (HK.out _ _ _ _ HS'.out bb)
      have B4 := hid (below_twoY HBl.out bb HBl.out.size)
      have O4 := hid (own_kept HOw.out bb)
      clear bb
      obtain ⟨X4, hX⟩ : ∃ X, W4.heap.size = X := ⟨_, rfl⟩
      have T4 := hid (top_obj W4 (.cells D0.toArray 32))
      have A4 := hid (below_a1 W4 (.cells D0.toArray 32))
      rw [hX] at T4
      have HXe4 := hid hX
      clear hX
      have LD4 := hid (LD.out k)
      have OD4 := hid (one_dg (tg k))
      have ZD4 := hid (sizeDg (HT.out k))
      go_upto_region 9 with (first
        | ((with_reducible refine wl_alloc 32 ?_ ?_ D0.toArray hz ?_); exact rfl; exact rfl; rw [HXe4.out]; try simp only [Act.put, List.setIfInBounds_toArray, List.set_cons_zero, List.set_cons_succ])
        | ((with_reducible refine wl_put 32 (.tmp 12) (.tmp 52) ?_ ?_ X4 0 ?_ ?_ [] (dg (tg k)) D0 [] ?_ 32 (row_nilY T4.out) rfl LD4.out OD4.out ZD4.out ?_); exact rfl; exact rfl; exact rfl; exact rfl; exact rfl; intro W4p r6 b6))
      have b6' := b6.below A4.out (by rw [HXe4.out]; exact Nat.le_refl _)
      have S4p := hid (HK.out _ _ _ _ S4.out b6')
      have B4p := hid (below_twoY B4.out b6' B4.out.size)
      have O4p := hid (own_kept O4.out b6')
      clear r6 b6 b6' T4 A4 S4 B4 HXe4
      go_wp2_with fail
      refine (HS.out _ _ _ S4p.out).mono ?_
      rintro e W5 ⟨g1, rfl, hg1, r5, bb⟩
      have hgp : g1 ≠ p := by have := HPl.out _ _ _ S4p.out; omega
      have S5 := hid (HK.out _ _ _ _ S4p.out bb)
      have B5 := hid (below_twoY B4p.out bb B4p.out.size)
      have O5 := hid (own_kept O4p.out bb)
      have R5 := hid r5
      clear bb r5 hg1 S4p B4p O4p O4
      go_wp2_with fail
      refine (HC.out _ _ _ S5.out).mono ?_
      rintro e W6 ⟨rfl, bb⟩
      have S6 := hid (HK.out _ _ _ _ S5.out bb)
      have B6 := hid (below_twoY B5.out bb B5.out.size)
      have O6 := hid (own_kept O5.out bb)
      have R6 := hid (row_kept R5.out bb)
      clear bb S5 B5 O5 R5
      go_wp2_with fail
      refine (HE.out _ _ _ S6.out).mono ?_
      rintro e W7 ⟨rfl, bb⟩
      have S7 := hid (HK.out _ _ _ _ S6.out bb)
      have B7 := hid (below_twoY B6.out bb B6.out.size)
      have O7 := hid (own_kept O6.out bb)
      have R7 := hid (row_kept R6.out bb)
      clear bb S6 B6 O6 R6
      go_upto_region 10 with fail
      refine wp_region_cs (N := 147) [(pt p 0), (Value.slice (some ⟨g, 0, none⟩) FL.length vc), (nu (k : Int)), (pt g (0 + k * 35)), (pt g (0 + k * 35 + 0)), (nu fr), (Value.slice (some ⟨g, 0, none⟩) FL.length vc), (nu (k : Int)), (pt g (0 + k * 35)), (pt g (0 + k * 35 + 1)), (nu bc), (Value.slice (some ⟨g, 0, none⟩) FL.length vc), (nu (k : Int)), (pt g (0 + k * 35)), (pt g (0 + k * 35 + 2)), (st vw), (Value.slice (some ⟨g, 0, none⟩) FL.length vc), (nu (k : Int)), (pt g (0 + k * 35)), (pt g (0 + k * 35 + 3)), (.agg (dg tx).toArray), (nu (E k)), (nu (E k))] (fun L W => S p (bif L 21 then k + 1 else k) W ∧ OwnB W w.heap.size (.slice (some ⟨g, 0, none⟩) FL.length vc) FL ∧ W.heap[g1]? = some (.cells (ic (SL k)).toArray 3) ∧ Below w.heap.size w W) [(59, (pt p 0)), (60, (Value.slice (some ⟨g, 0, none⟩) FL.length vc)), (61, (nu (k : Int))), (62, (pt g (0 + k * 35))), (63, (pt g (0 + k * 35 + 0))), (64, (nu fr)), (65, (Value.slice (some ⟨g, 0, none⟩) FL.length vc)), (66, (nu (k : Int))), (67, (pt g (0 + k * 35))), (68, (pt g (0 + k * 35 + 1))), (69, (nu bc)), (70, (Value.slice (some ⟨g, 0, none⟩) FL.length vc)), (71, (nu (k : Int))), (72, (pt g (0 + k * 35))), (73, (pt g (0 + k * 35 + 2))), (74, (st vw)), (75, (Value.slice (some ⟨g, 0, none⟩) FL.length vc)), (76, (nu (k : Int))), (77, (pt g (0 + k * 35))), (78, (pt g (0 + k * 35 + 3))), (79, (.agg (dg tx).toArray)), (80, (nu (E k))), (16, (nu (E k)))] (by kernel_rfl) (by kernel_rfl) rfl (fun w1 hb => ⟨HK.out _ _ _ _ S7.out hb, own_kept O7.out hb, row_kept R7.out hb, below_twoY B7.out hb B7.out.size⟩) (by kernel_rfl) ?_ ?_
      · intro i o ho
        match i, ho with
        | 0, ho => cases ho; exact fun L a w1 hLi hw hnot hJ hk hv K h => op_move 7 _ rfl (hk 7 (by kernel_rfl)) (h _ hJ)
        | 1, ho => cases ho; exact fun L a w1 hLi hw hnot hJ hk hv K h => op_move 2 _ rfl (hk 2 (by kernel_rfl)) (h _ hJ)
        | 2, ho => cases ho; exact fun L a w1 hLi hw hnot hJ hk hv K h => op_move 9 _ rfl (hk 9 (by kernel_rfl)) (h _ hJ)
        | 3, ho => cases ho; exact fun L a w1 hLi hw hnot hJ hk hv K h => op_indexS 60 61 _ 36 rfl Try.underlying22 35 sizeLn g 0 FL.length vc k hlt (hv 1 60 (by kernel_rfl) (by kernel_rfl)) (hv 2 61 (by kernel_rfl) (by kernel_rfl)) (h _ hJ)
        | 4, ho => cases ho; exact fun L a w1 hLi hw hnot hJ hk hv K h => op_fa 62 _ 0 g (0 + k * 35) 0 rfl (fun W => by kernel_rfl) (hv 3 62 (by kernel_rfl) (by kernel_rfl)) (h _ hJ)
        | 5, ho => cases ho; exact fun L a w1 hLi hw hnot hJ hk hv K h => op_load1 _ (.tmp 63) rfl g (0 + k * 35 + 0) (hv 4 63 (by kernel_rfl) (by kernel_rfl)) (nu fr) _ (CX.out _ hJ.2.1 0 _ rfl) Try.underlying3 rfl (h _ hJ)
        | 6, ho => cases ho; exact fun L a w1 hLi hw hnot hJ hk hv K h => op_move 2 _ rfl (hk 2 (by kernel_rfl)) (h _ hJ)
        | 7, ho => cases ho; exact fun L a w1 hLi hw hnot hJ hk hv K h => op_move 9 _ rfl (hk 9 (by kernel_rfl)) (h _ hJ)
        | 8, ho => cases ho; exact fun L a w1 hLi hw hnot hJ hk hv K h => op_indexS 65 66 _ 36 rfl Try.underlying22 35 sizeLn g 0 FL.length vc k hlt (hv 6 65 (by kernel_rfl) (by kernel_rfl)) (hv 7 66 (by kernel_rfl) (by kernel_rfl)) (h _ hJ)
        | 9, ho => cases ho; exact fun L a w1 hLi hw hnot hJ hk hv K h => op_fa 67 _ 1 g (0 + k * 35) 1 rfl (fun W => by kernel_rfl) (hv 8 67 (by kernel_rfl) (by kernel_rfl)) (h _ hJ)
        | 10, ho => cases ho; exact fun L a w1 hLi hw hnot hJ hk hv K h => op_load1 _ (.tmp 68) rfl g (0 + k * 35 + 1) (hv 9 68 (by kernel_rfl) (by kernel_rfl)) (nu bc) _ (CX.out _ hJ.2.1 1 _ rfl) Try.underlying3 rfl (h _ hJ)
        | 11, ho => cases ho; exact fun L a w1 hLi hw hnot hJ hk hv K h => op_move 2 _ rfl (hk 2 (by kernel_rfl)) (h _ hJ)
        | 12, ho => cases ho; exact fun L a w1 hLi hw hnot hJ hk hv K h => op_move 9 _ rfl (hk 9 (by kernel_rfl)) (h _ hJ)
        | 13, ho => cases ho; exact fun L a w1 hLi hw hnot hJ hk hv K h => op_indexS 70 71 _ 36 rfl Try.underlying22 35 sizeLn g 0 FL.length vc k hlt (hv 11 70 (by kernel_rfl) (by kernel_rfl)) (hv 12 71 (by kernel_rfl) (by kernel_rfl)) (h _ hJ)
        | 14, ho => cases ho; exact fun L a w1 hLi hw hnot hJ hk hv K h => op_fa 72 _ 2 g (0 + k * 35) 2 rfl (fun W => by kernel_rfl) (hv 13 72 (by kernel_rfl) (by kernel_rfl)) (h _ hJ)
        | 15, ho => cases ho; exact fun L a w1 hLi hw hnot hJ hk hv K h => op_load1 _ (.tmp 73) rfl g (0 + k * 35 + 2) (hv 14 73 (by kernel_rfl) (by kernel_rfl)) (st vw) _ (CX.out _ hJ.2.1 2 _ rfl) Try.underlying9 rfl (h _ hJ)
        | 16, ho => cases ho; exact fun L a w1 hLi hw hnot hJ hk hv K h => op_move 2 _ rfl (hk 2 (by kernel_rfl)) (h _ hJ)
        | 17, ho => cases ho; exact fun L a w1 hLi hw hnot hJ hk hv K h => op_move 9 _ rfl (hk 9 (by kernel_rfl)) (h _ hJ)
        | 18, ho => cases ho; exact fun L a w1 hLi hw hnot hJ hk hv K h => op_indexS 75 76 _ 36 rfl Try.underlying22 35 sizeLn g 0 FL.length vc k hlt (hv 16 75 (by kernel_rfl) (by kernel_rfl)) (hv 17 76 (by kernel_rfl) (by kernel_rfl)) (h _ hJ)
        | 19, ho => cases ho; exact fun L a w1 hLi hw hnot hJ hk hv K h => op_fa 77 _ 3 g (0 + k * 35) 3 rfl (fun W => by kernel_rfl) (hv 18 77 (by kernel_rfl) (by kernel_rfl)) (h _ hJ)
        | 20, ho => cases ho; exact fun L a w1 hLi hw hnot hJ hk hv K h => op_load _ (.tmp 78) rfl g (0 + k * 35 + 3) (hv 19 78 (by kernel_rfl) (by kernel_rfl)) (dg tx) _ (CT.out _ hJ.2.1) Try.underlying32 rfl ZT.out (h _ hJ)
        | 21, ho => cases ho; exact fun L a w1 hLi hw hnot hJ hk hv K h => op_call 29 [.tmp 59, .tmp 64, .tmp 69, .tmp 74, .tmp 79] _ #[(pt p 0), (nu fr), (nu bc), (st vw), (.agg (dg tx).toArray)] (nu (E k)) rfl (fun _ _ => by kernel_rfl) (args5 (hv 0 59 (by kernel_rfl) (by kernel_rfl)) (hv 5 64 (by kernel_rfl) (by kernel_rfl)) (hv 10 69 (by kernel_rfl) (by kernel_rfl)) (hv 15 74 (by kernel_rfl) (by kernel_rfl)) (hv 20 79 (by kernel_rfl) (by kernel_rfl))) (J := fun w2 => S p (k + 1) w2 ∧ Kp [p] w1 w2) (HLr.out _ (by have e := hJ.1; simp only [hLi, cond_false] at e; exact e)) (fun w2 e1 => h _ ⟨(by show S p (bif up L 21 21 then k + 1 else k) w2; rw [up_self]; exact e1.1), HO.out _ _ _ _ _ hJ.1 hJ.2.1 e1.2, e1.2.row hJ.2.2.1 (by simpa using hgp), hJ.2.2.2.trans (e1.2.below (by simpa using hpw) hJ.2.2.2.size)⟩)
        | 22, ho => cases ho; exact fun L a w1 hLi hw hnot hJ hk hv K h => op_assign 80 _ rfl (hv 21 80 (by kernel_rfl) (by kernel_rfl)) (h _ hJ)
        | (i + 23), ho => exact absurd ho (by simp)
      intro LL W8 hall hJ
      simp only [List.foldl_cons, List.foldl_nil, List.setIfInBounds_toArray, List.set_cons_zero, List.set_cons_succ]
      obtain ⟨j1, j2, j3, j4⟩ := hJ
      rw [hall 21 (by decide), cond_true] at j1
      have S8 := hid j1
      have O8 := hid j2
      have R8 := hid j3
      have B8 := hid j4
      clear j1 j2 j3 j4 hall S7 O7 R7 B7
      go_wp2_with fail
      refine (HL.out _ _ _ S8.out).mono ?_
      rintro e W9 ⟨rfl, bb⟩
      have S9 := hid (HK.out _ _ _ _ S8.out bb)
      have B9 := hid (below_twoY B8.out bb B8.out.size)
      have O9 := hid (own_kept O8.out bb)
      have R9 := hid (row_kept R8.out bb)
      clear bb
      obtain ⟨X9, hX⟩ : ∃ X, W9.heap.size = X := ⟨_, rfl⟩
      have T9 := hid (top_obj W9 (.cells D0.toArray 32))
      have A9 := hid (below_a1 W9 (.cells D0.toArray 32))
      rw [hX] at T9
      have HXe9 := hid hX
      clear hX
      have LD9 := hid (LD.out (k + 1))
      have OD9 := hid (one_dg (tg (k + 1)))
      have ZD9 := hid (sizeDg (HT.out (k + 1)))
      go_upto_region 12 with (first
        | ((with_reducible refine wl_alloc 32 ?_ ?_ D0.toArray hz ?_); exact rfl; exact rfl; rw [HXe9.out]; try simp only [Act.put, List.setIfInBounds_toArray, List.set_cons_zero, List.set_cons_succ])
        | ((with_reducible refine wl_put 32 (.tmp 19) (.tmp 86) ?_ ?_ X9 0 ?_ ?_ [] (dg (tg (k + 1))) D0 [] ?_ 32 (row_nilY T9.out) rfl LD9.out OD9.out ZD9.out ?_); exact rfl; exact rfl; exact rfl; exact rfl; exact rfl; intro W9p r6 b6))
      have b6' := b6.below A9.out (by rw [HXe9.out]; exact Nat.le_refl _)
      have S9p := hid (HK.out _ _ _ _ S9.out b6')
      have B9p := hid (below_twoY B9.out b6' B9.out.size)
      have O9p := hid (own_kept O9.out b6')
      have R9p := hid (row_kept R9.out b6')
      clear r6 b6 b6' T9 A9 S9 B9 HXe9
      clear O9 R9 S8 B8 O8 R8
      go_wp2_with fail
      refine (HS.out _ _ _ S9p.out).mono ?_
      rintro e W10 ⟨g2, rfl, hg2, r10, bb⟩
      have S10 := hid (HK.out _ _ _ _ S9p.out bb)
      have B10 := hid (below_twoY B9p.out bb B9p.out.size)
      have O10 := hid (own_kept O9p.out bb)
      have R10 := hid (row_kept R9p.out bb)
      have Q10 := hid r10
      clear bb r10 hg2 S9p B9p O9p R9p
      have hq := HQ.out k hlt
      obtain ⟨m1, m2, m3⟩ := HM.out k hlt
      have HGk := hid (fun W => HG.out k W hlt)
      have l1 : decide (cn (k + 1) < cn k) = false := decide_eq_false (by omega)
      have l2 : decide (sn (k + 1) < sn k) = false := decide_eq_false (by omega)
      have M3 := hid m3
      have HIk := hid (fun W u u' => HI.out k W u u')
      have hs0 := hid (HSn.out k)
      have hs1 := hid (HSn.out (k + 1))
      clear m1 m2 m3
      go_wp2_with fail
      refine (HGk.out _).mono ?_
      rintro e W11 ⟨rfl, bb⟩
      have S11 := hid (HK.out _ _ _ _ S10.out bb)
      have B11 := hid (below_twoY B10.out bb B10.out.size)
      have O11 := hid (own_kept O10.out bb)
      have R11 := hid (row_kept R10.out bb)
      have Q11 := hid (row_kept Q10.out bb)
      clear bb S10 B10 O10 R10 Q10
      go_wp2_with fail
      refine (HC.out _ _ _ S11.out).mono ?_
      rintro e W12 ⟨rfl, bb⟩
      have S12 := hid (HK.out _ _ _ _ S11.out bb)
      have B12 := hid (below_twoY B11.out bb B11.out.size)
      have O12 := hid (own_kept O11.out bb)
      have R12 := hid (row_kept R11.out bb)
      have Q12 := hid (row_kept Q11.out bb)
      clear bb S11 B11 O11 R11 Q11
      go_wp2_with fail
      refine (HE.out _ _ _ S12.out).mono ?_
      rintro e W13 ⟨rfl, bb⟩
      have S13 := hid (HK.out _ _ _ _ S12.out bb)
      have B13 := hid (below_twoY B12.out bb B12.out.size)
      have O13 := hid (own_kept O12.out bb)
      have R13 := hid (row_kept R12.out bb)
      have Q13 := hid (row_kept Q12.out bb)
      clear bb S12 B12 O12 R12 Q12
      rcases hq with e0 | ⟨e0, eT, eS⟩
      · clear HIk HGk
        go_wp2
        go_loopw [21] (fun i wr => ∃ j : Nat, j ≤ n ∧ i = nu j ∧ Hid (S p (k + 1) wr) ∧ Hid (OwnB wr w.heap.size (.slice (some ⟨g, 0, none⟩) FL.length vc) FL) ∧ Hid (wr.heap[g1]? = some (.cells (ic (SL k)).toArray 3)) ∧ Hid (wr.heap[g2]? = some (.cells (ic (SL (k + 1))).toArray 3)) ∧ Hid (Below w.heap.size w wr)) (fun i _ => n - (intOf i).toNat)
        case atStart => exact ⟨0, by omega, rfl, S13, O13, R13, Q13, B13⟩
        case round =>
          obtain ⟨j, hj, rfl, HSi, HOi, HRi, HQi, HBi⟩ := hrel
          clear S13 O13 R13 Q13 B13
          by_cases hjn : j < n
          · have d2 : decide ((j : Int) < (n : Int)) = true := decide_eq_true (by omega)
            have d2' : decide (j < n) = true := decide_eq_true hjn
            have p0 : ∀ dd os, (Sort.grow (redrawn wr dd) os).cell? ⟨g1, 0 + j, none⟩ = some (nu ((SL k).getD j 0)) := fun dd os => cell_regrown (ic_at HRi.out j (by rw [hs0.out]; exact hjn)) _ _
            have p1 : ∀ dd os, (Sort.grow (redrawn wr dd) os).cell? ⟨g2, 0 + j, none⟩ = some (nu ((SL (k + 1)).getD j 0)) := fun dd os => cell_regrown (ic_at HQi.out j (by rw [hs1.out]; exact hjn)) _ _
            have l3 : decide ((SL (k + 1)).getD j 0 < (SL k).getD j 0) = false := decide_eq_false (by have := M3.out j; omega)
            generalize (SL (k + 1)).getD j 0 = y1 at *
            generalize (SL k).getD j 0 = y0 at *
            have p0' : ∀ dd os, (Sort.grow (redrawn wr dd) os).cell? ⟨g1, j, none⟩ = some (nu y0) := fun dd os => by have := p0 dd os; rwa [Nat.zero_add] at this
            have p1' : ∀ dd os, (Sort.grow (redrawn wr dd) os).cell? ⟨g2, j, none⟩ = some (nu y1) := fun dd os => by have := p1 dd os; rwa [Nat.zero_add] at this
            go_upto_region 18 with fail
            refine wp_region_quiet_below (by kernel_rfl) (by kernel_rfl) ?_
            iterate 9 (first | go_big_quiet_step (fail) | quiet_step (fail))
            refine wpQuiet_nil ?_
            intro _ hw'
            obtain ⟨⟨dq, osq⟩, hw''⟩ := hw'
            subst hw''
            have bq := below_regrown wr dq osq
            have Si := hid (HK.out _ _ _ _ HSi.out bq)
            have Oi := hid (own_kept HOi.out bq)
            have Ri := hid (row_kept HRi.out bq)
            have Qi := hid (row_kept HQi.out bq)
            have Bi := hid (below_twoY HBi.out bq HBi.out.size)
            generalize Sort.grow (redrawn wr dq) osq = wq at *
            clear bq p0 p1 p0' p1' HSi HOi HRi HQi HBi
            go_wp2
            exact ⟨⟨j + 1, by omega, by go_num, Si, Oi, Ri, Qi, Bi⟩, by simp [intOf]; omega⟩
          · have d2 : decide ((j : Int) < (n : Int)) = false := decide_eq_false (by omega)
            have d2' : decide (j < n) = false := decide_eq_false hjn
            go_wp2
            exact ⟨⟨k + 1, by omega, by go_num, HSi, HOi, HBi⟩, by simp [intOf]; omega⟩
      · clear HGk
        have hi0 := ints_row n R13.out
        have hi1 := ints_row n Q13.out
        rw [hs0.out] at hi0
        rw [hs1.out, eS] at hi1
        have HI2 := hid (HIk.out W13 _ _ hi0 hi1)
        clear hi0 hi1 eS
        try rw [eT]
        clear eT
        go_wp2_with fail
        refine HI2.out.mono ?_
        rintro e W14 ⟨rfl, bb⟩
        have S14 := hid (HK.out _ _ _ _ S13.out bb)
        have B14 := hid (below_twoY B13.out bb B13.out.size)
        have O14 := hid (own_kept O13.out bb)
        have R14 := hid (row_kept R13.out bb)
        have Q14 := hid (row_kept Q13.out bb)
        clear bb S13 B13 O13 R13 Q13 HI2 HIk
        go_wp2
        go_loopw [21] (fun i wr => ∃ j : Nat, j ≤ n ∧ i = nu j ∧ Hid (S p (k + 1) wr) ∧ Hid (OwnB wr w.heap.size (.slice (some ⟨g, 0, none⟩) FL.length vc) FL) ∧ Hid (wr.heap[g1]? = some (.cells (ic (SL k)).toArray 3)) ∧ Hid (wr.heap[g2]? = some (.cells (ic (SL (k + 1))).toArray 3)) ∧ Hid (Below w.heap.size w wr)) (fun i _ => n - (intOf i).toNat)
        case atStart => exact ⟨0, by omega, rfl, S14, O14, R14, Q14, B14⟩
        case round =>
          obtain ⟨j, hj, rfl, HSi, HOi, HRi, HQi, HBi⟩ := hrel
          clear S14 O14 R14 Q14 B14
          by_cases hjn : j < n
          · have d2 : decide ((j : Int) < (n : Int)) = true := decide_eq_true (by omega)
            have d2' : decide (j < n) = true := decide_eq_true hjn
            have p0 : ∀ dd os, (Sort.grow (redrawn wr dd) os).cell? ⟨g1, 0 + j, none⟩ = some (nu ((SL k).getD j 0)) := fun dd os => cell_regrown (ic_at HRi.out j (by rw [hs0.out]; exact hjn)) _ _
            have p1 : ∀ dd os, (Sort.grow (redrawn wr dd) os).cell? ⟨g2, 0 + j, none⟩ = some (nu ((SL (k + 1)).getD j 0)) := fun dd os => cell_regrown (ic_at HQi.out j (by rw [hs1.out]; exact hjn)) _ _
            have l3 : decide ((SL (k + 1)).getD j 0 < (SL k).getD j 0) = false := decide_eq_false (by have := M3.out j; omega)
            generalize (SL (k + 1)).getD j 0 = y1 at *
            generalize (SL k).getD j 0 = y0 at *
            have p0' : ∀ dd os, (Sort.grow (redrawn wr dd) os).cell? ⟨g1, j, none⟩ = some (nu y0) := fun dd os => by have := p0 dd os; rwa [Nat.zero_add] at this
            have p1' : ∀ dd os, (Sort.grow (redrawn wr dd) os).cell? ⟨g2, j, none⟩ = some (nu y1) := fun dd os => by have := p1 dd os; rwa [Nat.zero_add] at this
            go_upto_region 18 with fail
            refine wp_region_quiet_below (by kernel_rfl) (by kernel_rfl) ?_
            iterate 9 (first | go_big_quiet_step (fail) | quiet_step (fail))
            refine wpQuiet_nil ?_
            intro _ hw'
            obtain ⟨⟨dq, osq⟩, hw''⟩ := hw'
            subst hw''
            have bq := below_regrown wr dq osq
            have Si := hid (HK.out _ _ _ _ HSi.out bq)
            have Oi := hid (own_kept HOi.out bq)
            have Ri := hid (row_kept HRi.out bq)
            have Qi := hid (row_kept HQi.out bq)
            have Bi := hid (below_twoY HBi.out bq HBi.out.size)
            generalize Sort.grow (redrawn wr dq) osq = wq at *
            clear bq p0 p1 p0' p1' HSi HOi HRi HQi HBi
            go_wp2
            exact ⟨⟨j + 1, by omega, by go_num, Si, Oi, Ri, Qi, Bi⟩, by simp [intOf]; omega⟩
          · have d2 : decide ((j : Int) < (n : Int)) = false := decide_eq_false (by omega)
            have d2' : decide (j < n) = false := decide_eq_false hjn
            go_wp2
            exact ⟨⟨k + 1, by omega, by go_num, HSi, HOi, HBi⟩, by simp [intOf]; omega⟩
    · have d1 : decide ((k : Int) < (FL.length : Int)) = false := decide_eq_false (by omega)
      have d1' : decide (k < FL.length) = false := decide_eq_false hlt
      go_wp2_with fail
      refine (HA.out _).mono ?_
      rintro e W4 ⟨rfl, bb⟩
      have B4 := hid (below_twoY HBl.out bb HBl.out.size)
      clear bb
      go_wp2
      go_ret
      exact ⟨rfl, B4.out⟩
theorem grows_walk (w : World) (n me : Int) {ad : Option Addr} {M : List Ln} {cap : Nat} (hM : LinesAt w ad M) :
    Calls Try.prog 5 #[nu n, nu me, .slice ad M.length cap] w fun e w' => e = .returned (.bool true) ∧ Below w.heap.size w w' := by
  by_cases hb : n < 2 ∨ 8 < n ∨ me < 0 ∨ n ≤ me
  · exact grows_bad n me (hid fun W => new_bad n me hb W) (hid fun W => awake_any W)
  · obtain ⟨n', rfl⟩ : ∃ n' : Nat, n = (n' : Int) := ⟨n.toNat, by omega⟩
    obtain ⟨me', rfl⟩ : ∃ m' : Nat, me = (m' : Int) := ⟨me.toNat, by omega⟩
    have hfw : ∀ x ∈ fewL M, x.Wf := fun x hx => hM.1 x (few_mem M x hx)
    have hfl := few_len M
    have hfs := few_short M
    have HFe : Hid (∀ W, Below w.heap.size w W → Calls Try.prog 28 #[.slice ad M.length cap] W fun e w' => ∃ v, e = .returned v ∧ OwnB w' w.heap.size v (fewL M) ∧ Below W.heap.size W w') := hid fun W hb' => (few_any (hM.kept hb')).mono fun e w' h => by
      obtain ⟨v, e1, o1, b1⟩ := h
      exact ⟨v, e1, own_mono o1 hb'.size, b1⟩
    generalize fewL M = FL at *
    have hpi : ∀ k, PI n' (allL n' (FL.take k)) := fun k => all_pi _ _ fun x hx => hfw x (List.mem_of_mem_take hx)
    have hst : ∀ k (hk : k < FL.length), allL n' (FL.take (k + 1)) = learnL n' (allL n' (FL.take k)) FL[k] := fun k hk => all_take n' FL k hk
    refine grows_core (FL := FL) (S := fun p k W => KAt W p n' me' (allL n' (FL.take k)) ∧ w.heap.size ≤ p) (T := fun k => longL (allL n' (FL.take k))) (by' := fun k => (topL (allL n' (FL.take k))).byc) (tg := fun k => (topL (allL n' (FL.take k))).tag) (SL := fun k => stL n' me' (allL n' (FL.take k))) (cn := fun k => cutN n' me' (allL n' (FL.take k))) (sn := fun k => seenN n' me' (allL n' (FL.take k))) (E := fun k => if hk : k < FL.length then learnE n' (allL n' (FL.take k)) FL[k] else 0) n' me' (by omega) hfw hfl ?_ HFe (hid fun W => awake_any W)
      (hid fun p k W W' h b => ⟨h.1.kept b, h.2⟩)
      (hid fun p k W W' v h ho hk => own_keepK ho h.1 hk)
      (hid fun p k W h => h.1.lt)
      ?_
      (hid fun p k W h => longest_any h.1)
      (hid fun p k W h => stable_any h.1)
      (hid fun p k W h => cut_any h.1)
      (hid fun p k W h => seen_any h.1)
      ?_ ?_ ?_ ?_
      (hid fun k => st_len n' me' _)
      (hid fun k => (hpi k).tag)
      rfl
    · refine hid fun W hb' => ?_
      refine (new_ok n' me' (by omega) (by omega) (by omega) W).mono ?_
      rintro e w' ⟨rfl, k, b'⟩
      exact ⟨_, rfl, ⟨k, hb'.size⟩, b', hb'.size⟩
    · refine hid fun p k W hk h => ?_
      refine (learn_any h.1 FL[k] (hfw _ (List.getElem_mem hk)) (by have := hfs _ (List.getElem_mem hk); omega)).mono ?_
      rintro e w' ⟨rfl, k', kp⟩
      refine ⟨by rw [dif_pos hk], ⟨?_, h.2⟩, kp⟩
      rw [hst k hk]
      exact k'
    · refine hid fun k W hk => ?_
      have hg : Hist.goesB (longL (allL n' (FL.take (k + 1)))) (longL (allL n' (FL.take k))) = true := by
        rw [hst k hk]
        exact (Hist.goes_pre _ _).2 ((hpi k).learn (hfw _ (List.getElem_mem hk))).2
      refine (Hist.rgoes_any _ _ (by have := (hpi (k + 1)).long; omega) W).mono fun e w' h => ?_
      rw [hg] at h
      first | exact ⟨h.1, h.2 ▸ Below.refl _ _⟩ | exact h
    · refine hid fun k W u u' h1 h2 => ?_
      exact (rints_any h1 h2 (by rw [st_len]; omega)).mono fun e w' hq => ⟨by rw [hq.1, beq_self_eq_true], hq.2⟩
    · refine hid fun k hk => ?_
      have hx := hfw _ (List.getElem_mem hk)
      simp only [hst k hk]
      exact ⟨cut_mono (hpi k) hx _, seen_mono (hpi k) hx, fun j => st_mono (hpi k) hx _ j⟩
    · refine hid fun k hk => ?_
      simp only [hst k hk, dif_pos hk]
      rcases learn_cases n' (allL n' (FL.take k)) FL[k] with ⟨-, e, e2⟩ | ⟨-, -, e, e2⟩ | ⟨-, -, e, -⟩
      · right
        rw [e, e2]
        exact ⟨rfl, rfl, rfl⟩
      · right
        rw [e, e2]
        exact ⟨rfl, rfl, rfl⟩
      · left
        rw [e]
        rfl
end Go.Proofs.Ytfigbgpfkhcpcaa.Kn
