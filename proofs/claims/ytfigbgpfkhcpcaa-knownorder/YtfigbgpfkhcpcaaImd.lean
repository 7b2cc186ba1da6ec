/-
  Both behind what was learned: what the law's made answers.
-/
import Derived.Test.YtfigbgpfkhcpcaaIfw
namespace Go.Proofs.Ytfigbgpfkhcpcaa.Kn
open Go Go.RowKit
set_option maxRecDepth 100000

section
variable {w w' : World} {p q n me base : Nat} {L M : List Ln} {v : Value}
theorem own_keepK (hO : OwnB w base v M) (hK : KAt w p n me L) (hk : Kp [p] w w') : OwnB w' base v M :=
  own_same hO (fun k hv => hk.block k (own_lt hO k hv) (by simpa using own_ne hO hK.obj (by intro cur e; cases e) k hv))
theorem own_keepR {u : Value} (hO : OwnB w base v M) (hR : RAt w q u n me L) (hk : Kp [q] w w') : OwnB w' base v M :=
  own_same hO (fun k hv => hk.block k (own_lt hO k hv) (by simpa using own_ne hO hR.obj (by intro cur e; cases e) k hv))
theorem own_cells (hO : OwnB w base v M) (hw : ∀ x ∈ M, x.Wf) {k : Nat} (hk : k < M.length) : ∃ g cap, v = .slice (some ⟨g, 0, none⟩) M.length cap ∧ ∀ W, OwnB W base v M → ∀ j c, (lnC M[k])[j]? = some c → W.cell? ⟨g, 0 + k * 35 + j, none⟩ = some c := by
  obtain ⟨g, cap, e, -⟩ := OwnB.at (own_zero hO) hw hk
  refine ⟨g, cap, e, fun W hW j c hj => ?_⟩
  obtain ⟨g2, cap2, e2, hc⟩ := OwnB.at (own_zero hW) hw hk
  rw [e] at e2
  cases e2
  rw [Nat.zero_add]
  exact hc j c hj
theorem own_mono {w : World} {base base' e size n : Nat} {v : Value} {xs : List Value} (h : w.ownsRow base e size v n xs) (hb : base' ≤ base) : w.ownsRow base' e size v n xs := by
  refine ⟨h.1, ?_⟩
  rcases h.2 with h0 | ⟨g, cap, cur, rfl, h1, h2⟩
  · exact Or.inl h0
  · exact Or.inr ⟨g, cap, cur, rfl, Nat.le_trans hb h1, h2⟩
theorem RAt.keepK {u : Value} {L' : List Ln} (hR : RAt w q u n me L') (hK : KAt w p n me L) (hk : Kp [p] w w') : RAt w' q u n me L' :=
  hR.kp hk (by simpa using (both_ne hK hR).1) (fun k hv => by simpa using (both_ne hK hR).2 k hv)
theorem KAt.keepR {u : Value} {L' : List Ln} (hK : KAt w p n me L) (hR : RAt w q u n me L') (hk : Kp [q] w w') : KAt w' p n me L := hK.kp hk (by simpa using Ne.symm (both_ne hK hR).1)
end
set_option maxHeartbeats 4000000 in
theorem made_bad {w : World} {a : Option Addr} {cap : Nat} {M : List Ln} (n me : Int) (h : n < 2 ∨ 8 < n ∨ me < 0 ∨ n ≤ me) : Calls Try.prog 9 #[nu n, nu me, .slice a M.length cap] w fun e w' => e = .returned (.tuple #[.pointer none, .pointer none, .bool true]) ∧ w' = w := by
  have HN := hid (new_bad n me h w)
  have hor : n < 2 ∨ (¬ n < 2 ∧ 8 < n) ∨ (¬ n < 2 ∧ ¬ 8 < n ∧ me < 0) ∨ (¬ n < 2 ∧ ¬ 8 < n ∧ ¬ me < 0 ∧ n ≤ me) := by omega
  clear h
  rcases hor with h1 | ⟨h1, h2⟩ | ⟨h1, h2, h3⟩ | ⟨h1, h2, h3, h4⟩
  · have d1 : decide (n < 2) = true := decide_eq_true h1
    clear h1
    go_enter Try.func9, Try.ntmps9
    go_wp2_with fail
    refine HN.out.mono ?_
    rintro e w1 ⟨rfl, hw1⟩
    subst w1
    go_wp2
    go_ret3
    exact ⟨rfl, rfl⟩
  · have d1 : decide (n < 2) = false := decide_eq_false h1
    have d2 : decide (8 < n) = true := decide_eq_true h2
    clear h1 h2
    go_enter Try.func9, Try.ntmps9
    go_wp2_with fail
    refine HN.out.mono ?_
    rintro e w1 ⟨rfl, hw1⟩
    subst w1
    go_wp2
    go_ret3
    exact ⟨rfl, rfl⟩
  · have d1 : decide (n < 2) = false := decide_eq_false h1
    have d2 : decide (8 < n) = false := decide_eq_false h2
    have d3 : decide (me < 0) = true := decide_eq_true h3
    clear h1 h2 h3
    go_enter Try.func9, Try.ntmps9
    go_wp2_with fail
    refine HN.out.mono ?_
    rintro e w1 ⟨rfl, hw1⟩
    subst w1
    go_wp2
    go_ret3
    exact ⟨rfl, rfl⟩
  · have d1 : decide (n < 2) = false := decide_eq_false h1
    have d2 : decide (8 < n) = false := decide_eq_false h2
    have d3 : decide (me < 0) = false := decide_eq_false h3
    have d4 : decide (n ≤ me) = true := decide_eq_true h4
    clear h1 h2 h3 h4
    go_enter Try.func9, Try.ntmps9
    go_wp2_with fail
    refine HN.out.mono ?_
    rintro e w1 ⟨rfl, hw1⟩
    subst w1
    go_wp2
    go_ret3
    exact ⟨rfl, rfl⟩
/-- Both of them, behind the lines L. -/
def MadeAt (w w' : World) (n me : Nat) (L : List Ln) (e : Ending) : Prop := ∃ p q v, e = .returned (.tuple #[pt p 0, pt q 0, .bool true]) ∧ KAt w' p n me L ∧ RAt w' q v n me L ∧ w.heap.size ≤ p ∧ w.heap.size ≤ q ∧ Below w.heap.size w w'
set_option maxHeartbeats 16000000 in
theorem made_ok {w : World} {a : Option Addr} {cap0 : Nat} {M : List Ln} (n me : Nat) (h2 : 2 ≤ n) (h8 : n ≤ 8) (hm : me < n) (h : LinesAt w a M) : Calls Try.prog 9 #[nu n, nu me, .slice a M.length cap0] w fun e w' => MadeAt w w' n me (allL n (fewL M)) e := by
  have HN := hid (new_ok n me h2 h8 hm w)
  have HB := hid (fun W => build_rknown W n me)
  have d1 : decide ((n : Int) < 2) = false := decide_eq_false (by omega)
  have d2 : decide ((8 : Int) < (n : Int)) = false := decide_eq_false (by omega)
  have d3 : decide ((me : Int) < 0) = false := decide_eq_false (by omega)
  have d4 : decide ((n : Int) ≤ (me : Int)) = false := decide_eq_false (by omega)
  have d1' : decide (n < 2) = false := decide_eq_false (by omega)
  have d2' : decide (8 < n) = false := decide_eq_false (by omega)
  have d4' : decide (n ≤ me) = false := decide_eq_false (by omega)
  have HF : Hid (∀ W, Below w.heap.size w W → Calls Try.prog 28 #[.slice a M.length cap0] W fun e w' => ∃ v, e = .returned v ∧ OwnB w' W.heap.size v (fewL M) ∧ Below W.heap.size W w') := fun W hb => few_any (h.kept hb)
  have hfw : ∀ x ∈ fewL M, x.Wf := fun x hx => h.1 x (few_mem M x hx)
  have hfl := few_len M
  have hfs := few_short M
  have HP : Hid (∀ p q v W, KAt W p n me (allL n (fewL M)) → RAt W q v n me (allL n (fewL M)) → w.heap.size ≤ p → w.heap.size ≤ q → Below w.heap.size w W → MadeAt w W n me (allL n (fewL M)) (.returned (.tuple #[pt p 0, pt q 0, .bool true]))) := fun p q v W a b c d e => ⟨p, q, v, rfl, a, b, c, d, e⟩
  have HPI := hid (all_pi n (fewL M) hfw)
  generalize fewL M = FL at *
  obtain ⟨PO, hPO⟩ : ∃ PO : Ending → World → Prop, (fun e w' => MadeAt w w' n me (allL n FL) e) = PO := ⟨_, rfl⟩
  have HP2 : Hid (∀ p q v W, KAt W p n me (allL n FL) → RAt W q v n me (allL n FL) → w.heap.size ≤ p → w.heap.size ≤ q → Below w.heap.size w W → PO (.returned (.tuple #[pt p 0, pt q 0, .bool true])) W) := by
    show ∀ p q v W, _
    intro p q v W a b c d e
    rw [← hPO]
    exact HP.out p q v W a b c d e
  rw [hPO]
  have HFw := hid hfw
  have HFs := hid hfs
  clear h HP hPO h2 h8 hm hfw hfs
  go_enter Try.func9, Try.ntmps9
  go_wp2_with fail
  refine HN.out.mono ?_
  rintro e W1 ⟨rfl, k1, b1⟩
  obtain ⟨p, hp⟩ : ∃ p, w.heap.size = p := ⟨_, rfl⟩
  rw [hp] at k1
  have HpE := hid hp
  have K1 := hid k1
  have B1 := hid b1
  rw [hp]
  clear k1 b1 HN hp
  go_upto_region 7 with ((with_reducible refine wl_buildY 53 [(0, .tmp 40), (1, .tmp 41)] ?_ ?_ #[nu n, nu me, .slice none 0 0] ?_ ?_); exact rfl; exact rfl; exact HB.out _)
  have B2 : Hid (Below w.heap.size w (W1.alloc (.cells #[nu n, nu me, .slice none 0 0] 53))) := B1.out.alloc B1.out.size _
  have K2 := hid (K1.out.kept (below_a1 W1 (.cells #[nu n, nu me, .slice none 0 0] 53)))
  have R2 : Hid (RAt (W1.alloc (.cells #[nu n, nu me, .slice none 0 0] 53)) W1.heap.size (.slice none 0 0) n me []) := ⟨top_obj _ _, own_nilL _ _, PI.nil _, K1.out.n2, K1.out.n8, K1.out.hme, by simp⟩
  obtain ⟨q, hq⟩ : ∃ q, W1.heap.size = q := ⟨_, rfl⟩
  rw [hq] at R2 ⊢
  have hqw : w.heap.size ≤ q := by rw [← hq]; exact B1.out.size
  have hpw : w.heap.size ≤ p := by have := HpE.out; omega
  have HQW := hid hqw
  have HPW := hid hpw
  generalize W1.alloc (.cells #[nu n, nu me, .slice none 0 0] 53) = W2 at *
  clear hq K1 B1 HpE
  go_wp2_with fail
  refine (HF.out _ B2.out).mono ?_
  rintro e W3 ⟨vF, rfl, o3, b3⟩
  have O3 : Hid (OwnB W3 w.heap.size vF FL) := own_mono o3 B2.out.size
  have K3 := hid (K2.out.kept b3)
  have R3 := hid (R2.out.kept b3)
  have B3 := hid (below_twoY B2.out b3 B2.out.size)
  obtain ⟨va, vc, hv⟩ := OwnB.nil_val (own_zero o3)
  subst hv
  clear o3 b3 K2 R2 B2 HF
  go_wp2
  go_loopw [12] (fun i wr => ∃ k : Nat, k ≤ FL.length ∧ i = nu k ∧ Hid (KAt wr p n me (allL n (FL.take k))) ∧ Hid (∃ u, RAt wr q u n me (allL n (FL.take k))) ∧ Hid (OwnB wr w.heap.size (.slice va FL.length vc) FL) ∧ Hid (Below w.heap.size w wr)) (fun i _ => FL.length - (intOf i).toNat)
  case atStart => exact ⟨0, by omega, rfl, K3.out, ⟨_, R3.out⟩, O3, B3⟩
  case round =>
    obtain ⟨k, hk, rfl, HK, HR, HO, HBl⟩ := hrel
    by_cases hlt : k < FL.length
    · have d5 : decide ((k : Int) < (FL.length : Int)) = true := decide_eq_true (by omega)
      have d5' : decide (k < FL.length) = true := decide_eq_true hlt
      obtain ⟨g, cap, ev, hcx⟩ := own_cells HO.out HFw.out hlt
      cases ev
      have hxw : FL[k].Wf := HFw.out _ (List.getElem_mem hlt)
      have hxs : FL[k].view.length < 600 := HFs.out _ (List.getElem_mem hlt)
      have HTk := hid (all_take n FL k hlt)
      have hLl : (allL n (FL.take k)).length < 100000 := by
        have := all_len n (FL.take k)
        rw [List.length_take] at this
        omega
      generalize FL[k] = x at *
      have HLr : Hid (∀ W, KAt W p n me (allL n (FL.take k)) → Calls Try.prog 29 #[pt p 0, nu x.fro, nu x.byc, st x.view, .agg (dg x.tag).toArray] W fun e w' => e = .returned (nu (learnE n (allL n (FL.take k)) x)) ∧ KAt w' p n me (learnL n (allL n (FL.take k)) x) ∧ Kp [p] W w') := fun W hW => learn_any hW x hxw (by omega)
      have HRr : Hid (∀ W u, RAt W q u n me (allL n (FL.take k)) → Calls Try.prog 31 #[pt q 0, .agg (lnC x).toArray] W fun e w' => e = .returned (nu (learnE n (allL n (FL.take k)) x)) ∧ (∃ u, RAt w' q u n me (learnL n (allL n (FL.take k)) x)) ∧ Kp [q] W w') := fun W u hu => (rlearn_any hu x hxw hLl).mono fun e w' hq => ⟨hq.1, hq.2.1.imp fun _ hv => hv.1, hq.2.2⟩
      have CX : Hid (∀ W, OwnB W w.heap.size (.slice (some ⟨g, 0, none⟩) FL.length vc) FL → ∀ j c, (lnC x)[j]? = some c → W.cell? ⟨g, 0 + k * 35 + j, none⟩ = some c) := hcx
      have ZX := hid (sizeOf_ln hxw)
      have ZT := hid (sizeDg hxw)
      rw [← HTk.out] at HLr HRr
      generalize learnE n (allL n (FL.take k)) x = E at *
      obtain ⟨L1, hL1⟩ : ∃ L1, allL n (FL.take (k + 1)) = L1 := ⟨_, rfl⟩
      rw [hL1] at HLr HRr
      have HL1 := hid hL1
      clear hL1
      generalize allL n (FL.take k) = L0 at *
      obtain ⟨fr, bc, vw, tg⟩ := x
      simp only at *
      have CT : Hid (∀ W, OwnB W w.heap.size (.slice (some ⟨g, 0, none⟩) FL.length vc) FL → ∀ j c, (dg tg)[j]? = some c → W.cell? ⟨g, 0 + k * 35 + 3 + j, none⟩ = some c) := fun W hW j c hj => by
        have := CX.out W hW (3 + j) c (by
          show ([nu fr, nu bc, st vw] ++ dg tg)[3 + j]? = some c
          rw [List.getElem?_append_right (by simp)]
          simpa using hj)
        rwa [← Nat.add_assoc] at this
      clear hcx hLl
      go_upto_region 11 with fail
      refine wp_region_cs (N := 89) [(pt p 0), (Value.slice (some ⟨g, 0, none⟩) FL.length vc), (nu (k : Int)), (pt g (0 + k * 35)), (pt g (0 + k * 35 + 0)), (nu fr), (Value.slice (some ⟨g, 0, none⟩) FL.length vc), (nu (k : Int)), (pt g (0 + k * 35)), (pt g (0 + k * 35 + 1)), (nu bc), (Value.slice (some ⟨g, 0, none⟩) FL.length vc), (nu (k : Int)), (pt g (0 + k * 35)), (pt g (0 + k * 35 + 2)), (st vw), (Value.slice (some ⟨g, 0, none⟩) FL.length vc), (nu (k : Int)), (pt g (0 + k * 35)), (pt g (0 + k * 35 + 3)), (.agg (dg tg).toArray), (nu E), (pt q 0), (Value.slice (some ⟨g, 0, none⟩) FL.length vc), (nu (k : Int)), (pt g (0 + k * 35)), (.agg (lnC ⟨fr, bc, vw, tg⟩).toArray), (nu E), (.bool false)] (fun L W => KAt W p n me (bif L 21 then L1 else L0) ∧ (∃ u, RAt W q u n me (bif L 27 then L1 else L0)) ∧ OwnB W w.heap.size (.slice (some ⟨g, 0, none⟩) FL.length vc) FL ∧ Below w.heap.size w W) [(58, (pt p 0)), (59, (Value.slice (some ⟨g, 0, none⟩) FL.length vc)), (60, (nu (k : Int))), (61, (pt g (0 + k * 35))), (62, (pt g (0 + k * 35 + 0))), (63, (nu fr)), (64, (Value.slice (some ⟨g, 0, none⟩) FL.length vc)), (65, (nu (k : Int))), (66, (pt g (0 + k * 35))), (67, (pt g (0 + k * 35 + 1))), (68, (nu bc)), (69, (Value.slice (some ⟨g, 0, none⟩) FL.length vc)), (70, (nu (k : Int))), (71, (pt g (0 + k * 35))), (72, (pt g (0 + k * 35 + 2))), (73, (st vw)), (74, (Value.slice (some ⟨g, 0, none⟩) FL.length vc)), (75, (nu (k : Int))), (76, (pt g (0 + k * 35))), (77, (pt g (0 + k * 35 + 3))), (78, (.agg (dg tg).toArray)), (79, (nu E)), (80, (pt q 0)), (81, (Value.slice (some ⟨g, 0, none⟩) FL.length vc)), (82, (nu (k : Int))), (83, (pt g (0 + k * 35))), (84, (.agg (lnC ⟨fr, bc, vw, tg⟩).toArray)), (85, (nu E)), (86, (.bool false))] (by kernel_rfl) (by kernel_rfl) rfl (fun w1 hb => ⟨HK.out.kept hb, HR.out.imp fun u hu => hu.kept hb, own_kept HO.out hb, below_twoY HBl.out hb HBl.out.size⟩) (by kernel_rfl) ?_ ?_
      · intro i o ho
        match i, ho with
        | 0, ho => cases ho; exact fun L a w1 hLi hw hnot hJ hk hv K h => op_move 9 _ rfl (hk 9 (by kernel_rfl)) (h _ hJ)
        | 1, ho => cases ho; exact fun L a w1 hLi hw hnot hJ hk hv K h => op_move 2 _ rfl (hk 2 (by kernel_rfl)) (h _ hJ)
        | 2, ho => cases ho; exact fun L a w1 hLi hw hnot hJ hk hv K h => op_move 12 _ rfl (hk 12 (by kernel_rfl)) (h _ hJ)
        | 3, ho => cases ho; exact fun L a w1 hLi hw hnot hJ hk hv K h => op_indexS 59 60 _ 36 rfl Try.underlying22 35 sizeLn g 0 FL.length vc k hlt (hv 1 59 (by kernel_rfl) (by kernel_rfl)) (hv 2 60 (by kernel_rfl) (by kernel_rfl)) (h _ hJ)
        | 4, ho => cases ho; exact fun L a w1 hLi hw hnot hJ hk hv K h => op_fa 61 _ 0 g (0 + k * 35) 0 rfl (fun W => by kernel_rfl) (hv 3 61 (by kernel_rfl) (by kernel_rfl)) (h _ hJ)
        | 5, ho => cases ho; exact fun L a w1 hLi hw hnot hJ hk hv K h => op_load1 _ (.tmp 62) rfl g (0 + k * 35 + 0) (hv 4 62 (by kernel_rfl) (by kernel_rfl)) (nu fr) _ (CX.out _ hJ.2.2.1 0 _ rfl) Try.underlying3 rfl (h _ hJ)
        | 6, ho => cases ho; exact fun L a w1 hLi hw hnot hJ hk hv K h => op_move 2 _ rfl (hk 2 (by kernel_rfl)) (h _ hJ)
        | 7, ho => cases ho; exact fun L a w1 hLi hw hnot hJ hk hv K h => op_move 12 _ rfl (hk 12 (by kernel_rfl)) (h _ hJ)
        | 8, ho => cases ho; exact fun L a w1 hLi hw hnot hJ hk hv K h => op_indexS 64 65 _ 36 rfl Try.underlying22 35 sizeLn g 0 FL.length vc k hlt (hv 6 64 (by kernel_rfl) (by kernel_rfl)) (hv 7 65 (by kernel_rfl) (by kernel_rfl)) (h _ hJ)
        | 9, ho => cases ho; exact fun L a w1 hLi hw hnot hJ hk hv K h => op_fa 66 _ 1 g (0 + k * 35) 1 rfl (fun W => by kernel_rfl) (hv 8 66 (by kernel_rfl) (by kernel_rfl)) (h _ hJ)
        | 10, ho => cases ho; exact fun L a w1 hLi hw hnot hJ hk hv K h => op_load1 _ (.tmp 67) rfl g (0 + k * 35 + 1) (hv 9 67 (by kernel_rfl) (by kernel_rfl)) (nu bc) _ (CX.out _ hJ.2.2.1 1 _ rfl) Try.underlying3 rfl (h _ hJ)
        | 11, ho => cases ho; exact fun L a w1 hLi hw hnot hJ hk hv K h => op_move 2 _ rfl (hk 2 (by kernel_rfl)) (h _ hJ)
        | 12, ho => cases ho; exact fun L a w1 hLi hw hnot hJ hk hv K h => op_move 12 _ rfl (hk 12 (by kernel_rfl)) (h _ hJ)
        | 13, ho => cases ho; exact fun L a w1 hLi hw hnot hJ hk hv K h => op_indexS 69 70 _ 36 rfl Try.underlying22 35 sizeLn g 0 FL.length vc k hlt (hv 11 69 (by kernel_rfl) (by kernel_rfl)) (hv 12 70 (by kernel_rfl) (by kernel_rfl)) (h _ hJ)
        | 14, ho => cases ho; exact fun L a w1 hLi hw hnot hJ hk hv K h => op_fa 71 _ 2 g (0 + k * 35) 2 rfl (fun W => by kernel_rfl) (hv 13 71 (by kernel_rfl) (by kernel_rfl)) (h _ hJ)
        | 15, ho => cases ho; exact fun L a w1 hLi hw hnot hJ hk hv K h => op_load1 _ (.tmp 72) rfl g (0 + k * 35 + 2) (hv 14 72 (by kernel_rfl) (by kernel_rfl)) (st vw) _ (CX.out _ hJ.2.2.1 2 _ rfl) Try.underlying9 rfl (h _ hJ)
        | 16, ho => cases ho; exact fun L a w1 hLi hw hnot hJ hk hv K h => op_move 2 _ rfl (hk 2 (by kernel_rfl)) (h _ hJ)
        | 17, ho => cases ho; exact fun L a w1 hLi hw hnot hJ hk hv K h => op_move 12 _ rfl (hk 12 (by kernel_rfl)) (h _ hJ)
        | 18, ho => cases ho; exact fun L a w1 hLi hw hnot hJ hk hv K h => op_indexS 74 75 _ 36 rfl Try.underlying22 35 sizeLn g 0 FL.length vc k hlt (hv 16 74 (by kernel_rfl) (by kernel_rfl)) (hv 17 75 (by kernel_rfl) (by kernel_rfl)) (h _ hJ)
        | 19, ho => cases ho; exact fun L a w1 hLi hw hnot hJ hk hv K h => op_fa 76 _ 3 g (0 + k * 35) 3 rfl (fun W => by kernel_rfl) (hv 18 76 (by kernel_rfl) (by kernel_rfl)) (h _ hJ)
        | 20, ho => cases ho; exact fun L a w1 hLi hw hnot hJ hk hv K h => op_load _ (.tmp 77) rfl g (0 + k * 35 + 3) (hv 19 77 (by kernel_rfl) (by kernel_rfl)) (dg tg) _ (CT.out _ hJ.2.2.1) Try.underlying32 rfl ZT.out (h _ hJ)
        | 21, ho => cases ho; exact fun L a w1 hLi hw hnot hJ hk hv K h => op_call 29 [.tmp 58, .tmp 63, .tmp 68, .tmp 73, .tmp 78] _ #[(pt p 0), (nu fr), (nu bc), (st vw), (.agg (dg tg).toArray)] (nu E) rfl (fun _ _ => by kernel_rfl) (args5 (hv 0 58 (by kernel_rfl) (by kernel_rfl)) (hv 5 63 (by kernel_rfl) (by kernel_rfl)) (hv 10 68 (by kernel_rfl) (by kernel_rfl)) (hv 15 73 (by kernel_rfl) (by kernel_rfl)) (hv 20 78 (by kernel_rfl) (by kernel_rfl))) (J := fun w2 => KAt w2 p n me L1 ∧ Kp [p] w1 w2) (HLr.out _ (by have e := hJ.1; simp only [hLi, cond_false] at e; exact e)) (fun w2 e1 => h _ ⟨(by show KAt w2 p n me (bif up L 21 21 then L1 else L0); rw [up_self]; exact e1.1), (hJ.2.1.imp fun u hu => RAt.keepK hu hJ.1 e1.2), own_keepK hJ.2.2.1 hJ.1 e1.2, hJ.2.2.2.trans (e1.2.below (by simpa using hpw) hJ.2.2.2.size)⟩)
        | 22, ho => cases ho; exact fun L a w1 hLi hw hnot hJ hk hv K h => op_move 11 _ rfl (hk 11 (by kernel_rfl)) (h _ hJ)
        | 23, ho => cases ho; exact fun L a w1 hLi hw hnot hJ hk hv K h => op_move 2 _ rfl (hk 2 (by kernel_rfl)) (h _ hJ)
        | 24, ho => cases ho; exact fun L a w1 hLi hw hnot hJ hk hv K h => op_move 12 _ rfl (hk 12 (by kernel_rfl)) (h _ hJ)
        | 25, ho => cases ho; exact fun L a w1 hLi hw hnot hJ hk hv K h => op_indexS 81 82 _ 36 rfl Try.underlying22 35 sizeLn g 0 FL.length vc k hlt (hv 23 81 (by kernel_rfl) (by kernel_rfl)) (hv 24 82 (by kernel_rfl) (by kernel_rfl)) (h _ hJ)
        | 26, ho => cases ho; exact fun L a w1 hLi hw hnot hJ hk hv K h => op_load _ (.tmp 83) rfl g (0 + k * 35) (hv 25 83 (by kernel_rfl) (by kernel_rfl)) (lnC ⟨fr, bc, vw, tg⟩) _ (CX.out _ hJ.2.2.1) Try.underlying36 rfl ZX.out (h _ hJ)
        | 27, ho => cases ho; exact fun L a w1 hLi hw hnot hJ hk hv K h => op_call 31 [.tmp 80, .tmp 84] _ #[(pt q 0), (.agg (lnC ⟨fr, bc, vw, tg⟩).toArray)] (nu E) rfl (fun _ _ => by kernel_rfl) (args2 (hv 22 80 (by kernel_rfl) (by kernel_rfl)) (hv 26 84 (by kernel_rfl) (by kernel_rfl))) (J := fun w2 => (∃ u, RAt w2 q u n me L1) ∧ Kp [q] w1 w2) (by obtain ⟨u, hu⟩ := hJ.2.1; simp only [hLi, cond_false] at hu; exact HRr.out _ u hu) (fun w2 e1 => by obtain ⟨u, hu⟩ := hJ.2.1; exact h _ ⟨KAt.keepR hJ.1 hu e1.2, (by show ∃ u, RAt w2 q u n me (bif up L 27 27 then L1 else L0); rw [up_self]; exact e1.1), own_keepR hJ.2.2.1 hu e1.2, hJ.2.2.2.trans (e1.2.below (by simpa using hqw) hJ.2.2.2.size)⟩)
        | 28, ho => cases ho; exact fun L a w1 hLi hw hnot hJ hk hv K h => op_neqI 79 85 _ _ E E rfl (hv 21 79 (by kernel_rfl) (by kernel_rfl)) (hv 27 85 (by kernel_rfl) (by kernel_rfl)) (by rw [beq_self_eq_true]; exact h _ hJ)
        | (i + 29), ho => exact absurd ho (by simp)
      intro LL W5 hall hJ
      simp only [List.foldl_cons, List.foldl_nil, List.setIfInBounds_toArray, List.set_cons_zero, List.set_cons_succ]
      obtain ⟨j1, j2, j3, j4⟩ := hJ
      rw [hall 21 (by decide), cond_true] at j1
      rw [hall 27 (by decide), cond_true] at j2
      have J1 : Hid (KAt W5 p n me (allL n (FL.take (k + 1)))) := by
        show KAt _ _ _ _ _
        rw [HL1.out]
        exact j1
      have J2 : Hid (∃ u, RAt W5 q u n me (allL n (FL.take (k + 1)))) := by
        show ∃ u, _
        rw [HL1.out]
        exact j2
      have J3 := hid j3
      have J4 := hid j4
      clear j1 j2 j3 j4 hall
      go_wp2
      exact ⟨⟨k + 1, by omega, by go_num, J1, J2, J3, J4⟩, by simp [intOf]; omega⟩
    · have d5 : decide ((k : Int) < (FL.length : Int)) = false := decide_eq_false (by omega)
      have d5' : decide (k < FL.length) = false := decide_eq_false hlt
      rw [List.take_of_length_le (by omega)] at HK HR
      go_wp2
      go_ret3
      obtain ⟨u, hu⟩ := HR.out
      exact HP2.out p q u _ HK.out hu HPW.out HQW.out HBl.out
end Go.Proofs.Ytfigbgpfkhcpcaa.Kn
