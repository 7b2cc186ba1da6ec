/-
  How many of a client's operations each beginning of the longest view has: what counter makes, and Stable.
-/
import Derived.Test.YtfigbgpfkhcpcaaIlo
import Derived.Test.YtfigbgpfkhcpcaaIop
namespace Go.Proofs.Ytfigbgpfkhcpcaa.Kn
open Go Go.RowKit
set_option maxRecDepth 100000

set_option maxHeartbeats 2000000 in
theorem counter_any (p : Nat) (c : Int) (w : World) : Calls Try.prog 34 #[pt p 0, nu c] w fun e w' =>
    ∃ b1 b2, e = .returned (.func (.func 42) #[] #[pt b1 0, pt b2 0]) ∧ w'.heap[b1]? = some (.cells #[pt p 0] 25) ∧ w'.heap[b2]? = some (.cells #[nu c] 3) ∧ Below w.heap.size w w' := by
  go_enter Try.func34, Try.ntmps34
  go_wp2
  go_ret
  refine ⟨w.heap.size, w.heap.size + 1, by simp, ?_, ?_, ((Below.refl _ w).alloc (Nat.le_refl _) _).alloc (by simp) _⟩
  · exact (heap_old1 _ _ _ (by simp)).trans (top_obj w _)
  · have := top_obj (w.alloc (.cells #[pt p 0] 25)) (.cells #[nu c] 3)
    simpa using this
set_option maxHeartbeats 16000000 in
theorem told_any {w : World} {p n me : Nat} {L : List Ln} (h : KAt w p n me L) (f : Int → Nat) (hf : ∀ i, f i ≤ (longL L).length) (c : Int) {b1 b2 : Nat} (h1 : w.heap[b1]? = some (.cells #[pt p 0] 25)) (h2 : w.heap[b2]? = some (.cells #[nu c] 3)) :
    Calls Try.prog 42 #[.agg (wC f).toArray, pt b1 0, pt b2 0] w fun e w' =>
      ∃ g, e = .returned (.slice (some ⟨g, 0, none⟩) n n) ∧ w.heap.size ≤ g ∧ w'.heap[g]? = some (.cells (ic ((List.range n).map fun (i : Nat) => (Hist.cnt ((longL L).take (f (i : Int))) c : Int))).toArray 3) ∧ Below w.heap.size w w' := by
  have B0 := hid (below_a1 w (.cells (wC f).toArray 59))
  have T0 := hid (top_obj w (.cells (wC f).toArray 59))
  have C0 : Hid (∀ W, Below w.heap.size w W → W.cell? ⟨p, 0, none⟩ = some (nu n)) := fun W hb => kr0 (h.kept hb).obj
  have C2 : Hid (∀ W, Below w.heap.size w W → W.cell? ⟨p, 2, none⟩ = some (st (longL L))) := fun W hb => kr2 (h.kept hb).obj
  have Cb1 : Hid (∀ W, Below w.heap.size w W → W.cell? ⟨b1, 0, none⟩ = some (pt p 0)) := fun W hb => by rw [cell_of_row _ _ _ _ _ _ (row_kept h1 hb)]; rfl
  have Cb2 : Hid (∀ W, Below w.heap.size w W → W.cell? ⟨b2, 0, none⟩ = some (nu c)) := fun W hb => by rw [cell_of_row _ _ _ _ _ _ (row_kept h2 hb)]; rfl
  have hn8 := h.n8
  have hTl : (longL L).length < 9223372036854775807 := by have := h.inv.long; omega
  generalize longL L = T at *
  clear h h1 h2
  have HCt : Hid (∀ (k : Nat) (W : World), Calls Try.prog 43 #[st (T.take (f (k : Int))), nu c] W fun e w' => e = .returned (nu (Hist.cnt (T.take (f (k : Int))) c : Int)) ∧ Below W.heap.size W w') := fun k W => Hist.count_any _ (by rw [List.length_take]; omega) c W
  obtain ⟨cN, hcN⟩ : ∃ cN : Nat → Nat, (fun (k : Nat) => Hist.cnt (T.take (f (k : Int))) c) = cN := ⟨_, rfl⟩
  have hcK : ∀ k : Nat, Hist.cnt (T.take (f (k : Int))) c = cN k := fun k => congrFun hcN k
  have HCt' : Hid (∀ (k : Nat) (W : World), Calls Try.prog 43 #[st (T.take (f (k : Int))), nu c] W fun e w' => e = .returned (nu (cN k : Int)) ∧ Below W.heap.size W w') := fun k W => by
    have := HCt.out k W
    rwa [hcK] at this
  have hpost : ((List.range n).map fun (i : Nat) => (Hist.cnt (T.take (f (i : Int))) c : Int)) = tc (fun k => (cN k : Int)) n n := by
    rw [tc_full]
    apply List.map_congr_left
    intro i _
    rw [hcK]
  rw [hpost]
  obtain ⟨Z, hZ⟩ : ∃ Z, (ic (tc (fun k => (cN k : Int)) n 0)).toArray = Z := ⟨_, rfl⟩
  have hz : (List.replicate n (nu 0)).toArray = Z := by rw [← hZ, tc_zero]
  have HZ := hid hZ
  have Hz := hid hz
  clear hpost hcK hcN HCt hZ hz
  go_enter Try.func42, Try.ntmps42
  go_upto_region 1 with fail
  generalize hW0 : w.alloc (.cells (wC f).toArray 59) = W0 at *
  have hs0 : Hid (W0.heap.size = w.heap.size + 1) := by
    show _ = _
    rw [← hW0]; simp
  clear hW0
  have k0 := C0.out _ B0.out
  have k1 := Cb1.out _ B0.out
  go_upto_region 2 with ((with_reducible refine wl_make (.tmp 10) ?_ ?_ n hn8 Z Hz.out ?_ ?_); exact rfl; exact rfl; exact rfl)
  have B1 : Hid (Below w.heap.size w (W0.alloc (.cells Z 3))) := B0.out.alloc B0.out.size _
  have G1 := hid (top_obj W0 (.cells Z 3))
  have X1 : Hid ((W0.alloc (.cells Z 3)).heap[w.heap.size]? = some (.cells (wC f).toArray 59)) := (heap_old1 _ _ _ (by have := hs0.out; omega)).trans T0.out
  obtain ⟨W1, hW1⟩ : ∃ W1, W0.alloc (.cells Z 3) = W1 := ⟨_, rfl⟩
  rw [hW1] at G1 B1 X1 ⊢
  rw [← HZ.out] at G1
  obtain ⟨g, hg⟩ : ∃ g, W0.heap.size = g := ⟨_, rfl⟩
  obtain ⟨X, hX⟩ : ∃ X, w.heap.size = X := ⟨_, rfl⟩
  rw [hg] at G1 hs0 ⊢
  rw [hX] at X1 hs0 ⊢
  have hgX : X < g := by have := hs0.out; omega
  have HX := hid hX
  clear hg hX k0 k1 T0 B0 hs0 hW1 HZ Hz
  go_wp2
  go_loopw [14] (fun i wr => ∃ k : Nat, k ≤ n ∧ i = nu k ∧ Hid (wr.heap[g]? = some (.cells (ic (tc (fun k => (cN k : Int)) n k)).toArray 3)) ∧ Hid (wr.heap[X]? = some (.cells (wC f).toArray 59)) ∧ Hid (Below w.heap.size w wr)) (fun i _ => n - (intOf i).toNat)
  case atStart => exact ⟨0, Nat.zero_le _, rfl, G1, X1, B1⟩
  case round =>
    obtain ⟨k, hk, rfl, HG, HXr, HB⟩ := hrel
    by_cases hkn : k < n
    · have d1 : decide ((k : Int) < (n : Int)) = true := decide_eq_true (by omega)
      have d1' : decide (k < n) = true := decide_eq_true hkn
      have hk8 : k < 8 := by omega
      have hm0 := hf (k : Int)
      have HC := hid (fun W => HCt'.out k W)
      have hset := tc_set (fun k => (cN k : Int)) n k hkn
      have hLA : ((ic (tc (fun k => (cN k : Int)) n k)).take k).length = 0 + k * 1 := by
        rw [List.length_take]
        simp [ic, tc_len]
        omega
      obtain ⟨WF, hWF⟩ : ∃ WF, wC f = WF := ⟨_, rfl⟩
      have CX : Hid (∀ W : World, W.heap[X]? = some (.cells WF.toArray 59) → W.cell? ⟨X, 0 + k * 1, none⟩ = some (nu (f (k : Int)))) := fun W hr => by
        rw [show 0 + k * 1 = 0 + k by omega]
        exact row_zeroY hr k _ (by rw [← hWF]; exact wC_at f k hk8)
      rw [hWF] at HXr
      generalize f (k : Int) = m at *
      obtain ⟨z, hzz⟩ : ∃ z : Nat, cN k = z := ⟨_, rfl⟩
      simp only [hzz] at HC hset
      obtain ⟨R0, hR0⟩ : ∃ R0, ic (tc (fun k => (cN k : Int)) n k) = R0 := ⟨_, rfl⟩
      obtain ⟨R1, hR1⟩ : ∃ R1, ic (tc (fun k => (cN k : Int)) n (k + 1)) = R1 := ⟨_, rfl⟩
      rw [hR0] at HG hset hLA
      rw [hR1] at hset
      obtain ⟨RA, hRA⟩ : ∃ RA, R0.take k = RA := ⟨_, rfl⟩
      obtain ⟨RC, hRC⟩ : ∃ RC, R0.drop (k + 1) = RC := ⟨_, rfl⟩
      rw [hRA, hRC] at hset
      rw [hRA] at hLA
      have E0 := hid hset.1
      have E1 := hid hset.2
      have LA := hid hLA
      have ER := hid hR1
      have hm : m ≤ T.length := hm0
      have hg0 : w.heap.size ≤ g := by have := HX.out; omega
      clear hset hLA hR0 hR1 hRA hRC hzz hm0 HCt'
      go_upto_region 5 with fail
      refine wp_region_cs (N := 32) [(Value.slice (some ⟨g, 0, none⟩) n n), (nu (k : Int)), (pt p 0), (pt p 0), (pt p 2), (st T), (nu (k : Int)), (pt X (0 + k * 1)), (nu (m : Int)), (st (T.take m)), (nu c), (nu (z : Int)), (pt g (0 + k * 1)), undef] (fun L w' => Below w.heap.size w w' ∧ w'.heap[g]? = some (.cells (bif L 13 then R1 else R0).toArray 3) ∧ w'.heap[X]? = some (.cells WF.toArray 59)) [(17, (Value.slice (some ⟨g, 0, none⟩) n n)), (18, (nu (k : Int))), (19, (pt p 0)), (20, (pt p 0)), (21, (pt p 2)), (22, (st T)), (23, (nu (k : Int))), (24, (pt X (0 + k * 1))), (25, (nu (m : Int))), (26, (st (T.take m))), (27, (nu c)), (28, (nu (z : Int))), (29, (pt g (0 + k * 1)))] (by kernel_rfl) (by kernel_rfl) rfl (fun w1 hb => ⟨below_twoY HB.out hb HB.out.size, row_kept HG.out hb, row_kept HXr.out hb⟩) (by kernel_rfl) ?_ ?_
      · intro i o ho
        match i, ho with
        | 0, ho => cases ho; exact fun L a w1 hLi hw hnot hJ hk hv K h => op_move 5 _ rfl (hk 5 (by kernel_rfl)) (h _ hJ)
        | 1, ho => cases ho; exact fun L a w1 hLi hw hnot hJ hk hv K h => op_move 6 _ rfl (hk 6 (by kernel_rfl)) (h _ hJ)
        | 2, ho => cases ho; exact fun L a w1 hLi hw hnot hJ hk hv K h => op_load1 _ (.tmp 1) rfl b1 0 (hk 1 (by kernel_rfl)) (pt p 0) _ (Cb1.out _ hJ.1) Try.underlying25 rfl (h _ hJ)
        | 3, ho => cases ho; exact fun L a w1 hLi hw hnot hJ hk hv K h => op_nil 19 p 0 rfl (hv 2 19 (by kernel_rfl) (by kernel_rfl)) (h _ hJ)
        | 4, ho => cases ho; exact fun L a w1 hLi hw hnot hJ hk hv K h => op_fa 20 _ 2 p 0 2 rfl (fun W => by kernel_rfl) (hv 3 20 (by kernel_rfl) (by kernel_rfl)) (h _ hJ)
        | 5, ho => cases ho; exact fun L a w1 hLi hw hnot hJ hk hv K h => op_load1 _ (.tmp 21) rfl p 2 (hv 4 21 (by kernel_rfl) (by kernel_rfl)) (st T) _ (C2.out _ hJ.1) Try.underlying9 rfl (h _ hJ)
        | 6, ho => cases ho; exact fun L a w1 hLi hw hnot hJ hk hv K h => op_move 6 _ rfl (hk 6 (by kernel_rfl)) (h _ hJ)
        | 7, ho => cases ho; exact fun L a w1 hLi hw hnot hJ hk hv K h => op_indexA 3 23 _ 3 8 rfl Try.underlying59 1 (by kernel_rfl) X 0 k hk8 (hk 3 (by kernel_rfl)) (hv 6 23 (by kernel_rfl) (by kernel_rfl)) (h _ hJ)
        | 8, ho => cases ho; exact fun L a w1 hLi hw hnot hJ hk hv K h => op_load1 _ (.tmp 24) rfl X (0 + k * 1) (hv 7 24 (by kernel_rfl) (by kernel_rfl)) (nu (m : Int)) _ (CX.out _ hJ.2.2) Try.underlying3 rfl (h _ hJ)
        | 9, ho => cases ho; exact fun L a w1 hLi hw hnot hJ hk hv K h => op_sliceS 22 25 _ rfl Try.underlying9 T m hm (hv 5 22 (by kernel_rfl) (by kernel_rfl)) (hv 8 25 (by kernel_rfl) (by kernel_rfl)) (h _ hJ)
        | 10, ho => cases ho; exact fun L a w1 hLi hw hnot hJ hk hv K h => op_load1 _ (.tmp 2) rfl b2 0 (hk 2 (by kernel_rfl)) (nu c) _ (Cb2.out _ hJ.1) Try.underlying3 rfl (h _ hJ)
        | 11, ho => cases ho; exact fun L a w1 hLi hw hnot hJ hk hv K h => op_call 43 [.tmp 26, .tmp 27] _ #[(st (T.take m)), (nu c)] (nu (z : Int)) rfl (fun _ _ => by kernel_rfl) (args2 (hv 9 26 (by kernel_rfl) (by kernel_rfl)) (hv 10 27 (by kernel_rfl) (by kernel_rfl))) (J := fun w2 => Below w1.heap.size w1 w2) (HC.out w1) (fun w2 e1 => h _ ⟨below_twoY hJ.1 e1 hJ.1.size, row_kept hJ.2.1 e1, row_kept hJ.2.2 e1⟩)
        | 12, ho => cases ho; exact fun L a w1 hLi hw hnot hJ hk hv K h => op_indexS 17 18 _ 3 rfl Try.underlying39 1 (by kernel_rfl) g 0 n n k hkn (hv 0 17 (by kernel_rfl) (by kernel_rfl)) (hv 1 18 (by kernel_rfl) (by kernel_rfl)) (h _ hJ)
        | 13, ho => cases ho; exact fun L a w1 hLi hw hnot hJ hk hv K h => op_put1 _ 29 28 rfl rfl g (0 + k * 1) (hv 12 29 (by kernel_rfl) (by kernel_rfl)) RA RC (nu 0) (nu (z : Int)) (hv 11 28 (by kernel_rfl) (by kernel_rfl)) _ (by have e := hJ.2.1; simp only [hLi, cond_false] at e; rw [E0.out] at e; exact e) LA.out rfl (by kernel_rfl) (fun w2 hr hb => h _ ⟨hb.below hJ.1 hg0, (by show w2.heap[g]? = some (.cells (bif up L 13 13 then R1 else R0).toArray _); rw [up_self, cond_true, E1.out]; exact hr), hb.row hJ.2.2 (by omega)⟩)
        | (i + 14), ho => exact absurd ho (by simp)
      intro LL W2 hall hJ
      simp only [List.foldl_cons, List.foldl_nil, List.setIfInBounds_toArray, List.set_cons_zero, List.set_cons_succ]
      obtain ⟨t2, r2, x2⟩ := hJ
      rw [hall 13 (by decide), cond_true] at r2
      have T2 := hid t2
      have R2 : Hid (W2.heap[g]? = some (.cells (ic (tc (fun k => (cN k : Int)) n (k + 1))).toArray 3)) := by
        show _ = _
        rw [ER.out]
        exact r2
      rw [← hWF] at x2
      have X2 := hid x2
      clear t2 r2 x2
      go_wp2
      exact ⟨⟨k + 1, by omega, by go_num, R2, X2, T2⟩, by simp [intOf]; omega⟩
    · obtain rfl : k = n := by omega
      have d1 : decide ((k : Int) < (k : Int)) = false := decide_eq_false (by omega)
      have hg0 : w.heap.size ≤ g := by have := HX.out; omega
      go_wp2
      go_ret
      exact ⟨g, rfl, hg0, HG.out, HB.out⟩
set_option maxHeartbeats 4000000 in
theorem stable_any {w : World} {p n me : Nat} {L : List Ln} (h : KAt w p n me L) : Calls Try.prog 18 #[pt p 0] w fun e w' =>
    ∃ g, e = .returned (.slice (some ⟨g, 0, none⟩) n n) ∧ w.heap.size ≤ g ∧ w'.heap[g]? = some (.cells (ic (stL n me L)).toArray 3) ∧ Below w.heap.size w w' := by
  have HM := hid (made_any h)
  have HC := hid (counter_any p me w)
  have c1 : w.cell? ⟨p, 1, none⟩ = some (nu me) := kr1 h.obj
  have HT : Hid (∀ (W : World), Below w.heap.size w W → ∀ b1 b2, W.heap[b1]? = some (.cells #[pt p 0] 25) → W.heap[b2]? = some (.cells #[nu me] 3) → Calls Try.prog 42 #[.agg (wC (wl L)).toArray, pt b1 0, pt b2 0] W fun e w' =>
      ∃ g, e = .returned (.slice (some ⟨g, 0, none⟩) n n) ∧ W.heap.size ≤ g ∧ w'.heap[g]? = some (.cells (ic (stL n me L)).toArray 3) ∧ Below W.heap.size W w') := fun W hb b1 b2 h1 h2 => told_any (h.kept hb) (wl L) (fun i => wl_long L i) me h1 h2
  have C36 : Hid (∀ W, Below w.heap.size w W → ∀ j y, (wC (wl L))[j]? = some y → W.cell? ⟨p, 36 + j, none⟩ = some y) := fun W hb => kr36 (h.kept hb).obj h.inv.tag
  have ZW := hid (sizeWs (wl L))
  generalize wC (wl L) = WL at *
  generalize stL n me L = SL at *
  clear h
  go_enter Try.func18, Try.ntmps18
  go_wp2_with fail
  refine HM.out.mono ?_
  rintro e w1 ⟨rfl, hw1⟩
  subst w1
  go_wp2_with fail
  refine HC.out.mono ?_
  rintro e W1 ⟨b1, b2, rfl, r1, r2, hb1⟩
  have HB1 := hid hb1
  have S36 := C36.out _ hb1
  have HT1 := hid (HT.out _ hb1 b1 b2 r1 r2)
  clear r1 r2 hb1 C36 HT HC HM
  go_wp2_with (first
    | ((with_reducible refine wl_load 59 (.tmp 16) ?_ p 36 ?_ ?_ WL _ S36 Try.underlying59 ?_ ZW.out ?_); exact rfl; exact rfl; exact rfl; exact rfl)
    | (go_at_call 42; refine HT1.out.mono ?_; rintro e W2 ⟨g, rfl, hg, hr, hb2⟩; have HG := hid hg; have HR := hid hr; have HB2 := hid hb2; clear hg hr hb2))
  go_ret
  exact ⟨g, rfl, Nat.le_trans HB1.out.size HG.out, HR.out, below_two HB1.out HB2.out⟩
theorem stable_nil (w : World) : Calls Try.prog 18 #[.pointer none] w fun e w' => e = .returned (.slice none 0 0) ∧ w' = w := by
  have HM := hid (made_nil w)
  go_enter Try.func18, Try.ntmps18
  go_wp2_with fail
  refine HM.out.mono ?_
  rintro e w1 ⟨rfl, hw1⟩
  subst w1
  go_wp2
  go_ret
  exact ⟨rfl, rfl⟩
end Go.Proofs.Ytfigbgpfkhcpcaa.Kn
