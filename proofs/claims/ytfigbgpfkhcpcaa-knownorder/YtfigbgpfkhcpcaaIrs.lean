/-
  What the reference answers: Stable, Cut, Seen.
-/
import Derived.Test.YtfigbgpfkhcpcaaIsj
namespace Go.Proofs.Ytfigbgpfkhcpcaa.Kn
open Go Go.RowKit
set_option maxRecDepth 100000

theorem ic_snoc (l : List Int) (z : Int) : ic (l ++ [z]) = ic l ++ [nu z] := by simp [ic]
theorem st_take (me : Int) (L : List Ln) (k : Nat) : stL (k + 1) me L = stL k me L ++ [(Hist.cnt (word L (k : Int)) me : Int)] := by simp [stL, List.range_succ]
theorem own_nil3 (w : World) (base : Nat) : w.ownsRow base 3 1 (.slice none 0 0) 0 [] := ⟨rfl, .inl ⟨rfl, rfl⟩⟩
/-- What the slots of Stable's region hold that are made on the way. -/
def vW (base k : Nat) (xs : List Value) (z : Value) (L : Nat → Bool) (i : Nat) (v : Value) (w : World) : Prop :=
  if i = 9 then L 10 = true ∨ ∃ g, v = .slice (some ⟨g, 0, none⟩) 1 1 ∧ w.heap[g]? = some (.cells #[z] 3) else w.ownsRow base 3 1 v (k + 1) (xs ++ [z])
theorem vW_up {base k : Nat} {xs : List Value} {z : Value} {i : Nat} (hi : i ≠ 10) (L : Nat → Bool) (j : Nat) (v : Value) (w : World) (h : vW base k xs z L j v w) : vW base k xs z (up L i) j v w := by
  unfold vW at h ⊢
  rw [up_ne hi]
  exact h
set_option maxHeartbeats 8000000 in
theorem rstable_any {w : World} {q n me : Nat} {v : Value} {L : List Ln} (h : RAt w q v n me L) : Calls Try.prog 19 #[pt q 0] w fun e w' => ∃ u, e = .returned u ∧ IntsAt w' u (stL n me L) ∧ Below w.heap.size w w' := by
  have HR : Hid (∀ W, Below w.heap.size w W → RAt W q v n me L) := fun W hb => h.kept hb
  have HWa : Hid (∀ (k : Nat) W, Below w.heap.size w W → Calls Try.prog 12 #[pt q 0, nu (k : Int)] W fun e w' => e = .returned (st (word L (k : Int))) ∧ w' = W) := fun k W hb => rword_any (h.kept hb) (k : Int)
  have HCa : Hid (∀ (k : Nat) W, Calls Try.prog 25 #[st (word L (k : Int)), nu me] W fun e w' => e = .returned (nu (Hist.cnt (word L (k : Int)) me : Int)) ∧ w' = W) := fun k W => Hist.rcount_any _ (by have := (word_long L (k : Int)).length_le; have := h.inv.long; omega) me W
  have hn8 := h.n8
  have O0 : Hid (w.ownsRow w.heap.size 3 1 (.slice none 0 0) 0 (ic (stL 0 me L))) := own_nil3 w _
  have B0 := hid (Below.refl w.heap.size w)
  clear h
  go_enter Try.func19, Try.ntmps19
  go_wp2
  go_loopw [3, 4] (fun u i wr => ∃ k : Nat, k ≤ n ∧ i = nu k ∧ Hid (wr.ownsRow w.heap.size 3 1 u k (ic (stL k me L))) ∧ Hid (Below w.heap.size w wr)) (fun _ i _ => n - (intOf i).toNat)
  case atStart => exact ⟨0, by omega, rfl, O0, B0⟩
  case round =>
    obtain ⟨k, hk, rfl, HO, HB⟩ := hrel
    have c0 := (HR.out _ HB.out).c0
    by_cases hlt : k < n
    · have d1 : decide ((k : Int) < (n : Int)) = true := decide_eq_true (by omega)
      have d1' : decide (k < n) = true := decide_eq_true hlt
      have hk1 : k ≤ 100000 := by omega
      have HWd := hid (HWa.out k)
      have HCt := hid (HCa.out k)
      have HST := hid (st_take me L k)
      generalize word L (k : Int) = WD at *
      obtain ⟨z, hz⟩ : ∃ z : Int, (Hist.cnt WD me : Int) = z := ⟨_, rfl⟩
      rw [hz] at HCt HST
      obtain ⟨xs, hxs⟩ : ∃ xs, ic (stL k me L) = xs := ⟨_, rfl⟩
      have HXS : Hid (ic (stL (k + 1) me L) = xs ++ [nu z]) := by
        show _ = _
        rw [HST.out, ic_snoc, hxs]
      rw [hxs] at HO
      clear hz hxs HST
      go_upto_region 5 with fail
      clear c0
      have HZ := hid hk1
      refine wp_region_sj (N := 25) [9, 10, 11] (vW w.heap.size k xs (nu z)) [u3, (pt q 0), (nu (k : Int)), (st WD), (pt q 0), (pt q 0), (pt q 1), (nu me), (nu z), undef, undef, undef] (fun L W => Below w.heap.size w W ∧ (L 10 = false → W.ownsRow w.heap.size 3 1 u3 k xs)) (fun u => [(13, u3), (14, (pt q 0)), (15, (nu (k : Int))), (16, (st WD)), (17, (pt q 0)), (18, (pt q 0)), (19, (pt q 1)), (20, (nu me)), (21, (nu z)), (22, u 9), (23, u 10), (3, u 11)]) (by kernel_rfl) (by kernel_rfl) rfl (fun u => by kernel_rfl) (fun w1 hb => ⟨below_twoY HB.out hb HB.out.size, fun _ => own_kept HO.out hb⟩) ?_ ?_
      · intro i o ho
        match i, ho with
        | 0, ho => cases ho; exact oweQ u3 (by decide) rfl (fun L j v w _ h => vW_up (by decide) L j v w h) (fun L w h => ⟨h.1, fun e => h.2 (by rw [← e]; exact (up_ne (by decide)).symm)⟩) (fun L a w1 hLi hJ hnot hk hv hS K h => op_move 3 _ rfl (hk 3 (by kernel_rfl)) h)
        | 1, ho => cases ho; exact oweQ (pt q 0) (by decide) rfl (fun L j v w _ h => vW_up (by decide) L j v w h) (fun L w h => ⟨h.1, fun e => h.2 (by rw [← e]; exact (up_ne (by decide)).symm)⟩) (fun L a w1 hLi hJ hnot hk hv hS K h => op_move 0 _ rfl (hk 0 (by kernel_rfl)) h)
        | 2, ho => cases ho; exact oweQ (nu (k : Int)) (by decide) rfl (fun L j v w _ h => vW_up (by decide) L j v w h) (fun L w h => ⟨h.1, fun e => h.2 (by rw [← e]; exact (up_ne (by decide)).symm)⟩) (fun L a w1 hLi hJ hnot hk hv hS K h => op_move 4 _ rfl (hk 4 (by kernel_rfl)) h)
        | 3, ho => cases ho; exact oweQ (st WD) (by decide) rfl (fun L j v w _ h => vW_up (by decide) L j v w h) (fun L w h => ⟨h.1, fun e => h.2 (by rw [← e]; exact (up_ne (by decide)).symm)⟩) (fun L a w1 hLi hJ hnot hk hv hS K h => op_call 12 [.tmp 14, .tmp 15] _ #[(pt q 0), (nu (k : Int))] (st WD) rfl (fun _ _ => by kernel_rfl) (args2 (hv 1 14 (by kernel_rfl) (by decide) (by kernel_rfl)) (hv 2 15 (by kernel_rfl) (by decide) (by kernel_rfl))) (J := fun w2 => w2 = w1) (HWd.out _ hJ.1) (fun w1 e1 => by subst e1; exact h))
        | 4, ho => cases ho; exact oweQ (pt q 0) (by decide) rfl (fun L j v w _ h => vW_up (by decide) L j v w h) (fun L w h => ⟨h.1, fun e => h.2 (by rw [← e]; exact (up_ne (by decide)).symm)⟩) (fun L a w1 hLi hJ hnot hk hv hS K h => op_move 0 _ rfl (hk 0 (by kernel_rfl)) h)
        | 5, ho => cases ho; exact oweQ (pt q 0) (by decide) rfl (fun L j v w _ h => vW_up (by decide) L j v w h) (fun L w h => ⟨h.1, fun e => h.2 (by rw [← e]; exact (up_ne (by decide)).symm)⟩) (fun L a w1 hLi hJ hnot hk hv hS K h => op_nil 17 q 0 rfl (hv 4 17 (by kernel_rfl) (by decide) (by kernel_rfl)) h)
        | 6, ho => cases ho; exact oweQ (pt q 1) (by decide) rfl (fun L j v w _ h => vW_up (by decide) L j v w h) (fun L w h => ⟨h.1, fun e => h.2 (by rw [← e]; exact (up_ne (by decide)).symm)⟩) (fun L a w1 hLi hJ hnot hk hv hS K h => op_fa 18 _ 1 q 0 1 rfl (fun W => by kernel_rfl) (hv 5 18 (by kernel_rfl) (by decide) (by kernel_rfl)) h)
        | 7, ho => cases ho; exact oweQ (nu me) (by decide) rfl (fun L j v w _ h => vW_up (by decide) L j v w h) (fun L w h => ⟨h.1, fun e => h.2 (by rw [← e]; exact (up_ne (by decide)).symm)⟩) (fun L a w1 hLi hJ hnot hk hv hS K h => op_load1 _ (.tmp 19) rfl q 1 (hv 6 19 (by kernel_rfl) (by decide) (by kernel_rfl)) (nu me) _ (HR.out _ hJ.1).c1 Try.underlying3 rfl h)
        | 8, ho => cases ho; exact oweQ (nu z) (by decide) rfl (fun L j v w _ h => vW_up (by decide) L j v w h) (fun L w h => ⟨h.1, fun e => h.2 (by rw [← e]; exact (up_ne (by decide)).symm)⟩) (fun L a w1 hLi hJ hnot hk hv hS K h => op_call 25 [.tmp 16, .tmp 20] _ #[(st WD), (nu me)] (nu z) rfl (fun _ _ => by kernel_rfl) (args2 (hv 3 16 (by kernel_rfl) (by decide) (by kernel_rfl)) (hv 7 20 (by kernel_rfl) (by decide) (by kernel_rfl))) (J := fun w2 => w2 = w1) (HCt.out _) (fun w1 e1 => by subst e1; exact h))
        | 9, ho =>
          cases ho
          intro L a W hLi hw hnot hJ hk hv K h
          have h10 := hnot 10 _ rfl (by kernel_rfl)
          have e21 := vL_c (hv 8 21 (hw 8 (by kernel_rfl)) (by kernel_rfl)) (by decide)
          refine op_bs1 _ 3 21 rfl Try.underlying39 _ 1 8 info3 (by decide) (by decide) (nu z) e21 #[nu z] rfl rfl ?_
          refine h _ _ (fun _ => ?_) ⟨hJ.1.alloc hJ.1.size _, fun e => own_kept (hJ.2 h10) (below_a1 W _)⟩ (fun j d hj hjs hd => ?_)
          · unfold vL
            rw [if_pos (by decide)]
            unfold vW
            rw [if_pos rfl]
            exact .inr ⟨_, rfl, top_obj W _⟩
          · simp only [List.mem_cons, List.not_mem_nil, or_false] at hjs
            rcases hjs with e | e | e
            · subst e; rw [hLi] at hj; cases hj
            · subst e; rw [h10] at hj; cases hj
            · subst e; rw [hnot 11 _ rfl (by kernel_rfl)] at hj; cases hj
        | 10, ho =>
          cases ho
          intro L a W hLi hw hnot hJ hk hv K h
          have e13 := vL_c (hv 0 13 (hw 0 (by kernel_rfl)) (by kernel_rfl)) (by decide)
          have e22 := vL_s (hv 9 22 (hw 9 (by kernel_rfl)) (by kernel_rfl)) (by decide)
          unfold vW at e22
          rw [if_pos rfl, hLi] at e22
          rcases e22 with e22 | ⟨g, e22, hg⟩
          · cases e22
          · refine op_pushI 13 22 w.heap.size _ _ 8 rfl Try.underlying39 info3 rfl (by decide) k g xs (nu z) u3 e13 e22 hg (hJ.2 hLi) rfl hk1 hJ.1.size (fun v' w' g1 g2 => ?_)
            refine h _ _ (fun _ => ?_) ⟨hJ.1.grown g2 hJ.1.size (own_ge (hJ.2 hLi)), fun e => by rw [up_self] at e; cases e⟩ (fun j d hj hjs hd => ?_)
            · unfold vL
              rw [if_pos (by decide)]
              unfold vW
              rw [if_neg (by decide)]
              exact g1
            · simp only [List.mem_cons, List.not_mem_nil, or_false] at hjs
              rcases hjs with e | e | e
              · subst e
                unfold vW
                rw [if_pos rfl, up_self]
                exact .inl rfl
              · subst e; rw [hLi] at hj; cases hj
              · subst e; rw [hnot 11 _ rfl (by kernel_rfl)] at hj; cases hj
        | 11, ho =>
          cases ho
          intro L a W hLi hw hnot hJ hk hv K h
          have e23 := vL_s (hv 10 23 (hw 10 (by kernel_rfl)) (by kernel_rfl)) (by decide)
          unfold vW at e23
          rw [if_neg (by decide)] at e23
          refine op_assign 23 _ rfl rfl ?_
          refine h _ _ (fun _ => ?_) ⟨hJ.1, fun e => hJ.2 (by rw [← e]; exact (up_ne (by decide)).symm)⟩ (fun j d hj hjs hd => vW_up (by decide) L j _ W (vL_s (hv j d hj hd) hjs))
          unfold vL
          rw [if_pos (by decide)]
          unfold vW
          rw [if_neg (by decide)]
          exact e23
        | (i + 12), ho => exact absurd ho (by simp)
      intro u LL W hall hJ hsp
      simp only [List.foldl_cons, List.foldl_nil, List.setIfInBounds_toArray, List.set_cons_zero, List.set_cons_succ]
      have h11 := hsp 11 (by decide) rfl
      unfold vW at h11
      rw [if_neg (by decide), ← HXS.out] at h11
      have O11 := hid h11
      have B11 := hid hJ.1
      clear hsp hJ h11 hall
      go_wp2
      exact ⟨⟨k + 1, by omega, by go_num, O11, B11⟩, by simp [intOf]; omega⟩
    · obtain rfl : k = n := by omega
      have d1 : decide ((k : Int) < (k : Int)) = false := decide_eq_false (by omega)
      go_wp2
      go_ret
      exact ⟨_, rfl, ints_of (by rw [st_len]; exact HO.out), HB.out⟩
theorem min_take {l : List Int} {k : Nat} (h1 : 1 ≤ k) (hk : k < l.length) : minL (l.take (k + 1)) = min (minL (l.take k)) (l.getD k 0) := by
  rw [List.take_succ_eq_append_getElem hk]
  have e : l.getD k 0 = l[k] := by simp [List.getD, hk]
  rw [e]
  cases hq : l.take k with
  | nil =>
    have := congrArg List.length hq
    rw [List.length_take, List.length_nil] at this
    omega
  | cons x t => simp [minL]
theorem min_one {l : List Int} (hl : 0 < l.length) : minL (l.take 1) = l.getD 0 0 := by
  cases l with
  | nil => simp at hl
  | cons x t => simp [minL]
set_option maxHeartbeats 8000000 in
theorem rcut_any {w : World} {q n me : Nat} {v : Value} {L : List Ln} (h : RAt w q v n me L) : Calls Try.prog 21 #[pt q 0] w fun e w' => e = .returned (nu (cutN n me L)) ∧ Below w.heap.size w w' := by
  have HS := hid (rstable_any h)
  have hl : (stL n me L).length = n := st_len n me L
  have hn2 := h.n2
  have hn8 := h.n8
  have HQ : Hid (cutN n me L = minL (stL n me L)) := rfl
  generalize cutN n me L = cn at *
  generalize stL n me L = l at *
  clear h
  go_enter Try.func21, Try.ntmps21
  go_wp2_with fail
  refine HS.out.mono ?_
  rintro e W1 ⟨u, rfl, ⟨ua, cap, rfl, hc⟩, hb⟩
  obtain ⟨g, off, rfl, hj⟩ := hc (fun e => by rw [e] at hl; simp at hl; omega)
  have HJ := hid hj
  have HB := hid hb
  have k0 := hj 0 (by omega)
  have HM1 := hid (min_one (l := l) (by omega))
  clear hc hj hb HS
  generalize hd0 : l.getD 0 0 = d0 at *
  have d0l : decide ((0 : Int) < (l.length : Int)) = true := decide_eq_true (by omega)
  have d0n : decide (0 < l.length) = true := decide_eq_true (by omega)
  clear hd0
  rw [Nat.add_zero] at k0
  go_wp2
  go_loopw [4, 5] (fun m i wr => ∃ k : Nat, 1 ≤ k ∧ k ≤ l.length ∧ m = nu (minL (l.take k)) ∧ i = nu k ∧ wr = W1) (fun _ i _ => l.length - (intOf i).toNat)
  case atStart => exact ⟨1, by omega, by omega, by rw [HM1.out], rfl, rfl⟩
  case round =>
    obtain ⟨k, hk1, hk, rfl, rfl, hwr⟩ := hrel
    subst wr
    by_cases hlt : k < l.length
    · have d1 : decide ((k : Int) < (l.length : Int)) = true := decide_eq_true (by omega)
      have d1' : decide (k < l.length) = true := decide_eq_true hlt
      have hck := HJ.out k hlt
      have HT := hid (min_take hk1 hlt)
      generalize l.getD k 0 = d at *
      generalize minL (l.take k) = m at *
      obtain ⟨mm, hmm⟩ : ∃ mm, min m d = mm := ⟨_, rfl⟩
      rw [hmm] at HT
      clear k0
      go_wp2
      exact ⟨⟨k + 1, by omega, by omega, by rw [HT.out], by go_num, trivial⟩, by simp [intOf]; omega⟩
    · obtain rfl : k = l.length := by omega
      have d1 : decide ((l.length : Int) < (l.length : Int)) = false := decide_eq_false (by omega)
      have d1' : decide (l.length < l.length) = false := decide_eq_false (by omega)
      have HT : Hid (minL (l.take l.length) = cn) := by show _ = _; rw [List.take_length, HQ.out]
      go_wp2
      go_ret
      exact ⟨by rw [← HT.out]; rfl, HB.out⟩
def seenP (me : Nat) (c : Nat → Int) (k : Nat) : Int := (List.range k).foldl (fun m i => if i = me then m else min m (c i)) 9999
theorem seenP_step (me : Nat) (c : Nat → Int) (k : Nat) : seenP me c (k + 1) = if k = me then seenP me c k else min (seenP me c k) (c k) := by
  unfold seenP
  rw [List.range_succ, List.foldl_append]
  rfl
set_option maxHeartbeats 8000000 in
theorem rseen_any {w : World} {q n me : Nat} {v : Value} {L : List Ln} (h : RAt w q v n me L) : Calls Try.prog 23 #[pt q 0] w fun e w' => e = .returned (nu (seenN n me L)) ∧ Below w.heap.size w w' := by
  have HR : Hid (∀ W, Below w.heap.size w W → RAt W q v n me L) := fun W hb => h.kept hb
  have HWa : Hid (∀ (k : Nat) W, Below w.heap.size w W → Calls Try.prog 14 #[pt q 0, nu (k : Int)] W fun e w' => e = .returned (st (ownv L (k : Int))) ∧ w' = W) := fun k W hb => rown_any (h.kept hb) (k : Int)
  have HCa : Hid (∀ (k : Nat) W, Calls Try.prog 25 #[st (ownv L (k : Int)), nu me] W fun e w' => e = .returned (nu (Hist.cnt (ownv L (k : Int)) me : Int)) ∧ w' = W) := fun k W => Hist.rcount_any _ (by have := ((own_word L (k : Int)).trans (word_long L (k : Int))).length_le; have := h.inv.long; omega) me W
  have hn8 := h.n8
  have HQ : Hid (seenP me (fun i => (Hist.cnt (ownv L (i : Int)) (me : Int) : Int)) n = seenN n me L) := seen_is h.n2 h.n8 h.hme h.inv
  have B0 := hid (Below.refl w.heap.size w)
  obtain ⟨cf, hcf⟩ : ∃ cf : Nat → Int, (fun (i : Nat) => (Hist.cnt (ownv L (i : Int)) (me : Int) : Int)) = cf := ⟨_, rfl⟩
  have hck : ∀ k : Nat, (Hist.cnt (ownv L (k : Int)) (me : Int) : Int) = cf k := fun k => congrFun hcf k
  have HCb : Hid (∀ (k : Nat) W, Calls Try.prog 25 #[st (ownv L (k : Int)), nu me] W fun e w' => e = .returned (nu (cf k)) ∧ w' = W) := fun k W => by
    have := HCa.out k W
    rwa [hck] at this
  rw [hcf] at HQ
  generalize seenN n me L = sn at *
  clear h HCa hck hcf
  go_enter Try.func23, Try.ntmps23
  go_wp2
  go_loopw [3, 4] (fun m i wr => ∃ k : Nat, k ≤ n ∧ m = nu (seenP me cf k) ∧ i = nu k ∧ Hid (Below w.heap.size w wr)) (fun _ i _ => n - (intOf i).toNat)
  case atStart => exact ⟨0, by omega, rfl, rfl, B0⟩
  case round =>
    obtain ⟨k, hk, rfl, rfl, HB⟩ := hrel
    have c0 := (HR.out _ HB.out).c0
    have c1 := (HR.out _ HB.out).c1
    by_cases hlt : k < n
    · have d1 : decide ((k : Int) < (n : Int)) = true := decide_eq_true (by omega)
      have d1' : decide (k < n) = true := decide_eq_true hlt
      have HST := hid (seenP_step me cf k)
      generalize seenP me cf k = m at *
      by_cases hme : k = me
      · have d2 : ((k : Int) != (me : Int)) = false := by simp; omega
        have d2' : (k != me) = false := by simp; omega
        have HS2 : Hid (seenP me cf (k + 1) = m) := by show _ = _; rw [HST.out, if_pos hme]
        clear hme HST
        go_wp2
        exact ⟨⟨k + 1, by omega, by rw [HS2.out], by go_num, HB.out⟩, by simp [intOf]; omega⟩
      · have d2 : ((k : Int) != (me : Int)) = true := by simp; omega
        have d2' : (k != me) = true := by simp; omega
        have HS2 : Hid (seenP me cf (k + 1) = min m (cf k)) := by show _ = _; rw [HST.out, if_neg hme]
        have HWd := hid (HWa.out k)
        have HCt := hid (HCb.out k)
        generalize ownv L (k : Int) = WD at *
        generalize cf k = z at *
        clear hme HST
        go_upto_region 6 with fail
        clear c0 c1
        refine wp_region_cs (N := 30) [(nu m), (pt q 0), (nu (k : Int)), (st WD), (pt q 0), (pt q 0), (pt q 1), (nu me), (nu z), (nu (min m z)), (nu (min m z))] (fun _ W => Below w.heap.size w W) [(19, (nu m)), (20, (pt q 0)), (21, (nu (k : Int))), (22, (st WD)), (23, (pt q 0)), (24, (pt q 0)), (25, (pt q 1)), (26, (nu me)), (27, (nu z)), (28, (nu (min m z))), (3, (nu (min m z)))] (by kernel_rfl) (by kernel_rfl) rfl (fun w1 hb => below_twoY HB.out hb HB.out.size) (by kernel_rfl) ?_ ?_
        · intro i o ho
          match i, ho with
          | 0, ho => cases ho; exact fun L a w1 hLi hw hnot hJ hk hv K h => op_move 3 _ rfl (hk 3 (by kernel_rfl)) (h _ hJ)
          | 1, ho => cases ho; exact fun L a w1 hLi hw hnot hJ hk hv K h => op_move 0 _ rfl (hk 0 (by kernel_rfl)) (h _ hJ)
          | 2, ho => cases ho; exact fun L a w1 hLi hw hnot hJ hk hv K h => op_move 4 _ rfl (hk 4 (by kernel_rfl)) (h _ hJ)
          | 3, ho => cases ho; exact fun L a w1 hLi hw hnot hJ hk hv K h => op_call 14 [.tmp 20, .tmp 21] _ #[(pt q 0), (nu (k : Int))] (st WD) rfl (fun _ _ => by kernel_rfl) (args2 (hv 1 20 (by kernel_rfl) (by kernel_rfl)) (hv 2 21 (by kernel_rfl) (by kernel_rfl))) (J := fun w2 => w2 = w1) (HWd.out _ hJ) (fun w2 e1 => by subst e1; exact h _ hJ)
          | 4, ho => cases ho; exact fun L a w1 hLi hw hnot hJ hk hv K h => op_move 0 _ rfl (hk 0 (by kernel_rfl)) (h _ hJ)
          | 5, ho => cases ho; exact fun L a w1 hLi hw hnot hJ hk hv K h => op_nil 23 q 0 rfl (hv 4 23 (by kernel_rfl) (by kernel_rfl)) (h _ hJ)
          | 6, ho => cases ho; exact fun L a w1 hLi hw hnot hJ hk hv K h => op_fa 24 _ 1 q 0 1 rfl (fun W => by kernel_rfl) (hv 5 24 (by kernel_rfl) (by kernel_rfl)) (h _ hJ)
          | 7, ho => cases ho; exact fun L a w1 hLi hw hnot hJ hk hv K h => op_load1 _ (.tmp 25) rfl q 1 (hv 6 25 (by kernel_rfl) (by kernel_rfl)) (nu me) _ (HR.out _ hJ).c1 Try.underlying3 rfl (h _ hJ)
          | 8, ho => cases ho; exact fun L a w1 hLi hw hnot hJ hk hv K h => op_call 25 [.tmp 22, .tmp 26] _ #[(st WD), (nu me)] (nu z) rfl (fun _ _ => by kernel_rfl) (args2 (hv 3 22 (by kernel_rfl) (by kernel_rfl)) (hv 7 26 (by kernel_rfl) (by kernel_rfl))) (J := fun w2 => w2 = w1) (HCt.out _) (fun w2 e1 => by subst e1; exact h _ hJ)
          | 9, ho => cases ho; exact fun L a w1 hLi hw hnot hJ hk hv K h => op_min 19 27 _ _ rfl (hv 0 19 (by kernel_rfl) (by kernel_rfl)) (hv 8 27 (by kernel_rfl) (by kernel_rfl)) (h _ hJ)
          | 10, ho => cases ho; exact fun L a w1 hLi hw hnot hJ hk hv K h => op_assign 28 _ rfl (hv 9 28 (by kernel_rfl) (by kernel_rfl)) (h _ hJ)
          | (i + 11), ho => exact absurd ho (by simp)
        intro LL W2 hall hJ
        simp only [List.foldl_cons, List.foldl_nil, List.setIfInBounds_toArray, List.set_cons_zero, List.set_cons_succ]
        have B2 := hid hJ
        clear hJ hall
        go_wp2
        exact ⟨⟨k + 1, by omega, by rw [HS2.out], by go_num, B2⟩, by simp [intOf]; omega⟩
    · obtain rfl : k = n := by omega
      have d1 : decide ((k : Int) < (k : Int)) = false := decide_eq_false (by omega)
      have d1' : decide (k < k) = false := decide_eq_false (by omega)
      go_wp2
      go_ret
      exact ⟨by rw [← HQ.out]; rfl, HB.out⟩
end Go.Proofs.Ytfigbgpfkhcpcaa.Kn
