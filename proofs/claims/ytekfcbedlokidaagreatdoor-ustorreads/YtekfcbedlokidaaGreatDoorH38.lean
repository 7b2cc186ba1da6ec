/-
  What a client's bytes say (ustor.readState), in plain words.
-/
import Derived.Test.YtekfcbedlokidaaGreatDoorZrs
import Derived.Test.YtekfcbedlokidaaGreatDoorH35
namespace Go.Proofs.YtekfcbedlokidaaGreatDoor.Ms
open Go Go.RowKit
set_option maxRecDepth 100000
def askT (t : List UInt8) : Sub := if (k3 t).1 = 1 then ⟨(k4 t).1, (k5 t).1, (k6 t).1, (k7 t).1, zeroD, zeroD⟩ else zeroS
def stR (t : List UInt8) : List Value := if fE t = 0 then staC (k1 t).1 (k2 t).1 (k3 t).1 (askT t) else staC [] [] 0 zeroS
theorem askT_wf (t : List UInt8) : (askT t).Wf := by unfold askT; split <;> exact ⟨rfl, rfl⟩
theorem eqE1 (t : List UInt8) (h3 : (k3 t).2.2 = 0) (h7 : (k7 t).2.2 = 0) (a1 : (k3 t).2.1 ≤ t.length) (b1 : (k7 t).2.1 ≤ t.length) : stE 0 (k3 t).1 0 ((t.length : Int) - (k3 t).2.1) ((t.length : Int) - (k7 t).2.1) = (fE t : Int) := by
  unfold stE fE
  generalize (k3 t).2.2 = e3 at *
  generalize (k7 t).2.2 = e7 at *
  generalize (k3 t).1 = n at *
  generalize (k3 t).2.1 = q3 at *
  generalize (k7 t).2.1 = q7 at *
  subst h3
  subst h7
  by_cases hn : n = 1
  · subst hn
    by_cases hq : q7 = t.length
    · simp [hq]
    · have hlt : (0 : Int) < (t.length : Int) - q7 := by omega
      have hlt2 : q7 < t.length := by omega
      simp [hq, hlt2]
  · by_cases hz : n = 0
    · subst hz
      by_cases hq : q3 = t.length
      · simp [hq]
      · have hlt2 : q3 < t.length := by omega
        simp [hq, hlt2]
    · simp [hn, hz]
theorem eqE2 (t : List UInt8) (l2 : Int) (h3 : (k3 t).2.2 = 0) (h7 : (k7 t).2.2 ≠ 0) (a1 : (k3 t).2.1 ≤ t.length) : stE 0 (k3 t).1 (k7 t).2.2 ((t.length : Int) - (k3 t).2.1) l2 = (fE t : Int) := by
  unfold stE fE
  generalize (k3 t).2.2 = e3 at *
  generalize (k7 t).2.2 = e7 at *
  generalize (k3 t).1 = n at *
  generalize (k3 t).2.1 = q3 at *
  generalize (k7 t).2.1 = q7 at *
  subst h3
  by_cases hn : n = 1
  · subst hn
    simp [h7]
  · by_cases hz : n = 0
    · subst hz
      by_cases hq : q3 = t.length
      · simp [hq]
      · have hlt2 : q3 < t.length := by omega
        simp [hq, hlt2]
    · simp [hn, hz]
theorem stR_is (t : List UInt8) (R2 : List Value) (h : (k3 t).1 = 1 → fE t = 0 → R2 = staC (k1 t).1 (k2 t).1 (k3 t).1 ⟨(k4 t).1, (k5 t).1, (k6 t).1, (k7 t).1, zeroD, zeroD⟩) : (if (fE t : Int) = 0 then (if (k3 t).1 = 1 then R2 else staC (k1 t).1 (k2 t).1 (k3 t).1 zeroS) else staC [] [] 0 zeroS) = stR t := by
  unfold stR askT
  by_cases hf : fE t = 0
  · rw [if_pos hf, if_pos (by omega)]
    by_cases hn : (k3 t).1 = 1
    · rw [if_pos hn, if_pos hn, h hn hf]
    · rw [if_neg hn, if_neg hn]
  · rw [if_neg hf, if_neg (by omega)]
theorem rstate_any (t : List UInt8) (ht : t.length ≤ 281474976710656) {w : World} (hT : Tb w) : Calls Tryz.prog 39 #[st t] w fun e w' => e = .returned (.tuple #[.agg (stR t).toArray, nu (fE t : Int)]) ∧ Below w.heap.size w w' := by
  have hT' : ∀ W, Below w.heap.size w W → Tb W := fun W hb => hT.stays hb
  obtain ⟨X, hX⟩ : ∃ X, X = rdL t F1 (staC [] [] 0 zeroS) 0 := ⟨_, rfl⟩
  by_cases h3 : (k3 t).2.2 = 0
  · have e1 := r1_ok t h3
    obtain ⟨a1, -⟩ := k3_at t h3
    have l1e : lftI t (rdL t F1 (staC [] [] 0 zeroS) 0) = (t.length : Int) - (k3 t).2.1 := by rw [e1]; unfold lftI; rw [if_pos rfl]
    by_cases h7 : (k7 t).2.2 = 0
    · have e2 := r2_ok t (k1 t).1 (k2 t).1 (k3 t).1 h7
      obtain ⟨b1, -⟩ := k7_at t h7
      have l2e : lftI t (rdL t F2 (staC (k1 t).1 (k2 t).1 (k3 t).1 zeroS) (k3 t).2.1) = (t.length : Int) - (k7 t).2.1 := by rw [e2]; unfold lftI; rw [if_pos rfl]
      have H := rstate_core (w := w) (s := t) (Z := staC [] [] 0 zeroS) (R1 := staC (k1 t).1 (k2 t).1 (k3 t).1 zeroS) (R2 := staC (k1 t).1 (k2 t).1 (k3 t).1 ⟨(k4 t).1, (k5 t).1, (k6 t).1, (k7 t).1, zeroD, zeroD⟩) (E1 := 0) (E2 := 0) (Q1 := (k3 t).2.1) (Q2 := (k7 t).2.1) (n := (k3 t).1) ht hT' zeroSta rfl (one_sta _ _ _ _) build_sta e1 l1e (fun _ _ => ⟨e2, l2e, fun _ => ⟨staC_len _ _ _ ⟨rfl, rfl⟩, one_sta _ _ _ _, rfl⟩⟩) (fun _ => ⟨a1, staC_len _ _ _ ⟨rfl, rfl⟩, one_sta _ _ _ _, rfl⟩)
      rw [eqE1 t h3 h7 a1 b1, stR_is t _ (fun _ _ => rfl)] at H
      exact H
    · obtain ⟨Y, hY⟩ : ∃ Y, Y = rdL t F2 (staC (k1 t).1 (k2 t).1 (k3 t).1 zeroS) (k3 t).2.1 := ⟨_, rfl⟩
      have hb : Y.1 = (k7 t).2.2 := by rw [hY]; exact r2_bad t _ h3 h7
      obtain ⟨y1, y2, y3⟩ := Y
      have hb : y1 = (k7 t).2.2 := hb
      subst hb
      have hl2 : lftI t (rdL t F2 (staC (k1 t).1 (k2 t).1 (k3 t).1 zeroS) (k3 t).2.1) = lftI t ((k7 t).2.2, y2, y3) := by rw [← hY]
      have H := rstate_core (w := w) (s := t) (Z := staC [] [] 0 zeroS) (R1 := staC (k1 t).1 (k2 t).1 (k3 t).1 zeroS) (R2 := y3) (E1 := 0) (E2 := (k7 t).2.2) (Q1 := (k3 t).2.1) (Q2 := y2) (l2 := lftI t ((k7 t).2.2, y2, y3)) (n := (k3 t).1) ht hT' zeroSta rfl (one_sta _ _ _ _) build_sta e1 l1e (fun _ _ => ⟨hY.symm, hl2, fun h => absurd h h7⟩) (fun _ => ⟨a1, staC_len _ _ _ ⟨rfl, rfl⟩, one_sta _ _ _ _, rfl⟩)
      rw [eqE2 t _ h3 h7 a1, stR_is t _ (fun hn hf => absurd h7 (by unfold fE at hf; rw [if_neg (by omega), if_pos hn] at hf; intro h; rw [if_pos h] at hf; exact h hf))] at H
      exact H
  · have hb : X.1 = (k3 t).2.2 := by rw [hX]; exact r1_bad t h3
    obtain ⟨x1, x2, x3⟩ := X
    have hb : x1 = (k3 t).2.2 := hb
    subst hb
    have hl1 : lftI t (rdL t F1 (staC [] [] 0 zeroS) 0) = lftI t ((k3 t).2.2, x2, x3) := by rw [← hX]
    have H := rstate_core (w := w) (s := t) (Z := staC [] [] 0 zeroS) (R1 := x3) (R2 := []) (E1 := (k3 t).2.2) (E2 := 0) (Q1 := x2) (Q2 := 0) (l1 := lftI t ((k3 t).2.2, x2, x3)) (l2 := 0) (n := 0) ht hT' zeroSta rfl (one_sta _ _ _ _) build_sta hX.symm hl1 (fun h => absurd h h3) (fun h => absurd h h3)
    have eF : fE t = (k3 t).2.2 := by unfold fE; rw [if_pos h3]
    have eE : stE (k3 t).2.2 0 0 (lftI t ((k3 t).2.2, x2, x3)) 0 = (fE t : Int) := by
      unfold stE
      rw [if_pos h3, eF]
    have eR : stR t = staC [] [] 0 zeroS := by unfold stR; rw [if_neg (by rw [eF]; exact h3)]
    rw [eE, if_neg (by rw [eF]; omega)] at H
    rw [eR]
    exact H
open Go Go.RowKit
set_option maxRecDepth 100000
section
variable {w : World} {p n G : Nat} {s : List UInt8} {U : Ureg}
def waitB (n : Nat) (U : Ureg) (x : Sub) : Bool := x.number == cnU U && (refE n U.me U.view x.kind x.target x.value.length == 0 && x.value == U.value)
set_option maxHeartbeats 4000000 in
theorem umayWait_any (u : UAt w G p U) (r : RgAt w p s n) (hv : U.view.length ≤ 140737488351232) {x : Sub} (hx : x.Wf) :
    Calls Tryz.prog 41 #[pt G 0, .agg (subC x).toArray] w fun e w' => e = .returned (.bool (waitB n U x)) ∧ Below w.heap.size w w' := by
  have T0 := top_obj w (.cells (subC x).toArray 25)
  have B0 := hid (below_a1 w (.cells (subC x).toArray 25))
  have r0 := r.kept B0.out
  have u0 := u.kept B0.out
  have H1 := regr (fun W hb => unumber_any (u0.kept hb) hv)
  have H2 := regr (fun W hb => (urefuses_any (u0.kept hb) (r0.kept hb) x.kind x.target x.value).mono (fun _ _ h => ⟨h.1, by rw [h.2]; exact Below.refl _ _⟩))
  have hs0 : ∀ dd os, (Sort.grow (redrawn (w.alloc (.cells (subC x).toArray 25)) dd) os).cell? ⟨w.heap.size, 0, none⟩ = some (nu x.number) := fun dd os => cell_regrown (srow_number T0 hx) _ _
  have hs1 : ∀ dd os, (Sort.grow (redrawn (w.alloc (.cells (subC x).toArray 25)) dd) os).cell? ⟨w.heap.size, 1, none⟩ = some (nu x.kind) := fun dd os => cell_regrown (srow_kind T0 hx) _ _
  have hs2 : ∀ dd os, (Sort.grow (redrawn (w.alloc (.cells (subC x).toArray 25)) dd) os).cell? ⟨w.heap.size, 2, none⟩ = some (nu x.target) := fun dd os => cell_regrown (srow_target T0 hx) _ _
  have hs3 : ∀ dd os, (Sort.grow (redrawn (w.alloc (.cells (subC x).toArray 25)) dd) os).cell? ⟨w.heap.size, 3, none⟩ = some (st x.value) := fun dd os => cell_regrown (srow_value T0 hx) _ _
  have hg3 : ∀ dd os, (Sort.grow (redrawn (w.alloc (.cells (subC x).toArray 25)) dd) os).cell? ⟨G, 3, none⟩ = some (st U.value) := fun dd os => cell_regrown u0.c3 _ _
  have hcl := Hist.cnt_le U.view U.me
  have hw1 := wrap1 (Hist.cnt U.view U.me : Int) (by omega) (by omega)
  obtain ⟨E, hE⟩ : ∃ E, E = waitB n U x := ⟨_, rfl⟩
  rw [← hE]
  unfold waitB cnU at hE
  clear u r u0 r0 T0 hx hv hcl
  generalize x.number = xn at *
  generalize x.kind = xk at *
  generalize x.target = xt at *
  generalize refE n U.me U.view xk xt x.value.length = re at *
  generalize x.value = xv at *
  generalize (Hist.cnt U.view U.me : Int) = cn at *
  generalize U.value = uv at *
  generalize subC x = V at *
  cases hB1 : (xn == cn + 1)
  · rw [hB1, Bool.false_and] at hE
    have HE2 := hid hE
    clear hE
    go_enter Tryz.func41, Tryz.ntmps41
    go_upto_region 1 with fail
    generalize w.alloc (.cells V.toArray 25) = W0 at *
    refine wp_region_quiet_below (by kernel_rfl) (by kernel_rfl) ?_
    iterate 4 (first | go_big_quiet_step (exact H1.out _ _) | quiet_step (exact H1.out _ _))
    repeat (first | go_big_quiet_step (exact H2.out _ _) | quiet_step (exact H2.out _ _))
    refine wpQuiet_nil ?_
    intro _ hw'
    obtain ⟨⟨dq, osq⟩, hw''⟩ := hw'
    subst hw''
    have HB2 := hid (below_two B0.out (below_regrown W0 dq osq))
    clear hs0 hs1 hs2 hs3 hg3 H1 H2
    go_wp2
    go_ret
    exact ⟨by (first | (rw [HE2.out]; rfl) | rw [HE2.out]), HB2.out⟩
  · rw [hB1, Bool.true_and] at hE
    cases hB2 : (re == 0)
    · rw [hB2, Bool.false_and] at hE
      have HE2 := hid hE
      clear hE
      go_enter Tryz.func41, Tryz.ntmps41
      go_upto_region 1 with fail
      generalize w.alloc (.cells V.toArray 25) = W0 at *
      refine wp_region_quiet_below (by kernel_rfl) (by kernel_rfl) ?_
      iterate 4 (first | go_big_quiet_step (exact H1.out _ _) | quiet_step (exact H1.out _ _))
      repeat (first | go_big_quiet_step (exact H2.out _ _) | quiet_step (exact H2.out _ _))
      refine wpQuiet_nil ?_
      intro _ hw'
      obtain ⟨⟨dq, osq⟩, hw''⟩ := hw'
      subst hw''
      have HB2 := hid (below_two B0.out (below_regrown W0 dq osq))
      clear hs0 hs1 hs2 hs3 hg3 H1 H2
      go_wp2
      go_ret
      exact ⟨by (first | (rw [HE2.out]; rfl) | rw [HE2.out]), HB2.out⟩
    · rw [hB2, Bool.true_and] at hE
      cases hB3 : (xv == uv)
      all_goals (
        rw [hB3] at hE
        have HE2 := hid hE
        clear hE
        go_enter Tryz.func41, Tryz.ntmps41
        go_upto_region 1 with fail
        generalize w.alloc (.cells V.toArray 25) = W0 at *
        refine wp_region_quiet_below (by kernel_rfl) (by kernel_rfl) ?_
        iterate 4 (first | go_big_quiet_step (exact H1.out _ _) | quiet_step (exact H1.out _ _))
        repeat (first | go_big_quiet_step (exact H2.out _ _) | quiet_step (exact H2.out _ _))
        refine wpQuiet_nil ?_
        intro _ hw'
        obtain ⟨⟨dq, osq⟩, hw''⟩ := hw'
        subst hw''
        have HB2 := hid (below_two B0.out (below_regrown W0 dq osq))
        clear hs0 hs1 hs2 hs3 hg3 H1 H2
        go_wp2
        go_ret
        exact ⟨by (first | (rw [HE2.out]; rfl) | rw [HE2.out]), HB2.out⟩
        )
set_option maxHeartbeats 8000000 in
theorem ubytes_core {w : World} {G : Nat} {vw vl xv tv tl tx n0 n1 nn nk nt : List UInt8} {xn xk xt : Int} {V Z : List Value} {B : Bool} (C2 : Hid (w.cell? ⟨G, 2, none⟩ = some (st vw))) (C3 : Hid (w.cell? ⟨G, 3, none⟩ = some (st vl))) (C4 : Hid (∀ j v, V[j]? = some v → w.cell? ⟨G, 4 + j, none⟩ = some v))
    (HM : Hid (Calls Tryz.prog 49 #[pt G 0] w fun e w' => e = .returned (.bool true) ∧ w' = w)) (HBu : Hid (∀ W, Below w.heap.size w W → Calls Tryz.prog 16 #[pt G 0] W fun e w' => e = .returned (.bool B) ∧ w' = W))
    (HV : Hid (∀ W, Below w.heap.size w W → Calls Tryz.prog 50 #[st vw] W fun e w' => e = .returned (st tv) ∧ Below W.heap.size W w')) (HL : Hid (∀ W, Below w.heap.size w W → Calls Tryz.prog 50 #[st vl] W fun e w' => e = .returned (st tl) ∧ Below W.heap.size W w'))
    (HN0 : Hid (∀ W, Below w.heap.size w W → Calls Tryz.prog 51 #[nu 0] W fun e w' => e = .returned (st n0) ∧ Below W.heap.size W w')) (HN1' : Hid (∀ W, Below w.heap.size w W → Calls Tryz.prog 51 #[nu 1] W fun e w' => e = .returned (st n1) ∧ Below W.heap.size W w'))
    (HNn' : Hid (∀ W, Below w.heap.size w W → Calls Tryz.prog 51 #[nu xn] W fun e w' => e = .returned (st nn) ∧ Below W.heap.size W w')) (HNk' : Hid (∀ W, Below w.heap.size w W → Calls Tryz.prog 51 #[nu xk] W fun e w' => e = .returned (st nk) ∧ Below W.heap.size W w')) (HNt' : Hid (∀ W, Below w.heap.size w W → Calls Tryz.prog 51 #[nu xt] W fun e w' => e = .returned (st nt) ∧ Below W.heap.size W w'))
    (HNx' : Hid (∀ W, Below w.heap.size w W → Calls Tryz.prog 50 #[st xv] W fun e w' => e = .returned (st tx) ∧ Below W.heap.size W w'))
    (s1 : tv.length ≤ 20000) (s2 : tl.length ≤ 20000) (s3 : tx.length ≤ 20000) (s4 : n0.length ≤ 30) (s5 : n1.length ≤ 30) (s6 : nn.length ≤ 30) (s7 : nk.length ≤ 30) (s8 : nt.length ≤ 30)
    (OV : Hid (∀ v ∈ V, v.oneCell' = true)) (ZV : (Tryz.prog.info? 25).map (·.size) = some V.length) (ZZ : (Tryz.prog.info? 25).map (·.zero) = some (some (.agg Z.toArray))) (LZ : Z.length = V.length) (V0 : V[0]? = some (nu xn)) (V1 : V[1]? = some (nu xk)) (V2 : V[2]? = some (nu xt)) (V3 : V[3]? = some (st xv)) :
    Calls Tryz.prog 13 #[pt G 0] w fun e w' => e = .returned (st ((tv ++ tl) ++ (if B = true then (((n1 ++ nn) ++ nk) ++ nt) ++ tx else n0))) ∧ Below w.heap.size w w' := by
  obtain ⟨AN, hAN⟩ : ∃ AN, AN = (tv ++ tl) ++ (if B = true then (((n1 ++ nn) ++ nk) ++ nt) ++ tx else n0) := ⟨_, rfl⟩
  rw [← hAN]
  have HAN : Hid (AN = (tv ++ tl) ++ (if B = true then (((n1 ++ nn) ++ nk) ++ nt) ++ tx else n0)) := hAN
  clear hAN
  go_enter Tryz.func13, Tryz.ntmps13
  go_wp2_with fail
  refine HM.out.mono ?_
  rintro e w1 ⟨rfl, hw1⟩
  subst w1
  go_upto_region 3 with fail
  refine wp_region_cs (N := 48) [(pt G 0), (pt G 0), (pt G 2), (st vw), (st tv), (pt G 0), (pt G 0), (pt G 3), (st vl), (st tl), (st (tv ++ tl)), (st (tv ++ tl))] (fun L W => Below w.heap.size w W) [(8, (pt G 0)), (9, (pt G 0)), (10, (pt G 2)), (11, (st vw)), (12, (st tv)), (13, (pt G 0)), (14, (pt G 0)), (15, (pt G 3)), (16, (st vl)), (17, (st tl)), (18, (st (tv ++ tl))), (3, (st (tv ++ tl)))] (by kernel_rfl) (by kernel_rfl) rfl (fun w1 hb => hb) (by kernel_rfl) ?_ ?_
  · intro i o ho
    match i, ho with
    | 0, ho => cases ho; exact fun L a w hLi hw hnot hJ hk hv K h => op_move 0 _ rfl (hk 0 (by kernel_rfl)) (h _ hJ)
    | 1, ho => cases ho; exact fun L a w hLi hw hnot hJ hk hv K h => op_nil 8 G 0 rfl (hv 0 8 (by kernel_rfl) (by kernel_rfl)) (h _ hJ)
    | 2, ho => cases ho; exact fun L a w hLi hw hnot hJ hk hv K h => op_fa 9 _ 2 G 0 2 rfl (fun W => by kernel_rfl) (hv 1 9 (by kernel_rfl) (by kernel_rfl)) (h _ hJ)
    | 3, ho => cases ho; exact fun L a w hLi hw hnot hJ hk hv K h => op_load1 _ (.tmp 10) rfl G 2 (hv 2 10 (by kernel_rfl) (by kernel_rfl)) (st vw) _ (cell_keptY C2.out hJ) Tryz.underlying9 rfl (h _ hJ)
    | 4, ho => cases ho; exact fun L a w hLi hw hnot hJ hk hv K h => op_call 50 [.tmp 11] _ #[(st vw)] (st tv) rfl (fun _ _ => by kernel_rfl) (args1 (hv 3 11 (by kernel_rfl) (by kernel_rfl))) (J := fun w1 => Below w.heap.size w w1) (HV.out w hJ) (fun w1 e1 => h _ (hJ.trans (e1.mono hJ.size)))
    | 5, ho => cases ho; exact fun L a w hLi hw hnot hJ hk hv K h => op_move 0 _ rfl (hk 0 (by kernel_rfl)) (h _ hJ)
    | 6, ho => cases ho; exact fun L a w hLi hw hnot hJ hk hv K h => op_nil 13 G 0 rfl (hv 5 13 (by kernel_rfl) (by kernel_rfl)) (h _ hJ)
    | 7, ho => cases ho; exact fun L a w hLi hw hnot hJ hk hv K h => op_fa 14 _ 3 G 0 3 rfl (fun W => by kernel_rfl) (hv 6 14 (by kernel_rfl) (by kernel_rfl)) (h _ hJ)
    | 8, ho => cases ho; exact fun L a w hLi hw hnot hJ hk hv K h => op_load1 _ (.tmp 15) rfl G 3 (hv 7 15 (by kernel_rfl) (by kernel_rfl)) (st vl) _ (cell_keptY C3.out hJ) Tryz.underlying9 rfl (h _ hJ)
    | 9, ho => cases ho; exact fun L a w hLi hw hnot hJ hk hv K h => op_call 50 [.tmp 16] _ #[(st vl)] (st tl) rfl (fun _ _ => by kernel_rfl) (args1 (hv 8 16 (by kernel_rfl) (by kernel_rfl))) (J := fun w1 => Below w.heap.size w w1) (HL.out w hJ) (fun w1 e1 => h _ (hJ.trans (e1.mono hJ.size)))
    | 10, ho => cases ho; exact fun L a w hLi hw hnot hJ hk hv K h => op_addS (.tmp 12) (.tmp 17) _ _ tv tl rfl (hv 4 12 (by kernel_rfl) (by kernel_rfl)) (hv 9 17 (by kernel_rfl) (by kernel_rfl)) (by (try simp only [List.length_append]); omega) (h _ hJ)
    | 11, ho => cases ho; exact fun L a w hLi hw hnot hJ hk hv K h => op_assign 18 _ rfl (hv 10 18 (by kernel_rfl) (by kernel_rfl)) (h _ hJ)
    | (i + 12), ho => exact absurd ho (by simp)
  intro LL3 W3 hall3 hJ3
  simp only [List.foldl_cons, List.foldl_nil, List.setIfInBounds_toArray, List.set_cons_zero, List.set_cons_succ]
  have B3 := hid hJ3
  clear hJ3 hall3 HV HL
  go_wp2_with fail
  refine (HBu.out _ B3.out).mono ?_
  rintro e w9 ⟨rfl, hw1⟩
  subst w9
  cases B with
  | false =>
    have hz1 : (⟨(tv ++ tl).toArray⟩ : ByteArray).size = (tv ++ tl).length := rfl
    have hz2 : (⟨n0.toArray⟩ : ByteArray).size = n0.length := rfl
    have hap := str_app (tv ++ tl) n0
    have hsl : (tv ++ tl).length ≤ 40000 := by rw [List.length_append]; omega
    have HA : Hid (AN = (tv ++ tl) ++ n0) := HAN.out
    clear HAN
    generalize tv ++ tl = tvl at *
    go_wp2_with fail
    refine (HN0.out _ B3.out).mono ?_
    rintro e W4 ⟨rfl, hb⟩
    have B4 := hid (B3.out.trans (hb.mono B3.out.size))
    clear hb
    go_wp2
    go_ret
    exact ⟨by rw [HA.out]; rfl, B4.out⟩
  | true =>
    have HA : Hid (AN = (tv ++ tl) ++ ((((n1 ++ nn) ++ nk) ++ nt) ++ tx)) := HAN.out
    have T4 := hid (top_obj W3 (.cells V.toArray 25))
    have C4' := hid (seg_keptY C4.out B3.out)
    clear HAN
    go_upto_region 7 with (first
      | ((with_reducible refine wl_load 25 (.tmp 27) ?_ G 4 ?_ ?_ V _ C4'.out Tryz.underlying25 ?_ ZV ?_); exact rfl; exact rfl; exact rfl; exact rfl)
      | ((with_reducible refine wl_alloc 25 ?_ ?_ Z.toArray ZZ ?_); exact rfl; exact rfl)
      | ((with_reducible refine wl_store_top 25 (.tmp 4) (.tmp 28) ?_ ?_ ?_ ?_ V Z ?_ 25 LZ OV.out ZV ?_); exact rfl; exact rfl; exact rfl; exact rfl; exact rfl))
    try simp only [Act.put, List.setIfInBounds_toArray, List.set_cons_zero, List.set_cons_succ]
    have BB : Below w.heap.size w (W3.alloc (.cells V.toArray 25)) := B3.out.trans ((below_a1 W3 _).mono B3.out.size)
    generalize W3.alloc (.cells V.toArray 25) = W0 at *
    generalize W3.heap.size = Y at *
    have HN1 := hid (fun W (hb : Below W0.heap.size W0 W) => HN1'.out W (BB.trans (hb.mono BB.size)))
    have HNn := hid (fun W (hb : Below W0.heap.size W0 W) => HNn'.out W (BB.trans (hb.mono BB.size)))
    have HNk := hid (fun W (hb : Below W0.heap.size W0 W) => HNk'.out W (BB.trans (hb.mono BB.size)))
    have HNt := hid (fun W (hb : Below W0.heap.size W0 W) => HNt'.out W (BB.trans (hb.mono BB.size)))
    have HNx := hid (fun W (hb : Below W0.heap.size W0 W) => HNx'.out W (BB.trans (hb.mono BB.size)))
    have Y0 : Hid (W0.cell? ⟨Y, 0, none⟩ = some (nu xn)) := by show _ = _; rw [cell_of_row _ _ _ _ _ _ T4.out]; simpa using V0
    have Y1 : Hid (W0.cell? ⟨Y, 1, none⟩ = some (nu xk)) := by show _ = _; rw [cell_of_row _ _ _ _ _ _ T4.out]; simpa using V1
    have Y2 : Hid (W0.cell? ⟨Y, 2, none⟩ = some (nu xt)) := by show _ = _; rw [cell_of_row _ _ _ _ _ _ T4.out]; simpa using V2
    have Y3 : Hid (W0.cell? ⟨Y, 3, none⟩ = some (st xv)) := by show _ = _; rw [cell_of_row _ _ _ _ _ _ T4.out]; simpa using V3
    clear T4 C4' B3 HN1' HNn' HNk' HNt' HNx' HN0
    refine wp_region_cs (N := 48) [(st (tv ++ tl)), (st n1), (st ((tv ++ tl) ++ n1)), (pt Y 0), (nu xn), (st nn), (st (((tv ++ tl) ++ n1) ++ nn)), (pt Y 1), (nu xk), (st nk), (st ((((tv ++ tl) ++ n1) ++ nn) ++ nk)), (pt Y 2), (nu xt), (st nt), (st (((((tv ++ tl) ++ n1) ++ nn) ++ nk) ++ nt)), (pt Y 3), (st xv), (st tx), (st ((((((tv ++ tl) ++ n1) ++ nn) ++ nk) ++ nt) ++ tx)), (st ((((((tv ++ tl) ++ n1) ++ nn) ++ nk) ++ nt) ++ tx))] (fun L W => Below W0.heap.size W0 W) [(29, (st (tv ++ tl))), (30, (st n1)), (31, (st ((tv ++ tl) ++ n1))), (32, (pt Y 0)), (33, (nu xn)), (34, (st nn)), (35, (st (((tv ++ tl) ++ n1) ++ nn))), (36, (pt Y 1)), (37, (nu xk)), (38, (st nk)), (39, (st ((((tv ++ tl) ++ n1) ++ nn) ++ nk))), (40, (pt Y 2)), (41, (nu xt)), (42, (st nt)), (43, (st (((((tv ++ tl) ++ n1) ++ nn) ++ nk) ++ nt))), (44, (pt Y 3)), (45, (st xv)), (46, (st tx)), (47, (st ((((((tv ++ tl) ++ n1) ++ nn) ++ nk) ++ nt) ++ tx))), (2, (st ((((((tv ++ tl) ++ n1) ++ nn) ++ nk) ++ nt) ++ tx)))] (by kernel_rfl) (by kernel_rfl) rfl (fun w1 hb => hb) (by kernel_rfl) ?_ ?_
    · intro i o ho
      match i, ho with
      | 0, ho => cases ho; exact fun L a w hLi hw hnot hJ hk hv K h => op_move 3 _ rfl (hk 3 (by kernel_rfl)) (h _ hJ)
      | 1, ho => cases ho; exact fun L a w hLi hw hnot hJ hk hv K h => op_call 51 [.const (nu (1))] _ #[(nu (1))] (st n1) rfl (fun _ _ => by kernel_rfl) (args1 rfl) (J := fun w1 => Below w.heap.size w w1) (HN1.out w hJ) (fun w1 e1 => h _ (hJ.trans (e1.mono hJ.size)))
      | 2, ho => cases ho; exact fun L a w hLi hw hnot hJ hk hv K h => op_addS (.tmp 29) (.tmp 30) _ _ (tv ++ tl) n1 rfl (hv 0 29 (by kernel_rfl) (by kernel_rfl)) (hv 1 30 (by kernel_rfl) (by kernel_rfl)) (by (try simp only [List.length_append]); omega) (h _ hJ)
      | 3, ho => cases ho; exact fun L a w hLi hw hnot hJ hk hv K h => op_fa 4 _ 0 Y 0 0 rfl (fun W => by kernel_rfl) (hk 4 (by kernel_rfl)) (h _ hJ)
      | 4, ho => cases ho; exact fun L a w hLi hw hnot hJ hk hv K h => op_load1 _ (.tmp 32) rfl Y 0 (hv 3 32 (by kernel_rfl) (by kernel_rfl)) (nu xn) _ (cell_keptY Y0.out hJ) Tryz.underlying3 rfl (h _ hJ)
      | 5, ho => cases ho; exact fun L a w hLi hw hnot hJ hk hv K h => op_call 51 [.tmp 33] _ #[(nu xn)] (st nn) rfl (fun _ _ => by kernel_rfl) (args1 (hv 4 33 (by kernel_rfl) (by kernel_rfl))) (J := fun w1 => Below w.heap.size w w1) (HNn.out w hJ) (fun w1 e1 => h _ (hJ.trans (e1.mono hJ.size)))
      | 6, ho => cases ho; exact fun L a w hLi hw hnot hJ hk hv K h => op_addS (.tmp 31) (.tmp 34) _ _ ((tv ++ tl) ++ n1) nn rfl (hv 2 31 (by kernel_rfl) (by kernel_rfl)) (hv 5 34 (by kernel_rfl) (by kernel_rfl)) (by (try simp only [List.length_append]); omega) (h _ hJ)
      | 7, ho => cases ho; exact fun L a w hLi hw hnot hJ hk hv K h => op_fa 4 _ 1 Y 0 1 rfl (fun W => by kernel_rfl) (hk 4 (by kernel_rfl)) (h _ hJ)
      | 8, ho => cases ho; exact fun L a w hLi hw hnot hJ hk hv K h => op_load1 _ (.tmp 36) rfl Y 1 (hv 7 36 (by kernel_rfl) (by kernel_rfl)) (nu xk) _ (cell_keptY Y1.out hJ) Tryz.underlying3 rfl (h _ hJ)
      | 9, ho => cases ho; exact fun L a w hLi hw hnot hJ hk hv K h => op_call 51 [.tmp 37] _ #[(nu xk)] (st nk) rfl (fun _ _ => by kernel_rfl) (args1 (hv 8 37 (by kernel_rfl) (by kernel_rfl))) (J := fun w1 => Below w.heap.size w w1) (HNk.out w hJ) (fun w1 e1 => h _ (hJ.trans (e1.mono hJ.size)))
      | 10, ho => cases ho; exact fun L a w hLi hw hnot hJ hk hv K h => op_addS (.tmp 35) (.tmp 38) _ _ (((tv ++ tl) ++ n1) ++ nn) nk rfl (hv 6 35 (by kernel_rfl) (by kernel_rfl)) (hv 9 38 (by kernel_rfl) (by kernel_rfl)) (by (try simp only [List.length_append]); omega) (h _ hJ)
      | 11, ho => cases ho; exact fun L a w hLi hw hnot hJ hk hv K h => op_fa 4 _ 2 Y 0 2 rfl (fun W => by kernel_rfl) (hk 4 (by kernel_rfl)) (h _ hJ)
      | 12, ho => cases ho; exact fun L a w hLi hw hnot hJ hk hv K h => op_load1 _ (.tmp 40) rfl Y 2 (hv 11 40 (by kernel_rfl) (by kernel_rfl)) (nu xt) _ (cell_keptY Y2.out hJ) Tryz.underlying3 rfl (h _ hJ)
      | 13, ho => cases ho; exact fun L a w hLi hw hnot hJ hk hv K h => op_call 51 [.tmp 41] _ #[(nu xt)] (st nt) rfl (fun _ _ => by kernel_rfl) (args1 (hv 12 41 (by kernel_rfl) (by kernel_rfl))) (J := fun w1 => Below w.heap.size w w1) (HNt.out w hJ) (fun w1 e1 => h _ (hJ.trans (e1.mono hJ.size)))
      | 14, ho => cases ho; exact fun L a w hLi hw hnot hJ hk hv K h => op_addS (.tmp 39) (.tmp 42) _ _ ((((tv ++ tl) ++ n1) ++ nn) ++ nk) nt rfl (hv 10 39 (by kernel_rfl) (by kernel_rfl)) (hv 13 42 (by kernel_rfl) (by kernel_rfl)) (by (try simp only [List.length_append]); omega) (h _ hJ)
      | 15, ho => cases ho; exact fun L a w hLi hw hnot hJ hk hv K h => op_fa 4 _ 3 Y 0 3 rfl (fun W => by kernel_rfl) (hk 4 (by kernel_rfl)) (h _ hJ)
      | 16, ho => cases ho; exact fun L a w hLi hw hnot hJ hk hv K h => op_load1 _ (.tmp 44) rfl Y 3 (hv 15 44 (by kernel_rfl) (by kernel_rfl)) (st xv) _ (cell_keptY Y3.out hJ) Tryz.underlying9 rfl (h _ hJ)
      | 17, ho => cases ho; exact fun L a w hLi hw hnot hJ hk hv K h => op_call 50 [.tmp 45] _ #[(st xv)] (st tx) rfl (fun _ _ => by kernel_rfl) (args1 (hv 16 45 (by kernel_rfl) (by kernel_rfl))) (J := fun w1 => Below w.heap.size w w1) (HNx.out w hJ) (fun w1 e1 => h _ (hJ.trans (e1.mono hJ.size)))
      | 18, ho => cases ho; exact fun L a w hLi hw hnot hJ hk hv K h => op_addS (.tmp 43) (.tmp 46) _ _ (((((tv ++ tl) ++ n1) ++ nn) ++ nk) ++ nt) tx rfl (hv 14 43 (by kernel_rfl) (by kernel_rfl)) (hv 17 46 (by kernel_rfl) (by kernel_rfl)) (by (try simp only [List.length_append]); omega) (h _ hJ)
      | 19, ho => cases ho; exact fun L a w hLi hw hnot hJ hk hv K h => op_assign 47 _ rfl (hv 18 47 (by kernel_rfl) (by kernel_rfl)) (h _ hJ)
      | (i + 20), ho => exact absurd ho (by simp)
    intro LL7 W7 hall7 hJ7
    simp only [List.foldl_cons, List.foldl_nil, List.setIfInBounds_toArray, List.set_cons_zero, List.set_cons_succ]
    go_wp2
    go_ret
    refine ⟨?_, BB.trans (hJ7.mono BB.size)⟩
    rw [HA.out]
    show Ending.returned (st _) = Ending.returned (st _)
    simp only [List.append_assoc]
theorem ubytes_any (u : UAt w G p U) (h1 : U.view.length ≤ 16384) (h2 : U.value.length ≤ 16384) (h3 : U.asked.value.length ≤ 16384) (i1 : I64 U.asked.number) (i2 : I64 U.asked.kind) (i3 : I64 U.asked.target) (ht : Tb w) :
    Calls Tryz.prog 13 #[pt G 0] w fun e w' => e = .returned (st (bytesU U)) ∧ Below w.heap.size w w' := by
  have l1 := layT_len U.view
  have l2 := layT_len U.value
  have l3 := layT_len U.asked.value
  have m0 := numB_len 0 i64_zero
  have m1 := numB_len 1 ⟨by decide, by decide⟩
  have m2 := numB_len _ i1
  have m3 := numB_len _ i2
  have m4 := numB_len _ i3
  unfold bytesU
  exact ubytes_core u.c2 u.c3 u.c4 (umade_any u) (fun W hb => ubusy_any (u.kept hb)) (fun W hb => ulay_any _ h1 W (ht.stays hb)) (fun W hb => ulay_any _ h2 W (ht.stays hb)) (fun W hb => Lay.number_any 0 (by decide) (by decide) W (ht.stays hb)) (fun W hb => Lay.number_any 1 (by decide) (by decide) W (ht.stays hb)) (fun W hb => Lay.number_any _ i1.1 i1.2 W (ht.stays hb)) (fun W hb => Lay.number_any _ i2.1 i2.2 W (ht.stays hb)) (fun W hb => Lay.number_any _ i3.1 i3.2 W (ht.stays hb)) (fun W hb => ulay_any _ h3 W (ht.stays hb))
    (by omega) (by omega) (by omega) (by omega) (by omega) (by omega) (by omega) (by omega) (one_sub _) (szSY u.wf) zeroSubY (by rw [subC_len u.wf]; rfl) rfl rfl rfl rfl
end
end Go.Proofs.YtekfcbedlokidaaGreatDoor.Ms
