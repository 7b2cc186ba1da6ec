/-
  A client read from bytes (ustor.Read), for every text.
-/
import Derived.Test.YtekfcbedlokidaaGreatDoorH38
import Derived.Test.YtekfcbedlokidaaGreatDoorH37
import Derived.Test.YtekfcbedlokidaaGreatDoorH15
namespace Go.Proofs.YtekfcbedlokidaaGreatDoor.Ms
open Go Go.RowKit
set_option maxRecDepth 100000
theorem txt_err {r : List UInt8} (h : (Lay.readTxt r).1 ≠ 0) : (Lay.readTxt r).2.1 = [] := by
  unfold Lay.readTxt at h ⊢
  by_cases he : Lay.eodErr r 58 ≠ 0
  · rw [if_pos he]
  · rw [if_neg he] at h ⊢
    unfold Lay.txtOf at h ⊢
    split
    · rename_i v hv
      rw [hv] at h
      simp only at h
      split
      · rfl
      · rename_i h1
        rw [if_neg h1] at h
        split
        · rfl
        · rename_i h2
          rw [if_neg h2] at h
          exact absurd rfl h
    · rfl
theorem k1_len (t : List UInt8) : (k1 t).1.length ≤ 140737488351232 := by
  by_cases h : (k1 t).2.2 = 0
  · have := (strA_once (s := t) (a := (0, 0)) (Nat.zero_le _) h).2.2.1
    have e : (strA t (0, 0)).1 = (k1 t).1 := rfl
    rw [e] at this
    omega
  · have e : (k1 t).1 = (Lay.readTxt (t.drop 0)).2.1 := by unfold k1; rw [strA_go]
    rw [e, txt_err (by intro h0; apply h; unfold k1; rw [strA_go]; exact h0)]
    simp
theorem stR_len (t : List UInt8) : (stR t).length = 71 := by
  unfold stR
  split
  · exact staC_len _ _ _ (askT_wf t)
  · exact staC_len _ _ _ wfZeroS
theorem stR_one (t : List UInt8) : ∀ y ∈ stR t, y.oneCell' = true := by
  unfold stR
  split
  · exact one_sta _ _ _ _
  · exact one_sta _ _ _ _
theorem ureg_mkZ (p : Nat) (U : Ureg) : uregC p U = [pt p 0, nu U.me, st U.view, st U.value] ++ (subC U.asked ++ []) := by simp [uregC]
theorem readU_wf (s : List UInt8) (me : Int) (t : List UInt8) : (readU s me t).asked.Wf := by
  unfold readU
  split
  · exact wfZeroS
  · exact nextS_wf s _ _ _
def rdV (G : Nat) (E : Nat) (B1 : Bool) (n : Int) (B2 : Bool) : Value := if E = 0 ∧ B1 = true ∧ (n = 1 → B2 = true) then pt G 0 else .pointer none
def rdN (E : Nat) (B1 : Bool) (n : Int) (B2 : Bool) : Int := if E ≠ 0 then E else if B1 = true ∧ (n = 1 → B2 = true) then 0 else 6
set_option maxHeartbeats 16000000 in
theorem uread_core {w : World} {p b G E : Nat} {me xk xt n : Int} {B1 B2 : Bool} {t v u : List UInt8} {V ZV VX R0 R01 R1 R2 A2 C2 A3 C3 A4 S0 NX : List Value} {L0 L1 : List Ent} (hGw : w.heap.size ≤ G) (K0 : Hid (Book w b L0))
    (HNw : Hid (Calls Tryz.prog 34 #[pt p 0, nu me] w fun e w' => e = .returned (.tuple #[pt G 0, nu 0]) ∧ w'.heap[G]? = some (.cells R0.toArray 109) ∧ Below w.heap.size w w'))
    (HSt : Hid (∀ W, Below w.heap.size w W → Calls Tryz.prog 39 #[st t] W fun e w' => e = .returned (.tuple #[.agg V.toArray, nu (E : Int)]) ∧ Below W.heap.size W w'))
    (HRi : Hid (∀ W, W.heap[G]? = some (.cells R1.toArray 109) → Below w.heap.size w W → Calls Tryz.prog 40 #[pt G 0] W fun e w' => e = .returned (.bool B1) ∧ Below W.heap.size W w'))
    (HMw : Hid (∀ W, W.heap[G]? = some (.cells R1.toArray 109) → Below w.heap.size w W → Calls Tryz.prog 41 #[pt G 0, .agg VX.toArray] W fun e w' => e = .returned (.bool B2) ∧ Below W.heap.size W w'))
    (HNx : Hid (E = 0 → B1 = true → n = 1 → B2 = true → ∀ W, W.heap[G]? = some (.cells R1.toArray 109) → Below w.heap.size w W → Calls Tryz.prog 42 #[pt G 0, nu xk, nu xt] W fun e w' => e = .returned (.agg NX.toArray) ∧ Book w' b L1 ∧ Touch b W w'))
    (HV : Hid (E = 0 → ∀ (W : World) (X : Nat), W.heap[X]? = some (.cells V.toArray 105) → W.cell? ⟨X, 0, none⟩ = some (st v) ∧ W.cell? ⟨X, 1, none⟩ = some (st u) ∧ W.cell? ⟨X, 2, none⟩ = some (nu n) ∧ W.cell? ⟨X, 4, none⟩ = some (nu xk) ∧ W.cell? ⟨X, 5, none⟩ = some (nu xt) ∧ (∀ j y, VX[j]? = some y → W.cell? ⟨X, 3 + j, none⟩ = some y)))
    (ZZ : (Tryz.prog.info? 105).map (·.zero) = some (some (.agg ZV.toArray))) (LZ : ZV.length = V.length) (OV : Hid (∀ y ∈ V, y.oneCell' = true)) (SV : (Tryz.prog.info? 105).map (·.size) = some V.length) (SX : (Tryz.prog.info? 25).map (·.size) = some VX.length)
    (HR0 : Hid (R0 = A2 ++ ([st []] ++ C2))) (HR01 : Hid (R01 = A2 ++ ([st v] ++ C2))) (HR01b : Hid (R01 = A3 ++ ([st []] ++ C3))) (HR1 : Hid (R1 = A3 ++ ([st u] ++ C3))) (HR1b : Hid (R1 = A4 ++ (S0 ++ []))) (HR2 : Hid (R2 = A4 ++ (NX ++ []))) (hA2 : A2.length = 2) (hA3 : A3.length = 3) (hA4 : A4.length = 4) (LN : S0.length = NX.length) (ON : Hid (∀ y ∈ NX, y.oneCell' = true)) (SN : (Tryz.prog.info? 25).map (·.size) = some NX.length) :
    Calls Tryz.prog 11 #[pt p 0, nu me, st t] w fun e w' => e = .returned (.tuple #[rdV G E B1 n B2, nu (rdN E B1 n B2)]) ∧ (rdN E B1 n B2 = 0 → w'.heap[G]? = some (.cells (if n = 1 then R2 else R1).toArray 109)) ∧ Touch b w w' ∧ ∃ L', Book w' b L' := by
  obtain ⟨AV, hAV⟩ : ∃ AV, AV = rdV G E B1 n B2 := ⟨_, rfl⟩
  obtain ⟨AN, hAN⟩ : ∃ AN, AN = rdN E B1 n B2 := ⟨_, rfl⟩
  obtain ⟨RF, hRF⟩ : ∃ RF, RF = (if n = 1 then R2 else R1) := ⟨_, rfl⟩
  rw [← hAV, ← hAN, ← hRF]
  have HAV : Hid (AV = rdV G E B1 n B2) := hAV
  have HAN : Hid (AN = rdN E B1 n B2) := hAN
  have HRF : Hid (RF = (if n = 1 then R2 else R1)) := hRF
  clear hAV hAN hRF
  go_enter Tryz.func11, Tryz.ntmps11
  go_wp2_with fail
  refine HNw.out.mono ?_
  rintro e W1 ⟨rfl, g1, b1⟩
  have G1 := hid g1
  have B1' := hid b1
  clear g1 b1 HNw
  go_wp2_with fail
  refine (HSt.out _ B1'.out).mono ?_
  rintro e W2 ⟨rfl, b2⟩
  have G2 := hid (row_kept G1.out b2)
  have B2' := hid (B1'.out.trans (b2.mono B1'.out.size))
  clear b2 G1 B1' HSt
  have TX := hid (top_obj W2 (.cells V.toArray 105))
  have G3 := hid (row_kept G2.out (below_a1 W2 (.cells V.toArray 105)))
  have B3' := hid (B2'.out.trans ((below_a1 W2 (.cells V.toArray 105)).mono B2'.out.size))
  have K3 := hid (K0.out.kept B3'.out)
  have T3 := hid (Touch.of (p := b) B3'.out)
  have hXG0 : G ≠ W2.heap.size := by have := row_ltA G2.out; omega
  go_upto_region 5 with (first
    | ((with_reducible refine wl_alloc 105 ?_ ?_ ZV.toArray ZZ ?_); exact rfl; exact rfl)
    | ((with_reducible refine wl_store_top 105 (.tmp 10) (.tmp 23) ?_ ?_ ?_ ?_ V ZV ?_ 105 LZ OV.out SV ?_); exact rfl; exact rfl; exact rfl; exact rfl; exact rfl))
  try simp only [Act.put, List.setIfInBounds_toArray, List.set_cons_zero, List.set_cons_succ]
  generalize W2.alloc (.cells V.toArray 105) = W3 at *
  generalize W2.heap.size = X at *
  have hXG : G ≠ X := hXG0
  clear hXG0 G2 B2'
  by_cases hE : E = 0
  · subst hE
    have HV0 := hid (HV.out rfl)
    have CX : Hid (∀ W : World, W.heap[X]? = some (.cells V.toArray 105) → W.cell? ⟨X, 0, none⟩ = some (st v) ∧ W.cell? ⟨X, 1, none⟩ = some (st u)) := fun W h => ⟨(HV0.out W X h).1, (HV0.out W X h).2.1⟩
    go_upto_region 7 with fail
    refine wp_region_cs (N := 61) [(pt G 0), (pt G 0), (pt X 0), (st v), (pt X 1), (st u), (pt G 0), (pt G 2), undef, (pt G 0), (pt G 3), undef] (fun L W => Below w.heap.size w W ∧ W.heap[X]? = some (.cells V.toArray 105) ∧ W.heap[G]? = some (.cells (bif L 11 then R1 else bif L 8 then R01 else R0).toArray 109)) [(28, (pt G 0)), (29, (pt G 0)), (30, (pt X 0)), (31, (st v)), (32, (pt X 1)), (33, (st u)), (34, (pt G 0)), (35, (pt G 2)), (36, (pt G 0)), (37, (pt G 3))] (by kernel_rfl) (by kernel_rfl) rfl (fun w1 hb => ⟨B3'.out.trans (hb.mono B3'.out.size), row_kept TX.out hb, row_kept G3.out hb⟩) (by kernel_rfl) ?_ ?_
    · intro i o ho
      match i, ho with
      | 0, ho => cases ho; exact fun L a w hLi hw hnot hJ hk hv K h => op_move 8 _ rfl (hk 8 (by kernel_rfl)) (h _ hJ)
      | 1, ho => cases ho; exact fun L a w hLi hw hnot hJ hk hv K h => op_move 8 _ rfl (hk 8 (by kernel_rfl)) (h _ hJ)
      | 2, ho => cases ho; exact fun L a w hLi hw hnot hJ hk hv K h => op_fa 10 _ 0 X 0 0 rfl (fun W => by kernel_rfl) (hk 10 (by kernel_rfl)) (h _ hJ)
      | 3, ho => cases ho; exact fun L a w hLi hw hnot hJ hk hv K h => op_load1 _ (.tmp 30) rfl X 0 (hv 2 30 (by kernel_rfl) (by kernel_rfl)) (st v) _ (CX.out _ hJ.2.1).1 Tryz.underlying9 rfl (h _ hJ)
      | 4, ho => cases ho; exact fun L a w hLi hw hnot hJ hk hv K h => op_fa 10 _ 1 X 0 1 rfl (fun W => by kernel_rfl) (hk 10 (by kernel_rfl)) (h _ hJ)
      | 5, ho => cases ho; exact fun L a w hLi hw hnot hJ hk hv K h => op_load1 _ (.tmp 32) rfl X 1 (hv 4 32 (by kernel_rfl) (by kernel_rfl)) (st u) _ (CX.out _ hJ.2.1).2 Tryz.underlying9 rfl (h _ hJ)
      | 6, ho => cases ho; exact fun L a w hLi hw hnot hJ hk hv K h => op_nil 28 G 0 rfl (hv 0 28 (by kernel_rfl) (by kernel_rfl)) (h _ hJ)
      | 7, ho => cases ho; exact fun L a w hLi hw hnot hJ hk hv K h => op_fa 34 _ 2 G 0 2 rfl (fun W => by kernel_rfl) (hv 6 34 (by kernel_rfl) (by kernel_rfl)) (h _ hJ)
      | 8, ho => cases ho; exact fun L a w1 hLi hw hnot hJ hk hv K h => op_put1 _ 35 31 rfl rfl G 2 (hv 7 35 (by kernel_rfl) (by kernel_rfl)) A2 C2 (st []) (st v) (hv 3 31 (by kernel_rfl) (by kernel_rfl)) _ (by have e := hJ.2.2; have e11 : L 11 = false := hnot 11 _ rfl (by kernel_rfl); simp only [hLi, e11, cond_false] at e; rw [HR0.out] at e; exact e) hA2 rfl (by kernel_rfl) (fun w2 hr hb => h _ ⟨hb.below hJ.1 hGw, hb.row hJ.2.1 (Ne.symm hXG), (by have e11 : L 11 = false := hnot 11 _ rfl (by kernel_rfl); show w2.heap[G]? = some (.cells (bif L 11 then R1 else bif up L 8 8 then R01 else R0).toArray _); rw [up_self, e11]; rw [← HR01.out] at hr; exact hr)⟩)
      | 9, ho => cases ho; exact fun L a w hLi hw hnot hJ hk hv K h => op_nil 29 G 0 rfl (hv 1 29 (by kernel_rfl) (by kernel_rfl)) (h _ hJ)
      | 10, ho => cases ho; exact fun L a w hLi hw hnot hJ hk hv K h => op_fa 36 _ 3 G 0 3 rfl (fun W => by kernel_rfl) (hv 9 36 (by kernel_rfl) (by kernel_rfl)) (h _ hJ)
      | 11, ho => cases ho; exact fun L a w1 hLi hw hnot hJ hk hv K h => op_put1 _ 37 33 rfl rfl G 3 (hv 10 37 (by kernel_rfl) (by kernel_rfl)) A3 C3 (st []) (st u) (hv 5 33 (by kernel_rfl) (by kernel_rfl)) _ (by have e := hJ.2.2; have e8 : L 8 = true := hw 8 (by kernel_rfl); simp only [hLi, e8, cond_false, cond_true] at e; rw [HR01b.out] at e; exact e) hA3 rfl (by kernel_rfl) (fun w2 hr hb => h _ ⟨hb.below hJ.1 hGw, hb.row hJ.2.1 (Ne.symm hXG), (by show w2.heap[G]? = some (.cells (bif up L 11 11 then R1 else bif L 8 then R01 else R0).toArray _); rw [up_self]; rw [← HR1.out] at hr; exact hr)⟩)
      | (i + 12), ho => exact absurd ho (by simp)
    intro LL W4 hall hJ
    simp only [List.foldl_cons, List.foldl_nil, List.setIfInBounds_toArray, List.set_cons_zero, List.set_cons_succ]
    have g4 := hJ.2.2
    rw [hall 11 (by decide), cond_true] at g4
    have G4 := hid g4
    have TX4 := hid hJ.2.1
    have B4 := hid hJ.1
    clear hJ hall g4 G3 TX B3' K3 T3
    go_wp2_with fail
    refine (HRi.out _ G4.out B4.out).mono ?_
    rintro e W5 ⟨rfl, b5⟩
    have G5 := hid (row_kept G4.out b5)
    have TX5 := hid (row_kept TX4.out b5)
    have B5 := hid (B4.out.trans (b5.mono B4.out.size))
    clear b5 G4 TX4 B4 HRi
    cases B1 with
    | false =>
      have HA : Hid (AV = .pointer none ∧ AN = 6) := ⟨by rw [HAV.out]; simp [rdV], by rw [HAN.out]; simp [rdN]⟩
      clear HAV HAN
      go_wp2
      go_ret2
      obtain ⟨a1, a2⟩ := HA.out
      rw [a1, a2]
      exact ⟨rfl, fun h => absurd h (by decide), Touch.of B5.out, _, K0.out.kept B5.out⟩
    | true =>
      have c2 := (HV0.out _ _ TX5.out).2.2.1
      by_cases hn : n = 1
      · subst hn
        have S5 := hid (HV0.out _ _ TX5.out).2.2.2.2.2
        go_wp2_with ((with_reducible refine wl_load 25 (.tmp 45) ?_ X 3 ?_ ?_ VX _ S5.out Tryz.underlying25 ?_ SX ?_); exact rfl; exact rfl; exact rfl; exact rfl)
        refine (HMw.out _ G5.out B5.out).mono ?_
        rintro e W6 ⟨rfl, b6⟩
        have G6 := hid (row_kept G5.out b6)
        have TX6 := hid (row_kept TX5.out b6)
        have B6 := hid (B5.out.trans (b6.mono B5.out.size))
        clear b6 G5 TX5 B5 HMw S5 c2
        cases B2 with
        | false =>
          have HA : Hid (AV = .pointer none ∧ AN = 6) := ⟨by rw [HAV.out]; simp [rdV], by rw [HAN.out]; simp [rdN]⟩
          clear HAV HAN
          go_wp2
          go_ret2
          obtain ⟨a1, a2⟩ := HA.out
          rw [a1, a2]
          exact ⟨rfl, fun h => absurd h (by decide), Touch.of B6.out, _, K0.out.kept B6.out⟩
        | true =>
          have HA : Hid (AV = pt G 0 ∧ AN = 0) := ⟨by rw [HAV.out]; simp [rdV], by rw [HAN.out]; simp [rdN]⟩
          have HF : Hid (RF = R2) := by show _ = _; rw [HRF.out]; simp
          have c4 := (HV0.out _ _ TX6.out).2.2.2.1
          have c5 := (HV0.out _ _ TX6.out).2.2.2.2.1
          clear HAV HAN HRF
          go_wp2_with fail
          refine (HNx.out (by first | rfl | trivial) (by first | rfl | trivial) (by first | rfl | trivial) (by first | rfl | trivial) _ G6.out B6.out).mono ?_
          rintro e W7 ⟨rfl, k7', t7⟩
          have hbG : G ≠ b := by
            have := (K0.out.kept B6.out).ne G6.out
            omega
          have G7 := hid (row_touch G6.out t7 ((K0.out.kept B6.out).ne G6.out))
          have T7 := hid ((Touch.of (p := b) B6.out).trans t7)
          have K7 := hid k7'
          have G7b : Hid (W7.heap[G]? = some (.cells (A4 ++ (S0 ++ [])).toArray 109)) := by show _ = _; rw [← HR1b.out]; exact G7.out
          clear k7' t7 G6 TX6 B6 c4 c5 HNx
          go_wp2_with ((with_reducible refine wl_put 25 (.tmp 59) (.tmp 57) ?_ ?_ G 4 ?_ ?_ A4 NX S0 [] ?_ 109 G7b.out hA4 LN ON.out SN ?_); exact rfl; exact rfl; exact rfl; exact rfl; exact rfl; intro W8 hr8 hb8)
          rw [← HR2.out] at hr8
          go_ret2
          obtain ⟨a1, a2⟩ := HA.out
          rw [a1, a2, HF.out]
          exact ⟨rfl, fun _ => hr8, touch_but T7.out hb8 hGw, _, K7.out.at (hb8.block b (Ne.symm hbG))⟩
      · have dn : (n == 1) = false := by simpa using hn
        have HA : Hid (AV = pt G 0 ∧ AN = 0) := ⟨by rw [HAV.out]; simp [rdV, hn], by rw [HAN.out]; simp [rdN, hn]⟩
        have HF : Hid (RF = R1) := by show _ = _; rw [HRF.out, if_neg hn]
        clear HAV HAN HRF hn
        go_wp2
        go_ret2
        obtain ⟨a1, a2⟩ := HA.out
        rw [a1, a2, HF.out]
        exact ⟨rfl, fun _ => G5.out, Touch.of B5.out, _, K0.out.kept B5.out⟩
  · have HA : Hid (AV = .pointer none ∧ AN = E) := ⟨by rw [HAV.out]; simp [rdV, hE], by rw [HAN.out]; simp [rdN, hE]⟩
    have de : ((E : Int) != 0) = true := by simp; omega
    have de' : (E != 0) = true := by simp; omega
    have HNE := hid hE
    clear HAV HAN hE
    go_wp2
    go_ret2
    obtain ⟨a1, a2⟩ := HA.out
    rw [a1, a2]
    exact ⟨rfl, fun h => absurd h (by have := HNE.out; omega), T3.out, _, K3.out⟩
theorem unew_bad {w : World} {p n : Nat} {s : List UInt8} (r : RgAt w p s n) {me : Int} (hm : hasB n me = false) : Calls Tryz.prog 34 #[pt p 0, nu me] w fun e w' => e = .returned (.tuple #[.pointer none, nu 2]) ∧ w' = w := by
  have HH := hid (uhas_any r me)
  rw [hm] at HH
  clear r hm
  go_enter Tryz.func34, Tryz.ntmps34
  go_wp2_with fail
  refine HH.out.mono ?_
  rintro e w1 ⟨rfl, hw1⟩
  subst w1
  go_wp2
  go_ret2
  exact ⟨rfl, rfl⟩
set_option maxHeartbeats 2000000 in
theorem uread_bad {w : World} {p n : Nat} {s t : List UInt8} (r : RgAt w p s n) {me : Int} (hm : hasB n me = false) : Calls Tryz.prog 11 #[pt p 0, nu me, st t] w fun e w' => e = .returned (.tuple #[.pointer none, nu 2]) ∧ w' = w := by
  have HN := hid (unew_bad r hm)
  clear r hm
  go_enter Tryz.func11, Tryz.ntmps11
  go_wp2_with fail
  refine HN.out.mono ?_
  rintro e w1 ⟨rfl, hw1⟩
  subst w1
  go_wp2
  go_ret2
  exact ⟨rfl, rfl⟩
def readV (n : Nat) (me : Int) (t : List UInt8) (G : Nat) : Value := if readE n me t = 0 then pt G 0 else .pointer none
theorem rdN_is (n : Nat) (me : Int) (t : List UInt8) (h4 : fE t = 0 → (k3 t).1 = 1 ∨ (k3 t).1 = 0) : rdN (fE t) (okVw n me (k1 t).1 (k2 t).1) (k3 t).1 (waitB n (u0 me t) (askT t)) = (readE n me t : Int) := by
  unfold rdN readE
  by_cases hE : fE t = 0
  · have hE' : ¬ (fE t ≠ 0) := by omega
    rw [if_neg hE', if_neg hE']
    cases hB : okVw n me (k1 t).1 (k2 t).1 with
    | false => rw [if_neg (by rintro ⟨h, -⟩; cases h), if_pos rfl]; rfl
    | true =>
      rw [if_neg (by decide : ¬ (true = false))]
      rcases h4 hE with h1 | h0
      · have hz : ¬ (k3 t).1 = 0 := by omega
        rw [if_neg hz]
        have hw : waitB n (u0 me t) (askT t) = true ↔ ((k4 t).1 = cnU (u0 me t) ∧ refE n me (k1 t).1 (k5 t).1 (k6 t).1 (k7 t).1.length = 0 ∧ (k7 t).1 = (k2 t).1) := by
          unfold waitB askT
          rw [if_pos h1]
          simp only [Bool.and_eq_true, beq_iff_eq, u0]
        by_cases hc : ((k4 t).1 = cnU (u0 me t) ∧ refE n me (k1 t).1 (k5 t).1 (k6 t).1 (k7 t).1.length = 0 ∧ (k7 t).1 = (k2 t).1)
        · rw [if_pos hc, if_pos ⟨rfl, fun _ => hw.2 hc⟩]; rfl
        · rw [if_neg hc, if_neg (by rintro ⟨-, h⟩; exact hc (hw.1 (h h1)))]; rfl
      · rw [if_pos h0, if_pos ⟨rfl, fun h => by omega⟩]; rfl
  · rw [if_pos hE, if_pos hE]
theorem rdV_is (n : Nat) (me : Int) (t : List UInt8) (G : Nat) (h4 : fE t = 0 → (k3 t).1 = 1 ∨ (k3 t).1 = 0) : rdV G (fE t) (okVw n me (k1 t).1 (k2 t).1) (k3 t).1 (waitB n (u0 me t) (askT t)) = readV n me t G := by
  have h := rdN_is n me t h4
  unfold readV rdV
  unfold rdN at h
  by_cases hE : fE t = 0
  · have hE' : ¬ (fE t ≠ 0) := by omega
    rw [if_neg hE'] at h
    by_cases hB : okVw n me (k1 t).1 (k2 t).1 = true ∧ ((k3 t).1 = 1 → waitB n (u0 me t) (askT t) = true)
    · rw [if_pos hB] at h
      rw [if_pos ⟨hE, hB⟩, if_pos (by omega)]
    · rw [if_neg hB] at h
      rw [if_neg (fun hh => hB hh.2), if_neg (by omega)]
  · rw [if_pos hE] at h
    rw [if_neg (fun hh => hE hh.1), if_neg (by omega)]
theorem fE_waits (t : List UInt8) (h : fE t = 0) : (k3 t).2.2 = 0 ∧ ((k3 t).1 = 1 ∨ (k3 t).1 = 0) ∧ ((k3 t).1 = 1 → (k7 t).2.2 = 0) := by
  unfold fE at h
  have h3 : (k3 t).2.2 = 0 := Decidable.byContradiction fun e => by rw [if_pos e] at h; exact e h
  rw [if_neg (by omega)] at h
  by_cases h1 : (k3 t).1 = 1
  · rw [if_pos h1] at h
    exact ⟨h3, Or.inl h1, fun _ => Decidable.byContradiction fun e => by rw [if_pos e] at h; exact e h⟩
  · rw [if_neg h1] at h
    have h0 : (k3 t).1 = 0 := Decidable.byContradiction fun e => by rw [if_neg (by rintro ⟨e1, -⟩; exact e e1)] at h; cases h
    exact ⟨h3, Or.inr h0, fun e => absurd e h1⟩
theorem ask_lens (U : Ureg) (k t : Int) (hv : U.view.length ≤ 140737488351232) (hval : U.value.length ≤ 256) (hm : I64 U.me) (hk : I64 k) (ht : I64 t) : (askB U.me (plainS U k t)).length ≤ 16384 ∧ (numB (cnU U) ++ layT U.value).length ≤ 16384 := by
  have hcl := Hist.cnt_le U.view U.me
  have ic : I64 (cnU U) := ⟨by unfold cnU; omega, by unfold cnU; omega⟩
  have h1 := numB_len U.me hm
  have h2 := numB_len (cnU U) ic
  have h3 := numB_len k hk
  have h4 := numB_len t ht
  constructor
  · unfold askB
    simp only [List.length_append, plainS]
    omega
  · have h5 : layT U.value = txtB U.value := by unfold layT; rw [if_neg (by omega)]
    have h6 := txtB_len U.value (by omega)
    rw [h5]
    simp only [List.length_append]
    omega
theorem uread_any {w : World} {p h g b n : Nat} {s t : List UInt8} {L : List Ent} (r : RgL w p h g b s n L) {me : Int} (hm : hasB n me = true) (hL : L.length < 900000) (ht : t.length ≤ 281474976710656) :
    Calls Tryz.prog 11 #[pt p 0, nu me, st t] w fun e w' => e = .returned (.tuple #[readV n me t w.heap.size, nu (readE n me t : Int)]) ∧ (readE n me t = 0 → UAt w' w.heap.size p (readU s me t)) ∧ Touch b w w' ∧ ∃ L', Book w' b L' := by
  have h4 : fE t = 0 → (k3 t).1 = 1 ∨ (k3 t).1 = 0 := fun hf => (fE_waits t hf).2.1
  have hme : 0 ≤ me ∧ me < n := by
    unfold hasB at hm
    rw [Bool.and_eq_true, decide_eq_true_eq, decide_eq_true_eq] at hm
    exact hm
  have hn8 := r.n8
  have im : I64 me := ⟨by omega, by omega⟩
  have key := uread_core (w := w) (p := p) (b := b) (G := w.heap.size) (E := fE t) (me := me) (xk := (askT t).kind) (xt := (askT t).target) (n := (k3 t).1) (B1 := okVw n me (k1 t).1 (k2 t).1) (B2 := waitB n (u0 me t) (askT t)) (t := t) (v := (k1 t).1) (u := (k2 t).1) (V := stR t) (ZV := staC [] [] 0 zeroS) (VX := subC (askT t))
    (R0 := uregC p (newU me)) (R01 := uregC p ⟨me, (k1 t).1, [], zeroS⟩) (R1 := uregC p (u0 me t)) (R2 := uregC p ⟨me, (k1 t).1, (k2 t).1, nextS s (u0 me t) (askT t).kind (askT t).target⟩) (A2 := [pt p 0, nu me]) (C2 := [st []] ++ subC zeroS) (A3 := [pt p 0, nu me, st (k1 t).1]) (C3 := subC zeroS) (A4 := [pt p 0, nu me, st (k1 t).1, st (k2 t).1]) (S0 := subC zeroS) (NX := subC (nextS s (u0 me t) (askT t).kind (askT t).target)) (L0 := L) (L1 := bookN L (u0 me t) (askT t).kind (askT t).target)
    (Nat.le_refl _) r.ring.book ((unew_ok r.rg hm).mono (fun e w' q => ⟨q.1, q.2.1.row, q.2.2⟩)) (fun W hb => rstate_any t ht (r.tb.stays hb))
    (fun W hr hb => uright_any (U := u0 me t) ⟨hr, wfZeroS⟩ (r.kept hb).rg (k1_len t))
    (fun W hr hb => umayWait_any (U := u0 me t) ⟨hr, wfZeroS⟩ (r.kept hb).rg (k1_len t) (askT_wf t))
    (fun hE hB h1 _ W hr hb => by
      obtain ⟨h3, -, h7⟩ := fE_waits t hE
      obtain ⟨-, -, -, i5, i6, -⟩ := k7_at t (h7 h1)
      have ea : (askT t).kind = (k5 t).1 ∧ (askT t).target = (k6 t).1 := by unfold askT; rw [if_pos h1]; exact ⟨rfl, rfl⟩
      have hval : (u0 me t).value.length ≤ 256 := by
        unfold okVw at hB
        simp only [Bool.and_eq_true, decide_eq_true_eq] at hB
        exact hB.2.1
      have hl := ask_lens (u0 me t) (askT t).kind (askT t).target (k1_len t) hval im (by rw [ea.1]; exact i5) (by rw [ea.2]; exact i6)
      exact unext_any (U := u0 me t) ⟨hr, wfZeroS⟩ (r.kept hb) _ _ (k1_len t) (by rw [ea.1]; exact i5) (by rw [ea.2]; exact i6) hme hL hl.1 hl.2)
    (fun hE W X hr => by
      have e : stR t = staC (k1 t).1 (k2 t).1 (k3 t).1 (askT t) := by unfold stR; rw [if_pos hE]
      rw [e] at hr
      have hs := row_seg (off := 3) (A := [st (k1 t).1, st (k2 t).1, nu (k3 t).1]) (cs := subC (askT t)) (C := []) hr (by simp [staC]) rfl
      refine ⟨?_, ?_, ?_, hs 1 _ rfl, hs 2 _ rfl, hs⟩
      · rw [cell_of_row _ _ _ _ _ _ hr]; rfl
      · rw [cell_of_row _ _ _ _ _ _ hr]; rfl
      · rw [cell_of_row _ _ _ _ _ _ hr]; rfl)
    zeroSta (by rw [stR_len]; rfl) (stR_one t) (by rw [stR_len]; exact sizeSta) (szSY (askT_wf t)) rfl rfl rfl rfl (ureg_mkZ p (u0 me t)) (ureg_mkZ p ⟨me, (k1 t).1, (k2 t).1, nextS s (u0 me t) (askT t).kind (askT t).target⟩) rfl rfl rfl (by rw [subC_len wfZeroS, subC_len (nextS_wf s _ _ _)]) (one_sub _) (szSY (nextS_wf s _ _ _))
  rw [rdN_is n me t h4, rdV_is n me t w.heap.size h4] at key
  refine key.mono ?_
  rintro e w' ⟨e1, e2, e3, e4⟩
  refine ⟨e1, fun hz => ?_, e3, e4⟩
  have hr := e2 (by omega)
  have hE : fE t = 0 := Decidable.byContradiction fun e => by unfold readE at hz; rw [if_pos e] at hz; exact e hz
  have eu : (if (k3 t).1 = 1 then uregC p ⟨me, (k1 t).1, (k2 t).1, nextS s (u0 me t) (askT t).kind (askT t).target⟩ else uregC p (u0 me t)) = uregC p (readU s me t) := by
    unfold readU
    rcases h4 hE with h1 | h0
    · have ea : (askT t).kind = (k5 t).1 ∧ (askT t).target = (k6 t).1 := by unfold askT; rw [if_pos h1]; exact ⟨rfl, rfl⟩
      rw [if_pos h1, if_neg (by omega), ea.1, ea.2]
    · rw [if_neg (by omega), if_pos h0]
  rw [eu] at hr
  exact ⟨hr, readU_wf s me t⟩
open Go Go.RowKit
set_option maxRecDepth 100000
theorem but_touch {g : Nat} {w w' : World} (h : But g w w') : Touch g w w' := ⟨h.os, h.tape, h.output, Nat.le_of_eq h.size.symm, fun k _ hne => h.block k hne⟩
theorem build_rreg (W : World) (x : Nat) (me : Int) (v u : List UInt8) : (Instr.build 56 #[(0, pt x 0), (1, nu me), (2, st v), (3, st u)]).run Tryz.prog W = .ok (.agg (uregC x ⟨me, v, u, zeroS⟩).toArray) W := by kernel_rfl
theorem noteL_ent {L : List Ent} {x : Ent} (hL : ∀ e ∈ L, EntWf e) (hx : EntWf x) : ∀ e ∈ noteL L x, EntWf e := by
  unfold noteL
  split
  · exact hL
  · intro e he
    rcases List.mem_append.1 he with h | h
    · exact hL e h
    · rw [List.mem_singleton.1 h]; exact hx
theorem ureg_mkZ4 (p : Nat) (U : Ureg) : uregC p U = [pt p 0, nu U.me, st U.view, st U.value] ++ (subC U.asked ++ []) := by simp [uregC]
section
variable {w w' : World} {G x n : Nat} {U : Ureg} {s t : List UInt8} {vL : Value} {L : List Ent}
theorem rset_any (u : RuAt w G x U) (r : RefAt w x s n vL L) (hs : s.length ≤ 64) (hn8 : n ≤ 8) (hne : G ≠ x) (hme : 0 ≤ U.me ∧ U.me < n) (hv : U.view.length ≤ 140737488351232) (hval : U.value.length ≤ 256) (k tg : Int) (hk : I64 k) (ht : I64 tg) (hL : ∀ e ∈ L, EntWf e) (hl : L.length ≤ 800) :
    Calls Tryz.prog 48 #[pt G 0, nu k, nu tg, st U.value] w fun e w' => e = .returned (.tuple #[]) ∧ w'.heap[G]? = some (.cells (uregC x ⟨U.me, U.view, U.value, nextS s U k tg⟩).toArray 56) ∧ Kp [x, G] w w' := by
  have hcl := Hist.cnt_le U.view U.me
  have IN : I64 ((Hist.cnt U.view U.me : Int) + 1) := ⟨by omega, by omega⟩
  have IM : I64 U.me := ⟨by omega, by omega⟩
  obtain ⟨h1, h2⟩ := ask_lens U k tg hv hval IM hk ht
  have m1 : May n (entA U k tg) := ⟨hme.1, hme.2, by show (1 : Int) ≤ 1; decide, by show (1 : Int) ≤ 6; decide, h1⟩
  have m2 : May n (entD U) := ⟨hme.1, hme.2, by show (1 : Int) ≤ 2; decide, by show (2 : Int) ≤ 6; decide, h2⟩
  have L1 := noteL_ent hL (m1.wf hn8)
  have hl1 := noteL_len L (entA U k tg)
  have lA := tagB_len s (entA U k tg)
  have lD := tagB_len s (entD U)
  have W2 := nextS_wf s U k tg
  exact rset_core (w := w) (x := x) (G := G) (k := k) (tg := tg) (cn := (Hist.cnt U.view U.me : Int)) (me := U.me) (TA := askB U.me (plainS U k tg)) (TD := numB (cnU U) ++ layT U.value) (vl := U.value) (vw := U.view)
    (V0 := subC (plainS U k tg)) (V1 := subC ⟨((Hist.cnt U.view U.me : Int) + 1), k, tg, U.value, tagB s (entA U k tg), zeroD⟩) (V2 := subC (nextS s U k tg)) (D0 := dg zeroD) (D1 := dg (tagB s (entA U k tg))) (D2 := dg (tagB s (entD U))) (A := [nu ((Hist.cnt U.view U.me : Int) + 1), nu k, nu tg, st U.value]) (Z := subC zeroS) (ZD0 := dg zeroD)
    (R0 := uregC x U) (R1 := uregC x U) (R2 := uregC x ⟨U.me, U.view, U.value, nextS s U k tg⟩) (A3 := [pt x 0, nu U.me, st U.view]) (C3 := subC U.asked) (A4 := [pt x 0, nu U.me, st U.view, st U.value]) (C4 := subC U.asked) (o3 := st U.value)
    (RA := fun W => ∃ v', RefAt W x s n v' L) (RB := fun W => ∃ v', RefAt W x s n v' (noteL L (entA U k tg))) (RC := fun W => ∃ v', RefAt W x s n v' (noteL (noteL L (entA U k tg)) (entD U)))
    IN (row_lt u.row) (row_lt r.obj) hne
    (fun _ _ h hb => ⟨h.choose, h.choose_spec.kept hb⟩) (fun _ _ h hb => ⟨h.choose, h.choose_spec.kept hb⟩) (fun _ _ h hb => ⟨h.choose, h.choose_spec.kept hb⟩)
    (fun _ _ g _ h hr hb hg => ⟨h.choose, h.choose_spec.far (but_touch hb) (Ne.symm hg) hr⟩) (fun _ _ g _ h hr hb hg => ⟨h.choose, h.choose_spec.far (but_touch hb) (Ne.symm hg) hr⟩) (fun _ _ g _ h hr hb hg => ⟨h.choose, h.choose_spec.far (but_touch hb) (Ne.symm hg) hr⟩)
    ⟨vL, r⟩ u.row
    (fun W hr => ⟨RuAt.c0 (U := U) ⟨hr, u.wf⟩, RuAt.c1 (U := U) ⟨hr, u.wf⟩⟩) (fun W hr => RuAt.c2 (U := U) ⟨hr, u.wf⟩)
    (fun W => (Hist.rcount_any U.view (by omega) U.me W).mono (fun e w' q => ⟨q.1, q.2 ▸ Below.refl _ _⟩))
    (fun W => by have h := rasked_any numOk U.me IM (plainS U k tg) ⟨rfl, rfl⟩ IN hk ht W; rw [askB_ints] at h; exact h)
    (fun W => by have h := rnumbered_any digOk numOk ((Hist.cnt U.view U.me : Int) + 1) IN U.value W; rw [numbered_lay] at h; exact h)
    (fun W h => (rtag_ok h.choose_spec hs hn8 U.me 1 (askB U.me (plainS U k tg)) IM ⟨by decide, by decide⟩ m1 hL (by omega)).mono (fun e w' q => ⟨q.1, q.2.elim fun v' h' => ⟨⟨v', h'.1⟩, h'.2⟩⟩))
    (fun W h => (rtag_ok h.choose_spec hs hn8 U.me 2 (numB (cnU U) ++ layT U.value) IM ⟨by decide, by decide⟩ m2 L1 (by omega)).mono (fun e w' q => ⟨q.1, q.2.elim fun v' h' => ⟨⟨v', h'.1⟩, h'.2⟩⟩))
    (fun W => build_sub4 W _ _ _ _) (fun W => build_line W _ _ _) (fun W => build_line W _ _ _)
    (fun W y hr => ⟨srow_number (x := plainS U k tg) hr ⟨rfl, rfl⟩, srow_value (x := plainS U k tg) hr ⟨rfl, rfl⟩⟩)
    zeroSubY rfl (subC_len (x := plainS U k tg) ⟨rfl, rfl⟩) (one_sub (plainS U k tg)) (szSY (x := plainS U k tg) ⟨rfl, rfl⟩)
    zeroDigY (by rw [dg_len]; rfl) (by rw [dg_len]; exact lA) (one_dg _) (szDY lA) (by rw [dg_len]; exact lD) (one_dg _) (szDY lD)
    (subC_mk _ _ _ _ _ _) (subC_mk _ _ _ _ _ _) (subC_mk2 _ _ _ _ _ _) (subC_mk2 _ _ _ _ _ _) rfl (by simp [dg_len, lA]) (by rw [dg_len]; rfl) (szSY W2) (one_sub _)
    rfl rfl (ureg_mkZ4 x U) (ureg_mkZ4 x ⟨U.me, U.view, U.value, nextS s U k tg⟩) rfl rfl (by rw [subC_len u.wf, subC_len W2])
theorem rrE_is (n : Nat) (me : Int) (t : List UInt8) : (readE n me t : Int) = rrE (k3 t).2.2 (k3 t).1 (k7 t).2.2 (k3 t).2.1 (k7 t).2.1 t.length (Hist.rightB (k1 t).1 n && (decide ((k2 t).1.length ≤ 256) && ((k1 t).1.isEmpty || (lastI (k1 t).1 == me)))) ((k4 t).1 == (Hist.cnt (k1 t).1 me : Int) + 1 && (refE n me (k1 t).1 (k5 t).1 (k6 t).1 (k7 t).1.length == 0 && (k7 t).1 == (k2 t).1)) := by
  have hw : (((k4 t).1 == (Hist.cnt (k1 t).1 me : Int) + 1 && (refE n me (k1 t).1 (k5 t).1 (k6 t).1 (k7 t).1.length == 0 && (k7 t).1 == (k2 t).1)) = true) ↔ ((k4 t).1 = cnU (u0 me t) ∧ refE n me (k1 t).1 (k5 t).1 (k6 t).1 (k7 t).1.length = 0 ∧ (k7 t).1 = (k2 t).1) := by
    rw [Bool.and_eq_true, Bool.and_eq_true, beq_iff_eq, beq_iff_eq, beq_iff_eq]
    exact Iff.rfl
  have ho : okVw n me (k1 t).1 (k2 t).1 = (Hist.rightB (k1 t).1 n && (decide ((k2 t).1.length ≤ 256) && ((k1 t).1.isEmpty || (lastI (k1 t).1 == me)))) := rfl
  rw [← ho]
  unfold readE rrE fE
  generalize ((k4 t).1 == (Hist.cnt (k1 t).1 me : Int) + 1 && (refE n me (k1 t).1 (k5 t).1 (k6 t).1 (k7 t).1.length == 0 && (k7 t).1 == (k2 t).1)) = B at *
  generalize okVw n me (k1 t).1 (k2 t).1 = O at *
  generalize (k3 t).2.2 = E3 at *
  generalize (k3 t).2.1 = N3 at *
  generalize (k3 t).1 = n3 at *
  generalize (k7 t).2.2 = E7 at *
  generalize (k7 t).2.1 = N7 at *
  clear ho
  have key : ∀ (q : Prop) [Decidable q], (B = true ↔ q) → (((if (if E3 ≠ 0 then E3 else if n3 = 1 then (if E7 ≠ 0 then E7 else if N7 = t.length then 0 else 6) else if n3 = 0 ∧ N3 = t.length then 0 else 6) ≠ 0 then (if E3 ≠ 0 then E3 else if n3 = 1 then (if E7 ≠ 0 then E7 else if N7 = t.length then 0 else 6) else if n3 = 0 ∧ N3 = t.length then 0 else 6) else if O = false then 6 else if n3 = 0 then 0 else if q then 0 else 6 : Nat) : Nat) : Int) = (if E3 ≠ 0 then (E3 : Int) else if n3 ≠ 0 ∧ n3 ≠ 1 then 6 else if n3 = 1 ∧ E7 ≠ 0 then (E7 : Int) else if (if n3 = 1 then N7 else N3) ≠ t.length then 6 else if O = false then 6 else if n3 = 0 then 0 else if B = true then 0 else 6) := by
    intro q _ hq
    by_cases h3 : E3 = 0
    · subst h3
      by_cases h1 : n3 = 1
      · subst h1
        by_cases h7 : E7 = 0
        · subst h7
          by_cases hN : N7 = t.length
          · cases O
            · simp [hN]
            · by_cases hB : B = true
              · simp [hN, hB, hq.1 hB]
              · have hnq : ¬ q := fun h => hB (hq.2 h)
                simp [hN, hB, hnq]
          · simp [hN]
        · simp [h7]
      · by_cases h0 : n3 = 0
        · subst h0
          by_cases hN : N3 = t.length
          · cases O <;> simp [hN]
          · simp [hN]
        · simp [h0, h1]
    · simp [h3]
  exact key _ hw
theorem k2d (t : List UInt8) : k2 t = strA t (k1 t).2 := rfl
theorem k3d (t : List UInt8) : k3 t = intA t (k2 t).2 := rfl
theorem k4d (t : List UInt8) : k4 t = intA t (k3 t).2 := rfl
theorem k5d (t : List UInt8) : k5 t = intA t (k4 t).2 := rfl
theorem k6d (t : List UInt8) : k6 t = intA t (k5 t).2 := rfl
theorem k7d (t : List UInt8) : k7 t = strA t (k6 t).2 := rfl
theorem kp1 (t : List UInt8) (h : (k1 t).2.2 = 0) : (k1 t).2.1 ≤ t.length := (strA_once (a := (0, 0)) (Nat.zero_le _) h).2.1
theorem kp2 (t : List UInt8) (h : (k2 t).2.2 = 0) : (k2 t).2.1 ≤ t.length := by
  have h' := h
  rw [k2d] at h' ⊢
  exact (strA_once (kp1 t (k2e h)) h').2.1
theorem kp3 (t : List UInt8) (h : (k3 t).2.2 = 0) : (k3 t).2.1 ≤ t.length := by
  have h' := h
  rw [k3d] at h' ⊢
  exact (intA_once (kp2 t (k3e h)) h').2.1
theorem kp4 (t : List UInt8) (h : (k4 t).2.2 = 0) : (k4 t).2.1 ≤ t.length := by
  have h' := h
  rw [k4d] at h' ⊢
  exact (intA_once (kp3 t (k4e h)) h').2.1
theorem kp5 (t : List UInt8) (h : (k5 t).2.2 = 0) : (k5 t).2.1 ≤ t.length := by
  have h' := h
  rw [k5d] at h' ⊢
  exact (intA_once (kp4 t (k5e h)) h').2.1
theorem kp6 (t : List UInt8) (h : (k6 t).2.2 = 0) : (k6 t).2.1 ≤ t.length := by
  have h' := h
  rw [k6d] at h' ⊢
  exact (intA_once (kp5 t (k6e h)) h').2.1
theorem rk2 (t : List UInt8) (ht : t.length ≤ 281474976710656) (W : World) : Calls Tryz.prog 43 #[st t, .agg (atC (k1 t).2).toArray] W fun e w' => e = .returned (.tuple #[st (k2 t).1, .agg (atC (k2 t).2).toArray]) ∧ Below W.heap.size W w' := by
  rw [k2d]
  exact rstr_any t (k1 t).2 (kp1 t) ht W
theorem rk3 (t : List UInt8) (ht : t.length ≤ 281474976710656) (W : World) : Calls Tryz.prog 44 #[st t, .agg (atC (k2 t).2).toArray] W fun e w' => e = .returned (.tuple #[nu (k3 t).1, .agg (atC (k3 t).2).toArray]) ∧ Below W.heap.size W w' := by
  rw [k3d]
  exact rint_any t (k2 t).2 (kp2 t) ht W
theorem rk4 (t : List UInt8) (ht : t.length ≤ 281474976710656) (W : World) : Calls Tryz.prog 44 #[st t, .agg (atC (k3 t).2).toArray] W fun e w' => e = .returned (.tuple #[nu (k4 t).1, .agg (atC (k4 t).2).toArray]) ∧ Below W.heap.size W w' := by
  rw [k4d]
  exact rint_any t (k3 t).2 (kp3 t) ht W
theorem rk5 (t : List UInt8) (ht : t.length ≤ 281474976710656) (W : World) : Calls Tryz.prog 44 #[st t, .agg (atC (k4 t).2).toArray] W fun e w' => e = .returned (.tuple #[nu (k5 t).1, .agg (atC (k5 t).2).toArray]) ∧ Below W.heap.size W w' := by
  rw [k5d]
  exact rint_any t (k4 t).2 (kp4 t) ht W
theorem rk6 (t : List UInt8) (ht : t.length ≤ 281474976710656) (W : World) : Calls Tryz.prog 44 #[st t, .agg (atC (k5 t).2).toArray] W fun e w' => e = .returned (.tuple #[nu (k6 t).1, .agg (atC (k6 t).2).toArray]) ∧ Below W.heap.size W w' := by
  rw [k6d]
  exact rint_any t (k5 t).2 (kp5 t) ht W
theorem rk7 (t : List UInt8) (ht : t.length ≤ 281474976710656) (W : World) : Calls Tryz.prog 43 #[st t, .agg (atC (k6 t).2).toArray] W fun e w' => e = .returned (.tuple #[st (k7 t).1, .agg (atC (k7 t).2).toArray]) ∧ Below W.heap.size W w' := by
  rw [k7d]
  exact rstr_any t (k6 t).2 (kp6 t) ht W
theorem k1_len16 (t : List UInt8) : (k1 t).1.length ≤ 16384 := by
  by_cases h : (k1 t).2.2 = 0
  · exact (strA_once (s := t) (a := (0, 0)) (Nat.zero_le _) h).2.2.1
  · have e : (k1 t).1 = (Lay.readTxt (t.drop 0)).2.1 := by unfold k1; rw [strA_go]
    rw [e, txt_err (by intro h0; apply h; unfold k1; rw [strA_go]; exact h0)]
    simp
set_option maxHeartbeats 4000000 in
theorem rread_any (r : RefAt w x s n vL []) (hs : s.length ≤ 64) (hn8 : n ≤ 8) {me : Int} (hm : hasB n me = true) (ht : t.length ≤ 281474976710656) :
    Calls Tryz.prog 12 #[pt x 0, nu me, st t] w fun e w' => ∃ G, w.heap.size ≤ G ∧ e = .returned (.tuple #[if readE n me t = 0 then pt G 0 else .pointer none, nu (readE n me t : Int)]) ∧ (readE n me t = 0 → RuAt w' G x (readU s me t)) ∧ Touch x w w' := by
  have hme : 0 ≤ me ∧ me < n := by
    unfold hasB at hm
    rw [Bool.and_eq_true, decide_eq_true_eq, decide_eq_true_eq] at hm
    exact hm
  have IM : I64 me := ⟨by omega, by omega⟩
  have hv := k1_len16 t
  have hcl := Hist.cnt_le (k1 t).1 me
  have IN : I64 ((Hist.cnt (k1 t).1 me : Int) + 1) := ⟨by omega, by omega⟩
  have hx := row_lt r.obj
  have key := rread_core (w := w) (x := x) (n := n) (me := me) (n3 := (k3 t).1) (n4 := (k4 t).1) (n5 := (k5 t).1) (n6 := (k6 t).1) (cn := (Hist.cnt (k1 t).1 me : Int)) (rE := refE n me (k1 t).1 (k5 t).1 (k6 t).1 (k7 t).1.length) (AE := (readE n me t : Int)) (t := t) (v1 := (k1 t).1) (v2 := (k2 t).1) (v7 := (k7 t).1) (E3 := (k3 t).2.2) (E7 := (k7 t).2.2) (N3 := (k3 t).2.1) (N7 := (k7 t).2.1) (Bv := Hist.rightB (k1 t).1 n)
    (Z2 := atC (0, 0)) (P1 := atC (k1 t).2) (P2 := atC (k2 t).2) (P3 := atC (k3 t).2) (P4 := atC (k4 t).2) (P5 := atC (k5 t).2) (P6 := atC (k6 t).2) (P7 := atC (k7 t).2) (ZS := subC zeroS) (VX := subC ⟨(k4 t).1, (k5 t).1, (k6 t).1, (k7 t).1, zeroD, zeroD⟩) (R0 := uregC x (u0 me t)) (R2 := uregC x ⟨me, (k1 t).1, (k2 t).1, nextS s (u0 me t) (k5 t).1 (k6 t).1⟩) (RF := if (k3 t).1 = 1 then uregC x ⟨me, (k1 t).1, (k2 t).1, nextS s (u0 me t) (k5 t).1 (k6 t).1⟩ else uregC x (u0 me t)) (RA := fun W => ∃ v', RefAt W x s n v' [])
    (rrE_is n me t) rfl (fun _ _ h hb => ⟨h.choose, h.choose_spec.kept hb⟩) ⟨vL, r⟩ (fun _ h => h.choose_spec.c1) IN hv
    (fun W => by kernel_rfl) zeroAt
    (fun W => rstr_any t (0, 0) (fun _ => Nat.zero_le _) ht W) (rk2 t ht) (rk3 t ht) (rk4 t ht) (rk5 t ht) (rk6 t ht) (rk7 t ht)
    rfl rfl rfl rfl rfl rfl rfl rfl (one_at _) (one_at _) (one_at _) (one_at _) (one_at _) (one_at _) (one_at _) ⟨rfl, rfl⟩ ⟨rfl, rfl⟩
    (fun W => build_sub W) zeroSubY (one_sub zeroS) (szSY wfZeroS)
    (fun W => build_sub4 W _ _ _ _) (by rw [subC_len wfZeroS, subC_len (x := ⟨(k4 t).1, (k5 t).1, (k6 t).1, (k7 t).1, zeroD, zeroD⟩) ⟨rfl, rfl⟩]) (one_sub _) (szSY (x := ⟨(k4 t).1, (k5 t).1, (k6 t).1, (k7 t).1, zeroD, zeroD⟩) ⟨rfl, rfl⟩) ⟨rfl, rfl, rfl, rfl⟩
    (fun W => build_rreg W x me (k1 t).1 (k2 t).1)
    (fun W => Hist.rright_any (k1 t).1 n W)
    (fun W => (Hist.rcount_any (k1 t).1 (by omega) me W).mono (fun e w' q => ⟨q.1, q.2 ▸ Below.refl _ _⟩))
    (fun W G hr h => (rbad_any (U := u0 me t) ⟨hr, wfZeroS⟩ h.choose_spec hn8 (k5 t).1 (k6 t).1 (k7 t).1).mono (fun e w' q => ⟨q.1, q.2 ▸ Below.refl _ _⟩))
    (fun hB hl2 h1 _ h7 hvv W G hr h hGw => by
      obtain ⟨-, -, -, i5, i6, -⟩ := k7_at t h7
      rw [hvv]
      exact rset_any (U := u0 me t) ⟨hr, wfZeroS⟩ h.choose_spec hs hn8 (by omega) hme (k1_len t) hl2 _ _ i5 i6 (by simp) (by simp))
  refine key.mono ?_
  rintro e w' ⟨G, hG, e1, e2, e3⟩
  refine ⟨G, hG, ?_, fun hz => ?_, e3⟩
  · rw [e1]
    by_cases hz : readE n me t = 0
    · rw [if_pos hz, if_pos (by omega)]
    · rw [if_neg hz, if_neg (by omega)]
  · have hr := e2 (by omega)
    have hE : fE t = 0 := Decidable.byContradiction fun e => by unfold readE at hz; rw [if_pos e] at hz; exact e hz
    have eu : (if (k3 t).1 = 1 then uregC x ⟨me, (k1 t).1, (k2 t).1, nextS s (u0 me t) (k5 t).1 (k6 t).1⟩ else uregC x (u0 me t)) = uregC x (readU s me t) := by
      unfold readU
      rcases (fE_waits t hE).2.1 with h1 | h0
      · rw [if_pos h1, if_neg (by omega)]
      · rw [if_neg (by omega), if_pos h0]
    rw [eu] at hr
    exact ⟨hr, readU_wf s me t⟩
end
end Go.Proofs.YtekfcbedlokidaaGreatDoor.Ms
