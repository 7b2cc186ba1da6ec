/-
  The walk of ProbeDoes, over what the program answers.
-/
import Derived.Test.YtkjgiidmajjonaaPgd
namespace Go.Proofs.Ytkjgiidmajjonaa.Kn
open Go Go.RowKit
set_option maxRecDepth 100000

theorem op_pickF {P : Program} {o : Oper} {a : Act} {w : World} {Q : Exit → Act → World → Prop} {K : Act → World → Prop} (x y : Tmp) (c v : Value) (ho : o.op = .pick (.tmp x) (.const c) (.tmp y)) (hx : a.tmps.getD x undef = .bool false) (hy : a.tmps.getD y undef = v) (h : K (a.put o.dst v) w) : o.wp P a w K Q := by
  have ex : a.eval (.tmp x) = .bool false := hx
  have ey : a.eval (.tmp y) = v := hy
  unfold Oper.wp execOp
  simp [ho, ex, ey]
  exact h
theorem op_notB' {P : Program} {o : Oper} {a : Act} {w : World} {Q : Exit → Act → World → Prop} {K : Act → World → Prop} (x : Tmp) (T : TypeId) (b : Bool) (ho : o.op = .unOp .not T (.tmp x)) (hx : a.tmps.getD x undef = .bool b) (h : K (a.put o.dst (.bool (!b))) w) : o.wp P a w K Q := by
  have ex : a.eval (.tmp x) = .bool b := hx
  unfold Oper.wp execOp
  simp [ho, ex, Op.unary]
  exact h
set_option maxHeartbeats 4000000 in
theorem pdoes_bad {w : World} (n me : Int) (hb : n < 2 ∨ 8 < n ∨ me < 0 ∨ n ≤ me) {SV : Value}
    (HN : Hid (∀ W, Calls Try.prog 8 #[nu n, nu me] W fun e w' => e = .returned (.tuple #[.pointer none, nu 2]) ∧ Below W.heap.size W w'))
    (HA : Hid (∀ W, Calls Try.prog 9 #[] W fun e w' => e = .returned (.bool true) ∧ Below W.heap.size W w')) :
    Calls Try.prog 3 #[nu n, nu me, SV] w fun e w' => e = .returned (.bool true) ∧ Below w.heap.size w w' := by
  have hor : n < 2 ∨ (¬ n < 2 ∧ 8 < n) ∨ (¬ n < 2 ∧ ¬ 8 < n ∧ me < 0) ∨ (¬ n < 2 ∧ ¬ 8 < n ∧ ¬ me < 0 ∧ n ≤ me) := by omega
  clear hb
  rcases hor with h1 | ⟨h1, h2⟩ | ⟨h1, h2, h3⟩ | ⟨h1, h2, h3, h4⟩
  · have d1 : decide (n < 2) = true := decide_eq_true h1
    clear h1
    go_enter Try.func3, Try.ntmps3
    go_wp2_with fail
    refine (HN.out _).mono ?_
    rintro e w1 ⟨rfl, bb⟩
    have B1 := hid bb
    clear bb
    go_wp2_with fail
    refine (HA.out _).mono ?_
    rintro e w2 ⟨rfl, bb⟩
    have B2 := hid (below_twoY B1.out bb B1.out.size)
    clear bb
    go_wp2
    go_ret
    exact ⟨rfl, B2.out⟩
  · have d1 : decide (n < 2) = false := decide_eq_false h1
    have d2 : decide (8 < n) = true := decide_eq_true h2
    clear h1 h2
    go_enter Try.func3, Try.ntmps3
    go_wp2_with fail
    refine (HN.out _).mono ?_
    rintro e w1 ⟨rfl, bb⟩
    have B1 := hid bb
    clear bb
    go_wp2_with fail
    refine (HA.out _).mono ?_
    rintro e w2 ⟨rfl, bb⟩
    have B2 := hid (below_twoY B1.out bb B1.out.size)
    clear bb
    go_wp2
    go_ret
    exact ⟨rfl, B2.out⟩
  · have d1 : decide (n < 2) = false := decide_eq_false h1
    have d2 : decide (8 < n) = false := decide_eq_false h2
    have d3 : decide (me < 0) = true := decide_eq_true h3
    clear h1 h2 h3
    go_enter Try.func3, Try.ntmps3
    go_wp2_with fail
    refine (HN.out _).mono ?_
    rintro e w1 ⟨rfl, bb⟩
    have B1 := hid bb
    clear bb
    go_wp2_with fail
    refine (HA.out _).mono ?_
    rintro e w2 ⟨rfl, bb⟩
    have B2 := hid (below_twoY B1.out bb B1.out.size)
    clear bb
    go_wp2
    go_ret
    exact ⟨rfl, B2.out⟩
  · have d1 : decide (n < 2) = false := decide_eq_false h1
    have d2 : decide (8 < n) = false := decide_eq_false h2
    have d3 : decide (me < 0) = false := decide_eq_false h3
    have d4 : decide (n ≤ me) = true := decide_eq_true h4
    clear h1 h2 h3 h4
    go_enter Try.func3, Try.ntmps3
    go_wp2_with fail
    refine (HN.out _).mono ?_
    rintro e w1 ⟨rfl, bb⟩
    have B1 := hid bb
    clear bb
    go_wp2_with fail
    refine (HA.out _).mono ?_
    rintro e w2 ⟨rfl, bb⟩
    have B2 := hid (below_twoY B1.out bb B1.out.size)
    clear bb
    go_wp2
    go_ret
    exact ⟨rfl, B2.out⟩
theorem size2 : (Try.prog.info? 32).map (·.size) = some 2 := by kernel_rfl
theorem act_next (n me : Nat) (h2 : 2 ≤ n) (p : Pb) (kd cl : Int) (h : 0 ≤ p.next ∧ p.next < n) : 0 ≤ (actP n me p kd cl).next ∧ (actP n me p kd cl).next < n := by
  unfold actP
  split
  · rw [tick_next]
    split
    · unfold nxP
      have a1 := Int.emod_nonneg (p.next + 1) (by omega : (n : Int) ≠ 0)
      have a2 := Int.emod_lt_of_pos (p.next + 1) (by omega : (0 : Int) < n)
      have b1 := Int.emod_nonneg ((me : Int) + 1) (by omega : (n : Int) ≠ 0)
      have b2 := Int.emod_lt_of_pos ((me : Int) + 1) (by omega : (0 : Int) < n)
      split
      · exact ⟨b1, b2⟩
      · exact ⟨a1, a2⟩
    · exact h
  · split
    · rw [heard_next]; exact h
    · exact h
theorem act_now (n me : Nat) (p : Pb) (kd cl : Int) : p.now ≤ (actP n me p kd cl).now ∧ (actP n me p kd cl).now ≤ p.now + 1 := by
  unfold actP
  split
  · rw [tick_now]; omega
  · split
    · rw [heard_now]; omega
    · show p.now ≤ p.now ∧ p.now ≤ p.now + 1
      omega
set_option maxHeartbeats 16000000 in
theorem pdoes_core {w : World} (n me : Nat) (h2 : 2 ≤ n) (h8 : n ≤ 8) (hm : me < n) {ad : Option Addr} {M : List (Int × Int)} {mc : Nat} (hM : AcsAt w ad M) {KS : Nat → List Nat → Pb → World → Prop}
    (HN : Hid (Calls Try.prog 8 #[nu n, nu me] w fun e w' => ∃ pp F, e = .returned (.tuple #[pt pp 0, nu 0]) ∧ KS pp F (newPb n me) w' ∧ Below w.heap.size w w'))
    (HA : Hid (∀ W, Calls Try.prog 9 #[] W fun e w' => e = .returned (.bool true) ∧ Below W.heap.size W w'))
    (HK : Hid (∀ pp F p W W', KS pp F p W → Below W.heap.size W W' → KS pp F p W'))
    (HF : Hid (∀ pp F p W, KS pp F p W → ∀ x ∈ F, w.heap.size ≤ x ∧ x < W.heap.size))
    (HX : Hid (∀ pp F p W, KS pp F p W → Calls Try.prog 12 #[pt pp 0] W fun e w' => e = .returned (nu p.next) ∧ Below W.heap.size W w'))
    (HD : Hid (∀ pp F p W c, KS pp F p W → Calls Try.prog 14 #[pt pp 0, nu c] W fun e w' => e = .returned (nu (if othB n me c then duI p.due c else 0)) ∧ Below W.heap.size W w'))
    (HDA : Hid (∀ pp q g cap S p kd cl F W, KS pp F p W → XAt W q g cap S n me p → q ∉ F → g ∉ F → 0 ≤ p.now → p.now ≤ 90 → (0 ≤ p.next ∧ p.next < n) → Calls Try.prog 11 #[pt pp 0, pt q 0, .agg ([nu kd, nu cl]).toArray] W (DoPost KS W pp q g cap n me S F (actP n me p kd cl)))) :
    Calls Try.prog 3 #[nu n, nu me, .slice ad M.length mc] w fun e w' => e = .returned (.bool true) ∧ Below w.heap.size w w' := by
  have HMM := hid hM
  have d1 : decide ((n : Int) < 2) = false := decide_eq_false (by omega)
  have d2 : decide ((8 : Int) < (n : Int)) = false := decide_eq_false (by omega)
  have d3 : decide ((me : Int) < 0) = false := decide_eq_false (by omega)
  have d4 : decide ((n : Int) ≤ (me : Int)) = false := decide_eq_false (by omega)
  have d1' : decide (n < 2) = false := decide_eq_false (by omega)
  have d2' : decide (8 < n) = false := decide_eq_false (by omega)
  have d4' : decide (n ≤ me) = false := decide_eq_false (by omega)
  clear hM
  go_enter Try.func3, Try.ntmps3
  go_wp2_with fail
  refine HN.out.mono ?_
  rintro e W1 ⟨pp, F, rfl, s1, bb⟩
  have S1 := hid s1
  have B1 := hid bb
  clear s1 bb HN
  go_wp2_with fail
  refine (rnew_any n me h2 h8 hm _).mono ?_
  rintro e W2 ⟨rfl, ⟨g, cap, S, x2, hg2⟩, bb⟩
  have X2 := hid x2
  have S2 := hid (HK.out _ _ _ _ _ S1.out bb)
  have B2 := hid (below_twoY B1.out bb B1.out.size)
  have hqF : W1.heap.size ∉ F := fun hx => by have := (HF.out _ _ _ _ S1.out _ hx).2; omega
  have hgF : g ∉ F := fun hx => by have := (HF.out _ _ _ _ S1.out _ hx).2; omega
  have hqw : w.heap.size ≤ W1.heap.size := B1.out.size
  have hgw : w.heap.size ≤ g := by omega
  generalize W1.heap.size = q at *
  clear x2 bb S1 B1 hg2
  go_wp2_with fail
  refine (HA.out _).mono ?_
  rintro e W3 ⟨rfl, bb⟩
  have X3 := hid (X2.out.kept bb)
  have S3 := hid (HK.out _ _ _ _ _ S2.out bb)
  have B3 := hid (below_twoY B2.out bb B2.out.size)
  clear bb X2 S2 B2 HA
  go_wp2
  go_loopw [10] (fun i wr => ∃ (k : Nat) (F : List Nat) (p : Pb), k ≤ M.length ∧ k ≤ 90 ∧ i = nu k ∧ (0 ≤ p.next ∧ p.next < n) ∧ 0 ≤ p.now ∧ p.now ≤ k ∧ (q ∉ F ∧ g ∉ F) ∧ Hid (KS pp F p wr) ∧ Hid (XAt wr q g cap S n me p) ∧ Hid (Below w.heap.size w wr)) (fun i _ => 90 - (intOf i).toNat)
  case atStart => exact ⟨0, F, _, by omega, by omega, rfl, ⟨by show (0 : Int) ≤ (((me + 1) % n : Nat) : Int); omega, by show (((me + 1) % n : Nat) : Int) < n; have := Nat.mod_lt (me + 1) (by omega : 0 < n); omega⟩, Int.le_refl _, Int.le_refl _, ⟨hqF, hgF⟩, S3, X3, B3⟩
  case round =>
    obtain ⟨k, F, p, hk, hk9, rfl, hnx, hn0, hn9, hqg, HS', HXa, HBl⟩ := hrel
    clear S3 X3 B3 hqF hgF
    by_cases hlt : k < M.length
    · have e1 : decide ((k : Int) < (M.length : Int)) = true := decide_eq_true (by omega)
      have e1' : decide (k < M.length) = true := decide_eq_true hlt
      by_cases h90 : k < 90
      · have e2 : decide ((k : Int) < 90) = true := decide_eq_true (by omega)
        have e2' : decide (k < 90) = true := decide_eq_true h90
        obtain ⟨b, off, ev, g1, g2⟩ := HMM.out k hlt
        cases ev
        generalize M[k].1 = kd at *
        generalize M[k].2 = cl at *
        have CA : Hid (∀ W, Below w.heap.size w W → ∀ j v, [nu kd, nu cl][j]? = some v → W.cell? ⟨b, off + k * 2 + j, none⟩ = some v) := hid (fun W hb j v hj => by
          match j, hj with
          | 0, hj => cases hj; exact (hb.cell (p := ⟨b, off + k * 2, none⟩) (World.block_lt_of_cell? w _ g1)).trans g1
          | 1, hj => cases hj; exact (hb.cell (p := ⟨b, off + k * 2 + 1, none⟩) (World.block_lt_of_cell? w _ g2)).trans g2
          | j + 2, hj => simp at hj)
        have ZA := hid (sizeAc kd cl)
        have HDo := hid (fun F' W (a1 : KS pp F' p W) (a2 : XAt W q g cap S n me p) a3 a4 => HDA.out pp q g cap S p kd cl F' W a1 a2 a3 a4 hn0 (by omega) hnx)
        have hpn := act_next n me h2 p kd cl hnx
        have hpw := act_now n me p kd cl
        clear g1 g2
        go_upto_region 10 with fail
        refine wp_region_csG (N := 102) [(pt pp 0), (pt q 0), (Value.slice (some ⟨b, off, none⟩) M.length mc), (nu (k : Int)), (pt b (off + k * 2)), (.agg ([nu kd, nu cl]).toArray), (.bool true), (.bool false), (.bool false), (pt pp 0), (nu (actP n me p kd cl).next), (pt q 0), (pt q 0), (pt q 3), (nu (actP n me p kd cl).next), (.bool false), (.bool false)] (fun L W => (L 8 = true → L 6 = true) ∧ ∃ F', (bif L 6 then KS pp F' (actP n me p kd cl) W ∧ XAt W q g cap S n me (actP n me p kd cl) else KS pp F' p W ∧ XAt W q g cap S n me p) ∧ (q ∉ F' ∧ g ∉ F') ∧ Below w.heap.size w W) [(66, (pt pp 0)), (67, (pt q 0)), (68, (Value.slice (some ⟨b, off, none⟩) M.length mc)), (69, (nu (k : Int))), (70, (pt b (off + k * 2))), (71, (.agg ([nu kd, nu cl]).toArray)), (72, (.bool true)), (73, (.bool false)), (74, (.bool false)), (75, (pt pp 0)), (76, (nu (actP n me p kd cl).next)), (77, (pt q 0)), (78, (pt q 0)), (79, (pt q 3)), (80, (nu (actP n me p kd cl).next)), (81, (.bool false)), (82, (.bool false))] (by kernel_rfl) (by kernel_rfl) rfl (fun w1 hb => ⟨fun e => (by cases e), F, ⟨HK.out _ _ _ _ _ HS'.out hb, HXa.out.kept hb⟩, hqg, below_twoY HBl.out hb HBl.out.size⟩) (by kernel_rfl) ?_ ?_ ?_
        · intro i o j b ho hg
          match i, ho with
          | 0, ho => cases ho; cases hg
          | 1, ho => cases ho; cases hg
          | 2, ho => cases ho; cases hg
          | 3, ho => cases ho; cases hg
          | 4, ho => cases ho; cases hg
          | 5, ho => cases ho; cases hg
          | 6, ho => cases ho; cases hg
          | 7, ho => cases ho; cases hg
          | 8, ho => cases ho; cases hg
          | 9, ho => cases ho; cases hg; exact ⟨by kernel_rfl, ⟨74, by kernel_rfl⟩, rfl⟩
          | 10, ho => cases ho; cases hg; exact ⟨by kernel_rfl, ⟨74, by kernel_rfl⟩, rfl⟩
          | 11, ho => cases ho; cases hg; exact ⟨by kernel_rfl, ⟨74, by kernel_rfl⟩, rfl⟩
          | 12, ho => cases ho; cases hg; exact ⟨by kernel_rfl, ⟨74, by kernel_rfl⟩, rfl⟩
          | 13, ho => cases ho; cases hg; exact ⟨by kernel_rfl, ⟨74, by kernel_rfl⟩, rfl⟩
          | 14, ho => cases ho; cases hg; exact ⟨by kernel_rfl, ⟨74, by kernel_rfl⟩, rfl⟩
          | 15, ho => cases ho; cases hg; exact ⟨by kernel_rfl, ⟨74, by kernel_rfl⟩, rfl⟩
          | 16, ho => cases ho; cases hg
          | (i + 17), ho => exact absurd ho (by simp)
        · intro i o ho
          match i, ho with
          | 0, ho => cases ho; exact fun L a w1 hLi hw hnot hJ hk hv K h => op_move 7 _ rfl (hk 7 (by kernel_rfl)) (h _ hJ)
          | 1, ho => cases ho; exact fun L a w1 hLi hw hnot hJ hk hv K h => op_move 9 _ rfl (hk 9 (by kernel_rfl)) (h _ hJ)
          | 2, ho => cases ho; exact fun L a w1 hLi hw hnot hJ hk hv K h => op_move 2 _ rfl (hk 2 (by kernel_rfl)) (h _ hJ)
          | 3, ho => cases ho; exact fun L a w1 hLi hw hnot hJ hk hv K h => op_move 10 _ rfl (hk 10 (by kernel_rfl)) (h _ hJ)
          | 4, ho => cases ho; exact fun L a w1 hLi hw hnot hJ hk hv K h => op_indexS 68 69 _ 32 rfl Try.underlying22 2 size2 b off M.length mc k hlt (hv 2 68 (by kernel_rfl) (by kernel_rfl)) (hv 3 69 (by kernel_rfl) (by kernel_rfl)) (h _ hJ)
          | 5, ho => cases ho; exact fun L a w1 hLi hw hnot hJ hk hv K h => op_load _ (.tmp 70) rfl b (off + k * 2) (hv 4 70 (by kernel_rfl) (by kernel_rfl)) ([nu kd, nu cl]) _ (by obtain ⟨-, F', -, -, j3⟩ := hJ; exact CA.out _ j3) Try.underlying32 rfl ZA.out (h _ hJ)
          | 6, ho =>
            cases ho
            intro L a w1 hLi hw hnot hJ hk hv K h
            obtain ⟨-, F', j1, j2, j3⟩ := hJ
            rw [hLi, cond_false] at j1
            refine op_call 11 [.tmp 66, .tmp 67, .tmp 71] _ #[(pt pp 0), (pt q 0), (.agg ([nu kd, nu cl]).toArray)] (.bool true) rfl (fun _ _ => by kernel_rfl) (args3 (hv 0 66 (by kernel_rfl) (by kernel_rfl)) (hv 1 67 (by kernel_rfl) (by kernel_rfl)) (hv 5 71 (by kernel_rfl) (by kernel_rfl))) (J := fun w2 => ∃ F'', KS pp F'' (actP n me p kd cl) w2 ∧ XAt w2 q g cap S n me (actP n me p kd cl) ∧ (q ∉ F'' ∧ g ∉ F'') ∧ Below w.heap.size w w2) ?_ ?_
            · refine (HDo.out F' w1 j1.1 j1.2 j2.1 j2.2).mono ?_
              rintro e w2 ⟨F2, rfl, s2, x2, h2, kp, -⟩
              refine ⟨rfl, F2, s2, x2, h2, j3.trans (kp.below (fun x hx => ?_) j3.size)⟩
              rcases List.mem_cons.1 hx with e | hx
              · rw [e]; exact hqw
              · rcases List.mem_cons.1 hx with e | hx
                · rw [e]; exact hgw
                · exact (HF.out _ _ _ _ j1.1 x hx).1
            · rintro w2 ⟨F2, i1, i2, i3, i4⟩
              refine h _ ⟨fun _ => up_self L 6, F2, ?_, i3, i4⟩
              show (bif up L 6 6 then _ else _)
              rw [up_self]
              exact ⟨i1, i2⟩
          | 7, ho => cases ho; exact fun L a w1 hLi hw hnot hJ hk hv K h => op_notB' 72 _ true rfl (hv 6 72 (by kernel_rfl) (by kernel_rfl)) (h _ hJ)
          | 8, ho => cases ho; exact fun L a w1 hLi hw hnot hJ hk hv K h => op_move 73 _ rfl (hv 7 73 (by kernel_rfl) (by kernel_rfl)) (h _ ⟨fun _ => hw 6 (by kernel_rfl), hJ.2⟩)
          | 9, ho => cases ho; exact fun L a w1 hLi hw hnot hJ hk hv K h => op_move 7 _ rfl (hk 7 (by kernel_rfl)) (h _ hJ)
          | 10, ho =>
            cases ho
            intro L a w1 hLi hw hnot hJ hk hv K h
            obtain ⟨hl6, F', j1, j2, j3⟩ := hJ
            have h6 : L 6 = true := hl6 (hw 8 (by kernel_rfl))
            have j1' := j1
            rw [h6, cond_true] at j1'
            refine op_call 12 [.tmp 75] _ #[(pt pp 0)] (nu (actP n me p kd cl).next) rfl (fun _ _ => by kernel_rfl) (args1 (hv 9 75 (by kernel_rfl) (by kernel_rfl))) (J := fun w2 => Below w1.heap.size w1 w2) ?_ ?_
            · exact (HX.out _ _ _ _ j1'.1).mono fun e w2 hq => ⟨hq.1, hq.2⟩
            · intro w2 hb2
              refine h _ ⟨hl6, F', ?_, j2, below_twoY j3 hb2 j3.size⟩
              show (bif up L 10 6 then _ else _)
              rw [up_ne (by decide), h6, cond_true]
              exact ⟨HK.out _ _ _ _ _ j1'.1 hb2, j1'.2.kept hb2⟩
          | 11, ho => cases ho; exact fun L a w1 hLi hw hnot hJ hk hv K h => op_move 9 _ rfl (hk 9 (by kernel_rfl)) (h _ hJ)
          | 12, ho => cases ho; exact fun L a w1 hLi hw hnot hJ hk hv K h => op_nil 77 q 0 rfl (hv 11 77 (by kernel_rfl) (by kernel_rfl)) (h _ hJ)
          | 13, ho => cases ho; exact fun L a w1 hLi hw hnot hJ hk hv K h => op_fa 78 _ 3 q 0 3 rfl (fun W => by kernel_rfl) (hv 12 78 (by kernel_rfl) (by kernel_rfl)) (h _ hJ)
          | 14, ho => cases ho; exact fun L a w1 hLi hw hnot hJ hk hv K h => op_load1 _ (.tmp 79) rfl q 3 (hv 13 79 (by kernel_rfl) (by kernel_rfl)) (nu (actP n me p kd cl).next) _ (by obtain ⟨hl6, F', j1, j2, j3⟩ := hJ; rw [hl6 (hw 8 (by kernel_rfl)), cond_true] at j1; exact j1.2.c3) Try.underlying3 rfl (h _ hJ)
          | 15, ho => cases ho; exact fun L a w1 hLi hw hnot hJ hk hv K h => op_neqI 76 80 _ _ (actP n me p kd cl).next (actP n me p kd cl).next rfl (hv 10 76 (by kernel_rfl) (by kernel_rfl)) (hv 14 80 (by kernel_rfl) (by kernel_rfl)) (by rw [beq_self_eq_true]; exact h _ hJ)
          | 16, ho => cases ho; exact fun L a w1 hLi hw hnot hJ hk hv K h => op_pickF 74 81 _ _ rfl (hv 8 74 (by kernel_rfl) (by kernel_rfl)) (hv 15 81 (by kernel_rfl) (by kernel_rfl)) (h _ hJ)
          | (i + 17), ho => exact absurd ho (by simp)
        intro LL W5 hall hJ
        simp only [List.foldl_cons, List.foldl_nil, List.setIfInBounds_toArray, List.set_cons_zero, List.set_cons_succ]
        obtain ⟨-, F', j1, j2, j3⟩ := hJ
        rw [hall 6 (by decide), cond_true] at j1
        have S5 := hid j1.1
        have X5 := hid j1.2
        have B5 := hid j3
        clear j1 j3 hall HS' HXa HBl CA ZA HDo
        generalize actP n me p kd cl = p' at *
        go_wp2
        go_loopw [11] (fun i wr => ∃ z : Int, -1 ≤ z ∧ z ≤ 9 ∧ i = nu z ∧ Hid (KS pp F' p' wr) ∧ Hid (XAt wr q g cap S n me p') ∧ Hid (Below w.heap.size w wr)) (fun i _ => (9 - intOf i).toNat)
        case atStart => exact ⟨-1, by omega, by omega, rfl, S5, X5, B5⟩
        case round =>
          obtain ⟨z, hz1, hz9, rfl, S6, X6, B6⟩ := hrel
          clear S5 X5 B5
          by_cases hz : z < 9
          · have f1 : decide (z < 9) = true := decide_eq_true hz
            have I1 : I64 (z + 1) := by unfold I64; omega
            have HDz := hid (fun W h => HD.out pp F' p' W z h)
            have HOz := hid (rother_any X6.out z)
            cases ho : othB n me z with
            | false =>
              rw [ho, if_neg (by decide)] at HDz
              rw [ho] at HOz
              go_wp2_with fail
              refine HOz.out.mono ?_
              rintro e W7 ⟨rfl, hw7⟩
              subst W7
              go_wp2_with fail
              refine (HDz.out _ S6.out).mono ?_
              rintro e W8 ⟨rfl, bb⟩
              have S8 := hid (HK.out _ _ _ _ _ S6.out bb)
              have X8 := hid (X6.out.kept bb)
              have B8 := hid (below_twoY B6.out bb B6.out.size)
              clear bb S6 X6 B6 HDz HOz
              go_wp2
              exact ⟨⟨z + 1, by omega, by omega, by go_num, S8, X8, B8⟩, by simp [intOf]; omega⟩
            | true =>
              rw [ho, if_pos rfl] at HDz
              rw [ho] at HOz
              have hzn := ((oth_iff _ _ _).1 ho).1
              obtain ⟨z', rfl⟩ : ∃ z' : Nat, z = (z' : Int) := ⟨z.toNat, by omega⟩
              have hzl : z' < n := by omega
              have c4 := X6.out.c4
              have cd := X6.out.du z' hzl
              have cd' := cd
              rw [Nat.zero_add] at cd'
              generalize duI p'.due (z' : Int) = dz at *
              go_wp2_with fail
              refine HOz.out.mono ?_
              rintro e W7 ⟨rfl, hw7⟩
              subst W7
              go_wp2_with fail
              refine (HDz.out _ S6.out).mono ?_
              rintro e W8 ⟨rfl, bb⟩
              have S8 := hid (HK.out _ _ _ _ _ S6.out bb)
              have X8 := hid (X6.out.kept bb)
              have B8 := hid (below_twoY B6.out bb B6.out.size)
              clear bb S6 X6 B6 HDz HOz c4 cd cd'
              go_wp2
              exact ⟨⟨(z' : Int) + 1, by omega, by omega, by go_num, S8, X8, B8⟩, by simp [intOf]; omega⟩
          · have f1 : decide (z < 9) = false := decide_eq_false hz
            go_wp2
            exact ⟨⟨k + 1, F', p', by omega, by omega, by go_num, hpn, by omega, by omega, j2, S6, X6, B6⟩, by simp [intOf]; omega⟩
      · have e2 : decide ((k : Int) < 90) = false := decide_eq_false (by omega)
        have e2' : decide (k < 90) = false := decide_eq_false h90
        go_wp2
        go_ret
        exact ⟨rfl, HBl.out⟩
    · have e1 : decide ((k : Int) < (M.length : Int)) = false := decide_eq_false (by omega)
      have e1' : decide (k < M.length) = false := decide_eq_false hlt
      go_wp2
      go_ret
      exact ⟨rfl, HBl.out⟩
end Go.Proofs.Ytkjgiidmajjonaa.Kn
