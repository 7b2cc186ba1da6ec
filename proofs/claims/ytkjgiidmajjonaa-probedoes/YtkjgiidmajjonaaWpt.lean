/-
  The walk of ProbeTurns, over what New, Heard and Tick answer.
-/
import Derived.Test.YtkjgiidmajjonaaWps
namespace Go.Proofs.Ytkjgiidmajjonaa.Kn
open Go Go.RowKit
set_option maxRecDepth 100000

/-- Whose register comes next is another client's. -/
theorem nx_ok (kk : Nat) (h2 : 2 ≤ kk) (r : Int) : (0 ≤ nxP kk 1 r ∧ nxP kk 1 r < kk) ∧ nxP kk 1 r ≠ 1 := by
  unfold nxP
  have a1 := Int.emod_nonneg (r + 1) (by omega : (kk : Int) ≠ 0)
  have a2 := Int.emod_lt_of_pos (r + 1) (by omega : (0 : Int) < kk)
  have b1 := Int.emod_nonneg ((1 : Int) + 1) (by omega : (kk : Int) ≠ 0)
  have b2 := Int.emod_lt_of_pos ((1 : Int) + 1) (by omega : (0 : Int) < kk)
  have b3 : ((1 : Int) + 1) % (kk : Int) ≠ 1 := by
    rcases Nat.lt_or_ge 2 kk with h | h
    · rw [Int.emod_eq_of_lt (by decide) (by omega)]; decide
    · have : kk = 2 := by omega
      subst this
      decide
  split
  · exact ⟨⟨b1, b2⟩, b3⟩
  · rename_i h
    exact ⟨⟨a1, a2⟩, h⟩
theorem nx_new (kk : Nat) (h2 : 2 ≤ kk) : (0 ≤ (newPb kk 1).next ∧ (newPb kk 1).next < kk) ∧ (newPb kk 1).next ≠ 1 := by
  show (0 ≤ (((1 + 1) % kk : Nat) : Int) ∧ (((1 + 1) % kk : Nat) : Int) < kk) ∧ (((1 + 1) % kk : Nat) : Int) ≠ 1
  have b2 := Nat.mod_lt (1 + 1) (by omega : 0 < kk)
  have b3 : (1 + 1) % kk ≠ 1 := by
    rcases Nat.lt_or_ge 2 kk with h | h
    · rw [Nat.mod_eq_of_lt h]; decide
    · have : kk = 2 := by omega
      subst this
      decide
  omega
set_option maxHeartbeats 16000000 in
theorem turns_core {w : World} {ad : Option Addr} {M : List (Int × Int)} {cap kk : Nat} {nv : Int} (hnv : 0 ≤ nv ∧ nv < 256) (hkk : nv % 7 + 2 = (kk : Int)) (hM : AcsAt w ad M) {KS : Nat → List Nat → Pb → World → Prop}
    (HN : Hid (∀ W, Below w.heap.size w W → Calls Try.prog 8 #[nu kk, nu 1] W fun e w' => ∃ pp F, e = .returned (.tuple #[pt pp 0, nu 0]) ∧ KS pp F (newPb kk 1) w' ∧ Below W.heap.size W w'))
    (HA : Hid (∀ W, Calls Try.prog 9 #[] W fun e w' => e = .returned (.bool true) ∧ Below W.heap.size W w'))
    (HK : Hid (∀ pp F p W W', KS pp F p W → Below W.heap.size W W' → KS pp F p W'))
    (HF : Hid (∀ pp F p W, KS pp F p W → ∀ x ∈ F, w.heap.size ≤ x ∧ x < W.heap.size))
    (HH : Hid (∀ pp F p W c, KS pp F p W → 0 ≤ p.now → p.now ≤ 90 → Calls Try.prog 15 #[pt pp 0, nu c] W fun e w' => ∃ F', e = .returned (.bool (othB kk 1 c)) ∧ KS pp F' (heardPb kk 1 p c) w' ∧ Kp F W w'))
    (HT : Hid (∀ pp F p W b, KS pp F p W → 0 ≤ p.now → p.now ≤ 90 → (0 ≤ p.next ∧ p.next < kk) → Calls Try.prog 17 #[pt pp 0, .bool b] W fun e w' => ∃ F' u, e = .returned (.tuple #[u, nu (tickN 1 b p)]) ∧ KS pp F' (tickP kk 1 b p) w' ∧ Kp F W w')) :
    Calls Try.prog 5 #[.int .u8 nv, .slice ad M.length cap] w fun e w' => e = .returned (.bool true) ∧ Below w.heap.size w w' := by
  have HMM := hid hM
  have hz := zeroAc
  have h2 : 2 ≤ kk := by omega
  have h8 : kk ≤ 8 := by omega
  have ht : nv.tmod 7 = nv % 7 := Int.tmod_eq_emod_of_nonneg hnv.1
  have hw3 : IntKind.i64.wrap (nv % 7) = nv % 7 := by rw [IntKind.wrap_i64]; omega
  have I0 : I64 (nv % 7 + 2) := by unfold I64; omega
  have hk0 : (kk : Int) ≠ 0 := by omega
  have hk0' : kk ≠ 0 := by omega
  have ht2 : (2 : Int).tmod (kk : Int) = ((1 : Int) + 1) % (kk : Int) := Int.tmod_eq_emod_of_nonneg (by decide)
  have hnn : ((1 : Int) + 1) % (kk : Int) = (newPb kk 1).next := rfl
  generalize hzz : nv % 7 = zz at *
  clear hM hnv hzz
  go_enter Try.func5, Try.ntmps5
  go_wp2_with fail
  refine (HN.out _ (Below.refl _ _)).mono ?_
  rintro e W1 ⟨pp, F, rfl, s1, bb⟩
  have S1 := hid s1
  have B1 := hid bb
  clear s1 bb HN
  go_wp2_with fail
  refine (HA.out _).mono ?_
  rintro e W2 ⟨rfl, bb⟩
  have S2 := hid (HK.out _ _ _ _ _ S1.out bb)
  have B2 := hid (below_twoY B1.out bb B1.out.size)
  clear bb S1 B1 HA
  go_wp2
  go_loopw [8, 9] (fun nv i wr => ∃ (k : Nat) (F : List Nat) (p : Pb), k ≤ M.length ∧ k ≤ 90 ∧ i = nu k ∧ nv = nu p.next ∧ ((0 ≤ p.next ∧ p.next < kk) ∧ p.next ≠ 1) ∧ 0 ≤ p.now ∧ p.now ≤ k ∧ Hid (KS pp F p wr) ∧ Hid (Below w.heap.size w wr)) (fun _ i _ => 90 - (intOf i).toNat)
  case atStart => exact ⟨0, F, _, by omega, by omega, rfl, by rw [← hnn]; rfl, nx_new kk h2, Int.le_refl _, Int.le_refl _, S2, B2⟩
  case round =>
    obtain ⟨k, F, p, hk, hk9, rfl, rfl, hI, hn0, hn9, HS', HBl⟩ := hrel
    clear S2 B2
    by_cases hlt : k < M.length
    · have d1 : decide ((k : Int) < (M.length : Int)) = true := decide_eq_true (by omega)
      have d1' : decide (k < M.length) = true := decide_eq_true hlt
      by_cases h90 : k < 90
      · have d2 : decide ((k : Int) < 90) = true := decide_eq_true (by omega)
        have d2' : decide (k < 90) = true := decide_eq_true h90
        obtain ⟨b, off, ev, g1, g2⟩ := HMM.out k hlt
        cases ev
        have ca0 := (HBl.out.cell (p := ⟨b, off + k * 2, none⟩) (World.block_lt_of_cell? w _ g1)).trans g1
        have ca1 := (HBl.out.cell (p := ⟨b, off + k * 2 + 1, none⟩) (World.block_lt_of_cell? w _ g2)).trans g2
        clear g1 g2
        generalize M[k].1 = kd at *
        generalize M[k].2 = cl at *
        have CA : Hid (∀ j v, [nu kd, nu cl][j]? = some v → wr.cell? ⟨b, off + k * 2 + j, none⟩ = some v) := hid (fun j v hj => by
          match j, hj with
          | 0, hj => cases hj; exact ca0
          | 1, hj => cases hj; exact ca1
          | j + 2, hj => simp at hj)
        clear ca0 ca1
        have ZA := hid (sizeAc kd cl)
        obtain ⟨X, hX⟩ : ∃ X, wr.heap.size = X := ⟨_, rfl⟩
        have T5 := hid (top_obj wr (.cells [nu 0, nu 0].toArray 32))
        have B5 := hid (below_a1 wr (.cells [nu 0, nu 0].toArray 32))
        have hXF : X ∉ F := fun hm => by have := (HF.out _ _ _ _ HS'.out X hm).2; omega
        have hXw : w.heap.size ≤ X := by rw [← hX]; exact HBl.out.size
        rw [hX] at T5
        have HXe := hid hX
        clear hX
        go_upto_region 10 with (first
          | ((with_reducible refine wl_load 32 (.tmp 46) ?_ b (off + k * 2) ?_ ?_ [nu kd, nu cl] _ CA.out Try.underlying32 ?_ ZA.out ?_); exact rfl; exact rfl; exact rfl; exact rfl)
          | ((with_reducible refine wl_alloc 32 ?_ ?_ [nu 0, nu 0].toArray hz ?_); exact rfl; exact rfl; rw [HXe.out]; try simp only [Act.put, List.setIfInBounds_toArray, List.set_cons_zero, List.set_cons_succ])
          | ((with_reducible refine wl_put 32 (.tmp 10) (.tmp 47) ?_ ?_ X 0 ?_ ?_ [] [nu kd, nu cl] [nu 0, nu 0] [] ?_ 32 (row_nilY T5.out) rfl rfl (oneAc kd cl) ZA.out ?_); exact rfl; exact rfl; exact rfl; exact rfl; exact rfl; intro W6 r6 b6))
        have b6' := b6.below B5.out (by rw [HXe.out]; exact Nat.le_refl _)
        have S6 := hid (HK.out _ _ _ _ _ HS'.out b6')
        have B6 := hid (below_twoY HBl.out b6' HBl.out.size)
        have R6 : Hid (W6.heap[X]? = some (.cells [nu kd, nu cl].toArray 32)) := by
          show _ = _
          simpa using r6
        clear r6 b6 b6' T5 B5 HXe CA ZA HS' HBl
        have c0 := lkd0 R6.out
        have c1 := lkd1 R6.out
        by_cases hneg : kd < 0
        · have e0 : decide (kd < 0) = true := decide_eq_true hneg
          go_wp2_with fail
          refine (HH.out _ _ _ _ cl S6.out hn0 (by omega)).mono ?_
          rintro e W7 ⟨F7, rfl, s7, kp⟩
          have S7 := hid s7
          have B7 : Hid (Below w.heap.size w W7) := B6.out.trans (kp.below (fun x hx => (HF.out _ _ _ _ S6.out x hx).1) B6.out.size)
          have hnh : (heardPb kk 1 p cl).now = p.now := heard_now cl
          have hnx : (heardPb kk 1 p cl).next = p.next := heard_next cl
          clear s7 kp S6 B6 R6 c0 c1
          generalize heardPb kk 1 p cl = hp at *
          go_wp2
          exact ⟨⟨k + 1, F7, hp, by omega, by omega, by go_num, by rw [hnx], by rw [hnx]; exact hI, by omega, by omega, S7, B7⟩, by simp [intOf]; omega⟩
        · have e0 : decide (kd < 0) = false := decide_eq_false hneg
          by_cases hgt : 4 < kd
          · have e4 : decide (4 < kd) = true := decide_eq_true hgt
            go_wp2_with fail
            refine (HH.out _ _ _ _ cl S6.out hn0 (by omega)).mono ?_
            rintro e W7 ⟨F7, rfl, s7, kp⟩
            have S7 := hid s7
            have B7 : Hid (Below w.heap.size w W7) := B6.out.trans (kp.below (fun x hx => (HF.out _ _ _ _ S6.out x hx).1) B6.out.size)
            have hnh : (heardPb kk 1 p cl).now = p.now := heard_now cl
            have hnx : (heardPb kk 1 p cl).next = p.next := heard_next cl
            clear s7 kp S6 B6 R6 c0 c1
            generalize heardPb kk 1 p cl = hp at *
            go_wp2
            exact ⟨⟨k + 1, F7, hp, by omega, by omega, by go_num, by rw [hnx], by rw [hnx]; exact hI, by omega, by omega, S7, B7⟩, by simp [intOf]; omega⟩
          · have e4 : decide (4 < kd) = false := decide_eq_false hgt
            by_cases h4 : kd = 4
            · have q4 : (kd == 4) = true := by rw [h4]; rfl
              clear hneg hgt h4
              have hI1 := hI.1
              go_wp2_with fail
              refine (HT.out _ _ _ _ true S6.out hn0 (by omega) hI.1).mono ?_
              rintro e W7 ⟨F7, u, rfl, s7, kp⟩
              have S7 := hid s7
              have B7 : Hid (Below w.heap.size w W7) := B6.out.trans (kp.below (fun x hx => (HF.out _ _ _ _ S6.out x hx).1) B6.out.size)
              have R7 := hid (kp.row R6.out hXF)
              clear c0 c1
              have c0 := lkd0 R7.out
              have hnw : (tickP kk 1 true p).now = p.now + 1 := tick_now _
              have hnx : (tickP kk 1 true p).next = if readT 1 true p then nxP kk 1 p.next else p.next := tick_next _
              have htn : tickN 1 true p = if readT 1 true p then p.next else -1 := rfl
              clear s7 kp S6 B6 R6
              have hr : readT 1 true p = false := rfl
              rw [hr, if_neg (by decide)] at hnx htn
              rw [htn]
              generalize tickP kk 1 true p = tp at *
              clear hr htn
              go_wp2
              exact ⟨⟨k + 1, F7, tp, by omega, by omega, by go_num, by rw [hnx], by rw [hnx]; exact hI, by omega, by omega, S7, B7⟩, by simp [intOf]; omega⟩
            · have q4 : (kd == 4) = false := beq_false_of_ne h4
              clear hneg hgt h4
              have hI1 := hI.1
              go_wp2_with fail
              refine (HT.out _ _ _ _ false S6.out hn0 (by omega) hI.1).mono ?_
              rintro e W7 ⟨F7, u, rfl, s7, kp⟩
              have S7 := hid s7
              have B7 : Hid (Below w.heap.size w W7) := B6.out.trans (kp.below (fun x hx => (HF.out _ _ _ _ S6.out x hx).1) B6.out.size)
              have R7 := hid (kp.row R6.out hXF)
              clear c0 c1
              have c0 := lkd0 R7.out
              have hnw : (tickP kk 1 false p).now = p.now + 1 := tick_now _
              have hnx : (tickP kk 1 false p).next = if readT 1 false p then nxP kk 1 p.next else p.next := tick_next _
              have htn : tickN 1 false p = if readT 1 false p then p.next else -1 := rfl
              clear s7 kp S6 B6 R6
              have hok := nx_ok kk h2 p.next
              have hnp : nxP kk 1 p.next = if (p.next + 1) % (kk : Int) = 1 then ((1 : Int) + 1) % (kk : Int) else (p.next + 1) % (kk : Int) := rfl
              cases hr : readT 1 false p with
              | false =>
                rw [hr, if_neg (by decide)] at hnx htn
                rw [htn]
                generalize tickP kk 1 false p = tp at *
                clear hr htn
                go_wp2
                exact ⟨⟨k + 1, F7, tp, by omega, by omega, by go_num, by rw [hnx], by rw [hnx]; exact hI, by omega, by omega, S7, B7⟩, by simp [intOf]; omega⟩
              | true =>
                rw [hr, if_pos rfl] at hnx htn
                rw [htn]
                rw [← hnx] at hok
                rw [hnp] at hnx
                generalize tickP kk 1 false p = tp at *
                have htm : (p.next + 1).tmod (kk : Int) = (p.next + 1) % (kk : Int) := Int.tmod_eq_emod_of_nonneg (by omega)
                have f0 : decide (p.next < 0) = false := decide_eq_false (by omega)
                have f1 : (p.next == 1) = false := beq_false_of_ne hI.2
                have IP : I64 (p.next + 1) := by unfold I64; omega
                clear hr htn hnp
                generalize (p.next + 1) % (kk : Int) = nn at *
                by_cases hn1 : nn = 1
                · have g1 : (nn == 1) = true := by rw [hn1]; rfl
                  rw [if_pos hn1] at hnx
                  clear hn1
                  go_wp2
                  exact ⟨⟨k + 1, F7, tp, by omega, by omega, by go_num, by rw [hnx]; rfl, hok, by omega, by omega, S7, B7⟩, by simp [intOf]; omega⟩
                · have g1 : (nn == 1) = false := beq_false_of_ne hn1
                  rw [if_neg hn1] at hnx
                  clear hn1
                  go_wp2
                  exact ⟨⟨k + 1, F7, tp, by omega, by omega, by go_num, by rw [hnx], hok, by omega, by omega, S7, B7⟩, by simp [intOf]; omega⟩
      · have d2 : decide ((k : Int) < 90) = false := decide_eq_false (by omega)
        have d2' : decide (k < 90) = false := decide_eq_false h90
        go_wp2
        go_ret
        exact ⟨rfl, HBl.out⟩
    · have d1 : decide ((k : Int) < (M.length : Int)) = false := decide_eq_false (by omega)
      have d1' : decide (k < M.length) = false := decide_eq_false hlt
      go_wp2
      go_ret
      exact ⟨rfl, HBl.out⟩
end Go.Proofs.Ytkjgiidmajjonaa.Kn
