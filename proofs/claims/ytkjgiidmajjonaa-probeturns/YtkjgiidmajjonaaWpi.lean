/-
  Acts in memory; the walk of ProbeIdle, over what New, Heard, Asked and Tick answer.
-/
import Derived.Test.YtkjgiidmajjonaaPin
namespace Go.Proofs.Ytkjgiidmajjonaa.Kn
open Go Go.RowKit
set_option maxRecDepth 100000

/-- A list of acts in memory: kind and client of each. -/
def AcsAt (w : World) (a : Option Addr) (M : List (Int × Int)) : Prop := ∀ j, (hj : j < M.length) → ∃ b off, a = some ⟨b, off, none⟩ ∧ w.cell? ⟨b, off + j * 2, none⟩ = some (nu M[j].1) ∧ w.cell? ⟨b, off + j * 2 + 1, none⟩ = some (nu M[j].2)
theorem sizeAc (x y : Int) : (Try.prog.info? 32).map (·.size) = some [nu x, nu y].length := by kernel_rfl
theorem oneAc (x y : Int) : ∀ u ∈ [nu x, nu y], u.oneCell' = true := by
  intro u hu
  rcases List.mem_cons.1 hu with e | hu
  · rw [e]; exact (rfl : (nu x).oneCell' = true)
  · rcases List.mem_cons.1 hu with e | hu
    · rw [e]; exact (rfl : (nu y).oneCell' = true)
    · cases hu
theorem zeroAc : (Try.prog.info? 32).map (·.zero) = some (some (.agg [nu 0, nu 0].toArray)) := by kernel_rfl
theorem lkd0 {w : World} {g : Nat} {x y : Int} {t : TypeId} (h : w.heap[g]? = some (.cells [nu x, nu y].toArray t)) : w.cell? ⟨g, 0, none⟩ = some (nu x) := row_cell (A := []) (C := [nu y]) h rfl rfl
theorem lkd1 {w : World} {g : Nat} {x y : Int} {t : TypeId} (h : w.heap[g]? = some (.cells [nu x, nu y].toArray t)) : w.cell? ⟨g, 1, none⟩ = some (nu y) := row_cell (A := [nu x]) (C := []) h rfl rfl
set_option maxHeartbeats 16000000 in
theorem idle_core {w : World} {ad : Option Addr} {M : List (Int × Int)} {cap : Nat} (hM : AcsAt w ad M) {KS : Nat → List Nat → Pb → World → Prop}
    (HN : Hid (∀ W, Below w.heap.size w W → Calls Try.prog 8 #[nu 3, nu 2] W fun e w' => ∃ pp F, e = .returned (.tuple #[pt pp 0, nu 0]) ∧ KS pp F (newPb 3 2) w' ∧ Below W.heap.size W w'))
    (HA : Hid (∀ W, Calls Try.prog 9 #[] W fun e w' => e = .returned (.bool true) ∧ Below W.heap.size W w'))
    (HK : Hid (∀ pp F p W W', KS pp F p W → Below W.heap.size W W' → KS pp F p W'))
    (HF : Hid (∀ pp F p W, KS pp F p W → ∀ x ∈ F, w.heap.size ≤ x ∧ x < W.heap.size))
    (HH : Hid (∀ pp F p W c, KS pp F p W → 0 ≤ p.now → p.now ≤ 90 → Calls Try.prog 15 #[pt pp 0, nu c] W fun e w' => ∃ F', e = .returned (.bool (othB (3 : Nat) 2 c)) ∧ KS pp F' (heardPb (3 : Nat) 2 p c) w' ∧ Kp F W w'))
    (HS : Hid (∀ pp F p W, KS pp F p W → 0 ≤ p.now → p.now ≤ 90 → Calls Try.prog 16 #[pt pp 0] W fun e w' => ∃ F', e = .returned (.bool true) ∧ KS pp F' (askedPb 2 p) w' ∧ Kp F W w'))
    (HT : Hid (∀ pp F p W b, KS pp F p W → 0 ≤ p.now → p.now ≤ 90 → Calls Try.prog 17 #[pt pp 0, .bool b] W fun e w' => ∃ F' u, e = .returned (.tuple #[u, nu (tickN 2 b p)]) ∧ IntsAt w' u (outT 3 2 p) ∧ KS pp F' (tickP 3 2 b p) w' ∧ Kp F W w')) :
    Calls Try.prog 6 #[.slice ad M.length cap] w fun e w' => e = .returned (.bool true) ∧ Below w.heap.size w w' := by
  have HMM := hid hM
  have hz := zeroAc
  clear hM
  go_enter Try.func6, Try.ntmps6
  go_wp2_with fail
  refine (HN.out _ (Below.refl _ _)).mono ?_
  rintro e W1 ⟨pp, F, rfl, s1, bb⟩
  have S1 := hid s1
  have B1 := hid bb
  clear s1 bb HN
  go_wp2_with fail
  refine (HA.out _).mono ?_
  rintro e W2 ⟨rfl, bb⟩
  have S2 := hid (HK.out _ _ _ _ _ S1.out bb)
  have B2 := hid (below_twoY B1.out bb B1.out.size)
  clear bb S1 B1 HA
  go_wp2
  go_loopw [5, 6] (fun qv i wr => ∃ (k qq : Nat) (F : List Nat) (p : Pb), k ≤ M.length ∧ k ≤ 90 ∧ i = nu k ∧ qv = nu qq ∧ qq ≤ k ∧ IdleI qq p ∧ 0 ≤ p.now ∧ p.now ≤ k ∧ Hid (KS pp F p wr) ∧ Hid (Below w.heap.size w wr)) (fun _ i _ => 90 - (intOf i).toNat)
  case atStart => exact ⟨0, 0, F, _, by omega, by omega, rfl, rfl, by omega, idle_new, by decide, by decide, S2, B2⟩
  case round =>
    obtain ⟨k, qq, F, p, hk, hk9, rfl, rfl, hqk, hI, hn0, hn9, HS', HBl⟩ := hrel
    clear S2 B2
    by_cases hlt : k < M.length
    · have d1 : decide ((k : Int) < (M.length : Int)) = true := decide_eq_true (by omega)
      have d1' : decide (k < M.length) = true := decide_eq_true hlt
      by_cases h90 : k < 90
      · have d2 : decide ((k : Int) < 90) = true := decide_eq_true (by omega)
        have d2' : decide (k < 90) = true := decide_eq_true h90
        obtain ⟨b, off, ev, g1, g2⟩ := HMM.out k hlt
        cases ev
        have ca0 := (HBl.out.cell (p := ⟨b, off + k * 2, none⟩) (World.block_lt_of_cell? w _ g1)).trans g1
        have ca1 := (HBl.out.cell (p := ⟨b, off + k * 2 + 1, none⟩) (World.block_lt_of_cell? w _ g2)).trans g2
        clear g1 g2
        generalize M[k].1 = kd at *
        generalize M[k].2 = cl at *
        have CA : Hid (∀ j v, [nu kd, nu cl][j]? = some v → wr.cell? ⟨b, off + k * 2 + j, none⟩ = some v) := hid (fun j v hj => by
          match j, hj with
          | 0, hj => cases hj; exact ca0
          | 1, hj => cases hj; exact ca1
          | j + 2, hj => simp at hj)
        clear ca0 ca1
        have ZA := hid (sizeAc kd cl)
        obtain ⟨X, hX⟩ : ∃ X, wr.heap.size = X := ⟨_, rfl⟩
        have T5 := hid (top_obj wr (.cells [nu 0, nu 0].toArray 32))
        have B5 := hid (below_a1 wr (.cells [nu 0, nu 0].toArray 32))
        have hXF : X ∉ F := fun hm => by have := (HF.out _ _ _ _ HS'.out X hm).2; omega
        have hXw : w.heap.size ≤ X := by rw [← hX]; exact HBl.out.size
        rw [hX] at T5
        have HXe := hid hX
        clear hX
        go_upto_region 15 with (first
          | ((with_reducible refine wl_load 32 (.tmp 36) ?_ b (off + k * 2) ?_ ?_ [nu kd, nu cl] _ CA.out Try.underlying32 ?_ ZA.out ?_); exact rfl; exact rfl; exact rfl; exact rfl)
          | ((with_reducible refine wl_alloc 32 ?_ ?_ [nu 0, nu 0].toArray hz ?_); exact rfl; exact rfl; rw [HXe.out]; try simp only [Act.put, List.setIfInBounds_toArray, List.set_cons_zero, List.set_cons_succ])
          | ((with_reducible refine wl_put 32 (.tmp 7) (.tmp 37) ?_ ?_ X 0 ?_ ?_ [] [nu kd, nu cl] [nu 0, nu 0] [] ?_ 32 (row_nilY T5.out) rfl rfl (oneAc kd cl) ZA.out ?_); exact rfl; exact rfl; exact rfl; exact rfl; exact rfl; intro W6 r6 b6))
        have b6' := b6.below B5.out (by rw [HXe.out]; exact Nat.le_refl _)
        have S6 := hid (HK.out _ _ _ _ _ HS'.out b6')
        have B6 := hid (below_twoY HBl.out b6' HBl.out.size)
        have R6 : Hid (W6.heap[X]? = some (.cells [nu kd, nu cl].toArray 32)) := by
          show _ = _
          simpa using r6
        clear r6 b6 b6' T5 B5 HXe CA ZA HS' HBl
        have c0 := lkd0 R6.out
        have c1 := lkd1 R6.out
        by_cases h5 : kd = 5
        · have e5 : (kd == 5) = true := by rw [h5]; rfl
          clear h5
          go_wp2_with fail
          refine (HH.out _ _ _ _ cl S6.out hn0 (by omega)).mono ?_
          rintro e W7 ⟨F7, rfl, s7, kp⟩
          have S7 := hid s7
          have B7 : Hid (Below w.heap.size w W7) := B6.out.trans (kp.below (fun x hx => (HF.out _ _ _ _ S6.out x hx).1) B6.out.size)
          clear s7 kp S6 B6 R6 c0 c1
          go_wp2
          exact ⟨⟨k + 1, qq, F7, _, by omega, by omega, by go_num, rfl, by omega, idle_heard hI cl, by rw [heard_now]; exact hn0, by rw [heard_now]; omega, S7, B7⟩, by simp [intOf]; omega⟩
        · have e5 : (kd == 5) = false := beq_false_of_ne h5
          by_cases hneg : kd < 0
          · have e0 : decide (kd < 0) = true := decide_eq_true hneg
            clear h5
            go_wp2_with fail
            refine (HS.out _ _ _ _ S6.out hn0 (by omega)).mono ?_
            rintro e W7 ⟨F7, rfl, s7, kp⟩
            have S7 := hid s7
            have B7 : Hid (Below w.heap.size w W7) := B6.out.trans (kp.below (fun x hx => (HF.out _ _ _ _ S6.out x hx).1) B6.out.size)
            clear s7 kp S6 B6 R6 c0 c1
            go_wp2
            exact ⟨⟨k + 1, 0, F7, _, by omega, by omega, by go_num, rfl, by omega, idle_asked hI, hn0, by show p.now ≤ _; omega, S7, B7⟩, by simp [intOf]; omega⟩
          · have e0 : decide (kd < 0) = false := decide_eq_false hneg
            by_cases hgt : 4 < kd
            · have e4 : decide (4 < kd) = true := decide_eq_true hgt
              clear h5
              go_wp2_with fail
              refine (HS.out _ _ _ _ S6.out hn0 (by omega)).mono ?_
              rintro e W7 ⟨F7, rfl, s7, kp⟩
              have S7 := hid s7
              have B7 : Hid (Below w.heap.size w W7) := B6.out.trans (kp.below (fun x hx => (HF.out _ _ _ _ S6.out x hx).1) B6.out.size)
              clear s7 kp S6 B6 R6 c0 c1
              go_wp2
              exact ⟨⟨k + 1, 0, F7, _, by omega, by omega, by go_num, rfl, by omega, idle_asked hI, hn0, by show p.now ≤ _; omega, S7, B7⟩, by simp [intOf]; omega⟩
            · have e4 : decide (4 < kd) = false := decide_eq_false hgt
              by_cases h4 : kd = 4
              · have q4 : (kd == 4) = true := by rw [h4]; rfl
                have q4' : (kd != 4) = false := by rw [h4]; rfl
                clear hneg hgt h4 h5
                have I1 : I64 ((qq : Int) + 1) := by unfold I64; omega
                go_wp2_with fail
                refine (HT.out _ _ _ _ true S6.out hn0 (by omega)).mono ?_
                rintro e W7 ⟨F7, u, rfl, i7, s7, kp⟩
                have S7 := hid s7
                have B7 : Hid (Below w.heap.size w W7) := B6.out.trans (kp.below (fun x hx => (HF.out _ _ _ _ S6.out x hx).1) B6.out.size)
                have R7 := hid (kp.row R6.out hXF)
                have c0 := lkd0 R7.out
                have hrd := idle_read hI true
                have hnn := idle_num hI true
                have hIt := idle_tick hI true
                have hnw : (tickP 3 2 true p).now = p.now + 1 := tick_now _
                clear s7 kp S6 B6 R6 i7
                by_cases h7 : 7 ≤ qq + 1
                · have e7 : decide ((7 : Int) ≤ (qq : Int) + 1) = true := decide_eq_true (by omega)
                  have e7' : decide (7 ≤ qq + 1) = true := decide_eq_true h7
                  rw [e7'] at hrd
                  have hR : readT 2 true p = false := hrd
                  rw [hR] at hnn hIt
                  generalize tickN 2 true p = tn at *
                  generalize tickP 3 2 true p = tp at *
                  clear hrd hR h7
                  go_wp2
                  exact ⟨⟨k + 1, qq + 1, F7, tp, by omega, by omega, by go_num, by go_num, by omega, hIt, by omega, by omega, S7, B7⟩, by simp [intOf]; omega⟩
                · have e7 : decide ((7 : Int) ≤ (qq : Int) + 1) = false := decide_eq_false (by omega)
                  have e7' : decide (7 ≤ qq + 1) = false := decide_eq_false h7
                  rw [e7'] at hrd
                  have hR : readT 2 true p = false := hrd
                  rw [hR] at hnn hIt
                  generalize tickN 2 true p = tn at *
                  generalize tickP 3 2 true p = tp at *
                  clear hrd hR h7
                  go_wp2
                  exact ⟨⟨k + 1, qq + 1, F7, tp, by omega, by omega, by go_num, by go_num, by omega, hIt, by omega, by omega, S7, B7⟩, by simp [intOf]; omega⟩
              · have q4 : (kd == 4) = false := beq_false_of_ne h4
                have q4' : (kd != 4) = true := by rw [bne, q4]; rfl
                clear hneg hgt h4 h5
                have I1 : I64 ((qq : Int) + 1) := by unfold I64; omega
                go_wp2_with fail
                refine (HT.out _ _ _ _ false S6.out hn0 (by omega)).mono ?_
                rintro e W7 ⟨F7, u, rfl, i7, s7, kp⟩
                have S7 := hid s7
                have B7 : Hid (Below w.heap.size w W7) := B6.out.trans (kp.below (fun x hx => (HF.out _ _ _ _ S6.out x hx).1) B6.out.size)
                have R7 := hid (kp.row R6.out hXF)
                have c0 := lkd0 R7.out
                have hrd := idle_read hI false
                have hnn := idle_num hI false
                have hIt := idle_tick hI false
                have hnw : (tickP 3 2 false p).now = p.now + 1 := tick_now _
                clear s7 kp S6 B6 R6 i7
                by_cases h7 : 7 ≤ qq + 1
                · have e7 : decide ((7 : Int) ≤ (qq : Int) + 1) = true := decide_eq_true (by omega)
                  have e7' : decide (7 ≤ qq + 1) = true := decide_eq_true h7
                  rw [e7'] at hrd
                  have hR : readT 2 false p = true := hrd
                  rw [hR] at hnn hIt
                  generalize tickN 2 false p = tn at *
                  generalize tickP 3 2 false p = tp at *
                  clear hrd hR h7
                  go_wp2
                  exact ⟨⟨k + 1, 0, F7, tp, by omega, by omega, by go_num, by go_num, by omega, hIt, by omega, by omega, S7, B7⟩, by simp [intOf]; omega⟩
                · have e7 : decide ((7 : Int) ≤ (qq : Int) + 1) = false := decide_eq_false (by omega)
                  have e7' : decide (7 ≤ qq + 1) = false := decide_eq_false h7
                  rw [e7'] at hrd
                  have hR : readT 2 false p = false := hrd
                  rw [hR] at hnn hIt
                  generalize tickN 2 false p = tn at *
                  generalize tickP 3 2 false p = tp at *
                  clear hrd hR h7
                  go_wp2
                  exact ⟨⟨k + 1, qq + 1, F7, tp, by omega, by omega, by go_num, by go_num, by omega, hIt, by omega, by omega, S7, B7⟩, by simp [intOf]; omega⟩
      · have d2 : decide ((k : Int) < 90) = false := decide_eq_false (by omega)
        have d2' : decide (k < 90) = false := decide_eq_false h90
        go_wp2
        go_ret
        exact ⟨rfl, HBl.out⟩
    · have d1 : decide ((k : Int) < (M.length : Int)) = false := decide_eq_false (by omega)
      have d1' : decide (k < M.length) = false := decide_eq_false hlt
      go_wp2
      go_ret
      exact ⟨rfl, HBl.out⟩
end Go.Proofs.Ytkjgiidmajjonaa.Kn
