/-
  The walk of ProbeSoon, over what New, Heard, Asked and Tick answer.
-/
import Derived.Test.YtkjgiidmajjonaaWpi
namespace Go.Proofs.Ytkjgiidmajjonaa.Kn
open Go Go.RowKit
set_option maxRecDepth 100000

theorem out_len {n : Nat} {me : Int} {p : Pb} : (outT n me p).length ≤ n := chn_len n
theorem any_mem (l : List Int) (c : Int) : l.any (fun t => t == c) = true ↔ c ∈ l := by
  rw [List.any_eq_true]
  constructor
  · rintro ⟨x, hx, e⟩
    have : x = c := by simpa using e
    exact this ▸ hx
  · exact fun h => ⟨c, h, by simp⟩
set_option maxHeartbeats 16000000 in
theorem soon_core {w : World} {ad : Option Addr} {M : List (Int × Int)} {cap : Nat} {cv : Int} (hcv : 0 ≤ cv ∧ cv < 256) (hM : AcsAt w ad M) {KS : Nat → List Nat → Pb → World → Prop}
    (HN : Hid (∀ W, Below w.heap.size w W → Calls Try.prog 8 #[nu 4, nu 1] W fun e w' => ∃ pp F, e = .returned (.tuple #[pt pp 0, nu 0]) ∧ KS pp F (newPb 4 1) w' ∧ Below W.heap.size W w'))
    (HA : Hid (∀ W, Calls Try.prog 9 #[] W fun e w' => e = .returned (.bool true) ∧ Below W.heap.size W w'))
    (HK : Hid (∀ pp F p W W', KS pp F p W → Below W.heap.size W W' → KS pp F p W'))
    (HF : Hid (∀ pp F p W, KS pp F p W → ∀ x ∈ F, w.heap.size ≤ x ∧ x < W.heap.size))
    (HH : Hid (∀ pp F p W c, KS pp F p W → 0 ≤ p.now → p.now ≤ 90 → Calls Try.prog 15 #[pt pp 0, nu c] W fun e w' => ∃ F', e = .returned (.bool (othB (4 : Nat) 1 c)) ∧ KS pp F' (heardPb (4 : Nat) 1 p c) w' ∧ Kp F W w'))
    (HS : Hid (∀ pp F p W, KS pp F p W → 0 ≤ p.now → p.now ≤ 90 → Calls Try.prog 16 #[pt pp 0] W fun e w' => ∃ F', e = .returned (.bool true) ∧ KS pp F' (askedPb 1 p) w' ∧ Kp F W w'))
    (HT : Hid (∀ pp F p W b, KS pp F p W → 0 ≤ p.now → p.now ≤ 90 → Calls Try.prog 17 #[pt pp 0, .bool b] W fun e w' => ∃ F' u, e = .returned (.tuple #[u, nu (tickN 1 b p)]) ∧ IntsAt w' u (outT 4 1 p) ∧ KS pp F' (tickP 4 1 b p) w' ∧ Kp F W w')) :
    Calls Try.prog 4 #[.slice ad M.length cap, .int .u8 cv] w fun e w' => e = .returned (.bool true) ∧ Below w.heap.size w w' := by
  have HMM := hid hM
  have hz := zeroAc
  have hc : 0 ≤ cv % 4 ∧ cv % 4 < 4 := by omega
  have ht : cv.tmod 4 = cv % 4 := Int.tmod_eq_emod_of_nonneg hcv.1
  have hw3 : IntKind.i64.wrap (cv % 4) = cv % 4 := by rw [IntKind.wrap_i64]; omega
  generalize cv % 4 = c at *
  clear hM hcv
  go_enter Try.func4, Try.ntmps4
  go_wp2_with fail
  refine (HN.out _ (Below.refl _ _)).mono ?_
  rintro e W1 ⟨pp, F, rfl, s1, bb⟩
  have S1 := hid s1
  have B1 := hid bb
  clear s1 bb HN
  go_wp2_with fail
  refine (HA.out _).mono ?_
  rintro e W2 ⟨rfl, bb⟩
  have S2 := hid (HK.out _ _ _ _ _ S1.out bb)
  have B2 := hid (below_twoY B1.out bb B1.out.size)
  clear bb S1 B1 HA
  go_wp2
  go_loopw [8, 9] (fun qv i wr => ∃ (k qq : Nat) (F : List Nat) (p : Pb), k ≤ M.length ∧ k ≤ 90 ∧ i = nu k ∧ qv = nu qq ∧ qq ≤ k ∧ SoonI c qq p ∧ 0 ≤ p.now ∧ p.now ≤ k ∧ Hid (KS pp F p wr) ∧ Hid (Below w.heap.size w wr)) (fun _ i _ => 90 - (intOf i).toNat)
  case atStart => exact ⟨0, 0, F, _, by omega, by omega, rfl, rfl, by omega, soon_new c hc, by decide, by decide, S2, B2⟩
  case round =>
    obtain ⟨k, qq, F, p, hk, hk9, rfl, rfl, hqk, hI, hn0, hn9, HS', HBl⟩ := hrel
    clear S2 B2
    by_cases hlt : k < M.length
    · have d1 : decide ((k : Int) < (M.length : Int)) = true := decide_eq_true (by omega)
      have d1' : decide (k < M.length) = true := decide_eq_true hlt
      by_cases h90 : k < 90
      · have d2 : decide ((k : Int) < 90) = true := decide_eq_true (by omega)
        have d2' : decide (k < 90) = true := decide_eq_true h90
        obtain ⟨b, off, ev, g1, g2⟩ := HMM.out k hlt
        cases ev
        have ca0 := (HBl.out.cell (p := ⟨b, off + k * 2, none⟩) (World.block_lt_of_cell? w _ g1)).trans g1
        have ca1 := (HBl.out.cell (p := ⟨b, off + k * 2 + 1, none⟩) (World.block_lt_of_cell? w _ g2)).trans g2
        clear g1 g2
        generalize M[k].1 = kd at *
        generalize M[k].2 = cl at *
        have CA : Hid (∀ j v, [nu kd, nu cl][j]? = some v → wr.cell? ⟨b, off + k * 2 + j, none⟩ = some v) := hid (fun j v hj => by
          match j, hj with
          | 0, hj => cases hj; exact ca0
          | 1, hj => cases hj; exact ca1
          | j + 2, hj => simp at hj)
        clear ca0 ca1
        have ZA := hid (sizeAc kd cl)
        obtain ⟨X, hX⟩ : ∃ X, wr.heap.size = X := ⟨_, rfl⟩
        have T5 := hid (top_obj wr (.cells [nu 0, nu 0].toArray 32))
        have B5 := hid (below_a1 wr (.cells [nu 0, nu 0].toArray 32))
        have hXF : X ∉ F := fun hm => by have := (HF.out _ _ _ _ HS'.out X hm).2; omega
        have hXw : w.heap.size ≤ X := by rw [← hX]; exact HBl.out.size
        rw [hX] at T5
        have HXe := hid hX
        clear hX
        go_upto_region 10 with (first
          | ((with_reducible refine wl_load 32 (.tmp 44) ?_ b (off + k * 2) ?_ ?_ [nu kd, nu cl] _ CA.out Try.underlying32 ?_ ZA.out ?_); exact rfl; exact rfl; exact rfl; exact rfl)
          | ((with_reducible refine wl_alloc 32 ?_ ?_ [nu 0, nu 0].toArray hz ?_); exact rfl; exact rfl; rw [HXe.out]; try simp only [Act.put, List.setIfInBounds_toArray, List.set_cons_zero, List.set_cons_succ])
          | ((with_reducible refine wl_put 32 (.tmp 10) (.tmp 45) ?_ ?_ X 0 ?_ ?_ [] [nu kd, nu cl] [nu 0, nu 0] [] ?_ 32 (row_nilY T5.out) rfl rfl (oneAc kd cl) ZA.out ?_); exact rfl; exact rfl; exact rfl; exact rfl; exact rfl; intro W6 r6 b6))
        have b6' := b6.below B5.out (by rw [HXe.out]; exact Nat.le_refl _)
        have S6 := hid (HK.out _ _ _ _ _ HS'.out b6')
        have B6 := hid (below_twoY HBl.out b6' HBl.out.size)
        have R6 : Hid (W6.heap[X]? = some (.cells [nu kd, nu cl].toArray 32)) := by
          show _ = _
          simpa using r6
        clear r6 b6 b6' T5 B5 HXe CA ZA HS' HBl
        have c0 := lkd0 R6.out
        have c1 := lkd1 R6.out
        by_cases h5 : kd = 5
        · have e5 : (kd == 5) = true := by rw [h5]; rfl
          clear h5
          have hIh := soon_heard hI hc cl
          go_wp2_with fail
          refine (HH.out _ _ _ _ cl S6.out hn0 (by omega)).mono ?_
          rintro e W7 ⟨F7, rfl, s7, kp⟩
          have S7 := hid s7
          have B7 : Hid (Below w.heap.size w W7) := B6.out.trans (kp.below (fun x hx => (HF.out _ _ _ _ S6.out x hx).1) B6.out.size)
          have R7 := hid (kp.row R6.out hXF)
          clear c0 c1
          have c1 := lkd1 R7.out
          clear s7 kp S6 B6 R6
          have hnh : (heardPb (4 : Nat) 1 p cl).now = p.now := heard_now cl
          generalize heardPb (4 : Nat) 1 p cl = hp at *
          by_cases hcc : cl = c
          · have ec : (cl == c) = true := by rw [hcc]; exact beq_self_eq_true _
            rw [if_pos hcc] at hIh
            clear hcc
            go_wp2
            exact ⟨⟨k + 1, 0, F7, hp, by omega, by omega, by go_num, rfl, by omega, hIh, by omega, by omega, S7, B7⟩, by simp [intOf]; omega⟩
          · have ec : (cl == c) = false := beq_false_of_ne hcc
            rw [if_neg hcc] at hIh
            clear hcc
            go_wp2
            exact ⟨⟨k + 1, qq, F7, hp, by omega, by omega, by go_num, rfl, by omega, hIh, by omega, by omega, S7, B7⟩, by simp [intOf]; omega⟩
        · have e5 : (kd == 5) = false := beq_false_of_ne h5
          by_cases hneg : kd < 0
          · have e0 : decide (kd < 0) = true := decide_eq_true hneg
            clear h5
            go_wp2_with fail
            refine (HS.out _ _ _ _ S6.out hn0 (by omega)).mono ?_
            rintro e W7 ⟨F7, rfl, s7, kp⟩
            have S7 := hid s7
            have B7 : Hid (Below w.heap.size w W7) := B6.out.trans (kp.below (fun x hx => (HF.out _ _ _ _ S6.out x hx).1) B6.out.size)
            clear s7 kp S6 B6 R6 c0 c1
            go_wp2
            exact ⟨⟨k + 1, qq, F7, _, by omega, by omega, by go_num, rfl, by omega, soon_asked hI hc, hn0, by show p.now ≤ _; omega, S7, B7⟩, by simp [intOf]; omega⟩
          · have e0 : decide (kd < 0) = false := decide_eq_false hneg
            by_cases hgt : 4 < kd
            · have e4 : decide (4 < kd) = true := decide_eq_true hgt
              clear h5
              go_wp2_with fail
              refine (HS.out _ _ _ _ S6.out hn0 (by omega)).mono ?_
              rintro e W7 ⟨F7, rfl, s7, kp⟩
              have S7 := hid s7
              have B7 : Hid (Below w.heap.size w W7) := B6.out.trans (kp.below (fun x hx => (HF.out _ _ _ _ S6.out x hx).1) B6.out.size)
              clear s7 kp S6 B6 R6 c0 c1
              go_wp2
              exact ⟨⟨k + 1, qq, F7, _, by omega, by omega, by go_num, rfl, by omega, soon_asked hI hc, hn0, by show p.now ≤ _; omega, S7, B7⟩, by simp [intOf]; omega⟩
            · have e4 : decide (4 < kd) = false := decide_eq_false hgt
              by_cases h4 : kd = 4
              · have q4 : (kd == 4) = true := by rw [h4]; rfl
                clear hneg hgt h4 h5
                have I1 : I64 ((qq : Int) + 1) := by unfold I64; omega
                go_wp2_with fail
                refine (HT.out _ _ _ _ true S6.out hn0 (by omega)).mono ?_
                rintro e W7 ⟨F7, u, rfl, i7, s7, kp⟩
                have S7 := hid s7
                have B7 : Hid (Below w.heap.size w W7) := B6.out.trans (kp.below (fun x hx => (HF.out _ _ _ _ S6.out x hx).1) B6.out.size)
                have hso := soon_out hI hc
                have hIt := soon_tick hI hc true
                have hnw : (tickP 4 1 true p).now = p.now + 1 := tick_now _
                have hol : (outT 4 1 p).length ≤ 4 := out_len
                have I7 := hid i7
                clear s7 kp S6 B6 R6 c0 c1 i7
                generalize tickN 1 true p = tn at *
                generalize tickP 4 1 true p = tp at *
                generalize outT 4 1 p = OUT at *
                obtain ⟨ua, uc, hu, hua⟩ := I7.out
                subst hu
                have HU := hid hua
                clear hua I7
                go_wp2
                go_loopw [13, 14] (fun ak jv wr => ∃ j : Nat, j ≤ OUT.length ∧ jv = nu j ∧ ak = .bool ((OUT.take j).any (fun t => t == c)) ∧ Hid (KS pp F7 tp wr) ∧ Hid (Below W7.heap.size W7 wr)) (fun _ jv _ => OUT.length - (intOf jv).toNat)
                case atStart => exact ⟨0, by omega, rfl, rfl, S7, hid (Below.refl _ _)⟩
                case round =>
                  obtain ⟨j, hj, rfl, rfl, S8, B8⟩ := hrel
                  by_cases hjl : j < OUT.length
                  · have d3 : decide ((j : Int) < (OUT.length : Int)) = true := decide_eq_true (by omega)
                    have d3' : decide (j < OUT.length) = true := decide_eq_true hjl
                    have hst := any_step OUT c j hjl
                    cases hcq : (OUT.take j).any (fun t => t == c) with
                    | true =>
                      rw [hcq, Bool.true_or] at hst
                      go_wp2
                      exact ⟨⟨j + 1, by omega, by go_num, by rw [hst], S8, B8⟩, by simp [intOf]; omega⟩
                    | false =>
                      rw [hcq, Bool.false_or] at hst
                      obtain ⟨ub, uo, e9, hcu⟩ := HU.out (fun e => by rw [e] at hjl; exact absurd hjl (Nat.not_lt_zero j))
                      cases e9
                      have cu : wr.cell? ⟨ub, uo + j, none⟩ = some (nu (OUT.getD j 0)) := cell_keptY (hcu j hjl) B8.out
                      clear hcu
                      generalize hE : (OUT.getD j 0 == c) = E at *
                      generalize OUT.getD j 0 = tj at *
                      go_wp2
                      exact ⟨⟨j + 1, by omega, by go_num, by rw [hst], S8, B8⟩, by simp [intOf]; omega⟩
                  · have d3 : decide ((j : Int) < (OUT.length : Int)) = false := decide_eq_false (by omega)
                    have d3' : decide (j < OUT.length) = false := decide_eq_false hjl
                    rw [List.take_of_length_le (by omega)]
                    have B9 := hid (below_twoY B7.out B8.out B7.out.size)
                    have ham := any_mem OUT c
                    by_cases h1 : c = 1
                    · have f1 : (c == 1) = true := by rw [h1]; rfl
                      have f1' : (c != 1) = false := by rw [h1]; rfl
                      have hno : c ∉ OUT := fun e => (hso.1 e).1 h1
                      have hb : OUT.any (fun t => t == c) = false := Bool.eq_false_iff.2 fun e => hno (ham.1 e)
                      rw [if_neg hno] at hIt
                      rw [hb]
                      clear hso ham hno hb h1
                      go_wp2
                      exact ⟨⟨k + 1, qq + 1, F7, tp, by omega, by omega, by go_num, by go_num, by omega, hIt, by omega, by omega, S8, B9⟩, by simp [intOf]; omega⟩
                    · have f1 : (c == 1) = false := beq_false_of_ne h1
                      have f1' : (c != 1) = true := by rw [bne, f1]; rfl
                      by_cases h4 : qq + 1 = 4
                      · have g4 : ((qq : Int) + 1 == 4) = true := by rw [show (qq : Int) + 1 = 4 by omega]; rfl
                        have hin : c ∈ OUT := hso.2 ⟨h1, h4⟩
                        rw [if_pos hin] at hIt
                        rw [ham.2 hin]
                        clear hso ham hin h1 h4
                        go_wp2
                        exact ⟨⟨k + 1, 0, F7, tp, by omega, by omega, by go_num, rfl, by omega, hIt, by omega, by omega, S8, B9⟩, by simp [intOf]; omega⟩
                      · have g4 : ((qq : Int) + 1 == 4) = false := beq_false_of_ne (by omega)
                        have hno : c ∉ OUT := fun e => h4 (hso.1 e).2
                        have hb : OUT.any (fun t => t == c) = false := Bool.eq_false_iff.2 fun e => hno (ham.1 e)
                        rw [if_neg hno] at hIt
                        rw [hb]
                        clear hso ham hno hb h1 h4
                        go_wp2
                        exact ⟨⟨k + 1, qq + 1, F7, tp, by omega, by omega, by go_num, by go_num, by omega, hIt, by omega, by omega, S8, B9⟩, by simp [intOf]; omega⟩
              · have q4 : (kd == 4) = false := beq_false_of_ne h4
                clear hneg hgt h4 h5
                have I1 : I64 ((qq : Int) + 1) := by unfold I64; omega
                go_wp2_with fail
                refine (HT.out _ _ _ _ false S6.out hn0 (by omega)).mono ?_
                rintro e W7 ⟨F7, u, rfl, i7, s7, kp⟩
                have S7 := hid s7
                have B7 : Hid (Below w.heap.size w W7) := B6.out.trans (kp.below (fun x hx => (HF.out _ _ _ _ S6.out x hx).1) B6.out.size)
                have hso := soon_out hI hc
                have hIt := soon_tick hI hc false
                have hnw : (tickP 4 1 false p).now = p.now + 1 := tick_now _
                have hol : (outT 4 1 p).length ≤ 4 := out_len
                have I7 := hid i7
                clear s7 kp S6 B6 R6 c0 c1 i7
                generalize tickN 1 false p = tn at *
                generalize tickP 4 1 false p = tp at *
                generalize outT 4 1 p = OUT at *
                obtain ⟨ua, uc, hu, hua⟩ := I7.out
                subst hu
                have HU := hid hua
                clear hua I7
                go_wp2
                go_loopw [13, 14] (fun ak jv wr => ∃ j : Nat, j ≤ OUT.length ∧ jv = nu j ∧ ak = .bool ((OUT.take j).any (fun t => t == c)) ∧ Hid (KS pp F7 tp wr) ∧ Hid (Below W7.heap.size W7 wr)) (fun _ jv _ => OUT.length - (intOf jv).toNat)
                case atStart => exact ⟨0, by omega, rfl, rfl, S7, hid (Below.refl _ _)⟩
                case round =>
                  obtain ⟨j, hj, rfl, rfl, S8, B8⟩ := hrel
                  by_cases hjl : j < OUT.length
                  · have d3 : decide ((j : Int) < (OUT.length : Int)) = true := decide_eq_true (by omega)
                    have d3' : decide (j < OUT.length) = true := decide_eq_true hjl
                    have hst := any_step OUT c j hjl
                    cases hcq : (OUT.take j).any (fun t => t == c) with
                    | true =>
                      rw [hcq, Bool.true_or] at hst
                      go_wp2
                      exact ⟨⟨j + 1, by omega, by go_num, by rw [hst], S8, B8⟩, by simp [intOf]; omega⟩
                    | false =>
                      rw [hcq, Bool.false_or] at hst
                      obtain ⟨ub, uo, e9, hcu⟩ := HU.out (fun e => by rw [e] at hjl; exact absurd hjl (Nat.not_lt_zero j))
                      cases e9
                      have cu : wr.cell? ⟨ub, uo + j, none⟩ = some (nu (OUT.getD j 0)) := cell_keptY (hcu j hjl) B8.out
                      clear hcu
                      generalize hE : (OUT.getD j 0 == c) = E at *
                      generalize OUT.getD j 0 = tj at *
                      go_wp2
                      exact ⟨⟨j + 1, by omega, by go_num, by rw [hst], S8, B8⟩, by simp [intOf]; omega⟩
                  · have d3 : decide ((j : Int) < (OUT.length : Int)) = false := decide_eq_false (by omega)
                    have d3' : decide (j < OUT.length) = false := decide_eq_false hjl
                    rw [List.take_of_length_le (by omega)]
                    have B9 := hid (below_twoY B7.out B8.out B7.out.size)
                    have ham := any_mem OUT c
                    by_cases h1 : c = 1
                    · have f1 : (c == 1) = true := by rw [h1]; rfl
                      have f1' : (c != 1) = false := by rw [h1]; rfl
                      have hno : c ∉ OUT := fun e => (hso.1 e).1 h1
                      have hb : OUT.any (fun t => t == c) = false := Bool.eq_false_iff.2 fun e => hno (ham.1 e)
                      rw [if_neg hno] at hIt
                      rw [hb]
                      clear hso ham hno hb h1
                      go_wp2
                      exact ⟨⟨k + 1, qq + 1, F7, tp, by omega, by omega, by go_num, by go_num, by omega, hIt, by omega, by omega, S8, B9⟩, by simp [intOf]; omega⟩
                    · have f1 : (c == 1) = false := beq_false_of_ne h1
                      have f1' : (c != 1) = true := by rw [bne, f1]; rfl
                      by_cases h4 : qq + 1 = 4
                      · have g4 : ((qq : Int) + 1 == 4) = true := by rw [show (qq : Int) + 1 = 4 by omega]; rfl
                        have hin : c ∈ OUT := hso.2 ⟨h1, h4⟩
                        rw [if_pos hin] at hIt
                        rw [ham.2 hin]
                        clear hso ham hin h1 h4
                        go_wp2
                        exact ⟨⟨k + 1, 0, F7, tp, by omega, by omega, by go_num, rfl, by omega, hIt, by omega, by omega, S8, B9⟩, by simp [intOf]; omega⟩
                      · have g4 : ((qq : Int) + 1 == 4) = false := beq_false_of_ne (by omega)
                        have hno : c ∉ OUT := fun e => h4 (hso.1 e).2
                        have hb : OUT.any (fun t => t == c) = false := Bool.eq_false_iff.2 fun e => hno (ham.1 e)
                        rw [if_neg hno] at hIt
                        rw [hb]
                        clear hso ham hno hb h1 h4
                        go_wp2
                        exact ⟨⟨k + 1, qq + 1, F7, tp, by omega, by omega, by go_num, by go_num, by omega, hIt, by omega, by omega, S8, B9⟩, by simp [intOf]; omega⟩
      · have d2 : decide ((k : Int) < 90) = false := decide_eq_false (by omega)
        have d2' : decide (k < 90) = false := decide_eq_false h90
        go_wp2
        go_ret
        exact ⟨rfl, HBl.out⟩
    · have d1 : decide ((k : Int) < (M.length : Int)) = false := decide_eq_false (by omega)
      have d1' : decide (k < M.length) = false := decide_eq_false hlt
      go_wp2
      go_ret
      exact ⟨rfl, HBl.out⟩
end Go.Proofs.Ytkjgiidmajjonaa.Kn
