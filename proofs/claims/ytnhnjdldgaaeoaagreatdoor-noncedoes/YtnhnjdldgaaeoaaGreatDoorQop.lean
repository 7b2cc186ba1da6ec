/-
  What the reference's Open answers.
-/
import Derived.Test.YtnhnjdldgaaeoaaGreatDoorQcl
import Derived.Test.YtnhnjdldgaaeoaaGreatDoorKop
namespace Go.Proofs.YtnhnjdldgaaeoaaGreatDoor
open Go Go.RowKit
set_option maxRecDepth 100000

section
variable {w w' : World} {r : Rx} {D : Dk}
set_option maxHeartbeats 2000000 in
theorem ropen_bad (hr : RefAt w r D) (a b : Int) (ha : a < 9223372036854775808) (hE : openE D a b ≠ 0) : Calls Tryz.prog 7 #[.pointer (some ⟨r.x, 0, none⟩), .int .i64 a, .int .i64 b] w fun e w' => e = .returned (.tuple #[.pointer none, .int .i64 (openE D a b)]) ∧ w' = w := by
  have c0 := hr.c0
  have c3 := hr.c3
  have hln := hr.len
  clear hr
  by_cases h2 : b < 1
  · have e2 : openE D a b = 2 := by unfold openE fitB; rw [decide_eq_true h2]; simp
    rw [e2]
    have d2 : decide (b < 1) = true := decide_eq_true h2
    clear h2
    go_enter Tryz.func7, Tryz.ntmps7
    go_wp2
    go_ret2
    exact ⟨rfl, rfl⟩
  · have d2 : decide (b < 1) = false := decide_eq_false h2
    by_cases h3 : 255 < b
    · have e2 : openE D a b = 2 := by unfold openE fitB; rw [decide_eq_true h3]; simp
      rw [e2]
      have d3 : decide (255 < b) = true := decide_eq_true h3
      clear h2 h3
      go_enter Tryz.func7, Tryz.ntmps7
      go_wp2
      go_ret2
      exact ⟨rfl, rfl⟩
    · have d3 : decide (255 < b) = false := decide_eq_false h3
      by_cases h1 : a < 0
      · have e2 : openE D a b = 2 := by unfold openE fitB; rw [decide_eq_true h1]; rfl
        rw [e2]
        have d1 : decide (a < 0) = true := decide_eq_true h1
        clear h1 h2 h3
        go_enter Tryz.func7, Tryz.ntmps7
        go_wp2
        go_ret2
        exact ⟨rfl, rfl⟩
      · have d1 : decide (a < 0) = false := decide_eq_false h1
        by_cases h4 : (D.S.length : Int) < a
        · have e2 : openE D a b = 2 := by unfold openE fitB; rw [decide_eq_true (show (D.S.length : Int) - 2 - 2 * b < a by omega)]; simp
          rw [e2]
          have d4 : decide ((D.S.length : Int) < a) = true := decide_eq_true h4
          clear h1 h4
          go_enter Tryz.func7, Tryz.ntmps7
          go_wp2
          go_ret2
          exact ⟨rfl, rfl⟩
        · have d4 : decide ((D.S.length : Int) < a) = false := decide_eq_false h4
          by_cases h5 : (D.S.length : Int) < a + 2 + 2 * b
          · have e2 : openE D a b = 2 := by unfold openE fitB; rw [decide_eq_true (show (D.S.length : Int) - 2 - 2 * b < a by omega)]; simp
            rw [e2]
            have d5 : decide ((D.S.length : Int) < a + 2 + 2 * b) = true := decide_eq_true h5
            go_enter Tryz.func7, Tryz.ntmps7
            go_wp2
            go_ret2
            exact ⟨rfl, rfl⟩
          · have d5 : decide ((D.S.length : Int) < a + 2 + 2 * b) = false := decide_eq_false h5
            have hf : fitB D.S.length a b = true := by unfold fitB; rw [decide_eq_false h1, decide_eq_false h2, decide_eq_false h3, decide_eq_false (show ¬ (D.S.length : Int) - 2 - 2 * b < a by omega)]; rfl
            have e2 : openE D a b = eDown D.down := by unfold openE; rw [if_pos hf]
            rw [e2] at hE ⊢
            have hdn : D.down = true := by
              cases hq : D.down with
              | true => rfl
              | false => rw [hq] at hE; exact absurd rfl hE
            rw [hdn] at c3 ⊢
            simp only [eDown, if_true]
            clear hE e2 hf
            go_enter Tryz.func7, Tryz.ntmps7
            go_wp2
            go_ret2
            exact ⟨rfl, rfl⟩

set_option maxHeartbeats 2000000 in
theorem ropen_ok (hr : RefAt w r D) (first size : Nat) (hroom : first + 2 + 2 * size ≤ D.S.length) (h1 : 1 ≤ size) (h2 : size ≤ 255) (hdn : D.down = false) :
    Calls Tryz.prog 7 #[.pointer (some ⟨r.x, 0, none⟩), .int .i64 first, .int .i64 size] w fun e w' => ∃ y, e = .returned (.tuple #[.pointer (some ⟨y, 0, none⟩), .int .i64 0]) ∧ RcAt w' y r first size ∧ Below w.heap.size w w' ∧ w.heap.size ≤ y := by
  have c0 := hr.c0
  have c3 := hr.c3
  rw [hdn] at c3
  have hln := hr.len
  clear hr hdn
  have d4 : decide ((D.S.length : Int) < (first : Int)) = false := by simp; omega
  have d5 : decide ((D.S.length : Int) < (first : Int) + 2 + 2 * (size : Int)) = false := by simp; omega
  generalize D.S.length = N at *
  go_enter Tryz.func7, Tryz.ntmps7
  go_wp2
  go_ret2
  exact ⟨w.heap.size, rfl, ⟨top_row _ _, by omega, h1, h2⟩, below_a1 _ _, Nat.le_refl _⟩
/-- What Open answers is 0 just where there is room. -/
theorem open_zero (D : Dk) (a b : Int) (h : openE D a b = 0) : ∃ first size : Nat, a = first ∧ b = size ∧ first + 2 + 2 * size ≤ D.S.length ∧ 1 ≤ size ∧ size ≤ 255 ∧ D.down = false := by
  unfold openE at h
  by_cases hf : fitB D.S.length a b = true
  · rw [if_pos hf] at h
    unfold fitB at hf
    simp only [Bool.not_eq_true', Bool.or_eq_false_iff, decide_eq_false_iff_not] at hf
    obtain ⟨⟨⟨f1, f2⟩, f3⟩, f4⟩ := hf
    refine ⟨a.toNat, b.toNat, by omega, by omega, by omega, by omega, by omega, ?_⟩
    cases hd : D.down with
    | false => rfl
    | true => rw [hd] at h; exact absurd h (by decide)
  · rw [if_neg hf] at h
    exact absurd h (by decide)
end
end Go.Proofs.YtnhnjdldgaaeoaaGreatDoor
