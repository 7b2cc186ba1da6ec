/-
  The prober's small calls, and all calls of nil.
-/
import Derived.Test.YtkjgiidmajjonaaQmv
import Derived.Test.YtkjgiidmajjonaaQcn
namespace Go.Proofs.Ytkjgiidmajjonaa.Kn
open Go Go.RowKit
set_option maxRecDepth 100000

section
variable {w w' : World} {pp g cap : Nat} {n me now nx : Int} {L : List En} {S : List Value}
theorem made_any (h : RAt w pp g cap n me now nx L S) (hn : 0 < n) : Calls Try.prog 25 #[pt pp 0] w fun e w' => e = .returned (.bool true) ∧ w' = w := by
  have c0 := h.c0
  have d : decide (0 < n) = true := decide_eq_true hn
  clear h hn
  go_enter Try.func25, Try.ntmps25
  go_wp2
  go_ret
  exact ⟨rfl, rfl⟩
theorem made_nil (w : World) : Calls Try.prog 25 #[.pointer none] w fun e w' => e = .returned (.bool false) ∧ w' = w := by
  go_enter Try.func25, Try.ntmps25
  go_wp2
  go_ret
  exact ⟨rfl, rfl⟩
theorem other_any (h : RAt w pp g cap n me now nx L S) (c : Int) : Calls Try.prog 26 #[pt pp 0, nu c] w fun e w' => e = .returned (.bool (othB n me c)) ∧ w' = w := by
  have c0 := h.c0
  have c1 := h.c1
  clear h
  by_cases h0 : 0 ≤ c
  · have d0 : decide (0 ≤ c) = true := decide_eq_true h0
    by_cases h1 : c < n
    · have d1 : decide (c < n) = true := decide_eq_true h1
      have he : othB n me c = !(c == me) := by unfold othB; rw [d0, d1]; rfl
      rw [he]
      have hne : (c != me) = !(c == me) := rfl
      generalize (c == me) = B at *
      clear h0 h1 he
      go_enter Try.func26, Try.ntmps26
      go_wp2
      go_ret
      exact ⟨rfl, rfl⟩
    · have d1 : decide (c < n) = false := decide_eq_false h1
      have he : othB n me c = false := by unfold othB; rw [d1]; simp
      rw [he]
      clear h0 h1 he
      go_enter Try.func26, Try.ntmps26
      go_wp2
      go_ret
      exact ⟨rfl, rfl⟩
  · have d0 : decide (0 ≤ c) = false := decide_eq_false h0
    have he : othB n me c = false := by unfold othB; rw [d0]; simp
    rw [he]
    clear h0 he
    go_enter Try.func26, Try.ntmps26
    go_wp2
    go_ret
    exact ⟨rfl, rfl⟩
theorem behind_any {n me : Nat} (c0 : w.cell? ⟨pp, 0, none⟩ = some (nu (n : Int))) (c1 : w.cell? ⟨pp, 1, none⟩ = some (nu (me : Int))) (h2 : 2 ≤ n) (h8 : n ≤ 8) {r : Int} (hr : 0 ≤ r ∧ r < n) (hm : me < n) : Calls Try.prog 19 #[pt pp 0, nu r] w fun e w' => e = .returned (nu (nxP n me r)) ∧ w' = w := by
  have I1 : I64 (r + 1) := by unfold I64; omega
  have hz : ((n : Int) == 0) = false := by rw [beq_eq_false_iff_ne]; omega
  have hz' : (n : Int) ≠ 0 := by omega
  have hz2 : n ≠ 0 := by omega
  have ht : (r + 1).tmod (n : Int) = (r + 1) % (n : Int) := Int.tmod_eq_emod_of_nonneg (by omega)
  have hb : 0 ≤ (r + 1) % (n : Int) ∧ (r + 1) % (n : Int) < n := ⟨Int.emod_nonneg _ hz', Int.emod_lt_of_pos _ (by omega)⟩
  have hw1 : IntKind.i64.wrap ((r + 1) % (n : Int)) = (r + 1) % (n : Int) := by rw [IntKind.wrap_i64]; omega
  by_cases he : (r + 1) % (n : Int) = (me : Int)
  · have hx : nxP n me r = ((me : Int) + 1) % (n : Int) := by unfold nxP; rw [if_pos he]
    have I2 : I64 ((me : Int) + 1) := by unfold I64; omega
    have ht2 : ((me : Int) + 1).tmod (n : Int) = ((me : Int) + 1) % (n : Int) := Int.tmod_eq_emod_of_nonneg (by omega)
    have hb2 : 0 ≤ ((me : Int) + 1) % (n : Int) ∧ ((me : Int) + 1) % (n : Int) < n := ⟨Int.emod_nonneg _ hz', Int.emod_lt_of_pos _ (by omega)⟩
    have hw2 : IntKind.i64.wrap (((me : Int) + 1) % (n : Int)) = ((me : Int) + 1) % (n : Int) := by rw [IntKind.wrap_i64]; omega
    rw [hx]
    rw [he] at ht hw1
    have HE : ((me : Int) == (me : Int)) = true := by simp
    generalize ((me : Int) + 1) % (n : Int) = u at *
    clear hb hb2 he hx
    go_enter Try.func19, Try.ntmps19
    go_wp2
    go_ret
    exact ⟨rfl, rfl⟩
  · have hx : nxP n me r = (r + 1) % (n : Int) := by unfold nxP; rw [if_neg he]
    rw [hx]
    generalize (r + 1) % (n : Int) = u at *
    have HE : (u == (me : Int)) = false := by rw [beq_eq_false_iff_ne]; exact he
    clear hb he hx
    go_enter Try.func19, Try.ntmps19
    go_wp2
    go_ret
    exact ⟨rfl, rfl⟩
theorem next_any (h : RAt w pp g cap n me now nx L S) (hn : 0 < n) : Calls Try.prog 12 #[pt pp 0] w fun e w' => e = .returned (nu nx) ∧ w' = w := by
  have HM := hid (made_any h hn)
  have c3 := h.c3
  clear h
  go_enter Try.func12, Try.ntmps12
  go_wp2_with fail
  refine HM.out.mono ?_
  rintro e W1 ⟨rfl, hw⟩
  subst W1
  go_wp2
  go_ret
  exact ⟨rfl, rfl⟩
end
section
variable (w : World)
theorem next_nil : Calls Try.prog 12 #[.pointer none] w fun e w' => e = .returned (nu 0) ∧ Below w.heap.size w w' := by
  have HM := hid (made_nil w)
  go_enter Try.func12, Try.ntmps12
  go_wp2_with fail
  refine HM.out.mono ?_
  rintro e W1 ⟨rfl, hw⟩
  subst W1
  go_wp2
  go_ret
  exact ⟨rfl, Below.refl _ _⟩
theorem due_nil (c : Int) : Calls Try.prog 14 #[.pointer none, nu c] w fun e w' => e = .returned (nu 0) ∧ Below w.heap.size w w' := by
  have HM := hid (made_nil w)
  go_enter Try.func14, Try.ntmps14
  go_wp2_with fail
  refine HM.out.mono ?_
  rintro e W1 ⟨rfl, hw⟩
  subst W1
  go_wp2
  go_ret
  exact ⟨rfl, Below.refl _ _⟩
theorem heard_nil (c : Int) : Calls Try.prog 15 #[.pointer none, nu c] w fun e w' => e = .returned (.bool false) ∧ Below w.heap.size w w' := by
  have HM := hid (made_nil w)
  go_enter Try.func15, Try.ntmps15
  go_wp2_with fail
  refine HM.out.mono ?_
  rintro e W1 ⟨rfl, hw⟩
  subst W1
  go_wp2
  go_ret
  exact ⟨rfl, Below.refl _ _⟩
theorem asked_nil : Calls Try.prog 16 #[.pointer none] w fun e w' => e = .returned (.bool false) ∧ Below w.heap.size w w' := by
  have HM := hid (made_nil w)
  go_enter Try.func16, Try.ntmps16
  go_wp2_with fail
  refine HM.out.mono ?_
  rintro e W1 ⟨rfl, hw⟩
  subst W1
  go_wp2
  go_ret
  exact ⟨rfl, Below.refl _ _⟩
theorem tick_nil (b : Bool) : Calls Try.prog 17 #[.pointer none, .bool b] w fun e w' => e = .returned (.tuple #[.slice none 0 0, nu (-1)]) ∧ Below w.heap.size w w' := by
  have HM := hid (made_nil w)
  go_enter Try.func17, Try.ntmps17
  go_wp2_with fail
  refine HM.out.mono ?_
  rintro e W1 ⟨rfl, hw⟩
  subst W1
  go_wp2
  go_ret2
  exact ⟨rfl, Below.refl _ _⟩
end
end Go.Proofs.Ytkjgiidmajjonaa.Kn
