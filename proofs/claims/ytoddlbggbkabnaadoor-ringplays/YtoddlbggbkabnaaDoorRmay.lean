/-
  What a ring's mayTag and Made answer.
-/
import Derived.Test.YtoddlbggbkabnaaDoorRhas
namespace Go.Proofs.YtoddlbggbkabnaaDoor
open Go Go.RowKit
set_option maxRecDepth 100000

/-- Each way that the tests can take. -/
theorem may_ways (n : Nat) (c d : Int) (t : List UInt8) (B : Bool) (hB : B = decide (May n (c, d, t))) :
    (decide ((0 : Int) ≤ c) = false ∧ decide ((1 : Int) ≤ d) = false ∧ B = false) ∨ (decide ((0 : Int) ≤ c) = false ∧ decide ((1 : Int) ≤ d) = true ∧ decide (d ≤ (6 : Int)) = false ∧ B = false) ∨ (decide ((0 : Int) ≤ c) = false ∧ decide ((1 : Int) ≤ d) = true ∧ decide (d ≤ (6 : Int)) = true ∧ B = false) ∨
    (decide ((0 : Int) ≤ c) = true ∧ decide (c < (n : Int)) = false ∧ decide ((1 : Int) ≤ d) = false ∧ B = false) ∨ (decide ((0 : Int) ≤ c) = true ∧ decide (c < (n : Int)) = false ∧ decide ((1 : Int) ≤ d) = true ∧ decide (d ≤ (6 : Int)) = false ∧ B = false) ∨ (decide ((0 : Int) ≤ c) = true ∧ decide (c < (n : Int)) = false ∧ decide ((1 : Int) ≤ d) = true ∧ decide (d ≤ (6 : Int)) = true ∧ B = false) ∨
    (decide ((0 : Int) ≤ c) = true ∧ decide (c < (n : Int)) = true ∧ decide ((1 : Int) ≤ d) = false ∧ B = false) ∨ (decide ((0 : Int) ≤ c) = true ∧ decide (c < (n : Int)) = true ∧ decide ((1 : Int) ≤ d) = true ∧ decide (d ≤ (6 : Int)) = false ∧ B = false) ∨
    (decide ((0 : Int) ≤ c) = true ∧ decide (c < (n : Int)) = true ∧ decide ((1 : Int) ≤ d) = true ∧ decide (d ≤ (6 : Int)) = true ∧ decide ((t.length : Int) ≤ 16384) = false ∧ B = false) ∨ (decide ((0 : Int) ≤ c) = true ∧ decide (c < (n : Int)) = true ∧ decide ((1 : Int) ≤ d) = true ∧ decide (d ≤ (6 : Int)) = true ∧ decide ((t.length : Int) ≤ 16384) = true ∧ B = true) := by
  simp only [decide_eq_true_eq, decide_eq_false_iff_not]
  by_cases h : May n (c, d, t)
  · have hb : B = true := by rw [hB]; exact decide_eq_true h
    have h' : 0 ≤ c ∧ c < n ∧ 1 ≤ d ∧ d ≤ 6 ∧ t.length ≤ 16384 := h
    simp only [hb, and_true, Bool.true_eq_false, and_false, false_or]
    omega
  · have hf : B = false := by rw [hB]; exact decide_eq_false h
    have hn : ¬ (0 ≤ c ∧ c < n ∧ 1 ≤ d ∧ d ≤ 6 ∧ t.length ≤ 16384) := h
    simp only [hf, and_true, Bool.false_eq_true, and_false, or_false]
    omega

set_option maxHeartbeats 4000000 in
theorem may_gen (w : World) (po : Option Addr) (n : Nat) (HC : Hid (∀ W, Below w.heap.size w W → Calls Tryd.prog 21 #[.pointer po] W fun e w' => e = .returned (.int .i64 n) ∧ w' = W)) (c d : Int) (t : List UInt8) (B : Bool) (hB : B = decide (May n (c, d, t))) :
    Calls Tryd.prog 26 #[.pointer po, .agg #[.int .i64 c, .int .i64 d, .string ⟨t.toArray⟩]] w fun e w' => e = .returned (.bool B) ∧ Below w.heap.size w w' := by
  have hw := may_ways n c d t B hB
  have hs : (⟨t.toArray⟩ : ByteArray).size = t.length := rfl
  clear hB
  have HB0 : Hid (Below w.heap.size w (w.alloc (.cells #[.int .i64 c, .int .i64 d, .string ⟨t.toArray⟩] 62))) := below_a1 w _
  have hq : (w.alloc (.cells #[.int .i64 c, .int .i64 d, .string ⟨t.toArray⟩] 62)).heap[w.heap.size]? = some (.cells #[.int .i64 c, .int .i64 d, .string ⟨t.toArray⟩] 62) := top_row w _
  have hq0 : (w.alloc (.cells #[.int .i64 c, .int .i64 d, .string ⟨t.toArray⟩] 62)).cell? ⟨w.heap.size, 0, none⟩ = some (.int .i64 c) := by rw [cell_of_row _ _ _ _ _ _ hq]; rfl
  have hq1 : (w.alloc (.cells #[.int .i64 c, .int .i64 d, .string ⟨t.toArray⟩] 62)).cell? ⟨w.heap.size, 1, none⟩ = some (.int .i64 d) := by rw [cell_of_row _ _ _ _ _ _ hq]; rfl
  have hq2 : (w.alloc (.cells #[.int .i64 c, .int .i64 d, .string ⟨t.toArray⟩] 62)).cell? ⟨w.heap.size, 2, none⟩ = some (.string ⟨t.toArray⟩) := by rw [cell_of_row _ _ _ _ _ _ hq]; rfl
  clear hq
  go_enter Tryd.func26, Tryd.ntmps26
  go_upto_region 1 with fail
  generalize w.alloc (.cells #[.int .i64 c, .int .i64 d, .string ⟨t.toArray⟩] 62) = w0 at *
  have HC0 : Hid (∀ W, Below w0.heap.size w0 W → Calls Tryd.prog 21 #[.pointer po] W fun e w' => e = .returned (.int .i64 n) ∧ w' = W) := fun W hb => HC.out W (HB0.out.trans (hb.mono HB0.out.size))
  clear HC
  rcases hw with ⟨a1, a2, rfl⟩ | ⟨a1, a2, a3, rfl⟩ | ⟨a1, a2, a3, rfl⟩ | ⟨a1, a2, a3, rfl⟩ | ⟨a1, a2, a3, a4, rfl⟩ | ⟨a1, a2, a3, a4, rfl⟩ | ⟨a1, a2, a3, rfl⟩ | ⟨a1, a2, a3, a4, rfl⟩ | ⟨a1, a2, a3, a4, a5, rfl⟩ | ⟨a1, a2, a3, a4, a5, rfl⟩
  all_goals go_quiet (first | (go_at_call 21; refine Calls.quiet_of_same (HC0.out _ (below_drawn (Below.refl _ _) _))))
  all_goals go_wp2
  all_goals go_ret
  all_goals exact ⟨rfl, below_drawn HB0.out _⟩

end Go.Proofs.YtoddlbggbkabnaaDoor
