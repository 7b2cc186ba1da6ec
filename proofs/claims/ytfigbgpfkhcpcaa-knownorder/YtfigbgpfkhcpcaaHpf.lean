/-
  Which histories of a list fit, as plain lists. No program plays a part.
-/
import Derived.Test.YtfigbgpfkhcpcaaHpl
namespace Go.Proofs.Ytfigbgpfkhcpcaa.Hist
open Go
set_option maxRecDepth 100000

theorem goes_pre (a b : List UInt8) : goesB a b = true ↔ b <+: a := by unfold goesB; simp
theorem fit_pre (a b : List UInt8) : fitB a b = true ↔ b <+: a ∨ a <+: b := by
  unfold fitB
  rw [Bool.or_eq_true, goes_pre, goes_pre]
theorem fit_refl (a : List UInt8) : fitB a a = true := (fit_pre a a).2 (.inl (List.prefix_refl a))
theorem fit_comm (a b : List UInt8) : fitB a b = fitB b a := by unfold fitB; exact Bool.or_comm _ _
theorem fit_nil (a : List UInt8) : fitB [] a = true := (fit_pre [] a).2 (.inr (List.nil_prefix))
/-- Two that one goes on fit. -/
theorem fit_both {a b c : List UInt8} (h1 : b <+: a) (h2 : c <+: a) : fitB b c = true := by
  rw [fit_pre]
  exact (List.prefix_or_prefix_of_prefix h2 h1)

/-- The first two of a list that do not fit. -/
def IsFork (ls : List (List UInt8)) (a b : Int) : Prop :=
  (∃ i k : Nat, a = (i : Int) ∧ b = (k : Int) ∧ k < ls.length ∧ i < k ∧ fitB (ls.getD i []) (ls.getD k []) = false ∧ (∀ j, j < i → fitB (ls.getD j []) (ls.getD k []) = true) ∧ ∀ k', k' < k → ∀ j, j < k' → fitB (ls.getD j []) (ls.getD k' []) = true) ∨
  (a = -1 ∧ b = -1 ∧ ∀ k, k < ls.length → ∀ j, j < k → fitB (ls.getD j []) (ls.getD k []) = true)
theorem IsFork.found {ls : List (List UInt8)} {a b : Int} (h : IsFork ls a b) {i k : Nat} (hk : k < ls.length) (hi : i < k) (hn : fitB (ls.getD i []) (ls.getD k []) = false) (h1 : ∀ j, j < i → fitB (ls.getD j []) (ls.getD k []) = true)
    (h2 : ∀ k', k' < k → ∀ j, j < k' → fitB (ls.getD j []) (ls.getD k' []) = true) : a = (i : Int) ∧ b = (k : Int) := by
  rcases h with ⟨i', k', rfl, rfl, g1, g2, g3, g4, g5⟩ | ⟨_, _, g⟩
  · have e : k' = k := by
      rcases Nat.lt_trichotomy k' k with e | e | e
      · rw [h2 k' e i' g2] at g3; cases g3
      · exact e
      · rw [g5 k e i hi] at hn; cases hn
    subst e
    have e : i' = i := by
      rcases Nat.lt_trichotomy i' i with e | e | e
      · rw [h1 i' e] at g3; cases g3
      · exact e
      · rw [g4 i e] at hn; cases hn
    exact ⟨by rw [e], rfl⟩
  · rw [g k hk i hi] at hn; cases hn
theorem IsFork.not {ls : List (List UInt8)} {a b : Int} (h : IsFork ls a b) (h2 : ∀ k', k' < ls.length → ∀ j, j < k' → fitB (ls.getD j []) (ls.getD k' []) = true) : a = -1 ∧ b = -1 := by
  rcases h with ⟨i', k', rfl, rfl, g1, g2, g3, g4, g5⟩ | ⟨h1, h2', _⟩
  · rw [h2 k' g1 i' g2] at g3; cases g3
  · exact ⟨h1, h2'⟩

/-- Behind the first k: the longest one goes on all, and they all fit. -/
structure FInv (ls : List (List UInt8)) (k : Nat) (L : List UInt8) : Prop where
  of : L = [] ∨ ∃ i, i < k ∧ ls.getD i [] = L
  on : ∀ j, j < k → ls.getD j [] <+: L
  fit : ∀ k', k' < k → ∀ j, j < k' → fitB (ls.getD j []) (ls.getD k' []) = true
theorem FInv.zero (ls : List (List UInt8)) : FInv ls 0 [] := ⟨.inl rfl, fun j hj => absurd hj (Nat.not_lt_zero j), fun j hj => absurd hj (Nat.not_lt_zero j)⟩
theorem FInv.all {ls : List (List UInt8)} {k : Nat} {L : List UInt8} (h : FInv ls k L) (hf : fitB L (ls.getD k []) = true) : ∀ k', k' < k + 1 → ∀ j, j < k' → fitB (ls.getD j []) (ls.getD k' []) = true := by
  intro k' hk' j hj
  by_cases e : k' = k
  · subst e
    have h1 := h.on j hj
    rcases (fit_pre _ _).1 hf with h2 | h2
    · exact fit_both h1 h2
    · exact (fit_pre _ _).2 (.inr (h1.trans h2))
  · exact h.fit k' (by omega) j hj
theorem FInv.long {ls : List (List UInt8)} {k : Nat} {L : List UInt8} (h : FInv ls k L) (hf : fitB L (ls.getD k []) = true) (hl : L.length < (ls.getD k []).length) : FInv ls (k + 1) (ls.getD k []) := by
  have h2 : L <+: ls.getD k [] := by
    rcases (fit_pre _ _).1 hf with h2 | h2
    · have := h2.length_le; omega
    · exact h2
  refine ⟨.inr ⟨k, by omega, rfl⟩, fun j hj => ?_, h.all hf⟩
  by_cases e : j = k
  · subst e; exact List.prefix_refl _
  · exact (h.on j (by omega)).trans h2
theorem FInv.same {ls : List (List UInt8)} {k : Nat} {L : List UInt8} (h : FInv ls k L) (hf : fitB L (ls.getD k []) = true) (hl : ¬ L.length < (ls.getD k []).length) : FInv ls (k + 1) L := by
  have h2 : ls.getD k [] <+: L := by
    rcases (fit_pre _ _).1 hf with h2 | h2
    · exact h2
    · have e : L = ls.getD k [] := h2.eq_of_length (by have := h2.length_le; omega)
      rw [← e]
      exact List.prefix_refl _
  refine ⟨?_, fun j hj => ?_, h.all hf⟩
  · rcases h.of with e | ⟨i, hi, e⟩
    · exact .inl e
    · exact .inr ⟨i, by omega, e⟩
  · by_cases e : j = k
    · subst e; exact h2
    · exact h.on j (by omega)
theorem least_bad (p : Nat → Bool) : ∀ n i, i < n → p i = false → ∃ m, m ≤ i ∧ p m = false ∧ ∀ j, j < m → p j = true := by
  intro n
  induction n with
  | zero => intro i hi; omega
  | succ n ih =>
    intro i hi hp
    by_cases hq : ∃ j, j < i ∧ p j = false
    · obtain ⟨j, hj, hpj⟩ := hq
      obtain ⟨m, h1, h2, h3⟩ := ih j (by omega) hpj
      exact ⟨m, by omega, h2, h3⟩
    · refine ⟨i, Nat.le_refl _, hp, fun j hj => ?_⟩
      cases hpj : p j with
      | true => rfl
      | false => exact absurd ⟨j, hj, hpj⟩ hq
theorem FInv.bad {ls : List (List UInt8)} {k : Nat} {L : List UInt8} (h : FInv ls k L) (hk : k < ls.length) (hf : fitB L (ls.getD k []) = false) :
    ∃ i : Nat, i < ls.length ∧ fitB (ls.getD i []) (ls.getD k []) = false ∧ (∀ j, j < i → fitB (ls.getD j []) (ls.getD k []) = true) ∧ IsFork ls (i : Int) (k : Int) := by
  rcases h.of with rfl | ⟨i0, hi0, e⟩
  · rw [fit_nil] at hf; cases hf
  · rw [← e] at hf
    obtain ⟨m, h1, h2, h3⟩ := least_bad (fun j => fitB (ls.getD j []) (ls.getD k [])) (i0 + 1) i0 (by omega) hf
    exact ⟨m, by omega, h2, h3, .inl ⟨m, k, rfl, rfl, hk, by omega, h2, h3, h.fit⟩⟩
theorem FInv.done {ls : List (List UInt8)} {L : List UInt8} (h : FInv ls ls.length L) : IsFork ls (-1) (-1) := .inr ⟨rfl, rfl, h.fit⟩
end Go.Proofs.Ytfigbgpfkhcpcaa.Hist
