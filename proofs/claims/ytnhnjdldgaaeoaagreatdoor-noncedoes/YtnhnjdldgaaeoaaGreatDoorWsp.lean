/-
  What becomes of a sector in a crash, place by place. No program plays a part.
-/
import Derived.Test.YtnhnjdldgaaeoaaGreatDoorDsy
namespace Go.Proofs.YtnhnjdldgaaeoaaGreatDoor
open Go Go.RowKit
set_option maxRecDepth 100000

theorem tear_get (S : List Sec) (ks : List Int) (j : Nat) (hj : j < S.length) :
    (S[j].old = none ∧ (tearAll S ks)[j]'(by rw [tearAll_len]; exact hj) = S[j]) ∨ (∃ o kk, S[j].old = some o ∧ kk ≤ 64 ∧ (tearAll S ks)[j]'(by rw [tearAll_len]; exact hj) = tornS S[j] kk) := by
  induction S generalizing ks j with
  | nil => simp at hj
  | cons s S ih =>
    cases hs : s.old with
    | none =>
      cases j with
      | zero => left; simp [tearAll, hs]
      | succ j =>
        have h := ih ks j (by simpa using hj)
        simp only [tearAll, hs, List.getElem_cons_succ]
        exact h
    | some o =>
      cases j with
      | zero => right; exact ⟨o, nextK ks, by simp [hs], nextK_le ks, by simp [tearAll, hs]⟩
      | succ j =>
        have h := ih ks.tail j (by simpa using hj)
        simp only [tearAll, hs, List.getElem_cons_succ]
        exact h
theorem tear_twice (S : List Sec) (ks ms : List Int) : tearAll (tearAll S ks) ms = tearAll S ks := tearAll_none (loIdx_torn 0 S ks) ms
theorem safe_end (s nw o : List UInt8) (kk k : Nat) (hs : s = nw.take kk ++ o.drop kk) (hn : nw.length = 64) (hkk : kk ≤ 64) (hex : k = 64 ∨ s.getD k 0 ≠ nw.getD k 0) : s.drop k = o.drop k := by
  have hge : kk ≤ k ∨ k = 64 := by
    rcases hex with e | e
    · exact .inr e
    · by_cases h : k < kk
      · exfalso
        apply e
        subst hs
        simp only [List.getD]
        rw [List.getElem?_append_left (by simp; omega), List.getElem?_take, if_pos h]
      · exact .inl (by omega)
  have hle : kk ≤ k := by omega
  subst hs
  rw [List.drop_append, List.drop_eq_nil_of_le (by simp; omega), List.nil_append, List.drop_drop]
  congr 1
  simp; omega
end Go.Proofs.YtnhnjdldgaaeoaaGreatDoor
