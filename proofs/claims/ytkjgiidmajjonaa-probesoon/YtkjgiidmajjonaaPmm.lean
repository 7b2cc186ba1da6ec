/-
  The reference's prober in memory, and its small calls.
-/
import Derived.Test.YtkjgiidmajjonaaPst
import Derived.Test.YtkjgiidmajjonaaPrg
import Derived.Lib.QuietBelow
import Derived.BigQuiet
namespace Go.Proofs.Ytkjgiidmajjonaa.Kn
open Go Go.RowKit
set_option maxRecDepth 100000

/-- The reference's prober p lies in the block q, its numbers in the block g. -/
structure XAt (w : World) (q g cap : Nat) (S : List Value) (n me : Nat) (p : Pb) : Prop where
  obj : w.heap[q]? = some (.cells #[nu n, nu me, nu p.now, nu p.next, .slice (some ⟨g, 0, none⟩) n cap] 36)
  row : w.heap[g]? = some (.cells (ic p.due ++ S).toArray 3)
  len : p.due.length = n
  ne : g ≠ q
section
variable {w w' : World} {q g cap n me : Nat} {S : List Value} {p : Pb}
theorem XAt.kept (h : XAt w q g cap S n me p) (hb : Below w.heap.size w w') : XAt w' q g cap S n me p := ⟨row_kept h.obj hb, row_kept h.row hb, h.len, h.ne⟩
theorem XAt.c0 (h : XAt w q g cap S n me p) : w.cell? ⟨q, 0, none⟩ = some (nu n) := by rw [cell_of_row _ _ _ _ _ _ h.obj]; rfl
theorem XAt.c1 (h : XAt w q g cap S n me p) : w.cell? ⟨q, 1, none⟩ = some (nu me) := by rw [cell_of_row _ _ _ _ _ _ h.obj]; rfl
theorem XAt.c2 (h : XAt w q g cap S n me p) : w.cell? ⟨q, 2, none⟩ = some (nu p.now) := by rw [cell_of_row _ _ _ _ _ _ h.obj]; rfl
theorem XAt.c3 (h : XAt w q g cap S n me p) : w.cell? ⟨q, 3, none⟩ = some (nu p.next) := by rw [cell_of_row _ _ _ _ _ _ h.obj]; rfl
theorem XAt.c4 (h : XAt w q g cap S n me p) : w.cell? ⟨q, 4, none⟩ = some (.slice (some ⟨g, 0, none⟩) n cap) := by rw [cell_of_row _ _ _ _ _ _ h.obj]; rfl
theorem XAt.du (h : XAt w q g cap S n me p) (k : Nat) (hk : k < n) : w.cell? ⟨g, 0 + k, none⟩ = some (nu (duI p.due (k : Int))) := by
  refine row_seg (A := []) (C := S) h.row rfl rfl k _ ?_
  have : k < p.due.length := by rw [h.len]; exact hk
  simp [ic, duI, List.getD, this]
/-- The row of numbers, one of them set apart; and with another in its place. -/
theorem due_split (d : List Int) (S : List Value) (c : Nat) (hc : c < d.length) (v : Int) : ic d ++ S = ic (d.take c) ++ ([nu (duI d (c : Int))] ++ (ic (d.drop (c + 1)) ++ S)) ∧ ic (d.set c v) ++ S = ic (d.take c) ++ ([nu v] ++ (ic (d.drop (c + 1)) ++ S)) ∧ (ic (d.take c)).length = c := by
  refine ⟨?_, ?_, by simp [ic]; omega⟩
  · have e := (List.take_append_drop c d).symm
    rw [List.drop_eq_getElem_cons hc] at e
    have e2 : duI d (c : Int) = d[c] := by simp [duI, List.getD, hc]
    have e3 := congrArg ic e
    rw [e2, e3]
    unfold ic
    rw [List.map_append, List.map_cons, List.append_assoc]
    rfl
  · rw [List.set_eq_take_append_cons_drop, if_pos hc]
    simp [ic]
theorem rother_any (h : XAt w q g cap S n me p) (c : Int) : Calls Try.prog 13 #[pt q 0, nu c] w fun e w' => e = .returned (.bool (othB n me c)) ∧ w' = w := by
  have c0 := h.c0
  have c1 := h.c1
  clear h
  by_cases h0 : 0 ≤ c
  · have d0 : decide (0 ≤ c) = true := decide_eq_true h0
    by_cases h1 : c < n
    · have d1 : decide (c < (n : Int)) = true := decide_eq_true h1
      have he : othB n me c = !(c == (me : Int)) := by unfold othB; rw [d0, d1]; rfl
      rw [he]
      have hne : (c != (me : Int)) = !(c == (me : Int)) := rfl
      generalize (c == (me : Int)) = B at *
      clear h0 h1 he
      go_enter Try.func13, Try.ntmps13
      go_wp2
      go_ret
      exact ⟨rfl, rfl⟩
    · have d1 : decide (c < (n : Int)) = false := decide_eq_false h1
      have he : othB n me c = false := by unfold othB; rw [d1]; simp
      rw [he]
      clear h0 h1 he
      go_enter Try.func13, Try.ntmps13
      go_wp2
      go_ret
      exact ⟨rfl, rfl⟩
  · have d0 : decide (0 ≤ c) = false := decide_eq_false h0
    have he : othB n me c = false := by unfold othB; rw [d0]; simp
    rw [he]
    clear h0 he
    go_enter Try.func13, Try.ntmps13
    go_wp2
    go_ret
    exact ⟨rfl, rfl⟩
end
end Go.Proofs.Ytkjgiidmajjonaa.Kn
