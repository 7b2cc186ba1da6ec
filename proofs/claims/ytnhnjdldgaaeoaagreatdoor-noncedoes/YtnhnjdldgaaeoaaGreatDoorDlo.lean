/-
  What Loose tells.
-/
import Derived.Test.YtnhnjdldgaaeoaaGreatDoorDsy
namespace Go.Proofs.YtnhnjdldgaaeoaaGreatDoor
open Go Go.RowKit
set_option maxRecDepth 100000

section
variable {w w' : World} {d g : Nat} {D : Dk}

def looseN (S : List Sec) : List Nat := loIdx 0 S
theorem loose_step (S : List Sec) (k : Nat) (hk : k < S.length) : loIdx 0 (S.take (k + 1)) = loIdx 0 (S.take k) ++ (match S[k].old with | none => [] | some _ => [k]) := by
  rw [List.take_succ_eq_append_getElem hk, loIdx_snoc]
  simp only [List.length_take, Nat.zero_add, Nat.min_eq_left (Nat.le_of_lt hk)]
  cases S[k].old <;> rfl
theorem loose_take_len (S : List Sec) (k : Nat) : (loIdx 0 (S.take k)).length ≤ k := Nat.le_trans (loIdx_len 0 _) (by simp; omega)

end
end Go.Proofs.YtnhnjdldgaaeoaaGreatDoor
