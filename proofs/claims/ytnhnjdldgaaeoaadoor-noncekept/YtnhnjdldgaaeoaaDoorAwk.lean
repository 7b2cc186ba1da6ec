/-
  What comes at any rate; a save on a disk that nobody armed.
-/
import Derived.Test.YtnhnjdldgaaeoaaDoorKop
namespace Go.Proofs.YtnhnjdldgaaeoaaDoor
open Go Go.RowKit
set_option maxRecDepth 100000

theorem slotS_len (D : Dk) (first size n : Nat) (t : List UInt8) : (slotS D first size n t).length = D.S.length := by
  unfold slotS putS fieldS
  rw [List.length_set, List.length_map, putsS_len]
/-- A save on a disk that is up and not armed. -/
theorem save_calm {D : Dk} {first size n : Nat} {t0 t : List UInt8} (h : CInv D first size n t0) (hd : D.down = false) (ha : D.armed = 0) (ht : t.length ≤ 64 * size) (hn : n + 1 ≤ 1099511627776) :
    ∃ D', saveP D first size t = (0, D') ∧ CInv D' first size (n + 1) t ∧ D'.down = false ∧ D'.armed = 0 ∧ D'.S.length = D.S.length := by
  rcases save_cases h hd ht hn with ⟨a, e, e2⟩ | ⟨D', -, -, e, -⟩
  · exact ⟨_, e, h.saved ht hn a false, rfl, e2 ha, by show ((slotS D first size n t).map setS).length = _; rw [List.length_map, slotS_len]⟩
  · exact absurd ha e
theorem save_big {D : Dk} {first size : Nat} {t : List UInt8} (h : 64 * size < t.length) : saveP D first size t = (4, D) := by
  unfold saveP
  rw [if_pos h]
theorem newD_up (n : Nat) : (newD n).down = false ∧ (newD n).armed = 0 ∧ (newD n).S.length = n := by simp [newD]

end Go.Proofs.YtnhnjdldgaaeoaaDoor
