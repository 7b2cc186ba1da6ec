/-
  Bytes as the model's numbers and cells. No program plays a part.
-/
import Derived.WalkKit
namespace Go.Proofs.YtidlgecognedlaaGreatDoor
open Go
set_option maxRecDepth 100000

/-- A byte as the model's number. -/
def bv (c : UInt8) : Int := (c.toNat : Int)
def cb (c : UInt8) : Value := .int .u8 (bv c)
theorem bv_range (c : UInt8) : 0 ≤ bv c ∧ bv c < 256 := by
  have := c.toNat_lt
  unfold bv
  omega
theorem cb_at (b : List UInt8) (i : Nat) (hi : i < b.length) : (b.map cb)[i]? = some (.int .u8 (bv (b.getD i 0))) := by
  simp [List.getD, cb, List.getElem?_eq_getElem hi]
theorem one_cb (l : List UInt8) : ∀ v ∈ l.map cb, v.oneCell' = true := by
  intro v hv; simp only [List.mem_map] at hv; obtain ⟨x, -, rfl⟩ := hv; rfl
end Go.Proofs.YtidlgecognedlaaGreatDoor
