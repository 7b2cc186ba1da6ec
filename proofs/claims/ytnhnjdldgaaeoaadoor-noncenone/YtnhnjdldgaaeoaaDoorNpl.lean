/-
  Numbers taken once, as plain functions over a disk as plain data. No program plays a part.
-/
import Derived.Test.YtnhnjdldgaaeoaaDoorNrd
import Derived.Test.YtnhnjdldgaaeoaaDoorCcr
namespace Go.Proofs.YtnhnjdldgaaeoaaDoor
open Go
set_option maxRecDepth 100000

/-- A number's bytes. -/
def numW (n : Nat) : List UInt8 := Lib.itoa (n : Int) ++ [59]
/-- Up to which numbers are reserved, if n more are wanted. -/
def limN (next n limit : Nat) : Nat := if next + n ≤ limit then limit else limit + 16 * ((next + n - limit + 15) / 16)
theorem limN_ge (next n limit : Nat) : next + n ≤ limN next n limit ∧ limit ≤ limN next n limit := by
  unfold limN
  split <;> omega
theorem limN_lt (next n limit : Nat) (h : next ≤ limit) : limN next n limit < limit + n + 16 := by
  unfold limN
  split <;> omega
theorem limN_mod (next n limit : Nat) (h : limit % 16 = 0) : limN next n limit % 16 = 0 := by
  unfold limN
  split <;> omega
/-- Sixteen by sixteen. -/
theorem limN_step (next n limit : Nat) (h : limit < next + n) : limN next n limit = limN next n (limit + 16) := by
  unfold limN
  rw [if_neg (by omega)]
  by_cases h2 : next + n ≤ limit + 16
  · rw [if_pos h2]; omega
  · rw [if_neg h2]; omega

/-- An allocator: the next number, and up to which they are reserved. -/
structure Al where
  next : Nat
  lim : Nat
/-- What Open answers: the error; the number that is kept. -/
def keptE (x : List UInt8 × Nat × Int) : Int :=
  if x.2.2 = 9 then 0 else if x.2.2 ≠ 0 then x.2.2 else
  if (readNum x.1).1 = 0 ∧ (readNum x.1).2.2 = x.1.length ∧ 0 ≤ (readNum x.1).2.1 ∧ (readNum x.1).2.1 ≤ 1099511627776 then 0 else 6
def keptN (x : List UInt8 × Nat × Int) : Nat := if x.2.2 = 9 then 0 else (readNum x.1).2.1.toNat
/-- What Some does: the error, the disk, the allocator. -/
def someP (D : Dk) (first size : Nat) (a : Al) (n : Int) : Int × Dk × Al :=
  if n < 1 ∨ 256 < n then (2, D, a) else
  if 1099511627761 < a.next + n.toNat then (3, D, a) else
  if a.next + n.toNat ≤ a.lim then (0, D, ⟨a.next + n.toNat, a.lim⟩) else
  if (saveP D first size (numW (limN a.next n.toNat a.lim))).1 = 0 then (0, (saveP D first size (numW (limN a.next n.toNat a.lim))).2, ⟨a.next + n.toNat, limN a.next n.toNat a.lim⟩)
  else ((saveP D first size (numW (limN a.next n.toNat a.lim))).1, (saveP D first size (numW (limN a.next n.toNat a.lim))).2, a)

theorem numW_read (n : Nat) (h : n ≤ 9223372036854775807) : readNum (numW n) = (0, (n : Int), (numW n).length) := by
  have h9 := readNum_back (n : Int) (by omega) (by omega) []
  simpa [numW] using h9
end Go.Proofs.YtnhnjdldgaaeoaaDoor
