/-
  Rows of bytes and veils as plain functions: of a key and a number, and of a text.
-/
import Derived.Test.YtfkfjopjnfeahaaDoorMgen
namespace Go.Proofs.YtfkfjopjnfeahaaDoor
open Go Go.RowKit
set_option maxRecDepth 100000

section
variable (blk : Nat → List UInt8)
def rowsTo : Nat → List UInt8
  | 0 => []
  | i + 1 => rowsTo i ++ blk i
theorem rowsTo_len (hb : ∀ i, (blk i).length = 32) (i : Nat) : (rowsTo blk i).length = 32 * i := by
  induction i with
  | zero => rfl
  | succ i ih => rw [rowsTo, List.length_append, ih, hb]; omega
theorem rowsTo_pre (i d : Nat) : ∃ r, rowsTo blk (i + d) = rowsTo blk i ++ r := by
  induction d with
  | zero => exact ⟨[], by simp⟩
  | succ d ih => obtain ⟨r, hr⟩ := ih; exact ⟨r ++ blk (i + d), by rw [← Nat.add_assoc, rowsTo, hr, List.append_assoc]⟩
def rowOf (m : Nat) : List UInt8 := (rowsTo blk ((m + 31) / 32)).take m
theorem rowOf_len (hb : ∀ i, (blk i).length = 32) (m : Nat) : (rowOf blk m).length = m := by
  rw [rowOf, List.length_take, rowsTo_len blk hb]; omega
theorem rowOf_at (hb : ∀ i, (blk i).length = 32) (i m : Nat) (h : m ≤ 32 * i) : (rowsTo blk i).take m = rowOf blk m := by
  obtain ⟨d, rfl⟩ : ∃ d, i = (m + 31) / 32 + d := ⟨i - (m + 31) / 32, by omega⟩
  obtain ⟨r, hr⟩ := rowsTo_pre blk ((m + 31) / 32) d
  rw [hr, rowOf, List.take_append_of_le_length (by rw [rowsTo_len blk hb]; omega)]
theorem rowOf_pre (hb : ∀ i, (blk i).length = 32) (a b : Nat) (h : a ≤ b) : (rowOf blk b).take a = rowOf blk a := by
  rw [rowOf, List.take_take, Nat.min_eq_left h]
  exact rowOf_at blk hb _ _ (by omega)
theorem rowOf_step (hb : ∀ i, (blk i).length = 32) (j n k : Nat) (hj : 32 * j < n) (hk : k = 32 ∨ 32 * j + k = n) (hk2 : k ≤ 32) (hkn : 32 * j + k ≤ n) : rowsTo blk j ++ (blk j).take k = (rowsTo blk (j + 1)).take n := by
  have e : (rowsTo blk j).take n = rowsTo blk j := List.take_of_length_le (by rw [rowsTo_len blk hb]; omega)
  rw [rowsTo, List.take_append, rowsTo_len blk hb, e]
  congr 1
  rcases hk with rfl | h
  · have e1 : (blk j).take 32 = blk j := List.take_of_length_le (by rw [hb]; omega)
    have e2 : (blk j).take (n - 32 * j) = blk j := List.take_of_length_le (by rw [hb]; omega)
    rw [e1, e2]
  · rw [show n - 32 * j = k by omega]
def veilOf (t : List UInt8) : List UInt8 := List.zipWith (· ^^^ ·) t (rowOf blk t.length)
theorem veilOf_len (hb : ∀ i, (blk i).length = 32) (t : List UInt8) : (veilOf blk t).length = t.length := by
  rw [veilOf, List.length_zipWith, rowOf_len blk hb]; omega
theorem zip_twice : ∀ (t r : List UInt8), t.length = r.length → List.zipWith (· ^^^ ·) (List.zipWith (· ^^^ ·) t r) r = t
  | [], [], _ => rfl
  | a :: t, b :: r, h => by
    rw [List.zipWith_cons_cons, List.zipWith_cons_cons, zip_twice t r (by simpa using h), UInt8.xor_assoc, UInt8.xor_self, UInt8.xor_zero]
  | [], _ :: _, h => by simp at h
  | _ :: _, [], h => by simp at h
theorem veilOf_twice (hb : ∀ i, (blk i).length = 32) (t : List UInt8) : veilOf blk (veilOf blk t) = t := by
  conv => lhs; rw [veilOf, veilOf_len blk hb, veilOf]
  exact zip_twice t _ (by rw [rowOf_len blk hb])
theorem veilOf_at (hb : ∀ i, (blk i).length = 32) (t : List UInt8) (i : Nat) (h : i < t.length) : (veilOf blk t).getD i 0 = t.getD i 0 ^^^ (rowOf blk t.length).getD i 0 := by
  have h2 := rowOf_len blk hb t.length
  unfold veilOf
  simp only [List.getD_eq_getElem?_getD, List.getElem?_zipWith]
  rw [List.getElem?_eq_getElem h, List.getElem?_eq_getElem (by omega)]
  rfl
theorem rowOf_get (hb : ∀ i, (blk i).length = 32) (i a b : Nat) (ha : i < a) (hab : a ≤ b) : (rowOf blk b).getD i 0 = (rowOf blk a).getD i 0 := by
  rw [← rowOf_pre blk hb a b hab]
  simp only [List.getD_eq_getElem?_getD, List.getElem?_take, if_pos ha]
theorem rowOf_same (hb : ∀ i, (blk i).length = 32) (i a b : Nat) (ha : i < a) (hb' : i < b) : (rowOf blk a).getD i 0 = (rowOf blk b).getD i 0 := by
  rcases Nat.le_total a b with h | h
  · exact (rowOf_get blk hb i a b ha h).symm
  · exact rowOf_get blk hb i b a hb' h
theorem zip_zeros : ∀ (r : List UInt8), List.zipWith (· ^^^ ·) (List.replicate r.length 0) r = r
  | [] => rfl
  | b :: r => by
    rw [List.length_cons, List.replicate_succ, List.zipWith_cons_cons, zip_zeros r, UInt8.zero_xor]
theorem veilOf_zeros (hb : ∀ i, (blk i).length = 32) (m : Nat) : veilOf blk (List.replicate m 0) = rowOf blk m := by
  have h := zip_zeros (rowOf blk m)
  rw [rowOf_len blk hb] at h
  rw [veilOf, List.length_replicate]
  exact h
theorem rowOf_zero : (rowOf blk 1).getD 0 0 = (blk 0).getD 0 0 := by
  have h : rowOf blk 1 = (blk 0).take 1 := by simp [rowOf, rowsTo]
  rw [h]
  simp only [List.getD_eq_getElem?_getD, List.getElem?_take]
  rfl
theorem veil_xor (hb : ∀ i, (blk i).length = 32) (x y : List UInt8) (i : Nat) (hx : i < x.length) (hy : i < y.length) : (veilOf blk x).getD i 0 ^^^ (veilOf blk y).getD i 0 = x.getD i 0 ^^^ y.getD i 0 := by
  rw [veilOf_at blk hb x i hx, veilOf_at blk hb y i hy, rowOf_same blk hb i x.length y.length hx hy]
  generalize (rowOf blk y.length).getD i 0 = r
  generalize x.getD i 0 = a
  generalize y.getD i 0 = b
  rw [UInt8.xor_assoc, UInt8.xor_comm r (b ^^^ r), UInt8.xor_assoc b, UInt8.xor_self, UInt8.xor_zero]
theorem veil_same (hb : ∀ i, (blk i).length = 32) (x y : List UInt8) (i : Nat) (hx : i < x.length) (hy : i < y.length) : decide ((veilOf blk x).getD i 0 = (veilOf blk y).getD i 0) = decide (x.getD i 0 = y.getD i 0) := by
  have h := veil_xor blk hb x y i hx hy
  have e : ∀ a b : UInt8, a = b ↔ a ^^^ b = 0 := fun a b => UInt8.xor_eq_zero_iff.symm
  rw [decide_eq_decide, e, h, ← e]
end

/-- A number, laid. -/
def numB (n : Int) : List UInt8 := Lib.itoa n ++ [59]
theorem numB_len (n : Int) (h0 : -9223372036854775808 ≤ n) (h1 : n ≤ 9223372036854775807) : (numB n).length ≤ 22 := by
  unfold numB; rw [List.length_append]; have := Lay.itoa_len n h0 h1; simp; omega
/-- A block of the row of a key and a number. -/
def blkB (k : List UInt8) (n : Int) (i : Nat) : List UInt8 := hmac k (numB n ++ numB (i : Int))
theorem blkB_len (k : List UInt8) (n : Int) (i : Nat) : (blkB k n i).length = 32 := hmac_len _ _
/-- The row's first bytes. -/
def rowB (k : List UInt8) (n : Int) (m : Nat) : List UInt8 := rowOf (blkB k n) m
theorem rowB_len (k : List UInt8) (n : Int) (m : Nat) : (rowB k n m).length = m := rowOf_len _ (blkB_len k n) m
/-- A veiled text. -/
def veilB (k : List UInt8) (n : Int) (t : List UInt8) : List UInt8 := veilOf (blkB k n) t
theorem veilB_len (k : List UInt8) (n : Int) (t : List UInt8) : (veilB k n t).length = t.length := veilOf_len _ (blkB_len k n) t
theorem veilB_twice (k : List UInt8) (n : Int) (t : List UInt8) : veilB k n (veilB k n t) = t := veilOf_twice _ (blkB_len k n) t
theorem veilB_row (k : List UInt8) (n : Int) (t : List UInt8) : veilB k n t = List.zipWith (· ^^^ ·) t (rowB k n t.length) := rfl
theorem veilB_zeros (k : List UInt8) (n : Int) (m : Nat) : veilB k n (List.replicate m 0) = rowB k n m := veilOf_zeros _ (blkB_len k n) m

/-- What is wrong with a number and a length. -/
def rErr (n m : Int) : Nat := if n < 0 ∨ 1099511627776 < n then 3 else if m < 0 then 2 else if 16384 < m then 4 else 0
def rOut (k : List UInt8) (n m : Int) : List UInt8 := if rErr n m = 0 then rowB k n m.toNat else []
def vOut (k : List UInt8) (n : Int) (t : List UInt8) : List UInt8 := if rErr n t.length = 0 then veilB k n t else []
theorem rErr_ok (n m : Int) : rErr n m = 0 ↔ 0 ≤ n ∧ n ≤ 1099511627776 ∧ 0 ≤ m ∧ m ≤ 16384 := by
  unfold rErr
  split
  · constructor <;> intro h <;> omega
  · split
    · constructor <;> intro h <;> omega
    · split
      · constructor <;> intro h <;> omega
      · constructor <;> intro h <;> omega

/-- The first i bytes of a text, each turned by the one of a row. -/
theorem zip_step (t r : List UInt8) (i : Nat) (ht : i < t.length) (hr : i < r.length) : (List.zipWith (· ^^^ ·) t r).take i ++ [t.getD i 0 ^^^ r.getD i 0] = (List.zipWith (· ^^^ ·) t r).take (i + 1) := by
  rw [List.take_add_one, List.getElem?_zipWith, List.getElem?_eq_getElem ht, List.getElem?_eq_getElem hr, List.getD_eq_getElem?_getD, List.getD_eq_getElem?_getD, List.getElem?_eq_getElem ht, List.getElem?_eq_getElem hr]
  rfl
/-- A row of zeros whose first i bytes are filled. -/
def fillTo (z : List UInt8) (i : Nat) : List UInt8 := z.take i ++ List.replicate (z.length - i) 0
theorem fillTo_len (z : List UInt8) (i : Nat) : (fillTo z i).length = z.length := by unfold fillTo; rw [List.length_append, List.length_take, List.length_replicate]; omega
theorem fillTo_zero (z : List UInt8) : fillTo z 0 = List.replicate z.length 0 := by simp [fillTo]
theorem fillTo_end (z : List UInt8) : fillTo z z.length = z := by simp [fillTo]
theorem fillTo_step (z : List UInt8) (i : Nat) (h : i < z.length) : (fillTo z i).set i (z.getD i 0) = fillTo z (i + 1) := by
  unfold fillTo
  have e : List.replicate (z.length - i) (0 : UInt8) = 0 :: List.replicate (z.length - (i + 1)) 0 := by
    rw [show z.length - i = (z.length - (i + 1)) + 1 by omega, List.replicate_succ]
  have hl : (z.take i).length = i := by rw [List.length_take]; omega
  rw [e]
  conv => lhs; arg 2; rw [← hl]
  rw [set_mid, List.take_add_one, List.getElem?_eq_getElem h, List.getD_eq_getElem?_getD, List.getElem?_eq_getElem h]
  simp only [Option.toList_some, List.append_assoc, List.cons_append, List.nil_append, Option.getD_some]
theorem zip_at (t r : List UInt8) (i : Nat) (ht : i < t.length) (hr : i < r.length) : (List.zipWith (· ^^^ ·) t r).getD i 0 = t.getD i 0 ^^^ r.getD i 0 := by
  rw [List.getD_eq_getElem?_getD, List.getElem?_zipWith, List.getElem?_eq_getElem ht, List.getElem?_eq_getElem hr, List.getD_eq_getElem?_getD, List.getD_eq_getElem?_getD, List.getElem?_eq_getElem ht, List.getElem?_eq_getElem hr]
  rfl

end Go.Proofs.YtfkfjopjnfeahaaDoor
