/-
  Numbers as eight bytes, and a cell's slots. No program plays a part.
-/
import Derived.Test.YtnhnjdldgaaeoaaGreatDoorSpl
namespace Go.Proofs.YtnhnjdldgaaeoaaGreatDoor
open Go
set_option maxRecDepth 100000

/-- The lowest k bytes of a number, the highest first. -/
def eightR : Nat → Nat → List UInt8
  | 0, _ => []
  | k + 1, n => eightR k (n / 256) ++ [UInt8.ofNat n]
def eightB (n : Nat) : List UInt8 := eightR 8 n
def valB (b : List UInt8) : Nat := b.foldl (fun n c => n * 256 + c.toNat) 0
theorem eightR_len (k n : Nat) : (eightR k n).length = k := by
  induction k generalizing n with
  | zero => rfl
  | succ k ih => simp [eightR, ih]
theorem eightB_len (n : Nat) : (eightB n).length = 8 := eightR_len 8 n
theorem valB_snoc (l : List UInt8) (c : UInt8) : valB (l ++ [c]) = valB l * 256 + c.toNat := by simp [valB, List.foldl_append]
theorem valB_eight (k n : Nat) : valB (eightR k n) = n % 256 ^ k := by
  induction k generalizing n with
  | zero => simp [eightR, valB, Nat.mod_one]
  | succ k ih =>
    have hb : (UInt8.ofNat n).toNat = n % 256 := by simp
    rw [eightR, valB_snoc, ih, hb, Nat.pow_succ', Nat.mod_mul]
    omega
theorem valB_lt (b : List UInt8) : valB b < 256 ^ b.length := by
  generalize hn : b.length = n
  induction n generalizing b with
  | zero => rw [List.eq_nil_of_length_eq_zero hn]; simp [valB]
  | succ n ih =>
    obtain ⟨l, c, rfl⟩ : ∃ l c, b = l ++ [c] := by
      have hne : b ≠ [] := by intro e; rw [e] at hn; simp at hn
      exact ⟨b.dropLast, b.getLast hne, (List.dropLast_concat_getLast hne).symm⟩
    have h := ih l (by simpa using hn)
    have hc := c.toNat_lt
    rw [valB_snoc, Nat.pow_succ]
    omega
theorem eight_val (b : List UInt8) : eightR b.length (valB b) = b := by
  generalize hn : b.length = n
  induction n generalizing b with
  | zero => rw [List.eq_nil_of_length_eq_zero hn]; rfl
  | succ n ih =>
    obtain ⟨l, c, rfl⟩ : ∃ l c, b = l ++ [c] := by
      have hne : b ≠ [] := by intro e; rw [e] at hn; simp at hn
      exact ⟨b.dropLast, b.getLast hne, (List.dropLast_concat_getLast hne).symm⟩
    have h := ih l (by simpa using hn)
    have hc := c.toNat_lt
    rw [valB_snoc, eightR, show (valB l * 256 + c.toNat) / 256 = valB l by omega, h]
    congr 2
    apply UInt8.toNat_inj.1
    rw [UInt8.toNat_ofNat']
    omega
/-- What eight bytes say: below 0: too great a number. -/
def numI (b : List UInt8) : Int := if 127 < (b.getD 0 0).toNat then -1 else (valB b : Int)
theorem eight_first (n : Nat) (h : n < 9223372036854775808) : ((eightB n).getD 0 0).toNat < 128 := by
  have e : (eightB n).getD 0 0 = UInt8.ofNat (n / 256 / 256 / 256 / 256 / 256 / 256 / 256) := rfl
  rw [e, UInt8.toNat_ofNat']
  omega
theorem num_eight (n : Nat) (h : n < 9223372036854775808) : numI (eightB n) = (n : Int) := by
  have h1 := eight_first n h
  unfold numI
  rw [if_neg (by omega), eightB, valB_eight]
  rw [Nat.mod_eq_of_lt (by omega)]
def slotB (n len : Nat) : List UInt8 := eightB n ++ (eightB len ++ (List.replicate 40 0 ++ eightB n))
theorem slotB_len (n len : Nat) : (slotB n len).length = 64 := by simp [slotB, eightB_len]
theorem slot_first (n len : Nat) : (slotB n len).take 8 = eightB n := by
  unfold slotB
  rw [List.take_append_of_le_length (by rw [eightB_len]; omega), List.take_of_length_le (by rw [eightB_len]; omega)]
theorem slot_long (n len : Nat) : ((slotB n len).drop 8).take 8 = eightB len := by
  unfold slotB
  rw [List.drop_append_of_le_length (by rw [eightB_len]; omega), List.drop_eq_nil_of_le (by rw [eightB_len]; omega), List.nil_append]
  rw [List.take_append_of_le_length (by rw [eightB_len]; omega), List.take_of_length_le (by rw [eightB_len]; omega)]
theorem slot_last (n len : Nat) : (slotB n len).drop 56 = eightB n := by
  have e : slotB n len = (eightB n ++ (eightB len ++ List.replicate 40 0)) ++ eightB n := by simp [slotB]
  have hl : (eightB n ++ (eightB len ++ List.replicate 40 (0 : UInt8))).length = 56 := by simp [eightB_len]
  rw [e, List.drop_append_of_le_length (by omega), List.drop_eq_nil_of_le (by omega), List.nil_append]
/-- What a slot says: how often, how long; 0: nothing. -/
def sayN (size : Nat) (b : List UInt8) : Nat × Nat :=
  if b.take 8 = b.drop 56 ∧ 1 ≤ numI (b.take 8) ∧ numI (b.take 8) ≤ 1099511627776 ∧ 0 ≤ numI ((b.drop 8).take 8) ∧ numI ((b.drop 8).take 8) ≤ 64 * (size : Int) then ((numI (b.take 8)).toNat, (numI ((b.drop 8).take 8)).toNat) else (0, 0)
theorem say_slot (size n len : Nat) (h1 : 1 ≤ n) (h2 : n ≤ 1099511627776) (h3 : len ≤ 64 * size) (h4 : size ≤ 255) : sayN size (slotB n len) = (n, len) := by
  unfold sayN
  rw [slot_first, slot_last, slot_long, num_eight n (by omega), num_eight len (by omega), if_pos ⟨rfl, by omega, by omega, by omega, by omega⟩]
  rfl
theorem say_none {size : Nat} {b : List UInt8} (h : b.take 8 ≠ b.drop 56) : sayN size b = (0, 0) := by
  unfold sayN
  rw [if_neg (fun e => h e.1)]
theorem say_zero (size : Nat) : sayN size zer = (0, 0) := by
  unfold sayN
  rw [if_neg]
  intro e
  have h : numI (zer.take 8) = 0 := by rfl
  rw [h] at e
  omega
theorem slot_byte (n len : Nat) : (slotB n len)[63]? = some (UInt8.ofNat n) := by
  have h : ((slotB n len).drop 56)[7]? = some (UInt8.ofNat n) := by rw [slot_last]; rfl
  rw [List.getElem?_drop] at h
  exact h
theorem slot_byte7 (n len : Nat) : (slotB n len)[7]? = some (UInt8.ofNat n) := by
  have h : ((slotB n len).take 8)[7]? = some (UInt8.ofNat n) := by rw [slot_first]; rfl
  rw [List.getElem?_take, if_pos (by omega)] at h
  exact h
theorem ofNat_ne {a b : Nat} (h : a % 256 ≠ b % 256) : UInt8.ofNat a ≠ UInt8.ofNat b := by
  intro e
  have := congrArg UInt8.toNat e
  rw [UInt8.toNat_ofNat', UInt8.toNat_ofNat'] at this
  exact h this
/-- A slot that is torn: it is the new one, or the old one, or says nothing. -/
theorem torn_slot (size n len k : Nat) (o : List UInt8) (hk : k ≤ 64) (ho : (o = zer ∧ n % 256 ≠ 0) ∨ ∃ m ml, o = slotB m ml ∧ m % 256 ≠ n % 256) :
    (slotB n len).take k ++ o.drop k = slotB n len ∨ (slotB n len).take k ++ o.drop k = o ∨ (sayN size ((slotB n len).take k ++ o.drop k)).1 = 0 := by
  have hol : o.length = 64 := by
    rcases ho with ⟨rfl, -⟩ | ⟨m, ml, rfl, -⟩
    · exact zer_len
    · exact slotB_len m ml
  have hsl := slotB_len n len
  by_cases h64 : k = 64
  · left
    subst h64
    rw [List.take_of_length_le (by omega), List.drop_eq_nil_of_le (by omega), List.append_nil]
  have hlast : ((slotB n len).take k ++ o.drop k)[63]? = o[63]? := by
    rw [List.getElem?_append_right (by simp [hsl]; omega), List.getElem?_drop]
    congr 1
    simp [hsl]; omega
  by_cases h8 : 8 ≤ k
  · right; right
    rw [say_none]
    intro e
    have e1 : (((slotB n len).take k ++ o.drop k).take 8)[7]? = (((slotB n len).take k ++ o.drop k).drop 56)[7]? := by rw [e]
    rw [List.getElem?_take, if_pos (by omega), List.getElem?_drop, hlast, List.getElem?_append_left (by simp [hsl]; omega), List.getElem?_take, if_pos (by omega), slot_byte7] at e1
    rcases ho with ⟨rfl, hn⟩ | ⟨m, ml, rfl, hm⟩
    · have hz : zer[63]? = some (UInt8.ofNat 0) := rfl
      rw [hz] at e1
      exact ofNat_ne (by simpa using hn) (Option.some.inj e1)
    · rw [slot_byte] at e1
      exact ofNat_ne (Ne.symm hm) (Option.some.inj e1)
  · have hd8 : ((slotB n len).take k ++ o.drop k).drop 8 = o.drop 8 := by
      rw [List.drop_append, List.drop_eq_nil_of_le (by simp; omega), List.nil_append, List.drop_drop]
      congr 1
      simp [hsl]; omega
    by_cases he : ((slotB n len).take k ++ o.drop k).take 8 = ((slotB n len).take k ++ o.drop k).drop 56
    · have hd56 : ((slotB n len).take k ++ o.drop k).drop 56 = o.drop 56 := by
        have e1 : ((slotB n len).take k ++ o.drop k).drop 56 = (((slotB n len).take k ++ o.drop k).drop 8).drop 48 := by rw [List.drop_drop]
        rw [e1, hd8, List.drop_drop]
      rcases ho with ⟨rfl, -⟩ | ⟨m, ml, rfl, hm⟩
      · right; right
        unfold sayN
        rw [if_neg]
        intro e
        rw [he, hd56] at e
        have hz : numI (zer.drop 56) = 0 := rfl
        rw [hz] at e
        omega
      · right; left
        rw [hd56, slot_last] at he
        conv => lhs; rw [← List.take_append_drop 8 ((slotB n len).take k ++ (slotB m ml).drop k)]
        rw [he, hd8, ← slot_first m ml, List.take_append_drop]
    · right; right
      rw [say_none he]
end Go.Proofs.YtnhnjdldgaaeoaaGreatDoor
