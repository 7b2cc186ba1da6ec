/-
  Numbers, texts and lists as bytes, in plain words. No program plays a part.
-/
import Derived.Test.YtidlgecognedlaaGreatDoorJpl
import Derived.Test.YtidlgecognedlaaGreatDoorLplc
import Derived.Lib.ItoaNum
namespace Go.Proofs.YtidlgecognedlaaGreatDoor.Ms
open Go
set_option maxRecDepth 100000

def I64 (n : Int) : Prop := -9223372036854775808 ≤ n ∧ n ≤ 9223372036854775807
def numB (n : Int) : List UInt8 := Lib.itoa n ++ [59]
def txtB (s : List UInt8) : List UInt8 := Lib.decDigits s.length ++ [58] ++ s
def intsB (l : List Int) : List UInt8 := (l.map numB).flatten
theorem nDigits_le20 (u : Nat) (h : u < 18446744073709551616) : Lib.nDigits u ≤ 20 := by
  rcases Nat.eq_zero_or_pos u with h0 | h0
  · subst h0; rw [Lib.nDigits_small (by omega)]; omega
  · have := Lib.numDigits_eq u h0 h; split at this <;> omega
theorem dec_len (u : Nat) (h : u < 18446744073709551616) : (Lib.decDigits u).length ≤ 20 := by rw [Lib.decDigits_length]; exact nDigits_le20 u h
theorem numB_len (n : Int) (h : I64 n) : (numB n).length ≤ 22 := by
  unfold numB Lib.itoa
  obtain ⟨h0, h1⟩ := h
  split
  · have := nDigits_le20 n.natAbs (by omega); rw [List.length_append, List.length_cons, Lib.decDigits_length]; simp; omega
  · have := nDigits_le20 n.toNat (by omega); rw [List.length_append, Lib.decDigits_length]; simp; omega
theorem txtB_len (s : List UInt8) (h : s.length < 18446744073709551616) : (txtB s).length ≤ s.length + 21 := by
  have := dec_len s.length h
  unfold txtB
  simp only [List.length_append, List.length_cons, List.length_nil]
  omega
theorem txtB_lay (s : List UInt8) : txtB s = Lay.txtB s := by unfold txtB Lay.txtB; simp
theorem str_app (x y : List UInt8) : (⟨x.toArray⟩ ++ ⟨y.toArray⟩ : ByteArray) = ⟨(x ++ y).toArray⟩ := by
  apply ByteArray.ext
  simp
theorem intsB_snoc (ks : List Int) (j : Nat) (h : j < ks.length) : intsB (ks.take (j + 1)) = intsB (ks.take j) ++ numB (ks.getD j 0) := by
  unfold intsB
  rw [List.take_succ_eq_append_getElem h, List.map_append, List.flatten_append]
  have e : ks.getD j 0 = ks[j] := by simp [List.getD, h]
  rw [e]
  simp only [List.map_cons, List.map_nil, List.flatten_cons, List.flatten_nil, List.append_nil]
theorem intsB_len (ks : List Int) (h : ∀ n ∈ ks, I64 n) : (intsB ks).length ≤ 22 * ks.length := by
  induction ks with
  | nil => simp [intsB]
  | cons n ks ih =>
    have h1 := numB_len n (h n (by simp))
    have h2 := ih (fun m hm => h m (by simp [hm]))
    unfold intsB at h2 ⊢
    simp at h2 ⊢
    omega
/-- What was laid is read as it was. -/
theorem num_back (n : Int) (h : I64 n) (rest : List UInt8) : Lay.readNum (numB n ++ rest) = (0, n, (numB n).length) := by
  have := Lay.readNum_back n h.1 h.2 rest
  unfold numB
  simp only [List.append_assoc, List.length_append, List.length_cons, List.length_nil]
  exact this
theorem txt_back (s : List UInt8) (h : s.length ≤ 16384) (rest : List UInt8) : Lay.readTxt (txtB s ++ rest) = (0, s, (txtB s).length) := by
  rw [txtB_lay]; exact Lay.readTxt_back s h rest
/-- What is read is laid as the very bytes. -/
theorem num_once (r : List UInt8) (n : Int) (c : Nat) (h : Lay.readNum r = (0, n, c)) : r.take c = numB n ∧ c ≤ r.length ∧ I64 n := by
  obtain ⟨h1, h2, -, h4, h5⟩ := Lay.readNum_once r n c h
  exact ⟨h1, h2, h4, h5⟩
theorem txt_once (r t : List UInt8) (c : Nat) (h : Lay.readTxt r = (0, t, c)) : r.take c = txtB t ∧ c ≤ r.length ∧ t.length ≤ 16384 := by
  obtain ⟨h1, h2, -, h4⟩ := Lay.readTxt_once r t c h
  exact ⟨h1.trans (txtB_lay t).symm, h2, h4⟩
end Go.Proofs.YtidlgecognedlaaGreatDoor.Ms
