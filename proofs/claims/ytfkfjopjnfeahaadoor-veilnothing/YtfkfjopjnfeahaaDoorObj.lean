/-
  A sum's cells, and what they say of the bytes that came. No program plays a part.
-/
import Derived.Test.YtfkfjopjnfeahaaDoorPlainb
namespace Go.Proofs.YtfkfjopjnfeahaaDoor
open Go
set_option maxRecDepth 100000

def objL (st : S8) (rest : List UInt8) (n : Nat) : List Value := st.list.map cw ++ (rest.map cb ++ [.int .i64 (n : Int)])
def Inv (st : S8) (rest m : List UInt8) : Prop := rest.length = 64 ∧ st = after m (m.length / 64) ∧ rest.take (m.length % 64) = m.drop (64 * (m.length / 64))

theorem objL_len (st : S8) (rest : List UInt8) (n : Nat) (h : rest.length = 64) : (objL st rest n).length = 73 := by simp [objL, list_len, h]
theorem objL_size (st : S8) (rest : List UInt8) (n : Nat) (h : rest.length = 64) : (objL st rest n)[72]? = some (.int .i64 (n : Int)) := by
  unfold objL
  rw [List.getElem?_append_right (by simp [list_len]), List.getElem?_append_right (by simp [list_len, h])]
  simp [list_len, h]
theorem objL_state (st : S8) (rest : List UInt8) (n : Nat) (j : Nat) (v : Value) (hv : (st.list.map cw)[j]? = some v) : (objL st rest n)[0 + j]? = some v := by
  have hj := (List.getElem?_eq_some_iff.1 hv).1
  unfold objL
  rw [Nat.zero_add, List.getElem?_append_left hj]
  exact hv
theorem objL_rest (st : S8) (rest : List UInt8) (n : Nat) (j : Nat) (v : Value) (hv : (rest.map cb)[j]? = some v) : (objL st rest n)[8 + j]? = some v := by
  have hj := (List.getElem?_eq_some_iff.1 hv).1
  unfold objL
  rw [List.getElem?_append_right (by simp [list_len]), List.getElem?_append_left (by simp [list_len] at hj ⊢; omega)]
  simpa [list_len] using hv
theorem objL_set (st : S8) (rest : List UInt8) (n k : Nat) (h : rest.length = 64) : (objL st rest n).set 72 (.int .i64 (k : Int)) = objL st rest k := by
  unfold objL
  rw [← List.append_assoc, ← List.append_assoc]
  have e : 72 = (st.list.map cw ++ rest.map cb).length := by simp [list_len, h]
  rw [e, set_mid]
theorem objL_store (st st' : S8) (rest : List UInt8) (n : Nat) : (objL st rest n).take 0 ++ st'.list.map cw ++ (objL st rest n).drop (0 + (st'.list.map cw).length) = objL st' rest n := by
  unfold objL
  rw [List.drop_append_of_le_length (by simp [list_len]), List.drop_eq_nil_of_le (by simp [list_len])]
  simp
def laid (rest y : List UInt8) (r t : Nat) : List UInt8 := rest.take r ++ (y.take t ++ rest.drop (r + t))
theorem laid_len (rest y : List UInt8) (r t : Nat) (h : rest.length = 64) (hy : t ≤ y.length) (hr : r + t ≤ 64) : (laid rest y r t).length = 64 := by
  simp [laid, h]; omega
theorem objL_copy (st : S8) (rest y : List UInt8) (n r t : Nat) (h : rest.length = 64) (hy : t ≤ y.length) (hr : r + t ≤ 64) :
    (objL st rest n).take (8 + r) ++ (y.take t).map cb ++ (objL st rest n).drop (8 + r + ((y.take t).map cb).length) = objL st (laid rest y r t) n := by
  have hs : (st.list.map cw).length = 8 := by simp [list_len]
  have hl : ((y.take t).map cb).length = t := by simp; omega
  rw [hl]
  unfold objL laid
  rw [List.take_append, List.drop_append, hs, List.take_of_length_le (by rw [hs]; omega), List.drop_eq_nil_of_le (by rw [hs]; omega)]
  rw [show 8 + r - 8 = r by omega, show 8 + r + t - 8 = r + t by omega]
  rw [List.take_append_of_le_length (by simp [h]; omega), List.drop_append_of_le_length (by simp [h]; omega)]
  simp [List.map_take, List.map_drop]

theorem inv_new (rest : List UInt8) (h : rest.length = 64) : Inv ini rest [] := ⟨h, rfl, by simp⟩
theorem inv_a {st : S8} {rest m : List UInt8} (h : Inv st rest m) (y : List UInt8) (t : Nat) (hy : t ≤ y.length) (hr : m.length % 64 + t ≤ 64) (h0 : (m.length + t) % 64 ≠ 0) :
    Inv st (laid rest y (m.length % 64) t) (m ++ y.take t) := by
  obtain ⟨h1, h2, h3⟩ := h
  have hl : (m ++ y.take t).length = m.length + t := by simp; omega
  have hq : (m.length + t) / 64 = m.length / 64 := by omega
  have hm : (m.length + t) % 64 = m.length % 64 + t := by omega
  refine ⟨laid_len _ _ _ _ h1 hy (by omega), ?_, ?_⟩
  · rw [hl, hq, h2, after_app m _ _ (by omega)]
  · rw [hl, hq, hm, List.drop_append_of_le_length (by omega), ← h3]
    unfold laid
    rw [← List.append_assoc, List.take_append_of_le_length (by simp [h1]; omega), List.take_of_length_le (by simp [h1]; omega)]
theorem inv_b {st : S8} {rest m : List UInt8} (h : Inv st rest m) (y : List UInt8) (t : Nat) (hy : t ≤ y.length) (hr : m.length % 64 + t ≤ 64) (h0 : (m.length + t) % 64 = 0) (ht : 0 < t) :
    Inv (comp st (laid rest y (m.length % 64) t)) (laid rest y (m.length % 64) t) (m ++ y.take t) := by
  obtain ⟨h1, h2, h3⟩ := h
  have hl : (m ++ y.take t).length = m.length + t := by simp; omega
  have hq : (m.length + t) / 64 = m.length / 64 + 1 := by omega
  have h64 : m.length % 64 + t = 64 := by omega
  have hb : laid rest y (m.length % 64) t = blkAt (m ++ y.take t) (m.length / 64) := by
    unfold laid blkAt
    rw [List.drop_append_of_le_length (by omega), ← h3, h64, List.drop_eq_nil_of_le (by omega), List.append_nil]
    exact (List.take_of_length_le (by simp [h1]; omega)).symm
  refine ⟨laid_len _ _ _ _ h1 hy (by omega), ?_, ?_⟩
  · rw [hl, hq, after, after_app m _ _ (by omega), ← h2, ← hb]
  · rw [hl, hq, h0, List.drop_eq_nil_of_le (by rw [hl]; omega)]
    simp

def strLen : Value → Nat
  | .string s => s.size
  | _ => 0
end Go.Proofs.YtfkfjopjnfeahaaDoor
