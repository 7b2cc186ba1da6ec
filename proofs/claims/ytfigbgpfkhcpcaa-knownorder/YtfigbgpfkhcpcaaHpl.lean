/-
  Histories as plain lists of bytes: counts, places, beginnings. No program plays a part.
-/
import Derived.WalkKit
namespace Go.Proofs.Ytfigbgpfkhcpcaa.Hist
open Go
set_option maxRecDepth 100000

/-- A byte as the model's number. -/
def bv (c : UInt8) : Int := (c.toNat : Int)
theorem bv_range (c : UInt8) : 0 ≤ bv c ∧ bv c < 256 := by
  have := c.toNat_lt
  unfold bv
  omega
/-- How many operations a client has. -/
def cnt (h : List UInt8) (c : Int) : Nat := h.countP (fun b => bv b == c)
/-- Is the operation at a place the client's with that number? -/
def hit (h : List UInt8) (c n : Int) (i : Nat) : Bool := bv (h.getD i 0) == c && ((cnt (h.take (i + 1)) c : Int) == n)
/-- Where the client's operation of a number stands. -/
def plc (h : List UInt8) (c n : Int) : Option Nat := (List.range h.length).find? (hit h c n)
def placeI (h : List UInt8) (c n : Int) : Int := match plc h c n with | some i => (i : Int) | none => -1
/-- May a history be? -/
def rightB (h : List UInt8) (n : Int) : Bool := decide (1 ≤ n) && decide (n ≤ 256) && decide (h.length ≤ 512) && h.all (fun b => decide (bv b < n))
/-- The beginning up to a client's last operation. -/
def uptoL (h : List UInt8) (c : Int) : List UInt8 := h.take (placeI h c (cnt h c) + 1).toNat
def goesB (l s : List UInt8) : Bool := s.isPrefixOf l
def fitB (a b : List UInt8) : Bool := goesB a b || goesB b a
def longerL (a b : List UInt8) : List UInt8 := if goesB b a then b else a

theorem take_snoc (s : List UInt8) (j : Nat) (h : j < s.length) : s.take (j + 1) = s.take j ++ [s.getD j 0] := by
  rw [List.take_succ_eq_append_getElem h]
  simp [List.getD, h]
theorem cnt_nil (c : Int) : cnt [] c = 0 := rfl
theorem cnt_append (a b : List UInt8) (c : Int) : cnt (a ++ b) c = cnt a c + cnt b c := by simp [cnt]
theorem cnt_one (x : UInt8) (c : Int) : cnt [x] c = if bv x = c then 1 else 0 := by
  by_cases h : bv x = c <;> simp [cnt, h]
theorem cnt_step (h : List UInt8) (k : Nat) (hk : k < h.length) (c : Int) : cnt (h.take (k + 1)) c = cnt (h.take k) c + if bv (h.getD k 0) = c then 1 else 0 := by
  rw [take_snoc h k hk, cnt_append, cnt_one]
theorem cnt_le (h : List UInt8) (c : Int) : cnt h c ≤ h.length := List.countP_le_length
theorem cnt_take_le (h : List UInt8) (k : Nat) (c : Int) : cnt (h.take k) c ≤ cnt h c := by
  have e := cnt_append (h.take k) (h.drop k) c
  rw [List.take_append_drop] at e
  omega
theorem cnt_all (h : List UInt8) (c : Int) : cnt (h.take h.length) c = cnt h c := by rw [List.take_length]
theorem cnt_foreign (h : List UInt8) (c : Int) (hc : c < 0 ∨ 256 ≤ c) : cnt h c = 0 := by
  unfold cnt
  rw [List.countP_eq_zero]
  intro x _ e
  have e' : bv x = c := by simpa using e
  have := bv_range x
  omega

theorem plc_some {h : List UInt8} {c n : Int} {i : Nat} (hi : i < h.length) (ht : hit h c n i = true) (hn : ∀ j, j < i → hit h c n j = false) : placeI h c n = (i : Int) := by
  have : plc h c n = some i := by
    unfold plc
    rw [List.find?_range_eq_some]
    exact ⟨ht, List.mem_range.2 hi, fun j hj => by simp [hn j hj]⟩
  unfold placeI
  rw [this]
theorem plc_none {h : List UInt8} {c n : Int} (hn : ∀ j, j < h.length → hit h c n j = false) : placeI h c n = -1 := by
  have : plc h c n = none := by
    unfold plc
    rw [List.find?_eq_none]
    intro j hj
    rw [hn j (List.mem_range.1 hj)]
    exact Bool.false_ne_true
  unfold placeI
  rw [this]
/-- Every place is one of two: there is none, or it stands there. -/
theorem plc_cases (h : List UInt8) (c n : Int) : (placeI h c n = -1 ∧ ∀ j, j < h.length → hit h c n j = false) ∨ ∃ i, i < h.length ∧ placeI h c n = (i : Int) ∧ hit h c n i = true ∧ ∀ j, j < i → hit h c n j = false := by
  cases hq : plc h c n with
  | none =>
    refine .inl ⟨by unfold placeI; rw [hq], fun j hj => ?_⟩
    unfold plc at hq
    rw [List.find?_eq_none] at hq
    have := hq j (List.mem_range.2 hj)
    simpa using this
  | some i =>
    have hq' := hq
    unfold plc at hq'
    rw [List.find?_range_eq_some] at hq'
    obtain ⟨h1, h2, h3⟩ := hq'
    exact .inr ⟨i, List.mem_range.1 h2, by unfold placeI; rw [hq], h1, fun j hj => by simpa using h3 j hj⟩
theorem place_range (h : List UInt8) (c n : Int) : -1 ≤ placeI h c n ∧ placeI h c n < h.length := by
  rcases plc_cases h c n with ⟨e, _⟩ | ⟨i, hi, e, _⟩ <;> rw [e] <;> omega
theorem hit_iff (h : List UInt8) (c n : Int) (i : Nat) : hit h c n i = true ↔ bv (h.getD i 0) = c ∧ (cnt (h.take (i + 1)) c : Int) = n := by
  simp [hit]

theorem right_false1 (h : List UInt8) (n : Int) (h1 : n < 1) : rightB h n = false := by unfold rightB; rw [decide_eq_false (by omega : ¬ 1 ≤ n)]; rfl
theorem right_false2 (h : List UInt8) (n : Int) (h1 : 256 < n) : rightB h n = false := by unfold rightB; rw [decide_eq_false (by omega : ¬ n ≤ 256)]; simp
theorem right_false3 (h : List UInt8) (n : Int) (h1 : 512 < h.length) : rightB h n = false := by unfold rightB; rw [decide_eq_false (by omega : ¬ h.length ≤ 512)]; simp
theorem right_false4 (h : List UInt8) (n : Int) (k : Nat) (hk : k < h.length) (h1 : n ≤ bv (h.getD k 0)) : rightB h n = false := by
  unfold rightB
  have : h.all (fun b => decide (bv b < n)) = false := by
    rw [List.all_eq_false]
    refine ⟨h.getD k 0, ?_, by simpa using h1⟩
    simp [List.getD, hk]
  rw [this]; simp
theorem right_true (h : List UInt8) (n : Int) (h1 : ¬ n < 1) (h2 : ¬ 256 < n) (h3 : ¬ 512 < h.length) (h4 : ∀ j, j < h.length → bv (h.getD j 0) < n) : rightB h n = true := by
  unfold rightB
  have : h.all (fun b => decide (bv b < n)) = true := by
    rw [List.all_eq_true]
    intro b hb
    obtain ⟨j, hj, rfl⟩ := List.getElem_of_mem hb
    have := h4 j hj
    simp [List.getD, hj] at this
    simpa using this
  rw [this, decide_eq_true (by omega : 1 ≤ n), decide_eq_true (by omega : n ≤ 256), decide_eq_true (by omega : h.length ≤ 512)]; rfl

/-- What the operation at a place is told as. -/
def opA (h : List UInt8) (k : Nat) : Array Value := #[.int .i64 (bv (h.getD k 0)), .int .i64 (cnt (h.take (k + 1)) (bv (h.getD k 0)))]
def opsA (h : List UInt8) : List (Array Value) := (List.range h.length).map (opA h)
theorem opsA_len (h : List UInt8) : (opsA h).length = h.length := by simp [opsA]
theorem opsA_at {h : List UInt8} {k : Nat} {x : Array Value} (hx : (opsA h)[k]? = some x) : k < h.length ∧ x = opA h k := by
  unfold opsA at hx
  rw [List.getElem?_map] at hx
  by_cases hk : k < h.length
  · rw [List.getElem?_range hk] at hx
    simp at hx
    exact ⟨hk, hx.symm⟩
  · rw [List.getElem?_eq_none (by simpa using hk)] at hx
    simp at hx
theorem opsA_get {h : List UInt8} {k : Nat} (hk : k < h.length) : (opsA h)[k]? = some (opA h k) := by
  unfold opsA
  rw [List.getElem?_map, List.getElem?_range hk]
  rfl
theorem opsA_mem {h : List UInt8} {x : Array Value} (hx : x ∈ opsA h) : ∃ k, k < h.length ∧ x = opA h k := by
  obtain ⟨k, hk, rfl⟩ := List.mem_map.1 hx
  exact ⟨k, List.mem_range.1 hk, rfl⟩

/-- The counts behind the first k places. -/
def cntsL (h : List UInt8) (k : Nat) : List Value := (List.range 256).map fun (c : Nat) => Value.int .i64 (cnt (h.take k) (c : Int))
theorem cntsL_len (h : List UInt8) (k : Nat) : (cntsL h k).length = 256 := by simp [cntsL]
theorem cntsL_at (h : List UInt8) (k c : Nat) (hc : c < 256) : (cntsL h k)[c]? = some (.int .i64 (cnt (h.take k) (c : Int))) := by
  unfold cntsL
  rw [List.getElem?_map, List.getElem?_range hc]
  rfl
theorem cntsL_step (h : List UInt8) (k : Nat) (hk : k < h.length) :
    (cntsL h k).set (h.getD k 0).toNat (.int .i64 ((cnt (h.take k) (bv (h.getD k 0)) : Int) + 1)) = cntsL h (k + 1) := by
  apply List.ext_getElem?
  intro i
  by_cases hi : i < 256
  · rw [List.getElem?_set, cntsL_at h _ i hi, cntsL_at h _ i hi, cntsL_len, cnt_step h k hk]
    by_cases he : (h.getD k 0).toNat = i
    · rw [if_pos he, if_pos (by omega)]
      have e2 : bv (h.getD k 0) = (i : Int) := by unfold bv; omega
      rw [if_pos e2, e2]
      rfl
    · have e2 : ¬ bv (h.getD k 0) = (i : Int) := by unfold bv; omega
      rw [if_neg he, if_neg e2]
      rfl
  · rw [List.getElem?_eq_none (by simp [cntsL_len]; omega), List.getElem?_eq_none (by simp [cntsL_len]; omega)]
theorem cntsL_zero (h : List UInt8) : cntsL h 0 = List.replicate 256 (.int .i64 0) := by
  apply List.ext_getElem?
  intro i
  by_cases hi : i < 256
  · rw [cntsL_at h _ i hi, List.getElem?_replicate, if_pos hi]
    rfl
  · rw [List.getElem?_eq_none (by simp [cntsL_len]; omega), List.getElem?_eq_none (by simp; omega)]
end Go.Proofs.Ytfigbgpfkhcpcaa.Hist
