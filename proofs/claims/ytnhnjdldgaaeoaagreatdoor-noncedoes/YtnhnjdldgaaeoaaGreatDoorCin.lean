/-
  What a cell has behind saves, and behind a crash in the midst of one. No program plays a part.
-/
import Derived.Test.YtnhnjdldgaaeoaaGreatDoorCpl
namespace Go.Proofs.YtnhnjdldgaaeoaaGreatDoor
open Go
set_option maxRecDepth 100000

theorem catP_succ (S : List Sec) (a k : Nat) : catP S a (k + 1) = catP S a k ++ secB S (a + k) := by simp [catP, List.range_succ]
theorem catP_len {S : List Sec} {a k : Nat} (h : ∀ i, i < k → (secB S (a + i)).length = 64) : (catP S a k).length = 64 * k := by
  induction k with
  | zero => rfl
  | succ k ih => rw [catP_succ, List.length_append, ih (fun i hi => h i (by omega)), h k (by omega)]; omega
theorem cat_get {S : List Sec} {a k : Nat} (h : ∀ i, i < k → (secB S (a + i)).length = 64) (p : Nat) (hp : p < 64 * k) : (catP S a k)[p]? = (secB S (a + p / 64))[p % 64]? := by
  induction k with
  | zero => omega
  | succ k ih =>
    have hl := catP_len (k := k) (fun i hi => h i (by omega))
    rw [catP_succ]
    by_cases hlt : p < 64 * k
    · rw [List.getElem?_append_left (by omega), ih (fun i hi => h i (by omega)) hlt]
    · rw [List.getElem?_append_right (by omega), hl]
      have e1 : p / 64 = k := by omega
      have e2 : p - 64 * k = p % 64 := by omega
      rw [e1, e2]
theorem chunks_len (t : List UInt8) : (chunks t).length = (t.length + 63) / 64 := by simp [chunks]
theorem chunks_le (t : List UInt8) : ∀ c ∈ chunks t, c.length ≤ 64 := by
  intro c hc
  obtain ⟨i, -, rfl⟩ := List.mem_map.1 hc
  simp; omega
theorem chunks_at (t : List UInt8) (i : Nat) (h : i < (chunks t).length) : (chunks t).getD i [] = (t.drop (64 * i)).take 64 := by
  have h' : i < (t.length + 63) / 64 := by rw [← chunks_len]; exact h
  simp [chunks, List.getD, h']
/-- The sectors that have a text's chunks have the text. -/
theorem cat_text {S : List Sec} {a k : Nat} {t : List UInt8} (h : ∀ i, i < k → (secB S (a + i)).length = 64) (hc : ∀ i, i < (chunks t).length → secB S (a + i) = fillB ((chunks t).getD i [])) (ht : t.length ≤ 64 * k) : (catP S a k).take t.length = t := by
  have hcl := chunks_len t
  apply List.ext_getElem?
  intro p
  by_cases hp : p < t.length
  · rw [List.getElem?_take, if_pos hp, cat_get h p (by omega), hc (p / 64) (by omega), chunks_at t _ (by omega)]
    have hq : ((t.drop (64 * (p / 64))).take 64)[p % 64]? = t[p]? := by
      rw [List.getElem?_take, if_pos (by omega), List.getElem?_drop]
      congr 1
      omega
    have hl : p % 64 < ((t.drop (64 * (p / 64))).take 64).length := by
      rw [List.length_take, List.length_drop]
      omega
    unfold fillB
    rw [List.getElem?_append_left hl, hq]
  · rw [List.getElem?_eq_none (by rw [List.length_take]; omega), List.getElem?_eq_none (by omega)]

structure CInv (D : Dk) (first size n : Nat) (t : List UInt8) : Prop where
  ok : AllOk D.S
  room : first + 2 + 2 * size ≤ D.S.length
  sz : 1 ≤ size ∧ size ≤ 255
  safe : ∀ i, first ≤ i → i < first + 2 + 2 * size → (D.S.getD i sec0).old = none
  cnt : n ≤ 1099511627776
  long : t.length ≤ 64 * size
  zero : n = 0 → secB D.S first = zer ∧ secB D.S (first + 1) = zer
  cur : 1 ≤ n → secB D.S (first + (n - 1) % 2) = slotB n t.length
  oth : 1 ≤ n → (n = 1 ∧ secB D.S (first + n % 2) = zer) ∨ (2 ≤ n ∧ ∃ ml, ml ≤ 64 * size ∧ secB D.S (first + n % 2) = slotB (n - 1) ml)
  txt : 1 ≤ n → (catP D.S (first + 2 + (n - 1) % 2 * size) size).take t.length = t
def loadR (n : Nat) (t : List UInt8) : List UInt8 × Nat × Int := if n = 0 then ([], 0, 9) else (t, n, 0)

theorem sec_len {S : List Sec} (h : AllOk S) (i : Nat) : (secB S i).length = 64 := by
  unfold secB
  by_cases hi : i < S.length
  · have e : S.getD i sec0 = S[i] := by simp [List.getD, hi]
    rw [e]; exact (h _ (List.getElem_mem hi)).1
  · have e : S.getD i sec0 = sec0 := by simp [List.getD, List.getElem?_eq_none (by omega : S.length ≤ i)]
    rw [e]; exact zer_len

/-- What is loaded hangs on the slots and the text's field alone. -/
theorem load_is {D : Dk} {first size n : Nat} {t : List UInt8} (hd : D.down = false) (hn : 1 ≤ n) (hsz : size ≤ 255) (hc : n ≤ 1099511627776) (hl : t.length ≤ 64 * size) (hcur : secB D.S (first + (n - 1) % 2) = slotB n t.length)
    (hoth : (sayN size (secB D.S (first + n % 2))).1 < n) (htx : (catP D.S (first + 2 + (n - 1) % 2 * size) size).take t.length = t) : loadP D first size = (t, n, 0) := by
  have hs := say_slot size n t.length hn hc hl hsz
  unfold loadP
  rw [hd]
  simp only [Bool.false_eq_true, if_false]
  by_cases hp : n % 2 = 1
  · have e : (n - 1) % 2 = 0 := by omega
    rw [e] at hcur htx
    rw [hp] at hoth
    simp only [Nat.add_zero, Nat.zero_mul] at hcur htx
    rw [hcur, hs]
    simp only
    rw [if_neg (by omega), if_neg (by omega), htx]
  · have e : (n - 1) % 2 = 1 := by omega
    have e2 : n % 2 = 0 := by omega
    rw [e] at hcur htx
    rw [e2] at hoth
    simp only [Nat.add_zero, Nat.one_mul] at hoth htx
    rw [hcur, hs]
    simp only
    rw [if_pos hoth, htx]
theorem load_none {D : Dk} {first size : Nat} (hd : D.down = false) (h0 : (sayN size (secB D.S first)).1 = 0) (h1 : (sayN size (secB D.S (first + 1))).1 = 0) : loadP D first size = ([], 0, 9) := by
  unfold loadP
  rw [hd, h0, h1]
  simp
theorem CInv.othN {D : Dk} {first size n : Nat} {t : List UInt8} (h : CInv D first size n t) (hn : 1 ≤ n) : (sayN size (secB D.S (first + n % 2))).1 < n := by
  rcases h.oth hn with ⟨e, e2⟩ | ⟨e, ml, e2, e3⟩
  · rw [e2, say_zero]; exact hn
  · rw [e3, say_slot size (n - 1) ml (by omega) (by have := h.cnt; omega) e2 h.sz.2]; show n - 1 < n; omega
theorem CInv.load {D : Dk} {first size n : Nat} {t : List UInt8} (h : CInv D first size n t) (hd : D.down = false) : loadP D first size = loadR n t := by
  unfold loadR
  by_cases hn : n = 0
  · rw [if_pos hn]
    obtain ⟨h1, h2⟩ := h.zero hn
    exact load_none hd (by rw [h1, say_zero]) (by rw [h2, say_zero])
  · rw [if_neg hn]
    exact load_is hd (by omega) h.sz.2 h.cnt h.long (h.cur (by omega)) (h.othN (by omega)) (h.txt (by omega))
theorem CInv.slotN {D : Dk} {first size n : Nat} {t : List UInt8} (h : CInv D first size n t) : slotN D first size = n + 1 ∧ slotTo D first size = n % 2 := by
  have hc := h.cnt
  unfold Go.Proofs.YtnhnjdldgaaeoaaGreatDoor.slotN slotTo
  by_cases hn : n = 0
  · obtain ⟨h1, h2⟩ := h.zero hn
    rw [h1, h2, say_zero, hn]
    exact ⟨rfl, rfl⟩
  · have hs := say_slot size n t.length (by omega) hc h.long h.sz.2
    have hcur := h.cur (by omega)
    have hoth := h.othN (by omega)
    by_cases hp : n % 2 = 1
    · have e : (n - 1) % 2 = 0 := by omega
      rw [e, Nat.add_zero] at hcur
      rw [hp] at hoth
      rw [hcur, hs, hp]
      simp only
      exact ⟨by omega, by rw [if_pos (by omega)]⟩
    · have e : (n - 1) % 2 = 1 := by omega
      have e2 : n % 2 = 0 := by omega
      rw [e] at hcur
      rw [e2, Nat.add_zero] at hoth
      rw [hcur, hs, e2]
      simp only
      exact ⟨by omega, by rw [if_neg (by omega)]⟩
end Go.Proofs.YtnhnjdldgaaeoaaGreatDoor
