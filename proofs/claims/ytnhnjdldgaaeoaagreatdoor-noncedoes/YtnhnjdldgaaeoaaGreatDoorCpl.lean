/-
  A cell as plain functions over a disk as plain data: what is loaded, what a save does. No program plays a part.
-/
import Derived.Test.YtnhnjdldgaaeoaaGreatDoorCnum
import Derived.Test.YtnhnjdldgaaeoaaGreatDoorWsp
namespace Go.Proofs.YtnhnjdldgaaeoaaGreatDoor
open Go
set_option maxRecDepth 100000

def secB (S : List Sec) (i : Nat) : List UInt8 := (S.getD i sec0).now
def catP (S : List Sec) (a : Nat) (k : Nat) : List UInt8 := (List.range k).flatMap fun i => secB S (a + i)
/-- What Load answers. -/
def loadP (D : Dk) (first size : Nat) : List UInt8 × Nat × Int :=
  if D.down then ([], 0, 12) else
  if (sayN size (secB D.S first)).1 < (sayN size (secB D.S (first + 1))).1 then ((catP D.S (first + 2 + size) size).take (sayN size (secB D.S (first + 1))).2, (sayN size (secB D.S (first + 1))).1, 0)
  else if (sayN size (secB D.S first)).1 = 0 then ([], 0, 9) else ((catP D.S (first + 2) size).take (sayN size (secB D.S first)).2, (sayN size (secB D.S first)).1, 0)
def chunks (t : List UInt8) : List (List UInt8) := (List.range ((t.length + 63) / 64)).map fun i => (t.drop (64 * i)).take 64
def putsL (D : Dk) (a : Nat) : List (List UInt8) → Int × Dk
  | [] => (0, D)
  | c :: cs => if writeE D a c = 0 then putsL (writeD D a c) (a + 1) cs else (writeE D a c, writeD D a c)
def slotTo (D : Dk) (first size : Nat) : Nat := if (sayN size (secB D.S (first + 1))).1 ≤ (sayN size (secB D.S first)).1 ∧ 0 < (sayN size (secB D.S first)).1 then 1 else 0
def slotN (D : Dk) (first size : Nat) : Nat := max (sayN size (secB D.S first)).1 (sayN size (secB D.S (first + 1))).1 + 1
/-- The last part of a save: the slot, and the second Sync. -/
def saveEnd (D : Dk) (i n long : Nat) : Int × Dk := if writeE D i (slotB n long) = 0 then (syncE (writeD D i (slotB n long)), syncD (writeD D i (slotB n long))) else (writeE D i (slotB n long), writeD D i (slotB n long))
/-- What Save does. -/
def saveP (D : Dk) (first size : Nat) (t : List UInt8) : Int × Dk :=
  if 64 * size < t.length then (4, D) else if D.down then (12, D) else
  if 1099511627776 < slotN D first size then (3, D) else
  if (putsL D (first + 2 + slotTo D first size * size) (chunks t)).1 = 0 then
    (if syncE (putsL D (first + 2 + slotTo D first size * size) (chunks t)).2 = 0 then saveEnd (syncD (putsL D (first + 2 + slotTo D first size * size) (chunks t)).2) (first + slotTo D first size) (slotN D first size) t.length
     else (syncE (putsL D (first + 2 + slotTo D first size * size) (chunks t)).2, syncD (putsL D (first + 2 + slotTo D first size * size) (chunks t)).2))
  else putsL D (first + 2 + slotTo D first size * size) (chunks t)

theorem getD_set {S : List Sec} {i j : Nat} {x : Sec} : (S.set i x).getD j sec0 = if i = j ∧ i < S.length then x else S.getD j sec0 := by
  simp only [List.getD, List.getElem?_set]
  by_cases h : i = j
  · subst h
    by_cases h2 : i < S.length
    · simp [h2]
    · simp [h2]
  · simp [h]
theorem getD_put {S : List Sec} {i j : Nat} {c : List UInt8} : (putS S i c).getD j sec0 = if i = j ∧ i < S.length then wrS (S.getD i sec0) c else S.getD j sec0 := getD_set
theorem getD_setS (S : List Sec) (i : Nat) : (S.map setS).getD i sec0 = setS (S.getD i sec0) := by
  simp only [List.getD, List.getElem?_map]
  cases S[i]? <;> rfl
theorem secB_setS (S : List Sec) (i : Nat) : secB (S.map setS) i = secB S i := by unfold secB; rw [getD_setS]; rfl
theorem getD_tear (S : List Sec) (ks : List Int) (i : Nat) (h : (S.getD i sec0).old = none) : (tearAll S ks).getD i sec0 = S.getD i sec0 := by
  by_cases hi : i < S.length
  · have h5 : i < (tearAll S ks).length := by rw [tearAll_len]; exact hi
    have e : S.getD i sec0 = S[i] := by simp [List.getD, hi]
    rw [e] at h
    rcases tear_get S ks i hi with ⟨-, h2⟩ | ⟨o, kk, h2, -⟩
    · rw [e, ← h2]; simp [List.getD, h5]
    · rw [h] at h2; cases h2
  · simp [List.getD, List.getElem?_eq_none (by omega : S.length ≤ i), List.getElem?_eq_none (by rw [tearAll_len]; omega : (tearAll S ks).length ≤ i)]
theorem getD_torn (S : List Sec) (ks : List Int) (i : Nat) (o : List UInt8) (h : (S.getD i sec0).old = some o) : ∃ kk, kk ≤ 64 ∧ secB (tearAll S ks) i = (secB S i).take kk ++ o.drop kk := by
  by_cases hi : i < S.length
  · have h5 : i < (tearAll S ks).length := by rw [tearAll_len]; exact hi
    have e : S.getD i sec0 = S[i] := by simp [List.getD, hi]
    rw [e] at h
    rcases tear_get S ks i hi with ⟨h1, -⟩ | ⟨o', kk, h2, hk, h3⟩
    · rw [h] at h1; cases h1
    · refine ⟨kk, hk, ?_⟩
      have e2 : o' = o := by rw [h] at h2; exact (Option.some.inj h2).symm
      subst e2
      unfold secB
      rw [e, show (tearAll S ks).getD i sec0 = (tearAll S ks)[i] by simp [List.getD, h5], h3]
      simp [tornS, oldB, h]
  · simp [List.getD, List.getElem?_eq_none (by omega : S.length ≤ i), sec0] at h
theorem catP_congr {S R : List Sec} {a k : Nat} (h : ∀ i, a ≤ i → i < a + k → secB S i = secB R i) : catP S a k = catP R a k := by
  unfold catP
  rw [List.flatMap_def, List.flatMap_def]
  congr 1
  apply List.map_congr_left
  intro i hi
  have := List.mem_range.1 hi
  exact h (a + i) (by omega) (by omega)

/-- The first chunks of a row of sectors are written. -/
def putsS (S : List Sec) (a : Nat) : List (List UInt8) → List Sec
  | [] => S
  | c :: cs => putsS (putS S a c) (a + 1) cs
theorem putsS_len (S : List Sec) (a : Nat) (cs : List (List UInt8)) : (putsS S a cs).length = S.length := by
  induction cs generalizing S a with
  | nil => rfl
  | cons c cs ih => rw [putsS, ih]; simp [putS]
theorem putsS_far (S : List Sec) (a : Nat) (cs : List (List UInt8)) (i : Nat) (h : i < a ∨ a + cs.length ≤ i) : (putsS S a cs).getD i sec0 = S.getD i sec0 := by
  induction cs generalizing S a with
  | nil => rfl
  | cons c cs ih =>
    simp only [List.length_cons] at h
    rw [putsS, ih _ _ (by omega), getD_put, if_neg (by omega)]
theorem putsS_at (S : List Sec) (a : Nat) (cs : List (List UInt8)) (i : Nat) (h : i < cs.length) (hl : a + cs.length ≤ S.length) : secB (putsS S a cs) (a + i) = fillB (cs.getD i []) := by
  induction cs generalizing S a i with
  | nil => simp at h
  | cons c cs ih =>
    simp only [List.length_cons] at h hl
    rw [putsS]
    cases i with
    | zero =>
      unfold secB
      rw [Nat.add_zero, putsS_far _ _ _ _ (by omega), getD_put, if_pos (by omega)]
      rfl
    | succ i =>
      have h9 := ih (putS S a c) (a + 1) i (by omega) (by simp [putS]; omega)
      rw [show a + (i + 1) = a + 1 + i by omega, h9]
      rfl
theorem putsS_ok {S : List Sec} (h : AllOk S) (a : Nat) (cs : List (List UInt8)) (hc : ∀ c ∈ cs, c.length ≤ 64) : AllOk (putsS S a cs) := by
  induction cs generalizing S a with
  | nil => exact h
  | cons c cs ih =>
    rw [putsS]
    refine ih ?_ _ (fun x hx => hc x (by simp [hx]))
    by_cases ha : a < S.length
    · refine AllOk.set h a (wrS_ok ?_ c (hc c (by simp)))
      have e : S.getD a sec0 = S[a] := by simp [List.getD, ha]
      rw [e]
      exact h _ (List.getElem_mem ha)
    · unfold putS
      rw [List.set_eq_of_length_le (by omega)]
      exact h
theorem write_is (D : Dk) (i : Nat) (c : List UInt8) (hd : D.down = false) (hi : i < D.S.length) (hc : c.length ≤ 64) :
    (writeD D i c).S = putS D.S i c ∧ ((writeE D i c = 0 ∧ (writeD D i c).down = false) ∨ (writeE D i c = 12 ∧ (writeD D i c).down = true ∧ D.armed ≠ 0)) ∧ (D.armed = 0 → (writeD D i c).armed = 0) := by
  have hh : hasB D.S.length (i : Int) = true := by unfold hasB; simp; omega
  have e1 : writeE D i c = eDown (countD D).down := by unfold writeE; rw [hd, hh]; simp [hc]
  have e2 : writeD D i c = countD ⟨putS D.S i c, D.armed, false⟩ := by unfold writeD; rw [hd, hh]; simp [hc]
  rw [e1, e2, countD_S]
  refine ⟨rfl, ?_, ?_⟩
  · unfold countD
    by_cases h0 : D.armed = 0
    · left; simp [h0, hd, eDown]
    · by_cases h1 : D.armed = 1
      · right; simp [h1, eDown]
      · left; simp [h0, h1, eDown]
  · intro h0
    unfold countD
    simp [h0]
theorem sync_is (D : Dk) (hd : D.down = false) : (syncE D = 0 ∧ (syncD D).S = D.S.map setS ∧ (syncD D).down = false) ∨ (syncE D = 12 ∧ (syncD D).S = D.S ∧ (syncD D).down = true ∧ D.armed ≠ 0) := by
  unfold syncE syncD countD
  by_cases h0 : D.armed = 0
  · left; simp [h0, hd, eDown]
  · by_cases h1 : D.armed = 1
    · right; simp [h1, hd, eDown]
    · left; simp [h0, h1, hd, eDown]
theorem sync_armed (D : Dk) (h0 : D.armed = 0) : (syncD D).armed = 0 := by
  unfold syncD countD
  simp only [h0, if_true]
  cases hd : D.down <;> simp [h0]
theorem puts_is (D : Dk) (a : Nat) (cs : List (List UInt8)) (hd : D.down = false) (hl : a + cs.length ≤ D.S.length) (hc : ∀ c ∈ cs, c.length ≤ 64) :
    (∃ j, j ≤ cs.length ∧ (putsL D a cs).2.S = putsS D.S a (cs.take j) ∧ (((putsL D a cs).1 = 0 ∧ j = cs.length ∧ (putsL D a cs).2.down = false) ∨ ((putsL D a cs).1 = 12 ∧ (putsL D a cs).2.down = true ∧ D.armed ≠ 0))) ∧ (D.armed = 0 → (putsL D a cs).2.armed = 0) := by
  induction cs generalizing D a with
  | nil => exact ⟨⟨0, Nat.le_refl _, rfl, .inl ⟨rfl, rfl, hd⟩⟩, fun h => h⟩
  | cons c cs ih =>
    simp only [List.length_cons] at hl
    obtain ⟨h1, h2, h3⟩ := write_is D a c hd (by omega) (hc c (by simp))
    rcases h2 with ⟨e1, e2⟩ | ⟨e1, e2, e3⟩
    · have hlen : a + 1 + cs.length ≤ (writeD D a c).S.length := by rw [h1]; simp [putS]; omega
      obtain ⟨⟨j, g1, g2, g3⟩, g4⟩ := ih (writeD D a c) (a + 1) e2 hlen (fun x hx => hc x (by simp [hx]))
      have eq : putsL D a (c :: cs) = putsL (writeD D a c) (a + 1) cs := by rw [putsL, if_pos e1]
      rw [eq]
      refine ⟨⟨j + 1, by simp; omega, ?_, ?_⟩, fun h => g4 (h3 h)⟩
      · rw [g2, h1]; rfl
      · rcases g3 with ⟨g5, g6, g7⟩ | ⟨g5, g6, g7⟩
        · exact .inl ⟨g5, by simp [g6], g7⟩
        · exact .inr ⟨g5, g6, fun h => g7 (h3 h)⟩
    · have eq : putsL D a (c :: cs) = (writeE D a c, writeD D a c) := by rw [putsL, if_neg (by rw [e1]; decide)]
      rw [eq]
      exact ⟨⟨1, by simp, by rw [h1]; rfl, .inr ⟨e1, e2, e3⟩⟩, h3⟩
end Go.Proofs.YtnhnjdldgaaeoaaGreatDoor
