/-
  Sectors and disks as plain data, what is done with them as plain functions, and a disk's cells. No program plays a part.
-/
import Derived.Test.YtnhnjdldgaaeoaaGreatDoorBas
namespace Go.Proofs.YtnhnjdldgaaeoaaGreatDoor
open Go
set_option maxRecDepth 100000

/-- A sector: its bytes, and its old ones, if it is not safe. -/
structure Sec where
  now : List UInt8
  old : Option (List UInt8)
def zer : List UInt8 := List.replicate 64 0
def oldB (s : Sec) : List UInt8 := s.old.getD zer
def secC (s : Sec) : List Value := s.now.map cb ++ (oldB s).map cb ++ [.bool s.old.isSome]
abbrev SecOk (s : Sec) : Prop := s.now.length = 64 ∧ (oldB s).length = 64
abbrev AllOk (S : List Sec) : Prop := ∀ s ∈ S, SecOk s
def flatS (S : List Sec) : List Value := S.flatMap secC
def fillB (t : List UInt8) : List UInt8 := t ++ List.replicate (64 - t.length) 0
def sec0 : Sec := ⟨zer, none⟩
def wrS (s : Sec) (t : List UInt8) : Sec := ⟨fillB t, some (s.old.getD s.now)⟩
def setS (s : Sec) : Sec := ⟨s.now, none⟩
def tornS (s : Sec) (k : Nat) : Sec := ⟨s.now.take k ++ (oldB s).drop k, none⟩
/-- How many bytes stay. -/
def nextK : List Int → Nat
  | [] => 0
  | n :: _ => if n < 0 then 0 else (n % 65).toNat
def tearAll : List Sec → List Int → List Sec
  | [], _ => []
  | s :: S, ks => match s.old with
    | none => s :: tearAll S ks
    | some _ => tornS s (nextK ks) :: tearAll S ks.tail
def loIdx : Nat → List Sec → List Nat
  | _, [] => []
  | b, s :: S => match s.old with
    | none => loIdx (b + 1) S
    | some _ => b :: loIdx (b + 1) S

theorem zer_len : zer.length = 64 := by simp [zer]
theorem fillB_len (t : List UInt8) (h : t.length ≤ 64) : (fillB t).length = 64 := by simp [fillB]; omega
theorem sec0_ok : SecOk sec0 := ⟨zer_len, zer_len⟩
theorem wrS_ok {s : Sec} (h : SecOk s) (t : List UInt8) (ht : t.length ≤ 64) : SecOk (wrS s t) := by
  refine ⟨fillB_len t ht, ?_⟩
  obtain ⟨n, o⟩ := s
  cases o <;> simpa [oldB, wrS] using (by first | exact h.2 | exact h.1)
theorem setS_ok {s : Sec} (h : SecOk s) : SecOk (setS s) := ⟨h.1, zer_len⟩
theorem nextK_le (ks : List Int) : nextK ks ≤ 64 := by
  cases ks with
  | nil => simp [nextK]
  | cons n r =>
    simp only [nextK]
    by_cases h : n < 0
    · rw [if_pos h]; omega
    · rw [if_neg h]; have := Int.emod_lt_of_pos n (show (0 : Int) < 65 by decide); have := Int.emod_nonneg n (show (65 : Int) ≠ 0 by decide); omega
theorem tornS_ok {s : Sec} (h : SecOk s) (k : Nat) (hk : k ≤ 64) : SecOk (tornS s k) := by
  refine ⟨?_, zer_len⟩
  have h1 := h.1
  have h2 := h.2
  simp [tornS]; omega
theorem secC_len {s : Sec} (h : SecOk s) : (secC s).length = 129 := by
  have h1 := h.1
  have h2 := h.2
  simp [secC, h1, h2]
theorem flatS_app (S R : List Sec) : flatS (S ++ R) = flatS S ++ flatS R := by simp [flatS]
theorem flatS_cons (s : Sec) (R : List Sec) : flatS (s :: R) = secC s ++ flatS R := by simp [flatS]
theorem flatS_mid (S : List Sec) (s : Sec) (R : List Sec) : flatS (S ++ s :: R) = flatS S ++ secC s ++ flatS R := by rw [flatS_app, flatS_cons, List.append_assoc]
theorem flatS_len {S : List Sec} (h : AllOk S) : (flatS S).length = 129 * S.length := by
  induction S with
  | nil => rfl
  | cons s S ih =>
    rw [flatS_cons, List.length_append, secC_len (h s (by simp)), ih (fun x hx => h x (by simp [hx]))]
    simp; omega
theorem one_sec (s : Sec) : ∀ v ∈ secC s, v.oneCell' = true := by
  intro v hv
  unfold secC at hv
  rcases List.mem_append.1 hv with h | h
  · rcases List.mem_append.1 h with h | h
    · exact one_cb _ v h
    · exact one_cb _ v h
  · simp at h; subst h; rfl
theorem set_split {S : List Sec} {i : Nat} (h : i < S.length) : S = S.take i ++ S[i] :: S.drop (i + 1) := by
  rw [List.getElem_cons_drop, List.take_append_drop]
theorem set_as {S : List Sec} {i : Nat} (h : i < S.length) (x : Sec) : S.set i x = S.take i ++ x :: S.drop (i + 1) := by
  rw [List.set_eq_take_append_cons_drop, if_pos h]
theorem AllOk.set {S : List Sec} (h : AllOk S) (i : Nat) {x : Sec} (hx : SecOk x) : AllOk (S.set i x) := by
  intro s hs
  rcases List.mem_or_eq_of_mem_set hs with h1 | h1
  · exact h s h1
  · exact h1 ▸ hx
theorem tearAll_len (S : List Sec) (ks : List Int) : (tearAll S ks).length = S.length := by
  induction S generalizing ks with
  | nil => rfl
  | cons s S ih => unfold tearAll; split <;> simp [ih]
theorem tearAll_ok {S : List Sec} (h : AllOk S) (ks : List Int) : AllOk (tearAll S ks) := by
  induction S generalizing ks with
  | nil => intro s hs; simp [tearAll] at hs
  | cons s S ih =>
    have h1 := h s (by simp)
    have h2 : AllOk S := fun x hx => h x (by simp [hx])
    unfold tearAll
    split
    · intro x hx
      rcases List.mem_cons.1 hx with e | e
      · exact e ▸ h1
      · exact ih h2 _ x e
    · intro x hx
      rcases List.mem_cons.1 hx with e | e
      · exact e ▸ tornS_ok h1 _ (nextK_le ks)
      · exact ih h2 _ x e
theorem loIdx_snoc (b : Nat) (S : List Sec) (s : Sec) : loIdx b (S ++ [s]) = loIdx b S ++ (match s.old with | none => [] | some _ => [b + S.length]) := by
  induction S generalizing b with
  | nil => cases h : s.old <;> simp [loIdx, h]
  | cons x S ih =>
    have e : b + 1 + S.length = b + (S.length + 1) := by omega
    cases h : x.old <;> simp [loIdx, h, ih, e]
theorem loIdx_len (b : Nat) (S : List Sec) : (loIdx b S).length ≤ S.length := by
  induction S generalizing b with
  | nil => simp [loIdx]
  | cons x S ih => cases h : x.old <;> simp [loIdx, h] <;> have := ih (b + 1) <;> omega
theorem tearAll_none {b : Nat} {S : List Sec} (h : loIdx b S = []) (ks : List Int) : tearAll S ks = S := by
  induction S generalizing b ks with
  | nil => rfl
  | cons x S ih =>
    cases hx : x.old with
    | none =>
      simp only [loIdx, hx] at h
      simp only [tearAll, hx]
      rw [ih h]
    | some o => simp [loIdx, hx] at h
/-- The first sector that is not safe is torn. -/
theorem tear_step {b i : Nat} {S : List Sec} {r : List Nat} (h : loIdx b S = i :: r) (ks : List Int) :
    ∃ j o, i = b + j ∧ ∃ hj : j < S.length, S[j].old = some o ∧ tearAll (S.set j (tornS S[j] (nextK ks))) ks.tail = tearAll S ks ∧ loIdx b (S.set j (tornS S[j] (nextK ks))) = r := by
  induction S generalizing b with
  | nil => simp [loIdx] at h
  | cons x S ih =>
    cases hx : x.old with
    | none =>
      simp only [loIdx, hx] at h
      obtain ⟨j, o, e, hj, h1, h2, h3⟩ := ih h
      refine ⟨j + 1, o, by omega, by simpa using hj, by simpa using h1, ?_, ?_⟩
      · simp only [List.set_cons_succ, List.getElem_cons_succ, tearAll, hx]
        rw [h2]
      · simp only [List.set_cons_succ, List.getElem_cons_succ, loIdx, hx]
        exact h3
    | some o =>
      simp only [loIdx, hx, List.cons.injEq] at h
      refine ⟨0, o, by omega, by simp, by simpa using hx, ?_, ?_⟩
      · simp [tearAll, hx, tornS]
      · simpa [loIdx, tornS] using h.2
theorem loIdx_torn (b : Nat) (S : List Sec) (ks : List Int) : loIdx b (tearAll S ks) = [] := by
  induction S generalizing b ks with
  | nil => rfl
  | cons x S ih => cases hx : x.old <;> simp [tearAll, hx, loIdx, ih, tornS]
theorem loIdx_set (b : Nat) (S : List Sec) : loIdx b (S.map setS) = [] := by
  induction S generalizing b with
  | nil => rfl
  | cons x S ih => simp [loIdx, ih, setS]
end Go.Proofs.YtnhnjdldgaaeoaaGreatDoor
