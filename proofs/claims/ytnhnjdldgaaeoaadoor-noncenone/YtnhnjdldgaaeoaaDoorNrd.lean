/-
  A number read digit by digit, below 0, as the reference reads it, is the number that the library's Atoi reads. No program plays a part.
-/
import Derived.Test.YtnhnjdldgaaeoaaDoorPlain
namespace Go.Proofs.YtnhnjdldgaaeoaaDoor
open Go
set_option maxRecDepth 100000

/-- The number that digits are, behind a number. -/
def valF (m : Nat) (l : List UInt8) : Nat := l.foldl (fun n c => n * 10 + (c.toNat - 48)) m
theorem valF_ge (l : List UInt8) : ∀ m, m ≤ valF m l := by
  induction l with
  | nil => intro m; exact Nat.le_refl _
  | cons c r ih =>
    intro m
    have h := ih (m * 10 + (c.toNat - 48))
    show m ≤ valF (m * 10 + (c.toNat - 48)) r
    omega
theorem isDig_iff (c : UInt8) : isDig c = true ↔ 48 ≤ c.toNat ∧ c.toNat ≤ 57 := by
  unfold isDig
  simp
theorem parse_is (l : List UInt8) (hl : ∀ c ∈ l, isDig c = true) : ∀ m, m < 18446744073709551616 → Lib.parseUint10 m l = if valF m l < 18446744073709551616 then .ok (valF m l) else .range := by
  induction l with
  | nil => intro m hm; rw [Lib.parseUint10]; show _ = if m < _ then _ else _; rw [if_pos hm]; rfl
  | cons c r ih =>
    intro m hm
    have hd := (isDig_iff c).1 (hl c (by simp))
    have e : valF m (c :: r) = valF (m * 10 + (c.toNat - 48)) r := rfl
    have hg := valF_ge r (m * 10 + (c.toNat - 48))
    rw [Lib.parseUint10, if_pos hd, e]
    by_cases h1 : 1844674407370955162 ≤ m
    · rw [if_pos h1, if_neg (by omega)]
    · rw [if_neg h1]
      by_cases h2 : 18446744073709551616 ≤ m * 10 + (c.toNat - 48)
      · rw [if_pos h2, if_neg (by omega)]
      · rw [if_neg h2]
        exact ih (fun x hx => hl x (by simp [hx])) _ (by omega)
/-- The reference's way: below 0. -/
def rdF : Int → List UInt8 → Option Int
  | n, [] => some n
  | n, c :: r => if n < (-9223372036854775808 + ((c.toNat : Int) - 48)).tdiv 10 then none else rdF (n * 10 - ((c.toNat : Int) - 48)) r
theorem tdiv_ten (m d : Nat) (hd : d ≤ 9) : (-(m : Int)) < (-9223372036854775808 + (d : Int)).tdiv 10 ↔ 9223372036854775808 < m * 10 + d := by
  have e : (-9223372036854775808 + (d : Int)).tdiv 10 = -(((9223372036854775808 - d) / 10 : Nat) : Int) := by
    have h1 : (-9223372036854775808 + (d : Int)) = -((9223372036854775808 - d : Nat) : Int) := by omega
    rw [h1, Int.neg_tdiv]
    rfl
  rw [e]
  omega
theorem rdF_is (l : List UInt8) (hl : ∀ c ∈ l, isDig c = true) : ∀ m : Nat, m ≤ 9223372036854775808 → rdF (-(m : Int)) l = if valF m l ≤ 9223372036854775808 then some (-(valF m l : Int)) else none := by
  induction l with
  | nil => intro m hm; rw [rdF]; show _ = if m ≤ _ then _ else _; rw [if_pos hm]; rfl
  | cons c r ih =>
    intro m hm
    have hd := (isDig_iff c).1 (hl c (by simp))
    have e : valF m (c :: r) = valF (m * 10 + (c.toNat - 48)) r := rfl
    have hg := valF_ge r (m * 10 + (c.toNat - 48))
    have ec : (c.toNat : Int) - 48 = ((c.toNat - 48 : Nat) : Int) := by omega
    have ht := tdiv_ten m (c.toNat - 48) (by omega)
    rw [rdF, e, ec]
    by_cases h1 : 9223372036854775808 < m * 10 + (c.toNat - 48)
    · rw [if_pos (ht.2 h1), if_neg (by omega)]
    · rw [if_neg (fun h => h1 (ht.1 h))]
      have e2 : -(m : Int) * 10 - ((c.toNat - 48 : Nat) : Int) = -((m * 10 + (c.toNat - 48) : Nat) : Int) := by omega
      rw [e2]
      exact ih (fun x hx => hl x (by simp [hx])) _ (by omega)
/-- What the reference makes of it: the number, or it is too great. -/
def numR (neg : Bool) (x : Option Int) (c : Nat) : Nat × Int × Nat :=
  match x with
  | none => (4, 0, 0)
  | some n => if neg then (0, n, c) else if n = -9223372036854775808 then (4, 0, 0) else (0, -n, c)
theorem num_pos (l : List UInt8) (hl : ∀ c ∈ l, isDig c = true) (hne : l ≠ []) (c : Nat) : numOf (Lib.atoiAll l) c = numR false (rdF 0 l) c := by
  have hr := rdF_is l hl 0 (by omega)
  have hp := parse_is l hl 0 (by omega)
  simp only [Int.natCast_zero, Int.neg_zero] at hr
  rw [hr]
  match l, hne, hl, hp with
  | a :: r, _, hl, hp =>
    have hd := isDig_ne (hl a (by simp))
    unfold Lib.atoiAll Lib.parseMag
    simp only [hd.2.2.1, hd.2.2.2, or_self, if_false]
    rw [if_neg (by simp), hp]
    generalize valF 0 (a :: r) = v
    by_cases h1 : v < 18446744073709551616
    · rw [if_pos h1]
      by_cases h2 : 9223372036854775808 ≤ v
      · simp only [not_false_eq_true, true_and, if_pos h2]
        by_cases h3 : v ≤ 9223372036854775808
        · obtain rfl : v = 9223372036854775808 := by omega
          rfl
        · rw [if_neg h3]
          rfl
      · simp only [not_false_eq_true, true_and, if_neg h2, false_and, if_false]
        rw [if_pos (by omega)]
        simp only [numOf, numR, Bool.false_eq_true, if_false]
        rw [if_neg (by omega)]
        simp
    · rw [if_neg h1, if_neg (by omega)]
      rfl
theorem num_neg (l : List UInt8) (hl : ∀ c ∈ l, isDig c = true) (hne : l ≠ []) (c : Nat) : numOf (Lib.atoiAll (45 :: l)) c = numR true (rdF 0 l) c := by
  have hr := rdF_is l hl 0 (by omega)
  have hp := parse_is l hl 0 (by omega)
  simp only [Int.natCast_zero, Int.neg_zero] at hr
  rw [hr]
  have e45 : ((45 : UInt8).toNat = 45) = True := by simp
  unfold Lib.atoiAll Lib.parseMag
  simp only [e45, or_true, if_true]
  rw [if_neg hne, hp]
  generalize valF 0 l = v
  by_cases h1 : v < 18446744073709551616
  · rw [if_pos h1]
    by_cases h2 : 9223372036854775808 < v
    · simp only [not_true_eq_false, false_and, if_false, true_and, if_pos h2]
      rw [if_neg (by omega)]
      rfl
    · simp only [not_true_eq_false, false_and, if_false, true_and, if_neg h2]
      rw [if_pos (by omega)]
      rfl
  · rw [if_neg h1, if_neg (by omega)]
    rfl
theorem eod_pos {r : List UInt8} {c : UInt8} (h : eodErr r c = 0) : 0 < digRun r := by
  unfold eodErr at h
  by_cases h1 : digRun r = r.length
  · rw [if_pos h1] at h; cases h
  · rw [if_neg h1] at h
    by_cases h2 : digRun r = 0
    · rw [if_pos (.inl h2)] at h; cases h
    · omega
/-- What is read, by the reference's way. -/
theorem readNum_ref (r : List UInt8) : readNum r = if eodErr (r.drop (negLen r)) 59 ≠ 0 then (eodErr (r.drop (negLen r)) 59, 0, 0) else if isNeg r ∧ (r.drop (negLen r)).getD 0 0 = 48 then (6, 0, 0)
    else numR (isNeg r) (rdF 0 ((r.drop (negLen r)).take (digRun (r.drop (negLen r))))) (negLen r + digRun (r.drop (negLen r)) + 1) := by
  unfold readNum
  by_cases h1 : eodErr (r.drop (negLen r)) 59 = 0
  · have h1' : ¬ (eodErr (r.drop (negLen r)) 59 ≠ 0) := fun e => e h1
    simp only [if_neg h1']
    by_cases h2 : isNeg r ∧ (r.drop (negLen r)).getD 0 0 = 48
    · simp only [if_pos h2]
    · simp only [if_neg h2]
      have hp := eod_pos h1
      have hd := digRun_all (r.drop (negLen r))
      have hne : (r.drop (negLen r)).take (digRun (r.drop (negLen r))) ≠ [] := by
        intro e
        have h9 := congrArg List.length e
        have h8 := digRun_le (r.drop (negLen r))
        rw [List.length_take, List.length_nil] at h9
        omega
      cases hn : isNeg r with
      | false =>
        have e0 : negLen r = 0 := by unfold negLen; rw [hn]; rfl
        rw [e0] at hd hne ⊢
        simp only [List.drop_zero, Nat.zero_add] at hd hne ⊢
        exact num_pos _ hd hne _
      | true =>
        have e0 : negLen r = 1 := by unfold negLen; rw [hn]; rfl
        rw [e0] at hd hne ⊢
        obtain ⟨r', rfl⟩ : ∃ r', r = 45 :: r' := by
          cases r with
          | nil => simp [isNeg] at hn
          | cons a r' => simp [isNeg] at hn; exact ⟨r', by rw [hn]⟩
        simp only [List.drop_succ_cons, List.drop_zero] at hd hne ⊢
        rw [Nat.add_comm 1 (digRun r'), List.take_succ_cons]
        exact num_neg _ hd hne _
  · simp only [if_pos (show eodErr (r.drop (negLen r)) 59 ≠ 0 from h1)]
end Go.Proofs.YtnhnjdldgaaeoaaDoor
