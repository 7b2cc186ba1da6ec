/-
  Plain facts on bytes: digits, numbers as digits and back, what stands at a place.
-/
import Derived.Lib.AtoiAll
import Derived.Lib.ItoaNum
namespace Go.Proofs.YtidlgecognedlaaGreatDoor.Lay
open Go

/-- Is it a digit? -/
def isDig (c : UInt8) : Bool := decide (48 ≤ c.toNat) && decide (c.toNat ≤ 57)

/-- How many digits stand ahead? -/
def digRun (r : List UInt8) : Nat := (r.takeWhile isDig).length

theorem digRun_le (r : List UInt8) : digRun r ≤ r.length := by
  unfold digRun; exact List.Sublist.length_le (List.takeWhile_sublist _)

theorem take_digRun (r : List UInt8) : r.take (digRun r) = r.takeWhile isDig := by
  unfold digRun
  induction r with
  | nil => simp
  | cons c r ih =>
    rw [List.takeWhile_cons]
    by_cases h : isDig c = true
    · simp [h, ih]
    · simp [h]

theorem digRun_all (r : List UInt8) : ∀ c ∈ r.take (digRun r), isDig c = true := by
  rw [take_digRun]
  intro c hc
  have := List.all_takeWhile (p := isDig) (l := r)
  rw [List.all_eq_true] at this
  exact this c hc

theorem digRun_at (r : List UInt8) (j : Nat) (h : j < digRun r) : isDig (r.getD j 0) = true := by
  have hl := digRun_le r
  have e : r.getD j 0 = (r.take (digRun r))[j]'(by simp; omega) := by simp [List.getD, show j < r.length by omega]
  rw [e]
  exact digRun_all r _ (List.getElem_mem _)

theorem digRun_append (l : List UInt8) (hl : ∀ c ∈ l, isDig c = true) (c : UInt8) (hc : isDig c = false) (r : List UInt8) : digRun (l ++ c :: r) = l.length := by
  induction l with
  | nil => simp [digRun, hc]
  | cons x l ih =>
    have hx := hl x (by simp)
    have := ih (fun y hy => hl y (by simp [hy]))
    simp only [digRun, List.cons_append, List.takeWhile_cons, hx, if_true, List.length_cons] at *
    omega

theorem digRun_stop (r : List UInt8) (h : digRun r < r.length) : isDig (r.getD (digRun r) 0) = false := by
  induction r with
  | nil => simp at h
  | cons c r ih =>
    by_cases hc : isDig c = true
    · have e : digRun (c :: r) = digRun r + 1 := by simp [digRun, hc]
      rw [e] at h ⊢
      simp only [List.length_cons] at h
      simpa using ih (by omega)
    · have e : digRun (c :: r) = 0 := by simp [digRun, hc]
      rw [e]
      simpa using hc

/-! ### Digits as a number -/

theorem parse_append (l r : List UInt8) : ∀ (acc m : Nat), Lib.parseUint10 acc l = .ok m → Lib.parseUint10 acc (l ++ r) = Lib.parseUint10 m r := by
  induction l with
  | nil => intro acc m h; simp [Lib.parseUint10] at h; subst h; rfl
  | cons c l ih =>
    intro acc m h
    simp only [Lib.parseUint10, List.cons_append] at h ⊢
    split at h
    · rename_i hd
      rw [if_pos hd]
      split at h
      · cases h
      · rename_i h1
        rw [if_neg h1]
        split at h
        · cases h
        · rename_i h2
          rw [if_neg h2]
          exact ih _ _ h
    · cases h

theorem parse_prefix (l r : List UInt8) : ∀ (acc m : Nat), Lib.parseUint10 acc (l ++ r) = .ok m → ∃ k, Lib.parseUint10 acc l = .ok k := by
  induction l with
  | nil => intro acc m h; exact ⟨acc, rfl⟩
  | cons c l ih =>
    intro acc m h
    simp only [Lib.parseUint10, List.cons_append] at h ⊢
    split at h
    · rename_i hd
      rw [if_pos hd]
      split at h
      · cases h
      · rename_i h1
        rw [if_neg h1]
        split at h
        · cases h
        · rename_i h2
          rw [if_neg h2]
          exact ih _ _ h
    · cases h

theorem parse_digits (l : List UInt8) (hl : ∀ c ∈ l, isDig c = true) : ∀ acc, (∃ u, Lib.parseUint10 acc l = .ok u) ∨ Lib.parseUint10 acc l = .range := by
  induction l with
  | nil => intro acc; exact .inl ⟨acc, rfl⟩
  | cons c l ih =>
    intro acc
    have hc := hl c (by simp)
    simp only [isDig, Bool.and_eq_true, decide_eq_true_eq] at hc
    simp only [Lib.parseUint10]
    rw [if_pos hc]
    split
    · exact .inr rfl
    · split
      · exact .inr rfl
      · exact ih (fun y hy => hl y (by simp [hy])) _

theorem dig_byte (d : Nat) (h : d < 10) : (UInt8.ofNat (48 + d)).toNat = 48 + d := by
  rw [UInt8.toNat_ofNat']; omega

theorem parse_one (acc d : Nat) (hd : d < 10) (h : acc * 10 + d < 18446744073709551616) : Lib.parseUint10 acc [UInt8.ofNat (48 + d)] = .ok (acc * 10 + d) := by
  have e := dig_byte d hd
  simp only [Lib.parseUint10, e]
  rw [if_pos (by omega), if_neg (by omega), if_neg (by omega)]
  congr 1; omega

theorem parse_dec : ∀ (u : Nat), u < 18446744073709551616 → Lib.parseUint10 0 (Lib.decDigits u) = .ok u := by
  intro u
  induction u using Nat.strongRecOn with
  | ind u ih =>
  intro hu
  by_cases h : u < 10
  · rw [Lib.decDigits_one h, parse_one 0 u h (by omega)]; simp
  · rw [Lib.decDigits, dif_neg h, parse_append _ _ 0 (u / 10) (ih _ (by omega) (by omega)), parse_one _ _ (Nat.mod_lt _ (by decide)) (by omega)]
    congr 1; omega

theorem dec_digits (u : Nat) : ∀ c ∈ Lib.decDigits u, isDig c = true := by
  induction u using Nat.strongRecOn with
  | ind u ih =>
  by_cases h : u < 10
  · rw [Lib.decDigits_one h]
    intro c hc
    simp only [List.mem_singleton] at hc
    subst hc
    have := dig_byte u h
    simp [isDig]; omega
  · rw [Lib.decDigits, dif_neg h]
    intro c hc
    rw [List.mem_append] at hc
    rcases hc with hc | hc
    · exact ih _ (by omega) c hc
    · simp only [List.mem_singleton] at hc
      subst hc
      have := dig_byte (u % 10) (Nat.mod_lt _ (by decide))
      simp [isDig]; omega

theorem dec_ne (u : Nat) : Lib.decDigits u ≠ [] := by
  intro h
  have := Lib.decDigits_length u
  have h1 := Lib.nDigits_pos u
  rw [h] at this
  simp at this
  omega

/-- The first of several digits is no 0. -/
theorem dec_head : ∀ (u : Nat), 10 ≤ u → (Lib.decDigits u).getD 0 0 ≠ 48 := by
  intro u
  induction u using Nat.strongRecOn with
  | ind u ih =>
  intro h
  rw [Lib.decDigits, dif_neg (by omega)]
  by_cases h2 : u / 10 < 10
  · rw [Lib.decDigits_one h2]
    have e := dig_byte (u / 10) h2
    intro hc
    have := congrArg UInt8.toNat hc
    simp at this
    omega
  · have := ih (u / 10) (by omega) (by omega)
    have hne := dec_ne (u / 10)
    cases hd : Lib.decDigits (u / 10) with
    | nil => exact absurd hd hne
    | cons x l => rw [hd] at this; simpa using this

/-- Digits without a needless 0 are their number's. -/
theorem dec_parse (n : Nat) : ∀ (l : List UInt8), l.length = n → l ≠ [] → (∀ c ∈ l, isDig c = true) → (1 < l.length → l.getD 0 0 ≠ 48) → ∀ u, Lib.parseUint10 0 l = .ok u → Lib.decDigits u = l := by
  induction n with
  | zero => intro l h hne; simp at h; exact absurd h hne
  | succ n ih =>
    intro l hl hne hd h0 u hu
    obtain ⟨l', c, rfl⟩ : ∃ l' c, l = l' ++ [c] := ⟨l.dropLast, l.getLast hne, (List.dropLast_concat_getLast hne).symm⟩
    have hc : isDig c = true := hd c (by simp)
    simp only [isDig, Bool.and_eq_true, decide_eq_true_eq] at hc
    have hcb : UInt8.ofNat (48 + (c.toNat - 48)) = c := by
      rw [show 48 + (c.toNat - 48) = c.toNat by omega]; exact UInt8.ofNat_toNat
    obtain ⟨m, hm⟩ := parse_prefix l' [c] 0 u hu
    rw [parse_append l' [c] 0 m hm] at hu
    simp only [Lib.parseUint10] at hu
    rw [if_pos hc] at hu
    split at hu
    · cases hu
    split at hu
    · cases hu
    injection hu with hu
    by_cases hl' : l' = []
    · subst hl'
      simp [Lib.parseUint10] at hm
      subst hm
      have : u = c.toNat - 48 := by omega
      subst this
      rw [Lib.decDigits_one (by omega), hcb]; rfl
    · have hih := ih l' (by simp at hl; omega) hl' (fun x hx => hd x (by simp [hx])) (fun h1 => by
        have := h0 (by simp; omega)
        cases l' with
        | nil => exact absurd rfl hl'
        | cons x r => simpa using this) m hm
      have hm0 : 1 ≤ m := by
        rcases Nat.eq_zero_or_pos m with h | h
        · subst h
          have e : Lib.decDigits 0 = [48] := by rw [Lib.decDigits_one (by omega)]; rfl
          rw [e] at hih
          subst hih
          exact absurd rfl (h0 (by simp))
        · exact h
      have e1 : u / 10 = m := by omega
      have e2 : u % 10 = c.toNat - 48 := by omega
      rw [Lib.decDigits, dif_neg (by omega), e1, e2, hcb, hih]

/-! ### What stands at a place -/

/-- What is wrong with the digits that stand ahead: 5: all ends behind them; 6: there is none, the byte behind them is another one, the first of several is 0; 0: nothing. -/
def eodErr (r : List UInt8) (stop : UInt8) : Nat :=
  if digRun r = r.length then 5
  else if digRun r = 0 ∨ r.getD (digRun r) 0 ≠ stop ∨ (1 < digRun r ∧ r.getD 0 0 = 48) then 6
  else 0

theorem eodErr_le (r : List UInt8) (stop : UInt8) : eodErr r stop ≤ 6 := by unfold eodErr; split <;> (try split) <;> omega

/-- Does a '-' stand ahead? -/
def isNeg (r : List UInt8) : Bool := r.getD 0 0 == 45
def negLen (r : List UInt8) : Nat := if isNeg r then 1 else 0

/-- What a parsed number comes to: the error, the number, how many bytes. -/
def numOf (x : Lib.NumEnd Int) (c : Nat) : Nat × Int × Nat :=
  match x with
  | .ok v => (0, v, c)
  | _ => (4, 0, 0)

/-- A number: the error, the number, how many bytes. -/
def readNum (r : List UInt8) : Nat × Int × Nat :=
  if eodErr (r.drop (negLen r)) 59 ≠ 0 then (eodErr (r.drop (negLen r)) 59, 0, 0)
  else if isNeg r ∧ (r.drop (negLen r)).getD 0 0 = 48 then (6, 0, 0)
  else numOf (Lib.atoiAll (r.take (negLen r + digRun (r.drop (negLen r))))) (negLen r + digRun (r.drop (negLen r)) + 1)

theorem eod_of (l : List UInt8) (hl : ∀ c ∈ l, isDig c = true) (hne : l ≠ []) (h0 : 1 < l.length → l.getD 0 0 ≠ 48) (stop : UInt8) (hs : isDig stop = false) (rest : List UInt8) :
    eodErr (l ++ stop :: rest) stop = 0 ∧ digRun (l ++ stop :: rest) = l.length := by
  have e := digRun_append l hl stop hs rest
  refine ⟨?_, e⟩
  unfold eodErr
  rw [e, if_neg (by simp), if_neg]
  intro h
  have hlen : 0 < l.length := List.length_pos_iff.2 hne
  rcases h with h | h | ⟨h1, h2⟩
  · omega
  · exact h (by simp [List.getD])
  · cases l with
    | nil => exact hne rfl
    | cons x l => exact h0 h1 (by simpa using h2)

theorem isDig_ne {c : UInt8} (h : isDig c = true) : c ≠ 45 ∧ c ≠ 43 ∧ c.toNat ≠ 45 ∧ c.toNat ≠ 43 := by
  simp only [isDig, Bool.and_eq_true, decide_eq_true_eq] at h
  refine ⟨fun e => ?_, fun e => ?_, by omega, by omega⟩
  · subst e; revert h; decide
  · subst e; revert h; decide

theorem dec_head1 (u : Nat) (h : 1 < (Lib.decDigits u).length) : (Lib.decDigits u).getD 0 0 ≠ 48 := by
  apply dec_head
  rcases Nat.lt_or_ge u 10 with h1 | h1
  · rw [Lib.decDigits_one h1] at h; simp at h
  · exact h1

theorem dec_headNz (u : Nat) (h : 1 ≤ u) : (Lib.decDigits u).getD 0 0 ≠ 48 := by
  rcases Nat.lt_or_ge u 10 with h1 | h1
  · rw [Lib.decDigits_one h1]
    have e := dig_byte u h1
    intro hc
    have := congrArg UInt8.toNat hc
    simp at this
    omega
  · exact dec_head u h1

theorem atoi_dec (u : Nat) (h : u ≤ 9223372036854775807) : Lib.atoiAll (Lib.decDigits u) = .ok (u : Int) := by
  have hp := parse_dec u (by omega)
  have hd := dec_digits u
  cases hl : Lib.decDigits u with
  | nil => exact absurd hl (dec_ne u)
  | cons c r =>
    rw [hl] at hp hd
    have hc := isDig_ne (hd c (by simp))
    simp only [Lib.atoiAll]
    rw [if_neg (by omega)]
    simp only [Lib.parseMag]
    rw [if_neg (by simp), hp]
    simp only
    rw [if_neg (by omega), if_neg (by omega), if_neg hc.2.2.1]

theorem atoi_negdec (u : Nat) (h : u ≤ 9223372036854775808) : Lib.atoiAll (45 :: Lib.decDigits u) = .ok (-(u : Int)) := by
  have hp := parse_dec u (by omega)
  simp only [Lib.atoiAll]
  rw [if_pos (Or.inr (by decide))]
  simp only [Lib.parseMag]
  rw [if_neg (dec_ne u), hp]
  have h2 : ¬ 9223372036854775808 < u := by omega
  simp [h2]

/-- What was laid is read as it was. -/
theorem readNum_back (n : Int) (h0 : -9223372036854775808 ≤ n) (h1 : n ≤ 9223372036854775807) (rest : List UInt8) :
    readNum (Lib.itoa n ++ 59 :: rest) = (0, n, (Lib.itoa n).length + 1) := by
  by_cases hn : n < 0
  · have e : Lib.itoa n = 45 :: Lib.decDigits n.natAbs := by unfold Lib.itoa; rw [if_pos hn]
    have hneg : isNeg (45 :: Lib.decDigits n.natAbs ++ 59 :: rest) = true := by simp [isNeg]
    have hnl : negLen (45 :: Lib.decDigits n.natAbs ++ 59 :: rest) = 1 := by unfold negLen; rw [if_pos hneg]
    have hdr : (45 :: Lib.decDigits n.natAbs ++ 59 :: rest).drop 1 = Lib.decDigits n.natAbs ++ 59 :: rest := rfl
    obtain ⟨he, hd⟩ := eod_of (Lib.decDigits n.natAbs) (dec_digits _) (dec_ne _) (dec_head1 _) 59 (by decide) rest
    rw [e]
    unfold readNum
    rw [hnl, hdr, he, hd, if_neg (by simp), if_neg]
    · have ht : (45 :: Lib.decDigits n.natAbs ++ 59 :: rest).take (1 + (Lib.decDigits n.natAbs).length) = 45 :: Lib.decDigits n.natAbs := by
        rw [Nat.add_comm, List.cons_append, List.take_succ_cons, List.take_left']; rfl
      rw [ht, atoi_negdec _ (by omega)]
      simp only [numOf, List.length_cons]
      rw [show -(n.natAbs : Int) = n by omega, Nat.add_comm 1]
    · rintro ⟨-, h⟩
      refine dec_headNz n.natAbs (by omega) ?_
      cases hl : Lib.decDigits n.natAbs with
      | nil => exact absurd hl (dec_ne _)
      | cons c r => rw [hl] at h; simpa using h
  · have e : Lib.itoa n = Lib.decDigits n.toNat := by unfold Lib.itoa; rw [if_neg hn]
    have hneg : isNeg (Lib.decDigits n.toNat ++ 59 :: rest) = false := by
      cases hl : Lib.decDigits n.toNat with
      | nil => exact absurd hl (dec_ne _)
      | cons c r =>
        have hc := isDig_ne (dec_digits n.toNat c (by rw [hl]; simp))
        simp [isNeg, hc.1]
    have hnl : negLen (Lib.decDigits n.toNat ++ 59 :: rest) = 0 := by unfold negLen; rw [hneg]; rfl
    obtain ⟨he, hd⟩ := eod_of (Lib.decDigits n.toNat) (dec_digits _) (dec_ne _) (dec_head1 _) 59 (by decide) rest
    rw [e]
    unfold readNum
    rw [hnl, List.drop_zero, he, hd, if_neg (by simp), if_neg (by simp [hneg])]
    have ht : (Lib.decDigits n.toNat ++ 59 :: rest).take (0 + (Lib.decDigits n.toNat).length) = Lib.decDigits n.toNat := by
      rw [Nat.zero_add, List.take_left']; rfl
    rw [ht, atoi_dec _ (by omega)]
    simp only [numOf]
    rw [show ((n.toNat : Nat) : Int) = n by omega, Nat.zero_add]

end Go.Proofs.YtidlgecognedlaaGreatDoor.Lay
