/-
  Plain facts on bytes: texts; what was laid is read as it was, what is read is laid as the very bytes.
-/
import Derived.Test.YtidlgecognedlaaGreatDoorLpl
namespace Go.Proofs.YtidlgecognedlaaGreatDoor.Lay
open Go

/-- A text's bytes, from its bytes' list. -/
def txtB (l : List UInt8) : List UInt8 := Lib.decDigits l.length ++ 58 :: l

/-- What a parsed length comes to: the error, the text, how many bytes. -/
def txtOf (x : Lib.NumEnd Int) (k : Nat) (r : List UInt8) : Nat × List UInt8 × Nat :=
  match x with
  | .ok v => if 16384 < v then (4, [], 0) else if ((r.length - (k + 1) : Nat) : Int) < v then (5, [], 0) else (0, (r.drop (k + 1)).take v.toNat, k + 1 + v.toNat)
  | _ => (4, [], 0)

/-- A text: the error, the text, how many bytes. -/
def readTxt (r : List UInt8) : Nat × List UInt8 × Nat :=
  if eodErr r 58 ≠ 0 then (eodErr r 58, [], 0)
  else txtOf (Lib.atoiAll (r.take (digRun r))) (digRun r) r

theorem eodz {r : List UInt8} {c : UInt8} (h : eodErr r c = 0) : 0 < digRun r ∧ digRun r < r.length ∧ r.getD (digRun r) 0 = c ∧ (1 < digRun r → r.getD 0 0 ≠ 48) := by
  unfold eodErr at h
  have hl := digRun_le r
  split at h
  · omega
  · split at h
    · omega
    · rename_i h1 h2
      refine ⟨?_, by omega, ?_, ?_⟩
      · rcases Nat.eq_zero_or_pos (digRun r) with h3 | h3
        · exact absurd (Or.inl h3) h2
        · exact h3
      · by_cases h3 : r.getD (digRun r) 0 = c
        · exact h3
        · exact absurd (Or.inr (Or.inl h3)) h2
      · intro h3 h4; exact h2 (Or.inr (Or.inr ⟨h3, h4⟩))

theorem readTxt_back (l : List UInt8) (hl : l.length ≤ 16384) (rest : List UInt8) : readTxt (txtB l ++ rest) = (0, l, (txtB l).length) := by
  obtain ⟨he, hd⟩ := eod_of (Lib.decDigits l.length) (dec_digits _) (dec_ne _) (dec_head1 _) 58 (by decide) (l ++ rest)
  have e : txtB l ++ rest = Lib.decDigits l.length ++ 58 :: (l ++ rest) := by simp [txtB]
  rw [e]
  unfold readTxt
  rw [he, hd, if_neg (by simp), List.take_left' rfl, atoi_dec _ (by omega)]
  simp only [txtOf]
  rw [if_neg (by omega), if_neg (by simp; omega)]
  have e2 : (Lib.decDigits l.length ++ 58 :: (l ++ rest)).drop ((Lib.decDigits l.length).length + 1) = l ++ rest := by
    rw [← List.drop_drop, List.drop_left' rfl]; rfl
  rw [e2, Int.toNat_natCast, List.take_left' rfl]
  simp [txtB]; omega

theorem take_succ_getD {r : List UInt8} {k : Nat} (h : k < r.length) : r.take (k + 1) = r.take k ++ [r.getD k 0] := by
  rw [List.take_succ_eq_append_getElem h]; simp [List.getD, h]

theorem take_ne {r : List UInt8} {k : Nat} (h0 : 0 < k) (h : k ≤ r.length) : r.take k ≠ [] := by
  intro h'; have := congrArg List.length h'; rw [List.length_take, List.length_nil] at this; omega

theorem getD_take0 {r : List UInt8} {k : Nat} (h : 0 < k) : (r.take k).getD 0 0 = r.getD 0 0 := by
  cases r with
  | nil => simp
  | cons c r => cases k with
    | zero => omega
    | succ k => simp

/-- Digits without a needless 0, read as an int without a sign, are that int's. -/
theorem atoi_once (l : List UInt8) (hl : ∀ c ∈ l, isDig c = true) (hne : l ≠ []) (h0 : 1 < l.length → l.getD 0 0 ≠ 48) (v : Int) (h : Lib.atoiAll l = .ok v) : 0 ≤ v ∧ v ≤ 9223372036854775807 ∧ Lib.decDigits v.toNat = l := by
  have hp := fun u => dec_parse l.length l rfl hne hl h0 u
  cases l with
  | nil => exact absurd rfl hne
  | cons c r =>
    have hc := isDig_ne (hl c (by simp))
    simp only [Lib.atoiAll] at h
    rw [if_neg (by omega)] at h
    simp only [Lib.parseMag] at h
    rw [if_neg (by simp)] at h
    rcases parse_digits (c :: r) hl 0 with ⟨u, hu⟩ | hu
    · rw [hu] at h
      simp only at h
      split at h
      · cases h
      · rename_i h1
        split at h
        · cases h
        · injection h with h
          rw [if_neg hc.2.2.1] at h
          have h2 : ¬ 9223372036854775808 ≤ u := fun h3 => h1 ⟨hc.2.2.1, h3⟩
          subst h
          exact ⟨by omega, by omega, by rw [Int.toNat_natCast]; exact hp u hu⟩
    · rw [hu] at h; simp only at h; cases h

theorem atoi_negonce (l : List UInt8) (hl : ∀ c ∈ l, isDig c = true) (hne : l ≠ []) (h0 : 1 < l.length → l.getD 0 0 ≠ 48) (hz : l.getD 0 0 ≠ 48) (v : Int) (h : Lib.atoiAll (45 :: l) = .ok v) : v < 0 ∧ -9223372036854775808 ≤ v ∧ Lib.decDigits v.natAbs = l := by
  have hp := fun u => dec_parse l.length l rfl hne hl h0 u
  simp only [Lib.atoiAll] at h
  rw [if_pos (Or.inr (by decide))] at h
  simp only [Lib.parseMag] at h
  rw [if_neg hne] at h
  rcases parse_digits l hl 0 with ⟨u, hu⟩ | hu
  · rw [hu] at h
    simp only at h
    have hu0 : u ≠ 0 := by
      intro e
      subst e
      have := hp 0 hu
      rw [Lib.decDigits_one (by omega)] at this
      rw [← this] at hz
      exact hz rfl
    split at h
    · cases h
    · split at h
      · cases h
      · rename_i h2
        have e45 : (45 : UInt8).toNat = 45 := by decide
        have h3 : ¬ 9223372036854775808 < u := fun h4 => h2 ⟨e45, h4⟩
        injection h with h
        rw [if_pos e45] at h
        subst h
        refine ⟨by omega, by omega, ?_⟩
        rw [Int.natAbs_neg, Int.natAbs_natCast]
        exact hp u hu
  · rw [hu] at h; simp only at h; cases h

theorem numOf_zero {x : Lib.NumEnd Int} {k c : Nat} {n : Int} (h : numOf x k = (0, n, c)) : x = .ok n ∧ c = k := by
  cases x with
  | ok v => simp only [numOf, Prod.mk.injEq] at h; exact ⟨by rw [h.2.1], h.2.2.symm⟩
  | _ => simp [numOf] at h

theorem neg_head {r : List UInt8} (h : isNeg r = true) : ∃ r', r = 45 :: r' := by
  cases r with
  | nil => simp [isNeg] at h
  | cons c r => simp [isNeg] at h; exact ⟨r, by rw [h]⟩

/-- What is read is laid as the very bytes: a number. -/
theorem readNum_once (r : List UInt8) (n : Int) (c : Nat) (h : readNum r = (0, n, c)) :
    r.take c = Lib.itoa n ++ [59] ∧ c ≤ r.length ∧ 1 ≤ c ∧ -9223372036854775808 ≤ n ∧ n ≤ 9223372036854775807 := by
  unfold readNum at h
  split at h
  · rename_i he
    simp only [Prod.mk.injEq] at h
    exact absurd h.1 he
  · rename_i he
    have he : eodErr (r.drop (negLen r)) 59 = 0 := by omega
    split at h
    · simp at h
    · rename_i hz
      obtain ⟨hv, rfl⟩ := numOf_zero h
      obtain ⟨k0, k1, k2, k3⟩ := eodz he
      cases hneg : isNeg r with
      | true =>
        obtain ⟨r', rfl⟩ := neg_head hneg
        have hnl : negLen (45 :: r') = 1 := by unfold negLen; rw [if_pos hneg]
        rw [hnl] at he hz hv k0 k1 k2 k3 ⊢
        rw [show (45 :: r').drop 1 = r' from rfl] at he hz hv k0 k1 k2 k3 ⊢
        have ht : (45 :: r').take (1 + digRun r') = 45 :: r'.take (digRun r') := by rw [Nat.add_comm, List.take_succ_cons]
        rw [ht] at hv
        obtain ⟨n0, n1, n2⟩ := atoi_negonce (r'.take (digRun r')) (digRun_all r') (take_ne k0 (by omega)) (fun h1 => by rw [getD_take0 k0]; exact k3 (by rw [List.length_take] at h1; omega)) (by rw [getD_take0 k0]; exact fun h' => hz ⟨hneg, h'⟩) n hv
        refine ⟨?_, by rw [List.length_cons]; omega, by omega, n1, by omega⟩
        rw [show 1 + digRun r' + 1 = (digRun r' + 1) + 1 by omega, List.take_succ_cons, take_succ_getD k1, k2]
        unfold Lib.itoa
        rw [if_pos n0, n2]; rfl
      | false =>
        have hnl : negLen r = 0 := by unfold negLen; rw [hneg]; rfl
        rw [hnl] at he hz hv k0 k1 k2 k3 ⊢
        rw [List.drop_zero] at he hz hv k0 k1 k2 k3 ⊢
        rw [Nat.zero_add] at hv ⊢
        obtain ⟨n0, n1, n2⟩ := atoi_once (r.take (digRun r)) (digRun_all r) (take_ne k0 (by omega)) (fun h1 => by rw [getD_take0 k0]; exact k3 (by rw [List.length_take] at h1; omega)) n hv
        refine ⟨?_, by omega, by omega, by omega, n1⟩
        rw [take_succ_getD k1, k2]
        unfold Lib.itoa
        rw [if_neg (by omega), n2]

/-- What is read is laid as the very bytes: a text. -/
theorem readTxt_once (r t : List UInt8) (c : Nat) (h : readTxt r = (0, t, c)) : r.take c = txtB t ∧ c ≤ r.length ∧ 1 ≤ c ∧ t.length ≤ 16384 := by
  unfold readTxt at h
  split at h
  · rename_i he
    simp only [Prod.mk.injEq] at h
    exact absurd h.1 he
  · rename_i he
    have he : eodErr r 58 = 0 := by omega
    obtain ⟨k0, k1, k2, k3⟩ := eodz he
    cases hx : Lib.atoiAll (r.take (digRun r)) with
    | ok v =>
      rw [hx] at h
      simp only [txtOf] at h
      split at h
      · simp at h
      · split at h
        · simp at h
        · rename_i h1 h2
          simp only [Prod.mk.injEq, true_and] at h
          obtain ⟨rfl, rfl⟩ := h
          obtain ⟨n0, n1, n2⟩ := atoi_once (r.take (digRun r)) (digRun_all r) (take_ne k0 (by omega)) (fun h1 => by rw [getD_take0 k0]; exact k3 (by rw [List.length_take] at h1; omega)) v hx
          have hlen : ((r.drop (digRun r + 1)).take v.toNat).length = v.toNat := by rw [List.length_take, List.length_drop]; omega
          refine ⟨?_, by omega, by omega, by rw [hlen]; omega⟩
          unfold txtB
          rw [hlen, n2, List.take_add, take_succ_getD k1, k2]
          simp
    | _ => rw [hx] at h; simp [txtOf] at h

end Go.Proofs.YtidlgecognedlaaGreatDoor.Lay
