/-
  Messages as plain data, and as rows of cells. No program plays a part.
-/
import Derived.WalkKit
import Derived.Lib.AtoiAll
import Derived.Lib.ItoaNum
namespace Go.Proofs.YtekfcbedlokidaaGreatDoor.Ms
open Go
set_option maxRecDepth 100000
def bv (c : UInt8) : Int := (c.toNat : Int)
abbrev cb (c : UInt8) : Value := .int .u8 (bv c)
def dg (d : List UInt8) : List Value := d.map cb
abbrev st (s : List UInt8) : Value := .string ⟨s.toArray⟩
abbrev nu (n : Int) : Value := .int .i64 n
structure Sub where
  number : Int
  kind : Int
  target : Int
  value : List UInt8
  asked : List UInt8
  data : List UInt8
structure Pen where
  client : Int
  number : Int
  kind : Int
  target : Int
  asked : List UInt8
  proof : List UInt8
structure Rep where
  number : Int
  last : Int
  view : List UInt8
  commit : List UInt8
  pend : List Pen
  vnum : Int
  value : List UInt8
  data : List UInt8
  seen : List UInt8
  stag : List UInt8
structure Blo where
  owner : Int
  number : Int
  cipher : List UInt8
  tag : List UInt8
structure Msg where
  kind : Int
  client : Int
  sub : Sub
  rep : Rep
  view : List UInt8
  who : Int
  tag : List UInt8
  own : List UInt8
  blob : Blo
  nums : List Int
def subC (x : Sub) : List Value := [nu x.number, nu x.kind, nu x.target, st x.value] ++ (dg x.asked ++ dg x.data)
def penC (x : Pen) : List Value := [nu x.client, nu x.number, nu x.kind, nu x.target] ++ (dg x.asked ++ dg x.proof)
def repC (x : Rep) (vP : Value) : List Value := [nu x.number, nu x.last, st x.view] ++ (dg x.commit ++ ([vP, nu x.vnum, st x.value] ++ (dg x.data ++ ([st x.seen] ++ dg x.stag))))
def bloC (x : Blo) : List Value := [nu x.owner, nu x.number, st x.cipher] ++ dg x.tag
def msgC (m : Msg) (vP vN : Value) : List Value := [nu m.kind, nu m.client] ++ (subC m.sub ++ (repC m.rep vP ++ ([st m.view, nu m.who] ++ (dg m.tag ++ (dg m.own ++ (bloC m.blob ++ [vN]))))))
structure Sub.Wf (x : Sub) : Prop where
  asked : x.asked.length = 32
  data : x.data.length = 32
structure Pen.Wf (x : Pen) : Prop where
  asked : x.asked.length = 32
  proof : x.proof.length = 32
structure Rep.Wf (x : Rep) : Prop where
  commit : x.commit.length = 32
  data : x.data.length = 32
  stag : x.stag.length = 32
  pend : ∀ p ∈ x.pend, p.Wf
structure Blo.Wf (x : Blo) : Prop where
  tag : x.tag.length = 32
structure Msg.Wf (m : Msg) : Prop where
  sub : m.sub.Wf
  rep : m.rep.Wf
  tag : m.tag.length = 32
  own : m.own.length = 32
  blob : m.blob.Wf
theorem dg_len (d : List UInt8) : (dg d).length = d.length := by simp [dg]
theorem subC_len {x : Sub} (h : x.Wf) : (subC x).length = 68 := by simp [subC, dg_len, h.asked, h.data]
theorem penC_len {x : Pen} (h : x.Wf) : (penC x).length = 68 := by simp [penC, dg_len, h.asked, h.proof]
theorem repC_len {x : Rep} (h : x.Wf) (vP : Value) : (repC x vP).length = 103 := by simp [repC, dg_len, h.commit, h.data, h.stag]
theorem bloC_len {x : Blo} (h : x.Wf) : (bloC x).length = 35 := by simp [bloC, dg_len, h.tag]
theorem msgC_len {m : Msg} (h : m.Wf) (vP vN : Value) : (msgC m vP vN).length = 275 := by
  simp [msgC, dg_len, h.tag, h.own, subC_len h.sub, repC_len h.rep, bloC_len h.blob]
theorem mid_at {α : Type} (A cs C : List α) (off j : Nat) (v : α) (hA : A.length = off) (hj : cs[j]? = some v) : (A ++ (cs ++ C))[off + j]? = some v := by
  subst hA
  rw [List.getElem?_append_right (by omega)]
  have hl := (List.getElem?_eq_some_iff.1 hj).1
  rw [show A.length + j - A.length = j by omega, List.getElem?_append_left hl]
  exact hj
def sameS (a b : Sub) : Bool := a.number == b.number && (a.kind == b.kind && (a.target == b.target && (a.value == b.value && (a.asked == b.asked && a.data == b.data))))
def sameP (a b : Pen) : Bool := a.client == b.client && (a.number == b.number && (a.kind == b.kind && (a.target == b.target && (a.asked == b.asked && a.proof == b.proof))))
def sameB (a b : Blo) : Bool := a.owner == b.owner && (a.number == b.number && (a.cipher == b.cipher && a.tag == b.tag))
def sameL {α : Type} (f : α → α → Bool) : List α → List α → Bool
  | [], [] => true
  | x :: xs, y :: ys => f x y && sameL f xs ys
  | _, _ => false
def sameR (a b : Rep) : Bool := a.number == b.number && (a.last == b.last && (a.view == b.view && (a.commit == b.commit && (sameL sameP a.pend b.pend && (a.vnum == b.vnum && (a.value == b.value && (a.data == b.data && (a.seen == b.seen && a.stag == b.stag))))))))
def sameM (a b : Msg) : Bool := a.kind == b.kind && (a.client == b.client && (sameS a.sub b.sub && (sameR a.rep b.rep && (a.view == b.view && (a.who == b.who && (a.tag == b.tag && (a.own == b.own && (sameB a.blob b.blob && a.nums == b.nums))))))))
theorem sameS_iff (a b : Sub) : sameS a b = true ↔ a = b := by
  obtain ⟨a1, a2, a3, a4, a5, a6⟩ := a
  obtain ⟨b1, b2, b3, b4, b5, b6⟩ := b
  simp [sameS]
theorem sameP_iff (a b : Pen) : sameP a b = true ↔ a = b := by
  obtain ⟨a1, a2, a3, a4, a5, a6⟩ := a
  obtain ⟨b1, b2, b3, b4, b5, b6⟩ := b
  simp [sameP]
theorem sameL_iff {α : Type} (f : α → α → Bool) (hf : ∀ x y, f x y = true ↔ x = y) : ∀ a b : List α, sameL f a b = true ↔ a = b
  | [], [] => by simp [sameL]
  | [], y :: ys => by simp [sameL]
  | x :: xs, [] => by simp [sameL]
  | x :: xs, y :: ys => by simp [sameL, hf x y, sameL_iff f hf xs ys]
end Go.Proofs.YtekfcbedlokidaaGreatDoor.Ms
namespace Go.Proofs.YtekfcbedlokidaaGreatDoor.Lay
open Go
def isDig (c : UInt8) : Bool := decide (48 ≤ c.toNat) && decide (c.toNat ≤ 57)
def digRun (r : List UInt8) : Nat := (r.takeWhile isDig).length
theorem digRun_le (r : List UInt8) : digRun r ≤ r.length := by
  unfold digRun; exact List.Sublist.length_le (List.takeWhile_sublist _)
theorem take_digRun (r : List UInt8) : r.take (digRun r) = r.takeWhile isDig := by
  unfold digRun
  induction r with
  | nil => simp
  | cons c r ih =>
    rw [List.takeWhile_cons]
    by_cases h : isDig c = true
    · simp [h, ih]
    · simp [h]
theorem digRun_all (r : List UInt8) : ∀ c ∈ r.take (digRun r), isDig c = true := by
  rw [take_digRun]
  intro c hc
  have := List.all_takeWhile (p := isDig) (l := r)
  rw [List.all_eq_true] at this
  exact this c hc
theorem digRun_at (r : List UInt8) (j : Nat) (h : j < digRun r) : isDig (r.getD j 0) = true := by
  have hl := digRun_le r
  have e : r.getD j 0 = (r.take (digRun r))[j]'(by simp; omega) := by simp [List.getD, show j < r.length by omega]
  rw [e]
  exact digRun_all r _ (List.getElem_mem _)
theorem digRun_stop (r : List UInt8) (h : digRun r < r.length) : isDig (r.getD (digRun r) 0) = false := by
  induction r with
  | nil => simp at h
  | cons c r ih =>
    by_cases hc : isDig c = true
    · have e : digRun (c :: r) = digRun r + 1 := by simp [digRun, hc]
      rw [e] at h ⊢
      simp only [List.length_cons] at h
      simpa using ih (by omega)
    · have e : digRun (c :: r) = 0 := by simp [digRun, hc]
      rw [e]
      simpa using hc
theorem parse_append (l r : List UInt8) : ∀ (acc m : Nat), Lib.parseUint10 acc l = .ok m → Lib.parseUint10 acc (l ++ r) = Lib.parseUint10 m r := by
  induction l with
  | nil => intro acc m h; simp [Lib.parseUint10] at h; subst h; rfl
  | cons c l ih =>
    intro acc m h
    simp only [Lib.parseUint10, List.cons_append] at h ⊢
    split at h
    · rename_i hd
      rw [if_pos hd]
      split at h
      · cases h
      · rename_i h1
        rw [if_neg h1]
        split at h
        · cases h
        · rename_i h2
          rw [if_neg h2]
          exact ih _ _ h
    · cases h
theorem parse_prefix (l r : List UInt8) : ∀ (acc m : Nat), Lib.parseUint10 acc (l ++ r) = .ok m → ∃ k, Lib.parseUint10 acc l = .ok k := by
  induction l with
  | nil => intro acc m h; exact ⟨acc, rfl⟩
  | cons c l ih =>
    intro acc m h
    simp only [Lib.parseUint10, List.cons_append] at h ⊢
    split at h
    · rename_i hd
      rw [if_pos hd]
      split at h
      · cases h
      · rename_i h1
        rw [if_neg h1]
        split at h
        · cases h
        · rename_i h2
          rw [if_neg h2]
          exact ih _ _ h
    · cases h
theorem parse_digits (l : List UInt8) (hl : ∀ c ∈ l, isDig c = true) : ∀ acc, (∃ u, Lib.parseUint10 acc l = .ok u) ∨ Lib.parseUint10 acc l = .range := by
  induction l with
  | nil => intro acc; exact .inl ⟨acc, rfl⟩
  | cons c l ih =>
    intro acc
    have hc := hl c (by simp)
    simp only [isDig, Bool.and_eq_true, decide_eq_true_eq] at hc
    simp only [Lib.parseUint10]
    rw [if_pos hc]
    split
    · exact .inr rfl
    · split
      · exact .inr rfl
      · exact ih (fun y hy => hl y (by simp [hy])) _
theorem dec_parse (n : Nat) : ∀ (l : List UInt8), l.length = n → l ≠ [] → (∀ c ∈ l, isDig c = true) → (1 < l.length → l.getD 0 0 ≠ 48) → ∀ u, Lib.parseUint10 0 l = .ok u → Lib.decDigits u = l := by
  induction n with
  | zero => intro l h hne; simp at h; exact absurd h hne
  | succ n ih =>
    intro l hl hne hd h0 u hu
    obtain ⟨l', c, rfl⟩ : ∃ l' c, l = l' ++ [c] := ⟨l.dropLast, l.getLast hne, (List.dropLast_concat_getLast hne).symm⟩
    have hc : isDig c = true := hd c (by simp)
    simp only [isDig, Bool.and_eq_true, decide_eq_true_eq] at hc
    have hcb : UInt8.ofNat (48 + (c.toNat - 48)) = c := by
      rw [show 48 + (c.toNat - 48) = c.toNat by omega]; exact UInt8.ofNat_toNat
    obtain ⟨m, hm⟩ := parse_prefix l' [c] 0 u hu
    rw [parse_append l' [c] 0 m hm] at hu
    simp only [Lib.parseUint10] at hu
    rw [if_pos hc] at hu
    split at hu
    · cases hu
    split at hu
    · cases hu
    injection hu with hu
    by_cases hl' : l' = []
    · subst hl'
      simp [Lib.parseUint10] at hm
      subst hm
      have : u = c.toNat - 48 := by omega
      subst this
      rw [Lib.decDigits_one (by omega), hcb]; rfl
    · have hih := ih l' (by simp at hl; omega) hl' (fun x hx => hd x (by simp [hx])) (fun h1 => by
        have := h0 (by simp; omega)
        cases l' with
        | nil => exact absurd rfl hl'
        | cons x r => simpa using this) m hm
      have hm0 : 1 ≤ m := by
        rcases Nat.eq_zero_or_pos m with h | h
        · subst h
          have e : Lib.decDigits 0 = [48] := by rw [Lib.decDigits_one (by omega)]; rfl
          rw [e] at hih
          subst hih
          exact absurd rfl (h0 (by simp))
        · exact h
      have e1 : u / 10 = m := by omega
      have e2 : u % 10 = c.toNat - 48 := by omega
      rw [Lib.decDigits, dif_neg (by omega), e1, e2, hcb, hih]
def eodErr (r : List UInt8) (stop : UInt8) : Nat :=
  if digRun r = r.length then 5
  else if digRun r = 0 ∨ r.getD (digRun r) 0 ≠ stop ∨ (1 < digRun r ∧ r.getD 0 0 = 48) then 6
  else 0
def isNeg (r : List UInt8) : Bool := r.getD 0 0 == 45
def negLen (r : List UInt8) : Nat := if isNeg r then 1 else 0
def numOf (x : Lib.NumEnd Int) (c : Nat) : Nat × Int × Nat :=
  match x with
  | .ok v => (0, v, c)
  | _ => (4, 0, 0)
def readNum (r : List UInt8) : Nat × Int × Nat :=
  if eodErr (r.drop (negLen r)) 59 ≠ 0 then (eodErr (r.drop (negLen r)) 59, 0, 0)
  else if isNeg r ∧ (r.drop (negLen r)).getD 0 0 = 48 then (6, 0, 0)
  else numOf (Lib.atoiAll (r.take (negLen r + digRun (r.drop (negLen r))))) (negLen r + digRun (r.drop (negLen r)) + 1)
theorem isDig_ne {c : UInt8} (h : isDig c = true) : c ≠ 45 ∧ c ≠ 43 ∧ c.toNat ≠ 45 ∧ c.toNat ≠ 43 := by
  simp only [isDig, Bool.and_eq_true, decide_eq_true_eq] at h
  refine ⟨fun e => ?_, fun e => ?_, by omega, by omega⟩
  · subst e; revert h; decide
  · subst e; revert h; decide
open Go
def txtB (l : List UInt8) : List UInt8 := Lib.decDigits l.length ++ 58 :: l
def txtOf (x : Lib.NumEnd Int) (k : Nat) (r : List UInt8) : Nat × List UInt8 × Nat :=
  match x with
  | .ok v => if 16384 < v then (4, [], 0) else if ((r.length - (k + 1) : Nat) : Int) < v then (5, [], 0) else (0, (r.drop (k + 1)).take v.toNat, k + 1 + v.toNat)
  | _ => (4, [], 0)
def readTxt (r : List UInt8) : Nat × List UInt8 × Nat :=
  if eodErr r 58 ≠ 0 then (eodErr r 58, [], 0)
  else txtOf (Lib.atoiAll (r.take (digRun r))) (digRun r) r
theorem eodz {r : List UInt8} {c : UInt8} (h : eodErr r c = 0) : 0 < digRun r ∧ digRun r < r.length ∧ r.getD (digRun r) 0 = c ∧ (1 < digRun r → r.getD 0 0 ≠ 48) := by
  unfold eodErr at h
  have hl := digRun_le r
  split at h
  · omega
  · split at h
    · omega
    · rename_i h1 h2
      refine ⟨?_, by omega, ?_, ?_⟩
      · rcases Nat.eq_zero_or_pos (digRun r) with h3 | h3
        · exact absurd (Or.inl h3) h2
        · exact h3
      · by_cases h3 : r.getD (digRun r) 0 = c
        · exact h3
        · exact absurd (Or.inr (Or.inl h3)) h2
      · intro h3 h4; exact h2 (Or.inr (Or.inr ⟨h3, h4⟩))
theorem take_succ_getD {r : List UInt8} {k : Nat} (h : k < r.length) : r.take (k + 1) = r.take k ++ [r.getD k 0] := by
  rw [List.take_succ_eq_append_getElem h]; simp [List.getD, h]
theorem take_ne {r : List UInt8} {k : Nat} (h0 : 0 < k) (h : k ≤ r.length) : r.take k ≠ [] := by
  intro h'; have := congrArg List.length h'; rw [List.length_take, List.length_nil] at this; omega
theorem getD_take0 {r : List UInt8} {k : Nat} (h : 0 < k) : (r.take k).getD 0 0 = r.getD 0 0 := by
  cases r with
  | nil => simp
  | cons c r => cases k with
    | zero => omega
    | succ k => simp
theorem atoi_once (l : List UInt8) (hl : ∀ c ∈ l, isDig c = true) (hne : l ≠ []) (h0 : 1 < l.length → l.getD 0 0 ≠ 48) (v : Int) (h : Lib.atoiAll l = .ok v) : 0 ≤ v ∧ v ≤ 9223372036854775807 ∧ Lib.decDigits v.toNat = l := by
  have hp := fun u => dec_parse l.length l rfl hne hl h0 u
  cases l with
  | nil => exact absurd rfl hne
  | cons c r =>
    have hc := isDig_ne (hl c (by simp))
    simp only [Lib.atoiAll] at h
    rw [if_neg (by omega)] at h
    simp only [Lib.parseMag] at h
    rw [if_neg (by simp)] at h
    rcases parse_digits (c :: r) hl 0 with ⟨u, hu⟩ | hu
    · rw [hu] at h
      simp only at h
      split at h
      · cases h
      · rename_i h1
        split at h
        · cases h
        · injection h with h
          rw [if_neg hc.2.2.1] at h
          have h2 : ¬ 9223372036854775808 ≤ u := fun h3 => h1 ⟨hc.2.2.1, h3⟩
          subst h
          exact ⟨by omega, by omega, by rw [Int.toNat_natCast]; exact hp u hu⟩
    · rw [hu] at h; simp only at h; cases h
theorem atoi_negonce (l : List UInt8) (hl : ∀ c ∈ l, isDig c = true) (hne : l ≠ []) (h0 : 1 < l.length → l.getD 0 0 ≠ 48) (hz : l.getD 0 0 ≠ 48) (v : Int) (h : Lib.atoiAll (45 :: l) = .ok v) : v < 0 ∧ -9223372036854775808 ≤ v ∧ Lib.decDigits v.natAbs = l := by
  have hp := fun u => dec_parse l.length l rfl hne hl h0 u
  simp only [Lib.atoiAll] at h
  rw [if_pos (Or.inr (by decide))] at h
  simp only [Lib.parseMag] at h
  rw [if_neg hne] at h
  rcases parse_digits l hl 0 with ⟨u, hu⟩ | hu
  · rw [hu] at h
    simp only at h
    have hu0 : u ≠ 0 := by
      intro e
      subst e
      have := hp 0 hu
      rw [Lib.decDigits_one (by omega)] at this
      rw [← this] at hz
      exact hz rfl
    split at h
    · cases h
    · split at h
      · cases h
      · rename_i h2
        have e45 : (45 : UInt8).toNat = 45 := by decide
        have h3 : ¬ 9223372036854775808 < u := fun h4 => h2 ⟨e45, h4⟩
        injection h with h
        rw [if_pos e45] at h
        subst h
        refine ⟨by omega, by omega, ?_⟩
        rw [Int.natAbs_neg, Int.natAbs_natCast]
        exact hp u hu
  · rw [hu] at h; simp only at h; cases h
theorem numOf_zero {x : Lib.NumEnd Int} {k c : Nat} {n : Int} (h : numOf x k = (0, n, c)) : x = .ok n ∧ c = k := by
  cases x with
  | ok v => simp only [numOf, Prod.mk.injEq] at h; exact ⟨by rw [h.2.1], h.2.2.symm⟩
  | _ => simp [numOf] at h
theorem neg_head {r : List UInt8} (h : isNeg r = true) : ∃ r', r = 45 :: r' := by
  cases r with
  | nil => simp [isNeg] at h
  | cons c r => simp [isNeg] at h; exact ⟨r, by rw [h]⟩
theorem readNum_once (r : List UInt8) (n : Int) (c : Nat) (h : readNum r = (0, n, c)) :
    r.take c = Lib.itoa n ++ [59] ∧ c ≤ r.length ∧ 1 ≤ c ∧ -9223372036854775808 ≤ n ∧ n ≤ 9223372036854775807 := by
  unfold readNum at h
  split at h
  · rename_i he
    simp only [Prod.mk.injEq] at h
    exact absurd h.1 he
  · rename_i he
    have he : eodErr (r.drop (negLen r)) 59 = 0 := by omega
    split at h
    · simp at h
    · rename_i hz
      obtain ⟨hv, rfl⟩ := numOf_zero h
      obtain ⟨k0, k1, k2, k3⟩ := eodz he
      cases hneg : isNeg r with
      | true =>
        obtain ⟨r', rfl⟩ := neg_head hneg
        have hnl : negLen (45 :: r') = 1 := by unfold negLen; rw [if_pos hneg]
        rw [hnl] at he hz hv k0 k1 k2 k3 ⊢
        rw [show (45 :: r').drop 1 = r' from rfl] at he hz hv k0 k1 k2 k3 ⊢
        have ht : (45 :: r').take (1 + digRun r') = 45 :: r'.take (digRun r') := by rw [Nat.add_comm, List.take_succ_cons]
        rw [ht] at hv
        obtain ⟨n0, n1, n2⟩ := atoi_negonce (r'.take (digRun r')) (digRun_all r') (take_ne k0 (by omega)) (fun h1 => by rw [getD_take0 k0]; exact k3 (by rw [List.length_take] at h1; omega)) (by rw [getD_take0 k0]; exact fun h' => hz ⟨hneg, h'⟩) n hv
        refine ⟨?_, by rw [List.length_cons]; omega, by omega, n1, by omega⟩
        rw [show 1 + digRun r' + 1 = (digRun r' + 1) + 1 by omega, List.take_succ_cons, take_succ_getD k1, k2]
        unfold Lib.itoa
        rw [if_pos n0, n2]; rfl
      | false =>
        have hnl : negLen r = 0 := by unfold negLen; rw [hneg]; rfl
        rw [hnl] at he hz hv k0 k1 k2 k3 ⊢
        rw [List.drop_zero] at he hz hv k0 k1 k2 k3 ⊢
        rw [Nat.zero_add] at hv ⊢
        obtain ⟨n0, n1, n2⟩ := atoi_once (r.take (digRun r)) (digRun_all r) (take_ne k0 (by omega)) (fun h1 => by rw [getD_take0 k0]; exact k3 (by rw [List.length_take] at h1; omega)) n hv
        refine ⟨?_, by omega, by omega, by omega, n1⟩
        rw [take_succ_getD k1, k2]
        unfold Lib.itoa
        rw [if_neg (by omega), n2]
theorem readTxt_once (r t : List UInt8) (c : Nat) (h : readTxt r = (0, t, c)) : r.take c = txtB t ∧ c ≤ r.length ∧ 1 ≤ c ∧ t.length ≤ 16384 := by
  unfold readTxt at h
  split at h
  · rename_i he
    simp only [Prod.mk.injEq] at h
    exact absurd h.1 he
  · rename_i he
    have he : eodErr r 58 = 0 := by omega
    obtain ⟨k0, k1, k2, k3⟩ := eodz he
    cases hx : Lib.atoiAll (r.take (digRun r)) with
    | ok v =>
      rw [hx] at h
      simp only [txtOf] at h
      split at h
      · simp at h
      · split at h
        · simp at h
        · rename_i h1 h2
          simp only [Prod.mk.injEq, true_and] at h
          obtain ⟨rfl, rfl⟩ := h
          obtain ⟨n0, n1, n2⟩ := atoi_once (r.take (digRun r)) (digRun_all r) (take_ne k0 (by omega)) (fun h1 => by rw [getD_take0 k0]; exact k3 (by rw [List.length_take] at h1; omega)) v hx
          have hlen : ((r.drop (digRun r + 1)).take v.toNat).length = v.toNat := by rw [List.length_take, List.length_drop]; omega
          refine ⟨?_, by omega, by omega, by rw [hlen]; omega⟩
          unfold txtB
          rw [hlen, n2, List.take_add, take_succ_getD k1, k2]
          simp
    | _ => rw [hx] at h; simp [txtOf] at h
open Go
def closeB (r : List UInt8) : Bool := r.getD 0 0 == 41
def readItems {α : Type} (f : List UInt8 → Nat × α × Nat) : Nat → Nat → List UInt8 → Nat × List α × Nat
  | 0, _, _ => (5, [], 0)
  | n + 1, cnt, r =>
    if closeB r = true then (0, [], 1)
    else if cnt = 512 then (4, [], 0)
    else if (f r).1 ≠ 0 then ((f r).1, [], 0)
    else if (readItems f n (cnt + 1) (r.drop (f r).2.2)).1 ≠ 0 then ((readItems f n (cnt + 1) (r.drop (f r).2.2)).1, [], 0)
    else (0, (f r).2.1 :: (readItems f n (cnt + 1) (r.drop (f r).2.2)).2.1, (f r).2.2 + (readItems f n (cnt + 1) (r.drop (f r).2.2)).2.2)
def cont {α : Type} (xs : List α) (q : Nat) (x : Nat × List α × Nat) : Nat × List α × Nat := if x.1 ≠ 0 then (x.1, [], 0) else (0, xs ++ x.2.1, q + x.2.2)
def listRes {α : Type} (f : List UInt8 → Nat × α × Nat) (p : Nat) (r : List UInt8) : Nat × List α × Nat :=
  if r = [] then (5, [], 0) else if r.getD 0 0 ≠ 40 then (6, [], 0) else cont [] (p + 1) (readItems f r.length 0 (r.drop 1))
theorem triple {β γ : Type} (x : Nat × β × γ) (h : x.1 = 0) : x = (0, x.2.1, x.2.2) := by
  obtain ⟨a, b, c⟩ := x
  simp only at h
  subst h
  rfl
section
variable {α : Type} (f : List UInt8 → Nat × α × Nat)
variable (item : α → List UInt8) (ok : α → Prop)
def bodyOf (xs : List α) : List UInt8 := (xs.map item).flatten
theorem items_once (hf : ∀ r x c, f r = (0, x, c) → r.take c = item x ∧ c ≤ r.length ∧ ok x) :
    ∀ (n cnt : Nat) (r : List UInt8) (xs : List α) (c : Nat), cnt ≤ 512 → readItems f n cnt r = (0, xs, c) → r.take c = bodyOf item xs ++ [41] ∧ c ≤ r.length ∧ cnt + xs.length ≤ 512 ∧ ∀ x ∈ xs, ok x
  | 0, cnt, r, xs, c, _, h => by simp [readItems] at h
  | n + 1, cnt, r, xs, c, hcnt, h => by
    simp only [readItems] at h
    split at h
    · rename_i hcl
      simp only [Prod.mk.injEq, true_and] at h
      obtain ⟨rfl, rfl⟩ := h
      cases r with
      | nil => simp [closeB] at hcl
      | cons b r => simp [closeB] at hcl; subst hcl; simp [bodyOf, hcnt]
    · split at h
      · simp at h
      · rename_i hc5
        split at h
        · rename_i he; simp only [Prod.mk.injEq] at h; exact absurd h.1 he
        · rename_i he
          have he : (f r).1 = 0 := by omega
          split at h
          · rename_i h2; simp only [Prod.mk.injEq] at h; exact absurd h.1 h2
          · rename_i h2
            have h2 : (readItems f n (cnt + 1) (r.drop (f r).2.2)).1 = 0 := by omega
            simp only [Prod.mk.injEq, true_and] at h
            obtain ⟨rfl, rfl⟩ := h
            obtain ⟨i1, i2, i3⟩ := hf r (f r).2.1 (f r).2.2 (triple _ he)
            obtain ⟨j1, j2, j3, j4⟩ := items_once hf n (cnt + 1) (r.drop (f r).2.2) (readItems f n (cnt + 1) (r.drop (f r).2.2)).2.1 (readItems f n (cnt + 1) (r.drop (f r).2.2)).2.2 (by omega) (triple _ h2)
            rw [List.length_drop] at j2
            refine ⟨?_, by omega, by rw [List.length_cons]; omega, ?_⟩
            · rw [List.take_add, i1, j1]; simp [bodyOf]
            · intro x hx
              rcases List.mem_cons.1 hx with rfl | hx
              · exact i3
              · exact j4 x hx
theorem list_once (hf : ∀ r x c, f r = (0, x, c) → r.take c = item x ∧ c ≤ r.length ∧ ok x) (p : Nat) (r : List UInt8) (xs : List α) (to : Nat) (h : listRes f p r = (0, xs, to)) :
    ∃ c, to = p + c ∧ r.take c = 40 :: bodyOf item xs ++ [41] ∧ c ≤ r.length ∧ xs.length ≤ 512 ∧ ∀ x ∈ xs, ok x := by
  unfold listRes at h
  split at h
  · simp at h
  · split at h
    · simp at h
    · rename_i h0 h4
      unfold cont at h
      split at h
      · rename_i h1; simp only [Prod.mk.injEq] at h; exact absurd h.1 h1
      · rename_i h1
        have h1 : (readItems f r.length 0 (r.drop 1)).1 = 0 := by omega
        simp only [Prod.mk.injEq, true_and, List.nil_append] at h
        obtain ⟨rfl, rfl⟩ := h
        obtain ⟨j1, j2, j3, j4⟩ := items_once f item ok hf r.length 0 (r.drop 1) (readItems f r.length 0 (r.drop 1)).2.1 (readItems f r.length 0 (r.drop 1)).2.2 (by omega) (triple _ h1)
        cases r with
        | nil => exact absurd rfl h0
        | cons b r =>
          have hb : b = 40 := by
            rcases Decidable.em (b = 40) with h | h
            · exact h
            · exact absurd (by simpa using h) h4
          subst hb
          rw [List.length_drop, List.length_cons] at j2
          refine ⟨1 + (readItems f (40 :: r).length 0 ((40 :: r).drop 1)).2.2, by omega, ?_, by rw [List.length_cons]; omega, by omega, j4⟩
          rw [Nat.add_comm 1, List.take_succ_cons]
          exact congrArg (fun l => 40 :: l) j1
end
end Go.Proofs.YtekfcbedlokidaaGreatDoor.Lay
namespace Go.Proofs.YtekfcbedlokidaaGreatDoor.Ms
open Go
set_option maxRecDepth 100000
def I64 (n : Int) : Prop := -9223372036854775808 ≤ n ∧ n ≤ 9223372036854775807
def numB (n : Int) : List UInt8 := Lib.itoa n ++ [59]
def txtB (s : List UInt8) : List UInt8 := Lib.decDigits s.length ++ [58] ++ s
def intsB (l : List Int) : List UInt8 := (l.map numB).flatten
theorem nDigits_le20 (u : Nat) (h : u < 18446744073709551616) : Lib.nDigits u ≤ 20 := by
  rcases Nat.eq_zero_or_pos u with h0 | h0
  · subst h0; rw [Lib.nDigits_small (by omega)]; omega
  · have := Lib.numDigits_eq u h0 h; split at this <;> omega
theorem dec_len (u : Nat) (h : u < 18446744073709551616) : (Lib.decDigits u).length ≤ 20 := by rw [Lib.decDigits_length]; exact nDigits_le20 u h
theorem numB_len (n : Int) (h : I64 n) : (numB n).length ≤ 22 := by
  unfold numB Lib.itoa
  obtain ⟨h0, h1⟩ := h
  split
  · have := nDigits_le20 n.natAbs (by omega); rw [List.length_append, List.length_cons, Lib.decDigits_length]; simp; omega
  · have := nDigits_le20 n.toNat (by omega); rw [List.length_append, Lib.decDigits_length]; simp; omega
theorem txtB_len (s : List UInt8) (h : s.length < 18446744073709551616) : (txtB s).length ≤ s.length + 21 := by
  have := dec_len s.length h
  unfold txtB
  simp only [List.length_append, List.length_cons, List.length_nil]
  omega
theorem txtB_lay (s : List UInt8) : txtB s = Lay.txtB s := by unfold txtB Lay.txtB; simp
theorem str_app (x y : List UInt8) : (⟨x.toArray⟩ ++ ⟨y.toArray⟩ : ByteArray) = ⟨(x ++ y).toArray⟩ := by
  apply ByteArray.ext
  simp
theorem intsB_snoc (ks : List Int) (j : Nat) (h : j < ks.length) : intsB (ks.take (j + 1)) = intsB (ks.take j) ++ numB (ks.getD j 0) := by
  unfold intsB
  rw [List.take_succ_eq_append_getElem h, List.map_append, List.flatten_append]
  have e : ks.getD j 0 = ks[j] := by simp [List.getD, h]
  rw [e]
  simp only [List.map_cons, List.map_nil, List.flatten_cons, List.flatten_nil, List.append_nil]
theorem intsB_len (ks : List Int) (h : ∀ n ∈ ks, I64 n) : (intsB ks).length ≤ 22 * ks.length := by
  induction ks with
  | nil => simp [intsB]
  | cons n ks ih =>
    have h1 := numB_len n (h n (by simp))
    have h2 := ih (fun m hm => h m (by simp [hm]))
    unfold intsB at h2 ⊢
    simp at h2 ⊢
    omega
theorem num_once (r : List UInt8) (n : Int) (c : Nat) (h : Lay.readNum r = (0, n, c)) : r.take c = numB n ∧ c ≤ r.length ∧ I64 n := by
  obtain ⟨h1, h2, -, h4, h5⟩ := Lay.readNum_once r n c h
  exact ⟨h1, h2, h4, h5⟩
theorem txt_once (r t : List UInt8) (c : Nat) (h : Lay.readTxt r = (0, t, c)) : r.take c = txtB t ∧ c ≤ r.length ∧ t.length ≤ 16384 := by
  obtain ⟨h1, h2, -, h4⟩ := Lay.readTxt_once r t c h
  exact ⟨h1.trans (txtB_lay t).symm, h2, h4⟩
open Go
set_option maxRecDepth 100000
def zeroD : List UInt8 := List.replicate 32 0
def zeroS : Sub := ⟨0, 0, 0, [], zeroD, zeroD⟩
def zeroR : Rep := ⟨0, 0, [], zeroD, [], 0, [], zeroD, [], zeroD⟩
def zeroB : Blo := ⟨0, 0, [], zeroD⟩
def zeroP : Pen := ⟨0, 0, 0, 0, zeroD, zeroD⟩
def zeroM (k c : Int) : Msg := ⟨k, c, zeroS, zeroR, [], 0, zeroD, zeroD, zeroB, []⟩
abbrev Val : Type := Int ⊕ (List UInt8 ⊕ (List UInt8 ⊕ (List Int ⊕ List Pen)))
abbrev Val.num (n : Int) : Val := .inl n
abbrev Val.txt (s : List UInt8) : Val := .inr (.inl s)
abbrev Val.dig (d : List UInt8) : Val := .inr (.inr (.inl d))
abbrev Val.nums (l : List Int) : Val := .inr (.inr (.inr (.inl l)))
abbrev Val.pens (l : List Pen) : Val := .inr (.inr (.inr (.inr l)))
theorem Val.cut {motive : Val → Prop} (num : ∀ n, motive (.num n)) (txt : ∀ s, motive (.txt s)) (dig : ∀ d, motive (.dig d)) (nums : ∀ l, motive (.nums l)) (pens : ∀ l, motive (.pens l)) (v : Val) : motive v := by
  rcases v with n | n | n | n | n
  · exact num n
  · exact txt n
  · exact dig n
  · exact nums n
  · exact pens n
abbrev Slot : Type := Unit ⊕ (Unit ⊕ (Unit ⊕ (Unit ⊕ Unit)))
abbrev Slot.num : Slot := .inl ()
abbrev Slot.txt : Slot := .inr (.inl ())
abbrev Slot.dig : Slot := .inr (.inr (.inl ()))
abbrev Slot.nums : Slot := .inr (.inr (.inr (.inl ())))
abbrev Slot.pens : Slot := .inr (.inr (.inr (.inr ())))
theorem Slot.cut {motive : Slot → Prop} (num : motive .num) (txt : motive .txt) (dig : motive .dig) (nums : motive .nums) (pens : motive .pens) (v : Slot) : motive v := by
  rcases v with ⟨⟩ | ⟨⟩ | ⟨⟩ | ⟨⟩ | ⟨⟩
  · exact num
  · exact txt
  · exact dig
  · exact nums
  · exact pens
def Val.slot : Val → Slot
  | .inl _ => .num
  | .inr (.inl _) => .txt
  | .inr (.inr (.inl _)) => .dig
  | .inr (.inr (.inr (.inl _))) => .nums
  | .inr (.inr (.inr (.inr _))) => .pens
def Val.n : Val → Int
  | .inl n => n
  | _ => 0
def Val.s : Val → List UInt8
  | .inr (.inl s) => s
  | _ => []
def Val.d : Val → List UInt8
  | .inr (.inr (.inl d)) => d
  | _ => zeroD
def Val.l : Val → List Int
  | .inr (.inr (.inr (.inl l))) => l
  | _ => []
def Val.p : Val → List Pen
  | .inr (.inr (.inr (.inr l))) => l
  | _ => []
def Slot.zero : Slot → Val
  | .inl _ => .num 0
  | .inr (.inl _) => .txt []
  | .inr (.inr (.inl _)) => .dig zeroD
  | .inr (.inr (.inr (.inl _))) => .nums []
  | .inr (.inr (.inr (.inr _))) => .pens []
theorem zero_slot (k : Slot) : k.zero.slot = k := by cases k using Slot.cut <;> rfl
structure Fl (α : Type) where
  off : Nat
  slot : Slot
  get : α → Val
  set : α → Val → α
def pClient : Fl Pen := ⟨0, .num, fun x => .num x.client, fun x v => { x with client := v.n }⟩
def pNumber : Fl Pen := ⟨1, .num, fun x => .num x.number, fun x v => { x with number := v.n }⟩
def pKind : Fl Pen := ⟨2, .num, fun x => .num x.kind, fun x v => { x with kind := v.n }⟩
def pTarget : Fl Pen := ⟨3, .num, fun x => .num x.target, fun x v => { x with target := v.n }⟩
def pAsked : Fl Pen := ⟨4, .dig, fun x => .dig x.asked, fun x v => { x with asked := v.d }⟩
def pProof : Fl Pen := ⟨36, .dig, fun x => .dig x.proof, fun x v => { x with proof := v.d }⟩
def penFs : List (Fl Pen) := [pClient, pNumber, pKind, pTarget, pAsked, pProof]
def fClient : Fl Msg := ⟨1, .num, fun m => .num m.client, fun m v => { m with client := v.n }⟩
def fSNumber : Fl Msg := ⟨2, .num, fun m => .num m.sub.number, fun m v => { m with sub := { m.sub with number := v.n } }⟩
def fSKind : Fl Msg := ⟨3, .num, fun m => .num m.sub.kind, fun m v => { m with sub := { m.sub with kind := v.n } }⟩
def fSTarget : Fl Msg := ⟨4, .num, fun m => .num m.sub.target, fun m v => { m with sub := { m.sub with target := v.n } }⟩
def fSValue : Fl Msg := ⟨5, .txt, fun m => .txt m.sub.value, fun m v => { m with sub := { m.sub with value := v.s } }⟩
def fSAsked : Fl Msg := ⟨6, .dig, fun m => .dig m.sub.asked, fun m v => { m with sub := { m.sub with asked := v.d } }⟩
def fSData : Fl Msg := ⟨38, .dig, fun m => .dig m.sub.data, fun m v => { m with sub := { m.sub with data := v.d } }⟩
def fRNumber : Fl Msg := ⟨70, .num, fun m => .num m.rep.number, fun m v => { m with rep := { m.rep with number := v.n } }⟩
def fRLast : Fl Msg := ⟨71, .num, fun m => .num m.rep.last, fun m v => { m with rep := { m.rep with last := v.n } }⟩
def fRView : Fl Msg := ⟨72, .txt, fun m => .txt m.rep.view, fun m v => { m with rep := { m.rep with view := v.s } }⟩
def fRCommit : Fl Msg := ⟨73, .dig, fun m => .dig m.rep.commit, fun m v => { m with rep := { m.rep with commit := v.d } }⟩
def fRPend : Fl Msg := ⟨105, .pens, fun m => .pens m.rep.pend, fun m v => { m with rep := { m.rep with pend := v.p } }⟩
def fRVnum : Fl Msg := ⟨106, .num, fun m => .num m.rep.vnum, fun m v => { m with rep := { m.rep with vnum := v.n } }⟩
def fRValue : Fl Msg := ⟨107, .txt, fun m => .txt m.rep.value, fun m v => { m with rep := { m.rep with value := v.s } }⟩
def fRData : Fl Msg := ⟨108, .dig, fun m => .dig m.rep.data, fun m v => { m with rep := { m.rep with data := v.d } }⟩
def fRSeen : Fl Msg := ⟨140, .txt, fun m => .txt m.rep.seen, fun m v => { m with rep := { m.rep with seen := v.s } }⟩
def fRTag : Fl Msg := ⟨141, .dig, fun m => .dig m.rep.stag, fun m v => { m with rep := { m.rep with stag := v.d } }⟩
def fView : Fl Msg := ⟨173, .txt, fun m => .txt m.view, fun m v => { m with view := v.s }⟩
def fBy : Fl Msg := ⟨174, .num, fun m => .num m.who, fun m v => { m with who := v.n }⟩
def fTag : Fl Msg := ⟨175, .dig, fun m => .dig m.tag, fun m v => { m with tag := v.d }⟩
def fOwn : Fl Msg := ⟨207, .dig, fun m => .dig m.own, fun m v => { m with own := v.d }⟩
def fBOwner : Fl Msg := ⟨239, .num, fun m => .num m.blob.owner, fun m v => { m with blob := { m.blob with owner := v.n } }⟩
def fBNumber : Fl Msg := ⟨240, .num, fun m => .num m.blob.number, fun m v => { m with blob := { m.blob with number := v.n } }⟩
def fBCipher : Fl Msg := ⟨241, .txt, fun m => .txt m.blob.cipher, fun m v => { m with blob := { m.blob with cipher := v.s } }⟩
def fBTag : Fl Msg := ⟨242, .dig, fun m => .dig m.blob.tag, fun m v => { m with blob := { m.blob with tag := v.d } }⟩
def fNums : Fl Msg := ⟨274, .nums, fun m => .nums m.nums, fun m v => { m with nums := v.l }⟩
def subFs : List (Fl Msg) := [fClient, fSNumber, fSKind, fSTarget, fSValue, fSAsked, fSData]
def repFs : List (Fl Msg) := [fRNumber, fRLast, fRView, fRCommit, fRPend, fRVnum, fRValue, fRData, fRSeen, fRTag]
def comFs : List (Fl Msg) := [fClient, fView, fTag]
def bloFs : List (Fl Msg) := [fBOwner, fBNumber, fBCipher, fBTag]
def lstFs : List (Fl Msg) := [fClient, fNums]
def proFs : List (Fl Msg) := [fClient]
def verFs : List (Fl Msg) := [fClient, fBy, fView, fTag, fOwn]
def alaFs : List (Fl Msg) := [fClient, fOwn]
def fieldsM (k : Int) : List (Fl Msg) :=
  if k = 1 then subFs else if k = 2 then repFs else if k = 3 then comFs else if k = 4 ∨ k = 6 then bloFs else
  if k = 5 ∨ k = 7 ∨ k = 8 then lstFs else if k = 9 then proFs else if k = 10 then verFs else if k = 11 then alaFs else []
def putAll {α : Type} (f : Val → List UInt8) (fs : List (Fl α)) (x : α) : List UInt8 := (fs.map fun g => f (g.get x)).flatten
def emptyAll {α : Type} : List (Fl α) → α → α
  | [], x => x
  | g :: fs, x => emptyAll fs (g.set x g.slot.zero)
def rdAll {α : Type} (rd : Slot → List UInt8 → Nat → Nat × Val × Nat) : List (Fl α) → α → List UInt8 → Nat → Nat × α × Nat
  | [], x, _, p => (0, x, p)
  | g :: fs, x, s, p => if (rd g.slot s p).1 ≠ 0 then ((rd g.slot s p).1, x, 0) else rdAll rd fs (g.set x (rd g.slot s p).2.1) s (rd g.slot s p).2.2
def layT (s : List UInt8) : List UInt8 := txtB (if 16384 < s.length then [] else s)
def layNs (l : List Int) : List UInt8 := if 512 < l.length then [] else 40 :: (intsB l ++ [41])
def layBase : Val → List UInt8
  | .inl n => numB n
  | .inr (.inl s) => layT s
  | .inr (.inr (.inl d)) => txtB d
  | .inr (.inr (.inr (.inl l))) => layNs l
  | .inr (.inr (.inr (.inr _))) => []
def layPen (p : Pen) : List UInt8 := putAll layBase penFs p
def layVal : Val → List UInt8
  | .inr (.inr (.inr (.inr l))) => numB l.length ++ (l.map layPen).flatten
  | v => layBase v
def toP (e p c : Nat) : Nat := if e = 0 then p + c else 0
def rdDig (s : List UInt8) (p : Nat) : Nat × Val × Nat :=
  if (Lay.readTxt (s.drop p)).1 ≠ 0 then ((Lay.readTxt (s.drop p)).1, .dig zeroD, 0)
  else if (Lay.readTxt (s.drop p)).2.1.length = 32 then (0, .dig (Lay.readTxt (s.drop p)).2.1, p + (Lay.readTxt (s.drop p)).2.2) else (6, .dig zeroD, 0)
def rdBase : Slot → List UInt8 → Nat → Nat × Val × Nat
  | .inl _, s, p => ((Lay.readNum (s.drop p)).1, .num (Lay.readNum (s.drop p)).2.1, toP (Lay.readNum (s.drop p)).1 p (Lay.readNum (s.drop p)).2.2)
  | .inr (.inl _), s, p => ((Lay.readTxt (s.drop p)).1, .txt (Lay.readTxt (s.drop p)).2.1, toP (Lay.readTxt (s.drop p)).1 p (Lay.readTxt (s.drop p)).2.2)
  | .inr (.inr (.inl _)), s, p => rdDig s p
  | .inr (.inr (.inr (.inl _))), s, p => ((Lay.listRes Lay.readNum p (s.drop p)).1, .nums (Lay.listRes Lay.readNum p (s.drop p)).2.1, (Lay.listRes Lay.readNum p (s.drop p)).2.2)
  | .inr (.inr (.inr (.inr _))), _, _ => (0, .pens [], 0)
def rdPen (s : List UInt8) (p : Nat) : Nat × Pen × Nat := rdAll rdBase penFs zeroP s p
def rdPensN : Nat → List UInt8 → Nat → Nat × List Pen × Nat
  | 0, _, p => (0, [], p)
  | n + 1, s, p =>
    if (rdPen s p).1 ≠ 0 then ((rdPen s p).1, [], 0)
    else if (rdPensN n s (rdPen s p).2.2).1 ≠ 0 then ((rdPensN n s (rdPen s p).2.2).1, [], 0)
    else (0, (rdPen s p).2.1 :: (rdPensN n s (rdPen s p).2.2).2.1, (rdPensN n s (rdPen s p).2.2).2.2)
def rdPens (s : List UInt8) (p : Nat) : Nat × List Pen × Nat :=
  if (Lay.readNum (s.drop p)).1 ≠ 0 then ((Lay.readNum (s.drop p)).1, [], 0)
  else if (Lay.readNum (s.drop p)).2.1 < 0 ∨ 8 < (Lay.readNum (s.drop p)).2.1 then (6, [], 0)
  else rdPensN (Lay.readNum (s.drop p)).2.1.toNat s (p + (Lay.readNum (s.drop p)).2.2)
def rdVal : Slot → List UInt8 → Nat → Nat × Val × Nat
  | .inr (.inr (.inr (.inr _))), s, p => ((rdPens s p).1, .pens (rdPens s p).2.1, (rdPens s p).2.2)
  | k, s, p => rdBase k s p
theorem rdDig_slot (s : List UInt8) (p : Nat) : (rdDig s p).2.1.slot = .dig := by
  unfold rdDig
  by_cases h : (Lay.readTxt (s.drop p)).1 ≠ 0
  · rw [if_pos h]; rfl
  · rw [if_neg h]
    by_cases h2 : (Lay.readTxt (s.drop p)).2.1.length = 32
    · rw [if_pos h2]; rfl
    · rw [if_neg h2]; rfl
theorem rdBase_slot (k : Slot) (s : List UInt8) (p : Nat) : (rdBase k s p).2.1.slot = k := by
  cases k using Slot.cut
  · rfl
  · rfl
  · exact rdDig_slot s p
  · rfl
  · rfl
theorem rdVal_slot (k : Slot) (s : List UInt8) (p : Nat) : (rdVal k s p).2.1.slot = k := by
  cases k using Slot.cut
  · rfl
  · rfl
  · exact rdDig_slot s p
  · rfl
  · rfl
def putM (m : Msg) : List UInt8 := numB m.kind ++ putAll layVal (fieldsM m.kind) m
open Go
set_option maxRecDepth 100000
structure penOk (p : Pen) : Prop where
  client : I64 p.client
  number : I64 p.number
  kind : I64 p.kind
  target : I64 p.target
  asked : p.asked.length = 32
  proof : p.proof.length = 32
def okBase : Val → Prop
  | .inl n => I64 n
  | .inr (.inl s) => s.length ≤ 16384
  | .inr (.inr (.inl d)) => d.length = 32
  | .inr (.inr (.inr (.inl l))) => l.length ≤ 512 ∧ ∀ n ∈ l, I64 n
  | .inr (.inr (.inr (.inr _))) => False
def okVal : Val → Prop
  | .inr (.inr (.inr (.inr l))) => l.length ≤ 8 ∧ ∀ p ∈ l, penOk p
  | v => okBase v
def setAll {α : Type} : List (Fl α) → List Val → α → α
  | g :: fs, v :: vs, x => setAll fs vs (g.set x v)
  | _, _, x => x
theorem toP_ok (p c : Nat) : toP 0 p c = p + c := by simp [toP]
theorem base_once (k : Slot) (hk : k ≠ .pens) (s : List UInt8) (p : Nat) (hp : p ≤ s.length) (he : (rdBase k s p).1 = 0) :
    ∃ c, (rdBase k s p).2.2 = p + c ∧ (s.drop p).take c = layBase (rdBase k s p).2.1 ∧ p + c ≤ s.length ∧ okBase (rdBase k s p).2.1 := by
  have hd : (s.drop p).length = s.length - p := by simp
  cases k using Slot.cut with
  | num =>
    have he : (Lay.readNum (s.drop p)).1 = 0 := he
    obtain ⟨h1, h2, h3⟩ := num_once _ _ _ (Lay.triple _ he)
    refine ⟨(Lay.readNum (s.drop p)).2.2, ?_, h1, by omega, h3⟩
    show toP (Lay.readNum (s.drop p)).1 p _ = _
    rw [he, toP_ok]
  | txt =>
    have he : (Lay.readTxt (s.drop p)).1 = 0 := he
    obtain ⟨h1, h2, h3⟩ := txt_once _ _ _ (Lay.triple _ he)
    refine ⟨(Lay.readTxt (s.drop p)).2.2, ?_, ?_, by omega, h3⟩
    · show toP (Lay.readTxt (s.drop p)).1 p _ = _
      rw [he, toP_ok]
    · show _ = layT (Lay.readTxt (s.drop p)).2.1
      unfold layT
      rw [if_neg (by omega)]
      exact h1
  | dig =>
    have he : (rdDig s p).1 = 0 := he
    show ∃ c, (rdDig s p).2.2 = p + c ∧ (s.drop p).take c = layBase (rdDig s p).2.1 ∧ p + c ≤ s.length ∧ okBase (rdDig s p).2.1
    unfold rdDig at he ⊢
    by_cases h : (Lay.readTxt (s.drop p)).1 ≠ 0
    · rw [if_pos h] at he
      exact absurd he h
    · rw [if_neg h] at he ⊢
      by_cases h2 : (Lay.readTxt (s.drop p)).2.1.length = 32
      · rw [if_pos h2]
        have h0 : (Lay.readTxt (s.drop p)).1 = 0 := by omega
        obtain ⟨j1, j2, j3⟩ := txt_once _ _ _ (Lay.triple _ h0)
        exact ⟨_, rfl, j1, by omega, h2⟩
      · rw [if_neg h2] at he
        exact absurd he (by decide)
  | nums =>
    have he : (Lay.listRes Lay.readNum p (s.drop p)).1 = 0 := he
    obtain ⟨c, j1, j2, j3, j4, j5⟩ := Lay.list_once Lay.readNum numB I64 (fun r x c h => num_once r x c h) p (s.drop p) _ _ (Lay.triple _ he)
    refine ⟨c, j1, ?_, by omega, j4, j5⟩
    rw [j2]
    show _ = layNs _
    unfold layNs
    rw [if_neg (by omega)]
    rfl
  | pens => exact absurd rfl hk
theorem all_once {α : Type} (rd : Slot → List UInt8 → Nat → Nat × Val × Nat) (f : Val → List UInt8) (ok : Val → Prop) (s : List UInt8) :
    ∀ (fs : List (Fl α)) (_ : ∀ g ∈ fs, ∀ p, p ≤ s.length → (rd g.slot s p).1 = 0 → (rd g.slot s p).2.1.slot = g.slot ∧ ∃ c, (rd g.slot s p).2.2 = p + c ∧ (s.drop p).take c = f (rd g.slot s p).2.1 ∧ p + c ≤ s.length ∧ ok (rd g.slot s p).2.1)
      (x : α) (p : Nat), p ≤ s.length → (rdAll rd fs x s p).1 = 0 →
    ∃ vs c, vs.map Val.slot = fs.map (·.slot) ∧ (rdAll rd fs x s p).2.1 = setAll fs vs x ∧ (rdAll rd fs x s p).2.2 = p + c ∧ (s.drop p).take c = (vs.map f).flatten ∧ p + c ≤ s.length ∧ ∀ v ∈ vs, ok v
  | [], _, x, p, hp, _ => ⟨[], 0, rfl, rfl, rfl, by simp, by omega, by simp⟩
  | g :: fs, hb, x, p, hp, he => by
    unfold rdAll at he ⊢
    by_cases h1 : (rd g.slot s p).1 ≠ 0
    · rw [if_pos h1] at he
      exact absurd he h1
    · rw [if_neg h1] at he ⊢
      obtain ⟨i0, c, i1, i2, i3, i4⟩ := hb g (by simp) p hp (by omega)
      rw [i1] at he ⊢
      obtain ⟨vs, c2, j0, j1, j2, j3, j4, j5⟩ := all_once rd f ok s fs (fun k hk => hb k (by simp [hk])) (g.set x (rd g.slot s p).2.1) (p + c) i3 he
      refine ⟨(rd g.slot s p).2.1 :: vs, c + c2, by rw [List.map_cons, List.map_cons, i0, j0], j1, by rw [j2]; omega, ?_, by omega, ?_⟩
      · rw [List.take_add, List.drop_drop, i2, j3]
        rfl
      · intro v hv
        rcases List.mem_cons.1 hv with rfl | hv
        · exact i4
        · exact j5 v hv
theorem of_num {v : Val} (h : v.slot = .num) : ∃ n, v = .num n := by cases v using Val.cut with | num n => exact ⟨n, rfl⟩ | txt _ => cases h | dig _ => cases h | nums _ => cases h | pens _ => cases h
theorem of_txt {v : Val} (h : v.slot = .txt) : ∃ n, v = .txt n := by cases v using Val.cut with | txt n => exact ⟨n, rfl⟩ | num _ => cases h | dig _ => cases h | nums _ => cases h | pens _ => cases h
theorem of_dig {v : Val} (h : v.slot = .dig) : ∃ n, v = .dig n := by cases v using Val.cut with | dig n => exact ⟨n, rfl⟩ | txt _ => cases h | num _ => cases h | nums _ => cases h | pens _ => cases h
theorem of_nums {v : Val} (h : v.slot = .nums) : ∃ n, v = .nums n := by cases v using Val.cut with | nums n => exact ⟨n, rfl⟩ | txt _ => cases h | dig _ => cases h | num _ => cases h | pens _ => cases h
theorem of_pens {v : Val} (h : v.slot = .pens) : ∃ n, v = .pens n := by cases v using Val.cut with | pens n => exact ⟨n, rfl⟩ | txt _ => cases h | dig _ => cases h | nums _ => cases h | num _ => cases h
theorem map_cons {α β : Type} {f : α → β} {vs : List α} {a : β} {l : List β} (h : vs.map f = a :: l) : ∃ x xs, vs = x :: xs ∧ f x = a ∧ xs.map f = l := by
  cases vs with
  | nil => cases h
  | cons x xs => simp only [List.map_cons, List.cons.injEq] at h; exact ⟨x, xs, rfl, h.1, h.2⟩
theorem map_nil {α β : Type} {f : α → β} {vs : List α} (h : vs.map f = []) : vs = [] := by cases vs with | nil => rfl | cons x xs => cases h
theorem pen_base : ∀ g ∈ penFs, g.slot ≠ .pens := by
  intro g hg
  simp only [penFs, List.mem_cons, List.not_mem_nil, or_false] at hg
  rcases hg with rfl | rfl | rfl | rfl | rfl | rfl <;> (intro h; cases h)
theorem pen_set (a b c d : Int) (e f : List UInt8) : setAll penFs [.num a, .num b, .num c, .num d, .dig e, .dig f] zeroP = ⟨a, b, c, d, e, f⟩ := rfl
theorem pen_lay (a b c d : Int) (e f : List UInt8) : layPen ⟨a, b, c, d, e, f⟩ = ([Val.num a, .num b, .num c, .num d, .dig e, .dig f].map layBase).flatten := rfl
theorem pen_once (s : List UInt8) (p : Nat) (hp : p ≤ s.length) (he : (rdPen s p).1 = 0) :
    ∃ c, (rdPen s p).2.2 = p + c ∧ (s.drop p).take c = layPen (rdPen s p).2.1 ∧ p + c ≤ s.length ∧ penOk (rdPen s p).2.1 := by
  unfold rdPen at he ⊢
  obtain ⟨vs, c, h0, h1, h2, h3, h4, h5⟩ := all_once rdBase layBase okBase s penFs (fun g hg q hq hz => ⟨rdBase_slot _ _ _, base_once g.slot (pen_base g hg) s q hq hz⟩) zeroP p hp he
  generalize rdAll rdBase penFs zeroP s p = R at *
  have hs : penFs.map (·.slot) = [.num, .num, .num, .num, .dig, .dig] := rfl
  rw [hs] at h0
  obtain ⟨v1, vs, rfl, s1, h0⟩ := map_cons h0
  obtain ⟨v2, vs, rfl, s2, h0⟩ := map_cons h0
  obtain ⟨v3, vs, rfl, s3, h0⟩ := map_cons h0
  obtain ⟨v4, vs, rfl, s4, h0⟩ := map_cons h0
  obtain ⟨v5, vs, rfl, s5, h0⟩ := map_cons h0
  obtain ⟨v6, vs, rfl, s6, h0⟩ := map_cons h0
  obtain rfl := map_nil h0
  obtain ⟨a, rfl⟩ := of_num s1
  obtain ⟨b, rfl⟩ := of_num s2
  obtain ⟨c', rfl⟩ := of_num s3
  obtain ⟨d, rfl⟩ := of_num s4
  obtain ⟨e, rfl⟩ := of_dig s5
  obtain ⟨f, rfl⟩ := of_dig s6
  rw [pen_set] at h1
  rw [h1, pen_lay]
  exact ⟨c, h2, h3, h4, ⟨h5 (.num a) (by simp), h5 (.num b) (by simp), h5 (.num c') (by simp), h5 (.num d) (by simp), h5 (.dig e) (by simp), h5 (.dig f) (by simp)⟩⟩
theorem pensN_once (s : List UInt8) : ∀ (n p : Nat), p ≤ s.length → (rdPensN n s p).1 = 0 →
    ∃ c, (rdPensN n s p).2.2 = p + c ∧ (s.drop p).take c = ((rdPensN n s p).2.1.map layPen).flatten ∧ p + c ≤ s.length ∧ (rdPensN n s p).2.1.length = n ∧ ∀ x ∈ (rdPensN n s p).2.1, penOk x
  | 0, p, hp, _ => ⟨0, rfl, by simp [rdPensN], by omega, rfl, by simp [rdPensN]⟩
  | n + 1, p, hp, he => by
    unfold rdPensN at he ⊢
    by_cases h1 : (rdPen s p).1 ≠ 0
    · rw [if_pos h1] at he
      exact absurd he h1
    · rw [if_neg h1] at he ⊢
      obtain ⟨c, i1, i2, i3, i4⟩ := pen_once s p hp (by omega)
      rw [i1] at he ⊢
      by_cases h2 : (rdPensN n s (p + c)).1 ≠ 0
      · rw [if_pos h2] at he
        exact absurd he h2
      · rw [if_neg h2]
        obtain ⟨c2, j1, j2, j3, j4, j5⟩ := pensN_once s n (p + c) i3 (by omega)
        refine ⟨c + c2, by rw [j1]; omega, ?_, by omega, by rw [List.length_cons, j4], ?_⟩
        · rw [List.take_add, List.drop_drop, i2, j2]
          rfl
        · intro x hx
          rcases List.mem_cons.1 hx with rfl | hx
          · exact i4
          · exact j5 x hx
theorem val_once (k : Slot) (s : List UInt8) (p : Nat) (hp : p ≤ s.length) (he : (rdVal k s p).1 = 0) :
    (rdVal k s p).2.1.slot = k ∧ ∃ c, (rdVal k s p).2.2 = p + c ∧ (s.drop p).take c = layVal (rdVal k s p).2.1 ∧ p + c ≤ s.length ∧ okVal (rdVal k s p).2.1 := by
  refine ⟨rdVal_slot k s p, ?_⟩
  cases k using Slot.cut with
  | num => exact base_once .num (fun h => by cases h) s p hp he
  | txt => exact base_once .txt (fun h => by cases h) s p hp he
  | dig =>
    obtain ⟨c, h1, h2, h3, h4⟩ := base_once .dig (fun h => by cases h) s p hp he
    obtain ⟨d, hd⟩ := of_dig (rdBase_slot .dig s p)
    have e : rdVal .dig s p = rdBase .dig s p := rfl
    rw [e]
    rw [hd] at h2 h4 ⊢
    exact ⟨c, h1, h2, h3, h4⟩
  | nums => exact base_once .nums (fun h => by cases h) s p hp he
  | pens =>
    have he : (rdPens s p).1 = 0 := he
    show ∃ c, (rdPens s p).2.2 = p + c ∧ (s.drop p).take c = layVal (.pens (rdPens s p).2.1) ∧ p + c ≤ s.length ∧ okVal (.pens (rdPens s p).2.1)
    unfold rdPens at he ⊢
    by_cases h1 : (Lay.readNum (s.drop p)).1 ≠ 0
    · rw [if_pos h1] at he
      exact absurd he h1
    · rw [if_neg h1] at he ⊢
      by_cases h2 : (Lay.readNum (s.drop p)).2.1 < 0 ∨ 8 < (Lay.readNum (s.drop p)).2.1
      · rw [if_pos h2] at he
        exact absurd he (by decide)
      · rw [if_neg h2] at he ⊢
        obtain ⟨i1, i2, i3⟩ := num_once _ _ _ (Lay.triple _ (by omega : (Lay.readNum (s.drop p)).1 = 0))
        have hd : (s.drop p).length = s.length - p := by simp
        obtain ⟨c2, j1, j2, j3, j4, j5⟩ := pensN_once s _ _ (by omega : p + (Lay.readNum (s.drop p)).2.2 ≤ s.length) he
        refine ⟨(Lay.readNum (s.drop p)).2.2 + c2, by rw [j1]; omega, ?_, by omega, by rw [j4]; omega, j5⟩
        rw [List.take_add, List.drop_drop, i1, j2]
        show _ = numB _ ++ _
        rw [j4, show (((Lay.readNum (s.drop p)).2.1.toNat : Nat) : Int) = (Lay.readNum (s.drop p)).2.1 by omega]
end Go.Proofs.YtekfcbedlokidaaGreatDoor.Ms
namespace Go.Proofs.YtekfcbedlokidaaGreatDoor.Hist
open Go
set_option maxRecDepth 100000
def bv (c : UInt8) : Int := (c.toNat : Int)
theorem bv_range (c : UInt8) : 0 ≤ bv c ∧ bv c < 256 := by
  have := c.toNat_lt
  unfold bv
  omega
def cnt (h : List UInt8) (c : Int) : Nat := h.countP (fun b => bv b == c)
def rightB (h : List UInt8) (n : Int) : Bool := decide (1 ≤ n) && decide (n ≤ 256) && decide (h.length ≤ 512) && h.all (fun b => decide (bv b < n))
def goesB (l s : List UInt8) : Bool := s.isPrefixOf l
theorem take_snoc (s : List UInt8) (j : Nat) (h : j < s.length) : s.take (j + 1) = s.take j ++ [s.getD j 0] := by
  rw [List.take_succ_eq_append_getElem h]
  simp [List.getD, h]
theorem cnt_append (a b : List UInt8) (c : Int) : cnt (a ++ b) c = cnt a c + cnt b c := by simp [cnt]
theorem cnt_one (x : UInt8) (c : Int) : cnt [x] c = if bv x = c then 1 else 0 := by
  by_cases h : bv x = c <;> simp [cnt, h]
theorem cnt_step (h : List UInt8) (k : Nat) (hk : k < h.length) (c : Int) : cnt (h.take (k + 1)) c = cnt (h.take k) c + if bv (h.getD k 0) = c then 1 else 0 := by
  rw [take_snoc h k hk, cnt_append, cnt_one]
theorem cnt_le (h : List UInt8) (c : Int) : cnt h c ≤ h.length := List.countP_le_length
theorem cnt_take_le (h : List UInt8) (k : Nat) (c : Int) : cnt (h.take k) c ≤ cnt h c := by
  have e := cnt_append (h.take k) (h.drop k) c
  rw [List.take_append_drop] at e
  omega
theorem cnt_all (h : List UInt8) (c : Int) : cnt (h.take h.length) c = cnt h c := by rw [List.take_length]
theorem right_false1 (h : List UInt8) (n : Int) (h1 : n < 1) : rightB h n = false := by unfold rightB; rw [decide_eq_false (by omega : ¬ 1 ≤ n)]; rfl
theorem right_false2 (h : List UInt8) (n : Int) (h1 : 256 < n) : rightB h n = false := by unfold rightB; rw [decide_eq_false (by omega : ¬ n ≤ 256)]; simp
theorem right_false3 (h : List UInt8) (n : Int) (h1 : 512 < h.length) : rightB h n = false := by unfold rightB; rw [decide_eq_false (by omega : ¬ h.length ≤ 512)]; simp
theorem right_false4 (h : List UInt8) (n : Int) (k : Nat) (hk : k < h.length) (h1 : n ≤ bv (h.getD k 0)) : rightB h n = false := by
  unfold rightB
  have : h.all (fun b => decide (bv b < n)) = false := by
    rw [List.all_eq_false]
    refine ⟨h.getD k 0, ?_, by simpa using h1⟩
    simp [List.getD, hk]
  rw [this]; simp
theorem right_true (h : List UInt8) (n : Int) (h1 : ¬ n < 1) (h2 : ¬ 256 < n) (h3 : ¬ 512 < h.length) (h4 : ∀ j, j < h.length → bv (h.getD j 0) < n) : rightB h n = true := by
  unfold rightB
  have : h.all (fun b => decide (bv b < n)) = true := by
    rw [List.all_eq_true]
    intro b hb
    obtain ⟨j, hj, rfl⟩ := List.getElem_of_mem hb
    have := h4 j hj
    simp [List.getD, hj] at this
    simpa using this
  rw [this, decide_eq_true (by omega : 1 ≤ n), decide_eq_true (by omega : n ≤ 256), decide_eq_true (by omega : h.length ≤ 512)]; rfl
def opA (h : List UInt8) (k : Nat) : Array Value := #[.int .i64 (bv (h.getD k 0)), .int .i64 (cnt (h.take (k + 1)) (bv (h.getD k 0)))]
def opsA (h : List UInt8) : List (Array Value) := (List.range h.length).map (opA h)
theorem opsA_len (h : List UInt8) : (opsA h).length = h.length := by simp [opsA]
theorem opsA_at {h : List UInt8} {k : Nat} {x : Array Value} (hx : (opsA h)[k]? = some x) : k < h.length ∧ x = opA h k := by
  unfold opsA at hx
  rw [List.getElem?_map] at hx
  by_cases hk : k < h.length
  · rw [List.getElem?_range hk] at hx
    simp at hx
    exact ⟨hk, hx.symm⟩
  · rw [List.getElem?_eq_none (by simpa using hk)] at hx
    simp at hx
theorem opsA_get {h : List UInt8} {k : Nat} (hk : k < h.length) : (opsA h)[k]? = some (opA h k) := by
  unfold opsA
  rw [List.getElem?_map, List.getElem?_range hk]
  rfl
theorem opsA_mem {h : List UInt8} {x : Array Value} (hx : x ∈ opsA h) : ∃ k, k < h.length ∧ x = opA h k := by
  obtain ⟨k, hk, rfl⟩ := List.mem_map.1 hx
  exact ⟨k, List.mem_range.1 hk, rfl⟩
def cntsL (h : List UInt8) (k : Nat) : List Value := (List.range 256).map fun (c : Nat) => Value.int .i64 (cnt (h.take k) (c : Int))
theorem cntsL_len (h : List UInt8) (k : Nat) : (cntsL h k).length = 256 := by simp [cntsL]
theorem cntsL_at (h : List UInt8) (k c : Nat) (hc : c < 256) : (cntsL h k)[c]? = some (.int .i64 (cnt (h.take k) (c : Int))) := by
  unfold cntsL
  rw [List.getElem?_map, List.getElem?_range hc]
  rfl
theorem cntsL_step (h : List UInt8) (k : Nat) (hk : k < h.length) :
    (cntsL h k).set (h.getD k 0).toNat (.int .i64 ((cnt (h.take k) (bv (h.getD k 0)) : Int) + 1)) = cntsL h (k + 1) := by
  apply List.ext_getElem?
  intro i
  by_cases hi : i < 256
  · rw [List.getElem?_set, cntsL_at h _ i hi, cntsL_at h _ i hi, cntsL_len, cnt_step h k hk]
    by_cases he : (h.getD k 0).toNat = i
    · rw [if_pos he, if_pos (by omega)]
      have e2 : bv (h.getD k 0) = (i : Int) := by unfold bv; omega
      rw [if_pos e2, e2]
      rfl
    · have e2 : ¬ bv (h.getD k 0) = (i : Int) := by unfold bv; omega
      rw [if_neg he, if_neg e2]
      rfl
  · rw [List.getElem?_eq_none (by simp [cntsL_len]; omega), List.getElem?_eq_none (by simp [cntsL_len]; omega)]
theorem cntsL_zero (h : List UInt8) : cntsL h 0 = List.replicate 256 (.int .i64 0) := by
  apply List.ext_getElem?
  intro i
  by_cases hi : i < 256
  · rw [cntsL_at h _ i hi, List.getElem?_replicate, if_pos hi]
    rfl
  · rw [List.getElem?_eq_none (by simp [cntsL_len]; omega), List.getElem?_eq_none (by simp; omega)]
end Go.Proofs.YtekfcbedlokidaaGreatDoor.Hist
