/-
  What bytes say of a register's client (ustor.Read), in plain words. No program plays a part.
-/
import Derived.Test.YtekfcbedlokidaaGreatDoorH10
import Derived.Test.YtekfcbedlokidaaGreatDoorH32
import Derived.Test.YtekfcbedlokidaaGreatDoorH01
import Derived.Test.YtekfcbedlokidaaGreatDoorH05
namespace Go.Proofs.YtekfcbedlokidaaGreatDoor.Ms
open Go
set_option maxRecDepth 100000
def strA (s : List UInt8) (a : Nat × Nat) : List UInt8 × Nat × Nat := if a.2 = 0 then ((Lay.readTxt (s.drop a.1)).2.1, toP (Lay.readTxt (s.drop a.1)).1 a.1 (Lay.readTxt (s.drop a.1)).2.2, (Lay.readTxt (s.drop a.1)).1) else ([], a)
def intA (s : List UInt8) (a : Nat × Nat) : Int × Nat × Nat := if a.2 = 0 then ((Lay.readNum (s.drop a.1)).2.1, toP (Lay.readNum (s.drop a.1)).1 a.1 (Lay.readNum (s.drop a.1)).2.2, (Lay.readNum (s.drop a.1)).1) else (0, a)
theorem strA_bad {s : List UInt8} {a : Nat × Nat} (h : a.2 ≠ 0) : strA s a = ([], a) := by unfold strA; rw [if_neg h]
theorem intA_bad {s : List UInt8} {a : Nat × Nat} (h : a.2 ≠ 0) : intA s a = (0, a) := by unfold intA; rw [if_neg h]
theorem strA_go (s : List UInt8) (q : Nat) : strA s (q, 0) = ((Lay.readTxt (s.drop q)).2.1, toP (Lay.readTxt (s.drop q)).1 q (Lay.readTxt (s.drop q)).2.2, (Lay.readTxt (s.drop q)).1) := by unfold strA; rw [if_pos rfl]
theorem intA_go (s : List UInt8) (q : Nat) : intA s (q, 0) = ((Lay.readNum (s.drop q)).2.1, toP (Lay.readNum (s.drop q)).1 q (Lay.readNum (s.drop q)).2.2, (Lay.readNum (s.drop q)).1) := by unfold intA; rw [if_pos rfl]
theorem strA_once {s : List UInt8} {a : Nat × Nat} (hp : a.1 ≤ s.length) (h : (strA s a).2.2 = 0) : a.2 = 0 ∧ (strA s a).2.1 ≤ s.length ∧ (strA s a).1.length ≤ 16384 ∧ s.drop a.1 = txtB (strA s a).1 ++ s.drop (strA s a).2.1 := by
  obtain ⟨q, e⟩ := a
  by_cases he : e = 0
  · subst he
    rw [strA_go] at h ⊢
    simp only at h ⊢
    obtain ⟨h1, h2, h3⟩ := txt_once _ _ _ (Lay.triple _ h)
    have e1 : toP (Lay.readTxt (s.drop q)).1 q (Lay.readTxt (s.drop q)).2.2 = q + (Lay.readTxt (s.drop q)).2.2 := by unfold toP; rw [if_pos h]
    rw [List.length_drop] at h2
    have hp' : q ≤ s.length := hp
    refine ⟨trivial, by rw [e1]; omega, h3, ?_⟩
    rw [e1, ← List.drop_drop, ← h1, List.take_append_drop]
  · rw [strA_bad he] at h
    exact absurd h he
theorem intA_once {s : List UInt8} {a : Nat × Nat} (hp : a.1 ≤ s.length) (h : (intA s a).2.2 = 0) : a.2 = 0 ∧ (intA s a).2.1 ≤ s.length ∧ I64 (intA s a).1 ∧ s.drop a.1 = numB (intA s a).1 ++ s.drop (intA s a).2.1 := by
  obtain ⟨q, e⟩ := a
  by_cases he : e = 0
  · subst he
    rw [intA_go] at h ⊢
    simp only at h ⊢
    obtain ⟨h1, h2, h3⟩ := num_once _ _ _ (Lay.triple _ h)
    have e1 : toP (Lay.readNum (s.drop q)).1 q (Lay.readNum (s.drop q)).2.2 = q + (Lay.readNum (s.drop q)).2.2 := by unfold toP; rw [if_pos h]
    rw [List.length_drop] at h2
    have hp' : q ≤ s.length := hp
    refine ⟨trivial, by rw [e1]; omega, h3, ?_⟩
    rw [e1, ← List.drop_drop, ← h1, List.take_append_drop]
  · rw [intA_bad he] at h
    exact absurd h he
def k1 (s : List UInt8) : List UInt8 × Nat × Nat := strA s (0, 0)
def k2 (s : List UInt8) : List UInt8 × Nat × Nat := strA s (k1 s).2
def k3 (s : List UInt8) : Int × Nat × Nat := intA s (k2 s).2
def k4 (s : List UInt8) : Int × Nat × Nat := intA s (k3 s).2
def k5 (s : List UInt8) : Int × Nat × Nat := intA s (k4 s).2
def k6 (s : List UInt8) : Int × Nat × Nat := intA s (k5 s).2
def k7 (s : List UInt8) : List UInt8 × Nat × Nat := strA s (k6 s).2
def fE (s : List UInt8) : Nat :=
  if (k3 s).2.2 ≠ 0 then (k3 s).2.2 else if (k3 s).1 = 1 then (if (k7 s).2.2 ≠ 0 then (k7 s).2.2 else if (k7 s).2.1 = s.length then 0 else 6) else if (k3 s).1 = 0 ∧ (k3 s).2.1 = s.length then 0 else 6
def okVw (n : Nat) (me : Int) (v u : List UInt8) : Bool := Hist.rightB v n && (decide (u.length ≤ 256) && (v.isEmpty || (lastI v == me)))
def refE (n : Nat) (me : Int) (v : List UInt8) (k t : Int) (l : Nat) : Int := if ((k == 1 || k == 2) && (hasB n t && decide (l ≤ 256))) = false then 2 else if k = 1 ∧ t ≠ me then 2 else if 512 ≤ v.length then 11 else 0
def u0 (me : Int) (s : List UInt8) : Ureg := ⟨me, (k1 s).1, (k2 s).1, zeroS⟩
def readE (n : Nat) (me : Int) (s : List UInt8) : Nat :=
  if fE s ≠ 0 then fE s else if okVw n me (k1 s).1 (k2 s).1 = false then 6 else if (k3 s).1 = 0 then 0 else if (k4 s).1 = cnU (u0 me s) ∧ refE n me (k1 s).1 (k5 s).1 (k6 s).1 (k7 s).1.length = 0 ∧ (k7 s).1 = (k2 s).1 then 0 else 6
def readU (seed : List UInt8) (me : Int) (s : List UInt8) : Ureg := if (k3 s).1 = 0 then u0 me s else ⟨me, (k1 s).1, (k2 s).1, nextS seed (u0 me s) (k5 s).1 (k6 s).1⟩
theorem busy_ne (U : Ureg) (hn : U.asked.number ≠ 0) : busyB U = true := by
  unfold busyB sameS
  have e : (U.asked.number == zeroS.number) = false := by simp [zeroS, hn]
  rw [e]
  rfl
def bytesU (U : Ureg) : List UInt8 := (layT U.view ++ layT U.value) ++ (if busyB U = true then (((numB 1 ++ numB U.asked.number) ++ numB U.asked.kind) ++ numB U.asked.target) ++ layT U.asked.value else numB 0)
theorem pr0 {a : Nat × Nat} (h : a.2 = 0) : a = (a.1, 0) := Prod.ext rfl h
theorem strA_err {s : List UInt8} {a : Nat × Nat} (h : (strA s a).2.2 = 0) : a.2 = 0 := Decidable.byContradiction fun e => by rw [strA_bad e] at h; exact e h
theorem intA_err {s : List UInt8} {a : Nat × Nat} (h : (intA s a).2.2 = 0) : a.2 = 0 := Decidable.byContradiction fun e => by rw [intA_bad e] at h; exact e h
theorem rdL_t (s : List UInt8) (o : Nat) (fs : List (Bool × Nat)) (R : List Value) (q : Nat) : rdL s ((true, o) :: fs) R q = if (strA s (q, 0)).2.2 ≠ 0 then ((strA s (q, 0)).2.2, q, R.set o (st (strA s (q, 0)).1)) else rdL s fs (R.set o (st (strA s (q, 0)).1)) (strA s (q, 0)).2.1 := by rw [strA_go]; rfl
theorem rdL_n (s : List UInt8) (o : Nat) (fs : List (Bool × Nat)) (R : List Value) (q : Nat) : rdL s ((false, o) :: fs) R q = if (intA s (q, 0)).2.2 ≠ 0 then ((intA s (q, 0)).2.2, q, R.set o (nu (intA s (q, 0)).1)) else rdL s fs (R.set o (nu (intA s (q, 0)).1)) (intA s (q, 0)).2.1 := by rw [intA_go]; rfl
theorem k7e {s : List UInt8} (h : (k7 s).2.2 = 0) : (k6 s).2.2 = 0 := by
  have d : k7 s = strA s (k6 s).2 := rfl
  rw [d] at h
  exact strA_err h
theorem k6e {s : List UInt8} (h : (k6 s).2.2 = 0) : (k5 s).2.2 = 0 := by
  have d : k6 s = intA s (k5 s).2 := rfl
  rw [d] at h
  exact intA_err h
theorem k5e {s : List UInt8} (h : (k5 s).2.2 = 0) : (k4 s).2.2 = 0 := by
  have d : k5 s = intA s (k4 s).2 := rfl
  rw [d] at h
  exact intA_err h
theorem k4e {s : List UInt8} (h : (k4 s).2.2 = 0) : (k3 s).2.2 = 0 := by
  have d : k4 s = intA s (k3 s).2 := rfl
  rw [d] at h
  exact intA_err h
theorem k3e {s : List UInt8} (h : (k3 s).2.2 = 0) : (k2 s).2.2 = 0 := by
  have d : k3 s = intA s (k2 s).2 := rfl
  rw [d] at h
  exact intA_err h
theorem k2e {s : List UInt8} (h : (k2 s).2.2 = 0) : (k1 s).2.2 = 0 := by
  have d : k2 s = strA s (k1 s).2 := rfl
  rw [d] at h
  exact strA_err h
def staC (v u : List UInt8) (n : Int) (x : Sub) : List Value := [st v, st u, nu n] ++ subC x
def F1 : List (Bool × Nat) := [(true, 0), (true, 1), (false, 2)]
def F2 : List (Bool × Nat) := [(false, 3), (false, 4), (false, 5), (true, 6)]
theorem r1_ok (s : List UInt8) (h : (k3 s).2.2 = 0) : rdL s F1 (staC [] [] 0 zeroS) 0 = (0, (k3 s).2.1, staC (k1 s).1 (k2 s).1 (k3 s).1 zeroS) := by
  have h2 : (k2 s).2.2 = 0 := k3e h
  have h1 : (k1 s).2.2 = 0 := k2e h2
  have e2 : strA s ((k1 s).2.1, 0) = k2 s := by rw [← pr0 h1]; rfl
  have e3 : intA s ((k2 s).2.1, 0) = k3 s := by rw [← pr0 h2]; rfl
  unfold F1
  rw [rdL_t, show strA s (0, 0) = k1 s from rfl, if_neg (by omega), rdL_t, e2, if_neg (by omega), rdL_n, e3, if_neg (by omega)]
  rfl
theorem r1_bad (s : List UInt8) (h : (k3 s).2.2 ≠ 0) : (rdL s F1 (staC [] [] 0 zeroS) 0).1 = (k3 s).2.2 := by
  unfold F1
  rw [rdL_t, show strA s (0, 0) = k1 s from rfl]
  by_cases h1 : (k1 s).2.2 = 0
  · have e2 : strA s ((k1 s).2.1, 0) = k2 s := by rw [← pr0 h1]; rfl
    rw [if_neg (by omega), rdL_t, e2]
    by_cases h2 : (k2 s).2.2 = 0
    · have e3 : intA s ((k2 s).2.1, 0) = k3 s := by rw [← pr0 h2]; rfl
      rw [if_neg (by omega), rdL_n, e3, if_pos h]
    · have e3 : k3 s = (0, (k2 s).2) := intA_bad h2
      rw [if_pos h2, e3]
  · have e2 : k2 s = ([], (k1 s).2) := strA_bad h1
    have e3 : k3 s = (0, (k1 s).2) := by
      have : k3 s = intA s (k2 s).2 := rfl
      rw [this, e2]
      exact intA_bad h1
    rw [if_pos h1, e3]
theorem r2_ok (s : List UInt8) (v u : List UInt8) (n : Int) (h : (k7 s).2.2 = 0) : rdL s F2 (staC v u n zeroS) (k3 s).2.1 = (0, (k7 s).2.1, staC v u n ⟨(k4 s).1, (k5 s).1, (k6 s).1, (k7 s).1, zeroD, zeroD⟩) := by
  have h6 : (k6 s).2.2 = 0 := k7e h
  have h5 : (k5 s).2.2 = 0 := k6e h6
  have h4 : (k4 s).2.2 = 0 := k5e h5
  have h3 : (k3 s).2.2 = 0 := k4e h4
  have e4 : intA s ((k3 s).2.1, 0) = k4 s := by rw [← pr0 h3]; rfl
  have e5 : intA s ((k4 s).2.1, 0) = k5 s := by rw [← pr0 h4]; rfl
  have e6 : intA s ((k5 s).2.1, 0) = k6 s := by rw [← pr0 h5]; rfl
  have e7 : strA s ((k6 s).2.1, 0) = k7 s := by rw [← pr0 h6]; rfl
  unfold F2
  rw [rdL_n, e4, if_neg (by omega), rdL_n, e5, if_neg (by omega), rdL_n, e6, if_neg (by omega), rdL_t, e7, if_neg (by omega)]
  rfl
theorem r2_bad (s : List UInt8) (R : List Value) (h3 : (k3 s).2.2 = 0) (h : (k7 s).2.2 ≠ 0) : (rdL s F2 R (k3 s).2.1).1 = (k7 s).2.2 := by
  have e4 : intA s ((k3 s).2.1, 0) = k4 s := by rw [← pr0 h3]; rfl
  have d5 : k5 s = intA s (k4 s).2 := rfl
  have d6 : k6 s = intA s (k5 s).2 := rfl
  have d7 : k7 s = strA s (k6 s).2 := rfl
  unfold F2
  rw [rdL_n, e4]
  by_cases h4 : (k4 s).2.2 = 0
  · have e5 : intA s ((k4 s).2.1, 0) = k5 s := by rw [← pr0 h4]; rfl
    rw [if_neg (by omega), rdL_n, e5]
    by_cases h5 : (k5 s).2.2 = 0
    · have e6 : intA s ((k5 s).2.1, 0) = k6 s := by rw [← pr0 h5]; rfl
      rw [if_neg (by omega), rdL_n, e6]
      by_cases h6 : (k6 s).2.2 = 0
      · have e7 : strA s ((k6 s).2.1, 0) = k7 s := by rw [← pr0 h6]; rfl
        rw [if_neg (by omega), rdL_t, e7, if_pos h]
      · rw [if_pos h6, d7, strA_bad h6]
    · rw [if_pos h5, d7, d6, intA_bad h5, strA_bad h5]
  · rw [if_pos h4, d7, d6, d5, intA_bad h4, intA_bad h4, strA_bad h4]
theorem k3_at (s : List UInt8) (h : (k3 s).2.2 = 0) : (k3 s).2.1 ≤ s.length ∧ (k1 s).1.length ≤ 16384 ∧ (k2 s).1.length ≤ 16384 ∧ s = ((txtB (k1 s).1 ++ txtB (k2 s).1) ++ numB (k3 s).1) ++ s.drop (k3 s).2.1 := by
  have h2 : (k2 s).2.2 = 0 := k3e h
  have h1 : (k1 s).2.2 = 0 := k2e h2
  obtain ⟨-, a1, a2, a3⟩ := strA_once (s := s) (a := (0, 0)) (Nat.zero_le _) h1
  have qk2 := strA_once (s := s) (a := (k1 s).2) a1
  rw [show strA s (k1 s).2 = k2 s from rfl] at qk2
  obtain ⟨-, b1, b2, b3⟩ := qk2 h2
  have qk3 := intA_once (s := s) (a := (k2 s).2) b1
  rw [show intA s (k2 s).2 = k3 s from rfl] at qk3
  obtain ⟨-, c1, c2, c3⟩ := qk3 h
  refine ⟨c1, a2, b2, ?_⟩
  have a3' : s = txtB (k1 s).1 ++ s.drop (k1 s).2.1 := a3
  have b3' : s.drop (k1 s).2.1 = txtB (k2 s).1 ++ s.drop (k2 s).2.1 := b3
  have c3' : s.drop (k2 s).2.1 = numB (k3 s).1 ++ s.drop (k3 s).2.1 := c3
  rw [List.append_assoc, List.append_assoc, ← c3', ← b3', ← a3']
theorem k7_at (s : List UInt8) (h : (k7 s).2.2 = 0) : (k7 s).2.1 ≤ s.length ∧ (k7 s).1.length ≤ 16384 ∧ I64 (k4 s).1 ∧ I64 (k5 s).1 ∧ I64 (k6 s).1 ∧ s.drop (k3 s).2.1 = (((numB (k4 s).1 ++ numB (k5 s).1) ++ numB (k6 s).1) ++ txtB (k7 s).1) ++ s.drop (k7 s).2.1 := by
  have h6 : (k6 s).2.2 = 0 := k7e h
  have h5 : (k5 s).2.2 = 0 := k6e h6
  have h4 : (k4 s).2.2 = 0 := k5e h5
  have h3 : (k3 s).2.2 = 0 := k4e h4
  obtain ⟨a1, -⟩ := k3_at s h3
  have qk4 := intA_once (s := s) (a := (k3 s).2) a1
  rw [show intA s (k3 s).2 = k4 s from rfl] at qk4
  obtain ⟨-, b1, b2, b3⟩ := qk4 h4
  have qk5 := intA_once (s := s) (a := (k4 s).2) b1
  rw [show intA s (k4 s).2 = k5 s from rfl] at qk5
  obtain ⟨-, c1, c2, c3⟩ := qk5 h5
  have qk6 := intA_once (s := s) (a := (k5 s).2) c1
  rw [show intA s (k5 s).2 = k6 s from rfl] at qk6
  obtain ⟨-, d1, d2, d3⟩ := qk6 h6
  have qk7 := strA_once (s := s) (a := (k6 s).2) d1
  rw [show strA s (k6 s).2 = k7 s from rfl] at qk7
  obtain ⟨-, e1, e2, e3⟩ := qk7 h
  refine ⟨e1, e2, b2, c2, d2, ?_⟩
  have b3' : s.drop (k3 s).2.1 = numB (k4 s).1 ++ s.drop (k4 s).2.1 := b3
  have c3' : s.drop (k4 s).2.1 = numB (k5 s).1 ++ s.drop (k5 s).2.1 := c3
  have d3' : s.drop (k5 s).2.1 = numB (k6 s).1 ++ s.drop (k6 s).2.1 := d3
  have e3' : s.drop (k6 s).2.1 = txtB (k7 s).1 ++ s.drop (k7 s).2.1 := e3
  rw [List.append_assoc, List.append_assoc, List.append_assoc, ← e3', ← d3', ← c3', ← b3']
theorem read_bytes (seed : List UInt8) (n : Nat) (me : Int) (s : List UInt8) (h : readE n me s = 0) : bytesU (readU seed me s) = s := by
  unfold readE at h
  have hf : fE s = 0 := Decidable.byContradiction fun e => by rw [if_pos e] at h; exact e h
  rw [if_neg (by omega)] at h
  have hv : okVw n me (k1 s).1 (k2 s).1 = true := by
    cases hb : okVw n me (k1 s).1 (k2 s).1 with
    | true => rfl
    | false => rw [hb, if_pos rfl] at h; cases h
  rw [hv, if_neg (by decide)] at h
  unfold fE at hf
  have h3 : (k3 s).2.2 = 0 := Decidable.byContradiction fun e => by rw [if_pos e] at hf; exact e hf
  rw [if_neg (by omega)] at hf
  obtain ⟨a1, a2, a3, a4⟩ := k3_at s h3
  have t1 : layT (k1 s).1 = txtB (k1 s).1 := by unfold layT; rw [if_neg (by omega)]
  have t2 : layT (k2 s).1 = txtB (k2 s).1 := by unfold layT; rw [if_neg (by omega)]
  unfold readU
  by_cases hz : (k3 s).1 = 0
  · rw [hz, if_neg (by decide)] at hf
    have hl : (k3 s).2.1 = s.length := Decidable.byContradiction fun e => by rw [if_neg (by rintro ⟨-, e2⟩; exact e e2)] at hf; cases hf
    rw [if_pos hz]
    have hb : busyB (u0 me s) = false := by
      unfold busyB u0
      rw [(sameS_iff zeroS zeroS).2 rfl]
      rfl
    unfold bytesU
    rw [hb, if_neg (by decide)]
    show (layT (k1 s).1 ++ layT (k2 s).1) ++ numB 0 = s
    rw [t1, t2]
    rw [hl, hz, List.drop_length, List.append_nil] at a4
    exact a4.symm
  · rw [if_neg hz] at h ⊢
    have ho : (k3 s).1 = 1 := Decidable.byContradiction fun e => by rw [if_neg e, if_neg (by rintro ⟨e1, -⟩; exact hz e1)] at hf; cases hf
    rw [if_pos ho] at hf
    have h7 : (k7 s).2.2 = 0 := Decidable.byContradiction fun e => by rw [if_pos e] at hf; exact e hf
    rw [if_neg (by omega)] at hf
    have hl : (k7 s).2.1 = s.length := Decidable.byContradiction fun e => by rw [if_neg e] at hf; cases hf
    obtain ⟨b1, b2, -, -, -, b6⟩ := k7_at s h7
    have t3 : layT (k7 s).1 = txtB (k7 s).1 := by unfold layT; rw [if_neg (by omega)]
    have hc : (k4 s).1 = cnU (u0 me s) ∧ refE n me (k1 s).1 (k5 s).1 (k6 s).1 (k7 s).1.length = 0 ∧ (k7 s).1 = (k2 s).1 := Decidable.byContradiction fun e => by rw [if_neg e] at h; cases h
    obtain ⟨c1, -, c3⟩ := hc
    have hb : busyB (⟨me, (k1 s).1, (k2 s).1, nextS seed (u0 me s) (k5 s).1 (k6 s).1⟩ : Ureg) = true := busy_ne _ (by show cnU (u0 me s) ≠ 0; unfold cnU; omega)
    unfold bytesU
    rw [hb, if_pos rfl]
    show (layT (k1 s).1 ++ layT (k2 s).1) ++ ((((numB 1 ++ numB (cnU (u0 me s))) ++ numB (k5 s).1) ++ numB (k6 s).1) ++ layT (k2 s).1) = s
    rw [← c1, t1, t2]
    rw [ho, b6, hl, List.drop_length, List.append_nil, c3] at a4
    refine Eq.trans ?_ a4.symm
    simp only [List.append_assoc]
theorem readU_busy (seed : List UInt8) (n : Nat) (me : Int) (s : List UInt8) (_h : readE n me s = 0) : busyB (readU seed me s) = decide (0 < (readU seed me s).asked.number) := by
  unfold readU
  by_cases hz : (k3 s).1 = 0
  · rw [if_pos hz]
    unfold busyB u0
    rw [(sameS_iff zeroS zeroS).2 rfl]
    rfl
  · rw [if_neg hz]
    rw [busy_ne _ (by show cnU (u0 me s) ≠ 0; unfold cnU; omega)]
    exact (decide_eq_true (by show 0 < cnU (u0 me s); unfold cnU; omega)).symm
end Go.Proofs.YtekfcbedlokidaaGreatDoor.Ms
namespace Go.Proofs.YtekfcbedlokidaaGreatDoor.Lay
open Go
set_option maxRecDepth 100000
def valF (m : Nat) (l : List UInt8) : Nat := l.foldl (fun n c => n * 10 + (c.toNat - 48)) m
theorem valF_ge (l : List UInt8) : ∀ m, m ≤ valF m l := by
  induction l with
  | nil => intro m; exact Nat.le_refl _
  | cons c r ih =>
    intro m
    have h := ih (m * 10 + (c.toNat - 48))
    show m ≤ valF (m * 10 + (c.toNat - 48)) r
    omega
theorem isDig_iff (c : UInt8) : isDig c = true ↔ 48 ≤ c.toNat ∧ c.toNat ≤ 57 := by
  unfold isDig
  simp
theorem parse_is (l : List UInt8) (hl : ∀ c ∈ l, isDig c = true) : ∀ m, m < 18446744073709551616 → Lib.parseUint10 m l = if valF m l < 18446744073709551616 then .ok (valF m l) else .range := by
  induction l with
  | nil => intro m hm; rw [Lib.parseUint10]; show _ = if m < _ then _ else _; rw [if_pos hm]; rfl
  | cons c r ih =>
    intro m hm
    have hd := (isDig_iff c).1 (hl c (by simp))
    have e : valF m (c :: r) = valF (m * 10 + (c.toNat - 48)) r := rfl
    have hg := valF_ge r (m * 10 + (c.toNat - 48))
    rw [Lib.parseUint10, if_pos hd, e]
    by_cases h1 : 1844674407370955162 ≤ m
    · rw [if_pos h1, if_neg (by omega)]
    · rw [if_neg h1]
      by_cases h2 : 18446744073709551616 ≤ m * 10 + (c.toNat - 48)
      · rw [if_pos h2, if_neg (by omega)]
      · rw [if_neg h2]
        exact ih (fun x hx => hl x (by simp [hx])) _ (by omega)
def rdF : Int → List UInt8 → Option Int
  | n, [] => some n
  | n, c :: r => if n < (-9223372036854775808 + ((c.toNat : Int) - 48)).tdiv 10 then none else rdF (n * 10 - ((c.toNat : Int) - 48)) r
theorem tdiv_ten (m d : Nat) (hd : d ≤ 9) : (-(m : Int)) < (-9223372036854775808 + (d : Int)).tdiv 10 ↔ 9223372036854775808 < m * 10 + d := by
  have e : (-9223372036854775808 + (d : Int)).tdiv 10 = -(((9223372036854775808 - d) / 10 : Nat) : Int) := by
    have h1 : (-9223372036854775808 + (d : Int)) = -((9223372036854775808 - d : Nat) : Int) := by omega
    rw [h1, Int.neg_tdiv]
    rfl
  rw [e]
  omega
theorem rdF_is (l : List UInt8) (hl : ∀ c ∈ l, isDig c = true) : ∀ m : Nat, m ≤ 9223372036854775808 → rdF (-(m : Int)) l = if valF m l ≤ 9223372036854775808 then some (-(valF m l : Int)) else none := by
  induction l with
  | nil => intro m hm; rw [rdF]; show _ = if m ≤ _ then _ else _; rw [if_pos hm]; rfl
  | cons c r ih =>
    intro m hm
    have hd := (isDig_iff c).1 (hl c (by simp))
    have e : valF m (c :: r) = valF (m * 10 + (c.toNat - 48)) r := rfl
    have hg := valF_ge r (m * 10 + (c.toNat - 48))
    have ec : (c.toNat : Int) - 48 = ((c.toNat - 48 : Nat) : Int) := by omega
    have ht := tdiv_ten m (c.toNat - 48) (by omega)
    rw [rdF, e, ec]
    by_cases h1 : 9223372036854775808 < m * 10 + (c.toNat - 48)
    · rw [if_pos (ht.2 h1), if_neg (by omega)]
    · rw [if_neg (fun h => h1 (ht.1 h))]
      have e2 : -(m : Int) * 10 - ((c.toNat - 48 : Nat) : Int) = -((m * 10 + (c.toNat - 48) : Nat) : Int) := by omega
      rw [e2]
      exact ih (fun x hx => hl x (by simp [hx])) _ (by omega)
def numR (neg : Bool) (x : Option Int) (c : Nat) : Nat × Int × Nat :=
  match x with
  | none => (4, 0, 0)
  | some n => if neg then (0, n, c) else if n = -9223372036854775808 then (4, 0, 0) else (0, -n, c)
theorem num_pos (l : List UInt8) (hl : ∀ c ∈ l, isDig c = true) (hne : l ≠ []) (c : Nat) : numOf (Lib.atoiAll l) c = numR false (rdF 0 l) c := by
  have hr := rdF_is l hl 0 (by omega)
  have hp := parse_is l hl 0 (by omega)
  simp only [Int.natCast_zero, Int.neg_zero] at hr
  rw [hr]
  match l, hne, hl, hp with
  | a :: r, _, hl, hp =>
    have hd := isDig_ne (hl a (by simp))
    unfold Lib.atoiAll Lib.parseMag
    simp only [hd.2.2.1, hd.2.2.2, or_self, if_false]
    rw [if_neg (by simp), hp]
    generalize valF 0 (a :: r) = v
    by_cases h1 : v < 18446744073709551616
    · rw [if_pos h1]
      by_cases h2 : 9223372036854775808 ≤ v
      · simp only [not_false_eq_true, true_and, if_pos h2]
        by_cases h3 : v ≤ 9223372036854775808
        · obtain rfl : v = 9223372036854775808 := by omega
          rfl
        · rw [if_neg h3]
          rfl
      · simp only [not_false_eq_true, true_and, if_neg h2, false_and, if_false]
        rw [if_pos (by omega)]
        simp only [numOf, numR, Bool.false_eq_true, if_false]
        rw [if_neg (by omega)]
        simp
    · rw [if_neg h1, if_neg (by omega)]
      rfl
theorem num_neg (l : List UInt8) (hl : ∀ c ∈ l, isDig c = true) (hne : l ≠ []) (c : Nat) : numOf (Lib.atoiAll (45 :: l)) c = numR true (rdF 0 l) c := by
  have hr := rdF_is l hl 0 (by omega)
  have hp := parse_is l hl 0 (by omega)
  simp only [Int.natCast_zero, Int.neg_zero] at hr
  rw [hr]
  have e45 : ((45 : UInt8).toNat = 45) = True := by simp
  unfold Lib.atoiAll Lib.parseMag
  simp only [e45, or_true, if_true]
  rw [if_neg hne, hp]
  generalize valF 0 l = v
  by_cases h1 : v < 18446744073709551616
  · rw [if_pos h1]
    by_cases h2 : 9223372036854775808 < v
    · simp only [not_true_eq_false, false_and, if_false, true_and, if_pos h2]
      rw [if_neg (by omega)]
      rfl
    · simp only [not_true_eq_false, false_and, if_false, true_and, if_neg h2]
      rw [if_pos (by omega)]
      rfl
  · rw [if_neg h1, if_neg (by omega)]
    rfl
theorem eod_pos {r : List UInt8} {c : UInt8} (h : eodErr r c = 0) : 0 < digRun r := by
  unfold eodErr at h
  by_cases h1 : digRun r = r.length
  · rw [if_pos h1] at h; cases h
  · rw [if_neg h1] at h
    by_cases h2 : digRun r = 0
    · rw [if_pos (.inl h2)] at h; cases h
    · omega
theorem readNum_ref (r : List UInt8) : readNum r = if eodErr (r.drop (negLen r)) 59 ≠ 0 then (eodErr (r.drop (negLen r)) 59, 0, 0) else if isNeg r ∧ (r.drop (negLen r)).getD 0 0 = 48 then (6, 0, 0)
    else numR (isNeg r) (rdF 0 ((r.drop (negLen r)).take (digRun (r.drop (negLen r))))) (negLen r + digRun (r.drop (negLen r)) + 1) := by
  unfold readNum
  by_cases h1 : eodErr (r.drop (negLen r)) 59 = 0
  · have h1' : ¬ (eodErr (r.drop (negLen r)) 59 ≠ 0) := fun e => e h1
    simp only [if_neg h1']
    by_cases h2 : isNeg r ∧ (r.drop (negLen r)).getD 0 0 = 48
    · simp only [if_pos h2]
    · simp only [if_neg h2]
      have hp := eod_pos h1
      have hd := digRun_all (r.drop (negLen r))
      have hne : (r.drop (negLen r)).take (digRun (r.drop (negLen r))) ≠ [] := by
        intro e
        have h9 := congrArg List.length e
        have h8 := digRun_le (r.drop (negLen r))
        rw [List.length_take, List.length_nil] at h9
        omega
      cases hn : isNeg r with
      | false =>
        have e0 : negLen r = 0 := by unfold negLen; rw [hn]; rfl
        rw [e0] at hd hne ⊢
        simp only [List.drop_zero, Nat.zero_add] at hd hne ⊢
        exact num_pos _ hd hne _
      | true =>
        have e0 : negLen r = 1 := by unfold negLen; rw [hn]; rfl
        rw [e0] at hd hne ⊢
        obtain ⟨r', rfl⟩ : ∃ r', r = 45 :: r' := by
          cases r with
          | nil => simp [isNeg] at hn
          | cons a r' => simp [isNeg] at hn; exact ⟨r', by rw [hn]⟩
        simp only [List.drop_succ_cons, List.drop_zero] at hd hne ⊢
        rw [Nat.add_comm 1 (digRun r'), List.take_succ_cons]
        exact num_neg _ hd hne _
  · simp only [if_pos (show eodErr (r.drop (negLen r)) 59 ≠ 0 from h1)]
open Go Go.RowKit
set_option maxRecDepth 100000
theorem refEnd_any (s : ByteArray) (p : Nat) (h : p ≤ s.size) (hs : s.size ≤ maxLen) (w : World) (r : List UInt8) (HR : Hid (s.data.toList.drop p = r)) (v : Int) (hv : v = p) :
    Calls Tryz.prog 118 #[.string s, .int .i64 v] w fun e w' => e = .returned (.int .i64 ((p + digRun r : Nat) : Int)) ∧ w' = w := by
  subst hv
  unfold maxLen at hs
  have hl := digRun_le r
  have hl2 : r.length = s.size - p := by rw [← HR.out]; simp
  have HD := digRun_at r
  have HS := digRun_stop r
  go_enter Tryz.func118, Tryz.ntmps118
  go_wp2
  go_loop [1] (fun i => ∃ k : Nat, k ≤ digRun r ∧ i = .int .i64 ((p + k : Nat) : Int)) (fun i => s.size - (intOf i).toNat)
  case atStart => exact ⟨0, Nat.zero_le _, rfl⟩
  case round =>
    obtain ⟨k, hk, rfl⟩ := hrel
    by_cases hlt : k < digRun r
    · have hd := HD k hlt
      have hps : p + k < s.size := by omega
      rw [← HR.out, byte_drop s p k hps] at hd
      simp only [isDig, Bool.and_eq_true, decide_eq_true_eq] at hd
      obtain ⟨hd1, hd2⟩ := hd
      clear HD HS
      go_wp2
      go_round
      case rel => exact ⟨k + 1, by omega, by go_num⟩
      case measure => simp [intOf]; omega
    · have hke : k = digRun r := by omega
      subst hke
      clear HD
      by_cases hend : digRun r = r.length
      · have hps : p + digRun r = s.size := by omega
        have hq2 : ¬ ((p : Int) + (digRun r : Int)) < (s.size : Int) := by omega
        clear HS
        go_wp2
        go_ret
        exact ⟨by simp, rfl⟩
      · have hps : p + digRun r < s.size := by omega
        have hst := HS (by omega)
        have hgd : r.getD (digRun r) 0 = s[p + digRun r] := by have := byte_drop s p (digRun r) hps; rw [HR.out] at this; exact this
        rw [hgd] at hst
        have hnd : ((s[p + digRun r].toNat : Int) < 48) ∨ (57 < (s[p + digRun r].toNat : Int)) := by
          simp only [isDig, Bool.and_eq_false_iff, decide_eq_false_iff_not] at hst; omega
        clear hst HS hgd
        rcases hnd with hnd | hnd
        all_goals
          go_wp2
          go_ret
          exact ⟨by simp, rfl⟩
theorem refBad_any (s : ByteArray) (p : Nat) (h : p ≤ s.size) (c : UInt8) (hs : s.size ≤ maxLen) (w : World) (r : List UInt8) (HR : Hid (s.data.toList.drop p = r)) (v u : Int) (hv : v = p) (hu : u = ((p + digRun r : Nat) : Int)) :
    Calls Tryz.prog 119 #[.string s, .int .i64 v, .int .i64 u, .int .u8 c.toNat] w fun e w' => e = .returned (.int .i64 (eodErr r c)) ∧ w' = w := by
  subst hv hu
  unfold maxLen at hs
  have hl := digRun_le r
  have hl2 : r.length = s.size - p := by rw [← HR.out]; simp
  by_cases hend : digRun r = r.length
  · have hps : p + digRun r = s.size := by omega
    have HE : eodErr r c = 5 := by unfold eodErr; rw [if_pos hend]
    rw [HE, hps]
    go_enter Tryz.func119, Tryz.ntmps119
    go_wp2
    go_ret
    exact ⟨rfl, rfl⟩
  · have hps : p + digRun r < s.size := by omega
    have hp : p < s.size := by omega
    have hgd : r.getD (digRun r) 0 = s[p + digRun r] := by have := byte_drop s p (digRun r) hps; rw [HR.out] at this; exact this
    have hg0 : r.getD 0 0 = s[p] := by have := byte_drop s p 0 (by omega); rw [HR.out] at this; exact this
    have HE : Hid (eodErr r c = if digRun r = 0 ∨ s[p + digRun r] ≠ c ∨ (1 < digRun r ∧ s[p] = 48) then 6 else 0) := by show _ = _; unfold eodErr; rw [if_neg hend, hgd, hg0]
    have q0 : decide (((p + digRun r : Nat) : Int) < (s.size : Int)) = true := by simp; omega
    have q1 : decide ((s.size : Int) ≤ ((p + digRun r : Nat) : Int)) = false := by simp; omega
    clear hgd hg0
    by_cases h0 : digRun r = 0
    · have HE6 : eodErr r c = 6 := by rw [HE.out, if_pos (Or.inl h0)]
      rw [HE6]
      have hb : (((p + digRun r : Nat) : Int) == (p : Int)) = true := by rw [beq_iff_eq]; omega
      clear HE h0
      generalize p + digRun r = q at *
      go_enter Tryz.func119, Tryz.ntmps119
      go_wp2
      go_ret
      exact ⟨rfl, rfl⟩
    · have hb : (((p + digRun r : Nat) : Int) == (p : Int)) = false := by rw [beq_eq_false_iff_ne]; omega
      by_cases hc : s[p + digRun r] = c
      · have hcb : ((s[p + digRun r].toNat : Int) != (c.toNat : Int)) = false := by rw [hc]; simp
        by_cases h1 : 1 < digRun r
        · have hb1 : decide ((p : Int) + 1 < ((p + digRun r : Nat) : Int)) = true := by simp; omega
          by_cases hz : s[p] = 48
          · have HE6 : eodErr r c = 6 := by rw [HE.out, if_pos (Or.inr (Or.inr ⟨h1, hz⟩))]
            rw [HE6]
            have hzb : ((s[p].toNat : Int) == 48) = true := by rw [beq_iff_eq, hz]; rfl
            clear HE h0 hc hz
            generalize p + digRun r = q at *
            go_enter Tryz.func119, Tryz.ntmps119
            go_wp2
            go_ret
            exact ⟨rfl, rfl⟩
          · have HE0 : eodErr r c = 0 := by rw [HE.out, if_neg]; exact fun h' => h'.elim h0 (fun h' => h'.elim (fun h' => h' hc) (fun h' => hz h'.2))
            rw [HE0]
            have hzb : ((s[p].toNat : Int) == 48) = false := by
              rw [beq_eq_false_iff_ne]; intro h'; apply hz; apply UInt8.toNat_inj.1; show _ = 48; omega
            clear HE h0 hc hz
            generalize p + digRun r = q at *
            go_enter Tryz.func119, Tryz.ntmps119
            go_wp2
            go_ret
            exact ⟨rfl, rfl⟩
        · have hb1 : decide ((p : Int) + 1 < ((p + digRun r : Nat) : Int)) = false := by simp; omega
          have HE0 : eodErr r c = 0 := by rw [HE.out, if_neg]; exact fun h' => h'.elim h0 (fun h' => h'.elim (fun h' => h' hc) (fun h' => h1 h'.1))
          rw [HE0]
          clear HE h0 hc
          generalize p + digRun r = q at *
          go_enter Tryz.func119, Tryz.ntmps119
          go_wp2
          go_ret
          exact ⟨rfl, rfl⟩
      · have hcn : ((s[p + digRun r].toNat : Int) != (c.toNat : Int)) = true := by
          rw [bne_iff_ne]; intro h'; apply hc; apply UInt8.toNat_inj.1; omega
        have HE6 : eodErr r c = 6 := by rw [HE.out, if_pos (Or.inr (Or.inl hc))]
        rw [HE6]
        clear HE h0 hc
        generalize p + digRun r = q at *
        go_enter Tryz.func119, Tryz.ntmps119
        go_wp2
        go_ret
        exact ⟨rfl, rfl⟩
open Go Go.RowKit
set_option maxRecDepth 100000
theorem hid {p : Prop} (h : p) : Hid p := h
theorem rdF_step (u : Nat) (c : UInt8) (l : List UInt8) (hc : isDig c = true) : (9223372036854775808 < u * 10 + (c.toNat - 48) → rdF (-(u : Int)) (c :: l) = none) ∧ (u * 10 + (c.toNat - 48) ≤ 9223372036854775808 → rdF (-(u : Int)) (c :: l) = rdF (-((u * 10 + (c.toNat - 48) : Nat) : Int)) l) := by
  have hd := (isDig_iff c).1 hc
  have ec : (c.toNat : Int) - 48 = ((c.toNat - 48 : Nat) : Int) := by omega
  have ht := tdiv_ten u (c.toNat - 48) (by omega)
  rw [rdF, ec]
  constructor
  · intro h
    rw [if_pos (ht.2 h)]
  · intro h
    rw [if_neg (fun h9 => by have := ht.1 h9; omega)]
    congr 1
    omega
theorem tdiv_is (u : Nat) (c : UInt8) (hc : isDig c = true) : ((-(u : Int)) < (-9223372036854775808 + ((c.toNat : Int) - 48)).tdiv 10) ↔ 9223372036854775808 < u * 10 + (c.toNat - 48) := by
  have hd := (isDig_iff c).1 hc
  have ec : (c.toNat : Int) - 48 = ((c.toNat - 48 : Nat) : Int) := by omega
  rw [ec]
  exact tdiv_ten u _ (by omega)
theorem dig_cons (r : List UInt8) (k : Nat) (h : k < digRun r) : (r.take (digRun r)).drop k = r.getD k 0 :: (r.take (digRun r)).drop (k + 1) := by
  have hl := digRun_le r
  have h9 : k < (r.take (digRun r)).length := by rw [List.length_take]; omega
  rw [List.drop_eq_getElem_cons h9, List.getElem_take]
  congr 1
  simp [List.getD, List.getElem?_eq_getElem (show k < r.length by omega)]
theorem ret_three {a b c a' b' c' : Int} (h1 : a = a') (h2 : b = b') (h3 : c = c') : Ending.returned (.tuple #[.int .i64 a, .int .i64 b, .int .i64 c]) = .returned (.tuple #[.int .i64 a', .int .i64 b', .int .i64 c']) := by rw [h1, h2, h3]
set_option maxHeartbeats 2000000 in
theorem refReadAt_neg (s : ByteArray) (p : Nat) (hp : p ≤ s.size) (hs : s.size ≤ maxLen) (w : World) (t : List UInt8) (HT : Hid (s.data.toList.drop p = t)) (hneg : isNeg t = true) :
    Calls Tryz.prog 86 #[.string s, .int .i64 (p : Int)] w fun e w' => e = .returned (.tuple #[.int .i64 (readNum t).2.1, .int .i64 (numTo p t), .int .i64 (readNum t).1]) ∧ w' = w := by
  have hpos : p < s.size := by
    obtain ⟨r', hr'⟩ := neg_form hneg
    have h9 := congrArg List.length HT.out
    rw [hr'] at h9
    simp at h9
    omega
  have q0 : ((s[p].toNat : Int) == 45) = true := by
    have h9 := byte_drop s p 0 (by omega)
    rw [HT.out] at h9
    simp only [Nat.add_zero] at h9
    unfold isNeg at hneg
    rw [h9] at hneg
    rw [beq_iff_eq] at hneg ⊢
    rw [hneg]
    rfl
  have qs : decide ((p : Int) < (s.size : Int)) = true := decide_eq_true (by omega)
  have qz : decide ((s.size : Int) < (p : Int)) = false := decide_eq_false (by omega)
  have hnl : negLen t = 1 := by unfold negLen; rw [hneg]; rfl
  have hrn := readNum_ref t
  rw [hnl, hneg] at hrn
  obtain ⟨r, hr⟩ : ∃ r, r = t.drop 1 := ⟨_, rfl⟩
  rw [← hr] at hrn
  have HR : Hid (s.data.toList.drop (p + 1) = r) := by show _ = _; rw [← List.drop_drop, HT.out, hr]
  have hl := digRun_le r
  have hl2 : r.length = s.size - (p + 1) := by rw [← HR.out]; simp
  have HDg := digRun_at r
  have HEn := hid (refEnd_any s (p + 1) (by omega) hs w r HR ((p : Int) + 1) (by omega))
  have HBd : Hid (∀ v u : Int, v = ((p + 1 : Nat) : Int) → u = ((p + 1 + digRun r : Nat) : Int) → Calls Tryz.prog 119 #[.string s, .int .i64 v, .int .i64 u, .int .u8 59] w fun e w' => e = .returned (.int .i64 (eodErr r 59)) ∧ w' = w) := fun v u hv hu => refBad_any s (p + 1) (by omega) 59 hs w r HR v u hv hu
  have hms : s.size ≤ 9223372036854775807 := hs
  have HRn := hid hrn
  obtain ⟨N, hN⟩ : ∃ N, N = readNum t := ⟨_, rfl⟩
  rw [← hN] at HRn
  unfold numTo
  rw [← hN]
  obtain ⟨A1, hA1⟩ : ∃ A, A = N.2.1 := ⟨_, rfl⟩
  obtain ⟨A2, hA2⟩ : ∃ A, A = (if N.1 = 0 then p + N.2.2 else 0) := ⟨_, rfl⟩
  obtain ⟨A3, hA3⟩ : ∃ A, A = N.1 := ⟨_, rfl⟩
  rw [← hA1, ← hA2, ← hA3]
  have HA : Hid (A1 = N.2.1 ∧ A2 = (if N.1 = 0 then p + N.2.2 else 0) ∧ A3 = N.1) := ⟨hA1, hA2, hA3⟩
  clear hrn hN hr hA1 hA2 hA3
  by_cases hE : eodErr r 59 = 0
  · rw [if_neg (fun h => h hE)] at HRn
    obtain ⟨z0, z1, z2, z3⟩ := eod_zero hE
    rw [hE] at HBd
    have hx : s.extract (p + 1) (p + 1 + digRun r) = ⟨(r.take (digRun r)).toArray⟩ := by
      apply ByteArray.ext
      have h9 := Lib.extract_data s (p + 1) (p + 1 + digRun r)
      rw [show p + 1 + digRun r - (p + 1) = digRun r by omega, HR.out] at h9
      rw [← h9]
    have hg0 : r.getD 0 0 = s[p + 1] := by have h9 := byte_drop s (p + 1) 0 (by omega); rw [HR.out] at h9; exact h9
    by_cases hz : r.getD 0 0 = 48
    · rw [if_pos ⟨rfl, hz⟩] at HRn
      have hd1 : digRun r = 1 := by
        by_cases h9 : 1 < digRun r
        · exact absurd hz (z3 h9)
        · omega
      have hx2 : s.extract (p + 1) (p + 1 + digRun r) = ⟨#[48]⟩ := by
        rw [hx, hd1]
        congr 1
        rw [show r.take 1 = [48] from by
          cases r with
          | nil => simp at z1
          | cons c l => simp at hz; simp [hz]]
      have hxt : ((s.extract (p + 1) (p + 1 + digRun r)).toList == [48]) = true := by
        rw [hx2, beq_iff_eq, ByteArray.toList_eq]
      have hsz2 : p + 1 + digRun r ≤ s.size := by omega
      clear hx hz hg0 z2 z3 HDg hd1
      go_enter Tryz.func86, Tryz.ntmps86
      go_wp2_with fail
      refine HEn.out.mono ?_
      rintro e W ⟨rfl, hW⟩
      subst W
      go_wp2_with fail
      refine (HBd.out _ _ (by omega) (by omega)).mono ?_
      rintro e W ⟨rfl, hW⟩
      subst W
      go_wp2
      go_ret3
      obtain ⟨f1, f2, f3⟩ := HA.out
      rw [HRn.out] at f1 f2 f3
      exact ⟨ret_three f1.symm (by rw [f2]; rfl) (by rw [f3]; rfl), rfl⟩
    · rw [if_neg (fun h => hz h.2)] at HRn
      have hxn : ¬ (s.extract (p + 1) (p + 1 + digRun r) = ⟨#[48]⟩) := by
        rw [hx]
        intro h9
        have h8 : r.take (digRun r) = [48] := by
          have h7 := congrArg (fun b => b.data.toList) h9
          simpa using h7
        apply hz
        cases r with
        | nil => simp at z1
        | cons c l =>
          have h6 : ((c :: l).take (digRun (c :: l)))[0]? = some 48 := by rw [h8]; rfl
          rw [List.getElem?_take, if_pos z0] at h6
          simpa using h6
      have hxt : ((s.extract (p + 1) (p + 1 + digRun r)).toList == [48]) = false := by
        rw [beq_eq_false_iff_ne]
        intro h9
        apply hxn
        apply ByteArray.ext
        rw [ByteArray.toList_eq] at h9
        have h8 : (s.extract (p + 1) (p + 1 + digRun r)).data = (s.extract (p + 1) (p + 1 + digRun r)).data.toList.toArray := by rw [Array.toArray_toList]
        rw [h8, h9]
      clear hx hz hg0 z2 z3 hxn
      go_enter Tryz.func86, Tryz.ntmps86
      go_wp2_with fail
      refine HEn.out.mono ?_
      rintro e W ⟨rfl, hW⟩
      subst W
      go_wp2_with fail
      refine (HBd.out _ _ (by omega) (by omega)).mono ?_
      rintro e W ⟨rfl, hW⟩
      subst W
      go_wp2
      obtain ⟨M, hM⟩ : ∃ M, M = rdF 0 (r.take (digRun r)) := ⟨_, rfl⟩
      rw [← hM] at HRn
      have HM0 : Hid (M = rdF (-((0 : Nat) : Int)) ((r.take (digRun r)).drop 0)) := by show _ = _; rw [hM]; rfl
      clear hM
      go_loop [10, 11] (fun n i => ∃ k u : Nat, k ≤ digRun r ∧ u ≤ 9223372036854775808 ∧ n = .int .i64 (-(u : Int)) ∧ i = .int .i64 ((p + 1 + k : Nat) : Int) ∧ Hid (M = rdF (-(u : Int)) ((r.take (digRun r)).drop k))) (fun _ i => p + 1 + digRun r - (intOf i).toNat)
      case atStart => exact ⟨0, 0, Nat.zero_le _, Nat.zero_le _, rfl, rfl, HM0⟩
      case round =>
        obtain ⟨k, u, hk, hu, rfl, rfl, HM⟩ := hrel
        clear HM0
        by_cases hlt : k < digRun r
        · have hd := HDg k hlt
          have hps : p + 1 + k < s.size := by omega
          have HC := dig_cons r k hlt
          have hbd : r.getD k 0 = s[p + 1 + k] := by rw [← byte_drop s (p + 1) k hps, HR.out]
          rw [hbd] at hd HC
          have hst := rdF_step u s[p + 1 + k] ((r.take (digRun r)).drop (k + 1)) hd
          rw [← HC] at hst
          have HSt := hid hst
          have htd := tdiv_is u s[p + 1 + k] hd
          have hd2 := (isDig_iff _).1 hd
          clear hst HC hbd hd HDg
          by_cases hbig : 9223372036854775808 < u * 10 + (s[p + 1 + k].toNat - 48)
          · have bb : decide (-(u : Int) < (-9223372036854775808 + ((s[p + 1 + k].toNat : Int) - 48)).tdiv 10) = true := decide_eq_true (htd.2 hbig)
            have HMn : Hid (M = none) := HM.out.trans (HSt.out.1 hbig)
            clear htd HSt HM
            go_wp2
            go_ret3
            obtain ⟨f1, f2, f3⟩ := HA.out
            rw [HRn.out, HMn.out] at f1 f2 f3
            exact ⟨ret_three f1.symm (by rw [f2]; rfl) (by rw [f3]; rfl), rfl⟩
          · have bb : decide (-(u : Int) < (-9223372036854775808 + ((s[p + 1 + k].toNat : Int) - 48)).tdiv 10) = false := decide_eq_false (fun h => hbig (htd.1 h))
            have HM2 : Hid (M = rdF (-((u * 10 + (s[p + 1 + k].toNat - 48) : Nat) : Int)) ((r.take (digRun r)).drop (k + 1))) := HM.out.trans (HSt.out.2 (by omega))
            clear htd HSt HM
            go_wp2
            go_round
            case rel => exact ⟨k + 1, u * 10 + (s[p + 1 + k].toNat - 48), by omega, by omega, by go_num, by go_num, HM2⟩
            case measure => simp [intOf]; omega
        · obtain rfl : k = digRun r := by omega
          have HMs : Hid (M = some (-(u : Int))) := by
            have h9 := HM.out
            rw [List.drop_eq_nil_of_le (by rw [List.length_take]; omega), rdF] at h9
            exact h9
          clear HM HDg
          go_wp2
          go_ret3
          obtain ⟨f1, f2, f3⟩ := HA.out
          rw [HRn.out, HMs.out] at f1 f2 f3
          exact ⟨ret_three (by rw [f1]; rfl) (by rw [f2]; simp [numR]; omega) (by rw [f3]; rfl), rfl⟩
  · rw [if_pos hE] at HRn
    have b1 : ((eodErr r 59 : Int) != 0) = true := by simp; omega
    generalize eodErr r 59 = E at *
    go_enter Tryz.func86, Tryz.ntmps86
    go_wp2_with fail
    refine HEn.out.mono ?_
    rintro e W ⟨rfl, hW⟩
    subst W
    go_wp2_with fail
    refine (HBd.out _ _ (by omega) (by omega)).mono ?_
    rintro e W ⟨rfl, hW⟩
    subst W
    go_wp2
    go_ret3
    obtain ⟨f1, f2, f3⟩ := HA.out
    rw [HRn.out] at f1 f2 f3
    exact ⟨ret_three f1.symm (by rw [f2, if_neg hE]; rfl) (by rw [f3]), rfl⟩
set_option maxHeartbeats 2000000 in
theorem refReadAt_pos (s : ByteArray) (p : Nat) (hp : p ≤ s.size) (hs : s.size ≤ maxLen) (w : World) (t : List UInt8) (HT : Hid (s.data.toList.drop p = t)) (hneg : isNeg t = false) :
    Calls Tryz.prog 86 #[.string s, .int .i64 (p : Int)] w fun e w' => e = .returned (.tuple #[.int .i64 (readNum t).2.1, .int .i64 (numTo p t), .int .i64 (readNum t).1]) ∧ w' = w := by
  have hnl : negLen t = 0 := by unfold negLen; rw [hneg]; rfl
  have hrn := readNum_ref t
  rw [hnl, hneg] at hrn
  obtain ⟨r, hr⟩ : ∃ r, r = t.drop 0 := ⟨_, rfl⟩
  rw [← hr] at hrn
  have HR : Hid (s.data.toList.drop p = r) := by show _ = _; rw [HT.out, hr]; rfl
  have hl := digRun_le r
  have hl2 : r.length = s.size - p := by rw [← HR.out]; simp
  have HDg := digRun_at r
  have HEn := hid (refEnd_any s p (by omega) hs w r HR (p : Int) rfl)
  have HBd : Hid (∀ v u : Int, v = (p : Int) → u = ((p + digRun r : Nat) : Int) → Calls Tryz.prog 119 #[.string s, .int .i64 v, .int .i64 u, .int .u8 59] w fun e w' => e = .returned (.int .i64 (eodErr r 59)) ∧ w' = w) := fun v u hv hu => refBad_any s p (by omega) 59 hs w r HR v u hv hu
  have hms : s.size ≤ 9223372036854775807 := hs
  have qz : decide ((s.size : Int) < (p : Int)) = false := decide_eq_false (by omega)
  have HRn := hid hrn
  obtain ⟨N, hN⟩ : ∃ N, N = readNum t := ⟨_, rfl⟩
  rw [← hN] at HRn
  unfold numTo
  rw [← hN]
  obtain ⟨A1, hA1⟩ : ∃ A, A = N.2.1 := ⟨_, rfl⟩
  obtain ⟨A2, hA2⟩ : ∃ A, A = (if N.1 = 0 then p + N.2.2 else 0) := ⟨_, rfl⟩
  obtain ⟨A3, hA3⟩ : ∃ A, A = N.1 := ⟨_, rfl⟩
  rw [← hA1, ← hA2, ← hA3]
  have HA : Hid (A1 = N.2.1 ∧ A2 = (if N.1 = 0 then p + N.2.2 else 0) ∧ A3 = N.1) := ⟨hA1, hA2, hA3⟩
  clear hrn hN hr hA1 hA2 hA3
  by_cases hE : eodErr r 59 = 0
  · rw [if_neg (fun h => h hE)] at HRn
    obtain ⟨z0, z1, z2, z3⟩ := eod_zero hE
    rw [hE] at HBd
    rw [if_neg (fun h => by simp at h)] at HRn
    have hpos : p < s.size := by omega
    have q0 : ((s[p].toNat : Int) == 45) = false := by
      have h9 := byte_drop s p 0 (by omega)
      rw [HT.out] at h9
      simp only [Nat.add_zero] at h9
      unfold isNeg at hneg
      rw [h9] at hneg
      rw [beq_eq_false_iff_ne] at hneg ⊢
      intro h8
      apply hneg
      apply UInt8.toNat_inj.1
      show _ = 45
      omega
    have qs : decide ((p : Int) < (s.size : Int)) = true := decide_eq_true (by omega)
    clear z2 z3
    go_enter Tryz.func86, Tryz.ntmps86
    go_wp2_with fail
    refine HEn.out.mono ?_
    rintro e W ⟨rfl, hW⟩
    subst W
    go_wp2_with fail
    refine (HBd.out _ _ (by omega) (by omega)).mono ?_
    rintro e W ⟨rfl, hW⟩
    subst W
    go_wp2
    obtain ⟨M, hM⟩ : ∃ M, M = rdF 0 (r.take (digRun r)) := ⟨_, rfl⟩
    rw [← hM] at HRn
    have HM0 : Hid (M = rdF (-((0 : Nat) : Int)) ((r.take (digRun r)).drop 0)) := by show _ = _; rw [hM]; rfl
    clear hM
    go_loop [10, 11] (fun n i => ∃ k u : Nat, k ≤ digRun r ∧ u ≤ 9223372036854775808 ∧ n = .int .i64 (-(u : Int)) ∧ i = .int .i64 ((p + k : Nat) : Int) ∧ Hid (M = rdF (-(u : Int)) ((r.take (digRun r)).drop k))) (fun _ i => p + digRun r - (intOf i).toNat)
    case atStart => exact ⟨0, 0, Nat.zero_le _, Nat.zero_le _, rfl, rfl, HM0⟩
    case round =>
      obtain ⟨k, u, hk, hu, rfl, rfl, HM⟩ := hrel
      clear HM0
      by_cases hlt : k < digRun r
      · have hd := HDg k hlt
        have hps : p + k < s.size := by omega
        have HC := dig_cons r k hlt
        have hbd : r.getD k 0 = s[p + k] := by rw [← byte_drop s p k hps, HR.out]
        rw [hbd] at hd HC
        have hst := rdF_step u s[p + k] ((r.take (digRun r)).drop (k + 1)) hd
        rw [← HC] at hst
        have HSt := hid hst
        have htd := tdiv_is u s[p + k] hd
        have hd2 := (isDig_iff _).1 hd
        clear hst HC hbd hd HDg
        by_cases hbig : 9223372036854775808 < u * 10 + (s[p + k].toNat - 48)
        · have bb : decide (-(u : Int) < (-9223372036854775808 + ((s[p + k].toNat : Int) - 48)).tdiv 10) = true := decide_eq_true (htd.2 hbig)
          have HMn : Hid (M = none) := HM.out.trans (HSt.out.1 hbig)
          clear htd HSt HM
          go_wp2
          go_ret3
          obtain ⟨f1, f2, f3⟩ := HA.out
          rw [HRn.out, HMn.out] at f1 f2 f3
          exact ⟨ret_three f1.symm (by rw [f2]; rfl) (by rw [f3]; rfl), rfl⟩
        · have bb : decide (-(u : Int) < (-9223372036854775808 + ((s[p + k].toNat : Int) - 48)).tdiv 10) = false := decide_eq_false (fun h => hbig (htd.1 h))
          have HM2 : Hid (M = rdF (-((u * 10 + (s[p + k].toNat - 48) : Nat) : Int)) ((r.take (digRun r)).drop (k + 1))) := HM.out.trans (HSt.out.2 (by omega))
          clear htd HSt HM
          go_wp2
          go_round
          case rel => exact ⟨k + 1, u * 10 + (s[p + k].toNat - 48), by omega, by omega, by go_num, by go_num, HM2⟩
          case measure => simp [intOf]; omega
      · obtain rfl : k = digRun r := by omega
        have HMs : Hid (M = some (-(u : Int))) := by
          have h9 := HM.out
          rw [List.drop_eq_nil_of_le (by rw [List.length_take]; omega), rdF] at h9
          exact h9
        clear HM HDg
        by_cases hmin : u = 9223372036854775808
        · subst hmin
          go_wp2
          go_ret3
          obtain ⟨f1, f2, f3⟩ := HA.out
          rw [HRn.out, HMs.out] at f1 f2 f3
          exact ⟨ret_three (by rw [f1]; rfl) (by rw [f2]; rfl) (by rw [f3]; rfl), rfl⟩
        · have bm : (-(u : Int) == -9223372036854775808) = false := by rw [beq_eq_false_iff_ne]; omega
          have HNu : Hid (numR false (some (-(u : Int))) (0 + digRun r + 1) = (0, (u : Int), digRun r + 1)) := by
            show _ = _
            unfold numR
            simp only [Bool.false_eq_true, if_false]
            rw [if_neg (by omega)]
            simp
          go_wp2
          go_ret3
          obtain ⟨f1, f2, f3⟩ := HA.out
          rw [HRn.out, HMs.out, HNu.out] at f1 f2 f3
          exact ⟨ret_three (by rw [f1] <;> simp) (by rw [f2]; simp; omega) (by rw [f3] <;> rfl), rfl⟩
  · rw [if_pos hE] at HRn
    have b1 : ((eodErr r 59 : Int) != 0) = true := by simp; omega
    by_cases hpos : p < s.size
    · have q0 : ((s[p].toNat : Int) == 45) = false := by
        have h9 := byte_drop s p 0 (by omega)
        rw [HT.out] at h9
        simp only [Nat.add_zero] at h9
        unfold isNeg at hneg
        rw [h9] at hneg
        rw [beq_eq_false_iff_ne] at hneg ⊢
        intro h8
        apply hneg
        apply UInt8.toNat_inj.1
        show _ = 45
        omega
      have qs : decide ((p : Int) < (s.size : Int)) = true := decide_eq_true (by omega)
      generalize eodErr r 59 = E at *
      go_enter Tryz.func86, Tryz.ntmps86
      go_wp2_with fail
      refine HEn.out.mono ?_
      rintro e W ⟨rfl, hW⟩
      subst W
      go_wp2_with fail
      refine (HBd.out _ _ (by omega) (by omega)).mono ?_
      rintro e W ⟨rfl, hW⟩
      subst W
      go_wp2
      go_ret3
      obtain ⟨f1, f2, f3⟩ := HA.out
      rw [HRn.out] at f1 f2 f3
      exact ⟨ret_three f1.symm (by rw [f2, if_neg hE]; rfl) (by rw [f3]), rfl⟩
    · have qs : decide ((p : Int) < (s.size : Int)) = false := decide_eq_false (by omega)
      generalize eodErr r 59 = E at *
      go_enter Tryz.func86, Tryz.ntmps86
      go_wp2_with fail
      refine HEn.out.mono ?_
      rintro e W ⟨rfl, hW⟩
      subst W
      go_wp2_with fail
      refine (HBd.out _ _ (by omega) (by omega)).mono ?_
      rintro e W ⟨rfl, hW⟩
      subst W
      go_wp2
      go_ret3
      obtain ⟨f1, f2, f3⟩ := HA.out
      rw [HRn.out] at f1 f2 f3
      exact ⟨ret_three f1.symm (by rw [f2, if_neg hE]; rfl) (by rw [f3]), rfl⟩
theorem refReadAt_any (s : ByteArray) (p : Nat) (hp : p ≤ s.size) (hs : s.size ≤ maxLen) (w : World) (t : List UInt8) (hT : s.data.toList.drop p = t) :
    Calls Tryz.prog 86 #[.string s, .int .i64 (p : Int)] w fun e w' => e = .returned (.tuple #[.int .i64 (readNum t).2.1, .int .i64 (numTo p t), .int .i64 (readNum t).1]) ∧ w' = w := by
  cases h : isNeg t with
  | true => exact refReadAt_neg s p hp hs w t hT h
  | false => exact refReadAt_pos s p hp hs w t hT h
open Go Go.RowKit
set_option maxRecDepth 100000
theorem txt_val (l : List UInt8) (hl : ∀ c ∈ l, isDig c = true) (hne : l ≠ []) (k : Nat) (r : List UInt8) :
    txtOf (Lib.atoiAll l) k r = if 16384 < valF 0 l then (4, [], 0) else if r.length - (k + 1) < valF 0 l then (5, [], 0) else (0, (r.drop (k + 1)).take (valF 0 l), k + 1 + valF 0 l) := by
  have hn := num_pos l hl hne 0
  have hr := rdF_is l hl 0 (by omega)
  simp only [Int.natCast_zero, Int.neg_zero] at hr
  rw [hr] at hn
  generalize valF 0 l = v at *
  by_cases hb : v < 9223372036854775808
  · rw [if_pos (by omega)] at hn
    have e : numR false (some (-(v : Int))) 0 = (0, (v : Int), 0) := by
      unfold numR
      simp only [Bool.false_eq_true, if_false]
      rw [if_neg (by omega)]
      simp
    rw [e] at hn
    have ha : Lib.atoiAll l = .ok (v : Int) := by
      cases h : Lib.atoiAll l with
      | ok u => rw [h] at hn; simp [numOf] at hn; rw [hn]
      | range => rw [h] at hn; simp [numOf] at hn
      | _ => rw [h] at hn; simp [numOf] at hn
    rw [ha]
    unfold txtOf
    simp only
    by_cases h1 : 16384 < v
    · rw [if_pos (by omega), if_pos h1]
    · rw [if_neg (by omega), if_neg h1]
      by_cases h2 : r.length - (k + 1) < v
      · rw [if_pos (by omega), if_pos h2]
      · rw [if_neg (by omega), if_neg h2]
        simp
  · have hno : ∀ u, Lib.atoiAll l ≠ .ok u := by
      intro u h
      rw [h] at hn
      by_cases h2 : v ≤ 9223372036854775808
      · obtain rfl : v = 9223372036854775808 := by omega
        rw [if_pos h2] at hn
        simp [numOf, numR] at hn
      · rw [if_neg h2] at hn
        simp [numOf, numR] at hn
    rw [if_pos (by omega)]
    unfold txtOf
    cases h : Lib.atoiAll l with
    | ok u => exact absurd h (hno u)
    | range => rfl
    | _ => rfl
theorem valF_cons (u : Nat) (c : UInt8) (l : List UInt8) : valF u (c :: l) = valF (u * 10 + (c.toNat - 48)) l := by
  unfold valF
  rw [List.foldl_cons]
set_option maxHeartbeats 2000000 in
theorem refTextAt_any (s : ByteArray) (p : Nat) (hp : p ≤ s.size) (hs : s.size ≤ 281474976710656) (w : World) (r : List UInt8) (hT : s.data.toList.drop p = r) :
    Calls Tryz.prog 85 #[.string s, .int .i64 (p : Int)] w fun e w' => e = .returned (.tuple #[.string ⟨(readTxt r).2.1.toArray⟩, .int .i64 (if (readTxt r).1 = 0 then p + (readTxt r).2.2 else 0 : Nat), .int .i64 (readTxt r).1]) ∧ w' = w := by
  have hsm : s.size ≤ maxLen := by unfold maxLen; omega
  have HR : Hid (s.data.toList.drop p = r) := hT
  have hl := digRun_le r
  have hl2 : r.length = s.size - p := by rw [← hT]; simp
  have HDg := digRun_at r
  have HEn := hid (refEnd_any s p hp hsm w r HR (p : Int) rfl)
  have HBd : Hid (∀ v u : Int, v = (p : Int) → u = ((p + digRun r : Nat) : Int) → Calls Tryz.prog 119 #[.string s, .int .i64 v, .int .i64 u, .int .u8 58] w fun e w' => e = .returned (.int .i64 (eodErr r 58)) ∧ w' = w) := fun v u hv hu => refBad_any s p hp 58 hsm w r HR v u hv hu
  have qz : decide ((s.size : Int) < (p : Int)) = false := decide_eq_false (by omega)
  obtain ⟨N, hN⟩ : ∃ N, N = readTxt r := ⟨_, rfl⟩
  rw [← hN]
  have hN2 := hN
  unfold readTxt at hN2
  obtain ⟨A1, hA1⟩ : ∃ A, A = N.2.1 := ⟨_, rfl⟩
  obtain ⟨A2, hA2⟩ : ∃ A : Nat, A = (if N.1 = 0 then p + N.2.2 else 0) := ⟨_, rfl⟩
  obtain ⟨A3, hA3⟩ : ∃ A, A = N.1 := ⟨_, rfl⟩
  rw [← hA1, ← hA2, ← hA3]
  have HA : Hid (A1 = N.2.1 ∧ A2 = (if N.1 = 0 then p + N.2.2 else 0) ∧ A3 = N.1) := ⟨hA1, hA2, hA3⟩
  have HN := hid hN2
  clear hN hA1 hA2 hA3 hT hN2
  by_cases hE : eodErr r 58 = 0
  · rw [if_neg (fun h => h hE)] at HN
    obtain ⟨z0, z1, z2, z3⟩ := eod_zero hE
    rw [txt_val _ (digRun_all r) (fun h9 => by have := congrArg List.length h9; rw [List.length_take, List.length_nil] at this; omega)] at HN
    rw [hE] at HBd
    clear z2 z3
    obtain ⟨V, hV⟩ : ∃ V, V = valF 0 (r.take (digRun r)) := ⟨_, rfl⟩
    rw [← hV] at HN
    have HV0 : Hid (V = valF 0 ((r.take (digRun r)).drop 0)) := by show _ = _; rw [hV]; rfl
    clear hV
    go_enter Tryz.func85, Tryz.ntmps85
    go_wp2_with fail
    refine HEn.out.mono ?_
    rintro e W ⟨rfl, hW⟩
    subst W
    go_wp2_with fail
    refine (HBd.out _ _ (by omega) (by omega)).mono ?_
    rintro e W ⟨rfl, hW⟩
    subst W
    go_wp2
    go_loop [9, 10] (fun n i => ∃ k u : Nat, k ≤ digRun r ∧ u ≤ 16384 ∧ n = .int .i64 (u : Int) ∧ i = .int .i64 ((p + k : Nat) : Int) ∧ Hid (V = valF u ((r.take (digRun r)).drop k))) (fun _ i => p + digRun r - (intOf i).toNat)
    case atStart => exact ⟨0, 0, Nat.zero_le _, Nat.zero_le _, rfl, rfl, HV0⟩
    case round =>
      obtain ⟨k, u, hk, hu, rfl, rfl, HV⟩ := hrel
      clear HV0
      by_cases hlt : k < digRun r
      · have hd := HDg k hlt
        have hps : p + k < s.size := by omega
        have HC := dig_cons r k hlt
        have hbd : r.getD k 0 = s[p + k] := by rw [← byte_drop s p k hps, HR.out]
        rw [hbd] at hd HC
        have HV2 : Hid (V = valF (u * 10 + (s[p + k].toNat - 48)) ((r.take (digRun r)).drop (k + 1))) := by
          have h9 := HV.out
          rw [HC, valF_cons] at h9
          exact h9
        have hd2 := (isDig_iff _).1 hd
        clear HC hbd hd HDg HV
        by_cases hbig : 16384 < u * 10 + (s[p + k].toNat - 48)
        · have bb : decide ((16384 : Int) < (u : Int) * 10 + (s[p + k].toNat : Int) - 48) = true := decide_eq_true (by omega)
          have HVb : Hid (16384 < V) := by
            have h9 := valF_ge ((r.take (digRun r)).drop (k + 1)) (u * 10 + (s[p + k].toNat - 48))
            have h8 := HV2.out
            show 16384 < V
            omega
          clear HV2
          go_wp2
          go_ret3
          obtain ⟨f1, f2, f3⟩ := HA.out
          rw [HN.out, if_pos HVb.out] at f1 f2 f3
          subst f1 f2 f3
          exact ⟨rfl, rfl⟩
        · have bb : decide ((16384 : Int) < (u : Int) * 10 + (s[p + k].toNat : Int) - 48) = false := decide_eq_false (by omega)
          go_wp2
          go_round
          case rel => exact ⟨k + 1, u * 10 + (s[p + k].toNat - 48), by omega, by omega, by go_num, by go_num, HV2⟩
          case measure => simp [intOf]; omega
      · obtain rfl : k = digRun r := by omega
        have HVe : Hid (V = u) := by
          have h9 := HV.out
          rw [List.drop_eq_nil_of_le (by rw [List.length_take]; omega)] at h9
          exact h9
        rw [HVe.out, if_neg (by omega)] at HN
        clear HV HDg HVe
        by_cases hsh : r.length - (digRun r + 1) < u
        · rw [if_pos hsh] at HN
          have b5 : decide ((s.size : Int) - ((p : Int) + (digRun r : Int)) - 1 < (u : Int)) = true := decide_eq_true (by omega)
          go_wp2
          go_ret3
          obtain ⟨f1, f2, f3⟩ := HA.out
          rw [HN.out] at f1 f2 f3
          subst f1 f2 f3
          exact ⟨rfl, rfl⟩
        · rw [if_neg hsh] at HN
          have b5 : decide ((s.size : Int) - ((p : Int) + (digRun r : Int)) - 1 < (u : Int)) = false := decide_eq_false (by omega)
          have hxx : s.extract (p + digRun r + 1) (p + digRun r + 1 + u) = ⟨((r.drop (digRun r + 1)).take u).toArray⟩ := by
            apply ByteArray.ext
            have h9 := Lib.extract_data s (p + digRun r + 1) (p + digRun r + 1 + u)
            rw [show p + digRun r + 1 + u - (p + digRun r + 1) = u by omega, show p + digRun r + 1 = p + (digRun r + 1) by omega, ← List.drop_drop, HR.out] at h9
            rw [← h9, show p + digRun r + 1 = p + (digRun r + 1) by omega]
          have hle2 : p + digRun r + 1 + u ≤ s.size := by omega
          obtain ⟨f1, f2, f3⟩ := HA.out
          rw [HN.out] at f1 f2 f3
          simp only [if_true] at f2
          have F1 := hid f1
          have F2 := hid f2
          have F3 := hid f3
          clear f1 f2 f3 HA HN hsh
          go_wp2
          go_ret3
          rw [F1.out, F2.out, F3.out]
          refine ⟨?_, rfl⟩
          show Ending.returned (.tuple #[.string _, .int .i64 _, .int .i64 _]) = _
          congr 3
          simp
          omega
  · rw [if_pos hE] at HN
    have b1 : ((eodErr r 58 : Int) != 0) = true := by simp; omega
    generalize eodErr r 58 = E at *
    go_enter Tryz.func85, Tryz.ntmps85
    go_wp2_with fail
    refine HEn.out.mono ?_
    rintro e W ⟨rfl, hW⟩
    subst W
    go_wp2_with fail
    refine (HBd.out _ _ (by omega) (by omega)).mono ?_
    rintro e W ⟨rfl, hW⟩
    subst W
    go_wp2
    go_ret3
    obtain ⟨f1, f2, f3⟩ := HA.out
    rw [HN.out] at f1 f2 f3
    simp only [if_neg hE] at f2
    subst f1 f2 f3
    exact ⟨rfl, rfl⟩
end Go.Proofs.YtekfcbedlokidaaGreatDoor.Lay
