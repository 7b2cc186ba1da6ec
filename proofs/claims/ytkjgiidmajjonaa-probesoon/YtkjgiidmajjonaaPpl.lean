/-
  A prober as plain data: the tick, whose register comes next, when each is due. No program plays a part.
-/
import Derived.Test.YtkjgiidmajjonaaPbs
namespace Go.Proofs.Ytkjgiidmajjonaa.Kn
open Go
set_option maxRecDepth 100000

def othB (n me c : Int) : Bool := (decide (0 ≤ c) && decide (c < n)) && !(c == me)
def duI (d : List Int) (c : Int) : Int := d.getD c.toNat 0
/-- Is the client i not to be told (any more)? -/
def donB (n me now : Int) (d told : List Int) (i : Int) : Bool := (!othB n me i || decide (now < duI d i)) || told.any (fun k => k == i)
def stF (n me now : Int) (d told : List Int) (x i : Int) : Int := if !donB n me now d told i && (decide (x < 0) || decide (duI d i < duI d x)) then i else x
def fsK (n me now : Int) (d told : List Int) : Nat → Int
  | 0 => -1
  | k + 1 => stF n me now d told (fsK n me now d told k) (k : Int)
/-- Who comes next behind those that are told; below 0: nobody. -/
def fstP (n : Nat) (me now : Int) (d told : List Int) : Int := fsK n me now d told n
/-- Comes x ahead of i? -/
def lexB (d : List Int) (x i : Int) : Prop := duI d x < duI d i ∨ (duI d x = duI d i ∧ x < i)
theorem oth_iff (n me c : Int) : othB n me c = true ↔ (0 ≤ c ∧ c < n) ∧ c ≠ me := by simp [othB]
theorem don_iff (n me now : Int) (d told : List Int) (i : Int) : donB n me now d told i = false ↔ ((0 ≤ i ∧ i < n) ∧ i ≠ me) ∧ duI d i ≤ now ∧ i ∉ told := by
  unfold donB
  rw [Bool.or_eq_false_iff, Bool.or_eq_false_iff, Bool.not_eq_false', oth_iff, decide_eq_false_iff_not, Int.not_lt, and_assoc]
  refine and_congr_right fun _ => and_congr_right fun _ => ?_
  rw [Bool.eq_false_iff, ne_eq, List.any_eq_true]
  constructor
  · intro h hm
    exact h ⟨i, hm, by simp⟩
  · rintro h ⟨k, hk, e⟩
    have : k = i := by simpa using e
    exact h (this ▸ hk)
theorem fs_spec (n me now : Int) (d told : List Int) : ∀ k : Nat, (fsK n me now d told k = -1 ∧ ∀ i : Nat, i < k → donB n me now d told (i : Int) = true) ∨
    ∃ x : Nat, x < k ∧ fsK n me now d told k = (x : Int) ∧ donB n me now d told (x : Int) = false ∧ ∀ i : Nat, i < k → donB n me now d told (i : Int) = false → i = x ∨ lexB d (x : Int) (i : Int)
  | 0 => Or.inl ⟨rfl, fun i hi => absurd hi (Nat.not_lt_zero i)⟩
  | k + 1 => by
    have e : fsK n me now d told (k + 1) = stF n me now d told (fsK n me now d told k) (k : Int) := rfl
    cases hd : donB n me now d told (k : Int) with
    | true =>
      have e2 : fsK n me now d told (k + 1) = fsK n me now d told k := by
        rw [e]
        unfold stF
        rw [hd]
        rfl
      rw [e2]
      rcases fs_spec n me now d told k with ⟨h1, h2⟩ | ⟨x, hx, h1, h2, h3⟩
      · refine Or.inl ⟨h1, fun i hi => ?_⟩
        by_cases hik : i < k
        · exact h2 i hik
        · have : i = k := by omega
          rw [this]
          exact hd
      · refine Or.inr ⟨x, by omega, h1, h2, fun i hi hf => ?_⟩
        by_cases hik : i < k
        · exact h3 i hik hf
        · have : i = k := by omega
          rw [this, hd] at hf
          cases hf
    | false =>
      rcases fs_spec n me now d told k with ⟨h1, h2⟩ | ⟨x, hx, h1, h2, h3⟩
      · refine Or.inr ⟨k, by omega, ?_, hd, fun i hi hf => ?_⟩
        · rw [e, h1]
          unfold stF
          rw [hd]
          rfl
        · by_cases hik : i < k
          · rw [h2 i hik] at hf
            cases hf
          · exact Or.inl (by omega)
      · by_cases hl : duI d (k : Int) < duI d (x : Int)
        · refine Or.inr ⟨k, by omega, ?_, hd, fun i hi hf => ?_⟩
          · rw [e, h1]
            unfold stF
            rw [hd, decide_eq_true hl]
            simp
          · by_cases hik : i < k
            · right
              rcases h3 i hik hf with e3 | e3 | ⟨e3, e4⟩
              · rw [e3]
                exact Or.inl hl
              · exact Or.inl (Int.lt_trans hl e3)
              · exact Or.inl (by omega)
            · exact Or.inl (by omega)
        · refine Or.inr ⟨x, by omega, ?_, h2, fun i hi hf => ?_⟩
          · rw [e, h1]
            unfold stF
            rw [hd, decide_eq_false hl, decide_eq_false (by omega : ¬ (x : Int) < 0)]
            rfl
          · by_cases hik : i < k
            · exact h3 i hik hf
            · right
              have : i = k := by omega
              rw [this]
              unfold lexB
              omega
theorem lex_irrefl {d : List Int} {x y : Int} (h : lexB d x y) (k : lexB d y x) : False := by unfold lexB at h k; omega
theorem lex_trans {d : List Int} {x y z : Int} (h : lexB d x y) (k : lexB d y z) : lexB d x z := by unfold lexB at h k ⊢; omega
/-- Who comes next is who comes ahead of all others that are still to be told. -/
theorem fst_is {n : Nat} {me now : Int} {d told : List Int} {x : Int} (h1 : donB n me now d told x = false) (h2 : ∀ i, donB n me now d told i = false → i = x ∨ lexB d x i) : fstP n me now d told = x := by
  have hx := ((don_iff _ _ _ _ _ _).1 h1).1.1
  rcases fs_spec n me now d told n with ⟨-, k2⟩ | ⟨y, hy, k1, k2, k3⟩
  · have := k2 x.toNat (by omega)
    rw [show ((x.toNat : Nat) : Int) = x by omega, h1] at this
    cases this
  · unfold fstP
    rw [k1]
    rcases h2 _ k2 with e | e
    · exact e
    · rcases k3 x.toNat (by omega) (by rw [show ((x.toNat : Nat) : Int) = x by omega]; exact h1) with e2 | e2
      · omega
      · rw [show ((x.toNat : Nat) : Int) = x by omega] at e2
        exact (lex_irrefl e e2).elim
theorem fst_none {n : Nat} {me now : Int} {d told : List Int} (h : ∀ i, donB n me now d told i = true) : fstP n me now d told = -1 := by
  rcases fs_spec n me now d told n with ⟨k1, -⟩ | ⟨y, hy, k1, k2, k3⟩
  · exact k1
  · rw [h] at k2
    cases k2
theorem fst_cases (n : Nat) (me now : Int) (d told : List Int) : (fstP n me now d told = -1 ∧ ∀ i, donB n me now d told i = true) ∨ ∃ x : Nat, x < n ∧ fstP n me now d told = (x : Int) ∧ donB n me now d told (x : Int) = false ∧ ∀ i, donB n me now d told i = false → i = x ∨ lexB d (x : Int) i := by
  rcases fs_spec n me now d told n with ⟨k1, k2⟩ | ⟨y, hy, k1, k2, k3⟩
  · refine Or.inl ⟨k1, fun i => ?_⟩
    cases hd : donB n me now d told i with
    | true => rfl
    | false =>
      have hx := ((don_iff _ _ _ _ _ _).1 hd).1.1
      have := k2 i.toNat (by omega)
      rw [show ((i.toNat : Nat) : Int) = i by omega, hd] at this
      cases this
  · refine Or.inr ⟨y, hy, k1, k2, fun i hi => ?_⟩
    have hx := ((don_iff _ _ _ _ _ _).1 hi).1.1
    have h3 := k3 i.toNat (by omega) (by rw [show ((i.toNat : Nat) : Int) = i by omega]; exact hi)
    rw [show ((i.toNat : Nat) : Int) = i by omega] at h3
    rcases h3 with e | e
    · exact Or.inl (by omega)
    · exact Or.inr e
/-- Those that are told first, at most k. -/
def chn (n : Nat) (me now : Int) (d : List Int) : Nat → List Int
  | 0 => []
  | k + 1 => if fstP n me now d (chn n me now d k) < 0 then chn n me now d k else chn n me now d k ++ [fstP n me now d (chn n me now d k)]
/-- All who are told, in their order. -/
def outP (n : Nat) (me now : Int) (d : List Int) : List Int := chn n me now d n
section
variable {n : Nat} {me now : Int} {d : List Int}
theorem chn_mem (k : Nat) : ∀ x ∈ chn n me now d k, ((0 ≤ x ∧ x < n) ∧ x ≠ me) ∧ duI d x ≤ now := by
  induction k with
  | zero => intro x hx; cases hx
  | succ k ih =>
    intro x hx
    unfold chn at hx
    split at hx
    · exact ih x hx
    · rename_i h0
      rw [List.mem_append] at hx
      rcases hx with hx | hx
      · exact ih x hx
      · have e : x = fstP n me now d (chn n me now d k) := by simpa using hx
        rcases fst_cases n me now d (chn n me now d k) with ⟨e1, -⟩ | ⟨y, hy, e1, e2, -⟩
        · rw [e1] at h0
          exact absurd (by decide) h0
        · have := (don_iff _ _ _ _ _ _).1 e2
          rw [e, e1]
          exact ⟨this.1, this.2.1⟩
theorem chn_nodup (k : Nat) : (chn n me now d k).Nodup := by
  induction k with
  | zero => exact List.nodup_nil
  | succ k ih =>
    unfold chn
    split
    · exact ih
    · rename_i h0
      rcases fst_cases n me now d (chn n me now d k) with ⟨e1, -⟩ | ⟨y, hy, e1, e2, -⟩
      · rw [e1] at h0
        exact absurd (by decide) h0
      · have h3 := ((don_iff _ _ _ _ _ _).1 e2).2.2
        rw [e1]
        rw [List.nodup_append]
        refine ⟨ih, by simp, ?_⟩
        intro a ha b hb
        have : b = (y : Int) := by simpa using hb
        rw [this]
        rintro rfl
        exact h3 ha
theorem nodup_bound : ∀ (m : Nat) (l : List Int), l.Nodup → (∀ x ∈ l, 0 ≤ x ∧ x < (m : Int)) → l.length ≤ m
  | 0, l, _, h => by
    cases l with
    | nil => simp
    | cons x l =>
      have := h x (by simp)
      omega
  | m + 1, l, hn, h => by
    have h1 := nodup_bound m (l.erase (m : Int)) (hn.erase _) (fun x hx => by
      have h2 := (hn.mem_erase_iff).1 hx
      have h3 := h x h2.2
      have h4 := h2.1
      omega)
    by_cases hm : (m : Int) ∈ l
    · rw [List.length_erase_of_mem hm] at h1
      have : 0 < l.length := List.length_pos_of_mem hm
      omega
    · rw [List.erase_of_not_mem hm] at h1
      omega
theorem chn_len (k : Nat) : (chn n me now d k).length ≤ n := nodup_bound n _ (chn_nodup k) fun x hx => (chn_mem k x hx).1.1
/-- As long as somebody comes, each step tells one more. -/
theorem chn_more {k : Nat} (h : (chn n me now d k).length = k) (h0 : 0 ≤ fstP n me now d (chn n me now d k)) : chn n me now d (k + 1) = chn n me now d k ++ [fstP n me now d (chn n me now d k)] ∧ k < n := by
  have e : chn n me now d (k + 1) = chn n me now d k ++ [fstP n me now d (chn n me now d k)] := by
    show (if _ then _ else _) = _
    rw [if_neg (by omega)]
  refine ⟨e, ?_⟩
  have := chn_len (n := n) (me := me) (now := now) (d := d) (k + 1)
  rw [e, List.length_append, h] at this
  simp at this
  omega
/-- Once nobody comes, nobody comes any more. -/
theorem chn_stop {k : Nat} (h0 : fstP n me now d (chn n me now d k) < 0) : ∀ j, chn n me now d (k + j) = chn n me now d k := by
  intro j
  induction j with
  | zero => rfl
  | succ j ih =>
    show (if fstP n me now d (chn n me now d (k + j)) < 0 then _ else _) = _
    rw [ih, if_pos h0]
    exact ih
theorem out_stop {k : Nat} (hk : k ≤ n) (h0 : fstP n me now d (chn n me now d k) < 0) : outP n me now d = chn n me now d k := by
  have := chn_stop h0 (n - k)
  rwa [Nat.add_sub_cancel' hk] at this
/-- A list of just those who are due, in order, is what is told. -/
theorem out_is {l : List Int} (hm : ∀ x, x ∈ l ↔ ((0 ≤ x ∧ x < n) ∧ x ≠ me) ∧ duI d x ≤ now) (hs : l.Pairwise (lexB d)) : outP n me now d = l := by
  have hnd : l.Nodup := hs.imp fun {a b} h => by
    rintro rfl
    exact lex_irrefl h h
  have hlen : l.length ≤ n := nodup_bound n l hnd fun x hx => ((hm x).1 hx).1.1
  have key : ∀ k, k ≤ l.length → chn n me now d k = l.take k := by
    intro k
    induction k with
    | zero => intro _; rfl
    | succ k ih =>
      intro hk
      have hk' : k < l.length := by omega
      have hf : fstP n me now d (l.take k) = l[k] := by
        refine fst_is ((don_iff _ _ _ _ _ _).2 ?_) fun i hi => ?_
        · have h1 := (hm l[k]).1 (List.getElem_mem hk')
          refine ⟨h1.1, h1.2, fun hx => ?_⟩
          obtain ⟨j, hj, e⟩ := List.mem_take_iff_getElem.1 hx
          have hj' : j < k := by omega
          have := List.pairwise_iff_getElem.1 hs j k (by omega) hk' hj'
          rw [e] at this
          exact lex_irrefl this this
        · have h1 := (don_iff _ _ _ _ _ _).1 hi
          obtain ⟨j, hj, e⟩ := List.getElem_of_mem ((hm i).2 ⟨h1.1, h1.2.1⟩)
          rcases Nat.lt_trichotomy j k with h | h | h
          · exact absurd (by rw [← e]; exact List.mem_take_iff_getElem.2 ⟨j, by omega, rfl⟩) h1.2.2
          · subst h
            exact Or.inl e.symm
          · right
            rw [← e]
            exact List.pairwise_iff_getElem.1 hs k j hk' hj h
      have h0 : 0 ≤ l[k] := ((hm l[k]).1 (List.getElem_mem hk')).1.1.1
      show (if fstP n me now d (chn n me now d k) < 0 then _ else _) = _
      rw [ih (by omega), hf, if_neg (by omega), List.take_succ_eq_append_getElem hk']
  have hend : fstP n me now d l = -1 := fst_none fun i => by
    cases hd : donB n me now d l i with
    | true => rfl
    | false =>
      have h1 := (don_iff _ _ _ _ _ _).1 hd
      exact absurd ((hm i).2 ⟨h1.1, h1.2.1⟩) h1.2.2
  have e1 := key l.length (Nat.le_refl _)
  rw [List.take_length] at e1
  have := out_stop (n := n) (me := me) (now := now) (d := d) (k := l.length) hlen (by rw [e1, hend]; decide)
  rw [this, e1]
/-- Told are just those who are due. -/
theorem out_mem (x : Int) : x ∈ outP n me now d ↔ ((0 ≤ x ∧ x < n) ∧ x ≠ me) ∧ duI d x ≤ now := by
  constructor
  · exact chn_mem n x
  · intro h
    have hall : ∀ k, k ≤ n → ((chn n me now d k).length = k) ∨ fstP n me now d (chn n me now d k) < 0 := by
      intro k
      induction k with
      | zero => intro _; exact Or.inl rfl
      | succ k ih =>
        intro hk
        by_cases h0 : fstP n me now d (chn n me now d k) < 0
        · right
          have := chn_stop h0 1
          rw [this]
          exact h0
        · rcases ih (by omega) with e | e
          · left
            rw [(chn_more e (by omega)).1, List.length_append, e]
            rfl
          · exact absurd e h0
    by_cases hx : x ∈ outP n me now d
    · exact hx
    · exfalso
      have hd : donB n me now d (outP n me now d) x = false := (don_iff _ _ _ _ _ _).2 ⟨h.1, h.2, hx⟩
      rcases fst_cases n me now d (outP n me now d) with ⟨-, e⟩ | ⟨y, hy, e1, e2, -⟩
      · rw [e] at hd
        cases hd
      · rcases hall n (Nat.le_refl n) with e | e
        · have := (chn_more e (by show 0 ≤ fstP n me now d (outP n me now d); rw [e1]; omega)).2
          omega
        · have : fstP n me now d (outP n me now d) < 0 := e
          rw [e1] at this
          omega
end
end Go.Proofs.Ytkjgiidmajjonaa.Kn
