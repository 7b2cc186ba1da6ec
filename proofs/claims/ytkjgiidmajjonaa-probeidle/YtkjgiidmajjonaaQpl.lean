/-
  A heap of what is due, as plain data: the steps of container/heap on a list. No program plays a part.
-/
import Derived.Test.YtkjgiidmajjonaaPst
namespace Go.Proofs.Ytkjgiidmajjonaa.Kn
open Go
set_option maxRecDepth 100000

/-- What is due: at which tick, and who (8: a read). -/
abbrev En := Int × Int
def at_ (L : List En) (i : Nat) : En := L.getD i (0, 0)
def ltE (a b : En) : Bool := if a.1 = b.1 then decide (a.2 < b.2) else decide (a.1 < b.1)
def leE (a b : En) : Prop := a.1 < b.1 ∨ (a.1 = b.1 ∧ a.2 ≤ b.2)
theorem lt_no {a b : En} : ltE a b = false ↔ leE b a := by
  unfold ltE leE
  by_cases h : a.1 = b.1
  · rw [if_pos h]; simp; omega
  · rw [if_neg h]; simp; omega
theorem lt_yes {a b : En} (h : ltE a b = true) : leE a b := by
  unfold ltE at h
  unfold leE
  by_cases e : a.1 = b.1
  · rw [if_pos e] at h; simp at h; omega
  · rw [if_neg e] at h; simp at h; omega
theorem leE.trans {a b c : En} (h : leE a b) (k : leE b c) : leE a c := by unfold leE at *; omega
theorem leE.refl (a : En) : leE a a := by unfold leE; omega
theorem at_get {L : List En} {i : Nat} (h : i < L.length) : at_ L i = L[i] := by simp [at_, List.getD, h]
theorem at_set (L : List En) (i k : Nat) (e : En) (h : i < L.length) : at_ (L.set i e) k = if k = i then e else at_ L k := by
  unfold at_
  rw [List.getD_eq_getElem?_getD, List.getD_eq_getElem?_getD, List.getElem?_set]
  by_cases e1 : i = k
  · rw [if_pos e1, if_pos (by omega), if_pos e1.symm]; rfl
  · rw [if_neg e1, if_neg (fun h => e1 h.symm)]
def swp (L : List En) (i j : Nat) : List En := (L.set i (at_ L j)).set j (at_ L i)
theorem swp_len (L : List En) (i j : Nat) : (swp L i j).length = L.length := by simp [swp]
theorem swp_at (L : List En) {i j : Nat} (hi : i < L.length) (hj : j < L.length) (k : Nat) : at_ (swp L i j) k = if k = j then at_ L i else if k = i then at_ L j else at_ L k := by
  unfold swp
  rw [at_set _ _ _ _ (by rw [List.length_set]; exact hj), at_set _ _ _ _ hi]
theorem swp_perm (L : List En) {i j : Nat} (hi : i < L.length) (hj : j < L.length) : (swp L i j).Perm L := by
  unfold swp
  rw [at_get hi, at_get hj]
  exact List.set_set_perm hi hj
/-- The first n stand as a heap does. -/
def Hp (L : List En) (n : Nat) : Prop := ∀ k, 0 < k → k < n → leE (at_ L ((k - 1) / 2)) (at_ L k)
def Bel (L : List En) (n i : Nat) : Prop := ∀ k, 0 < k → k < n → (k - 1) / 2 = i → 0 < i → leE (at_ L ((i - 1) / 2)) (at_ L k)
/-- .. but for the one at j, which may want to go up. -/
def UpI (L : List En) (n j : Nat) : Prop := (∀ k, 0 < k → k < n → k ≠ j → leE (at_ L ((k - 1) / 2)) (at_ L k)) ∧ Bel L n j
/-- .. but for the one at i, which may want to go down. -/
def DnI (L : List En) (n i : Nat) : Prop := (∀ k, 0 < k → k < n → (k - 1) / 2 ≠ i → leE (at_ L ((k - 1) / 2)) (at_ L k)) ∧ Bel L n i
/-- .. but for the one at i, which may want to go anywhere. -/
def FxI (L : List En) (n i : Nat) : Prop := (∀ k, 0 < k → k < n → (k - 1) / 2 ≠ i → k ≠ i → leE (at_ L ((k - 1) / 2)) (at_ L k)) ∧ Bel L n i
theorem DnI.fx {L : List En} {n i : Nat} (h : DnI L n i) : FxI L n i := ⟨fun k h0 h1 h2 _ => h.1 k h0 h1 h2, h.2⟩
theorem up_top {L : List En} {n : Nat} (h : UpI L n 0) : Hp L n := fun k h0 h1 => h.1 k h0 h1 (by omega)
theorem up_stop {L : List En} {n j : Nat} (h : UpI L n j) (hl : leE (at_ L ((j - 1) / 2)) (at_ L j)) : Hp L n := fun k h0 h1 => by
  by_cases e : k = j
  · subst e; exact hl
  · exact h.1 k h0 h1 e
theorem up_step {L : List En} {n i j : Nat} (h : UpI L n j) (h0 : 0 < j) (hj : j < n) (hn : n ≤ L.length) (hi : i = (j - 1) / 2) (hl : leE (at_ L j) (at_ L i)) : UpI (swp L i j) n i := by
  have hij : i < j := by omega
  have A := swp_at L (show i < L.length by omega) (show j < L.length by omega)
  refine ⟨fun k k0 k1 k2 => ?_, fun k k0 k1 k2 k3 => ?_⟩
  · rw [A, A]
    by_cases e : k = j
    · subst e
      rw [if_pos rfl, ← hi, if_neg (by omega), if_pos rfl]
      exact hl
    · rw [if_neg e, if_neg k2]
      by_cases p1 : (k - 1) / 2 = j
      · rw [if_pos p1]
        have := h.2 k k0 k1 p1 h0
        rwa [← hi] at this
      · rw [if_neg p1]
        by_cases p2 : (k - 1) / 2 = i
        · rw [if_pos p2]
          have := h.1 k k0 k1 e
          rw [p2] at this
          exact hl.trans this
        · rw [if_neg p2]
          exact h.1 k k0 k1 e
  · rw [A, A]
    have t : leE (at_ L ((i - 1) / 2)) (at_ L i) := h.1 i k3 (by omega) (by omega)
    rw [if_neg (show (i - 1) / 2 ≠ j by omega), if_neg (show (i - 1) / 2 ≠ i by omega)]
    by_cases e : k = j
    · rw [if_pos e]
      exact t
    · rw [if_neg e, if_neg (by omega)]
      have := h.1 k k0 k1 e
      rw [k2] at this
      exact t.trans this
theorem dn_stop {L : List En} {n i : Nat} (h : DnI L n i) (hl : ∀ k, 0 < k → k < n → (k - 1) / 2 = i → leE (at_ L i) (at_ L k)) : Hp L n := fun k h0 h1 => by
  by_cases e : (k - 1) / 2 = i
  · rw [e]; exact hl k h0 h1 e
  · exact h.1 k h0 h1 e
theorem fx_stop {L : List En} {n i : Nat} (h : FxI L n i) (hl : ∀ k, 0 < k → k < n → (k - 1) / 2 = i → leE (at_ L i) (at_ L k)) : UpI L n i := ⟨fun k h0 h1 h2 => by
  by_cases e : (k - 1) / 2 = i
  · rw [e]; exact hl k h0 h1 e
  · exact h.1 k h0 h1 e h2, h.2⟩
theorem dn_step {L : List En} {n i c : Nat} (h : FxI L n i) (hc : (c - 1) / 2 = i) (c0 : 0 < c) (hcn : c < n) (hn : n ≤ L.length) (hm : ∀ k, 0 < k → k < n → (k - 1) / 2 = i → leE (at_ L c) (at_ L k)) (hl : leE (at_ L c) (at_ L i)) : DnI (swp L i c) n c := by
  have hic : i < c := by omega
  have A := swp_at L (show i < L.length by omega) (show c < L.length by omega)
  refine ⟨fun k k0 k1 k2 => ?_, fun k k0 k1 k2 k3 => ?_⟩
  · rw [A, A, if_neg k2]
    by_cases e : k = c
    · subst e
      rw [if_pos rfl, if_pos hc]
      exact hl
    · rw [if_neg e]
      by_cases e2 : k = i
      · subst e2
        rw [if_pos rfl, if_neg (by omega)]
        exact h.2 c c0 hcn hc k0
      · rw [if_neg e2]
        by_cases e3 : (k - 1) / 2 = i
        · rw [if_pos e3]
          exact hm k k0 k1 e3
        · rw [if_neg e3]
          exact h.1 k k0 k1 e3 e2
  · rw [A, A, if_neg (show (c - 1) / 2 ≠ c by omega), if_pos hc, if_neg (show k ≠ c by omega), if_neg (show k ≠ i by omega)]
    have := h.1 k k0 k1 (by omega) (by omega)
    rwa [k2] at this
theorem hp_min {L : List En} {n : Nat} (h : Hp L n) : ∀ k, k < n → leE (at_ L 0) (at_ L k) := by
  intro k
  induction k using Nat.strongRecOn with
  | ind k ih =>
    intro hk
    by_cases e : k = 0
    · subst e; exact leE.refl _
    · exact (ih ((k - 1) / 2) (by omega) (by omega)).trans (h k (by omega) hk)
theorem push_up {L : List En} (h : Hp L L.length) (e : En) : UpI (L ++ [e]) (L ++ [e]).length L.length := by
  have A : ∀ k, k < L.length → at_ (L ++ [e]) k = at_ L k := fun k hk => by
    unfold at_
    rw [List.getD_eq_getElem?_getD, List.getD_eq_getElem?_getD, List.getElem?_append_left hk]
  refine ⟨fun k k0 k1 k2 => ?_, fun k k0 k1 k2 k3 => ?_⟩
  · rw [List.length_append] at k1
    have : k < L.length := by simp at k1; omega
    rw [A k this, A _ (by omega)]
    exact h k k0 this
  · simp at k1; omega
theorem fix_fx {L : List En} {n i : Nat} (h : Hp L n) (hi : i < L.length) (e : En) : FxI (L.set i e) n i := by
  have A := fun k => at_set L i k e hi
  refine ⟨fun k k0 k1 k2 k3 => ?_, fun k k0 k1 k2 k3 => ?_⟩
  · rw [A, A, if_neg k2, if_neg k3]
    exact h k k0 k1
  · rw [A, A, if_neg (by omega), if_neg (by omega)]
    have h1 := h k k0 k1
    rw [k2] at h1
    exact (h i k3 (by omega)).trans h1
theorem pop_fx {L : List En} {m : Nat} (h : Hp L (m + 1)) (hl : L.length = m + 1) : FxI (swp L 0 m) m 0 := by
  have A := swp_at L (show 0 < L.length by omega) (show m < L.length by omega)
  refine ⟨fun k k0 k1 k2 k3 => ?_, fun k k0 k1 k2 k3 => by omega⟩
  rw [A, A, if_neg (by omega), if_neg k2, if_neg (by omega), if_neg k3]
  exact h k k0 (by omega)
/-- What is taken off: the first; the others are left, and none of them stands ahead of it. -/
theorem pop_end {L L' : List En} {m : Nat} (h : Hp L (m + 1)) (hl : L.length = m + 1) (hp : L'.Perm (swp L 0 m)) (hk : ∀ k, m ≤ k → at_ L' k = at_ (swp L 0 m) k) (hh : Hp L' m) : at_ L' m = at_ L 0 ∧ (at_ L 0 :: L'.take m).Perm L ∧ Hp (L'.take m) (L'.take m).length ∧ (L'.take m).length = m ∧ ∀ e ∈ L'.take m, leE (at_ L 0) e := by
  have hL : L'.length = m + 1 := by rw [hp.length_eq, swp_len, hl]
  have e0 : at_ L' m = at_ L 0 := by
    rw [hk m (Nat.le_refl _), swp_at L (by omega) (by omega), if_pos rfl]
  have hpl : L'.Perm L := hp.trans (swp_perm L (by omega) (by omega))
  have hd : L' = L'.take m ++ [at_ L 0] := by
    rw [← e0, at_get (by omega)]
    have := (List.take_append_drop m L').symm
    rw [List.drop_eq_getElem_cons (by omega), List.drop_eq_nil_of_le (by omega)] at this
    exact this
  have hperm : (at_ L 0 :: L'.take m).Perm L := by
    refine List.Perm.trans ?_ hpl
    conv => rhs; rw [hd]
    exact (List.perm_append_comm (l₁ := [at_ L 0]) (l₂ := L'.take m))
  have hlen : (L'.take m).length = m := by rw [List.length_take]; omega
  refine ⟨e0, hperm, ?_, hlen, ?_⟩
  · intro k k0 k1
    rw [hlen] at k1
    have A : ∀ j, j < m → at_ (L'.take m) j = at_ L' j := fun j hj => by
      unfold at_
      rw [List.getD_eq_getElem?_getD, List.getD_eq_getElem?_getD, List.getElem?_take_of_lt hj]
    rw [A k k1, A _ (by omega)]
    exact hh k k0 k1
  · intro e he
    have hm : e ∈ L := hperm.mem_iff.1 (List.mem_cons_of_mem _ he)
    obtain ⟨j, hj, rfl⟩ := List.getElem_of_mem hm
    rw [← at_get hj]
    exact hp_min h j (by omega)
end Go.Proofs.Ytkjgiidmajjonaa.Kn
