/-
  An allocator, its cell and its disk as plain data: what is kept behind any call and any crash. No program plays a part.
-/
import Derived.Test.YtnhnjdldgaaeoaaDoorNpl
import Derived.Test.YtnhnjdldgaaeoaaDoorCwk
import Derived.Test.YtnhnjdldgaaeoaaDoorLnum
namespace Go.Proofs.YtnhnjdldgaaeoaaDoor
open Go
set_option maxRecDepth 100000

theorem numW_len (n : Nat) (h : n ≤ 9223372036854775807) : (numW n).length ≤ 22 := by
  have h9 := Lay.itoa_len (n : Int) (by omega) (by omega)
  unfold numW
  rw [List.length_append, List.length_singleton]
  omega
/-- The cell has k: nothing for 0, else its bytes. -/
def Has (n : Nat) (t : List UInt8) (k : Nat) : Prop := (n = 0 ∧ k = 0) ∨ (1 ≤ n ∧ t = numW k)
theorem has_kept {n : Nat} {t : List UInt8} {k : Nat} (h : Has n t k) (hk : k ≤ 1099511627776) : keptE (loadR n t) = 0 ∧ keptN (loadR n t) = k := by
  unfold loadR
  rcases h with ⟨h1, h2⟩ | ⟨h1, h2⟩
  · subst h1 h2
    exact ⟨rfl, rfl⟩
  · subst h2
    have hr := numW_read k (by omega)
    rw [if_neg (by omega)]
    unfold keptE keptN
    simp only [hr]
    refine ⟨?_, ?_⟩
    · rw [if_neg (by decide), if_neg (by decide), if_pos ⟨trivial, trivial, by omega, by omega⟩]
    · rw [if_neg (by decide)]
      omega
/-- A cell at sector 0 that has k, behind at most j saves. -/
def Good (D : Dk) (k j : Nat) : Prop := ∃ n t, n ≤ j ∧ WInv D 0 1 n t ∧ Has n t k
theorem Good.more {D : Dk} {k j : Nat} (h : Good D k j) : Good D k (j + 1) := by
  obtain ⟨n, t, h1, h2, h3⟩ := h
  exact ⟨n, t, by omega, h2, h3⟩
theorem Good.kept {D : Dk} {k j : Nat} (h : Good D k j) (hd : D.down = false) (hk : k ≤ 1099511627776) : keptE (loadP D 0 1) = 0 ∧ keptN (loadP D 0 1) = k := by
  obtain ⟨n, t, -, h2, h3⟩ := h
  rw [h2.load hd]
  exact has_kept h3 hk
theorem Good.new : Good (newD 6) 0 0 := ⟨0, [], Nat.le_refl _, (CInv.new 6 0 1 (by omega) (by omega)).weak, .inl ⟨rfl, rfl⟩⟩
structure OSt (D : Dk) (al : Al) (far j : Nat) : Prop where
  le : al.next ≤ al.lim
  fr : al.lim ≤ far
  mx : al.lim ≤ 1099511627776
  st : (D.down = false ∧ Good D al.lim j) ∨ (D.down = true ∧ ∀ ks, ∃ k, al.lim ≤ k ∧ k ≤ far ∧ k ≤ 1099511627776 ∧ Good (crashD D ks) k j)
theorem OSt.more {D : Dk} {al : Al} {far j : Nat} (h : OSt D al far j) (f2 : Nat) (hf : far ≤ f2) : OSt D al f2 (j + 1) := by
  refine ⟨h.le, Nat.le_trans h.fr hf, h.mx, ?_⟩
  rcases h.st with ⟨h1, h2⟩ | ⟨h1, h2⟩
  · exact .inl ⟨h1, h2.more⟩
  · refine .inr ⟨h1, fun ks => ?_⟩
    obtain ⟨k, g1, g2, g3, g4⟩ := h2 ks
    exact ⟨k, g1, by omega, g3, g4.more⟩
theorem save_down {D : Dk} {first size : Nat} {t : List UInt8} (hd : D.down = true) (ht : t.length ≤ 64 * size) : saveP D first size t = (12, D) := by
  unfold saveP
  rw [if_neg (by omega), hd]
  rfl
/-- Some keeps it. -/
theorem OSt.some {D : Dk} {al : Al} {far j : Nat} (h : OSt D al far j) (hj : j < 1000) (n : Int) (h1 : 1 ≤ n) (h2 : n ≤ 256) :
    OSt (someP D 0 1 al n).2.1 (someP D 0 1 al n).2.2 (max far (al.next + n.toNat + 16)) (j + 1) ∧ ((someP D 0 1 al n).1 = 0 → (someP D 0 1 al n).2.2.next = al.next + n.toNat) := by
  have hm : far ≤ max far (al.next + n.toNat + 16) := Nat.le_max_left _ _
  have hm2 : al.next + n.toNat + 16 ≤ max far (al.next + n.toNat + 16) := Nat.le_max_right _ _
  have h0 := h.more _ hm
  generalize max far (al.next + n.toNat + 16) = f2 at *
  have hle := h.le
  have hfr := h.fr
  have hmx := h.mx
  unfold someP
  rw [if_neg (by omega)]
  by_cases hr : 1099511627761 < al.next + n.toNat
  · rw [if_pos hr]
    exact ⟨h0, fun e => absurd e (by simp)⟩
  · rw [if_neg hr]
    by_cases hl : al.next + n.toNat ≤ al.lim
    · rw [if_pos hl]
      refine ⟨⟨hl, h0.fr, h0.mx, h0.st⟩, fun _ => rfl⟩
    · rw [if_neg hl]
      obtain ⟨g1, g2⟩ := limN_ge al.next n.toNat al.lim
      have g3 : limN al.next n.toNat al.lim ≤ al.next + n.toNat + 15 := by
        unfold limN
        rw [if_neg hl]
        omega
      generalize limN al.next n.toNat al.lim = L at *
      have hw := numW_len L (by omega)
      rcases h.st with ⟨hd, m, t, k1, k2, k3⟩ | ⟨hd, hk⟩
      · rcases wsave k2 hd (t := numW L) (by omega) (by omega) with ⟨D2, s1, s2, s3, s4, s5⟩ | ⟨D', s1, s2, s3, s4, s5⟩
        · rw [s1, if_pos rfl]
          exact ⟨⟨g1, by show L ≤ f2; omega, by show L ≤ _; omega, .inl ⟨s3, m + 1, numW L, by omega, s2, .inr ⟨by omega, rfl⟩⟩⟩, fun _ => rfl⟩
        · rw [s1, if_neg (by simp)]
          refine ⟨⟨hle, h0.fr, hmx, .inr ⟨s2, fun ks => ?_⟩⟩, fun e => absurd e (by simp)⟩
          rcases s5 ks with q | q
          · exact ⟨al.lim, Nat.le_refl _, h0.fr, hmx, m, t, by omega, q, k3⟩
          · exact ⟨L, g2, by omega, by omega, m + 1, numW L, by omega, q, .inr ⟨by omega, rfl⟩⟩
      · rw [save_down hd (by omega), if_neg (by simp)]
        exact ⟨h0, fun e => absurd e (by simp)⟩
/-- A crash, and Open, keep it. -/
theorem OSt.crash {D : Dk} {al : Al} {far j : Nat} (h : OSt D al far j) (ks : List Int) :
    ∃ k, al.lim ≤ k ∧ k ≤ far ∧ k ≤ 1099511627776 ∧ keptE (loadP (crashD D ks) 0 1) = 0 ∧ keptN (loadP (crashD D ks) 0 1) = k ∧ OSt (crashD D ks) ⟨k, k⟩ far j := by
  have hmx := h.mx
  rcases h.st with ⟨hd, m, t, k1, k2, k3⟩ | ⟨hd, hk⟩
  · have hg : Good (crashD D ks) al.lim j := ⟨m, t, k1, k2.crash ks, k3⟩
    obtain ⟨e1, e2⟩ := hg.kept rfl hmx
    exact ⟨al.lim, Nat.le_refl _, h.fr, hmx, e1, e2, Nat.le_refl _, h.fr, hmx, .inl ⟨rfl, hg⟩⟩
  · obtain ⟨k, g1, g2, g3, g4⟩ := hk ks
    obtain ⟨e1, e2⟩ := g4.kept rfl g3
    exact ⟨k, g1, g2, g3, e1, e2, Nat.le_refl _, g2, g3, .inl ⟨rfl, g4⟩⟩
/-- Arm keeps it. -/
theorem OSt.arm {D : Dk} {al : Al} {far j : Nat} (h : OSt D al far j) (i : Int) : OSt (armD D i) al far j := by
  refine ⟨h.le, h.fr, h.mx, ?_⟩
  rcases h.st with ⟨hd, m, t, k1, k2, k3⟩ | ⟨hd, hk⟩
  · left
    have e : (armD D i).S = D.S ∧ (armD D i).down = false := by
      unfold armD
      rw [hd]
      by_cases hn : i < 1
      · simp [hn, hd]
      · simp [hn]
    exact ⟨e.2, m, t, k1, k2.congr (by rw [e.1]; exact k2.ok) (by rw [e.1]) (fun i _ _ => by rw [e.1]), k3⟩
  · right
    have e : armD D i = D := by
      unfold armD
      rw [hd]
      rfl
    rw [e]
    exact ⟨hd, hk⟩
end Go.Proofs.YtnhnjdldgaaeoaaDoor
