/-
  What a cell has hangs on its sectors alone: behind a crash of a disk on which all is safe, behind a save of another cell. No program plays a part.
-/
import Derived.Test.YtnhnjdldgaaeoaaDoorAwk
namespace Go.Proofs.YtnhnjdldgaaeoaaDoor
open Go
set_option maxRecDepth 100000

theorem CInv.congr {D D2 : Dk} {first size n : Nat} {t : List UInt8} (h : CInv D first size n t) (hok : AllOk D2.S) (hl : D2.S.length = D.S.length)
    (hs : ∀ i, first ≤ i → i < first + 2 + 2 * size → D2.S.getD i sec0 = D.S.getD i sec0) : CInv D2 first size n t := by
  have hm := mod_mul_le (n - 1) size
  have hb : ∀ i, first ≤ i → i < first + 2 + 2 * size → secB D2.S i = secB D.S i := fun i h1 h2 => by unfold secB; rw [hs i h1 h2]
  have hz := h.sz
  refine ⟨hok, by rw [hl]; exact h.room, hz, fun i h1 h2 => by rw [hs i h1 h2]; exact h.safe i h1 h2, h.cnt, h.long, fun h0 => ?_, fun h1 => ?_, fun h1 => ?_, fun h1 => ?_⟩
  · rw [hb _ (by omega) (by omega), hb _ (by omega) (by omega)]; exact h.zero h0
  · rw [hb _ (by omega) (by omega)]; exact h.cur h1
  · rw [hb _ (by omega) (by omega)]; exact h.oth h1
  · rw [catP_congr (R := D.S) (fun i h2 h3 => hb i (by omega) (by omega))]; exact h.txt h1
theorem CInv.crash {D : Dk} {first size n : Nat} {t : List UInt8} (h : CInv D first size n t) (ks : List Int) : CInv (crashD D ks) first size n t :=
  h.congr (tearAll_ok h.ok ks) (tearAll_len _ _) (fun i h1 h2 => getD_tear _ _ _ (h.safe i h1 h2))
theorem CInv.len {D : Dk} {first size n : Nat} {t : List UInt8} (h : CInv D first size n t) : first + 2 + 2 * size ≤ D.S.length := h.room
/-- A save of another cell. -/
theorem save_other {D : Dk} {first size n f2 s2 m : Nat} {t0 t u : List UInt8} (h : CInv D first size n t0) (k : CInv D f2 s2 m u) (hd : D.down = false) (ha : D.armed = 0) (ht : t.length ≤ 64 * size) (hn : n + 1 ≤ 1099511627776)
    (hap : first + 2 + 2 * size ≤ f2 ∨ f2 + 2 + 2 * s2 ≤ first) :
    ∃ D', saveP D first size t = (0, D') ∧ CInv D' first size (n + 1) t ∧ CInv D' f2 s2 m u ∧ D'.down = false ∧ D'.armed = 0 ∧ D'.S.length = D.S.length := by
  have hm := mod_mul_le n size
  rcases save_cases h hd ht hn with ⟨a, e, e2⟩ | ⟨D', -, -, e, -⟩
  · refine ⟨_, e, h.saved ht hn a false, ?_, rfl, e2 ha, by show ((slotS D first size n t).map setS).length = _; rw [List.length_map, slotS_len]⟩
    refine k.congr (ok_setS (slot_ok h)) (by show ((slotS D first size n t).map setS).length = _; rw [List.length_map, slotS_len]) (fun i h1 h2 => ?_)
    show ((slotS D first size n t).map setS).getD i sec0 = _
    rw [getD_setS, slot_far i (by omega), field_far D first size n t ht _ _ (by omega)]
    have h9 := k.safe i h1 h2
    generalize D.S.getD i sec0 = s at *
    obtain ⟨nw, od⟩ := s
    simp only at h9
    subst h9
    rfl
  · exact absurd ha e
end Go.Proofs.YtnhnjdldgaaeoaaDoor
