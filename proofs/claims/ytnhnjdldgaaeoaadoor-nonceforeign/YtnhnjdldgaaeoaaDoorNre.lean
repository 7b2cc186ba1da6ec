/-
  What reserve does.
-/
import Derived.Test.YtnhnjdldgaaeoaaDoorNal
import Derived.Test.YtnhnjdldgaaeoaaDoorNst
namespace Go.Proofs.YtnhnjdldgaaeoaaDoor
open Go Go.RowKit
set_option maxRecDepth 100000

/-- What reserve does: the error, the disk, up to which numbers are reserved. -/
def resP (D : Dk) (first size : Nat) (al : Al) (n : Nat) : Int × Dk × Nat :=
  if al.next + n ≤ al.lim then (0, D, al.lim) else
  if (saveP D first size (numW (limN al.next n al.lim))).1 = 0 then (0, (saveP D first size (numW (limN al.next n al.lim))).2, limN al.next n al.lim)
  else ((saveP D first size (numW (limN al.next n al.lim))).1, (saveP D first size (numW (limN al.next n al.lim))).2, al.lim)
theorem some_is (D : Dk) (first size : Nat) (al : Al) (n : Int) : someP D first size al n = if n < 1 ∨ 256 < n then (2, D, al) else if 1099511627761 < al.next + n.toNat then (3, D, al) else
    if (resP D first size al n.toNat).1 = 0 then (0, (resP D first size al n.toNat).2.1, ⟨al.next + n.toNat, (resP D first size al n.toNat).2.2⟩) else ((resP D first size al n.toNat).1, (resP D first size al n.toNat).2.1, al) := by
  unfold someP resP
  split
  · rfl
  · split
    · rfl
    · split
      · rw [if_pos rfl]
      · split
        · rw [if_pos rfl]
        · rfl
theorem res_lim (D : Dk) (first size : Nat) (al : Al) (n : Nat) (h : (resP D first size al n).1 ≠ 0) : (resP D first size al n).2.2 = al.lim := by
  unfold resP at h ⊢
  split at h
  · exact absurd rfl h
  · split at h
    · exact absurd rfl h
    · rename_i h1 h2
      rw [if_neg h1, if_neg h2]
theorem res_le (D : Dk) (first size : Nat) (al : Al) (n : Nat) (hl : al.next ≤ al.lim) (hm : al.lim ≤ 1099511627776) (hn : al.next + n ≤ 1099511627761) : al.next ≤ (resP D first size al n).2.2 ∧ (resP D first size al n).2.2 ≤ 1099511627776 ∧ ((resP D first size al n).1 = 0 → al.next + n ≤ (resP D first size al n).2.2) := by
  have h9 := limN_ge al.next n al.lim
  have h8 : ¬ (al.next + n ≤ al.lim) → limN al.next n al.lim ≤ al.next + n + 15 := by
    intro h
    unfold limN
    rw [if_neg h]
    omega
  unfold resP
  split
  · exact ⟨hl, hm, fun _ => by assumption⟩
  · rename_i h
    have h7 := h8 h
    split
    · exact ⟨by show al.next ≤ limN _ _ _; omega, by show limN _ _ _ ≤ _; omega, fun _ => h9.1⟩
    · rename_i h2
      exact ⟨hl, hm, fun h3 => absurd h3 h2⟩

section
variable {w w' : World} {a d g first size : Nat} {al : Al} {x : Cx} {D : Dk}
theorem AllocAt.put (h : AllocAt w a x.c al) (L : Nat) (h1 : al.next ≤ L) (h2 : L ≤ 1099511627776) : AllocAt (w.setCell ⟨a, 2, none⟩ (.int .i64 L)) a x.c ⟨al.next, L⟩ :=
  ⟨by rw [heap_setCell_same _ _ 2 _ _ _ h.obj]; rfl, h1, h2⟩
theorem blocks_is (e l : Nat) (h : l < e) : ((e : Int) - (l : Int) + 16 - 1).tdiv 16 = (((e - l + 15) / 16 : Nat) : Int) := by
  rw [show (e : Int) - (l : Int) + 16 - 1 = ((e - l + 15 : Nat) : Int) by omega, Int.tdiv_eq_ediv_of_nonneg (by omega)]
  omega

set_option maxHeartbeats 4000000 in
theorem reserve_any (h : AllocAt w a x.c al) (hc : CellAt w x d first size) (hd : DiskAt w d g D) (hr : first + 2 + 2 * size ≤ D.S.length) (ht : Lay.Tabs w) (n : Nat) (hn : al.next + n ≤ 1099511627761) :
    Calls Tryd.prog 28 #[.pointer (some ⟨a, 0, none⟩), .int .i64 ((al.next + n : Nat) : Int)] w fun e w' =>
      e = .returned (.int .i64 (resP D first size al n).1) ∧ DiskAt w' d g (resP D first size al n).2.1 ∧ AllocAt w' a x.c ⟨al.next, (resP D first size al n).2.2⟩ ∧ Kp [d, g, a] w w' := by
  have c2 := h.c2
  have H := hid h
  have HD := hid hd
  have hle := h.le
  have hmx := h.mx
  unfold resP
  by_cases h1 : al.next + n ≤ al.lim
  · rw [if_pos h1]
    have b1 : decide (((al.next + n : Nat) : Int) ≤ (al.lim : Int)) = true := decide_eq_true (by omega)
    clear h hc hd ht
    obtain ⟨nx, lm⟩ := al
    simp only at *
    generalize nx + n = en at *
    go_enter Tryd.func28, Tryd.ntmps28
    go_wp2
    go_ret
    exact ⟨rfl, HD.out, H.out, Kp.refl _ _⟩
  · rw [if_neg h1]
    have b1 : decide (((al.next + n : Nat) : Int) ≤ (al.lim : Int)) = false := decide_eq_false (by omega)
    have hL : limN al.next n al.lim = al.lim + 16 * ((al.next + n - al.lim + 15) / 16) := by unfold limN; rw [if_neg h1]
    have HLb : Hid (al.lim ≤ limN al.next n al.lim ∧ limN al.next n al.lim ≤ 1099511627776) := show _ ∧ _ by rw [hL]; omega
    have hbk := blocks_is (al.next + n) al.lim (by omega)
    have HSv : Hid (∀ W, Below w.heap.size w W → ∀ t : List UInt8, Calls Tryd.prog 18 #[.pointer (some ⟨x.c, 0, none⟩), .string ⟨t.toArray⟩] W fun e w' =>
        e = .returned (.int .i64 (saveP D first size t).1) ∧ DiskAt w' d g (saveP D first size t).2 ∧ Kp [d, g] W w') := fun W hb t => save_any (hc.stays hb) (hd.kept (X := []) (Kp.of hb) (by simp) (by simp)) (by omega) t
    have HQ : Hid (∀ W, Kp [d, g] w W → W.cell? ⟨a, 0, none⟩ = some (.func (.func 18) #[.pointer (some ⟨x.c, 0, none⟩)] #[])) := fun W hk => (h.next hd hk).c0
    have HAl : Hid (∀ W, Kp [d, g] w W → AllocAt W a x.c al) := fun W hk => h.next hd hk
    have HNu : Hid (∀ W, Below w.heap.size w W → ∀ v : Int, v = ((limN al.next n al.lim : Nat) : Int) → Calls Tryd.prog 41 #[.int .i64 v] W fun e w' => e = .returned (.string ⟨(numW (limN al.next n al.lim)).toArray⟩) ∧ Below W.heap.size W w') := by
      intro W hb v hv
      subst hv
      exact Lay.number_any _ (by omega) (by omega) W (ht.stays hb)
    generalize limN al.next n al.lim = L at *
    clear h hc hd ht H
    obtain ⟨nx, lm⟩ := al
    simp only at *
    have hbb : (nx + n - lm + 15) / 16 ≤ 68719476736 := by omega
    generalize (nx + n - lm + 15) / 16 = bk at *
    have h2 : ¬ (nx + n ≤ lm) := h1
    have HLl : Hid ((lm : Int) + (bk : Int) * 16 = (L : Int)) := show _ = _ by omega
    clear hL
    generalize hR : saveP D first size (numW L) = R
    have HR := hid hR
    clear hR
    obtain ⟨eS, DS⟩ := R
    simp only
    obtain ⟨RR, hRR⟩ : ∃ RR, RR = (if eS = 0 then ((0 : Int), DS, L) else (eS, DS, lm)) := ⟨_, rfl⟩
    rw [← hRR]
    have HRR := hid hRR
    clear hRR
    generalize nx + n = en at *
    go_enter Tryd.func28, Tryd.ntmps28
    go_wp2_with fail
    go_region_held3 (fun W => W.cell? ⟨a, 0, none⟩ = some (.func (.func 18) #[.pointer (some ⟨x.c, 0, none⟩)] #[]))
      (with_reducible first | exact HQ.out _ HK4 | exact HQ.out _ (Kp.of HB3) | exact HQ.out _ (Kp.refl _ _).drew | exact HQ.out _ (Kp.refl _ _))
      (first | (go_at_call 41; refine (HNu.out _ (Below.refl _ _).drew _ HLl.out).mono ?_; rintro e W3 ⟨rfl, hb3⟩; have HB3 : Below w.heap.size w W3 := (Below.refl _ _).drew.trans hb3; clear hb3) | (go_at_call 18; refine (HSv.out _ HB3 _).mono ?_; rw [HR.out]; rintro e W4 ⟨rfl, h4, k4⟩; have HD4 := hid h4; have HK4 : Kp [d, g] w W4 := (Kp.of HB3).trans k4; clear h4 k4))
    have HA4 := hid (HAl.out _ HK4)
    have HKq := hid HK4
    clear HK4 HB3 HQ HSv HNu HAl HR
    by_cases hE : eS = 0
    · subst hE
      rw [if_pos rfl] at HRR
      have c4 := HA4.out.c2
      have f4 := HA4.out.fz 2
      go_wp2
      go_ret
      rw [HLl.out, HRR.out]
      exact ⟨rfl, HD4.out.kept (X := [a]) ((Kp.refl _ _).setCell _ _ (.inl (by simp))) (fun hm => (HA4.out.far HD4.out) (by simp at hm ⊢; simp [hm])) (fun hm => (HA4.out.far HD4.out) (by simp at hm ⊢; simp [hm])), HA4.out.put L (by have := HLb.out; show nx ≤ L; omega) HLb.out.2, (HKq.out.drop (by simp)).setCell _ _ (.inl (by simp))⟩
    · rw [if_neg hE] at HRR
      have b2 : (eS != 0) = true := by simpa using hE
      go_wp2
      go_ret
      rw [HRR.out]
      exact ⟨rfl, HD4.out, HA4.out, HKq.out.drop (by simp)⟩
end
end Go.Proofs.YtnhnjdldgaaeoaaDoor
