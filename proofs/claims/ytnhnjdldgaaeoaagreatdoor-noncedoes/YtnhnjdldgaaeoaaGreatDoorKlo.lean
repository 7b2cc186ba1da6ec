/-
  What Load and Open answer.
-/
import Derived.Test.YtnhnjdldgaaeoaaGreatDoorKte
namespace Go.Proofs.YtnhnjdldgaaeoaaGreatDoor
open Go Go.RowKit
set_option maxRecDepth 100000

section
variable {w w' : World} {x : Cx} {d g first size : Nat} {D : Dk}

theorem last_pair (D : Dk) (first size : Nat) : (lastP D first size).2.1 = 0 → (lastP D first size).2.2 = 0 := by
  unfold lastP
  split
  · intro _; rfl
  · split
    · exact says_pair 1
    · exact says_pair 0
theorem load_last (D : Dk) (first size : Nat) : loadP D first size = if D.down then ([], 0, 12) else if (lastP D first size).2.1 = 0 then ([], 0, 9) else ((catP D.S (first + 2 + (lastP D first size).1 * size) size).take (lastP D first size).2.2, (lastP D first size).2.1, 0) := by
  unfold loadP lastP saysP
  cases hd : D.down with
  | true => rfl
  | false =>
    simp only [Bool.false_eq_true, if_false, Nat.add_zero]
    generalize sayN size (secB D.S first) = X
    generalize sayN size (secB D.S (first + 1)) = Y
    by_cases h : X.1 = 0 ∨ X.1 < Y.1
    · rw [if_pos h]
      by_cases h2 : X.1 < Y.1
      · rw [if_pos h2, if_neg (by simp only; omega)]
        simp
      · rw [if_neg h2, if_pos (by omega), if_pos (by simp only; omega)]
    · rw [if_neg h, if_neg (by omega), if_neg (by omega), if_neg (by simp only; omega)]
      simp

set_option maxHeartbeats 4000000 in
theorem load_any (h : CellAt w x d first size) (hd : DiskAt w d g D) (hr : first + 2 + 2 * size ≤ D.S.length) :
    Calls Tryz.prog 48 #[.pointer (some ⟨x.c, 0, none⟩)] w fun e w' =>
      e = .returned (.tuple #[.string ⟨(loadP D first size).1.toArray⟩, .int .i64 (loadP D first size).2.1, .int .i64 (loadP D first size).2.2]) ∧ Below w.heap.size w w' := by
  have HLa := hid (last_any h hd (by omega))
  have HTx : Hid (∀ W, Below w.heap.size w W → D.down = false → ∀ i L : Nat, i ≤ 1 → L ≤ 64 * size → Calls Tryz.prog 64 #[.pointer (some ⟨x.c, 0, none⟩), .int .i64 i, .int .i64 L] W fun e w' =>
      e = .returned (.tuple #[.string ⟨((catP D.S (first + 2 + i * size) size).take L).toArray⟩, .int .i64 0]) ∧ Below W.heap.size W w') :=
    fun W hb hdn i L hi hL => text_any (h.stays hb) (hd.kept (X := []) (Kp.of hb) (by simp) (by simp)) hdn hr i hi L hL
  have hls := last_le D first size
  have hlp := last_pair D first size
  have hsz := h.sz
  rw [load_last]
  clear h hd
  generalize lastP D first size = L at *
  obtain ⟨sl, cn, ln⟩ := L
  simp only at HLa hls hlp ⊢
  cases hdn : D.down with
  | true =>
    rw [hdn] at HLa
    simp only [if_true, eDown] at HLa ⊢
    go_enter Tryz.func48, Tryz.ntmps48
    go_wp2_with fail
    refine HLa.out.mono ?_
    rintro e w1 ⟨rfl, hb1⟩
    have HB1 := hid hb1
    clear hb1
    go_wp2
    go_ret3
    exact ⟨rfl, below_more HB1.out _ (Nat.le_refl _)⟩
  | false =>
    rw [hdn] at HLa
    simp only [Bool.false_eq_true, if_false, eDown] at HLa ⊢
    by_cases hc : cn = 0
    · obtain rfl := hlp hc
      subst hc
      simp only [if_true]
      go_enter Tryz.func48, Tryz.ntmps48
      go_wp2_with fail
      refine HLa.out.mono ?_
      rintro e w1 ⟨rfl, hb1⟩
      have HB1 := hid hb1
      clear hb1
      go_wp2
      go_ret3
      exact ⟨rfl, below_more HB1.out _ (Nat.le_refl _)⟩
    · simp only [if_neg hc]
      have HT0 := hid (fun W hb => HTx.out W hb hdn sl ln (by omega) hls.2.2)
      generalize (catP D.S (first + 2 + sl * size) size).take ln = tx at *
      go_enter Tryz.func48, Tryz.ntmps48
      go_wp2_with fail
      refine HLa.out.mono ?_
      rintro e w1 ⟨rfl, hb1⟩
      have HB1 : Hid (Below w.heap.size w (w1.alloc (.cells #[.int .i64 cn, .int .i64 ln] 86))) := below_more hb1 _ (Nat.le_refl _)
      have HT1 : Hid ((w1.alloc (.cells #[.int .i64 cn, .int .i64 ln] 86)).heap[w1.heap.size]? = some (.cells #[.int .i64 cn, .int .i64 ln] 86)) := top_row _ _
      have HT := hid (HT0.out _ HB1.out)
      clear hb1 HLa HTx
      go_wp2_with fail
      refine HT.out.mono ?_
      rintro e w2 ⟨rfl, hb2⟩
      have c0 : w2.cell? ⟨w1.heap.size, 0, none⟩ = some (.int .i64 cn) := by rw [cell_of_row _ _ _ _ _ _ (row_kept HT1.out hb2)]; rfl
      have HB2 : Hid (Below w.heap.size w w2) := HB1.out.trans (hb2.mono HB1.out.size)
      clear hb2 HT HB1 HT1
      go_wp2_with fail
      go_quiet (fail)
      go_wp2
      go_ret3
      exact ⟨rfl, below_drawn HB2.out _⟩
theorem load_nil (w : World) : Calls Tryz.prog 48 #[.pointer none] w fun e w' => e = .returned (.tuple #[.string ⟨#[]⟩, .int .i64 0, .int .i64 1]) ∧ w' = w := by
  go_enter Tryz.func48, Tryz.ntmps48
  go_wp2
  go_ret3
  exact ⟨rfl, rfl⟩
theorem open_nil (w : World) (a b : Int) : Calls Tryz.prog 6 #[.pointer none, .int .i64 a, .int .i64 b] w fun e w' => e = .returned (.tuple #[.pointer none, .int .i64 1]) ∧ w' = w := by
  go_enter Tryz.func6, Tryz.ntmps6
  go_wp2
  go_ret2
  exact ⟨rfl, rfl⟩
theorem teller_any (w : World) (d : Nat) (f r : Int) : Calls Tryz.prog 26 #[.pointer (some ⟨d, 0, none⟩), .int .i64 f, .int .i64 r] w fun e w' => ∃ p q s,
    e = .returned (.func (.func 45) #[] #[.pointer (some ⟨p, 0, none⟩), .pointer (some ⟨q, 0, none⟩), .pointer (some ⟨s, 0, none⟩)]) ∧ w'.heap[p]? = some (.cells #[.pointer (some ⟨d, 0, none⟩)] 23) ∧ w'.heap[q]? = some (.cells #[.int .i64 f] 3) ∧ w'.heap[s]? = some (.cells #[.int .i64 r] 3) ∧ Below w.heap.size w w' ∧ w.heap.size ≤ p ∧ w.heap.size ≤ q ∧ w.heap.size ≤ s := by
  go_enter Tryz.func26, Tryz.ntmps26
  go_wp2
  go_ret
  refine ⟨_, _, _, rfl, three_low _ _ _ _, three_mid _ _ _ _, three_top _ _ _ _, below_three _ _ _ _ 0, by omega, by omega, by omega⟩
end
end Go.Proofs.YtnhnjdldgaaeoaaGreatDoor
