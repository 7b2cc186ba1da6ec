/-
  What Open answers.
-/
import Derived.Test.YtnhnjdldgaaeoaaGreatDoorKlo
import Derived.Laws.EntriesVeiled
namespace Go.Proofs.YtnhnjdldgaaeoaaGreatDoor
open Go Go.RowKit
set_option maxRecDepth 100000

section
variable {w w' : World} {x : Cx} {d g : Nat} {D : Dk}
def fitB (n : Nat) (a b : Int) : Bool := !(decide (a < 0) || decide (b < 1) || decide (255 < b) || decide ((n : Int) - 2 - 2 * b < a))
/-- The answer of Open. -/
def openE (D : Dk) (a b : Int) : Int := if fitB D.S.length a b then eDown D.down else 2

set_option maxHeartbeats 2000000 in
theorem open_bad (hd : DiskAt w d g D) (a b : Int) (hE : openE D a b ≠ 0) : Calls Tryz.prog 6 #[.pointer (some ⟨d, 0, none⟩), .int .i64 a, .int .i64 b] w fun e w' => e = .returned (.tuple #[.pointer none, .int .i64 (openE D a b)]) ∧ w' = w := by
  have HSe := hid (sectors_any hd)
  have HDo := hid (down_any hd)
  have hln := hd.len
  clear hd
  by_cases h1 : a < 0
  · have e2 : openE D a b = 2 := by unfold openE fitB; rw [decide_eq_true h1]; rfl
    rw [e2]
    go_enter Tryz.func6, Tryz.ntmps6
    go_wp2
    go_ret2
    exact ⟨rfl, rfl⟩
  · by_cases h2 : b < 1
    · have e2 : openE D a b = 2 := by unfold openE fitB; rw [decide_eq_true h2]; simp
      rw [e2]
      have d1 : decide (a < 0) = false := decide_eq_false h1
      have d2 : decide (b < 1) = true := decide_eq_true h2
      clear h1 h2
      go_enter Tryz.func6, Tryz.ntmps6
      go_wp2
      go_ret2
      exact ⟨rfl, rfl⟩
    · by_cases h3 : 255 < b
      · have e2 : openE D a b = 2 := by unfold openE fitB; rw [decide_eq_true h3]; simp
        rw [e2]
        have d1 : decide (a < 0) = false := decide_eq_false h1
        have d2 : decide (b < 1) = false := decide_eq_false h2
        have d3 : decide (255 < b) = true := decide_eq_true h3
        clear h1 h2 h3
        go_enter Tryz.func6, Tryz.ntmps6
        go_wp2
        go_ret2
        exact ⟨rfl, rfl⟩
      · by_cases h4 : (D.S.length : Int) - 2 - 2 * b < a
        · have e2 : openE D a b = 2 := by unfold openE fitB; rw [decide_eq_true h4]; simp
          rw [e2]
          have d1 : decide (a < 0) = false := decide_eq_false h1
          have d2 : decide (b < 1) = false := decide_eq_false h2
          have d3 : decide (255 < b) = false := decide_eq_false h3
          have d4 : decide ((D.S.length : Int) - 2 - 2 * b < a) = true := decide_eq_true h4
          clear h1 h4
          go_enter Tryz.func6, Tryz.ntmps6
          go_wp2_with fail
          refine HSe.out.mono ?_
          rintro e W ⟨rfl, hW⟩
          subst W
          go_wp2
          go_ret2
          exact ⟨rfl, rfl⟩
        · have hf : fitB D.S.length a b = true := by unfold fitB; rw [decide_eq_false h1, decide_eq_false h2, decide_eq_false h3, decide_eq_false h4]; rfl
          have e2 : openE D a b = eDown D.down := by unfold openE; rw [if_pos hf]
          rw [e2] at hE ⊢
          have hdn : D.down = true := by
            cases hq : D.down with
            | true => rfl
            | false => rw [hq] at hE; exact absurd rfl hE
          rw [hdn] at HDo ⊢
          have d1 : decide (a < 0) = false := decide_eq_false h1
          have d2 : decide (b < 1) = false := decide_eq_false h2
          have d3 : decide (255 < b) = false := decide_eq_false h3
          have d4 : decide ((D.S.length : Int) - 2 - 2 * b < a) = false := decide_eq_false h4
          simp only [eDown, if_true]
          clear hE e2 hf
          go_enter Tryz.func6, Tryz.ntmps6
          go_wp2_with fail
          refine HSe.out.mono ?_
          rintro e W ⟨rfl, hW⟩
          subst W
          go_wp2_with fail
          refine HDo.out.mono ?_
          rintro e W ⟨rfl, hW⟩
          subst W
          go_wp2
          go_ret2
          exact ⟨rfl, rfl⟩

set_option maxHeartbeats 2000000 in
theorem open_ok (hd : DiskAt w d g D) (first size : Nat) (hr : first + 2 + 2 * size ≤ D.S.length) (h1 : 1 ≤ size) (h2 : size ≤ 255) (hdn : D.down = false) :
    Calls Tryz.prog 6 #[.pointer (some ⟨d, 0, none⟩), .int .i64 first, .int .i64 size] w fun e w' => ∃ x : Cx, e = .returned (.tuple #[.pointer (some ⟨x.c, 0, none⟩), .int .i64 0]) ∧ CellAt w' x d first size ∧ Below w.heap.size w w' ∧ w.heap.size ≤ x.c ∧ w.heap.size ≤ x.p ∧ w.heap.size ≤ x.q ∧ w.heap.size ≤ x.r := by
  have HSe := hid (sectors_any hd)
  have HDo := hid (down_any hd)
  rw [hdn] at HDo
  have hln := hd.len
  clear hd hdn
  have d4 : decide ((D.S.length : Int) - 2 - 2 * size < (first : Int)) = false := by simp; omega
  generalize D.S.length = N at *
  have HB0 : Hid (Below w.heap.size w (w.alloc (.cells #[.pointer (some ⟨d, 0, none⟩), .int .i64 first, .int .i64 size, .nilFunc] 68))) := below_a1 _ _
  have HT0 : Hid ((w.alloc (.cells #[.pointer (some ⟨d, 0, none⟩), .int .i64 first, .int .i64 size, .nilFunc] 68)).heap[w.heap.size]? = some (.cells #[.pointer (some ⟨d, 0, none⟩), .int .i64 first, .int .i64 size, .nilFunc] 68)) := top_row _ _
  have HRm := hid (room_cell w.heap.size _ size h2 (by rw [cell_of_row _ _ _ _ _ _ HT0.out]; rfl))
  go_enter Tryz.func6, Tryz.ntmps6
  go_wp2_with fail
  refine HSe.out.mono ?_
  rintro e W ⟨rfl, hW⟩
  subst W
  go_wp2_with fail
  refine HDo.out.mono ?_
  rintro e W ⟨rfl, hW⟩
  subst W
  go_wp2_with fail
  refine HRm.out.mono ?_
  rintro e W ⟨rfl, hW⟩
  subst W
  go_wp2_with fail
  refine (teller_any _ d first (64 * size : Nat)).mono ?_
  rintro e w1 ⟨p, q, s, rfl, hp, hq, hs, hb1, hgp, hgq, hgs⟩
  have hT1 := row_kept HT0.out hb1
  have HB1 : Hid (Below w.heap.size w w1) := HB0.out.trans (hb1.mono HB0.out.size)
  have c3 : w1.cell? ⟨w.heap.size, 3, none⟩ = some .nilFunc := by rw [cell_of_row _ _ _ _ _ _ hT1]; rfl
  have f3 : w1.frozen? ⟨w.heap.size, 3, none⟩ = false := by simp [World.frozen?, hT1]
  have HT1 := hid hT1
  have HP := hid hp
  have HQ := hid hq
  have HS := hid hs
  have HG : Hid (w.heap.size + 1 ≤ p ∧ w.heap.size + 1 ≤ q ∧ w.heap.size + 1 ≤ s) := by
    have e : (w.alloc (.cells #[.pointer (some ⟨d, 0, none⟩), .int .i64 first, .int .i64 size, .nilFunc] 68)).heap.size = w.heap.size + 1 := by simp
    rw [e] at hgp hgq hgs
    exact ⟨hgp, hgq, hgs⟩
  clear hb1 hT1 hp hq hs hgp hgq hgs HT0 HB0 HRm HSe HDo d4
  go_wp2
  go_ret2
  obtain ⟨g1, g2, g3⟩ := HG.out
  refine ⟨⟨w.heap.size, p, q, s⟩, rfl, ⟨?_, ?_, ?_, ?_, by omega, ⟨h1, h2⟩⟩, below_setCell HB1.out _ _ (Nat.le_refl _), Nat.le_refl _, by show _ ≤ p; omega, by show _ ≤ q; omega, by show _ ≤ s; omega⟩
  · rw [heap_setCell_same _ _ 3 _ _ _ HT1.out]; rfl
  · rw [heap_setCell_other _ _ _ _ (by show p ≠ w.heap.size; omega)]; exact HP.out
  · rw [heap_setCell_other _ _ _ _ (by show q ≠ w.heap.size; omega)]; exact HQ.out
  · rw [heap_setCell_other _ _ _ _ (by show s ≠ w.heap.size; omega)]; exact HS.out
end
end Go.Proofs.YtnhnjdldgaaeoaaGreatDoor
