/-
  What a ring's has and Made answer.
-/
import Derived.Test.YtoddlbggbkabnaaDoorRdef
namespace Go.Proofs.YtoddlbggbkabnaaDoor
open Go Go.RowKit
set_option maxRecDepth 100000

theorem below_drew' {B : Nat} {w w' : World} (h : Below B w w') : Below B w w'.drew := h.drew
theorem below_alloc' {w w' : World} (h : Below w.heap.size w w') (o : Obj) : Below w.heap.size w (w'.alloc o) := h.alloc h.size o

section
variable {w : World} {p h g b n : Nat} {s : List UInt8} {L : List Ent}

set_option maxHeartbeats 1000000 in
theorem has_any (r : RingAt w p h g b s n L) (c d : Int) (t : List UInt8) (hx : EntWf (c, d, t)) :
    Calls Tryd.prog 30 #[.pointer (some ⟨p, 0, none⟩), .agg #[.int .i64 c, .int .i64 d, .string ⟨t.toArray⟩]] w fun e w' => e = .returned (.bool (decide ((c, d, t) ∈ L))) ∧ Below w.heap.size w w' := by
  have HB0 : Hid (Below w.heap.size w (w.alloc (.cells #[.int .i64 c, .int .i64 d, .string ⟨t.toArray⟩] 62))) := below_a1 w _
  have r0 := r.kept HB0.out
  have hq : (w.alloc (.cells #[.int .i64 c, .int .i64 d, .string ⟨t.toArray⟩] 62)).heap[w.heap.size]? = some (.cells #[.int .i64 c, .int .i64 d, .string ⟨t.toArray⟩] 62) := top_row w _
  go_enter Tryd.func30, Tryd.ntmps30
  go_upto_region 1 with fail
  generalize w.alloc (.cells #[.int .i64 c, .int .i64 d, .string ⟨t.toArray⟩] 62) = w0 at *
  obtain ⟨q, hq0⟩ : ∃ q, q = w.heap.size := ⟨_, rfl⟩
  rw [← hq0] at hq
  have hh : ∀ W, Below w0.heap.size w0 W → W.cell? ⟨p, 3, none⟩ = some (.map (some b)) ∧ W.cell? ⟨q, 0, none⟩ = some (.int .i64 c) ∧ W.cell? ⟨q, 1, none⟩ = some (.int .i64 d) ∧ W.cell? ⟨q, 2, none⟩ = some (.string ⟨t.toArray⟩) ∧
      (Instr.lookup 58 (.map (some b)) (.agg #[.int .i64 c, .int .i64 d, .string ⟨t.toArray⟩]) true).run Tryd.prog W = .ok (.tuple #[.agg #[], .bool (decide ((c, d, t) ∈ L))]) W := by
    intro W hb
    have hq' := row_kept hq hb
    refine ⟨(r0.kept hb).c3, ?_, ?_, ?_, book_look (r0.kept hb).book hx⟩
    · rw [cell_of_row _ _ _ _ _ _ hq']; rfl
    · rw [cell_of_row _ _ _ _ _ _ hq']; rfl
    · rw [cell_of_row _ _ _ _ _ _ hq']; rfl
  have HH := hid hh
  clear hh hq r0 r
  have HQ := hid hq0
  obtain ⟨B, hB⟩ : ∃ B, B = decide ((c, d, t) ∈ L) := ⟨_, rfl⟩
  have HBe := hid hB
  rw [← hB] at HH
  rw [← hq0]
  clear hB hq0
  go_region_held3 (fun W => W.cell? ⟨p, 3, none⟩ = some (.map (some b)) ∧ W.cell? ⟨q, 0, none⟩ = some (.int .i64 c) ∧ W.cell? ⟨q, 1, none⟩ = some (.int .i64 d) ∧ W.cell? ⟨q, 2, none⟩ = some (.string ⟨t.toArray⟩) ∧
      (Instr.lookup 58 (.map (some b)) (.agg #[.int .i64 c, .int .i64 d, .string ⟨t.toArray⟩]) true).run Tryd.prog W = .ok (.tuple #[.agg #[], .bool B]) W)
    (first | exact HH.out _ (Below.refl _ _) | exact HH.out _ (Below.refl _ _).drew | exact HH.out _ (below_alloc' (Below.refl _ _) _) | exact HH.out _ (below_alloc' (Below.refl _ _).drew _) | exact HH.out _ (below_alloc' (Below.refl _ _) _).drew | exact HH.out _ (below_alloc' (Below.refl _ _).drew _).drew) (fail)
  all_goals go_wp2
  all_goals go_ret
  all_goals refine ⟨by rw [← HBe.out]; rfl, HB0.out.trans (Below.mono ?_ HB0.out.size)⟩
  all_goals repeat first | exact Below.refl _ _ | refine below_drew' ?_ | refine below_alloc' ?_ _ | refine below_drawn ?_ _
end

end Go.Proofs.YtoddlbggbkabnaaDoor
