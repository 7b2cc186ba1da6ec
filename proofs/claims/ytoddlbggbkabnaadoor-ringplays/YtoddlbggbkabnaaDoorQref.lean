/-
  The reference's ring in memory; what its New and May answer.
-/
import Derived.Test.YtoddlbggbkabnaaDoorRmay
import Derived.Test.YtoddlbggbkabnaaDoorRfun
import Derived.Test.YtoddlbggbkabnaaDoorQeql
namespace Go.Proofs.YtoddlbggbkabnaaDoor
open Go Go.RowKit
set_option maxRecDepth 100000

def entL (e : Ent) : List Value := [.int .i64 e.1, .int .i64 e.2.1, .string ⟨e.2.2.toArray⟩]
def flat (L : List Ent) : List Value := L.flatMap entL
theorem flat_len (L : List Ent) : (flat L).length = 3 * L.length := by
  induction L with
  | nil => rfl
  | cons e L ih => unfold flat at *; rw [List.flatMap_cons, List.length_append, ih]; simp [entL]; omega
theorem flat_snoc (L : List Ent) (e : Ent) : flat (L ++ [e]) = flat L ++ entL e := by unfold flat; rw [List.flatMap_append]; simp
theorem flat_at (L : List Ent) (e0 : Ent) (j k : Nat) (hj : j < L.length) (hk : k < 3) : (flat L)[j * 3 + k]? = (entL (L.getD j e0))[k]? := by
  induction L generalizing j with
  | nil => simp at hj
  | cons e L ih =>
    unfold flat
    rw [List.flatMap_cons]
    cases j with
    | zero => rw [List.getElem?_append_left (by simp [entL]; omega)]; simp
    | succ j =>
      have h := ih j (by simpa using hj)
      unfold flat at h
      rw [List.getElem?_append_right (by simp [entL]; omega)]
      have e1 : (j + 1) * 3 + k - (entL e).length = j * 3 + k := by simp [entL]; omega
      rw [e1, h]; simp

/-- The slice v holds just these lines. -/
def Lines (w : World) (v : Value) (L : List Ent) : Prop :=
  (v = .slice none 0 0 ∧ L = []) ∨ ∃ g cap cur, v = .slice (some ⟨g, 0, none⟩) L.length cap ∧ w.heap[g]? = some (.cells cur 32) ∧ cur.toList.take (3 * L.length) = flat L
theorem Lines.kept {w w' : World} {v : Value} {L : List Ent} (h : Lines w v L) (hb : Below w.heap.size w w') : Lines w' v L := by
  rcases h with h | ⟨g, cap, cur, hv, hg, ht⟩
  · exact .inl h
  · exact .inr ⟨g, cap, cur, hv, row_kept hg hb, ht⟩
theorem Lines.touch {w w' : World} {v : Value} {L : List Ent} {q : Nat} (h : Lines w v L) (ht : Touch q w w') (hq : ∀ cur, w.heap[q]? ≠ some (.cells cur 32)) : Lines w' v L := by
  rcases h with h | ⟨g, cap, cur, hv, hg, hc⟩
  · exact .inl h
  · exact .inr ⟨g, cap, cur, hv, row_touch hg ht (fun e => by subst e; exact hq cur hg), hc⟩
theorem Lines.form {w : World} {v : Value} {L : List Ent} (h : Lines w v L) : ∃ ao cap, v = .slice ao L.length cap := by
  rcases h with ⟨hv, rfl⟩ | ⟨g, cap, cur, hv, -, -⟩
  · exact ⟨none, 0, hv⟩
  · exact ⟨_, _, hv⟩
theorem Lines.at {w : World} {ao : Option Addr} {n cap : Nat} {L : List Ent} (h : Lines w (.slice ao n cap) L) (e0 : Ent) (j : Nat) (hj : j < L.length) :
    ∃ g, ao = some ⟨g, 0, none⟩ ∧ w.cell? ⟨g, j * 3, none⟩ = some (.int .i64 (L.getD j e0).1) ∧ w.cell? ⟨g, j * 3 + 1, none⟩ = some (.int .i64 (L.getD j e0).2.1) ∧ w.cell? ⟨g, j * 3 + 2, none⟩ = some (.string ⟨(L.getD j e0).2.2.toArray⟩) := by
  rcases h with ⟨hv, rfl⟩ | ⟨g, cap', cur, hv, hg, ht⟩
  · simp at hj
  · injection hv with h1 h2 h3
    have key : ∀ k, k < 3 → w.cell? ⟨g, j * 3 + k, none⟩ = (entL (L.getD j e0))[k]? := fun k hk => by
      rw [cell_of_row _ _ _ _ _ _ hg, ← flat_at L e0 j k hj hk, ← ht, List.getElem?_take, if_pos (by omega), Array.getElem?_toList]
    exact ⟨g, h1, key 0 (by omega), key 1 (by omega), key 2 (by omega)⟩

structure RefAt (w : World) (x : Nat) (s : List UInt8) (n : Nat) (v : Value) (L : List Ent) : Prop where
  obj : w.heap[x]? = some (.cells #[.string ⟨s.toArray⟩, .int .i64 n, v] 48)
  book : Lines w v L
section
variable {w w' : World} {x n : Nat} {s : List UInt8} {v : Value} {L : List Ent}
theorem RefAt.kept (r : RefAt w x s n v L) (hb : Below w.heap.size w w') : RefAt w' x s n v L := ⟨row_kept r.obj hb, r.book.kept hb⟩
/-- A ring's book has grown. -/
theorem RefAt.other {q : Nat} {L' : List Ent} (r : RefAt w x s n v L) (hq : Book w q L') (ht : Touch q w w') : RefAt w' x s n v L :=
  ⟨row_touch r.obj ht (hq.ne r.obj), r.book.touch ht (fun _ hc => hq.ne hc rfl)⟩
theorem RefAt.c0 (r : RefAt w x s n v L) : w.cell? ⟨x, 0, none⟩ = some (.string ⟨s.toArray⟩) := by rw [cell_of_row _ _ _ _ _ _ r.obj]; rfl
theorem RefAt.c1 (r : RefAt w x s n v L) : w.cell? ⟨x, 1, none⟩ = some (.int .i64 n) := by rw [cell_of_row _ _ _ _ _ _ r.obj]; rfl
theorem RefAt.c2 (r : RefAt w x s n v L) : w.cell? ⟨x, 2, none⟩ = some v := by rw [cell_of_row _ _ _ _ _ _ r.obj]; rfl

theorem rnew_ok (s : List UInt8) (hs : s.length ≤ 64) (n : Nat) (h2 : 2 ≤ n) (h8 : n ≤ 8) (w : World) :
    Calls Tryd.prog 9 #[.string ⟨s.toArray⟩, .int .i64 (n : Int)] w fun e w' => ∃ x, e = .returned (.tuple #[.pointer (some ⟨x, 0, none⟩), .int .i64 0]) ∧ RefAt w' x s n (.slice none 0 0) [] ∧ Below w.heap.size w w' ∧ w.heap.size ≤ x := by
  have hsz : (⟨s.toArray⟩ : ByteArray).size = s.length := rfl
  have d2 : decide ((n : Int) < 2) = false := by simp; omega
  have d8 : decide ((8 : Int) < (n : Int)) = false := by simp; omega
  have d64 : decide ((64 : Int) < (s.length : Int)) = false := by simp; omega
  go_enter Tryd.func9, Tryd.ntmps9
  go_wp2
  go_ret2
  exact ⟨w.heap.size, rfl, ⟨top_row w _, .inl ⟨rfl, rfl⟩⟩, below_a1 w _, Nat.le_refl _⟩
theorem rnew_bad (s : List UInt8) (c : Int) (hc : c < 2 ∨ 8 < c ∨ 64 < s.length) (w : World) :
    Calls Tryd.prog 9 #[.string ⟨s.toArray⟩, .int .i64 c] w fun e w' => e = .returned (.tuple #[.pointer none, .int .i64 2]) ∧ w' = w := by
  have hsz : (⟨s.toArray⟩ : ByteArray).size = s.length := rfl
  by_cases h2 : c < 2
  · have d2 : decide (c < (2 : Int)) = true := by simp; omega
    go_enter Tryd.func9, Tryd.ntmps9
    go_wp2
    go_ret2
    exact ⟨rfl, rfl⟩
  · have d2 : decide (c < (2 : Int)) = false := by simp; omega
    by_cases h8 : 8 < c
    · have d8 : decide ((8 : Int) < c) = true := by simp; omega
      go_enter Tryd.func9, Tryd.ntmps9
      go_wp2
      go_ret2
      exact ⟨rfl, rfl⟩
    · have d8 : decide ((8 : Int) < c) = false := by simp; omega
      have d64 : decide ((64 : Int) < (s.length : Int)) = true := by simp; omega
      go_enter Tryd.func9, Tryd.ntmps9
      go_wp2
      go_ret2
      exact ⟨rfl, rfl⟩

set_option maxHeartbeats 4000000 in
theorem rmay_any (r : RefAt w x s n v L) (c d : Int) (t : List UInt8) (B : Bool) (hB : B = decide (May n (c, d, t))) :
    Calls Tryd.prog 17 #[.pointer (some ⟨x, 0, none⟩), .agg #[.int .i64 c, .int .i64 d, .string ⟨t.toArray⟩]] w fun e w' => e = .returned (.bool B) ∧ Below w.heap.size w w' := by
  have hw := may_ways n c d t B hB
  have hs : (⟨t.toArray⟩ : ByteArray).size = t.length := rfl
  clear hB
  have HB0 : Hid (Below w.heap.size w (w.alloc (.cells #[.int .i64 c, .int .i64 d, .string ⟨t.toArray⟩] 32))) := below_a1 w _
  have hq := top_row w (.cells #[.int .i64 c, .int .i64 d, .string ⟨t.toArray⟩] 32)
  have hq0 : (w.alloc (.cells #[.int .i64 c, .int .i64 d, .string ⟨t.toArray⟩] 32)).cell? ⟨w.heap.size, 0, none⟩ = some (.int .i64 c) := by rw [cell_of_row _ _ _ _ _ _ hq]; rfl
  have hq1 : (w.alloc (.cells #[.int .i64 c, .int .i64 d, .string ⟨t.toArray⟩] 32)).cell? ⟨w.heap.size, 1, none⟩ = some (.int .i64 d) := by rw [cell_of_row _ _ _ _ _ _ hq]; rfl
  have hq2 : (w.alloc (.cells #[.int .i64 c, .int .i64 d, .string ⟨t.toArray⟩] 32)).cell? ⟨w.heap.size, 2, none⟩ = some (.string ⟨t.toArray⟩) := by rw [cell_of_row _ _ _ _ _ _ hq]; rfl
  have hx1 := (r.kept HB0.out).c1
  clear hq r
  go_enter Tryd.func17, Tryd.ntmps17
  go_upto_region 1 with fail
  generalize w.alloc (.cells #[.int .i64 c, .int .i64 d, .string ⟨t.toArray⟩] 32) = w0 at *
  rcases hw with ⟨a1, a2, rfl⟩ | ⟨a1, a2, a3, rfl⟩ | ⟨a1, a2, a3, rfl⟩ | ⟨a1, a2, a3, rfl⟩ | ⟨a1, a2, a3, a4, rfl⟩ | ⟨a1, a2, a3, a4, rfl⟩ | ⟨a1, a2, a3, rfl⟩ | ⟨a1, a2, a3, a4, rfl⟩ | ⟨a1, a2, a3, a4, a5, rfl⟩ | ⟨a1, a2, a3, a4, a5, rfl⟩
  all_goals go_quiet (fail)
  all_goals go_wp2
  all_goals go_ret
  all_goals exact ⟨rfl, below_drawn HB0.out _⟩
end

end Go.Proofs.YtoddlbggbkabnaaDoor
