/-
  The program's prober in memory, and its small calls.
-/
import Derived.Test.YtkjgiidmajjonaaQpl
import Derived.Test.YtkjgiidmajjonaaPmm
import Derived.Lib.QuietBelow
import Derived.BigQuiet
namespace Go.Proofs.Ytkjgiidmajjonaa.Kn
open Go Go.RowKit
set_option maxRecDepth 100000

def ec (e : En) : List Value := [nu e.1, nu e.2]
def ecs (L : List En) : List Value := L.flatMap ec
/-- The function by which the queue orders. -/
abbrev fnA : Value := .func (.func 18) #[] #[]
theorem ecs_len (L : List En) : (ecs L).length = L.length * 2 := by
  induction L with
  | nil => rfl
  | cons a L ih => show (ec a ++ ecs L).length = _; rw [List.length_append, ih]; simp [ec]; omega
theorem ecs_app (L M : List En) : ecs (L ++ M) = ecs L ++ ecs M := by simp [ecs]
theorem ecs_split (L : List En) (S : List Value) {i : Nat} (h : i < L.length) : ecs L ++ S = ecs (L.take i) ++ (ec (at_ L i) ++ (ecs (L.drop (i + 1)) ++ S)) := by
  have e := (List.take_append_drop i L).symm
  rw [List.drop_eq_getElem_cons h, ← at_get h] at e
  conv => lhs; rw [e, ecs_app]
  simp [ecs]
theorem ecs_set (L : List En) (S : List Value) {i : Nat} (h : i < L.length) (e : En) : ecs (L.set i e) ++ S = ecs (L.take i) ++ (ec e ++ (ecs (L.drop (i + 1)) ++ S)) := by
  rw [List.set_eq_take_append_cons_drop, if_pos h, ecs_app]
  simp [ecs]
theorem ecs_off (L : List En) {i : Nat} (h : i < L.length) : (ecs (L.take i)).length = 0 + i * 2 := by
  rw [ecs_len, List.length_take]; omega
/-- The program's prober lies in the block pp, its heap in the block g. -/
structure RAt (w : World) (pp g cap : Nat) (n me now nx : Int) (L : List En) (S : List Value) : Prop where
  obj : w.heap[pp]? = some (.cells #[nu n, nu me, nu now, nu nx, .slice (some ⟨g, 0, none⟩) L.length cap, fnA] 54)
  row : w.heap[g]? = some (.cells (ecs L ++ S).toArray 49)
  ne : g ≠ pp
  sz : S.length = (cap - L.length) * 2 ∧ L.length ≤ cap ∧ cap ≤ maxLen
theorem sizeD : (Try.prog.info? 49).map (·.size) = some 2 := by kernel_rfl
theorem oneD (e : En) : ∀ u ∈ ec e, u.oneCell' = true := by
  intro u hu
  simp [ec] at hu
  rcases hu with rfl | rfl <;> rfl
theorem zeroD : (Try.prog.info? 49).map (·.zero) = some (some (.agg [nu 0, nu 0].toArray)) := by kernel_rfl
section
variable {w w' : World} {pp g cap : Nat} {n me now nx : Int} {L : List En} {S : List Value}
theorem RAt.kept (h : RAt w pp g cap n me now nx L S) (hb : Below w.heap.size w w') : RAt w' pp g cap n me now nx L S := ⟨row_kept h.obj hb, row_kept h.row hb, h.ne, h.sz⟩
theorem RAt.kp {X : List Nat} (h : RAt w pp g cap n me now nx L S) (hk : Kp X w w') (hp : pp ∉ X) (hg : g ∉ X) : RAt w' pp g cap n me now nx L S := ⟨hk.row h.obj hp, hk.row h.row hg, h.ne, h.sz⟩
theorem RAt.lt (h : RAt w pp g cap n me now nx L S) : pp < w.heap.size ∧ g < w.heap.size := ⟨row_lt h.obj, row_lt h.row⟩
theorem RAt.c0 (h : RAt w pp g cap n me now nx L S) : w.cell? ⟨pp, 0, none⟩ = some (nu n) := by rw [cell_of_row _ _ _ _ _ _ h.obj]; rfl
theorem RAt.c1 (h : RAt w pp g cap n me now nx L S) : w.cell? ⟨pp, 1, none⟩ = some (nu me) := by rw [cell_of_row _ _ _ _ _ _ h.obj]; rfl
theorem RAt.c2 (h : RAt w pp g cap n me now nx L S) : w.cell? ⟨pp, 2, none⟩ = some (nu now) := by rw [cell_of_row _ _ _ _ _ _ h.obj]; rfl
theorem RAt.c3 (h : RAt w pp g cap n me now nx L S) : w.cell? ⟨pp, 3, none⟩ = some (nu nx) := by rw [cell_of_row _ _ _ _ _ _ h.obj]; rfl
theorem RAt.c4 (h : RAt w pp g cap n me now nx L S) : w.cell? ⟨pp, 4, none⟩ = some (.slice (some ⟨g, 0, none⟩) L.length cap) := by rw [cell_of_row _ _ _ _ _ _ h.obj]; rfl
theorem RAt.c5 (h : RAt w pp g cap n me now nx L S) : w.cell? ⟨pp, 5, none⟩ = some fnA := by rw [cell_of_row _ _ _ _ _ _ h.obj]; rfl
theorem RAt.en (h : RAt w pp g cap n me now nx L S) {i : Nat} (hi : i < L.length) : ∀ j v, (ec (at_ L i))[j]? = some v → w.cell? ⟨g, 0 + i * 2 + j, none⟩ = some v := row_seg h.row (ecs_split L S hi) (ecs_off L hi)
theorem RAt.e0 (h : RAt w pp g cap n me now nx L S) {i : Nat} (hi : i < L.length) : w.cell? ⟨g, 0 + i * 2, none⟩ = some (nu (at_ L i).1) := h.en hi 0 _ rfl
theorem RAt.e1 (h : RAt w pp g cap n me now nx L S) {i : Nat} (hi : i < L.length) : w.cell? ⟨g, 0 + i * 2 + 1, none⟩ = some (nu (at_ L i).2) := h.en hi 1 _ rfl
theorem RAt.set (h : RAt w pp g cap n me now nx L S) {i : Nat} (hi : i < L.length) (e : En) (hb : But g w w') (hr : w'.heap[g]? = some (.cells (ecs (L.take i) ++ (ec e ++ (ecs (L.drop (i + 1)) ++ S))).toArray 49)) : RAt w' pp g cap n me now nx (L.set i e) S :=
  ⟨by rw [List.length_set]; exact hb.row h.obj (Ne.symm h.ne), by rw [ecs_set L S hi]; exact hr, h.ne, by rw [List.length_set]; exact h.sz⟩
theorem below_a2 (W : World) (o1 o2 : Obj) : Below W.heap.size W ((W.alloc o1).alloc o2) := (below_a1 W o1).alloc (below_a1 W o1).size o2
theorem ahead_any (W : World) (a b : En) : Calls Try.prog 18 #[.agg (ec a).toArray, .agg (ec b).toArray] W fun e w' => e = .returned (.bool (ltE a b)) ∧ Below W.heap.size W w' := by
  obtain ⟨x, y⟩ := a
  obtain ⟨u, v⟩ := b
  by_cases h0 : x = u
  · subst h0
    have e : ltE (x, y) (x, v) = decide (y < v) := by unfold ltE; rw [if_pos rfl]
    rw [e]
    have d : (x == x) = true := by simp
    have d2 : (x != x) = false := by simp
    clear e
    have ea : ec (x, y) = [nu x, nu y] := rfl
    have eb : ec (x, v) = [nu x, nu v] := rfl
    rw [ea, eb]
    go_enter Try.func18, Try.ntmps18
    go_wp2
    go_ret
    exact ⟨rfl, below_a2 _ _ _⟩
  · have e : ltE (x, y) (u, v) = decide (x < u) := by unfold ltE; rw [if_neg h0]
    rw [e]
    have d : (x == u) = false := by simp [h0]
    have d2 : (x != u) = true := by simp [h0]
    clear h0
    clear e
    have ea : ec (x, y) = [nu x, nu y] := rfl
    have eb : ec (u, v) = [nu u, nu v] := rfl
    rw [ea, eb]
    go_enter Try.func18, Try.ntmps18
    go_wp2
    go_ret
    exact ⟨rfl, below_a2 _ _ _⟩
theorem len_any (h : RAt w pp g cap n me now nx L S) : Calls Try.prog 36 #[pt pp 4] w fun e w' => e = .returned (nu L.length) ∧ w' = w := by
  have c4 := h.c4
  clear h
  go_enter Try.func36, Try.ntmps36
  go_wp2
  go_ret
  exact ⟨rfl, rfl⟩
end
end Go.Proofs.Ytkjgiidmajjonaa.Kn
