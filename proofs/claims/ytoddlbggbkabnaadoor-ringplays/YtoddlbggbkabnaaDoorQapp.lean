/-
  The reference's two appends, as steps of a region that draws its order.
-/
import Derived.Test.YtoddlbggbkabnaaDoorQref
import Derived.Deep.AppendLies
import Derived.Deep.RegionLaw
namespace Go.Proofs.YtoddlbggbkabnaaDoor
open Go Go.RowKit
set_option maxRecDepth 100000

theorem infoLine : (Tryd.prog.info? 32).map (fun i => (i.zero, i.size, i.bytes)) = some (some (.agg #[.int .i64 0, .int .i64 0, .string ⟨#[]⟩]), 3, 32) := by kernel_rfl

/-- A row of the call's own that holds just these lines. -/
def Row (w : World) (B : Nat) (v : Value) (n : Nat) (L : List Ent) : Prop := w.ownsRow B 32 3 v n (flat L)
theorem Row.lines {w : World} {B n : Nat} {g cap : Nat} {L : List Ent} (h : Row w B (.slice (some ⟨g, 0, none⟩) n cap) n L) (hn : n = L.length) : Lines w (.slice (some ⟨g, 0, none⟩) n cap) L := by
  subst hn
  rcases h.2 with ⟨hv, _⟩ | ⟨g', cap', cur, hv, hb, hg, h1, h2, h3, h4⟩
  · cases hv
  · injection hv with e1 e2 e3
    injection e1 with e1
    injection e1 with e1
    subst e1 e3
    exact .inr ⟨_, _, cur, rfl, hg, by rw [← h4, Nat.mul_comm]⟩
theorem Row.alloc {w : World} {B n : Nat} {v : Value} {L : List Ent} (h : Row w B v n L) (o : Obj) : Row (w.alloc o) B v n L := World.ownsRow.alloc h o
theorem flat_one (L : List Ent) : ∀ u ∈ flat L, u.oneCell' = true := by
  intro u hu
  obtain ⟨e, _, he⟩ := List.mem_flatMap.1 hu
  simp only [entL, List.mem_cons, List.not_mem_nil, or_false] at he
  rcases he with rfl | rfl | rfl <;> rfl

theorem run_app0 (W : World) (ty : TypeId) (ga : Nat) (ao : Option Addr) (cap : Nat) : (Builtin.append_ #[46, 46] ty #[.slice (some ⟨ga, 0, none⟩) 0 0, .slice ao 0 cap]).run Tryd.prog W = .ok (.slice (some ⟨ga, 0, none⟩) 0 0) W := by
  obtain ⟨i0, hi, hz0, hz1, hz2⟩ := info_parts infoLine
  have h0 : ∀ a' : Addr, (storeCells a' []).run Tryd.prog W = .ok () W := fun a' => rfl
  cases ao with
  | none => simp [Builtin.append_, run_underlying Tryd.underlying46, sizeOf, typeInfo, hi, Builtin.lenOf, Builtin.firstCells, Result.andThen, h0]
  | some b =>
    have hl : (loadCells b 0).run Tryd.prog W = .ok #[] W := run_loadCells_list (P := Tryd.prog) W b [] (fun j v hv => by simp at hv)
    simp [Builtin.append_, run_underlying Tryd.underlying46, sizeOf, typeInfo, hi, Builtin.lenOf, Builtin.firstCells, Result.andThen, h0, hl]

section
variable {ops : Array Oper} {o : Oper} {a : Act} {K : Act → World → Prop} {Q : Exit → Act → World → Prop} {E : Prop}

theorem step_app1 (W : World) (hgd : o.guard = none) (s x : Operand) (ho : o.op = .call { callee := .builtin .append, args := #[s, x], argTypes := #[46, 46] }) (ga : Nat) (hs : a.eval s = .slice (some ⟨ga, 0, none⟩) 0 0) (v : Value) (hx : a.eval x = v)
    (L : List Ent) (B : Nat) (hl : L.length ≤ 1000) (hv : Lines W v L) (hga : W.heap[ga]? = some (.cells #[] 32)) (hB : B ≤ ga)
    (h : ∀ g1 cap1 W', Row W' B (.slice (some ⟨g1, 0, none⟩) L.length cap1) L.length L → Below B W W' → (∀ k o, k ≠ ga → W.heap[k]? = some o → W'.heap[k]? = some o) → K (a.put o.dst (.slice (some ⟨g1, 0, none⟩) L.length cap1)) W') :
    if Region.wanted o (yielded ops a.tmps) = true then Oper.wp Tryd.prog o a W K Q else E := by
  obtain ⟨i0, hi, hz0, hz1, hz2⟩ := info_parts infoLine
  have hlt : ga < W.heap.size := row_lt hga
  have hown : W.ownsRow B 32 3 (.slice (some ⟨ga, 0, none⟩) 0 0) 0 [] := ⟨rfl, .inr ⟨ga, 0, #[], rfl, hB, hga, Nat.le_refl _, by unfold maxLen; omega, rfl, rfl⟩⟩
  by_cases hL : L = []
  · subst hL
    obtain ⟨ao, cap, rfl⟩ := hv.form
    have hw : Region.wanted o (yielded ops a.tmps) = true := by simp [Region.wanted, hgd]
    rw [if_pos hw]
    have hr := run_app0 W o.type ga ao cap
    unfold Oper.wp execOp
    simp only [ho, resolve, invoke, builtin, Sem.run_bind, Sem.run_pure, Result.andThen_ok, List.map_toArray, List.map_cons, List.map_nil, hs, hx]
    have hr' : (Builtin.append_ #[46, 46] o.type #[.slice (some ⟨ga, 0, none⟩) 0 0, .slice ao ([] : List Ent).length cap]).run Tryd.prog W = .ok (.slice (some ⟨ga, 0, none⟩) 0 0) W := hr
    rw [hr']
    exact h ga 0 W hown (Below.refl _ _) (fun _ _ _ hk => hk)
  · rcases hv with ⟨_, h0⟩ | ⟨g, cap, cur, hv, hg, ht⟩
    · exact absurd h0 hL
    · subst hv
      have hpos : 0 < L.length := List.length_pos_iff.2 hL
      refine step_append_lies W hgd s x 46 ho B 32 i0 _ 3 32 Tryd.underlying46 hi hz0 hz1 hz2 rfl (by omega) _ 0 [] hs hown ⟨g, 0, none⟩ L.length cap (flat L) hx (by rw [flat_len]; omega) ?_ (flat_one L) hpos (by unfold maxLen; omega) (by omega) (by omega) _ rfl ?_
      · intro j u hu
        have hj : j < 3 * L.length := by rw [← flat_len]; exact (List.getElem?_eq_some_iff.1 hu).1
        rw [add_none, Nat.zero_add, cell_of_row _ _ _ _ _ _ hg, ← Array.getElem?_toList]
        rw [← ht, List.getElem?_take, if_pos hj] at hu
        exact hu
      · intro g1 cap1 W' hown1 hgr hat hlt1
        rw [Nat.zero_add] at hown1 ⊢
        refine h g1 cap1 W' hown1 ((Below.refl _ _).grown hgr (by omega) (fun k hk => by simp [Value.ownBlock] at hk; omega)) (fun k o hk hko => ?_)
        rw [hgr.block k (row_lt hko) (by simp [Value.ownBlock]; omega)]
        exact hko

theorem step_app2 (W : World) (hgd : o.guard = none) (s x : Operand) (ho : o.op = .call { callee := .builtin .append, args := #[s, x], argTypes := #[46, 46] }) (g1 n cap1 : Nat) (hs : a.eval s = .slice (some ⟨g1, 0, none⟩) n cap1) (k : Nat) (hx : a.eval x = .slice (some ⟨k, 0, none⟩) 1 1)
    (L : List Ent) (B : Nat) (c d : Int) (t : List UInt8) (hl : n ≤ 1000) (hBW : B ≤ W.heap.size) (hrow : Row W B (.slice (some ⟨g1, 0, none⟩) n cap1) n L) (hk : W.heap[k]? = some (.cells #[.int .i64 c, .int .i64 d, .string ⟨t.toArray⟩] 32))
    (h : ∀ g2 cap2 W', Row W' B (.slice (some ⟨g2, 0, none⟩) (n + 1) cap2) (n + 1) (L ++ [(c, d, t)]) → Below B W W' → K (a.put o.dst (.slice (some ⟨g2, 0, none⟩) (n + 1) cap2)) W') :
    if Region.wanted o (yielded ops a.tmps) = true then Oper.wp Tryd.prog o a W K Q else E := by
  obtain ⟨i0, hi, hz0, hz1, hz2⟩ := info_parts infoLine
  have hgB : B ≤ g1 := by
    rcases hrow.2 with ⟨hv, _⟩ | ⟨g', cap', cur, hv, hb, _⟩
    · cases hv
    · injection hv with e1
      injection e1 with e1
      injection e1 with e1
      omega
  refine step_append_lies W hgd s x 46 ho B 32 i0 _ 3 32 Tryd.underlying46 hi hz0 hz1 hz2 rfl (by omega) _ n (flat L) hs hrow ⟨k, 0, none⟩ 1 1 [.int .i64 c, .int .i64 d, .string ⟨t.toArray⟩] hx rfl (World.news_of_block (cs := #[.int .i64 c, .int .i64 d, .string ⟨t.toArray⟩]) hk) (by simp [Value.oneCell']) (by omega) (by unfold maxLen; omega) (by omega) hBW _ rfl ?_
  intro g2 cap2 W' hown2 hgr hat hlt2
  refine h g2 cap2 W' ?_ ((Below.refl _ _).grown hgr hBW (fun k hk => by simp [Value.ownBlock] at hk; omega))
  unfold Row
  rw [flat_snoc]
  exact hown2
end

end Go.Proofs.YtoddlbggbkabnaaDoor
