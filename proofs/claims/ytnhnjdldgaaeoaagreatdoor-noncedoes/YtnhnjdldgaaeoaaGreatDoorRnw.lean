/-
  What the reference's New makes.
-/
import Derived.Test.YtnhnjdldgaaeoaaGreatDoorRsy
namespace Go.Proofs.YtnhnjdldgaaeoaaGreatDoor
open Go Go.RowKit
set_option maxRecDepth 100000

/-- A reference's disk while it is made. -/
structure NI (w W : World) (x : Nat) (vL vO : Value) (a b : Nat) : Prop where
  obj : W.heap[x]? = some (.cells #[vL, vO, .int .i64 0, .bool false] 64)
  L : W.ownsRow w.heap.size 9 1 vL a (List.replicate a (tx zer))
  O : W.ownsRow w.heap.size 9 1 vO b (List.replicate b (tx []))
  dis : ∀ g, vL.ownBlock = some g → vO.ownBlock = some g → False
  bel : Below w.heap.size w W
  hx : w.heap.size ≤ x

section
variable {w W W' : World} {x a b : Nat} {vL vO v' : Value}
theorem own_ne {W : World} {x base n : Nat} {v : Value} {xs : List Value} {cs : Array Value} (hx : W.heap[x]? = some (.cells cs 64)) (h : W.ownsRow base 9 1 v n xs) : v.ownBlock ≠ some x := by
  intro e
  rcases h.2 with ⟨rfl, -⟩ | ⟨g, cap, cur, rfl, -, hg, -⟩
  · simp [Value.ownBlock] at e
  · simp [Value.ownBlock] at e
    subst e
    rw [hx] at hg
    simp at hg
theorem own_setCell {W : World} {x base n i : Nat} {v u : Value} {xs : List Value} (h : W.ownsRow base 9 1 v n xs) (hne : v.ownBlock ≠ some x) : (W.setCell ⟨x, i, none⟩ u).ownsRow base 9 1 v n xs := by
  refine ⟨h.1, ?_⟩
  rcases h.2 with hn | ⟨g, cap, cur, rfl, hb, hg, rest⟩
  · exact .inl hn
  · refine .inr ⟨g, cap, cur, rfl, hb, ?_, rest⟩
    rw [heap_setCell_other _ _ _ _ (fun e => hne (by simp [Value.ownBlock, e]))]
    exact hg
theorem NI.keep (h : NI w W x vL vO a b) (hb : Below W.heap.size W W') : NI w W' x vL vO a b :=
  ⟨row_kept h.obj hb, own_kept h.L hb, own_kept h.O hb, h.dis, h.bel.trans (hb.mono h.bel.size), h.hx⟩
theorem NI.pushL {u : Value} (h : NI w W x vL vO a b) (hr : W'.ownsRow w.heap.size 9 1 v' (a + 1) (List.replicate a (tx zer) ++ [tx zer])) (hg : (W.alloc (.cells #[u] 9)).grownBy W' vL.ownBlock)
    (hat : v'.ownBlock = vL.ownBlock ∨ v'.ownBlock = some (W.heap.size + 1)) : NI w (W'.setCell ⟨x, 0, none⟩ v') x v' vO (a + 1) b := by
  have hxl := row_lt h.obj
  have hxr : W'.heap[x]? = some (.cells #[vL, vO, .int .i64 0, .bool false] 64) := by
    rw [hg.block x (by simp; omega) (Ne.symm (own_ne h.obj h.L)), heap_old1 _ _ _ hxl]; exact h.obj
  have hO : W'.ownsRow w.heap.size 9 1 vO b (List.replicate b (tx [])) := (h.O.alloc _).kept hg (by
    cases e : vO.ownBlock with
    | none => exact .inl rfl
    | some g => exact .inr (fun e2 => h.dis g e2.symm e))
  refine ⟨?_, ?_, own_setCell hO (own_ne hxr hO), ?_, ?_, h.hx⟩
  · rw [setCell_eq_setRow _ _ _ _ _ _ _ hxr, setRow_heap _ _ _ _ _ _ hxr]; rfl
  · have h9 := own_setCell (i := 0) (u := v') hr (own_ne hxr hr)
    rw [← List.replicate_succ'] at h9
    exact h9
  · intro g e1 e2
    rcases hat with e | e
    · exact h.dis g (e ▸ e1) e2
    · have h8 := (h.O.lt g e2).2
      rw [e] at e1
      simp at e1
      omega
  · exact ((h.bel.alloc h.bel.size _).grown hg (by have := h.bel.size; simp; omega) (own_ge h.L)).setCell h.hx _
theorem NI.pushO {u : Value} (h : NI w W x vL vO a b) (hr : W'.ownsRow w.heap.size 9 1 v' (b + 1) (List.replicate b (tx []) ++ [tx []])) (hg : (W.alloc (.cells #[u] 9)).grownBy W' vO.ownBlock)
    (hat : v'.ownBlock = vO.ownBlock ∨ v'.ownBlock = some (W.heap.size + 1)) : NI w (W'.setCell ⟨x, 1, none⟩ v') x vL v' a (b + 1) := by
  have hxl := row_lt h.obj
  have hxr : W'.heap[x]? = some (.cells #[vL, vO, .int .i64 0, .bool false] 64) := by
    rw [hg.block x (by simp; omega) (Ne.symm (own_ne h.obj h.O)), heap_old1 _ _ _ hxl]; exact h.obj
  have hL : W'.ownsRow w.heap.size 9 1 vL a (List.replicate a (tx zer)) := (h.L.alloc _).kept hg (by
    cases e : vL.ownBlock with
    | none => exact .inl rfl
    | some g => exact .inr (fun e2 => h.dis g e e2.symm))
  refine ⟨?_, own_setCell hL (own_ne hxr hL), ?_, ?_, ?_, h.hx⟩
  · rw [setCell_eq_setRow _ _ _ _ _ _ _ hxr, setRow_heap _ _ _ _ _ _ hxr]; rfl
  · have h9 := own_setCell (i := 1) (u := v') hr (own_ne hxr hr)
    rw [← List.replicate_succ'] at h9
    exact h9
  · intro g e1 e2
    rcases hat with e | e
    · exact h.dis g e1 (e ▸ e2)
    · have h8 := (h.L.lt g e1).2
      rw [e] at e2
      simp at e2
      omega
  · exact ((h.bel.alloc h.bel.size _).grown hg (by have := h.bel.size; simp; omega) (own_ge h.O)).setCell h.hx _
theorem NI.done {n : Nat} (h : NI w W x vL vO n n) (h1 : 1 ≤ n) (h2 : n ≤ 512) : ∃ r : Rx, r.x = x ∧ RefAt W r (newD n) ∧ w.heap.size ≤ r.gL ∧ w.heap.size ≤ r.gO := by
  have hL := h.L
  have hO := h.O
  rcases hL.2 with ⟨-, e⟩ | ⟨gL, cL, curL, rfl, hbL, hgL, hlL, -, hsL, htL⟩
  · omega
  rcases hO.2 with ⟨-, e⟩ | ⟨gO, cO, curO, rfl, hbO, hgO, hlO, -, hsO, htO⟩
  · omega
  have hne : gL ≠ gO := by
    intro e
    subst e
    exact h.dis gL rfl rfl
  refine ⟨⟨x, gL, gO, cL, cO, curL.toList.drop n, curO.toList.drop n⟩, rfl, ⟨?_, ?_, ?_, hne, ?_, ?_, ?_⟩, hbL, hbO⟩
  · show W.heap[x]? = some (Obj.cells #[.slice (some ⟨gL, 0, none⟩) (List.replicate n sec0).length cL, .slice (some ⟨gO, 0, none⟩) (List.replicate n sec0).length cO, .int .i64 0, .bool false] 64 (0, 0))
    rw [List.length_replicate]; exact h.obj
  · show W.heap[gL]? = some (Obj.cells (nowL (List.replicate n sec0) ++ curL.toList.drop n).toArray 9 (0, 0))
    rw [hgL]
    congr 2
    apply Array.ext'
    rw [Nat.mul_one] at htL
    simp only [nowL, List.map_replicate]
    rw [show tx sec0.now = tx zer from rfl, ← htL, List.take_append_drop]
  · show W.heap[gO]? = some (Obj.cells (oldL (List.replicate n sec0) ++ curO.toList.drop n).toArray 9 (0, 0))
    rw [hgO]
    congr 2
    apply Array.ext'
    rw [Nat.mul_one] at htO
    simp only [oldL, List.map_replicate]
    rw [show tx (oldT sec0) = tx [] from rfl, ← htO, List.take_append_drop]
  · intro s hs
    rw [(List.mem_replicate.1 hs).2]; exact sec0_ok
  · show 1 ≤ (List.replicate n sec0).length ∧ (List.replicate n sec0).length ≤ 512
    rw [List.length_replicate]; omega
  · show 0 < 9223372036854775808
    omega
end
/-- append as a step of a region that draws. -/
theorem step_push {ops : Array Oper} {o : Oper} {a : Act} {K : Act → World → Prop} {Q : Exit → Act → World → Prop} {E : Prop} (W : World) (hgd : o.guard = none) (s x : Operand) (t e : TypeId)
    (ho : o.op = .call { callee := .builtin .append, args := #[s, x], argTypes := #[t, t] }) (z : Value) (by' : Nat) (ht : Tryz.prog.underlying t = some (.slice e)) (hinfo : (Tryz.prog.info? e).map (fun i => (i.zero, i.size, i.bytes)) = some (some z, 1, by'))
    (hzs : z.cells.size = 1) (hby : by' ≤ 16) (base : Nat) (v u : Value) (n : Nat) (xs : List Value) (hs : a.eval s = v) (hx : a.eval x = .slice (some ⟨W.heap.size, 0, none⟩) 1 1) (hown : W.ownsRow base e 1 v n xs) (h1 : u.oneCell' = true)
    (hn : n < 1000000) (hbase : base ≤ W.heap.size)
    (h : ∀ v' w', w'.ownsRow base e 1 v' (n + 1) (xs ++ [u]) → (W.alloc (.cells #[u] e)).grownBy w' v.ownBlock → (v'.ownBlock = v.ownBlock ∨ v'.ownBlock = some (W.heap.size + 1)) → K (a.put o.dst v') w') :
    if Region.wanted o (yielded ops a.tmps) = true then Oper.wp Tryz.prog o a (W.alloc (.cells #[u] e)) K Q else E := by
  have hw : Region.wanted o (yielded ops a.tmps) = true := by simp [Region.wanted, hgd]
  rw [if_pos hw]
  obtain ⟨i, hi, hz0, hz1, hz2⟩ := info_parts hinfo
  obtain ⟨v', w', hr, g1, g2, -, g4⟩ := run_append_own_at (P := Tryz.prog) (W.alloc (.cells #[u] e)) base t o.type e i z 1 by' ht hi hz0 hz1 hz2 hzs (by decide) v n xs (hown.alloc _) ⟨W.heap.size, 0, none⟩ 1 1 [u] rfl (cell_one_new _ _ _) (fun y hy => by simp at hy; subst hy; exact h1) (by unfold maxLen; omega) (by have := Nat.mul_le_mul (show n + 1 ≤ 1000000 by omega) hby; omega) (by simp; omega)
  unfold Oper.wp execOp
  simp only [ho, resolve, invoke, builtin, Sem.run_bind, Sem.run_pure, Result.andThen_ok, List.map_toArray, List.map_cons, List.map_nil, hs, hx, hr]
  exact h v' w' g1 g2 (by simpa using g4)
end Go.Proofs.YtnhnjdldgaaeoaaGreatDoor
