/-
  Laws of loads, stores and comparisons of whole structs, guarded or not, in a region that draws its order or not; lists of numbers and of what is pending in memory.
-/
import Derived.Test.YtidlgecognedlaaGreatDoorJrow
import Derived.Laws.CopyRow
import Derived.Laws.AppendOwn
import Derived.Below
import Derived.BigQuiet
import Derived.Lib.QuietBelow
import Derived.Deep.CutBlock
import Derived.Deep.CutRange
namespace Go.Proofs.YtidlgecognedlaaGreatDoor.Ms
open Go Go.RowKit
set_option maxRecDepth 100000

theorem hid {p : Prop} (h : p) : Hid p := h
theorem add_none (g o j : Nat) : (⟨g, o, none⟩ : Addr).add j = ⟨g, o + j, none⟩ := by unfold Addr.add; split <;> simp_all
theorem top_obj (W : World) (o : Obj) : (W.alloc o).heap[W.heap.size]? = some o := by show (W.heap.push o)[W.heap.size]? = _; simp
theorem below_two {w w1 w2 : World} (h1 : Below w.heap.size w w1) (h2 : Below w1.heap.size w1 w2) : Below w.heap.size w w2 := h1.trans (h2.mono h1.size)
theorem below_a1 (w : World) (o : Obj) : Below w.heap.size w (w.alloc o) := (Below.refl _ w).alloc (Nat.le_refl _) o
theorem row_kept {w w' : World} {k : Nat} {o : Obj} (hr : w.heap[k]? = some o) (hb : Below w.heap.size w w') : w'.heap[k]? = some o := (hb.block k (Array.getElem?_eq_some_iff.1 hr).1).trans hr

section
variable {P : Program} {ops : Array Oper} {rest : List Oper} {o : Oper} {a : Act} {w : World} {Q : Exit → Act → World → Prop}
/-- A load of a whole struct or array, its guard saying yes. -/
theorem wl_load (ty : TypeId) (x : Operand) (ho : o.op = .load ty x)
    (g off : Nat) (hx : a.eval x = .pointer (some ⟨g, off, none⟩)) (hw : Region.wanted o (yielded ops a.tmps) = true) (cs : List Value) (d : TypeDesc) (hc : ∀ j v, cs[j]? = some v → w.cell? ⟨g, off + j, none⟩ = some v)
    (hu : P.underlying ty = some d) (hd : (match d with | .struct _ | .array _ _ => true | _ => false) = true) (hi : (P.info? ty).map (·.size) = some cs.length)
    (h : wpList P ops Q rest (a.put o.dst (.agg cs.toArray)) w) : wpList P ops Q (o :: rest) a w := by
  refine BigFrame.wpList_want hw fun K hK => ?_
  have h' := hK _ _ h
  have hl : (loadCells ⟨g, off, none⟩ cs.length).run P w = .ok cs.toArray w :=
    run_loadCells_list (P := P) w ⟨g, off, none⟩ cs (fun j v hv => by rw [add_none]; exact hc j v hv)
  cases hq : P.info? ty with
  | none => simp [hq] at hi
  | some i =>
    have hs : i.size = cs.length := by simpa [hq] using hi
    have hagg : (isAgg ty).run P w = .ok true w := by
      unfold isAgg
      rw [Sem.run_bind, run_underlying hu w]
      cases d <;> simp_all
    unfold Oper.wp execOp
    simp [ho, hx, Instr.loadAt, Instr.sureAddr, Sem.run_bind, loadVar, hagg, sizeOf, typeInfo, hq, hs, hl]
    exact h'
/-- A new struct or array, with whatever zeros its type has. -/
theorem wl_alloc (ty : TypeId) (ho : o.op = .alloc ty) (hw : Region.wanted o (yielded ops a.tmps) = true) (z : Array Value) (hi : (P.info? ty).map (·.zero) = some (some (.agg z)))
    (h : wpList P ops Q rest (a.put o.dst (.pointer (some ⟨w.heap.size, 0, none⟩))) (w.alloc (.cells z ty))) : wpList P ops Q (o :: rest) a w := by
  refine BigFrame.wpList_want hw fun K hK => ?_
  have h' := hK _ _ h
  cases hq : P.info? ty with
  | none => simp [hq] at hi
  | some i =>
    have hz : i.zero = some (.agg z) := by simpa [hq] using hi
    unfold Oper.wp execOp
    simp [ho, Instr.alloc, zeroValue, typeInfo, hq, hz, newVar, newRow, newObj, Sem.run_bind, Value.cells]
    exact h'
/-- A store of a whole struct or array. -/
theorem wl_store (ty : TypeId) (x y : Operand) (ho : o.op = .store ty x y) (hn : o.dst = none)
    (g off : Nat) (hx : a.eval x = .pointer (some ⟨g, off, none⟩)) (hw : Region.wanted o (yielded ops a.tmps) = true) (A cs old C : List Value) (hy : a.eval y = .agg cs.toArray) (t : TypeId) (hg : w.heap[g]? = some (.cells (A ++ (old ++ C)).toArray t))
    (hA : A.length = off) (hold : old.length = cs.length) (h1 : ∀ v ∈ cs, v.oneCell' = true) (hi : (P.info? ty).map (·.size) = some cs.length)
    (h : wpList P ops Q rest a (w.setRow g (A ++ (cs ++ C)).toArray)) : wpList P ops Q (o :: rest) a w := by
  refine BigFrame.wpList_want hw fun K hK => ?_
  have e : ((A ++ (old ++ C)).toArray.toList.take off ++ cs ++ (A ++ (old ++ C)).toArray.toList.drop (off + cs.length)) = A ++ (cs ++ C) := by
    subst hA
    simp [← hold, List.append_assoc]
  have h' := hK _ _ h
  have hst := run_storeCells_at P g off t cs 0 (A ++ (old ++ C)).toArray w hg (by subst hA; simp; omega) h1
  rw [Nat.add_zero, e] at hst
  cases hq : P.info? ty with
  | none => simp [hq] at hi
  | some i =>
    have hs : i.size = cs.length := by simpa [hq] using hi
    unfold Oper.wp execOp
    simp [ho, hx, hy, Instr.storeAt, Instr.sureAddr, Sem.run_bind, storeVar, sizeOf, typeInfo, hq, hs, Value.cells]
    simp [hst]
    show K (a.put o.dst undef) _
    rw [hn]
    exact h'
end
section
variable {P : Program} {ops : Array Oper} {C : World → Prop} {Q : Act → Prop} {a : Act} {o : Oper} {rest : List Oper}
theorem wq_load (ty : TypeId) (x : Operand) (ho : o.op = .load ty x)
    (g off : Nat) (hx : a.eval x = .pointer (some ⟨g, off, none⟩)) (hw : Region.wanted o (yielded ops a.tmps) = true) (cs : List Value) (d : TypeDesc) (hc : ∀ w, C w → ∀ j v, cs[j]? = some v → w.cell? ⟨g, off + j, none⟩ = some v)
    (hu : P.underlying ty = some d) (hd : (match d with | .struct _ | .array _ _ => true | _ => false) = true) (hi : (P.info? ty).map (·.size) = some cs.length)
    (h : wpQuiet P ops C Q rest (a.put o.dst (.agg cs.toArray))) : wpQuiet P ops C Q (o :: rest) a := by
  unfold wpQuiet
  rw [if_pos hw]
  refine ⟨.agg cs.toArray, fun w hC => ?_, h⟩
  have hl : (loadCells ⟨g, off, none⟩ cs.length).run P w = .ok cs.toArray w :=
    run_loadCells_list (P := P) w ⟨g, off, none⟩ cs (fun j v hv => by rw [add_none]; exact hc w hC j v hv)
  cases hq : P.info? ty with
  | none => simp [hq] at hi
  | some i =>
    have hs : i.size = cs.length := by simpa [hq] using hi
    have hagg : (isAgg ty).run P w = .ok true w := by
      unfold isAgg
      rw [Sem.run_bind, run_underlying hu w]
      cases d <;> simp_all
    unfold Oper.quietAt execOp
    simp [ho, hx, Instr.loadAt, Instr.sureAddr, Sem.run_bind, loadVar, hagg, sizeOf, typeInfo, hq, hs, hl, Oper.quietUpon]
theorem wq_eql (hw : Region.wanted o (yielded ops a.tmps) = true) (ty rt : TypeId) (x y : Operand) (ho : o.op = .binOp .eql ty x y rt)
    (X Y : Array Value) (hx : a.eval x = .agg X) (hy : a.eval y = .agg Y) (hgt : P.eqGuardType P.depth ty = false) (B : Bool) (he : ∀ w, (Op.equalIn 10000 ty (.agg X) (.agg Y)).run P w = .ok B w)
    (h : wpQuiet P ops C Q rest (a.put o.dst (.bool B))) : wpQuiet P ops C Q (o :: rest) a := by
  unfold wpQuiet
  rw [if_pos hw]
  refine ⟨.bool B, fun w hC => ?_, h⟩
  have hq : ∀ w, (Op.equal ty (.agg X) (.agg Y)).run P w = .ok B w := he
  unfold Oper.quietAt execOp
  simp [ho, hx, hy, eqGuard, binOp, Sem.run_bind, hgt, hq, Oper.quietUpon]
theorem wq_neq (hw : Region.wanted o (yielded ops a.tmps) = true) (ty rt : TypeId) (x y : Operand) (ho : o.op = .binOp .neq ty x y rt)
    (X Y : Array Value) (hx : a.eval x = .agg X) (hy : a.eval y = .agg Y) (hgt : P.eqGuardType P.depth ty = false) (B : Bool) (he : ∀ w, (Op.equalIn 10000 ty (.agg X) (.agg Y)).run P w = .ok B w)
    (h : wpQuiet P ops C Q rest (a.put o.dst (.bool (!B)))) : wpQuiet P ops C Q (o :: rest) a := by
  unfold wpQuiet
  rw [if_pos hw]
  refine ⟨.bool (!B), fun w hC => ?_, h⟩
  have hq : ∀ w, (Op.equal ty (.agg X) (.agg Y)).run P w = .ok B w := he
  unfold Oper.quietAt execOp
  simp [ho, hx, hy, eqGuard, binOp, Sem.run_bind, hgt, hq, Oper.quietUpon]
end
theorem setRow_top (W : World) (cur cs : Array Value) (t : TypeId) : (W.alloc (.cells cur t)).setRow W.heap.size cs = W.alloc (.cells cs t) := by
  have e : ((W.alloc (.cells cur t)).setRow W.heap.size cs).heap = (W.alloc (.cells cs t)).heap := by
    apply Array.ext_getElem?
    intro i
    have hn : ∀ o : Obj, (W.alloc o).heap[W.heap.size]? = some o := fun o => by show (W.heap.push o)[W.heap.size]? = _; simp
    by_cases h : i = W.heap.size
    · subst h
      rw [setRow_heap _ _ cur cs t (0, 0) (hn _), hn]
    · rw [setRow_other _ _ _ _ h]
      show (W.heap.push _)[i]? = (W.heap.push _)[i]?
      rw [Array.getElem?_push, Array.getElem?_push, if_neg h, if_neg h]
  exact congrArg (fun hp => ({ W with heap := hp } : World)) e
/-- A store of a whole struct into a row that was made just now. -/
theorem wl_store_top {P : Program} {ops : Array Oper} {rest : List Oper} {o : Oper} {a : Act} {W : World} {Q : Exit → Act → World → Prop} (ty : TypeId) (x y : Operand) (ho : o.op = .store ty x y) (hn : o.dst = none) (hw : Region.wanted o (yielded ops a.tmps) = true)
    (hx : a.eval x = .pointer (some ⟨W.heap.size, 0, none⟩)) (cs old : List Value) (hy : a.eval y = .agg cs.toArray) (t : TypeId) (hold : old.length = cs.length) (h1 : ∀ v ∈ cs, v.oneCell' = true) (hi : (P.info? ty).map (·.size) = some cs.length)
    (h : wpList P ops Q rest a (W.alloc (.cells cs.toArray t))) : wpList P ops Q (o :: rest) a (W.alloc (.cells old.toArray t)) := by
  refine wl_store ty x y ho hn W.heap.size 0 hx hw [] cs old [] hy t (by simpa using top_obj W (.cells old.toArray t)) rfl hold h1 hi ?_
  have e := setRow_top W old.toArray cs.toArray t
  simp only [List.nil_append, List.append_nil]
  rw [e]
  exact h
theorem one_dg (d : List UInt8) : ∀ v ∈ dg d, v.oneCell' = true := by
  intro v hv; simp only [dg, List.mem_map] at hv; obtain ⟨x, -, rfl⟩ := hv; rfl
theorem one_pen (p : Pen) : ∀ v ∈ penC p, v.oneCell' = true := by
  intro v hv
  simp only [penC, List.mem_append, List.mem_cons, List.not_mem_nil, or_false] at hv
  rcases hv with (rfl | rfl | rfl | rfl) | hv | hv
  · rfl
  · rfl
  · rfl
  · rfl
  · exact one_dg _ v hv
  · exact one_dg _ v hv
theorem guardPen : Tryz.prog.eqGuardType Tryz.prog.depth 113 = false := by kernel_rfl
theorem sizeSub : (Tryz.prog.info? 25).map (·.size) = some 68 := by kernel_rfl
theorem sizePen : (Tryz.prog.info? 113).map (·.size) = some 68 := by kernel_rfl
theorem sizeRep : (Tryz.prog.info? 28).map (·.size) = some 103 := by kernel_rfl
theorem sizeBlo : (Tryz.prog.info? 30).map (·.size) = some 35 := by kernel_rfl
theorem sizeMsg : (Tryz.prog.info? 33).map (·.size) = some 275 := by kernel_rfl

/-- A list of numbers in memory. -/
def IntsAt (w : World) (v : Value) (ks : List Int) : Prop := ∃ a cap, v = .slice a ks.length cap ∧ (ks ≠ [] → ∃ b off, a = some ⟨b, off, none⟩ ∧ ∀ j, j < ks.length → w.cell? ⟨b, off + j, none⟩ = some (nu (ks.getD j 0)))
theorem IntsAt.kept {w w' : World} {v : Value} {ks : List Int} (h : IntsAt w v ks) (hb : Below w.heap.size w w') : IntsAt w' v ks := by
  obtain ⟨a, cap, rfl, hc⟩ := h
  refine ⟨a, cap, rfl, fun hne => ?_⟩
  obtain ⟨b, off, rfl, hj⟩ := hc hne
  exact ⟨b, off, rfl, fun j h => (hb.cell (p := ⟨b, off + j, none⟩) (World.block_lt_of_cell? w _ (hj j h))).trans (hj j h)⟩
theorem IntsAt.nil (w : World) : IntsAt w (.slice none 0 0) [] := ⟨none, 0, rfl, fun h => absurd rfl h⟩
def noPen : Pen := ⟨0, 0, 0, 0, [], []⟩
/-- A list of what is pending in memory: 68 cells each. -/
def PensAt (w : World) (v : Value) (ps : List Pen) : Prop := ∃ a cap, v = .slice a ps.length cap ∧ (ps ≠ [] → ∃ b off, a = some ⟨b, off, none⟩ ∧ ∀ j, j < ps.length → ∀ i c, (penC (ps.getD j noPen))[i]? = some c → w.cell? ⟨b, off + j * 68 + i, none⟩ = some c)
theorem PensAt.kept {w w' : World} {v : Value} {ps : List Pen} (h : PensAt w v ps) (hb : Below w.heap.size w w') : PensAt w' v ps := by
  obtain ⟨a, cap, rfl, hc⟩ := h
  refine ⟨a, cap, rfl, fun hne => ?_⟩
  obtain ⟨b, off, rfl, hj⟩ := hc hne
  exact ⟨b, off, rfl, fun j h i c hi => (hb.cell (p := ⟨b, off + j * 68 + i, none⟩) (World.block_lt_of_cell? w _ (hj j h i c hi))).trans (hj j h i c hi)⟩
theorem PensAt.nil (w : World) : PensAt w (.slice none 0 0) [] := ⟨none, 0, rfl, fun h => absurd rfl h⟩

set_option maxHeartbeats 2000000 in
theorem within_any (n a b : Int) (w : World) : Calls Tryz.prog 43 #[nu n, nu a, nu b] w fun e w' => e = .returned (.bool (decide (a ≤ n) && decide (n ≤ b))) ∧ w' = w := by
  by_cases h : a ≤ n
  · have d1 : decide (a ≤ n) = true := decide_eq_true h
    rw [d1, Bool.true_and]
    clear h
    go_enter Tryz.func43, Tryz.ntmps43
    go_wp2
    go_ret
    exact ⟨rfl, rfl⟩
  · have d1 : decide (a ≤ n) = false := decide_eq_false h
    rw [d1, Bool.false_and]
    clear h
    go_enter Tryz.func43, Tryz.ntmps43
    go_wp2
    go_ret
    exact ⟨rfl, rfl⟩
end Go.Proofs.YtidlgecognedlaaGreatDoor.Ms
