/-
  What a call leaves as it was; loads, stores and lists of numbers. Out of the texts of stages 10 and 11.
-/
import Derived.Test.YtkjgiidmajjonaaChecked
import Derived.WalkKit
import Derived.DeepKeys
import Derived.Laws.StructEq
import Derived.Laws.Rows
import Derived.Laws.CopyRow
import Derived.Laws.AppendOwn
import Derived.Laws.EntriesVeiled
import Derived.Below
import Derived.BigQuiet
import Derived.Lib.QuietBelow
import Derived.Deep.CutBlock
import Derived.Deep.CutRange
import Derived.Lib.SmallJoins
import Derived.Sort.Grow
import Derived.Maps.AppendAt
import Derived.Great.BuildSlice
import Derived.OwnWalk
import Derived.Orders
import Derived.Deep.RegionHeld3
namespace Go.Proofs.Ytkjgiidmajjonaa.Kn
open Go Go.RowKit
set_option maxRecDepth 100000

/-- A byte as the model's byc, and as a cell. -/
def bv (c : UInt8) : Int := (c.toNat : Int)
abbrev cb (c : UInt8) : Value := .int .u8 (bv c)
def dg (d : List UInt8) : List Value := d.map cb
abbrev st (s : List UInt8) : Value := .string ⟨s.toArray⟩
abbrev nu (n : Int) : Value := .int .i64 n
abbrev pt (g off : Nat) : Value := .pointer (some ⟨g, off, none⟩)
theorem dg_len (d : List UInt8) : (dg d).length = d.length := by simp [dg]
/-! ### What holds of every store -/
/-! ### Numbers, rising -/
theorem heap_old1 (w : World) (o : Obj) (i : Nat) (h : i < w.heap.size) : (w.alloc o).heap[i]? = w.heap[i]? := by
  show (w.heap.push o)[i]? = w.heap[i]?
  rw [Array.getElem?_push, if_neg (Nat.ne_of_lt h)]

theorem mid_at {α : Type} (A cs C : List α) (off j : Nat) (v : α) (hA : A.length = off) (hj : cs[j]? = some v) : (A ++ (cs ++ C))[off + j]? = some v := by
  subst hA
  rw [List.getElem?_append_right (by omega)]
  have hl := (List.getElem?_eq_some_iff.1 hj).1
  rw [show A.length + j - A.length = j by omega, List.getElem?_append_left hl]
  exact hj
/-- Nothing but the blocks X has changed of what there was. -/
structure Kp (X : List Nat) (w w' : World) : Prop where
  os : w'.os = w.os
  tape : w'.tape = w.tape
  output : w'.output = w.output
  size : w.heap.size ≤ w'.heap.size
  block : ∀ k, k < w.heap.size → k ∉ X → w'.heap[k]? = w.heap[k]?

theorem Kp.refl (X : List Nat) (w : World) : Kp X w w := ⟨rfl, rfl, rfl, Nat.le_refl _, fun _ _ _ => rfl⟩
theorem Kp.trans {X : List Nat} {a b c : World} (h : Kp X a b) (k : Kp X b c) : Kp X a c :=
  ⟨k.os.trans h.os, k.tape.trans h.tape, k.output.trans h.output, Nat.le_trans h.size k.size, fun i hi hp => (k.block i (Nat.lt_of_lt_of_le hi h.size) hp).trans (h.block i hi hp)⟩
theorem Kp.drop {X Y : List Nat} {w w' : World} (h : Kp X w w') (hX : ∀ x ∈ X, x ∈ Y ∨ w.heap.size ≤ x) : Kp Y w w' :=
  ⟨h.os, h.tape, h.output, h.size, fun k hk hp => h.block k hk (fun hx => by rcases hX k hx with e | e; exact hp e; omega)⟩
theorem Kp.of {X : List Nat} {w w' : World} (h : Below w.heap.size w w') : Kp X w w' := ⟨h.os, h.tape, h.output, h.size, fun k hk _ => h.block k hk⟩
theorem Kp.below {X : List Nat} {B : Nat} {w w' : World} (h : Kp X w w') (h1 : ∀ x ∈ X, B ≤ x) (h2 : B ≤ w.heap.size) : Below B w w' :=
  ⟨h.os, h.tape, h.output, h.size, fun k hk => h.block k (by omega) (fun hx => by have := h1 k hx; omega)⟩
theorem Kp.setRow {X : List Nat} {a w : World} (h : Kp X a w) (g : Nat) (cs : Array Value) (hg : g ∈ X ∨ a.heap.size ≤ g) : Kp X a (w.setRow g cs) := by
  refine ⟨h.os, h.tape, h.output, by simpa using h.size, fun k hk hx => ?_⟩
  rw [← h.block k hk hx]
  refine setRow_other w g k cs ?_
  rintro rfl
  rcases hg with e | e
  · exact hx e
  · omega
theorem Kp.setCell {X : List Nat} {a w : World} (h : Kp X a w) (p : Addr) (v : Value) (hg : p.block ∈ X ∨ a.heap.size ≤ p.block) : Kp X a (w.setCell p v) := by
  refine ⟨h.os, h.tape, h.output, by simpa [World.setCell] using h.size, fun k hk hx => ?_⟩
  rw [← h.block k hk hx]
  refine heap_setCell_other w p k v ?_
  rintro rfl
  rcases hg with e | e
  · exact hx e
  · omega
theorem Kp.drewN {X : List Nat} {a w : World} (h : Kp X a w) (n : Nat) : Kp X a (w.drewN n) := ⟨h.os, h.tape, h.output, h.size, h.block⟩
theorem Kp.drew {X : List Nat} {a w : World} (h : Kp X a w) : Kp X a w.drew := ⟨h.os, h.tape, h.output, h.size, h.block⟩
theorem Kp.alloc {X : List Nat} {a w : World} (h : Kp X a w) (o : Obj) : Kp X a (w.alloc o) :=
  ⟨h.os, h.tape, h.output, by have := h.size; simp; omega, fun k hk hx => (heap_old1 w o k (by have := h.size; omega)).trans (h.block k hk hx)⟩
theorem Kp.row {X : List Nat} {w w' : World} (h : Kp X w w') {k : Nat} {o : Obj} (hr : w.heap[k]? = some o) (hk : k ∉ X) : w'.heap[k]? = some o :=
  (h.block k (Array.getElem?_eq_some_iff.1 hr).1 hk).trans hr
theorem Kp.grown {X : List Nat} {a w w' : World} {row : Option Nat} (h : Kp X a w) (hg : w.grownBy w' row) (hr : ∀ k, row = some k → k ∈ X ∨ a.heap.size ≤ k) : Kp X a w' :=
  ⟨hg.os.trans h.os, hg.tape.trans h.tape, hg.output.trans h.output, Nat.le_trans h.size hg.size, fun k hk hx => (hg.block k (by have := h.size; omega) (fun e => by rcases hr k e.symm with q | q; exact hx q; omega)).trans (h.block k hk hx)⟩
theorem row_lt {w : World} {k : Nat} {o : Obj} (hr : w.heap[k]? = some o) : k < w.heap.size := (Array.getElem?_eq_some_iff.1 hr).1
theorem row_kept {w w' : World} {k : Nat} {o : Obj} (hr : w.heap[k]? = some o) (hb : Below w.heap.size w w') : w'.heap[k]? = some o := (hb.block k (row_lt hr)).trans hr

theorem bv_eq (a b : UInt8) : (bv a == bv b) = decide (a = b) := by
  unfold bv
  by_cases h : a = b
  · subst h; simp
  · have : ¬ a.toNat = b.toNat := fun e => h (UInt8.toNat_inj.1 e)
    simp [h]; omega
theorem cb_at (b : List UInt8) (i : Nat) (hi : i < b.length) : (dg b)[i]? = some (.int .u8 (bv (b.getD i 0))) := by
  simp [dg, List.getD, cb, List.getElem?_eq_getElem hi]
theorem eqItems_bytes {P : Program} (w : World) (e : TypeId) (k : IntKind) (he : P.underlying e = some (.int k)) (x y : List UInt8) (d : Nat) : ∀ is : List Nat, (∀ i ∈ is, i < x.length ∧ i < y.length) →
    (Op.eqItems (d + 1) e 1 (dg x).toArray (dg y).toArray is).run P w = .ok (decide (∀ i ∈ is, x.getD i 0 = y.getD i 0)) w
  | [], _ => by simp [Op.eqItems]
  | i :: is, h => by
    have hx : ((dg x).toArray)[i * 1]? = some (.int .u8 (bv (x.getD i 0))) := by
      rw [Nat.mul_one, List.getElem?_toArray]; exact cb_at x i (h i (by simp)).1
    have hy : ((dg y).toArray)[i * 1]? = some (.int .u8 (bv (y.getD i 0))) := by
      rw [Nat.mul_one, List.getElem?_toArray]; exact cb_at y i (h i (by simp)).2
    have hagg : (isAgg e).run P w = .ok false w := by
      unfold isAgg
      rw [Sem.run_bind, run_underlying he w]
      simp
    have px : (part e (dg x).toArray (i * 1)).run P w = .ok (.int .u8 (bv (x.getD i 0))) w := by
      unfold part
      rw [Sem.run_bind, hagg]
      simp only [Result.andThen_ok, Bool.false_eq_true, if_false, hx, Sem.run_pure]
    have py : (part e (dg y).toArray (i * 1)).run P w = .ok (.int .u8 (bv (y.getD i 0))) w := by
      unfold part
      rw [Sem.run_bind, hagg]
      simp only [Result.andThen_ok, Bool.false_eq_true, if_false, hy, Sem.run_pure]
    have pe : (Op.equalIn (d + 1) e (.int .u8 (bv (x.getD i 0))) (.int .u8 (bv (y.getD i 0)))).run P w = .ok (decide (x.getD i 0 = y.getD i 0)) w := by
      unfold Op.equalIn
      rw [Sem.run_bind, run_underlying he w]
      simp only [Result.andThen_ok, if_true, Sem.run_pure, bv_eq]
    have ih := eqItems_bytes w e k he x y d is (fun j hj => h j (by simp [hj]))
    unfold Op.eqItems
    simp only [Sem.run_bind, px, py, pe, Result.andThen_ok]
    by_cases hh : x.getD i 0 = y.getD i 0
    · simp only [hh, decide_true, Bool.not_true, Bool.false_eq_true, if_false, ih, List.forall_mem_cons, true_and]
    · simp only [hh, decide_false, Bool.not_false, if_true, List.forall_mem_cons, false_and, Sem.run_pure]
theorem same_all (x y : List UInt8) (n : Nat) (hx : x.length = n) (hy : y.length = n) : (∀ i ∈ List.range n, x.getD i 0 = y.getD i 0) ↔ x = y := by
  constructor
  · intro h
    apply List.ext_getElem (by omega)
    intro i h1 h2
    have := h i (by simp; omega)
    simpa [List.getD, List.getElem?_eq_getElem h1, List.getElem?_eq_getElem h2] using this
  · rintro rfl i _; rfl
/-! ### Parts of a row -/
theorem part_cell {P : Program} (w : World) (t : TypeId) (d : TypeDesc) (cs : Array Value) (off : Nat) (v : Value) (hu : P.underlying t = some d) (hd : (match d with | .struct _ | .array _ _ => true | _ => false) = false) (hv : cs[off]? = some v) :
    (part t cs off).run P w = .ok v w := by
  have hagg : (isAgg t).run P w = .ok false w := by
    unfold isAgg
    rw [Sem.run_bind, run_underlying hu w]
    cases d <;> simp_all
  unfold part
  rw [Sem.run_bind, hagg]
  simp only [Result.andThen_ok, Bool.false_eq_true, if_false, hv, Sem.run_pure]
theorem part_seg {P : Program} (w : World) (t : TypeId) (d : TypeDesc) (A cs C : List Value) (off : Nat) (hA : A.length = off) (hu : P.underlying t = some d) (hd : (match d with | .struct _ | .array _ _ => true | _ => false) = true) (hs : (P.info? t).map (·.size) = some cs.length) :
    (part t (A ++ (cs ++ C)).toArray off).run P w = .ok (.agg cs.toArray) w := by
  have hagg : (isAgg t).run P w = .ok true w := by
    unfold isAgg
    rw [Sem.run_bind, run_underlying hu w]
    cases d <;> simp_all
  cases hq : P.info? t with
  | none => simp [hq] at hs
  | some i =>
    have hi : i.size = cs.length := by simpa [hq] using hs
    unfold part
    rw [Sem.run_bind, hagg]
    simp only [Result.andThen_ok, if_true, Sem.run_bind, sizeOf, typeInfo]
    simp [hq, hi]
    subst hA
    simp
/-- A struct's fields, one behind the other: what '==' answers on each. -/
def EachEq (P : Program) (w : World) (d : Nat) (xs ys : Array Value) : List Field → List Bool → Prop
  | [], [] => True
  | f :: fs, b :: bs => (f.name ≠ "_" ∧ ∃ a c, (part f.type xs f.offset).run P w = .ok a w ∧ (part f.type ys f.offset).run P w = .ok c w ∧ (Op.equalIn d f.type a c).run P w = .ok b w) ∧ EachEq P w d xs ys fs bs
  | _, _ => False
theorem eqFields_run {P : Program} (w : World) (d : Nat) (xs ys : Array Value) : ∀ (fs : List Field) (bs : List Bool), EachEq P w d xs ys fs bs → (Op.eqFields d xs ys fs).run P w = .ok (bs.all id) w
  | [], [], _ => by simp [Op.eqFields]
  | [], _ :: _, h => h.elim
  | _ :: _, [], h => h.elim
  | f :: fs, b :: bs, ⟨⟨hn, a, c, h1, h2, h3⟩, ht⟩ => by
    have ih := eqFields_run w d xs ys fs bs ht
    unfold Op.eqFields
    rw [if_pos hn]
    simp only [Sem.run_bind, h1, h2, h3, Result.andThen_ok]
    cases b
    · simp
    · simp [ih]
theorem part_int (w : World) (cs : List Value) (off : Nat) (n : Int) (h : cs[off]? = some (nu n)) : (part 3 cs.toArray off).run Try.prog w = .ok (nu n) w := part_cell w 3 _ _ off _ Try.underlying3 rfl (by simpa using h)
theorem part_str (w : World) (cs : List Value) (off : Nat) (s : List UInt8) (h : cs[off]? = some (st s)) : (part 9 cs.toArray off).run Try.prog w = .ok (st s) w := part_cell w 9 _ _ off _ Try.underlying9 rfl (by simpa using h)
theorem equalIn_int (w : World) (d : Nat) (a b : Int) : (Op.equalIn (d + 1) 3 (nu a) (nu b)).run Try.prog w = .ok (a == b) w := run_equalIn_int w d 3 _ _ a b Try.underlying3
theorem equalIn_str (w : World) (d : Nat) (a b : List UInt8) : (Op.equalIn (d + 1) 9 (st a) (st b)).run Try.prog w = .ok (a == b) w := by
  unfold st
  rw [run_equalIn_string w d 9 _ _ Try.underlying9, ByteArray.toList_eq, ByteArray.toList_eq]

theorem row_seg {w : World} {g : Nat} {L A cs C : List Value} {t : TypeId} {off : Nat} (h : w.heap[g]? = some (.cells L.toArray t)) (hL : L = A ++ (cs ++ C)) (hA : A.length = off) : ∀ j v, cs[j]? = some v → w.cell? ⟨g, off + j, none⟩ = some v := by
  intro j v hj
  rw [cell_of_row _ _ _ _ _ _ h, List.getElem?_toArray, hL]
  exact mid_at A cs C off j v hA hj
theorem row_cell {w : World} {g : Nat} {L A C : List Value} {v : Value} {t : TypeId} {off : Nat} (h : w.heap[g]? = some (.cells L.toArray t)) (hL : L = A ++ ([v] ++ C)) (hA : A.length = off) : w.cell? ⟨g, off, none⟩ = some v := row_seg h hL hA 0 v rfl


theorem hid {p : Prop} (h : p) : Hid p := h
theorem add_none (g o j : Nat) : (⟨g, o, none⟩ : Addr).add j = ⟨g, o + j, none⟩ := by unfold Addr.add; split <;> simp_all
theorem top_obj (W : World) (o : Obj) : (W.alloc o).heap[W.heap.size]? = some o := by show (W.heap.push o)[W.heap.size]? = _; simp
theorem below_two {w w1 w2 : World} (h1 : Below w.heap.size w w1) (h2 : Below w1.heap.size w1 w2) : Below w.heap.size w w2 := h1.trans (h2.mono h1.size)
theorem below_a1 (w : World) (o : Obj) : Below w.heap.size w (w.alloc o) := (Below.refl _ w).alloc (Nat.le_refl _) o

section
variable {P : Program} {ops : Array Oper} {rest : List Oper} {o : Oper} {a : Act} {w : World} {Q : Exit → Act → World → Prop}
/-- A load of a whole struct or array, its guard saying yes. -/
theorem wl_load (ty : TypeId) (x : Operand) (ho : o.op = .load ty x)
    (g off : Nat) (hx : a.eval x = .pointer (some ⟨g, off, none⟩)) (hw : Region.wanted o (yielded ops a.tmps) = true) (cs : List Value) (d : TypeDesc) (hc : ∀ j v, cs[j]? = some v → w.cell? ⟨g, off + j, none⟩ = some v)
    (hu : P.underlying ty = some d) (hd : (match d with | .struct _ | .array _ _ => true | _ => false) = true) (hi : (P.info? ty).map (·.size) = some cs.length)
    (h : wpList P ops Q rest (a.put o.dst (.agg cs.toArray)) w) : wpList P ops Q (o :: rest) a w := by
  refine BigFrame.wpList_want hw fun K hK => ?_
  have h' := hK _ _ h
  have hl : (loadCells ⟨g, off, none⟩ cs.length).run P w = .ok cs.toArray w :=
    run_loadCells_list (P := P) w ⟨g, off, none⟩ cs (fun j v hv => by rw [add_none]; exact hc j v hv)
  cases hq : P.info? ty with
  | none => simp [hq] at hi
  | some i =>
    have hs : i.size = cs.length := by simpa [hq] using hi
    have hagg : (isAgg ty).run P w = .ok true w := by
      unfold isAgg
      rw [Sem.run_bind, run_underlying hu w]
      cases d <;> simp_all
    unfold Oper.wp execOp
    simp [ho, hx, Instr.loadAt, Instr.sureAddr, Sem.run_bind, loadVar, hagg, sizeOf, typeInfo, hq, hs, hl]
    exact h'
/-- A new struct or array, with whatever zeros its type has. -/
theorem wl_alloc (ty : TypeId) (ho : o.op = .alloc ty) (hw : Region.wanted o (yielded ops a.tmps) = true) (z : Array Value) (hi : (P.info? ty).map (·.zero) = some (some (.agg z)))
    (h : wpList P ops Q rest (a.put o.dst (.pointer (some ⟨w.heap.size, 0, none⟩))) (w.alloc (.cells z ty))) : wpList P ops Q (o :: rest) a w := by
  refine BigFrame.wpList_want hw fun K hK => ?_
  have h' := hK _ _ h
  cases hq : P.info? ty with
  | none => simp [hq] at hi
  | some i =>
    have hz : i.zero = some (.agg z) := by simpa [hq] using hi
    unfold Oper.wp execOp
    simp [ho, Instr.alloc, zeroValue, typeInfo, hq, hz, newVar, newRow, newObj, Sem.run_bind, Value.cells]
    exact h'
/-- A store of a whole struct or array. -/
theorem wl_store (ty : TypeId) (x y : Operand) (ho : o.op = .store ty x y) (hn : o.dst = none)
    (g off : Nat) (hx : a.eval x = .pointer (some ⟨g, off, none⟩)) (hw : Region.wanted o (yielded ops a.tmps) = true) (A cs old C : List Value) (hy : a.eval y = .agg cs.toArray) (t : TypeId) (hg : w.heap[g]? = some (.cells (A ++ (old ++ C)).toArray t))
    (hA : A.length = off) (hold : old.length = cs.length) (h1 : ∀ v ∈ cs, v.oneCell' = true) (hi : (P.info? ty).map (·.size) = some cs.length)
    (h : wpList P ops Q rest a (w.setRow g (A ++ (cs ++ C)).toArray)) : wpList P ops Q (o :: rest) a w := by
  refine BigFrame.wpList_want hw fun K hK => ?_
  have e : ((A ++ (old ++ C)).toArray.toList.take off ++ cs ++ (A ++ (old ++ C)).toArray.toList.drop (off + cs.length)) = A ++ (cs ++ C) := by
    subst hA
    simp [← hold, List.append_assoc]
  have h' := hK _ _ h
  have hst := run_storeCells_at P g off t cs 0 (A ++ (old ++ C)).toArray w hg (by subst hA; simp; omega) h1
  rw [Nat.add_zero, e] at hst
  cases hq : P.info? ty with
  | none => simp [hq] at hi
  | some i =>
    have hs : i.size = cs.length := by simpa [hq] using hi
    unfold Oper.wp execOp
    simp [ho, hx, hy, Instr.storeAt, Instr.sureAddr, Sem.run_bind, storeVar, sizeOf, typeInfo, hq, hs, Value.cells]
    simp [hst]
    show K (a.put o.dst undef) _
    rw [hn]
    exact h'
end
section
variable {P : Program} {ops : Array Oper} {C : World → Prop} {Q : Act → Prop} {a : Act} {o : Oper} {rest : List Oper}
theorem wq_load (ty : TypeId) (x : Operand) (ho : o.op = .load ty x)
    (g off : Nat) (hx : a.eval x = .pointer (some ⟨g, off, none⟩)) (hw : Region.wanted o (yielded ops a.tmps) = true) (cs : List Value) (d : TypeDesc) (hc : ∀ w, C w → ∀ j v, cs[j]? = some v → w.cell? ⟨g, off + j, none⟩ = some v)
    (hu : P.underlying ty = some d) (hd : (match d with | .struct _ | .array _ _ => true | _ => false) = true) (hi : (P.info? ty).map (·.size) = some cs.length)
    (h : wpQuiet P ops C Q rest (a.put o.dst (.agg cs.toArray))) : wpQuiet P ops C Q (o :: rest) a := by
  unfold wpQuiet
  rw [if_pos hw]
  refine ⟨.agg cs.toArray, fun w hC => ?_, h⟩
  have hl : (loadCells ⟨g, off, none⟩ cs.length).run P w = .ok cs.toArray w :=
    run_loadCells_list (P := P) w ⟨g, off, none⟩ cs (fun j v hv => by rw [add_none]; exact hc w hC j v hv)
  cases hq : P.info? ty with
  | none => simp [hq] at hi
  | some i =>
    have hs : i.size = cs.length := by simpa [hq] using hi
    have hagg : (isAgg ty).run P w = .ok true w := by
      unfold isAgg
      rw [Sem.run_bind, run_underlying hu w]
      cases d <;> simp_all
    unfold Oper.quietAt execOp
    simp [ho, hx, Instr.loadAt, Instr.sureAddr, Sem.run_bind, loadVar, hagg, sizeOf, typeInfo, hq, hs, hl, Oper.quietUpon]
theorem wq_eql (hw : Region.wanted o (yielded ops a.tmps) = true) (ty rt : TypeId) (x y : Operand) (ho : o.op = .binOp .eql ty x y rt)
    (X Y : Array Value) (hx : a.eval x = .agg X) (hy : a.eval y = .agg Y) (hgt : P.eqGuardType P.depth ty = false) (B : Bool) (he : ∀ w, (Op.equalIn 10000 ty (.agg X) (.agg Y)).run P w = .ok B w)
    (h : wpQuiet P ops C Q rest (a.put o.dst (.bool B))) : wpQuiet P ops C Q (o :: rest) a := by
  unfold wpQuiet
  rw [if_pos hw]
  refine ⟨.bool B, fun w hC => ?_, h⟩
  have hq : ∀ w, (Op.equal ty (.agg X) (.agg Y)).run P w = .ok B w := he
  unfold Oper.quietAt execOp
  simp [ho, hx, hy, eqGuard, binOp, Sem.run_bind, hgt, hq, Oper.quietUpon]
theorem wq_neq (hw : Region.wanted o (yielded ops a.tmps) = true) (ty rt : TypeId) (x y : Operand) (ho : o.op = .binOp .neq ty x y rt)
    (X Y : Array Value) (hx : a.eval x = .agg X) (hy : a.eval y = .agg Y) (hgt : P.eqGuardType P.depth ty = false) (B : Bool) (he : ∀ w, (Op.equalIn 10000 ty (.agg X) (.agg Y)).run P w = .ok B w)
    (h : wpQuiet P ops C Q rest (a.put o.dst (.bool (!B)))) : wpQuiet P ops C Q (o :: rest) a := by
  unfold wpQuiet
  rw [if_pos hw]
  refine ⟨.bool (!B), fun w hC => ?_, h⟩
  have hq : ∀ w, (Op.equal ty (.agg X) (.agg Y)).run P w = .ok B w := he
  unfold Oper.quietAt execOp
  simp [ho, hx, hy, eqGuard, binOp, Sem.run_bind, hgt, hq, Oper.quietUpon]
end
theorem setRow_top (W : World) (cur cs : Array Value) (t : TypeId) : (W.alloc (.cells cur t)).setRow W.heap.size cs = W.alloc (.cells cs t) := by
  have e : ((W.alloc (.cells cur t)).setRow W.heap.size cs).heap = (W.alloc (.cells cs t)).heap := by
    apply Array.ext_getElem?
    intro i
    have hn : ∀ o : Obj, (W.alloc o).heap[W.heap.size]? = some o := fun o => by show (W.heap.push o)[W.heap.size]? = _; simp
    by_cases h : i = W.heap.size
    · subst h
      rw [setRow_heap _ _ cur cs t (0, 0) (hn _), hn]
    · rw [setRow_other _ _ _ _ h]
      show (W.heap.push _)[i]? = (W.heap.push _)[i]?
      rw [Array.getElem?_push, Array.getElem?_push, if_neg h, if_neg h]
  exact congrArg (fun hp => ({ W with heap := hp } : World)) e
/-- A store of a whole struct into a row that was made just now. -/
theorem wl_store_top {P : Program} {ops : Array Oper} {rest : List Oper} {o : Oper} {a : Act} {W : World} {Q : Exit → Act → World → Prop} (ty : TypeId) (x y : Operand) (ho : o.op = .store ty x y) (hn : o.dst = none) (hw : Region.wanted o (yielded ops a.tmps) = true)
    (hx : a.eval x = .pointer (some ⟨W.heap.size, 0, none⟩)) (cs old : List Value) (hy : a.eval y = .agg cs.toArray) (t : TypeId) (hold : old.length = cs.length) (h1 : ∀ v ∈ cs, v.oneCell' = true) (hi : (P.info? ty).map (·.size) = some cs.length)
    (h : wpList P ops Q rest a (W.alloc (.cells cs.toArray t))) : wpList P ops Q (o :: rest) a (W.alloc (.cells old.toArray t)) := by
  refine wl_store ty x y ho hn W.heap.size 0 hx hw [] cs old [] hy t (by simpa using top_obj W (.cells old.toArray t)) rfl hold h1 hi ?_
  have e := setRow_top W old.toArray cs.toArray t
  simp only [List.nil_append, List.append_nil]
  rw [e]
  exact h
theorem one_dg (d : List UInt8) : ∀ v ∈ dg d, v.oneCell' = true := by
  intro v hv; simp only [dg, List.mem_map] at hv; obtain ⟨x, -, rfl⟩ := hv; rfl

theorem row_set {w : World} {g off : Nat} {A C : List Value} {old v : Value} {t : TypeId} (h : w.heap[g]? = some (.cells (A ++ ([old] ++ C)).toArray t)) (hA : A.length = off) : (w.setCell ⟨g, off, none⟩ v).heap[g]? = some (.cells (A ++ ([v] ++ C)).toArray t) := by
  rw [heap_setCell_same w g off _ t v h]
  subst hA
  simp
section
variable {P : Program} {ops : Array Oper} {rest : List Oper} {o : Oper} {a : Act} {w : World} {Q : Exit → Act → World → Prop}
theorem wl_build (ty : TypeId) (ho : o.op = .build ty #[]) (hw : Region.wanted o (yielded ops a.tmps) = true) (z : Array Value) (hr : (Instr.build ty #[]).run P w = .ok (.agg z) w)
    (h : wpList P ops Q rest (a.put o.dst (.agg z)) w) : wpList P ops Q (o :: rest) a w := by
  refine BigFrame.wpList_want hw fun K hK => ?_
  have h' := hK _ _ h
  unfold Oper.wp execOp
  simp only [ho, List.map_toArray, List.map_nil, Sem.run_bind, hr, Result.andThen_ok, Sem.run_pure]
  exact h'
end
theorem results_row {P : Program} {fn : Func} {p : Tmp} {ty : TypeId} (h : fn.results = #[.cell p ty]) (tmps : Array Value) (w : World) (g : Nat) (t : TypeId) (cs : Array Value) (fr : Nat × Nat) (d : TypeDesc)
    (hp : tmps.getD p undef = .pointer (some ⟨g, 0, none⟩)) (hg : w.heap[g]? = some (.cells cs t fr))
    (hu : P.underlying ty = some d) (hd : (match d with | .struct _ | .array _ _ => true | _ => false) = true) (hi : (P.info? ty).map (·.size) = some cs.size) :
    (results fn tmps).run P w = .ok (.agg cs) w := by
  have hp' : tmps[p]?.getD undef = .pointer (some ⟨g, 0, none⟩) := by simpa using hp
  simp [results, h, hp', asAddr, run_loadVar_row w g t ty cs fr d hg hu hd hi]
/-- A list of numbers in memory. -/
def IntsAt (w : World) (v : Value) (ks : List Int) : Prop := ∃ a cap, v = .slice a ks.length cap ∧ (ks ≠ [] → ∃ b off, a = some ⟨b, off, none⟩ ∧ ∀ j, j < ks.length → w.cell? ⟨b, off + j, none⟩ = some (nu (ks.getD j 0)))
theorem IntsAt.kept {w w' : World} {v : Value} {ks : List Int} (h : IntsAt w v ks) (hb : Below w.heap.size w w') : IntsAt w' v ks := by
  obtain ⟨a, cap, rfl, hc⟩ := h
  refine ⟨a, cap, rfl, fun hne => ?_⟩
  obtain ⟨b, off, rfl, hj⟩ := hc hne
  exact ⟨b, off, rfl, fun j h => (hb.cell (p := ⟨b, off + j, none⟩) (World.block_lt_of_cell? w _ (hj j h))).trans (hj j h)⟩
theorem IntsAt.nil (w : World) : IntsAt w (.slice none 0 0) [] := ⟨none, 0, rfl, fun h => absurd rfl h⟩
/-- Nothing but the block b has changed of what there was. -/
structure But (b : Nat) (w w' : World) : Prop where
  os : w'.os = w.os
  tape : w'.tape = w.tape
  output : w'.output = w.output
  size : w'.heap.size = w.heap.size
  block : ∀ k, k ≠ b → w'.heap[k]? = w.heap[k]?
theorem But.below {b n : Nat} {a w w' : World} (h : But b w w') (h0 : Below n a w) (h1 : n ≤ b) : Below n a w' :=
  ⟨h.os.trans h0.os, h.tape.trans h0.tape, h.output.trans h0.output, by rw [h.size]; exact h0.size, fun k hk => (h.block k (by omega)).trans (h0.block k hk)⟩
theorem But.row {b k : Nat} {w w' : World} {o : Obj} (h : But b w w') (hr : w.heap[k]? = some o) (hk : k ≠ b) : w'.heap[k]? = some o := (h.block k hk).trans hr
theorem but_setRow (w : World) (g : Nat) (cs : Array Value) : But g w (w.setRow g cs) := ⟨rfl, rfl, rfl, by simp, fun k hk => setRow_other w g k cs hk⟩
theorem but_setCell (w : World) (b i : Nat) (v : Value) : But b w (w.setCell ⟨b, i, none⟩ v) := ⟨rfl, rfl, rfl, by simp [World.setCell], fun k hk => heap_setCell_other w ⟨b, i, none⟩ k v hk⟩
section
variable {P : Program} {ops : Array Oper} {rest : List Oper} {o : Oper} {a : Act} {w : World} {Q : Exit → Act → World → Prop}
/-- A store of a whole struct, and what it leaves. -/
theorem wl_put (ty : TypeId) (x y : Operand) (ho : o.op = .store ty x y) (hn : o.dst = none) (g off : Nat) (hx : a.eval x = .pointer (some ⟨g, off, none⟩)) (hw : Region.wanted o (yielded ops a.tmps) = true)
    (A cs old C : List Value) (hy : a.eval y = .agg cs.toArray) (t : TypeId) (hg : w.heap[g]? = some (.cells (A ++ (old ++ C)).toArray t)) (hA : A.length = off) (hold : old.length = cs.length) (h1 : ∀ v ∈ cs, v.oneCell' = true) (hi : (P.info? ty).map (·.size) = some cs.length)
    (h : ∀ w1, w1.heap[g]? = some (.cells (A ++ (cs ++ C)).toArray t) → But g w w1 → wpList P ops Q rest a w1) : wpList P ops Q (o :: rest) a w :=
  wl_store ty x y ho hn g off hx hw A cs old C hy t hg hA hold h1 hi (h _ (setRow_heap w g _ _ t (0, 0) hg) (but_setRow w g _))
end
theorem info_parts {P : Program} {t : TypeId} {z : Value} {s b : Nat} (h : (P.info? t).map (fun i => (i.zero, i.size, i.bytes)) = some (some z, s, b)) : ∃ i, P.info? t = some i ∧ i.zero = some z ∧ i.size = s ∧ i.bytes = b := by
  cases hq : P.info? t with
  | none => rw [hq] at h; simp at h
  | some i =>
    rw [hq] at h
    simp at h
    exact ⟨i, rfl, h.1, h.2.1, h.2.2⟩
def I64 (n : Int) : Prop := -9223372036854775808 ≤ n ∧ n < 9223372036854775808
theorem I64.wf {n : Int} (h : I64 n) : (Lit.int .i64 n).wf = true := WalkArith.wf_i64 ⟨h.1, by have := h.2; omega⟩
/-! ### Blobs back from an entry -/
section
variable {w w' : World} {g : Nat} {t : TypeId}
end

section
variable {P : Program} {ops : Array Oper} {rest : List Oper} {o : Oper} {a : Act} {w : World} {Q : Exit → Act → World → Prop}
/-- A new struct, a store of a whole struct, a comparison of two: each with what it leaves. -/
theorem wl_allocK (ty : TypeId) (ho : o.op = .alloc ty) (hw : Region.wanted o (yielded ops a.tmps) = true) (z : Array Value) (hi : (P.info? ty).map (·.zero) = some (some (.agg z)))
    (h : ∀ w1, w1.heap[w.heap.size]? = some (.cells z ty) → Below w.heap.size w w1 → w1.heap.size = w.heap.size + 1 → wpList P ops Q rest (a.put o.dst (pt w.heap.size 0)) w1) : wpList P ops Q (o :: rest) a w :=
  wl_alloc ty ho hw z hi (h _ (top_obj _ _) (below_a1 _ _) (by simp))
theorem wl_putK (ty : TypeId) (x y : Operand) (ho : o.op = .store ty x y) (hn : o.dst = none) (g : Nat) (hx : a.eval x = pt g 0) (hw : Region.wanted o (yielded ops a.tmps) = true)
    (cs old : List Value) (hy : a.eval y = .agg cs.toArray) (t : TypeId) (hg : w.heap[g]? = some (.cells old.toArray t)) (hold : old.length = cs.length) (h1 : ∀ v ∈ cs, v.oneCell' = true) (hi : (P.info? ty).map (·.size) = some cs.length)
    (h : ∀ w1, w1.heap[g]? = some (.cells cs.toArray t) → Kp [g] w w1 → w1.heap.size = w.heap.size → wpList P ops Q rest a w1) : wpList P ops Q (o :: rest) a w := by
  refine wl_store ty x y ho hn g 0 hx hw [] cs old [] hy t (by simpa using hg) rfl hold h1 hi ?_
  simp only [List.nil_append, List.append_nil]
  exact h _ (setRow_heap w g _ _ t (0, 0) hg) ((Kp.refl _ _).setRow g _ (Or.inl (by simp))) (by simp)
theorem wl_eql (hw : Region.wanted o (yielded ops a.tmps) = true) (ty rt : TypeId) (x y : Operand) (ho : o.op = .binOp .eql ty x y rt)
    (X Y : Array Value) (hx : a.eval x = .agg X) (hy : a.eval y = .agg Y) (hgt : P.eqGuardType P.depth ty = false) (B : Bool) (he : ∀ w, (Op.equalIn 10000 ty (.agg X) (.agg Y)).run P w = .ok B w)
    (h : wpList P ops Q rest (a.put o.dst (.bool B)) w) : wpList P ops Q (o :: rest) a w := by
  refine BigFrame.wpList_want hw fun K hK => ?_
  have h' := hK _ _ h
  have hq : ∀ w, (Op.equal ty (.agg X) (.agg Y)).run P w = .ok B w := he
  unfold Oper.wp execOp
  simp [ho, hx, hy, eqGuard, binOp, Sem.run_bind, hgt, hq]
  exact h'
theorem wl_neq (hw : Region.wanted o (yielded ops a.tmps) = true) (ty rt : TypeId) (x y : Operand) (ho : o.op = .binOp .neq ty x y rt)
    (X Y : Array Value) (hx : a.eval x = .agg X) (hy : a.eval y = .agg Y) (hgt : P.eqGuardType P.depth ty = false) (B : Bool) (he : ∀ w, (Op.equalIn 10000 ty (.agg X) (.agg Y)).run P w = .ok B w)
    (h : wpList P ops Q rest (a.put o.dst (.bool (!B))) w) : wpList P ops Q (o :: rest) a w := by
  refine BigFrame.wpList_want hw fun K hK => ?_
  have h' := hK _ _ h
  have hq : ∀ w, (Op.equal ty (.agg X) (.agg Y)).run P w = .ok B w := he
  unfold Oper.wp execOp
  simp [ho, hx, hy, eqGuard, binOp, Sem.run_bind, hgt, hq]
  exact h'
end
/-! ### Prune -/
theorem IntsAt.kp {w w' : World} {v : Value} {ks : List Int} {X : List Nat} (h : IntsAt w v ks) (hk : Kp X w w') (hX : ∀ x ∈ X, ∀ j z, w.cell? ⟨x, j, none⟩ ≠ some (nu z)) : IntsAt w' v ks := by
  obtain ⟨a, cap, rfl, hc⟩ := h
  refine ⟨a, cap, rfl, fun hne => ?_⟩
  obtain ⟨b, off, rfl, hj⟩ := hc hne
  refine ⟨b, off, rfl, fun j hl => ?_⟩
  have h1 := hj j hl
  have hlt : b < w.heap.size := World.block_lt_of_cell? w _ h1
  have hb : b ∉ X := fun hx => hX b hx _ _ h1
  rw [← h1]
  unfold World.cell?
  simp only [hk.block b hlt hb]
theorem IntsAt.at {w : World} {a : Option Addr} {cap : Nat} {ks : List Int} (h : IntsAt w (.slice a ks.length cap) ks) {j : Nat} (hj : j < ks.length) : ∃ b off, a = some ⟨b, off, none⟩ ∧ w.cell? ⟨b, off + j, none⟩ = some (nu (ks.getD j 0)) := by
  obtain ⟨a', cap', e, hc⟩ := h
  cases e
  obtain ⟨b, off, rfl, h1⟩ := hc (by intro e0; rw [e0] at hj; simp at hj)
  exact ⟨b, off, rfl, h1 j hj⟩

theorem info3 : (Try.prog.info? 3).map (fun i => (i.zero, i.size, i.bytes)) = some (some (.int .i64 0), 1, 8) := by kernel_rfl
/-- One cell more, of whatever type, behind a row of one's own. -/
theorem wpList_push {W : World} {ops : Array Oper} {rest : List Oper} {o : Oper} {a : Act} {Q : Exit → Act → World → Prop} (hgd : o.guard = none) (s x : Operand) (t e : TypeId)
    (ho : o.op = .call { callee := .builtin .append, args := #[s, x], argTypes := #[t, t] }) (z : Value) (by' : Nat) (ht : Try.prog.underlying t = some (.slice e)) (hinfo : (Try.prog.info? e).map (fun i => (i.zero, i.size, i.bytes)) = some (some z, 1, by'))
    (hzs : z.cells.size = 1) (hby : by' ≤ 16) (base : Nat) (v u : Value) (n : Nat) (xs : List Value) (hs : a.eval s = v) (hx : a.eval x = .slice (some ⟨W.heap.size, 0, none⟩) 1 1) (hown : W.ownsRow base e 1 v n xs) (h1 : u.oneCell' = true)
    (hn : n < 1000000) (hbase : base ≤ W.heap.size)
    (h : ∀ v' w', w'.ownsRow base e 1 v' (n + 1) (xs ++ [u]) → (W.alloc (.cells #[u] e)).grownBy w' v.ownBlock → (v'.ownBlock = v.ownBlock ∨ v'.ownBlock = some (W.heap.size + 1)) → wpList Try.prog ops Q rest (a.put o.dst v') w') :
    wpList Try.prog ops Q (o :: rest) a (W.alloc (.cells #[u] e)) := by
  obtain ⟨i, hi, hz0, hz1, hz2⟩ := info_parts hinfo
  refine wpList_append_own_at (W.alloc (.cells #[u] e)) hgd s x t ho base e i z 1 by' ht hi hz0 hz1 hz2 hzs (by decide) v n xs hs (hown.alloc _) ⟨W.heap.size, 0, none⟩ 1 1 [u] hx rfl (cell_one_new _ _ _) (fun y hy => by simp at hy; subst hy; exact h1) (by unfold maxLen; omega) ?_ (by simp; omega) (fun v' w' g1 g2 _ g4 => h v' w' g1 g2 (by simpa using g4))
  have := Nat.mul_le_mul (show n + 1 ≤ 1000000 by omega) hby
  omega
theorem own_ge {w : World} {base e size n : Nat} {v : Value} {xs : List Value} (h : w.ownsRow base e size v n xs) : ∀ k, v.ownBlock = some k → base ≤ k := by
  intro k hk
  rcases h.2 with ⟨rfl, -⟩ | ⟨g, cap, cur, rfl, hg, -⟩
  · cases hk
  · cases hk
    exact hg
def ic (l : List Int) : List Value := l.map nu
theorem ints_of {w : World} {base : Nat} {v : Value} {l : List Int} (h : w.ownsRow base 3 1 v l.length (ic l)) : IntsAt w v l := by
  have hc : ∀ {g : Nat}, v.ownBlock = some g → _ := fun {g} hg => h.cells (g := g) hg
  rcases h.2 with ⟨rfl, h0⟩ | ⟨g, cap, cur, rfl, hb, hg, hl, -⟩
  · have : l = [] := List.eq_nil_of_length_eq_zero h0
    subst this
    exact IntsAt.nil w
  · refine ⟨some ⟨g, 0, none⟩, cap, rfl, fun _ => ⟨g, 0, rfl, fun j hj => ?_⟩⟩
    have := hc (g := g) rfl j (nu (l.getD j 0)) (by
      unfold ic
      rw [List.getElem?_map, List.getElem?_eq_getElem hj]
      simp [List.getD, List.getElem?_eq_getElem hj])
    rw [add_none] at this
    exact this
theorem own_same {w w' : World} {base e size n : Nat} {v : Value} {xs : List Value} (h : w.ownsRow base e size v n xs) (hb : ∀ k, v.ownBlock = some k → w'.heap[k]? = w.heap[k]?) : w'.ownsRow base e size v n xs := by
  refine ⟨h.1, ?_⟩
  rcases h.2 with h0 | ⟨g, cap, cur, rfl, h1, h2, h3⟩
  · exact Or.inl h0
  · exact Or.inr ⟨g, cap, cur, rfl, h1, (hb g rfl).trans h2, h3⟩
theorem own_lt {w : World} {base e size n : Nat} {v : Value} {xs : List Value} (h : w.ownsRow base e size v n xs) : ∀ k, v.ownBlock = some k → k < w.heap.size := by
  intro k hk
  rcases h.2 with ⟨rfl, -⟩ | ⟨g, cap, cur, rfl, hg, h2, -⟩
  · cases hk
  · cases hk
    exact row_lt h2
theorem own_kept {w w' : World} {base e size n : Nat} {v : Value} {xs : List Value} (h : w.ownsRow base e size v n xs) (hb : Below w.heap.size w w') : w'.ownsRow base e size v n xs := own_same h (fun k hk => hb.block k (own_lt h k hk))
theorem own_kp {w w' : World} {base e size n : Nat} {v : Value} {xs : List Value} {X : List Nat} (h : w.ownsRow base e size v n xs) (hb : Kp X w w') (hX : ∀ x ∈ X, x < base) : w'.ownsRow base e size v n xs :=
  own_same h (fun k hk => hb.block k (own_lt h k hk) (fun hx => by have := hX k hx; have := own_ge h k hk; omega))

section
variable {w w' : World} {r : Nat} {v : Value}
end
theorem own_empty (w : World) (base e size : Nat) (h : base ≤ w.heap.size) : (w.alloc (.cells #[] e)).ownsRow base e size (.slice (some ⟨w.heap.size, 0, none⟩) 0 0) 0 [] :=
  ⟨by simp, Or.inr ⟨w.heap.size, 0, #[], rfl, h, top_obj w _, Nat.le_refl _, by unfold maxLen; omega, by simp, by simp⟩⟩
theorem own_zero {w : World} {base e size n : Nat} {v : Value} {xs : List Value} (h : w.ownsRow base e size v n xs) : w.ownsRow 0 e size v n xs := by
  refine ⟨h.1, ?_⟩
  rcases h.2 with h0 | ⟨g, cap, cur, h1, -, h3⟩
  · exact Or.inl h0
  · exact Or.inr ⟨g, cap, cur, h1, Nat.zero_le _, h3⟩
theorem own_none {w : World} {base e size g : Nat} (hg : base ≤ g) (h : w.heap[g]? = some (.cells #[] e)) : w.ownsRow base e size (.slice (some ⟨g, 0, none⟩) 0 0) 0 [] :=
  ⟨by simp, Or.inr ⟨g, 0, #[], rfl, hg, h, Nat.le_refl _, by unfold maxLen; omega, by simp, by simp⟩⟩
theorem own_slice {w : World} {base e size n : Nat} {v : Value} {xs : List Value} (h : w.ownsRow base e size v n xs) : v.oneCell' = true := by
  rcases h.2 with ⟨rfl, -⟩ | ⟨g, cap, cur, rfl, -⟩ <;> rfl
/-- A list of one's own has changed: what of other blocks was there stands. -/
theorem below_grown {B : Nat} {w0 w w' : World} {row : Option Nat} (h : Below B w0 w) (hg : w.grownBy w' row) (hr : ∀ k, row = some k → B ≤ k) (hB : B ≤ w.heap.size) : Below B w0 w' := h.grown hg hB hr
section
variable {P : Program} {ops : Array Oper} {rest : List Oper} {o : Oper} {a : Act} {w : World} {Q : Exit → Act → World → Prop}
theorem wl_buildY (ty : TypeId) (l : List (Nat × Operand)) (ho : o.op = .build ty l.toArray) (hw : Region.wanted o (yielded ops a.tmps) = true) (z : Array Value) (hr : (Instr.build ty (l.map fun x => (x.1, a.eval x.2)).toArray).run P w = .ok (.agg z) w)
    (h : wpList P ops Q rest (a.put o.dst (.agg z)) w) : wpList P ops Q (o :: rest) a w := by
  refine BigFrame.wpList_want hw fun K hK => ?_
  have h' := hK _ _ h
  unfold Oper.wp execOp
  simp only [ho, List.map_toArray, Sem.run_bind, hr, Result.andThen_ok, Sem.run_pure]
  exact h'
end
theorem results_ctY {P : Program} {fn : Func} {p u : Tmp} {ty : TypeId} (h : fn.results = #[.cell p ty, .tmp u]) (tmps : Array Value) (w : World) (g : Nat) (t : TypeId) (cs : Array Value) (fr : Nat × Nat) (d : TypeDesc)
    (hp : tmps.getD p undef = .pointer (some ⟨g, 0, none⟩)) (hg : w.heap[g]? = some (.cells cs t fr))
    (hu : P.underlying ty = some d) (hd : (match d with | .struct _ | .array _ _ => true | _ => false) = true) (hi : (P.info? ty).map (·.size) = some cs.size) :
    (results fn tmps).run P w = .ok (.tuple #[.agg cs, tmps.getD u undef]) w := by
  have hp' : tmps[p]?.getD undef = .pointer (some ⟨g, 0, none⟩) := by simpa using hp
  simp [results, h, hp', asAddr, run_loadVar_row w g t ty cs fr d hg hu hd hi]
theorem results_cY {P : Program} {fn : Func} {p : Tmp} {ty : TypeId} (h : fn.results = #[.cell p ty]) (tmps : Array Value) (w : World) (g : Nat) (t : TypeId) (cs : Array Value) (fr : Nat × Nat) (d : TypeDesc)
    (hp : tmps.getD p undef = .pointer (some ⟨g, 0, none⟩)) (hg : w.heap[g]? = some (.cells cs t fr))
    (hu : P.underlying ty = some d) (hd : (match d with | .struct _ | .array _ _ => true | _ => false) = true) (hi : (P.info? ty).map (·.size) = some cs.size) :
    (results fn tmps).run P w = .ok (.agg cs) w := by
  have hp' : tmps[p]?.getD undef = .pointer (some ⟨g, 0, none⟩) := by simpa using hp
  simp [results, h, hp', asAddr, run_loadVar_row w g t ty cs fr d hg hu hd hi]
theorem row_nilY {w : World} {g : Nat} {L : List Value} {t : TypeId} (h : w.heap[g]? = some (.cells L.toArray t)) : w.heap[g]? = some (.cells ([] ++ (L ++ [])).toArray t) := by simpa using h
theorem row_zeroY {w : World} {g : Nat} {cs : List Value} {t : TypeId} (h : w.heap[g]? = some (.cells cs.toArray t)) : ∀ j v, cs[j]? = some v → w.cell? ⟨g, 0 + j, none⟩ = some v := row_seg (A := []) (C := []) h (by simp) rfl
theorem below_twoY {B : Nat} {w w1 w2 : World} (h1 : Below B w w1) (h2 : Below w1.heap.size w1 w2) (hB : B ≤ w1.heap.size := by omega) : Below B w w2 := h1.trans (h2.mono hB)
theorem cell_keptY {w w' : World} {g i : Nat} {u : Value} (h : w.cell? ⟨g, i, none⟩ = some u) (hb : Below w.heap.size w w') : w'.cell? ⟨g, i, none⟩ = some u := (hb.cell (p := ⟨g, i, none⟩) (World.block_lt_of_cell? w _ h)).trans h
theorem seg_keptY {w w' : World} {g o : Nat} {cs : List Value} (h : ∀ j u, cs[j]? = some u → w.cell? ⟨g, o + j, none⟩ = some u) (hb : Below w.heap.size w w') : ∀ j u, cs[j]? = some u → w'.cell? ⟨g, o + j, none⟩ = some u := fun j u hj => cell_keptY (h j u hj) hb
end Go.Proofs.Ytkjgiidmajjonaa.Kn
