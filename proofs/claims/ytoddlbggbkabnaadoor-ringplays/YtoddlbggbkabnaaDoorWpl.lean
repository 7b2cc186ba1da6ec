/-
  What the walk of RingPlays carries from round to round.
-/
import Derived.Test.YtoddlbggbkabnaaDoorQtag
import Derived.Test.YtoddlbggbkabnaaDoorQchk
import Derived.Test.YtoddlbggbkabnaaDoorWnone
import Derived.Deep.CutRange
namespace Go.Proofs.YtoddlbggbkabnaaDoor
open Go Go.RowKit
set_option maxRecDepth 100000

def za36 : Array Value := (actL 0 0 0 [] (List.replicate 32 0)).toArray
theorem zero36 : (Tryd.prog.info? 36).map (·.zero) = some (some (.agg za36)) := by kernel_rfl
theorem size36 : (Tryd.prog.info? 36).map (·.size) = some 36 := by kernel_rfl
theorem actL_len (k c d : Int) (t D : List UInt8) (hD : D.length = 32) : (actL k c d t D).length = 36 := by simp [actL, hD]
theorem actL_one (k c d : Int) (t D : List UInt8) : ∀ v ∈ actL k c d t D, v.oneCell' = true := by
  intro v hv
  unfold actL at hv
  rcases List.mem_append.1 hv with h | h
  · simp only [List.mem_cons, List.not_mem_nil, or_false] at h
    rcases h with rfl | rfl | rfl | rfl <;> rfl
  · exact one_cb D v h

/-- What is told of an act. -/
def ActOk (c d : Int) (t D : List UInt8) : Prop := (-9223372036854775808 ≤ c ∧ c ≤ 9223372036854775807) ∧ (-9223372036854775808 ≤ d ∧ d ≤ 9223372036854775807) ∧ t.length ≤ 140737488351232 ∧ D.length = 32
def ActsAt (w : World) (a : Option Addr) (len : Nat) : Prop :=
  ∀ j, j < len → ∃ ab aoff k c d t D, a = some ⟨ab, aoff, none⟩ ∧ ab < w.heap.size ∧ ActOk c d t D ∧ ∀ i v, (actL k c d t D)[i]? = some v → w.cell? ⟨ab, aoff + j * 36 + i, none⟩ = some v
theorem ActsAt.kept {w w' : World} {a : Option Addr} {len : Nat} (h : ActsAt w a len) (hb : Below w.heap.size w w') : ActsAt w' a len := fun j hj => by
  obtain ⟨ab, aoff, k, c, d, t, D, ha, hl, ho, hc⟩ := h j hj
  exact ⟨ab, aoff, k, c, d, t, D, ha, Nat.lt_of_lt_of_le hl hb.size, ho, fun i v hv => (hb.cell (p := ⟨ab, aoff + j * 36 + i, none⟩) hl).trans (hc i v hv)⟩
theorem ActOk.wf {c d : Int} {t D : List UInt8} (h : ActOk c d t D) : EntWf (c, d, t) := ⟨WalkArith.wf_i64 h.1, WalkArith.wf_i64 h.2.1, by have := h.2.2.1; unfold maxLen; simp only; omega⟩

/-- The two rings in the midst of a round. -/
structure Pl (w W : World) (p h g b x : Nat) (s : List UInt8) (n : Nat) (v : Value) (Lr Lf : List Ent) : Prop where
  ring : RingAt W p h g b s n Lr
  ref : RefAt W x s n v Lf
  low : Below w.heap.size w W
  farb : w.heap.size ≤ b
  farx : w.heap.size ≤ x
section
variable {w W W' : World} {p h g b x n : Nat} {s : List UInt8} {v v' : Value} {Lr Lf L' : List Ent}
theorem Pl.kept (P : Pl w W p h g b x s n v Lr Lf) (hb : Below W.heap.size W W') : Pl w W' p h g b x s n v Lr Lf :=
  ⟨P.ring.kept hb, P.ref.kept hb, P.low.trans (hb.mono P.low.size), P.farb, P.farx⟩
theorem Pl.tagged (P : Pl w W p h g b x s n v Lr Lf) (r : RingAt W' p h g b s n L') (ht : Touch b W W') : Pl w W' p h g b x s n v L' Lf :=
  ⟨r, P.ref.other P.ring.book ht, P.low.trans (ht.below P.farb P.low.size), P.farb, P.farx⟩
theorem ne_of_type {w : World} {p q : Nat} {cs cs' : Array Value} {t t' : TypeId} (h1 : w.heap[p]? = some (.cells cs t)) (h2 : w.heap[q]? = some (.cells cs' t')) (ht : t ≠ t') : p ≠ q := fun e => by
  subst e
  rw [h1] at h2
  injection h2 with h2
  injection h2 with _ h2
  exact ht h2
theorem Pl.retagged (P : Pl w W p h g b x s n v Lr Lf) (r : RefAt W' x s n v' L') (ht : Touch x W W') : Pl w W' p h g b x s n v' Lr L' :=
  ⟨⟨row_touch P.ring.obj ht (ne_of_type P.ring.obj P.ref.obj (by decide)), row_touch P.ring.var ht (ne_of_type P.ring.var P.ref.obj (by decide)), row_touch P.ring.keys ht (ne_of_type P.ring.keys P.ref.obj (by decide)), P.ring.book.at (ht.block b P.ring.book.lt (Ne.symm (P.ring.book.ne P.ref.obj)))⟩, r, P.low.trans (ht.below P.farx P.low.size), P.farb, P.farx⟩
end

/-- The act's own row. -/
def ActBox (W : World) (q : Nat) (k c d : Int) (t D : List UInt8) : Prop := W.heap[q]? = some (.cells (actL k c d t D).toArray 36)
section
variable {W W' : World} {q : Nat} {k c d : Int} {t D : List UInt8}
theorem ActBox.kept (h : ActBox W q k c d t D) (hb : Below W.heap.size W W') : ActBox W' q k c d t D := row_kept h hb
theorem ActBox.c0 (h : ActBox W q k c d t D) : W.cell? ⟨q, 0, none⟩ = some (.int .i64 k) := by rw [cell_of_row _ _ _ _ _ _ h]; rfl
theorem ActBox.c1 (h : ActBox W q k c d t D) : W.cell? ⟨q, 1, none⟩ = some (.int .i64 c) := by rw [cell_of_row _ _ _ _ _ _ h]; rfl
theorem ActBox.c2 (h : ActBox W q k c d t D) : W.cell? ⟨q, 2, none⟩ = some (.int .i64 d) := by rw [cell_of_row _ _ _ _ _ _ h]; rfl
theorem ActBox.c3 (h : ActBox W q k c d t D) : W.cell? ⟨q, 3, none⟩ = some (.string ⟨t.toArray⟩) := by rw [cell_of_row _ _ _ _ _ _ h]; rfl
theorem ActBox.seg (h : ActBox W q k c d t D) : ∀ j u, (D.map cb)[j]? = some u → W.cell? ⟨q, 4 + j, none⟩ = some u := fun j u hu => by
  rw [cell_of_row _ _ _ _ _ _ h, List.getElem?_toArray]; exact actL_seg k c d t D j u hu
end

theorem wpQuiet_load_off {P : Program} {ops : Array Oper} {C : World → Prop} {Q : Act → Prop} {a : Act} {o : Oper} {rest : List Oper} (hw : Region.wanted o (yielded ops a.tmps) = true) (ty : TypeId) (x : Operand) (ho : o.op = .load ty x)
    (g off : Nat) (hx : a.eval x = .pointer (some ⟨g, off, none⟩)) (cs : List Value) (d : TypeDesc) (hc : ∀ w, C w → ∀ j v, cs[j]? = some v → w.cell? ⟨g, off + j, none⟩ = some v)
    (hu : P.underlying ty = some d) (hd : (match d with | .struct _ | .array _ _ => true | _ => false) = true) (hi : (P.info? ty).map (·.size) = some cs.length)
    (h : wpQuiet P ops C Q rest (a.put o.dst (.agg cs.toArray))) : wpQuiet P ops C Q (o :: rest) a := by
  unfold wpQuiet
  rw [if_pos hw]
  refine ⟨.agg cs.toArray, fun w hC => ?_, h⟩
  have hl : (loadCells ⟨g, off, none⟩ cs.length).run P w = .ok cs.toArray w :=
    run_loadCells_list (P := P) w ⟨g, off, none⟩ cs (fun j v hv => by rw [add_none]; exact hc w hC j v hv)
  cases hq : P.info? ty with
  | none => simp [hq] at hi
  | some i =>
    have hs : i.size = cs.length := by simpa [hq] using hi
    have hagg : (isAgg ty).run P w = .ok true w := by
      unfold isAgg
      rw [Sem.run_bind, run_underlying hu w]
      cases d <;> simp_all
    unfold Oper.quietAt execOp
    simp [ho, hx, Instr.loadAt, Instr.sureAddr, Sem.run_bind, loadVar, hagg, sizeOf, typeInfo, hq, hs, hl, Oper.quietUpon]
theorem cells_off (W : World) (g off : Nat) (cs : List Value) (h : ∀ j v, cs[j]? = some v → W.cell? ⟨g, off + j, none⟩ = some v) : ∀ w', (∃ p : Regrown, w' = Sort.grow (redrawn W p.d) p.os) → ∀ j v, cs[j]? = some v → w'.cell? ⟨g, off + j, none⟩ = some v := by
  rintro w' ⟨p, rfl⟩ j v hv
  exact cell_regrown (h j v hv) _ _

theorem noteL_len (L : List Ent) (e : Ent) : (noteL L e).length ≤ L.length + 1 := by unfold noteL; split <;> simp
theorem noteL_wf (L : List Ent) (e : Ent) (hL : ∀ x ∈ L, EntWf x) (he : EntWf e) : ∀ x ∈ noteL L e, EntWf x := by
  intro x hx
  unfold noteL at hx
  split at hx
  · exact hL x hx
  · rcases List.mem_append.1 hx with h | h
    · exact hL x h
    · rw [List.mem_singleton.1 h]; exact he

end Go.Proofs.YtoddlbggbkabnaaDoor
