/-
  A message without what its kind has: what the reference answers (R10.bare).
-/
import Derived.Test.YtmfpmajkjhmliaaGreatDoorJsm
import Derived.Test.YtmfpmajkjhmliaaGreatDoorG02
namespace Go.Proofs.YtmfpmajkjhmliaaGreatDoor.Ms
open Go Go.RowKit
set_option maxRecDepth 100000
theorem build_sub (W : World) : (Instr.build 51 #[]).run Tryz.prog W = .ok (.agg (subC zeroS).toArray) W := by kernel_rfl
theorem zeroMsg : (Tryz.prog.info? 88).map (·.zero) = some (some (.agg (msgC (zeroM 0 0) (.slice none 0 0) (.slice none 0 0)).toArray)) := by kernel_rfl
structure But (b : Nat) (w w' : World) : Prop where
  os : w'.os = w.os
  tape : w'.tape = w.tape
  output : w'.output = w.output
  size : w'.heap.size = w.heap.size
  block : ∀ k, k ≠ b → w'.heap[k]? = w.heap[k]?
theorem But.below {b n : Nat} {a w w' : World} (h : But b w w') (h0 : Below n a w) (h1 : n ≤ b) : Below n a w' :=
  ⟨h.os.trans h0.os, h.tape.trans h0.tape, h.output.trans h0.output, by rw [h.size]; exact h0.size, fun k hk => (h.block k (by omega)).trans (h0.block k hk)⟩
theorem But.row {b k : Nat} {w w' : World} {o : Obj} (h : But b w w') (hr : w.heap[k]? = some o) (hk : k ≠ b) : w'.heap[k]? = some o := (h.block k hk).trans hr
theorem but_setRow (w : World) (g : Nat) (cs : Array Value) : But g w (w.setRow g cs) := ⟨rfl, rfl, rfl, by simp, fun k hk => setRow_other w g k cs hk⟩
theorem but_setCell (w : World) (b i : Nat) (v : Value) : But b w (w.setCell ⟨b, i, none⟩ v) := ⟨rfl, rfl, rfl, by simp [World.setCell], fun k hk => heap_setCell_other w ⟨b, i, none⟩ k v hk⟩
theorem row_set {w : World} {g off : Nat} {A C : List Value} {old v : Value} {t : TypeId} (h : w.heap[g]? = some (.cells (A ++ ([old] ++ C)).toArray t)) (hA : A.length = off) : (w.setCell ⟨g, off, none⟩ v).heap[g]? = some (.cells (A ++ ([v] ++ C)).toArray t) := by
  rw [heap_setCell_same w g off _ t v h]
  subst hA
  simp
section
variable {P : Program} {ops : Array Oper} {rest : List Oper} {o : Oper} {a : Act} {w : World} {Q : Exit → Act → World → Prop}
theorem wl_build (ty : TypeId) (ho : o.op = .build ty #[]) (hw : Region.wanted o (yielded ops a.tmps) = true) (z : Array Value) (hr : (Instr.build ty #[]).run P w = .ok (.agg z) w)
    (h : wpList P ops Q rest (a.put o.dst (.agg z)) w) : wpList P ops Q (o :: rest) a w := by
  refine BigFrame.wpList_want hw fun K hK => ?_
  have h' := hK _ _ h
  unfold Oper.wp execOp
  simp only [ho, List.map_toArray, List.map_nil, Sem.run_bind, hr, Result.andThen_ok, Sem.run_pure]
  exact h'
theorem wl_put (ty : TypeId) (x y : Operand) (ho : o.op = .store ty x y) (hn : o.dst = none) (g off : Nat) (hx : a.eval x = .pointer (some ⟨g, off, none⟩)) (hw : Region.wanted o (yielded ops a.tmps) = true)
    (A cs old C : List Value) (hy : a.eval y = .agg cs.toArray) (t : TypeId) (hg : w.heap[g]? = some (.cells (A ++ (old ++ C)).toArray t)) (hA : A.length = off) (hold : old.length = cs.length) (h1 : ∀ v ∈ cs, v.oneCell' = true) (hi : (P.info? ty).map (·.size) = some cs.length)
    (h : ∀ w1, w1.heap[g]? = some (.cells (A ++ (cs ++ C)).toArray t) → But g w w1 → wpList P ops Q rest a w1) : wpList P ops Q (o :: rest) a w :=
  wl_store ty x y ho hn g off hx hw A cs old C hy t hg hA hold h1 hi (h _ (setRow_heap w g _ _ t (0, 0) hg) (but_setRow w g _))
end
theorem results_row {P : Program} {fn : Func} {p : Tmp} {ty : TypeId} (h : fn.results = #[.cell p ty]) (tmps : Array Value) (w : World) (g : Nat) (t : TypeId) (cs : Array Value) (fr : Nat × Nat) (d : TypeDesc)
    (hp : tmps.getD p undef = .pointer (some ⟨g, 0, none⟩)) (hg : w.heap[g]? = some (.cells cs t fr))
    (hu : P.underlying ty = some d) (hd : (match d with | .struct _ | .array _ _ => true | _ => false) = true) (hi : (P.info? ty).map (·.size) = some cs.size) :
    (results fn tmps).run P w = .ok (.agg cs) w := by
  have hp' : tmps[p]?.getD undef = .pointer (some ⟨g, 0, none⟩) := by simpa using hp
  simp [results, h, hp', asAddr, run_loadVar_row w g t ty cs fr d hg hu hd hi]
theorem one_sub (x : Sub) : ∀ v ∈ subC x, v.oneCell' = true := by
  intro v hv
  simp only [subC, List.mem_append, List.mem_cons, List.not_mem_nil, or_false] at hv
  rcases hv with (rfl | rfl | rfl | rfl) | hv | hv
  · rfl
  · rfl
  · rfl
  · rfl
  · exact one_dg _ v hv
  · exact one_dg _ v hv
theorem one_blo (x : Blo) : ∀ v ∈ bloC x, v.oneCell' = true := by
  intro v hv
  simp only [bloC, List.mem_append, List.mem_cons, List.not_mem_nil, or_false] at hv
  rcases hv with (rfl | rfl | rfl) | hv
  · rfl
  · rfl
  · rfl
  · exact one_dg _ v hv
theorem one_rep (x : Rep) (vP : Value) (h : vP.oneCell' = true) : ∀ v ∈ repC x vP, v.oneCell' = true := by
  intro v hv
  simp only [repC, List.mem_append, List.mem_cons, List.not_mem_nil, or_false] at hv
  rcases hv with (rfl | rfl | rfl) | hv | (rfl | rfl | rfl) | hv | rfl | hv
  · rfl
  · rfl
  · rfl
  · exact one_dg _ v hv
  · exact h
  · rfl
  · rfl
  · exact one_dg _ v hv
  · rfl
  · exact one_dg _ v hv
theorem one_msg (m : Msg) (vP vN : Value) (hp : vP.oneCell' = true) (hn : vN.oneCell' = true) : ∀ v ∈ msgC m vP vN, v.oneCell' = true := by
  intro v hv
  simp only [msgC, List.mem_append, List.mem_cons, List.not_mem_nil, or_false] at hv
  rcases hv with (rfl | rfl) | hv | hv | (rfl | rfl) | hv | hv | hv | rfl
  · rfl
  · rfl
  · exact one_sub _ v hv
  · exact one_rep _ _ hp v hv
  · rfl
  · rfl
  · exact one_dg _ v hv
  · exact one_dg _ v hv
  · exact one_blo _ v hv
  · exact hn
theorem wfZeroS : zeroS.Wf := ⟨rfl, rfl⟩
theorem wfZeroR : zeroR.Wf := ⟨rfl, rfl, rfl, fun p hp => by cases hp⟩
theorem wfZeroB : zeroB.Wf := ⟨rfl⟩
open Go Go.RowKit
set_option maxRecDepth 100000
structure Kp (X : List Nat) (w w' : World) : Prop where
  os : w'.os = w.os
  tape : w'.tape = w.tape
  output : w'.output = w.output
  size : w.heap.size ≤ w'.heap.size
  block : ∀ k, k < w.heap.size → k ∉ X → w'.heap[k]? = w.heap[k]?
theorem Kp.trans {X : List Nat} {a b c : World} (h : Kp X a b) (k : Kp X b c) : Kp X a c :=
  ⟨k.os.trans h.os, k.tape.trans h.tape, k.output.trans h.output, Nat.le_trans h.size k.size, fun i hi hp => (k.block i (Nat.lt_of_lt_of_le hi h.size) hp).trans (h.block i hi hp)⟩
theorem Kp.of {X : List Nat} {w w' : World} (h : Below w.heap.size w w') : Kp X w w' := ⟨h.os, h.tape, h.output, h.size, fun k hk _ => h.block k hk⟩
theorem Kp.below {X : List Nat} {B : Nat} {w w' : World} (h : Kp X w w') (h1 : ∀ x ∈ X, B ≤ x) (h2 : B ≤ w.heap.size) : Below B w w' :=
  ⟨h.os, h.tape, h.output, h.size, fun k hk => h.block k (by omega) (fun hx => by have := h1 k hx; omega)⟩
theorem Kp.but {X : List Nat} {a w w' : World} {b : Nat} (h : Kp X a w) (hb : But b w w') (hg : b ∈ X ∨ a.heap.size ≤ b) : Kp X a w' := by
  refine ⟨hb.os.trans h.os, hb.tape.trans h.tape, hb.output.trans h.output, by rw [hb.size]; exact h.size, fun k hk hx => ?_⟩
  rw [← h.block k hk hx]
  refine hb.block k ?_
  rintro rfl
  rcases hg with e | e
  · exact hx e
  · omega
theorem row_ltA {w : World} {k : Nat} {o : Obj} (hr : w.heap[k]? = some o) : k < w.heap.size := (Array.getElem?_eq_some_iff.1 hr).1
theorem Kp.row {X : List Nat} {w w' : World} (h : Kp X w w') {k : Nat} {o : Obj} (hr : w.heap[k]? = some o) (hk : k ∉ X) : w'.heap[k]? = some o :=
  (h.block k (row_ltA hr) hk).trans hr
end Go.Proofs.YtmfpmajkjhmliaaGreatDoor.Ms
