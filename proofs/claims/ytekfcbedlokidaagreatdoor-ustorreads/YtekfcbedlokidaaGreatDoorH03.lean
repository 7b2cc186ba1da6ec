/-
  A message without what its kind has: what the reference answers (R10.bare).
-/
import Derived.Test.YtekfcbedlokidaaGreatDoorHsr
import Derived.Test.YtekfcbedlokidaaGreatDoorH02
import Derived.Orders
import Derived.Maps.AppendAt
import Derived.Great.BuildSlice
import Derived.OwnWalk
namespace Go.Proofs.YtekfcbedlokidaaGreatDoor.Ms
open Go Go.RowKit
set_option maxRecDepth 100000
theorem build_sub (W : World) : (Instr.build 25 #[]).run Tryz.prog W = .ok (.agg (subC zeroS).toArray) W := by kernel_rfl
theorem zeroMsg : (Tryz.prog.info? 97).map (·.zero) = some (some (.agg (msgC (zeroM 0 0) (.slice none 0 0) (.slice none 0 0)).toArray)) := by kernel_rfl
structure But (b : Nat) (w w' : World) : Prop where
  os : w'.os = w.os
  tape : w'.tape = w.tape
  output : w'.output = w.output
  size : w'.heap.size = w.heap.size
  block : ∀ k, k ≠ b → w'.heap[k]? = w.heap[k]?
theorem But.below {b n : Nat} {a w w' : World} (h : But b w w') (h0 : Below n a w) (h1 : n ≤ b) : Below n a w' :=
  ⟨h.os.trans h0.os, h.tape.trans h0.tape, h.output.trans h0.output, by rw [h.size]; exact h0.size, fun k hk => (h.block k (by omega)).trans (h0.block k hk)⟩
theorem But.row {b k : Nat} {w w' : World} {o : Obj} (h : But b w w') (hr : w.heap[k]? = some o) (hk : k ≠ b) : w'.heap[k]? = some o := (h.block k hk).trans hr
theorem but_setRow (w : World) (g : Nat) (cs : Array Value) : But g w (w.setRow g cs) := ⟨rfl, rfl, rfl, by simp, fun k hk => setRow_other w g k cs hk⟩
theorem but_setCell (w : World) (b i : Nat) (v : Value) : But b w (w.setCell ⟨b, i, none⟩ v) := ⟨rfl, rfl, rfl, by simp [World.setCell], fun k hk => heap_setCell_other w ⟨b, i, none⟩ k v hk⟩
theorem row_set {w : World} {g off : Nat} {A C : List Value} {old v : Value} {t : TypeId} (h : w.heap[g]? = some (.cells (A ++ ([old] ++ C)).toArray t)) (hA : A.length = off) : (w.setCell ⟨g, off, none⟩ v).heap[g]? = some (.cells (A ++ ([v] ++ C)).toArray t) := by
  rw [heap_setCell_same w g off _ t v h]
  subst hA
  simp
section
variable {P : Program} {ops : Array Oper} {rest : List Oper} {o : Oper} {a : Act} {w : World} {Q : Exit → Act → World → Prop}
theorem wl_build (ty : TypeId) (ho : o.op = .build ty #[]) (hw : Region.wanted o (yielded ops a.tmps) = true) (z : Array Value) (hr : (Instr.build ty #[]).run P w = .ok (.agg z) w)
    (h : wpList P ops Q rest (a.put o.dst (.agg z)) w) : wpList P ops Q (o :: rest) a w := by
  refine BigFrame.wpList_want hw fun K hK => ?_
  have h' := hK _ _ h
  unfold Oper.wp execOp
  simp only [ho, List.map_toArray, List.map_nil, Sem.run_bind, hr, Result.andThen_ok, Sem.run_pure]
  exact h'
theorem wl_put (ty : TypeId) (x y : Operand) (ho : o.op = .store ty x y) (hn : o.dst = none) (g off : Nat) (hx : a.eval x = .pointer (some ⟨g, off, none⟩)) (hw : Region.wanted o (yielded ops a.tmps) = true)
    (A cs old C : List Value) (hy : a.eval y = .agg cs.toArray) (t : TypeId) (hg : w.heap[g]? = some (.cells (A ++ (old ++ C)).toArray t)) (hA : A.length = off) (hold : old.length = cs.length) (h1 : ∀ v ∈ cs, v.oneCell' = true) (hi : (P.info? ty).map (·.size) = some cs.length)
    (h : ∀ w1, w1.heap[g]? = some (.cells (A ++ (cs ++ C)).toArray t) → But g w w1 → wpList P ops Q rest a w1) : wpList P ops Q (o :: rest) a w :=
  wl_store ty x y ho hn g off hx hw A cs old C hy t hg hA hold h1 hi (h _ (setRow_heap w g _ _ t (0, 0) hg) (but_setRow w g _))
end
theorem results_row {P : Program} {fn : Func} {p : Tmp} {ty : TypeId} (h : fn.results = #[.cell p ty]) (tmps : Array Value) (w : World) (g : Nat) (t : TypeId) (cs : Array Value) (fr : Nat × Nat) (d : TypeDesc)
    (hp : tmps.getD p undef = .pointer (some ⟨g, 0, none⟩)) (hg : w.heap[g]? = some (.cells cs t fr))
    (hu : P.underlying ty = some d) (hd : (match d with | .struct _ | .array _ _ => true | _ => false) = true) (hi : (P.info? ty).map (·.size) = some cs.size) :
    (results fn tmps).run P w = .ok (.agg cs) w := by
  have hp' : tmps[p]?.getD undef = .pointer (some ⟨g, 0, none⟩) := by simpa using hp
  simp [results, h, hp', asAddr, run_loadVar_row w g t ty cs fr d hg hu hd hi]
theorem one_sub (x : Sub) : ∀ v ∈ subC x, v.oneCell' = true := by
  intro v hv
  simp only [subC, List.mem_append, List.mem_cons, List.not_mem_nil, or_false] at hv
  rcases hv with (rfl | rfl | rfl | rfl) | hv | hv
  · rfl
  · rfl
  · rfl
  · rfl
  · exact one_dg _ v hv
  · exact one_dg _ v hv
theorem one_blo (x : Blo) : ∀ v ∈ bloC x, v.oneCell' = true := by
  intro v hv
  simp only [bloC, List.mem_append, List.mem_cons, List.not_mem_nil, or_false] at hv
  rcases hv with (rfl | rfl | rfl) | hv
  · rfl
  · rfl
  · rfl
  · exact one_dg _ v hv
theorem one_rep (x : Rep) (vP : Value) (h : vP.oneCell' = true) : ∀ v ∈ repC x vP, v.oneCell' = true := by
  intro v hv
  simp only [repC, List.mem_append, List.mem_cons, List.not_mem_nil, or_false] at hv
  rcases hv with (rfl | rfl | rfl) | hv | (rfl | rfl | rfl) | hv | rfl | hv
  · rfl
  · rfl
  · rfl
  · exact one_dg _ v hv
  · exact h
  · rfl
  · rfl
  · exact one_dg _ v hv
  · rfl
  · exact one_dg _ v hv
theorem one_msg (m : Msg) (vP vN : Value) (hp : vP.oneCell' = true) (hn : vN.oneCell' = true) : ∀ v ∈ msgC m vP vN, v.oneCell' = true := by
  intro v hv
  simp only [msgC, List.mem_append, List.mem_cons, List.not_mem_nil, or_false] at hv
  rcases hv with (rfl | rfl) | hv | hv | (rfl | rfl) | hv | hv | hv | rfl
  · rfl
  · rfl
  · exact one_sub _ v hv
  · exact one_rep _ _ hp v hv
  · rfl
  · rfl
  · exact one_dg _ v hv
  · exact one_dg _ v hv
  · exact one_blo _ v hv
  · exact hn
theorem wfZeroS : zeroS.Wf := ⟨rfl, rfl⟩
theorem wfZeroR : zeroR.Wf := ⟨rfl, rfl, rfl, fun p hp => by cases hp⟩
theorem wfZeroB : zeroB.Wf := ⟨rfl⟩
open Go Go.RowKit
set_option maxRecDepth 100000
structure Kp (X : List Nat) (w w' : World) : Prop where
  os : w'.os = w.os
  tape : w'.tape = w.tape
  output : w'.output = w.output
  size : w.heap.size ≤ w'.heap.size
  block : ∀ k, k < w.heap.size → k ∉ X → w'.heap[k]? = w.heap[k]?
theorem Kp.refl (X : List Nat) (w : World) : Kp X w w := ⟨rfl, rfl, rfl, Nat.le_refl _, fun _ _ _ => rfl⟩
theorem Kp.trans {X : List Nat} {a b c : World} (h : Kp X a b) (k : Kp X b c) : Kp X a c :=
  ⟨k.os.trans h.os, k.tape.trans h.tape, k.output.trans h.output, Nat.le_trans h.size k.size, fun i hi hp => (k.block i (Nat.lt_of_lt_of_le hi h.size) hp).trans (h.block i hi hp)⟩
theorem Kp.of {X : List Nat} {w w' : World} (h : Below w.heap.size w w') : Kp X w w' := ⟨h.os, h.tape, h.output, h.size, fun k hk _ => h.block k hk⟩
theorem Kp.below {X : List Nat} {B : Nat} {w w' : World} (h : Kp X w w') (h1 : ∀ x ∈ X, B ≤ x) (h2 : B ≤ w.heap.size) : Below B w w' :=
  ⟨h.os, h.tape, h.output, h.size, fun k hk => h.block k (by omega) (fun hx => by have := h1 k hx; omega)⟩
theorem Kp.but {X : List Nat} {a w w' : World} {b : Nat} (h : Kp X a w) (hb : But b w w') (hg : b ∈ X ∨ a.heap.size ≤ b) : Kp X a w' := by
  refine ⟨hb.os.trans h.os, hb.tape.trans h.tape, hb.output.trans h.output, by rw [hb.size]; exact h.size, fun k hk hx => ?_⟩
  rw [← h.block k hk hx]
  refine hb.block k ?_
  rintro rfl
  rcases hg with e | e
  · exact hx e
  · omega
theorem row_ltA {w : World} {k : Nat} {o : Obj} (hr : w.heap[k]? = some o) : k < w.heap.size := (Array.getElem?_eq_some_iff.1 hr).1
theorem Kp.row {X : List Nat} {w w' : World} (h : Kp X w w') {k : Nat} {o : Obj} (hr : w.heap[k]? = some o) (hk : k ∉ X) : w'.heap[k]? = some o :=
  (h.block k (row_ltA hr) hk).trans hr
open Go Go.RowKit
set_option maxRecDepth 100000
abbrev pt (g off : Nat) : Value := .pointer (some ⟨g, off, none⟩)
section
variable {ops : Array Oper}
def unlB (n : Nat) (listed : Array Bool) : List Nat := (List.range n).filter fun i => !listed.getD i true
theorem mem_unlB {n : Nat} {listed : Array Bool} {i : Nat} : i ∈ unlB n listed ↔ i < n ∧ listed.getD i true = false := by simp [unlB]
theorem getB_set (l : Array Bool) (i j : Nat) (d : Bool) (hi : i < l.size) : (l.setIfInBounds i true).getD j d = if i = j then true else l.getD j d := by
  by_cases h : i = j
  · subst h
    simp [Array.getD_eq_getD_getElem?, hi]
  · simp [Array.getD_eq_getD_getElem?, h]
theorem unl_setB {n : Nat} {listed : Array Bool} {i : Nat} (hn : listed.size = n) (hi : i ∈ unlB n listed) : (unlB n (listed.setIfInBounds i true)).length < (unlB n listed).length := by
  have hlt := (mem_unlB.1 hi).1
  have e : unlB n (listed.setIfInBounds i true) = (unlB n listed).filter (fun j => j != i) := by
    unfold unlB
    rw [List.filter_filter]
    apply List.filter_congr
    intro j _
    rw [getB_set listed i j true (by omega)]
    by_cases h : i = j
    · subst h; simp
    · have h' : j ≠ i := fun e => h e.symm
      simp [h, h']
  rw [e]
  have := List.length_filter_lt_length_iff_exists (p := fun j => j != i) (l := unlB n listed)
  exact this.2 ⟨i, hi, by simp⟩
theorem of_readyB {listed : Array Bool} {i : Nat} (h : i ∈ Region.ready .any ops listed) : i < ops.size ∧ listed.getD i true = false ∧ ∀ o, ops[i]? = some o → ∀ e ∈ o.after, Region.binds .any e = true → listed.getD e.on false = true := by
  unfold Region.ready at h
  simp only [List.mem_filter, List.mem_range, Bool.and_eq_true, Bool.not_eq_true'] at h
  refine ⟨h.1, h.2.1, fun o ho e he hb => ?_⟩
  have h3 := h.2.2
  rw [ho] at h3
  simp only [Option.map_some, Option.getD_some, Array.all_eq_true_iff_forall_mem] at h3
  have := h3 e he
  simpa [hb] using this
theorem ready_ofB {listed : Array Bool} {i : Nat} {o : Oper} (ho : ops[i]? = some o) (hu : listed.getD i true = false) (h : ∀ e ∈ o.after, Region.binds .any e = true → listed.getD e.on false = true) : i ∈ Region.ready .any ops listed := by
  unfold Region.ready
  simp only [List.mem_filter, List.mem_range, Bool.and_eq_true, Bool.not_eq_true']
  refine ⟨(Array.getElem?_eq_some_iff.1 ho).1, hu, ?_⟩
  rw [ho]
  simp only [Option.map_some, Option.getD_some, Array.all_eq_true_iff_forall_mem]
  intro e he
  by_cases hb : Region.binds .any e = true
  · simp [h e he hb]
  · simp [hb]
theorem listed_tfB {l : Array Bool} {i : Nat} (hi : i < l.size) (d : Bool) : l.getD i d = l.getD i true := by simp [hi]
end
def okEls (ops : Array Oper) : Bool :=
  (List.range ops.size).all fun i => match ops[i]? with
    | some o => o.guard.isNone && o.after.all (fun e => !Region.binds .any e || decide (e.on < i))
    | none => false
theorem okEls_at {ops : Array Oper} (h : okEls ops = true) {i : Nat} {o : Oper} (ho : ops[i]? = some o) : o.guard = none ∧ ∀ e ∈ o.after, Region.binds .any e = true → e.on < i := by
  have hi : i < ops.size := (Array.getElem?_eq_some_iff.1 ho).1
  unfold okEls at h
  rw [List.all_eq_true] at h
  have h1 := h i (List.mem_range.2 hi)
  rw [ho] at h1
  simp only [Bool.and_eq_true] at h1
  obtain ⟨h1, h3⟩ := h1
  refine ⟨by simpa using h1, ?_⟩
  intro e he hb
  rw [Array.all_eq_true_iff_forall_mem] at h3
  have := h3 e he
  simpa [hb] using this
def up (L : Nat → Bool) (i : Nat) : Nat → Bool := fun j => if i = j then true else L j
theorem up_self (L : Nat → Bool) (i : Nat) : up L i i = true := by simp [up]
theorem up_ne {L : Nat → Bool} {i j : Nat} (h : i ≠ j) : up L i j = L j := by simp [up, h]
section
variable {P : Program} {ops : Array Oper} {Q : Exit → Act → World → Prop} {a0 : Act} {w0 : World} {I : (Nat → Bool) → Act → World → Prop}
theorem all_els (hok : okEls ops = true) {listed : Array Bool} (hn : listed.size = ops.size) (hr : Region.ready .any ops listed = []) : ∀ n i, i < n → i < ops.size → listed.getD i true = true
  | 0, i, h, _ => absurd h (Nat.not_lt_zero i)
  | n + 1, i, _, hi => by
    cases hu : listed.getD i true with
    | true => rfl
    | false =>
      obtain ⟨o, ho⟩ : ∃ o, ops[i]? = some o := ⟨ops[i], Array.getElem?_eq_getElem hi⟩
      obtain ⟨-, he⟩ := okEls_at hok ho
      have hm := ready_ofB ho hu (fun e hm hb => by
        have hlt := he e hm hb
        have := all_els hok hn hr n e.on (by omega) (by omega)
        rw [listed_tfB (by omega) false]
        exact this)
      rw [hr] at hm
      cases hm
theorem wpAny_inv (hok : okEls ops = true)
    (hstep : ∀ L a w i o, ops[i]? = some o → I L a w → L i = false → (∀ j, (o.after.any fun e => Region.binds .any e && e.on == j) = true → L j = true) → o.wp P a w (fun a' w' => I (up L i) a' w') Q)
    (hend : ∀ L a w, (∀ i, i < ops.size → L i = true) → I L a w → Q .normal a w) :
    ∀ (fuel : Nat) (listed : Array Bool) (a : Act) (w : World), listed.size = ops.size → (unlB ops.size listed).length ≤ fuel → I (fun j => listed.getD j false) a w → wpAny P .any ops Q fuel listed a w := by
  have fin : ∀ (listed : Array Bool) (a : Act) (w : World), listed.size = ops.size → I (fun j => listed.getD j false) a w → (∀ i, i < ops.size → listed.getD i true = true) → Q .normal a w := by
    intro listed a w hn hm hall
    refine hend _ a w (fun i hi => ?_) hm
    show listed.getD i false = true
    rw [listed_tfB (by omega) false]
    exact hall i hi
  intro fuel
  induction fuel with
  | zero =>
    intro listed a w hn hf hm
    have hall : ∀ i, i < ops.size → listed.getD i true = true := by
      intro i hi
      cases hu : listed.getD i true with
      | true => rfl
      | false =>
        have : i ∈ unlB ops.size listed := mem_unlB.2 ⟨hi, hu⟩
        have h0 : unlB ops.size listed = [] := List.length_eq_zero_iff.1 (by omega)
        rw [h0] at this
        cases this
    refine ⟨?_, fin listed a w hn hm hall⟩
    cases hr : Region.ready .any ops listed with
    | nil => rfl
    | cons i l =>
      have hi : i ∈ Region.ready .any ops listed := by rw [hr]; simp
      obtain ⟨h1, h2, -⟩ := of_readyB hi
      rw [hall i h1] at h2
      cases h2
  | succ fuel ih =>
    intro listed a w hn hf hm
    refine ⟨fun hr => fin listed a w hn hm (fun i hi => all_els hok hn hr (i + 1) i (by omega) hi), fun i hi => ?_⟩
    obtain ⟨h1, h2, h3⟩ := of_readyB hi
    obtain ⟨o, ho⟩ : ∃ o, ops[i]? = some o := ⟨ops[i], Array.getElem?_eq_getElem h1⟩
    obtain ⟨hg, -⟩ := okEls_at hok ho
    have hw : Region.wanted o (yielded ops a.tmps) = true := by unfold Region.wanted; rw [hg]
    unfold wpOp
    rw [ho]
    simp only [hw, if_true]
    left
    refine Oper.wp_mono ?_ (hstep _ a w i o ho hm (by show listed.getD i false = false; rw [listed_tfB (by omega) false]; exact h2) (fun j hj => ?_))
    · intro a' w' hI
      refine ih _ _ _ (by simp [hn]) (by have := unl_setB hn (mem_unlB.2 ⟨h1, h2⟩); omega) ?_
      have e : (fun j => (listed.setIfInBounds i true).getD j false) = up (fun j => listed.getD j false) i := funext fun j => getB_set listed i j false (by omega)
      rw [e]
      exact hI
    · rw [Array.any_eq_true'] at hj
      obtain ⟨e, he, hb⟩ := hj
      simp only [Bool.and_eq_true, beq_iff_eq] at hb
      rw [← hb.2]
      exact h3 o ho e he hb.1
theorem wp_region_inv {id : Nat} (I : (Nat → Bool) → Act → World → Prop) (hf : P.follows .mixedOrders = true) (hok : okEls ops = true) (h0 : ∀ w1, Below w0.heap.size w0 w1 → I (fun _ => false) a0 w1)
    (hstep : ∀ L a w i o, ops[i]? = some o → I L a w → L i = false → (∀ j, (o.after.any fun e => Region.binds .any e && e.on == j) = true → L j = true) → o.wp P a w (fun a' w' => I (up L i) a' w') Q)
    (hend : ∀ L a w, (∀ i, i < ops.size → L i = true) → I L a w → Q .normal a w) :
    (Code.region id ops true).wp P Q a0 w0 := by
  refine wp_region_any hf ?_
  refine wpAny_inv (I := I) hok hstep hend _ _ _ _ (by simp) ?_ ?_
  · have := List.length_filter_le (fun i => !(Array.replicate ops.size false).getD i true) (List.range ops.size)
    simpa [unlB] using this
  · have e : (fun j => (Array.replicate ops.size false).getD j false) = fun _ => false := by
      funext j
      simp [Array.getD_eq_getD_getElem?, Array.getElem?_replicate]
      split <;> simp
    rw [e]
    exact h0 _ ⟨rfl, rfl, rfl, Nat.le_refl _, fun k hk => rfl⟩
end
section
variable {P : Program} {o : Oper} {a : Act} {w : World} {Q : Exit → Act → World → Prop} {K : Act → World → Prop}
theorem op_load (ty : TypeId) (x : Operand) (ho : o.op = .load ty x)
    (g off : Nat) (hx : a.eval x = .pointer (some ⟨g, off, none⟩)) (cs : List Value) (d : TypeDesc) (hc : ∀ j v, cs[j]? = some v → w.cell? ⟨g, off + j, none⟩ = some v)
    (hu : P.underlying ty = some d) (hd : (match d with | .struct _ | .array _ _ => true | _ => false) = true) (hi : (P.info? ty).map (·.size) = some cs.length)
    (h : K (a.put o.dst (.agg cs.toArray)) w) : o.wp P a w K Q := by
  have hl : (loadCells ⟨g, off, none⟩ cs.length).run P w = .ok cs.toArray w :=
    run_loadCells_list (P := P) w ⟨g, off, none⟩ cs (fun j v hv => by rw [add_none]; exact hc j v hv)
  cases hq : P.info? ty with
  | none => simp [hq] at hi
  | some i =>
    have hs : i.size = cs.length := by simpa [hq] using hi
    have hagg : (isAgg ty).run P w = .ok true w := by
      unfold isAgg
      rw [Sem.run_bind, run_underlying hu w]
      cases d <;> simp_all
    unfold Oper.wp execOp
    simp [ho, hx, Instr.loadAt, Instr.sureAddr, Sem.run_bind, loadVar, hagg, sizeOf, typeInfo, hq, hs, hl]
    exact h
theorem op_load1 (ty : TypeId) (x : Operand) (ho : o.op = .load ty x)
    (g off : Nat) (hx : a.eval x = .pointer (some ⟨g, off, none⟩)) (v : Value) (d : TypeDesc) (hc : w.cell? ⟨g, off, none⟩ = some v)
    (hu : P.underlying ty = some d) (hd : (match d with | .struct _ | .array _ _ => false | _ => true) = true)
    (h : K (a.put o.dst v) w) : o.wp P a w K Q := by
  have hagg : (isAgg ty).run P w = .ok false w := by
    unfold isAgg
    rw [Sem.run_bind, run_underlying hu w]
    cases d <;> simp_all
  unfold Oper.wp execOp
  simp [ho, hx, Instr.loadAt, Instr.sureAddr, Sem.run_bind, loadVar, hagg, hc]
  exact h
theorem op_alloc (ty : TypeId) (ho : o.op = .alloc ty) (z : Array Value) (hi : (P.info? ty).map (·.zero) = some (some (.agg z)))
    (h : K (a.put o.dst (.pointer (some ⟨w.heap.size, 0, none⟩))) (w.alloc (.cells z ty))) : o.wp P a w K Q := by
  cases hq : P.info? ty with
  | none => simp [hq] at hi
  | some i =>
    have hz : i.zero = some (.agg z) := by simpa [hq] using hi
    unfold Oper.wp execOp
    simp [ho, Instr.alloc, zeroValue, typeInfo, hq, hz, newVar, newRow, newObj, Sem.run_bind, Value.cells]
    exact h
theorem op_store (ty : TypeId) (x y : Operand) (ho : o.op = .store ty x y) (hn : o.dst = none)
    (g : Nat) (hx : a.eval x = .pointer (some ⟨g, 0, none⟩)) (cs old : List Value) (hy : a.eval y = .agg cs.toArray) (t : TypeId) (hg : w.heap[g]? = some (.cells old.toArray t))
    (hold : old.length = cs.length) (h1 : ∀ v ∈ cs, v.oneCell' = true) (hi : (P.info? ty).map (·.size) = some cs.length)
    (h : K a (w.setRow g cs.toArray)) : o.wp P a w K Q := by
  have e : (old.toArray.toList.take 0 ++ cs ++ old.toArray.toList.drop (0 + cs.length)) = cs := by
    simp [← hold]
  have hst := run_storeCells_at P g 0 t cs 0 old.toArray w hg (by simp; omega) h1
  rw [Nat.add_zero, e] at hst
  cases hq : P.info? ty with
  | none => simp [hq] at hi
  | some i =>
    have hs : i.size = cs.length := by simpa [hq] using hi
    unfold Oper.wp execOp
    simp [ho, hx, hy, Instr.storeAt, Instr.sureAddr, Sem.run_bind, storeVar, sizeOf, typeInfo, hq, hs, Value.cells]
    simp [hst]
    show K (a.put o.dst undef) _
    rw [hn]
    exact h
theorem op_fa (t : Tmp) (T : TypeId) (k g off d : Nat) (ho : o.op = .fieldAddr T (.tmp t) k) (hr : ∀ w, (Instr.fieldAt T (.pointer (some ⟨g, off, none⟩)) k).run P w = .ok (.pointer (some ⟨g, off + d, none⟩)) w)
    (hx : a.eval (.tmp t) = .pointer (some ⟨g, off, none⟩)) (h : K (a.put o.dst (.pointer (some ⟨g, off + d, none⟩))) w) : o.wp P a w K Q := by
  unfold Oper.wp execOp
  simp only [ho, hx, Sem.run_bind, hr, Result.andThen_ok, Sem.run_pure, Oper.upon]
  exact h
theorem op_assign (t : Tmp) (c : Value) (ho : o.op = .assign (.tmp t)) (hx : a.eval (.tmp t) = c) (h : K (a.put o.dst c) w) : o.wp P a w K Q := by
  unfold Oper.wp execOp
  simp only [ho, hx, Sem.run_pure, Oper.upon]
  exact h
end
def dstOf (ops : Array Oper) (i : Nat) : Option Tmp := (ops[i]?).bind (·.dst)
def waits (o : Oper) (j : Nat) : Bool := o.after.any fun e => Region.binds .any e && e.on == j
def okMd (ops : Array Oper) (N : Nat) : Bool :=
  okEls ops && (List.range ops.size).all fun i => match dstOf ops i with
    | some d => decide (d < N) && (List.range ops.size).all (fun j => j == i || dstOf ops j != some d)
    | none => true
theorem dst_lt {ops : Array Oper} {i : Nat} {d : Tmp} (h : dstOf ops i = some d) : i < ops.size := by
  unfold dstOf at h
  cases ho : ops[i]? with
  | none => rw [ho] at h; cases h
  | some o => exact (Array.getElem?_eq_some_iff.1 ho).1
theorem okMd_at {ops : Array Oper} {N : Nat} (h : okMd ops N = true) : okEls ops = true ∧ ∀ i d, dstOf ops i = some d → d < N ∧ ∀ j, dstOf ops j = some d → j = i := by
  unfold okMd at h
  rw [Bool.and_eq_true, List.all_eq_true] at h
  refine ⟨h.1, fun i d hd => ?_⟩
  have h1 := h.2 i (List.mem_range.2 (dst_lt hd))
  rw [hd] at h1
  simp only [Bool.and_eq_true, decide_eq_true_eq, List.all_eq_true, List.mem_range] at h1
  refine ⟨h1.1, fun j hj => ?_⟩
  have := h1.2 j (dst_lt hj)
  simpa [hj] using this
def keepOk (ops : Array Oper) (i : Nat) (t : Tmp) : Bool := (List.range ops.size).all fun j => match ops[j]? with
  | some oj => oj.dst != some t || (j == i || waits oj i)
  | none => true
def noneW (ops : Array Oper) (t : Tmp) : Bool := (List.range ops.size).all fun j => dstOf ops j != some t
structure Md (ops : Array Oper) (N : Nat) (a0 : Act) (val : (Nat → Bool) → Nat → Value → World → Prop) (J : (Nat → Bool) → World → Prop) (L : Nat → Bool) (a : Act) (w : World) : Prop where
  size : a.tmps.size = N
  defs : a.defers = a0.defers
  kept : ∀ t, (∀ i, L i = true → dstOf ops i ≠ some t) → a.tmps.getD t undef = a0.tmps.getD t undef
  done : ∀ i d, L i = true → dstOf ops i = some d → val L i (a.tmps.getD d undef) w
  clos : ∀ i o, ops[i]? = some o → L i = true → ∀ j, waits o j = true → L j = true
  inv : J L w
def Owe (P : Program) (ops : Array Oper) (Q : Exit → Act → World → Prop) (N : Nat) (a0 : Act) (val : (Nat → Bool) → Nat → Value → World → Prop) (J : (Nat → Bool) → World → Prop) (i : Nat) (o : Oper) : Prop :=
  ∀ L a w, L i = false → (∀ j, waits o j = true → L j = true) → (∀ j oj, ops[j]? = some oj → waits oj i = true → L j = false) → J L w → a.tmps.size = N →
    (∀ t, keepOk ops i t = true → a.tmps.getD t undef = a0.tmps.getD t undef) → (∀ j d, L j = true → dstOf ops j = some d → val L j (a.tmps.getD d undef) w) →
    o.wp P a w (fun a' w' => ∃ v, a' = a.put o.dst v ∧ (o.dst.isSome = true → val (up L i) i v w') ∧ J (up L i) w' ∧ ∀ j d, L j = true → dstOf ops j = some d → val (up L i) j (a.tmps.getD d undef) w') Q
theorem put_ne (a : Act) (d t : Nat) (v : Value) (h : d ≠ t) : (a.put (some d) v).tmps.getD t undef = a.tmps.getD t undef := by
  simp [Act.put, Array.getD_eq_getD_getElem?, h]
theorem put_eq (a : Act) (d : Nat) (v : Value) (h : d < a.tmps.size) : (a.put (some d) v).tmps.getD d undef = v := by
  simp [Act.put, h]
theorem put_size (a : Act) (d : Option Nat) (v : Value) : (a.put d v).tmps.size = a.tmps.size := by
  cases d <;> simp [Act.put]
theorem put_defs (a : Act) (d : Option Nat) (v : Value) : (a.put d v).defers = a.defers := by cases d <;> rfl
section
variable {P : Program} {ops : Array Oper} {Q : Exit → Act → World → Prop} {N : Nat} {a0 : Act} {w0 : World} {val : (Nat → Bool) → Nat → Value → World → Prop} {J : (Nat → Bool) → World → Prop} {L : Nat → Bool} {a : Act} {w w' : World} {i : Nat} {o : Oper}
theorem Md.not (hm : Md ops N a0 val J L a w) (hLi : L i = false) : ∀ j oj, ops[j]? = some oj → waits oj i = true → L j = false := by
  intro j oj hoj hwj
  cases e : L j
  · rfl
  · rw [hm.clos j oj hoj e i hwj] at hLi
    cases hLi
theorem Md.keepAt (hm : Md ops N a0 val J L a w) (hLi : L i = false) (t : Tmp) (ht : keepOk ops i t = true) : a.tmps.getD t undef = a0.tmps.getD t undef := by
  refine hm.kept t (fun j hj hdj => ?_)
  unfold keepOk at ht
  rw [List.all_eq_true] at ht
  have h1 := ht j (List.mem_range.2 (dst_lt hdj))
  cases hoj : ops[j]? with
  | none => unfold dstOf at hdj; rw [hoj] at hdj; cases hdj
  | some oj =>
    rw [hoj] at h1
    have e : oj.dst = some t := by unfold dstOf at hdj; rw [hoj] at hdj; exact hdj
    simp only [e, bne_self_eq_false, Bool.false_or, Bool.or_eq_true, beq_iff_eq] at h1
    rcases h1 with rfl | h1
    · rw [hj] at hLi; cases hLi
    · rw [hm.not hLi j oj hoj h1] at hj; cases hj
theorem Md.step (hok : okMd ops N = true) (hm : Md ops N a0 val J L a w) (ho : ops[i]? = some o) (hw : ∀ j, waits o j = true → L j = true) {v : Value} (hv : o.dst.isSome = true → val (up L i) i v w') (hJ : J (up L i) w') (hmono : ∀ j d, L j = true → dstOf ops j = some d → val (up L i) j (a.tmps.getD d undef) w') :
    Md ops N a0 val J (up L i) (a.put o.dst v) w' := by
  obtain ⟨-, hd⟩ := okMd_at hok
  have hdi : dstOf ops i = o.dst := by unfold dstOf; rw [ho]; rfl
  refine ⟨(put_size _ _ _).trans hm.size, (put_defs _ _ _).trans hm.defs, fun t ht => ?_, fun j d hj hdj => ?_, fun j oj hoj hj x hx => ?_, hJ⟩
  · have h1 := ht i (up_self L i)
    rw [hdi] at h1
    have h2 := hm.kept t (fun j hj => ht j (by unfold up; split <;> first | rfl | exact hj))
    rw [← h2]
    cases e : o.dst with
    | none => rfl
    | some d => exact put_ne _ _ _ _ (fun e2 => h1 (by rw [e, e2]))
  · by_cases hij : i = j
    · subst hij
      rw [hdi] at hdj
      rw [hdj]
      rw [put_eq _ _ _ (by rw [hm.size]; exact (hd i d (hdi.trans hdj)).1)]
      exact hv (by rw [hdj]; rfl)
    · rw [up_ne hij] at hj
      have hne : o.dst ≠ some d := fun e => hij ((hd j d hdj).2 i (hdi.trans e))
      have e2 : (a.put o.dst v).tmps.getD d undef = a.tmps.getD d undef := by
        cases e : o.dst with
        | none => rfl
        | some d' => exact put_ne _ _ _ _ (fun e2 => hne (by rw [e, e2]))
      rw [e2]
      exact hmono j d hj hdj
  · by_cases hij : i = j
    · subst hij
      rw [ho] at hoj
      cases hoj
      unfold up
      split
      · rfl
      · exact hw x hx
    · rw [up_ne hij] at hj
      unfold up
      split
      · rfl
      · exact hm.clos j oj hoj hj x hx
theorem wp_region_md {id : Nat} (val : (Nat → Bool) → Nat → Value → World → Prop) (J : (Nat → Bool) → World → Prop) (hf : P.follows .mixedOrders = true) (hok : okMd ops N = true) (hN : a0.tmps.size = N) (h0 : ∀ w1, Below w0.heap.size w0 w1 → J (fun _ => false) w1)
    (hown : ∀ i o, ops[i]? = some o → Owe P ops Q N a0 val J i o)
    (hend : ∀ L a w, (∀ i, i < ops.size → L i = true) → J L w → a.tmps.size = N → a.defers = a0.defers → (∀ t, noneW ops t = true → a.tmps.getD t undef = a0.tmps.getD t undef) → (∀ i d, dstOf ops i = some d → val L i (a.tmps.getD d undef) w) → Q .normal a w) :
    (Code.region id ops true).wp P Q a0 w0 := by
  refine wp_region_inv (Md ops N a0 val J) hf (okMd_at hok).1 (fun w1 hw1 => ⟨hN, rfl, fun _ _ => rfl, by simp, by simp, h0 w1 hw1⟩) ?_ ?_
  · intro L a w i o ho hm hLi hw
    refine Oper.wp_mono ?_ (hown i o ho L a w hLi hw (hm.not hLi) hm.inv hm.size (hm.keepAt hLi) hm.done)
    rintro a' w' ⟨v, rfl, hv, hJ, hmono⟩
    exact hm.step hok ho hw hv hJ hmono
  · intro L a w hall hm
    refine hend L a w hall hm.inv hm.size hm.defs (fun t ht => hm.kept t (fun i _ e => ?_)) (fun i d hdi => hm.done i d (hall i (dst_lt hdi)) hdi)
    unfold noneW at ht
    rw [List.all_eq_true] at ht
    have := ht i (List.mem_range.2 (dst_lt e))
    simp [e] at this
end
section
variable {P : Program} {o : Oper} {a : Act} {w : World} {Q : Exit → Act → World → Prop} {K : Act → World → Prop}
theorem op_move (t : Tmp) (c : Value) (ho : o.op = .move (.tmp t)) (hx : a.tmps.getD t undef = c) (h : K (a.put o.dst c) w) : o.wp P a w K Q := by
  have hx' : a.eval (.tmp t) = c := hx
  unfold Oper.wp execOp
  simp only [ho, hx', Sem.run_pure, Oper.upon]
  exact h
theorem op_nil (t : Tmp) (g off : Nat) (ho : o.op = .nilCheck (.tmp t)) (hx : a.tmps.getD t undef = pt g off) (h : K (a.put o.dst (pt g off)) w) : o.wp P a w K Q := by
  have hx' : a.eval (.tmp t) = pt g off := hx
  unfold Oper.wp execOp
  simp only [ho, hx', Sem.run_pure, Oper.upon]
  exact h
theorem op_extract (t : Tmp) (k : Nat) (vs : Array Value) (c : Value) (ho : o.op = .extract (.tmp t) k) (hx : a.tmps.getD t undef = .tuple vs) (hc : vs[k]? = some c) (h : K (a.put o.dst c) w) : o.wp P a w K Q := by
  have hx' : a.eval (.tmp t) = .tuple vs := hx
  unfold Oper.wp execOp
  simp [ho, hx', Instr.extract, hc]
  exact h
end
theorem frame_at {ops : Array Oper} {A : Array Value} {c : Nat → Value} (hv : ∀ i d, dstOf ops i = some d → A.getD d undef = c i) : ∀ (l : List Nat) (B : Array Value), B.size = A.size → (∀ t, t < A.size → (∀ i ∈ l, dstOf ops i ≠ some t) → B.getD t undef = A.getD t undef) →
    l.foldl (fun B i => match dstOf ops i with | some d => B.setIfInBounds d (c i) | none => B) B = A
  | [], B, hs, hB => by
    apply Array.ext hs
    intro i h1 h2
    have := hB i h2 (by simp)
    simpa [h1, h2] using this
  | i :: l, B, hs, hB => by
    rw [List.foldl_cons]
    cases e : dstOf ops i with
    | none =>
      refine frame_at hv l B hs (fun t ht hl => hB t ht (fun j hj => ?_))
      rcases List.mem_cons.1 hj with rfl | hj
      · rw [e]; simp
      · exact hl j hj
    | some d =>
      refine frame_at hv l (B.setIfInBounds d (c i)) (by simpa using hs) (fun t ht hl => ?_)
      by_cases hd : d = t
      · subst hd
        rw [hv i d e]
        have : d < B.size := by rw [hs]; exact ht
        simp [this]
      · have h1 := hB t ht (fun j hj => by
          rcases List.mem_cons.1 hj with rfl | hj
          · rw [e]; simpa using hd
          · exact hl j hj)
        rw [← h1]
        simp [Array.getD_eq_getD_getElem?, hd]
theorem frame_of {ops : Array Oper} {a a0 : Act} {c : Nat → Value} (hs : a.tmps.size = a0.tmps.size) (hk : ∀ t, noneW ops t = true → a.tmps.getD t undef = a0.tmps.getD t undef) (hv : ∀ i d, dstOf ops i = some d → a.tmps.getD d undef = c i) :
    a.tmps = (List.range ops.size).foldl (fun B i => match dstOf ops i with | some d => B.setIfInBounds d (c i) | none => B) a0.tmps := by
  refine (frame_at hv _ _ hs.symm (fun t _ hl => (hk t ?_).symm)).symm
  unfold noneW
  rw [List.all_eq_true]
  intro j hj
  have := hl j hj
  simpa using this
section
variable {P : Program} {o : Oper} {a : Act} {w : World} {Q : Exit → Act → World → Prop} {K : Act → World → Prop}
theorem op_call (f : FuncId) (xs : List Operand) (ts : Array TypeId) (vs : Array Value) (v : Value) (ho : o.op = .call { callee := .value (.func f), args := xs.toArray, argTypes := ts }) (hc : ∀ args w, (callFunc f args).run P w = .ok (.enter f args) w) (hx : (xs.map a.eval).toArray = vs)
    {J : World → Prop} (hm : Calls P f vs w fun e w' => e = .returned v ∧ J w') (h : ∀ w', J w' → K (a.put o.dst v) w') : o.wp P a w K Q := by
  unfold Oper.wp execOp
  have e : (do let d ← resolve a.eval { callee := .value (.func f), args := xs.toArray, argTypes := ts } o.type; invoke d.target d.args : Sem Next).run P w = .ok (.enter f vs) w := by
    have e0 : a.eval (.func f) = .func (.func f) #[] #[] := rfl
    simp [resolve, Deferred.ofValue, invoke, hc, e0, hx]
  simp only [ho]
  rw [e]
  simp only [Oper.upon]
  refine hm.mono ?_
  rintro e w' ⟨rfl, hJ⟩
  exact h w' hJ
end
theorem cells_one {v : Value} (h : v.oneCell' = true) : v.cells = #[v] := by
  cases v <;> first | rfl | (exact absurd h (by simp [Value.oneCell']))
theorem run_store1 {P : Program} {w : World} {g off : Nat} {A C : List Value} {old v : Value} {t ty : TypeId} (hg : w.heap[g]? = some (.cells (A ++ ([old] ++ C)).toArray t)) (hA : A.length = off) (h1 : v.oneCell' = true) (hi : (P.info? ty).map (·.size) = some 1) :
    (storeVar ty ⟨g, off, none⟩ v).run P w = .ok () (w.setRow g (A ++ ([v] ++ C)).toArray) := by
  have e : ((A ++ ([old] ++ C)).toArray.toList.take off ++ [v] ++ (A ++ ([old] ++ C)).toArray.toList.drop (off + [v].length)) = A ++ ([v] ++ C) := by
    subst hA
    simp
  have hst := run_storeCells_at P g off t [v] 0 (A ++ ([old] ++ C)).toArray w hg (by subst hA; simp) (by simpa using h1)
  rw [Nat.add_zero, e] at hst
  cases hq : P.info? ty with
  | none => simp [hq] at hi
  | some i =>
    have hs : i.size = 1 := by simpa [hq] using hi
    simp [storeVar, sizeOf, typeInfo, hq, hs, cells_one h1]
    simpa using hst
section
variable {P : Program} {ops : Array Oper} {rest : List Oper} {o : Oper} {a : Act} {w : World} {Q : Exit → Act → World → Prop} {K : Act → World → Prop}
theorem wl_put1 (ty : TypeId) (x y : Operand) (ho : o.op = .store ty x y) (hn : o.dst = none) (g off : Nat) (hx : a.eval x = .pointer (some ⟨g, off, none⟩)) (hw : Region.wanted o (yielded ops a.tmps) = true)
    (A C : List Value) (old v : Value) (hy : a.eval y = v) (t : TypeId) (hg : w.heap[g]? = some (.cells (A ++ ([old] ++ C)).toArray t)) (hA : A.length = off) (h1 : v.oneCell' = true) (hi : (P.info? ty).map (·.size) = some 1)
    (h : ∀ w1, w1.heap[g]? = some (.cells (A ++ ([v] ++ C)).toArray t) → But g w w1 → wpList P ops Q rest a w1) : wpList P ops Q (o :: rest) a w := by
  refine BigFrame.wpList_want hw fun K hK => ?_
  have h' := hK _ _ (h _ (setRow_heap w g _ (A ++ ([v] ++ C)).toArray t (0, 0) hg) (but_setRow w g _))
  unfold Oper.wp execOp
  simp only [ho, hx, hy, Instr.storeAt, Instr.sureAddr, Sem.run_bind, Sem.run_pure, Result.andThen_ok, run_store1 hg hA h1 hi]
  show K (a.put o.dst undef) _
  rw [hn]
  exact h'
theorem op_put1 (ty : TypeId) (x y : Tmp) (ho : o.op = .store ty (.tmp x) (.tmp y)) (hn : o.dst = none) (g off : Nat) (hx : a.tmps.getD x undef = pt g off)
    (A C : List Value) (old v : Value) (hy : a.tmps.getD y undef = v) (t : TypeId) (hg : w.heap[g]? = some (.cells (A ++ ([old] ++ C)).toArray t)) (hA : A.length = off) (h1 : v.oneCell' = true) (hi : (P.info? ty).map (·.size) = some 1)
    (h : ∀ w1, w1.heap[g]? = some (.cells (A ++ ([v] ++ C)).toArray t) → But g w w1 → K a w1) : o.wp P a w K Q := by
  have ex : a.eval (.tmp x) = pt g off := hx
  have ey : a.eval (.tmp y) = v := hy
  have h' := h _ (setRow_heap w g _ (A ++ ([v] ++ C)).toArray t (0, 0) hg) (but_setRow w g _)
  unfold Oper.wp execOp
  simp only [ho, ex, ey, Instr.storeAt, Instr.sureAddr, Sem.run_bind, Sem.run_pure, Result.andThen_ok, run_store1 hg hA h1 hi]
  show K (a.put o.dst undef) _
  rw [hn]
  exact h'
theorem op_put (ty : TypeId) (x y : Tmp) (ho : o.op = .store ty (.tmp x) (.tmp y)) (hn : o.dst = none) (g off : Nat) (hx : a.tmps.getD x undef = pt g off)
    (A cs old C : List Value) (hy : a.tmps.getD y undef = .agg cs.toArray) (t : TypeId) (hg : w.heap[g]? = some (.cells (A ++ (old ++ C)).toArray t)) (hA : A.length = off) (hold : old.length = cs.length) (h1 : ∀ v ∈ cs, v.oneCell' = true) (hi : (P.info? ty).map (·.size) = some cs.length)
    (h : ∀ w1, w1.heap[g]? = some (.cells (A ++ (cs ++ C)).toArray t) → But g w w1 → K a w1) : o.wp P a w K Q := by
  have ex : a.eval (.tmp x) = pt g off := hx
  have ey : a.eval (.tmp y) = .agg cs.toArray := hy
  have e : ((A ++ (old ++ C)).toArray.toList.take off ++ cs ++ (A ++ (old ++ C)).toArray.toList.drop (off + cs.length)) = A ++ (cs ++ C) := by
    subst hA
    simp [← hold, List.append_assoc]
  have h' := h _ (setRow_heap w g _ (A ++ (cs ++ C)).toArray t (0, 0) hg) (but_setRow w g _)
  have hst := run_storeCells_at P g off t cs 0 (A ++ (old ++ C)).toArray w hg (by subst hA; simp; omega) h1
  rw [Nat.add_zero, e] at hst
  cases hq : P.info? ty with
  | none => simp [hq] at hi
  | some i =>
    have hs : i.size = cs.length := by simpa [hq] using hi
    unfold Oper.wp execOp
    simp [ho, ex, ey, Instr.storeAt, Instr.sureAddr, Sem.run_bind, storeVar, sizeOf, typeInfo, hq, hs, Value.cells]
    simp [hst]
    show K (a.put o.dst undef) _
    rw [hn]
    exact h'
end
end Go.Proofs.YtekfcbedlokidaaGreatDoor.Ms
