/-
  Regions that draw their order: laws for every program, and single operations. Out of the texts of stages 12 to 16.
-/
import Derived.Test.YtkjgiidmajjonaaPbs
namespace Go.Proofs.Ytkjgiidmajjonaa.Kn
open Go Go.RowKit
set_option maxRecDepth 100000

section
variable {ops : Array Oper}
def unlB (n : Nat) (listed : Array Bool) : List Nat := (List.range n).filter fun i => !listed.getD i true
theorem mem_unlB {n : Nat} {listed : Array Bool} {i : Nat} : i ∈ unlB n listed ↔ i < n ∧ listed.getD i true = false := by simp [unlB]
theorem getB_set (l : Array Bool) (i j : Nat) (d : Bool) (hi : i < l.size) : (l.setIfInBounds i true).getD j d = if i = j then true else l.getD j d := by
  by_cases h : i = j
  · subst h
    simp [Array.getD_eq_getD_getElem?, hi]
  · simp [Array.getD_eq_getD_getElem?, h]
theorem unl_setB {n : Nat} {listed : Array Bool} {i : Nat} (hn : listed.size = n) (hi : i ∈ unlB n listed) : (unlB n (listed.setIfInBounds i true)).length < (unlB n listed).length := by
  have hlt := (mem_unlB.1 hi).1
  have e : unlB n (listed.setIfInBounds i true) = (unlB n listed).filter (fun j => j != i) := by
    unfold unlB
    rw [List.filter_filter]
    apply List.filter_congr
    intro j _
    rw [getB_set listed i j true (by omega)]
    by_cases h : i = j
    · subst h; simp
    · have h' : j ≠ i := fun e => h e.symm
      simp [h, h']
  rw [e]
  have := List.length_filter_lt_length_iff_exists (p := fun j => j != i) (l := unlB n listed)
  exact this.2 ⟨i, hi, by simp⟩
theorem of_readyB {listed : Array Bool} {i : Nat} (h : i ∈ Region.ready .any ops listed) : i < ops.size ∧ listed.getD i true = false ∧ ∀ o, ops[i]? = some o → ∀ e ∈ o.after, Region.binds .any e = true → listed.getD e.on false = true := by
  unfold Region.ready at h
  simp only [List.mem_filter, List.mem_range, Bool.and_eq_true, Bool.not_eq_true'] at h
  refine ⟨h.1, h.2.1, fun o ho e he hb => ?_⟩
  have h3 := h.2.2
  rw [ho] at h3
  simp only [Option.map_some, Option.getD_some, Array.all_eq_true_iff_forall_mem] at h3
  have := h3 e he
  simpa [hb] using this
theorem ready_ofB {listed : Array Bool} {i : Nat} {o : Oper} (ho : ops[i]? = some o) (hu : listed.getD i true = false) (h : ∀ e ∈ o.after, Region.binds .any e = true → listed.getD e.on false = true) : i ∈ Region.ready .any ops listed := by
  unfold Region.ready
  simp only [List.mem_filter, List.mem_range, Bool.and_eq_true, Bool.not_eq_true']
  refine ⟨(Array.getElem?_eq_some_iff.1 ho).1, hu, ?_⟩
  rw [ho]
  simp only [Option.map_some, Option.getD_some, Array.all_eq_true_iff_forall_mem]
  intro e he
  by_cases hb : Region.binds .any e = true
  · simp [h e he hb]
  · simp [hb]
theorem listed_tfB {l : Array Bool} {i : Nat} (hi : i < l.size) (d : Bool) : l.getD i d = l.getD i true := by simp [hi]
end
/-- Which operations this law takes: unguarded, each waiting for elder ones alone. -/
def okEls (ops : Array Oper) : Bool :=
  (List.range ops.size).all fun i => match ops[i]? with
    | some o => o.guard.isNone && o.after.all (fun e => !Region.binds .any e || decide (e.on < i))
    | none => false
theorem okEls_at {ops : Array Oper} (h : okEls ops = true) {i : Nat} {o : Oper} (ho : ops[i]? = some o) : o.guard = none ∧ ∀ e ∈ o.after, Region.binds .any e = true → e.on < i := by
  have hi : i < ops.size := (Array.getElem?_eq_some_iff.1 ho).1
  unfold okEls at h
  rw [List.all_eq_true] at h
  have h1 := h i (List.mem_range.2 hi)
  rw [ho] at h1
  simp only [Bool.and_eq_true] at h1
  obtain ⟨h1, h3⟩ := h1
  refine ⟨by simpa using h1, ?_⟩
  intro e he hb
  rw [Array.all_eq_true_iff_forall_mem] at h3
  have := h3 e he
  simpa [hb] using this
/-- One more has come up. -/
def up (L : Nat → Bool) (i : Nat) : Nat → Bool := fun j => if i = j then true else L j
theorem up_self (L : Nat → Bool) (i : Nat) : up L i i = true := by simp [up]
theorem up_ne {L : Nat → Bool} {i j : Nat} (h : i ≠ j) : up L i j = L j := by simp [up, h]

section
variable {P : Program} {ops : Array Oper} {Q : Exit → Act → World → Prop} {a0 : Act} {w0 : World} {I : (Nat → Bool) → Act → World → Prop}
theorem all_els (hok : okEls ops = true) {listed : Array Bool} (hn : listed.size = ops.size) (hr : Region.ready .any ops listed = []) : ∀ n i, i < n → i < ops.size → listed.getD i true = true
  | 0, i, h, _ => absurd h (Nat.not_lt_zero i)
  | n + 1, i, _, hi => by
    cases hu : listed.getD i true with
    | true => rfl
    | false =>
      obtain ⟨o, ho⟩ : ∃ o, ops[i]? = some o := ⟨ops[i], Array.getElem?_eq_getElem hi⟩
      obtain ⟨-, he⟩ := okEls_at hok ho
      have hm := ready_ofB ho hu (fun e hm hb => by
        have hlt := he e hm hb
        have := all_els hok hn hr n e.on (by omega) (by omega)
        rw [listed_tfB (by omega) false]
        exact this)
      rw [hr] at hm
      cases hm
theorem wpAny_inv (hok : okEls ops = true)
    (hstep : ∀ L a w i o, ops[i]? = some o → I L a w → L i = false → (∀ j, (o.after.any fun e => Region.binds .any e && e.on == j) = true → L j = true) → o.wp P a w (fun a' w' => I (up L i) a' w') Q)
    (hend : ∀ L a w, (∀ i, i < ops.size → L i = true) → I L a w → Q .normal a w) :
    ∀ (fuel : Nat) (listed : Array Bool) (a : Act) (w : World), listed.size = ops.size → (unlB ops.size listed).length ≤ fuel → I (fun j => listed.getD j false) a w → wpAny P .any ops Q fuel listed a w := by
  have fin : ∀ (listed : Array Bool) (a : Act) (w : World), listed.size = ops.size → I (fun j => listed.getD j false) a w → (∀ i, i < ops.size → listed.getD i true = true) → Q .normal a w := by
    intro listed a w hn hm hall
    refine hend _ a w (fun i hi => ?_) hm
    show listed.getD i false = true
    rw [listed_tfB (by omega) false]
    exact hall i hi
  intro fuel
  induction fuel with
  | zero =>
    intro listed a w hn hf hm
    have hall : ∀ i, i < ops.size → listed.getD i true = true := by
      intro i hi
      cases hu : listed.getD i true with
      | true => rfl
      | false =>
        have : i ∈ unlB ops.size listed := mem_unlB.2 ⟨hi, hu⟩
        have h0 : unlB ops.size listed = [] := List.length_eq_zero_iff.1 (by omega)
        rw [h0] at this
        cases this
    refine ⟨?_, fin listed a w hn hm hall⟩
    cases hr : Region.ready .any ops listed with
    | nil => rfl
    | cons i l =>
      have hi : i ∈ Region.ready .any ops listed := by rw [hr]; simp
      obtain ⟨h1, h2, -⟩ := of_readyB hi
      rw [hall i h1] at h2
      cases h2
  | succ fuel ih =>
    intro listed a w hn hf hm
    refine ⟨fun hr => fin listed a w hn hm (fun i hi => all_els hok hn hr (i + 1) i (by omega) hi), fun i hi => ?_⟩
    obtain ⟨h1, h2, h3⟩ := of_readyB hi
    obtain ⟨o, ho⟩ : ∃ o, ops[i]? = some o := ⟨ops[i], Array.getElem?_eq_getElem h1⟩
    obtain ⟨hg, -⟩ := okEls_at hok ho
    have hw : Region.wanted o (yielded ops a.tmps) = true := by unfold Region.wanted; rw [hg]
    unfold wpOp
    rw [ho]
    simp only [hw, if_true]
    left
    refine Oper.wp_mono ?_ (hstep _ a w i o ho hm (by show listed.getD i false = false; rw [listed_tfB (by omega) false]; exact h2) (fun j hj => ?_))
    · intro a' w' hI
      refine ih _ _ _ (by simp [hn]) (by have := unl_setB hn (mem_unlB.2 ⟨h1, h2⟩); omega) ?_
      have e : (fun j => (listed.setIfInBounds i true).getD j false) = up (fun j => listed.getD j false) i := funext fun j => getB_set listed i j false (by omega)
      rw [e]
      exact hI
    · rw [Array.any_eq_true'] at hj
      obtain ⟨e, he, hb⟩ := hj
      simp only [Bool.and_eq_true, beq_iff_eq] at hb
      rw [← hb.2]
      exact h3 o ho e he hb.1
/-- The law of the region. -/
theorem wp_region_inv {id : Nat} (I : (Nat → Bool) → Act → World → Prop) (hf : P.follows .mixedOrders = true) (hok : okEls ops = true) (h0 : ∀ w1, Below w0.heap.size w0 w1 → I (fun _ => false) a0 w1)
    (hstep : ∀ L a w i o, ops[i]? = some o → I L a w → L i = false → (∀ j, (o.after.any fun e => Region.binds .any e && e.on == j) = true → L j = true) → o.wp P a w (fun a' w' => I (up L i) a' w') Q)
    (hend : ∀ L a w, (∀ i, i < ops.size → L i = true) → I L a w → Q .normal a w) :
    (Code.region id ops true).wp P Q a0 w0 := by
  refine wp_region_any hf ?_
  refine wpAny_inv (I := I) hok hstep hend _ _ _ _ (by simp) ?_ ?_
  · have := List.length_filter_le (fun i => !(Array.replicate ops.size false).getD i true) (List.range ops.size)
    simpa [unlB] using this
  · have e : (fun j => (Array.replicate ops.size false).getD j false) = fun _ => false := by
      funext j
      simp [Array.getD_eq_getD_getElem?, Array.getElem?_replicate]
      split <;> simp
    rw [e]
    exact h0 _ ⟨rfl, rfl, rfl, Nat.le_refl _, fun k hk => rfl⟩
end

section
variable {P : Program} {o : Oper} {a : Act} {w : World} {Q : Exit → Act → World → Prop} {K : Act → World → Prop}
theorem op_load (ty : TypeId) (x : Operand) (ho : o.op = .load ty x)
    (g off : Nat) (hx : a.eval x = .pointer (some ⟨g, off, none⟩)) (cs : List Value) (d : TypeDesc) (hc : ∀ j v, cs[j]? = some v → w.cell? ⟨g, off + j, none⟩ = some v)
    (hu : P.underlying ty = some d) (hd : (match d with | .struct _ | .array _ _ => true | _ => false) = true) (hi : (P.info? ty).map (·.size) = some cs.length)
    (h : K (a.put o.dst (.agg cs.toArray)) w) : o.wp P a w K Q := by
  have hl : (loadCells ⟨g, off, none⟩ cs.length).run P w = .ok cs.toArray w :=
    run_loadCells_list (P := P) w ⟨g, off, none⟩ cs (fun j v hv => by rw [add_none]; exact hc j v hv)
  cases hq : P.info? ty with
  | none => simp [hq] at hi
  | some i =>
    have hs : i.size = cs.length := by simpa [hq] using hi
    have hagg : (isAgg ty).run P w = .ok true w := by
      unfold isAgg
      rw [Sem.run_bind, run_underlying hu w]
      cases d <;> simp_all
    unfold Oper.wp execOp
    simp [ho, hx, Instr.loadAt, Instr.sureAddr, Sem.run_bind, loadVar, hagg, sizeOf, typeInfo, hq, hs, hl]
    exact h
theorem op_load1 (ty : TypeId) (x : Operand) (ho : o.op = .load ty x)
    (g off : Nat) (hx : a.eval x = .pointer (some ⟨g, off, none⟩)) (v : Value) (d : TypeDesc) (hc : w.cell? ⟨g, off, none⟩ = some v)
    (hu : P.underlying ty = some d) (hd : (match d with | .struct _ | .array _ _ => false | _ => true) = true)
    (h : K (a.put o.dst v) w) : o.wp P a w K Q := by
  have hagg : (isAgg ty).run P w = .ok false w := by
    unfold isAgg
    rw [Sem.run_bind, run_underlying hu w]
    cases d <;> simp_all
  unfold Oper.wp execOp
  simp [ho, hx, Instr.loadAt, Instr.sureAddr, Sem.run_bind, loadVar, hagg, hc]
  exact h
theorem op_alloc (ty : TypeId) (ho : o.op = .alloc ty) (z : Array Value) (hi : (P.info? ty).map (·.zero) = some (some (.agg z)))
    (h : K (a.put o.dst (.pointer (some ⟨w.heap.size, 0, none⟩))) (w.alloc (.cells z ty))) : o.wp P a w K Q := by
  cases hq : P.info? ty with
  | none => simp [hq] at hi
  | some i =>
    have hz : i.zero = some (.agg z) := by simpa [hq] using hi
    unfold Oper.wp execOp
    simp [ho, Instr.alloc, zeroValue, typeInfo, hq, hz, newVar, newRow, newObj, Sem.run_bind, Value.cells]
    exact h
theorem op_store (ty : TypeId) (x y : Operand) (ho : o.op = .store ty x y) (hn : o.dst = none)
    (g : Nat) (hx : a.eval x = .pointer (some ⟨g, 0, none⟩)) (cs old : List Value) (hy : a.eval y = .agg cs.toArray) (t : TypeId) (hg : w.heap[g]? = some (.cells old.toArray t))
    (hold : old.length = cs.length) (h1 : ∀ v ∈ cs, v.oneCell' = true) (hi : (P.info? ty).map (·.size) = some cs.length)
    (h : K a (w.setRow g cs.toArray)) : o.wp P a w K Q := by
  have e : (old.toArray.toList.take 0 ++ cs ++ old.toArray.toList.drop (0 + cs.length)) = cs := by
    simp [← hold]
  have hst := run_storeCells_at P g 0 t cs 0 old.toArray w hg (by simp; omega) h1
  rw [Nat.add_zero, e] at hst
  cases hq : P.info? ty with
  | none => simp [hq] at hi
  | some i =>
    have hs : i.size = cs.length := by simpa [hq] using hi
    unfold Oper.wp execOp
    simp [ho, hx, hy, Instr.storeAt, Instr.sureAddr, Sem.run_bind, storeVar, sizeOf, typeInfo, hq, hs, Value.cells]
    simp [hst]
    show K (a.put o.dst undef) _
    rw [hn]
    exact h
theorem op_fa (t : Tmp) (T : TypeId) (k g off d : Nat) (ho : o.op = .fieldAddr T (.tmp t) k) (hr : ∀ w, (Instr.fieldAt T (.pointer (some ⟨g, off, none⟩)) k).run P w = .ok (.pointer (some ⟨g, off + d, none⟩)) w)
    (hx : a.eval (.tmp t) = .pointer (some ⟨g, off, none⟩)) (h : K (a.put o.dst (.pointer (some ⟨g, off + d, none⟩))) w) : o.wp P a w K Q := by
  unfold Oper.wp execOp
  simp only [ho, hx, Sem.run_bind, hr, Result.andThen_ok, Sem.run_pure, Oper.upon]
  exact h
theorem op_assign (t : Tmp) (c : Value) (ho : o.op = .assign (.tmp t)) (hx : a.eval (.tmp t) = c) (h : K (a.put o.dst c) w) : o.wp P a w K Q := by
  unfold Oper.wp execOp
  simp only [ho, hx, Sem.run_pure, Oper.upon]
  exact h
end

/-! ### The law with slots -/
def dstOf (ops : Array Oper) (i : Nat) : Option Tmp := (ops[i]?).bind (·.dst)
def waits (o : Oper) (j : Nat) : Bool := o.after.any fun e => Region.binds .any e && e.on == j
/-- Unguarded, each with a slot of its own or with none, each waiting for elder ones alone. -/
def okMd (ops : Array Oper) (N : Nat) : Bool :=
  okEls ops && (List.range ops.size).all fun i => match dstOf ops i with
    | some d => decide (d < N) && (List.range ops.size).all (fun j => j == i || dstOf ops j != some d)
    | none => true
theorem dst_lt {ops : Array Oper} {i : Nat} {d : Tmp} (h : dstOf ops i = some d) : i < ops.size := by
  unfold dstOf at h
  cases ho : ops[i]? with
  | none => rw [ho] at h; cases h
  | some o => exact (Array.getElem?_eq_some_iff.1 ho).1
theorem okMd_at {ops : Array Oper} {N : Nat} (h : okMd ops N = true) : okEls ops = true ∧ ∀ i d, dstOf ops i = some d → d < N ∧ ∀ j, dstOf ops j = some d → j = i := by
  unfold okMd at h
  rw [Bool.and_eq_true, List.all_eq_true] at h
  refine ⟨h.1, fun i d hd => ?_⟩
  have h1 := h.2 i (List.mem_range.2 (dst_lt hd))
  rw [hd] at h1
  simp only [Bool.and_eq_true, decide_eq_true_eq, List.all_eq_true, List.mem_range] at h1
  refine ⟨h1.1, fun j hj => ?_⟩
  have := h1.2 j (dst_lt hj)
  simpa [hj] using this
/-- Whoever writes the slot t is i itself, or waits for it. -/
def keepOk (ops : Array Oper) (i : Nat) (t : Tmp) : Bool := (List.range ops.size).all fun j => match ops[j]? with
  | some oj => oj.dst != some t || (j == i || waits oj i)
  | none => true
/-- Nobody writes the slot t. -/
def noneW (ops : Array Oper) (t : Tmp) : Bool := (List.range ops.size).all fun j => dstOf ops j != some t
structure Md (ops : Array Oper) (N : Nat) (a0 : Act) (val : (Nat → Bool) → Nat → Value → World → Prop) (J : (Nat → Bool) → World → Prop) (L : Nat → Bool) (a : Act) (w : World) : Prop where
  size : a.tmps.size = N
  defs : a.defers = a0.defers
  kept : ∀ t, (∀ i, L i = true → dstOf ops i ≠ some t) → a.tmps.getD t undef = a0.tmps.getD t undef
  done : ∀ i d, L i = true → dstOf ops i = some d → val L i (a.tmps.getD d undef) w
  clos : ∀ i o, ops[i]? = some o → L i = true → ∀ j, waits o j = true → L j = true
  inv : J L w
def Owe (P : Program) (ops : Array Oper) (Q : Exit → Act → World → Prop) (N : Nat) (a0 : Act) (val : (Nat → Bool) → Nat → Value → World → Prop) (J : (Nat → Bool) → World → Prop) (i : Nat) (o : Oper) : Prop :=
  ∀ L a w, L i = false → (∀ j, waits o j = true → L j = true) → (∀ j oj, ops[j]? = some oj → waits oj i = true → L j = false) → J L w → a.tmps.size = N →
    (∀ t, keepOk ops i t = true → a.tmps.getD t undef = a0.tmps.getD t undef) → (∀ j d, L j = true → dstOf ops j = some d → val L j (a.tmps.getD d undef) w) →
    o.wp P a w (fun a' w' => ∃ v, a' = a.put o.dst v ∧ (o.dst.isSome = true → val (up L i) i v w') ∧ J (up L i) w' ∧ ∀ j d, L j = true → dstOf ops j = some d → val (up L i) j (a.tmps.getD d undef) w') Q
theorem put_ne (a : Act) (d t : Nat) (v : Value) (h : d ≠ t) : (a.put (some d) v).tmps.getD t undef = a.tmps.getD t undef := by
  simp [Act.put, Array.getD_eq_getD_getElem?, h]
theorem put_eq (a : Act) (d : Nat) (v : Value) (h : d < a.tmps.size) : (a.put (some d) v).tmps.getD d undef = v := by
  simp [Act.put, h]
theorem put_size (a : Act) (d : Option Nat) (v : Value) : (a.put d v).tmps.size = a.tmps.size := by
  cases d <;> simp [Act.put]
theorem put_defs (a : Act) (d : Option Nat) (v : Value) : (a.put d v).defers = a.defers := by cases d <;> rfl
section
variable {P : Program} {ops : Array Oper} {Q : Exit → Act → World → Prop} {N : Nat} {a0 : Act} {w0 : World} {val : (Nat → Bool) → Nat → Value → World → Prop} {J : (Nat → Bool) → World → Prop} {L : Nat → Bool} {a : Act} {w w' : World} {i : Nat} {o : Oper}
theorem Md.not (hm : Md ops N a0 val J L a w) (hLi : L i = false) : ∀ j oj, ops[j]? = some oj → waits oj i = true → L j = false := by
  intro j oj hoj hwj
  cases e : L j
  · rfl
  · rw [hm.clos j oj hoj e i hwj] at hLi
    cases hLi
theorem Md.keepAt (hm : Md ops N a0 val J L a w) (hLi : L i = false) (t : Tmp) (ht : keepOk ops i t = true) : a.tmps.getD t undef = a0.tmps.getD t undef := by
  refine hm.kept t (fun j hj hdj => ?_)
  unfold keepOk at ht
  rw [List.all_eq_true] at ht
  have h1 := ht j (List.mem_range.2 (dst_lt hdj))
  cases hoj : ops[j]? with
  | none => unfold dstOf at hdj; rw [hoj] at hdj; cases hdj
  | some oj =>
    rw [hoj] at h1
    have e : oj.dst = some t := by unfold dstOf at hdj; rw [hoj] at hdj; exact hdj
    simp only [e, bne_self_eq_false, Bool.false_or, Bool.or_eq_true, beq_iff_eq] at h1
    rcases h1 with rfl | h1
    · rw [hj] at hLi; cases hLi
    · rw [hm.not hLi j oj hoj h1] at hj; cases hj
theorem Md.step (hok : okMd ops N = true) (hm : Md ops N a0 val J L a w) (ho : ops[i]? = some o) (hw : ∀ j, waits o j = true → L j = true) {v : Value} (hv : o.dst.isSome = true → val (up L i) i v w') (hJ : J (up L i) w') (hmono : ∀ j d, L j = true → dstOf ops j = some d → val (up L i) j (a.tmps.getD d undef) w') :
    Md ops N a0 val J (up L i) (a.put o.dst v) w' := by
  obtain ⟨-, hd⟩ := okMd_at hok
  have hdi : dstOf ops i = o.dst := by unfold dstOf; rw [ho]; rfl
  refine ⟨(put_size _ _ _).trans hm.size, (put_defs _ _ _).trans hm.defs, fun t ht => ?_, fun j d hj hdj => ?_, fun j oj hoj hj x hx => ?_, hJ⟩
  · have h1 := ht i (up_self L i)
    rw [hdi] at h1
    have h2 := hm.kept t (fun j hj => ht j (by unfold up; split <;> first | rfl | exact hj))
    rw [← h2]
    cases e : o.dst with
    | none => rfl
    | some d => exact put_ne _ _ _ _ (fun e2 => h1 (by rw [e, e2]))
  · by_cases hij : i = j
    · subst hij
      rw [hdi] at hdj
      rw [hdj]
      rw [put_eq _ _ _ (by rw [hm.size]; exact (hd i d (hdi.trans hdj)).1)]
      exact hv (by rw [hdj]; rfl)
    · rw [up_ne hij] at hj
      have hne : o.dst ≠ some d := fun e => hij ((hd j d hdj).2 i (hdi.trans e))
      have e2 : (a.put o.dst v).tmps.getD d undef = a.tmps.getD d undef := by
        cases e : o.dst with
        | none => rfl
        | some d' => exact put_ne _ _ _ _ (fun e2 => hne (by rw [e, e2]))
      rw [e2]
      exact hmono j d hj hdj
  · by_cases hij : i = j
    · subst hij
      rw [ho] at hoj
      cases hoj
      unfold up
      split
      · rfl
      · exact hw x hx
    · rw [up_ne hij] at hj
      unfold up
      split
      · rfl
      · exact hm.clos j oj hoj hj x hx
theorem wp_region_md {id : Nat} (val : (Nat → Bool) → Nat → Value → World → Prop) (J : (Nat → Bool) → World → Prop) (hf : P.follows .mixedOrders = true) (hok : okMd ops N = true) (hN : a0.tmps.size = N) (h0 : ∀ w1, Below w0.heap.size w0 w1 → J (fun _ => false) w1)
    (hown : ∀ i o, ops[i]? = some o → Owe P ops Q N a0 val J i o)
    (hend : ∀ L a w, (∀ i, i < ops.size → L i = true) → J L w → a.tmps.size = N → a.defers = a0.defers → (∀ t, noneW ops t = true → a.tmps.getD t undef = a0.tmps.getD t undef) → (∀ i d, dstOf ops i = some d → val L i (a.tmps.getD d undef) w) → Q .normal a w) :
    (Code.region id ops true).wp P Q a0 w0 := by
  refine wp_region_inv (Md ops N a0 val J) hf (okMd_at hok).1 (fun w1 hw1 => ⟨hN, rfl, fun _ _ => rfl, by simp, by simp, h0 w1 hw1⟩) ?_ ?_
  · intro L a w i o ho hm hLi hw
    refine Oper.wp_mono ?_ (hown i o ho L a w hLi hw (hm.not hLi) hm.inv hm.size (hm.keepAt hLi) hm.done)
    rintro a' w' ⟨v, rfl, hv, hJ, hmono⟩
    exact hm.step hok ho hw hv hJ hmono
  · intro L a w hall hm
    refine hend L a w hall hm.inv hm.size hm.defs (fun t ht => hm.kept t (fun i _ e => ?_)) (fun i d hdi => hm.done i d (hall i (dst_lt hdi)) hdi)
    unfold noneW at ht
    rw [List.all_eq_true] at ht
    have := ht i (List.mem_range.2 (dst_lt e))
    simp [e] at this

/-! ### All but the last only make memory -/
/-- The last one waits for all others. -/
def lastOk (ops : Array Oper) (n : Nat) : Bool := decide (n + 1 = ops.size) && (List.range n).all fun i => match ops[n]? with
  | some o => waits o i || (List.range n).any (fun j => waits o j && (match ops[j]? with | some oj => waits oj i | none => false))
  | none => false
def OweG (P : Program) (ops : Array Oper) (Q : Exit → Act → World → Prop) (a0 : Act) (w0 : World) (val : Nat → Value → World → Prop) (i : Nat) (o : Oper) : Prop :=
  ∀ a w, Below w0.heap.size w0 w → (∀ t, keepOk ops i t = true → a.tmps.getD t undef = a0.tmps.getD t undef) → (∀ j d, waits o j = true → dstOf ops j = some d → val j (a.tmps.getD d undef) w) →
    o.wp P a w (fun a' w' => ∃ v, a' = a.put o.dst v ∧ val i v w' ∧ Below w.heap.size w w') Q
theorem wp_region_grow {id : Nat} (n : Nat) (val : Nat → Value → World → Prop) (hf : P.follows .mixedOrders = true) (hok : okMd ops N = true) (hlast : lastOk ops n = true) (hN : a0.tmps.size = N)
    (hmono : ∀ i v w w', val i v w → Below w.heap.size w w' → val i v w')
    (hown : ∀ i o, i < n → ops[i]? = some o → OweG P ops Q a0 w0 val i o)
    (hlo : ∀ o a w, ops[n]? = some o → Below w0.heap.size w0 w → a.tmps.size = N → a.defers = a0.defers → (∀ t, keepOk ops n t = true → a.tmps.getD t undef = a0.tmps.getD t undef) → (∀ i d, i < n → dstOf ops i = some d → val i (a.tmps.getD d undef) w) → o.wp P a w (Q .normal) Q) :
    (Code.region id ops true).wp P Q a0 w0 := by
  have hsz : n + 1 = ops.size ∧ ∀ i, i < n → ∀ o, ops[n]? = some o → waits o i = true ∨ ∃ j oj, waits o j = true ∧ ops[j]? = some oj ∧ waits oj i = true := by
    unfold lastOk at hlast
    rw [Bool.and_eq_true, decide_eq_true_eq, List.all_eq_true] at hlast
    refine ⟨hlast.1, fun i hi o ho => ?_⟩
    have h1 := hlast.2 i (List.mem_range.2 hi)
    rw [ho] at h1
    simp only [Bool.or_eq_true, List.any_eq_true, List.mem_range, Bool.and_eq_true] at h1
    rcases h1 with h1 | ⟨j, -, h1, h2⟩
    · exact Or.inl h1
    · cases hoj : ops[j]? with
      | none => rw [hoj] at h2; cases h2
      | some oj => rw [hoj] at h2; exact Or.inr ⟨j, oj, h1, hoj, h2⟩
  refine wp_region_inv (fun L a w => (L n = true → Q .normal a w ∧ ∀ i, i < ops.size → L i = true) ∧ (L n = false → Md ops N a0 (fun _ => val) (fun _ w => Below w0.heap.size w0 w) L a w)) hf (okMd_at hok).1 (fun w1 hw1 => ⟨fun h => Bool.noConfusion h, fun _ => ⟨hN, rfl, fun _ _ => rfl, by simp, by simp, hw1⟩⟩) ?_ ?_
  · intro L a w i o ho hI hLi hw
    have hi : i < ops.size := (Array.getElem?_eq_some_iff.1 ho).1
    cases hLn : L n with
    | true =>
      rw [(hI.1 hLn).2 i hi] at hLi
      cases hLi
    | false =>
      have hm := hI.2 hLn
      by_cases hin : i = n
      · subst hin
        have hall : ∀ j, j < i → L j = true := by
          intro j hj
          rcases hsz.2 j hj o ho with h1 | ⟨k, ok, h1, h2, h3⟩
          · exact hw j h1
          · exact hm.clos k ok h2 (hw k h1) j h3
        refine Oper.wp_mono ?_ (hlo o a w ho hm.inv hm.size hm.defs (hm.keepAt hLi) (fun j d hj hd => hm.done j d (hall j hj) hd))
        intro a' w' hQ
        refine ⟨fun _ => ⟨hQ, fun j hj => ?_⟩, fun h => ?_⟩
        · unfold up
          split
          · rfl
          · exact hall j (by omega)
        · rw [up_self] at h
          cases h
      · have hil : i < n := by omega
        refine Oper.wp_mono ?_ (hown i o hil ho a w hm.inv (hm.keepAt hLi) (fun j d hj hd => hm.done j d (hw j hj) hd))
        rintro a' w' ⟨v, rfl, hv, hB⟩
        refine ⟨fun h => ?_, fun _ => hm.step hok ho hw (fun _ => hv) (hm.inv.trans (hB.mono hm.inv.size)) (fun j d hj hd => hmono j _ _ _ (hm.done j d hj hd) hB)⟩
        rw [up_ne hin, hLn] at h
        cases h
  · intro L a w hall hI
    exact (hI.1 (hall n (by omega))).1
end
section
variable {P : Program} {o : Oper} {a : Act} {w : World} {Q : Exit → Act → World → Prop} {K : Act → World → Prop}
theorem op_move (t : Tmp) (c : Value) (ho : o.op = .move (.tmp t)) (hx : a.tmps.getD t undef = c) (h : K (a.put o.dst c) w) : o.wp P a w K Q := by
  have hx' : a.eval (.tmp t) = c := hx
  unfold Oper.wp execOp
  simp only [ho, hx', Sem.run_pure, Oper.upon]
  exact h
theorem op_nil (t : Tmp) (g off : Nat) (ho : o.op = .nilCheck (.tmp t)) (hx : a.tmps.getD t undef = pt g off) (h : K (a.put o.dst (pt g off)) w) : o.wp P a w K Q := by
  have hx' : a.eval (.tmp t) = pt g off := hx
  unfold Oper.wp execOp
  simp only [ho, hx', Sem.run_pure, Oper.upon]
  exact h
theorem op_extract (t : Tmp) (k : Nat) (vs : Array Value) (c : Value) (ho : o.op = .extract (.tmp t) k) (hx : a.tmps.getD t undef = .tuple vs) (hc : vs[k]? = some c) (h : K (a.put o.dst c) w) : o.wp P a w K Q := by
  have hx' : a.eval (.tmp t) = .tuple vs := hx
  unfold Oper.wp execOp
  simp [ho, hx', Instr.extract, hc]
  exact h
theorem op_len (t : Tmp) (T : TypeId) (n : Nat) (ho : o.op = Op.call { callee := Callee.builtin Builtin.len, args := #[.tmp t], argTypes := #[T] }) (v : Value) (hx : a.tmps.getD t undef = v) (hr : ∀ ty, (Builtin.len_ #[T] ty #[v]).run P w = .ok (nu n) w) (h : K (a.put o.dst (nu n)) w) : o.wp P a w K Q := by
  have hx' : a.eval (.tmp t) = v := hx
  unfold Oper.wp execOp
  simp [ho, resolve, invoke, builtin, hx', hr, Result.andThen]
  exact h
end
/-- The frame behind a region whose slots are known. -/
theorem frame_at {ops : Array Oper} {A : Array Value} {c : Nat → Value} (hv : ∀ i d, dstOf ops i = some d → A.getD d undef = c i) : ∀ (l : List Nat) (B : Array Value), B.size = A.size → (∀ t, t < A.size → (∀ i ∈ l, dstOf ops i ≠ some t) → B.getD t undef = A.getD t undef) →
    l.foldl (fun B i => match dstOf ops i with | some d => B.setIfInBounds d (c i) | none => B) B = A
  | [], B, hs, hB => by
    apply Array.ext hs
    intro i h1 h2
    have := hB i h2 (by simp)
    simpa [h1, h2] using this
  | i :: l, B, hs, hB => by
    rw [List.foldl_cons]
    cases e : dstOf ops i with
    | none =>
      refine frame_at hv l B hs (fun t ht hl => hB t ht (fun j hj => ?_))
      rcases List.mem_cons.1 hj with rfl | hj
      · rw [e]; simp
      · exact hl j hj
    | some d =>
      refine frame_at hv l (B.setIfInBounds d (c i)) (by simpa using hs) (fun t ht hl => ?_)
      by_cases hd : d = t
      · subst hd
        rw [hv i d e]
        have : d < B.size := by rw [hs]; exact ht
        simp [this]
      · have h1 := hB t ht (fun j hj => by
          rcases List.mem_cons.1 hj with rfl | hj
          · rw [e]; simpa using hd
          · exact hl j hj)
        rw [← h1]
        simp [Array.getD_eq_getD_getElem?, hd]
theorem frame_of {ops : Array Oper} {a a0 : Act} {c : Nat → Value} (hs : a.tmps.size = a0.tmps.size) (hk : ∀ t, noneW ops t = true → a.tmps.getD t undef = a0.tmps.getD t undef) (hv : ∀ i d, dstOf ops i = some d → a.tmps.getD d undef = c i) :
    a.tmps = (List.range ops.size).foldl (fun B i => match dstOf ops i with | some d => B.setIfInBounds d (c i) | none => B) a0.tmps := by
  refine (frame_at hv _ _ hs.symm (fun t _ hl => (hk t ?_).symm)).symm
  unfold noneW
  rw [List.all_eq_true]
  intro j hj
  have := hl j hj
  simpa using this
/-- What the slots hold: those of S something that hangs on what has come up, the others one value each. -/
def vS (S : List Nat) (vs : (Nat → Bool) → Nat → Value → World → Prop) (cs : List Value) (L : Nat → Bool) (i : Nat) (v : Value) (w : World) : Prop := if i ∈ S then vs L i v w else v = cs.getD i undef
section
variable {P : Program} {ops : Array Oper} {Q : Exit → Act → World → Prop} {N : Nat} {a0 : Act} {w0 : World} {S : List Nat} {vs : (Nat → Bool) → Nat → Value → World → Prop} {cs : List Value}
theorem vS_c {L : Nat → Bool} {i : Nat} {v : Value} {w : World} (h : vS S vs cs L i v w) (hi : i ∉ S) : v = cs.getD i undef := by
  unfold vS at h
  rwa [if_neg hi] at h
theorem vS_s {L : Nat → Bool} {i : Nat} {v : Value} {w : World} (h : vS S vs cs L i v w) (hi : i ∈ S) : vs L i v w := by
  unfold vS at h
  rwa [if_pos hi] at h
def Cst (ops : Array Oper) (S : List Nat) (cs : List Value) (a : Act) (o : Oper) : Prop := ∀ j d, waits o j = true → j ∉ S → dstOf ops j = some d → a.tmps.getD d undef = cs.getD j undef
def Kpt (ops : Array Oper) (a0 a : Act) (i : Nat) : Prop := ∀ t, keepOk ops i t = true → a.tmps.getD t undef = a0.tmps.getD t undef
/-- An operation that only answers. -/
def OweC (P : Program) (ops : Array Oper) (Q : Exit → Act → World → Prop) (a0 : Act) (w0 : World) (S : List Nat) (cs : List Value) (i : Nat) (o : Oper) : Prop :=
  ∀ (a : Act) (w : World), Below w0.heap.size w0 w → Kpt ops a0 a i → Cst ops S cs a o → ∀ K : Act → World → Prop, K (a.put o.dst (cs.getD i undef)) w → o.wp P a w K Q
/-- An operation that makes memory. -/
def OweS (P : Program) (ops : Array Oper) (Q : Exit → Act → World → Prop) (a0 : Act) (w0 : World) (S : List Nat) (vs : (Nat → Bool) → Nat → Value → World → Prop) (cs : List Value) (i : Nat) (o : Oper) : Prop :=
  ∀ (L : Nat → Bool) (a : Act) (w : World), L i = false → (∀ j, waits o j = true → L j = true) → (∀ j oj, ops[j]? = some oj → waits oj i = true → L j = false) → (∀ j oj, ops[j]? = some oj → L j = true → ∀ q, waits oj q = true → L q = true) → Below w0.heap.size w0 w → Kpt ops a0 a i → Cst ops S cs a o →
    (∀ j d, L j = true → j ∈ S → dstOf ops j = some d → vs L j (a.tmps.getD d undef) w) →
    o.wp P a w (fun a' w' => ∃ v, a' = a.put o.dst v ∧ vs (up L i) i v w' ∧ Below w0.heap.size w0 w' ∧ ∀ j d, L j = true → j ∈ S → dstOf ops j = some d → vs (up L i) j (a.tmps.getD d undef) w') Q
theorem wp_region_chain {id : Nat} (n : Nat) (S : List Nat) (vs : (Nat → Bool) → Nat → Value → World → Prop) (cs : List Value) (hf : P.follows .mixedOrders = true) (hok : okMd ops N = true) (hlast : lastOk ops n = true) (hN : a0.tmps.size = N)
    (hvs : ∀ i, i ∉ S → i < n → ∀ L j u w, vs L j u w → vs (up L i) j u w)
    (hc : ∀ i o, i < n → i ∉ S → ops[i]? = some o → OweC P ops Q a0 w0 S cs i o)
    (hs : ∀ i o, i < n → i ∈ S → ops[i]? = some o → OweS P ops Q a0 w0 S vs cs i o)
    (hlo : ∀ L o a w, (∀ i, i < n → L i = true) → L n = false → ops[n]? = some o → Below w0.heap.size w0 w → a.tmps.size = N → a.defers = a0.defers → Kpt ops a0 a n → (∀ i d, i < n → i ∉ S → dstOf ops i = some d → a.tmps.getD d undef = cs.getD i undef) → (∀ i d, i < n → i ∈ S → dstOf ops i = some d → vs L i (a.tmps.getD d undef) w) → o.wp P a w (Q .normal) Q) :
    (Code.region id ops true).wp P Q a0 w0 := by
  have hsz : n + 1 = ops.size ∧ ∀ i, i < n → ∀ o, ops[n]? = some o → waits o i = true ∨ ∃ j oj, waits o j = true ∧ ops[j]? = some oj ∧ waits oj i = true := by
    unfold lastOk at hlast
    rw [Bool.and_eq_true, decide_eq_true_eq, List.all_eq_true] at hlast
    refine ⟨hlast.1, fun i hi o ho => ?_⟩
    have h1 := hlast.2 i (List.mem_range.2 hi)
    rw [ho] at h1
    simp only [Bool.or_eq_true, List.any_eq_true, List.mem_range, Bool.and_eq_true] at h1
    rcases h1 with h1 | ⟨j, -, h1, h2⟩
    · exact Or.inl h1
    · cases hoj : ops[j]? with
      | none => rw [hoj] at h2; cases h2
      | some oj => rw [hoj] at h2; exact Or.inr ⟨j, oj, h1, hoj, h2⟩
  refine wp_region_inv (fun L a w => (L n = true → Q .normal a w ∧ ∀ i, i < ops.size → L i = true) ∧ (L n = false → Md ops N a0 (vS S vs cs) (fun _ w => Below w0.heap.size w0 w) L a w)) hf (okMd_at hok).1 (fun w1 hw1 => ⟨fun h => Bool.noConfusion h, fun _ => ⟨hN, rfl, fun _ _ => rfl, by simp, by simp, hw1⟩⟩) ?_ ?_
  · intro L a w i o ho hI hLi hw
    have hi : i < ops.size := (Array.getElem?_eq_some_iff.1 ho).1
    cases hLn : L n with
    | true =>
      rw [(hI.1 hLn).2 i hi] at hLi
      cases hLi
    | false =>
      have hm := hI.2 hLn
      by_cases hin : i = n
      · subst hin
        have hall : ∀ j, j < i → L j = true := by
          intro j hj
          rcases hsz.2 j hj o ho with h1 | ⟨k, ok, h1, h2, h3⟩
          · exact hw j h1
          · exact hm.clos k ok h2 (hw k h1) j h3
        refine Oper.wp_mono ?_ (hlo L o a w hall hLn ho hm.inv hm.size hm.defs (hm.keepAt hLi) (fun j d hj hjs hd => vS_c (hm.done j d (hall j hj) hd) hjs) (fun j d hj hjs hd => vS_s (hm.done j d (hall j hj) hd) hjs))
        intro a' w' hQ
        refine ⟨fun _ => ⟨hQ, fun j hj => ?_⟩, fun h => ?_⟩
        · unfold up
          split
          · rfl
          · exact hall j (by omega)
        · rw [up_self] at h
          cases h
      · have hil : i < n := by omega
        have hcst : Cst ops S cs a o := fun j d hj hjs hd => vS_c (hm.done j d (hw j hj) hd) hjs
        by_cases hiS : i ∈ S
        · refine Oper.wp_mono ?_ (hs i o hil hiS ho L a w hLi hw (hm.not hLi) hm.clos hm.inv (hm.keepAt hLi) hcst (fun j d hj hjs hd => vS_s (hm.done j d hj hd) hjs))
          rintro a' w' ⟨v, rfl, hv, hB, hmono⟩
          refine ⟨fun h => ?_, fun _ => hm.step hok ho hw (fun _ => ?_) hB (fun j d hj hd => ?_)⟩
          · rw [up_ne hin, hLn] at h
            cases h
          · unfold vS
            rw [if_pos hiS]
            exact hv
          · have h0 := hm.done j d hj hd
            unfold vS at h0 ⊢
            by_cases hjs : j ∈ S
            · rw [if_pos hjs]
              exact hmono j d hj hjs hd
            · rw [if_neg hjs] at h0 ⊢
              exact h0
        · refine hc i o hil hiS ho a w hm.inv (hm.keepAt hLi) hcst _ ⟨fun h => ?_, fun _ => hm.step hok ho hw (fun _ => ?_) hm.inv (fun j d hj hd => ?_)⟩
          · rw [up_ne hin, hLn] at h
            cases h
          · unfold vS
            rw [if_neg hiS]
          · have h0 := hm.done j d hj hd
            unfold vS at h0 ⊢
            by_cases hjs : j ∈ S
            · rw [if_pos hjs] at h0 ⊢
              exact hvs i hiS hil L j _ w h0
            · rw [if_neg hjs] at h0 ⊢
              exact h0
  · intro L a w hall hI
    exact (hI.1 (hall n (by omega))).1
end
/-- A piece of a list: m elements, whose cells are news. -/
def Pc (w : World) (size : Nat) (x : Value) (m : Nat) (news : List Value) : Prop := news.length = m * size ∧ ∃ a c, x = .slice a m c ∧ (m ≠ 0 → ∃ ad, a = some ad ∧ ∀ j u, news[j]? = some u → w.cell? (ad.add j) = some u)
section
variable {P : Program} {w : World} {o : Oper} {a : Act} {Q : Exit → Act → World → Prop} {K : Act → World → Prop}
theorem run_append_pc (base : Nat) (t ty e : TypeId) (z : Value) (size bytes : Nat) (ht : P.underlying t = some (.slice e)) (hinfo : (P.info? e).map (fun i => (i.zero, i.size, i.bytes)) = some (some z, size, bytes)) (hzs : z.cells.size = size) (hsz : 0 < size)
    (v x : Value) (n m : Nat) (xs news : List Value) (hown : w.ownsRow base e size v n xs) (hp : Pc w size x m news) (h1 : ∀ u ∈ news, u.oneCell' = true) (hnm : n + m ≤ 1000000) (hby : bytes ≤ 1000) (hbase : base ≤ w.heap.size) :
    ∃ v' w', (Builtin.append_ #[t, t] ty #[v, x]).run P w = .ok v' w' ∧ w'.ownsRow base e size v' (n + m) (xs ++ news) ∧ w.grownBy w' v.ownBlock ∧ (v'.ownBlock = v.ownBlock ∨ v'.ownBlock = some w.heap.size) := by
  obtain ⟨i, hi, hz0, hz1, hz2⟩ := info_parts hinfo
  obtain ⟨hl, ax, c, rfl, hc⟩ := hp
  have hb : (n + m) * bytes ≤ 140737488355328 := by
    have := Nat.mul_le_mul hnm hby
    omega
  cases ax with
  | some ad =>
    have hnews : ∀ j u, news[j]? = some u → w.cell? (ad.add j) = some u := by
      intro j u hj
      by_cases hm : m = 0
      · subst hm
        have : news = [] := List.eq_nil_of_length_eq_zero (by simpa using hl)
        rw [this] at hj
        simp at hj
      · obtain ⟨ad', e1, h2⟩ := hc hm
        cases e1
        exact h2 j u hj
    obtain ⟨v', w', g1, g2, g3, -, g5⟩ := run_append_own_at (P := P) w base t ty e i z size bytes ht hi hz0 hz1 hz2 hzs hsz v n xs hown ad m c news hl hnews h1 (by unfold maxLen; omega) hb hbase
    exact ⟨v', w', g1, g2, g3, g5⟩
  | none =>
    have hm : m = 0 := by
      by_cases hm : m = 0
      · exact hm
      · obtain ⟨ad', e1, -⟩ := hc hm
        cases e1
    subst hm
    have hn : news = [] := List.eq_nil_of_length_eq_zero (by simpa using hl)
    subst hn
    refine ⟨v, w, ?_, by simpa using hown, ⟨rfl, rfl, rfl, Nat.le_refl _, fun _ _ _ => rfl⟩, Or.inl rfl⟩
    rcases hown.2 with ⟨rfl, rfl⟩ | ⟨g, cap, cur, rfl, -, -, hnc, -⟩
    · simp [Builtin.append_, run_underlying ht, sizeOf, typeInfo, hi, Builtin.lenOf, Builtin.firstCells]
    · simp [Builtin.append_, run_underlying ht, sizeOf, typeInfo, hi, Builtin.lenOf, Builtin.firstCells, hnc, storeCells]
theorem op_append (s x : Tmp) (base : Nat) (t e : TypeId) (z : Value) (size bytes : Nat) (ho : o.op = .call { callee := .builtin .append, args := #[.tmp s, .tmp x], argTypes := #[t, t] }) (ht : P.underlying t = some (.slice e)) (hinfo : (P.info? e).map (fun i => (i.zero, i.size, i.bytes)) = some (some z, size, bytes)) (hzs : z.cells.size = size) (hsz : 0 < size)
    (n m : Nat) (xs news : List Value) (hown : w.ownsRow base e size (a.tmps.getD s undef) n xs) (hp : Pc w size (a.tmps.getD x undef) m news) (h1 : ∀ u ∈ news, u.oneCell' = true) (hnm : n + m ≤ 1000000) (hby : bytes ≤ 1000) (hbase : base ≤ w.heap.size)
    (h : ∀ v' w', w'.ownsRow base e size v' (n + m) (xs ++ news) → w.grownBy w' (a.tmps.getD s undef).ownBlock → K (a.put o.dst v') w') : o.wp P a w K Q := by
  obtain ⟨v', w', hr, g1, g2, -⟩ := run_append_pc (P := P) (w := w) base t o.type e z size bytes ht hinfo hzs hsz _ _ n m xs news hown hp h1 hnm hby hbase
  have e1 : a.eval (.tmp s) = a.tmps.getD s undef := rfl
  have e2 : a.eval (.tmp x) = a.tmps.getD x undef := rfl
  unfold Oper.wp execOp
  simp only [ho, resolve, invoke, builtin, Sem.run_bind, Sem.run_pure, Result.andThen_ok, List.map_toArray, List.map_cons, List.map_nil, e1, e2, hr]
  exact h v' w' g1 g2
theorem op_bs0 (t e : TypeId) (ho : o.op = .buildSlice t 0 #[]) (ht : P.underlying t = some (.slice e)) (size : Nat) (hi : (P.info? e).map (·.size) = some size)
    (h : K (a.put o.dst (.slice (some ⟨w.heap.size, 0, none⟩) 0 0)) (w.alloc (.cells #[] e))) : o.wp P a w K Q := by
  cases hq : P.info? e with
  | none => simp [hq] at hi
  | some i =>
    have e0 : Array.map (fun _ => (default : Value)) (Array.range 0) = #[] := by simp
    have hr : (Instr.buildSlice t 0 #[]).run P w = .ok (.slice (some ⟨w.heap.size, 0, none⟩) 0 0) (w.alloc (.cells #[] e)) := by
      simp [Instr.buildSlice, run_underlying ht, sizeOf, typeInfo, hq, Instr.fill, newRow]
      rw [e0]
    unfold Oper.wp execOp
    simp only [ho, List.map_toArray, List.map_nil, Sem.run_bind, hr, Result.andThen_ok, Sem.run_pure]
    exact h
theorem op_bs1 (t e : TypeId) (y : Tmp) (ho : o.op = .buildSlice t 1 #[(0, .tmp y)]) (ht : P.underlying t = some (.slice e)) (z : Value) (size bytes : Nat) (hinfo : (P.info? e).map (fun i => (i.zero, i.size, i.bytes)) = some (some z, size, bytes)) (hsz : 0 < size) (hsm : size ≤ 1000)
    (v : Value) (hy : a.tmps.getD y undef = v) (cs : Array Value) (hcs : v.cells = cs) (hs : cs.size = size)
    (h : K (a.put o.dst (.slice (some ⟨w.heap.size, 0, none⟩) 1 1)) (w.alloc (.cells cs e))) : o.wp P a w K Q := by
  obtain ⟨i, hi, hz0, hz1, hz2⟩ := info_parts hinfo
  have hfill := Great.fill_whole (s := size) hsz [v] ((Array.range (1 * size)).map (z.cells[· % z.cells.size]!)) (by simp [hcs, hs]) (by simp)
  have e1 : ([v].flatMap fun v => v.cells.toList).toArray = cs := by simp [hcs]
  rw [e1] at hfill
  have ey : a.eval (.tmp y) = v := hy
  refine wp_buildSlice t e 1 _ ho cs i z ht hi hz0 (by rw [hz1]; omega) (by rw [hz1]; omega) (by rw [hz1]; simpa [ey] using hfill) h
theorem run_cutTo (t e : TypeId) (ht : P.underlying t = some (.slice e)) (size : Nat) (hi : (P.info? e).map (·.size) = some size) (ax : Option Addr) (len cap k : Nat) (hk : k ≤ cap) :
    (Instr.slice t (.slice ax len cap) none (some (nu k)) none).run P w = .ok (.slice (if cap = 0 then ax else ax.map (·.add 0)) k cap) w := by
  cases hq : P.info? e with
  | none => simp [hq] at hi
  | some i =>
    simp [Instr.slice, run_underlying ht, Instr.sliceBounds, Instr.sliceBound, asIntOf, sizeOf, typeInfo, hq]
    intro h
    omega
theorem run_cutFrom (t e : TypeId) (ht : P.underlying t = some (.slice e)) (size : Nat) (hi : (P.info? e).map (·.size) = some size) (ax : Option Addr) (len cap k : Nat) (hk : k ≤ len) :
    (Instr.slice t (.slice ax len cap) (some (nu k)) none none).run P w = .ok (.slice (if cap = k then ax else ax.map (·.add (k * size))) (len - k) (cap - k)) w := by
  cases hq : P.info? e with
  | none => simp [hq] at hi
  | some i =>
    have hs : i.size = size := by simpa [hq] using hi
    simp [Instr.slice, run_underlying ht, Instr.sliceBounds, Instr.sliceBound, asIntOf, sizeOf, typeInfo, hq, hs]
    intro h
    omega
theorem op_cutTo (x y : Tmp) (t e : TypeId) (ho : o.op = .slice t (.tmp x) none (some (.tmp y)) none) (ht : P.underlying t = some (.slice e)) (size : Nat) (hi : (P.info? e).map (·.size) = some size) (ax : Option Addr) (len cap k : Nat) (hk : k ≤ cap)
    (hx : a.tmps.getD x undef = .slice ax len cap) (hy : a.tmps.getD y undef = nu k) (h : K (a.put o.dst (.slice (if cap = 0 then ax else ax.map (·.add 0)) k cap)) w) : o.wp P a w K Q := by
  have ex : a.eval (.tmp x) = .slice ax len cap := hx
  have ey : a.eval (.tmp y) = nu k := hy
  unfold Oper.wp execOp
  simp [ho, ex, ey, Instr.sliceAt, run_underlying ht, run_cutTo (w := w) t e ht size hi ax len cap k hk]
  exact h
theorem op_cutFrom (x y : Tmp) (t e : TypeId) (ho : o.op = .slice t (.tmp x) (some (.tmp y)) none none) (ht : P.underlying t = some (.slice e)) (size : Nat) (hi : (P.info? e).map (·.size) = some size) (ax : Option Addr) (len cap k : Nat) (hk : k ≤ len)
    (hx : a.tmps.getD x undef = .slice ax len cap) (hy : a.tmps.getD y undef = nu k) (h : K (a.put o.dst (.slice (if cap = k then ax else ax.map (·.add (k * size))) (len - k) (cap - k))) w) : o.wp P a w K Q := by
  have ex : a.eval (.tmp x) = .slice ax len cap := hx
  have ey : a.eval (.tmp y) = nu k := hy
  unfold Oper.wp execOp
  simp [ho, ex, ey, Instr.sliceAt, run_underlying ht, run_cutFrom (w := w) t e ht size hi ax len cap k hk]
  exact h
end
/-- Pieces of a list of one's own. -/
theorem own_pc {w : World} {base e size n : Nat} {v : Value} {xs : List Value} (h : w.ownsRow base e size v n xs) : Pc w size v n xs := by
  refine ⟨h.1, ?_⟩
  have hc : ∀ {g : Nat}, v.ownBlock = some g → _ := fun {g} hg => h.cells (g := g) hg
  rcases h.2 with ⟨rfl, h0⟩ | ⟨g, cap, cur, rfl, -⟩
  · exact ⟨none, 0, by rw [h0], fun h => absurd h0 h⟩
  · exact ⟨_, cap, rfl, fun _ => ⟨_, rfl, hc rfl⟩⟩
theorem pc_kept {w w' : World} {size m : Nat} {x : Value} {news : List Value} {B : Nat} (h : Pc w size x m news) (hb : Below B w w') (hlt : ∀ k, x.ownBlock = some k → k < B) (hg : ∀ ad m' c, x = .slice (some ad) m' c → ad.block < B) : Pc w' size x m news := by
  obtain ⟨hl, ax, c, rfl, hc⟩ := h
  refine ⟨hl, ax, c, rfl, fun hm => ?_⟩
  obtain ⟨ad, rfl, h1⟩ := hc hm
  refine ⟨ad, rfl, fun j u hj => ?_⟩
  have h2 := h1 j u hj
  have : (ad.add j).block = ad.block := by unfold Addr.add; split <;> rfl
  rw [← h2]
  exact hb.cell (p := ad.add j) (by rw [this]; exact hg ad m c rfl)
section
variable {P : Program} {ops : Array Oper} {Q : Exit → Act → World → Prop} {N : Nat} {a0 : Act} {w0 : World}
def Csts (ops : Array Oper) (cs : List Value) (a : Act) (o : Oper) : Prop := ∀ j d, waits o j = true → dstOf ops j = some d → a.tmps.getD d undef = cs.getD j undef
theorem wp_region_two {id : Nat} (c1 c2 : Nat) (cs : List Value) (R J0 J1 J2 : World → Prop) (hf : P.follows .mixedOrders = true) (hok : okMd ops N = true) (hN : a0.tmps.size = N)
    (hc12 : ∀ o, ops[c2]? = some o → waits o c1 = true) (hne : c1 ≠ c2)
    (h0 : ∀ w1, Below w0.heap.size w0 w1 → J0 w1) (r0 : ∀ w, J0 w → R w) (r1 : ∀ w, J1 w → R w) (r2 : ∀ w, J2 w → R w)
    (hp : ∀ i o, i ≠ c1 → i ≠ c2 → ops[i]? = some o → ∀ (a : Act) (w : World), R w → Kpt ops a0 a i → Csts ops cs a o → ∀ K : Act → World → Prop, K (a.put o.dst (cs.getD i undef)) w → o.wp P a w K Q)
    (h1 : ∀ o, ops[c1]? = some o → ∀ (a : Act) (w : World), J0 w → Kpt ops a0 a c1 → Csts ops cs a o → ∀ K : Act → World → Prop, (∀ w', J1 w' → K (a.put o.dst (cs.getD c1 undef)) w') → o.wp P a w K Q)
    (h2 : ∀ o, ops[c2]? = some o → ∀ (a : Act) (w : World), J1 w → Kpt ops a0 a c2 → Csts ops cs a o → ∀ K : Act → World → Prop, (∀ w', J2 w' → K (a.put o.dst (cs.getD c2 undef)) w') → o.wp P a w K Q)
    (hlt : c1 < ops.size ∧ c2 < ops.size)
    (hend : ∀ a w, J2 w → a.tmps.size = N → a.defers = a0.defers → (∀ t, noneW ops t = true → a.tmps.getD t undef = a0.tmps.getD t undef) → (∀ i d, dstOf ops i = some d → a.tmps.getD d undef = cs.getD i undef) → Q .normal a w) :
    (Code.region id ops true).wp P Q a0 w0 := by
  refine wp_region_md (N := N) (fun _ i v _ => v = cs.getD i undef) (fun L w => (L c1 = false → J0 w) ∧ (L c1 = true → L c2 = false → J1 w) ∧ (L c2 = true → J2 w)) hf hok hN (fun w1 hw => ⟨fun _ => h0 w1 hw, fun h => Bool.noConfusion h, fun h => Bool.noConfusion h⟩) ?_ ?_
  · intro i o ho L a w hLi hw hnot hJ hs hk hv
    have hcs : Csts ops cs a o := fun j d hj hd => hv j d (hw j hj) hd
    by_cases e1 : i = c1
    · subst e1
      have h2f : L c2 = false := by
        cases h2c : ops[c2]? with
        | none => exact absurd hlt.2 (by have := Array.getElem?_eq_none_iff.1 h2c; omega)
        | some o2 => exact hnot c2 o2 h2c (hc12 o2 h2c)
      refine h1 o ho a w (hJ.1 hLi) hk hcs _ (fun w' hJ1 => ⟨_, rfl, fun _ => rfl, ⟨fun h => ?_, fun _ _ => hJ1, fun h => ?_⟩, fun j d hj hd => hv j d hj hd⟩)
      · rw [up_self] at h
        cases h
      · rw [up_ne hne, h2f] at h
        cases h
    · by_cases e2 : i = c2
      · subst e2
        have h1t : L c1 = true := hw c1 (hc12 o ho)
        refine h2 o ho a w (hJ.2.1 h1t hLi) hk hcs _ (fun w' hJ2 => ⟨_, rfl, fun _ => rfl, ⟨fun h => ?_, fun _ h => ?_, fun _ => hJ2⟩, fun j d hj hd => hv j d hj hd⟩)
        · rw [up_ne (fun e => hne e.symm), h1t] at h
          cases h
        · rw [up_self] at h
          cases h
      · have hR : R w := by
          cases h1c : L c1 with
          | false => exact r0 w (hJ.1 h1c)
          | true =>
            cases h2c : L c2 with
            | false => exact r1 w (hJ.2.1 h1c h2c)
            | true => exact r2 w (hJ.2.2 h2c)
        refine hp i o e1 e2 ho a w hR hk hcs _ ⟨_, rfl, fun _ => rfl, ?_, fun j d hj hd => hv j d hj hd⟩
        show (up L i c1 = false → J0 w) ∧ (up L i c1 = true → up L i c2 = false → J1 w) ∧ (up L i c2 = true → J2 w)
        rw [up_ne e1, up_ne e2]
        exact hJ
  · intro L a w hall hJ hs hd hk hv
    exact hend a w (hJ.2.2 (hall c2 hlt.2)) hs hd hk hv
end
section
variable {P : Program} {o : Oper} {a : Act} {w : World} {Q : Exit → Act → World → Prop} {K : Act → World → Prop}
theorem op_call (f : FuncId) (xs : List Operand) (ts : Array TypeId) (vs : Array Value) (v : Value) (ho : o.op = .call { callee := .value (.func f), args := xs.toArray, argTypes := ts }) (hc : ∀ args w, (callFunc f args).run P w = .ok (.enter f args) w) (hx : (xs.map a.eval).toArray = vs)
    {J : World → Prop} (hm : Calls P f vs w fun e w' => e = .returned v ∧ J w') (h : ∀ w', J w' → K (a.put o.dst v) w') : o.wp P a w K Q := by
  unfold Oper.wp execOp
  have e : (do let d ← resolve a.eval { callee := .value (.func f), args := xs.toArray, argTypes := ts } o.type; invoke d.target d.args : Sem Next).run P w = .ok (.enter f vs) w := by
    have e0 : a.eval (.func f) = .func (.func f) #[] #[] := rfl
    simp [resolve, Deferred.ofValue, invoke, hc, e0, hx]
  simp only [ho]
  rw [e]
  simp only [Oper.upon]
  refine hm.mono ?_
  rintro e w' ⟨rfl, hJ⟩
  exact h w' hJ
theorem op_eqlI (x y : Tmp) (T R : TypeId) (m n : Int) (ho : o.op = .binOp .eql T (.tmp x) (.tmp y) R) (hx : a.tmps.getD x undef = nu m) (hy : a.tmps.getD y undef = nu n) (h : K (a.put o.dst (.bool (m == n))) w) : o.wp P a w K Q := by
  have ex : a.eval (.tmp x) = nu m := hx
  have ey : a.eval (.tmp y) = nu n := hy
  unfold Oper.wp execOp
  simp [ho, ex, ey, eqGuard, binOp]
  exact h
theorem op_neqI (x y : Tmp) (T R : TypeId) (m n : Int) (ho : o.op = .binOp .neq T (.tmp x) (.tmp y) R) (hx : a.tmps.getD x undef = nu m) (hy : a.tmps.getD y undef = nu n) (h : K (a.put o.dst (.bool (!(m == n)))) w) : o.wp P a w K Q := by
  have ex : a.eval (.tmp x) = nu m := hx
  have ey : a.eval (.tmp y) = nu n := hy
  unfold Oper.wp execOp
  simp [ho, ex, ey, eqGuard, binOp]
  exact h
end
/-! ### Stores of one cell, and into the midst of a row -/
theorem cells_one {v : Value} (h : v.oneCell' = true) : v.cells = #[v] := by
  cases v <;> first | rfl | (exact absurd h (by simp [Value.oneCell']))
theorem run_store1 {P : Program} {w : World} {g off : Nat} {A C : List Value} {old v : Value} {t ty : TypeId} (hg : w.heap[g]? = some (.cells (A ++ ([old] ++ C)).toArray t)) (hA : A.length = off) (h1 : v.oneCell' = true) (hi : (P.info? ty).map (·.size) = some 1) :
    (storeVar ty ⟨g, off, none⟩ v).run P w = .ok () (w.setRow g (A ++ ([v] ++ C)).toArray) := by
  have e : ((A ++ ([old] ++ C)).toArray.toList.take off ++ [v] ++ (A ++ ([old] ++ C)).toArray.toList.drop (off + [v].length)) = A ++ ([v] ++ C) := by
    subst hA
    simp
  have hst := run_storeCells_at P g off t [v] 0 (A ++ ([old] ++ C)).toArray w hg (by subst hA; simp) (by simpa using h1)
  rw [Nat.add_zero, e] at hst
  cases hq : P.info? ty with
  | none => simp [hq] at hi
  | some i =>
    have hs : i.size = 1 := by simpa [hq] using hi
    simp [storeVar, sizeOf, typeInfo, hq, hs, cells_one h1]
    simpa using hst
section
variable {P : Program} {ops : Array Oper} {rest : List Oper} {o : Oper} {a : Act} {w : World} {Q : Exit → Act → World → Prop} {K : Act → World → Prop}
theorem wl_put1 (ty : TypeId) (x y : Operand) (ho : o.op = .store ty x y) (hn : o.dst = none) (g off : Nat) (hx : a.eval x = .pointer (some ⟨g, off, none⟩)) (hw : Region.wanted o (yielded ops a.tmps) = true)
    (A C : List Value) (old v : Value) (hy : a.eval y = v) (t : TypeId) (hg : w.heap[g]? = some (.cells (A ++ ([old] ++ C)).toArray t)) (hA : A.length = off) (h1 : v.oneCell' = true) (hi : (P.info? ty).map (·.size) = some 1)
    (h : ∀ w1, w1.heap[g]? = some (.cells (A ++ ([v] ++ C)).toArray t) → But g w w1 → wpList P ops Q rest a w1) : wpList P ops Q (o :: rest) a w := by
  refine BigFrame.wpList_want hw fun K hK => ?_
  have h' := hK _ _ (h _ (setRow_heap w g _ (A ++ ([v] ++ C)).toArray t (0, 0) hg) (but_setRow w g _))
  unfold Oper.wp execOp
  simp only [ho, hx, hy, Instr.storeAt, Instr.sureAddr, Sem.run_bind, Sem.run_pure, Result.andThen_ok, run_store1 hg hA h1 hi]
  show K (a.put o.dst undef) _
  rw [hn]
  exact h'
theorem op_put1 (ty : TypeId) (x y : Tmp) (ho : o.op = .store ty (.tmp x) (.tmp y)) (hn : o.dst = none) (g off : Nat) (hx : a.tmps.getD x undef = pt g off)
    (A C : List Value) (old v : Value) (hy : a.tmps.getD y undef = v) (t : TypeId) (hg : w.heap[g]? = some (.cells (A ++ ([old] ++ C)).toArray t)) (hA : A.length = off) (h1 : v.oneCell' = true) (hi : (P.info? ty).map (·.size) = some 1)
    (h : ∀ w1, w1.heap[g]? = some (.cells (A ++ ([v] ++ C)).toArray t) → But g w w1 → K a w1) : o.wp P a w K Q := by
  have ex : a.eval (.tmp x) = pt g off := hx
  have ey : a.eval (.tmp y) = v := hy
  have h' := h _ (setRow_heap w g _ (A ++ ([v] ++ C)).toArray t (0, 0) hg) (but_setRow w g _)
  unfold Oper.wp execOp
  simp only [ho, ex, ey, Instr.storeAt, Instr.sureAddr, Sem.run_bind, Sem.run_pure, Result.andThen_ok, run_store1 hg hA h1 hi]
  show K (a.put o.dst undef) _
  rw [hn]
  exact h'
theorem op_put (ty : TypeId) (x y : Tmp) (ho : o.op = .store ty (.tmp x) (.tmp y)) (hn : o.dst = none) (g off : Nat) (hx : a.tmps.getD x undef = pt g off)
    (A cs old C : List Value) (hy : a.tmps.getD y undef = .agg cs.toArray) (t : TypeId) (hg : w.heap[g]? = some (.cells (A ++ (old ++ C)).toArray t)) (hA : A.length = off) (hold : old.length = cs.length) (h1 : ∀ v ∈ cs, v.oneCell' = true) (hi : (P.info? ty).map (·.size) = some cs.length)
    (h : ∀ w1, w1.heap[g]? = some (.cells (A ++ (cs ++ C)).toArray t) → But g w w1 → K a w1) : o.wp P a w K Q := by
  have ex : a.eval (.tmp x) = pt g off := hx
  have ey : a.eval (.tmp y) = .agg cs.toArray := hy
  have e : ((A ++ (old ++ C)).toArray.toList.take off ++ cs ++ (A ++ (old ++ C)).toArray.toList.drop (off + cs.length)) = A ++ (cs ++ C) := by
    subst hA
    simp [← hold, List.append_assoc]
  have h' := h _ (setRow_heap w g _ (A ++ (cs ++ C)).toArray t (0, 0) hg) (but_setRow w g _)
  have hst := run_storeCells_at P g off t cs 0 (A ++ (old ++ C)).toArray w hg (by subst hA; simp; omega) h1
  rw [Nat.add_zero, e] at hst
  cases hq : P.info? ty with
  | none => simp [hq] at hi
  | some i =>
    have hs : i.size = cs.length := by simpa [hq] using hi
    unfold Oper.wp execOp
    simp [ho, ex, ey, Instr.storeAt, Instr.sureAddr, Sem.run_bind, storeVar, sizeOf, typeInfo, hq, hs, Value.cells]
    simp [hst]
    show K (a.put o.dst undef) _
    rw [hn]
    exact h'
theorem op_build (ty : TypeId) (xs : Array (Nat × Operand)) (ho : o.op = .build ty xs) (z : Value) (hr : (Instr.build ty (xs.map fun x => (x.1, a.eval x.2))).run P w = .ok z w) (h : K (a.put o.dst z) w) : o.wp P a w K Q := by
  unfold Oper.wp execOp
  simp only [ho, Sem.run_bind, hr, Result.andThen_ok, Sem.run_pure]
  exact h
theorem op_indexA (x y : Tmp) (t e : TypeId) (n : Nat) (ho : o.op = .indexAddr t (.tmp x) (.tmp y)) (ht : P.underlying t = some (.array n e)) (size : Nat) (hi : (P.info? e).map (·.size) = some size) (g off k : Nat) (hk : k < n)
    (hx : a.tmps.getD x undef = pt g off) (hy : a.tmps.getD y undef = nu k) (h : K (a.put o.dst (pt g (off + k * size))) w) : o.wp P a w K Q := by
  have ex : a.eval (.tmp x) = pt g off := hx
  have ey : a.eval (.tmp y) = nu k := hy
  cases hq : P.info? e with
  | none => simp [hq] at hi
  | some i =>
    have hs : i.size = size := by simpa [hq] using hi
    unfold Oper.wp execOp
    simp [ho, ex, ey, Instr.indexAt, Instr.sureAddr, asIntOf, run_underlying ht, sizeOf, typeInfo, hq, hs, hk, add_none]
    exact h
theorem op_indexS (x y : Tmp) (t e : TypeId) (ho : o.op = .indexAddr t (.tmp x) (.tmp y)) (ht : P.underlying t = some (.slice e)) (size : Nat) (hi : (P.info? e).map (·.size) = some size) (g off len cap k : Nat) (hk : k < len)
    (hx : a.tmps.getD x undef = .slice (some ⟨g, off, none⟩) len cap) (hy : a.tmps.getD y undef = nu k) (h : K (a.put o.dst (pt g (off + k * size))) w) : o.wp P a w K Q := by
  have ex : a.eval (.tmp x) = .slice (some ⟨g, off, none⟩) len cap := hx
  have ey : a.eval (.tmp y) = nu k := hy
  cases hq : P.info? e with
  | none => simp [hq] at hi
  | some i =>
    have hs : i.size = size := by simpa [hq] using hi
    unfold Oper.wp execOp
    simp [ho, ex, ey, Instr.indexAt, asIntOf, run_underlying ht, sizeOf, typeInfo, hq, hs, hk, add_none]
    exact h
end
theorem args1 {x c : Value} (h : x = c) : [x].toArray = #[c] := by rw [h]
theorem args2 {x c y d : Value} (h : x = c) (k : y = d) : [x, y].toArray = #[c, d] := by rw [h, k]
theorem args3 {x c y d z e : Value} (h : x = c) (k : y = d) (l : z = e) : [x, y, z].toArray = #[c, d, e] := by rw [h, k, l]
theorem args4 {x c y d z e u f : Value} (h : x = c) (k : y = d) (l : z = e) (m : u = f) : [x, y, z, u].toArray = #[c, d, e, f] := by rw [h, k, l, m]
/-- What the slots hold: those of S something of its own, the others one value each. -/
def vG (S : List Nat) (sp : Nat → Value → World → Prop) (cs : List Value) (i : Nat) (v : Value) (w : World) : Prop := if i ∈ S then sp i v w else v = cs.getD i undef
section
variable {S : List Nat} {sp : Nat → Value → World → Prop} {cs : List Value} {i : Nat} {v : Value} {w : World}
theorem vG_c (h : vG S sp cs i v w) (hi : i ∉ S) : v = cs.getD i undef := by
  unfold vG at h
  rwa [if_neg hi] at h
theorem vG_s (h : vG S sp cs i v w) (hi : i ∈ S) : sp i v w := by
  unfold vG at h
  rwa [if_pos hi] at h
theorem vG_mono (hsp : ∀ i v w w', sp i v w → Below w.heap.size w w' → sp i v w') : ∀ i v w w', vG S sp cs i v w → Below w.heap.size w w' → vG S sp cs i v w' := by
  intro i v w w' h hb
  unfold vG at h ⊢
  by_cases hi : i ∈ S
  · rw [if_pos hi] at h ⊢
    exact hsp i v w w' h hb
  · rw [if_neg hi] at h ⊢
    exact h
end
theorem args5 {x c y d z e u f v k : Value} (h : x = c) (i : y = d) (l : z = e) (m : u = f) (n : v = k) : [x, y, z, u, v].toArray = #[c, d, e, f, k] := by rw [h, i, l, m, n]
section
variable {P : Program} {ops : Array Oper} {Q : Exit → Act → World → Prop} {N : Nat} {a0 : Act} {w0 : World} {ia st : Nat} {T : TypeId} {len : Nat} {new cs : List Value} {i : Nat} {o : Oper}
theorem fold_pairs (f : Nat → Option Nat) (c : Nat → Value) : ∀ (l : List Nat) (B : Array Value), l.foldl (fun B i => match f i with | some d => B.setIfInBounds d (c i) | none => B) B = (l.filterMap fun i => (f i).map fun d => (d, c i)).foldl (fun B p => B.setIfInBounds p.1 p.2) B
  | [], _ => rfl
  | i :: l, B => by
    rw [List.foldl_cons, fold_pairs f c l, List.filterMap_cons]
    cases f i <;> rfl
end
section
variable {P : Program} {ops : Array Oper} {Q : Exit → Act → World → Prop} {N : Nat} {a0 : Act} {w0 : World} {i : Nat} {o : Oper}
/-- What an operation owes. -/
def OweK (P : Program) (ops : Array Oper) (Q : Exit → Act → World → Prop) (a0 : Act) (cs : List Value) (J : (Nat → Bool) → World → Prop) (i : Nat) (o : Oper) : Prop :=
  ∀ L a w, L i = false → (∀ j, waits o j = true → L j = true) → (∀ j oj, ops[j]? = some oj → waits oj i = true → L j = false) → J L w →
    (∀ t, keepOk ops i t = true → a.tmps.getD t undef = a0.tmps.getD t undef) → (∀ j d, waits o j = true → dstOf ops j = some d → a.tmps.getD d undef = cs.getD j undef) →
    ∀ K : Act → World → Prop, (∀ w', J (up L i) w' → K (a.put o.dst (cs.getD i undef)) w') → o.wp P a w K Q
theorem wp_region_cs {id : Nat} (cs : List Value) (J : (Nat → Bool) → World → Prop) (ds : List (Nat × Value)) (hf : P.follows .mixedOrders = true) (hok : okMd ops N = true) (hN : a0.tmps.size = N)
    (h0 : ∀ w1, Below w0.heap.size w0 w1 → J (fun _ => false) w1) (hds : (List.range ops.size).filterMap (fun i => (dstOf ops i).map fun d => (d, cs.getD i undef)) = ds)
    (hown : ∀ i o, ops[i]? = some o → OweK P ops Q a0 cs J i o)
    (hend : ∀ L W, (∀ i, i < ops.size → L i = true) → J L W → Q .normal { tmps := ds.foldl (fun B p => B.setIfInBounds p.1 p.2) a0.tmps, defers := a0.defers } W) :
    (Code.region id ops true).wp P Q a0 w0 := by
  refine wp_region_md (N := N) (fun _ i v _ => v = cs.getD i undef) J hf hok hN h0 ?_ ?_
  · intro i o ho L a w hLi hw hnot hJ hs hk hv
    exact hown i o ho L a w hLi hw hnot hJ hk (fun j d hj hd => hv j d (hw j hj) hd) _ (fun w' hJ' => ⟨_, rfl, fun _ => rfl, hJ', fun j d hj hd => hv j d hj hd⟩)
  · intro L a W hall hJ hs hd hk hv
    have e := frame_of (c := fun i => cs.getD i undef) (hs.trans hN.symm) hk hv
    have e2 := e.trans (fold_pairs (fun i => dstOf ops i) (fun i => cs.getD i undef) (List.range ops.size) a0.tmps)
    rw [hds] at e2
    have ea : a = { tmps := ds.foldl (fun B p => B.setIfInBounds p.1 p.2) a0.tmps, defers := a0.defers } := by
      obtain ⟨tm, df⟩ := a
      cases e2
      cases hd
      rfl
    rw [ea]
    exact hend L W hall hJ
theorem op_buildY (ty : TypeId) (l : List (Nat × Operand)) (ho : o.op = .build ty l.toArray) (z : Value) {a : Act} {w : World} {K : Act → World → Prop} (hr : (Instr.build ty (l.map fun x => (x.1, a.eval x.2)).toArray).run P w = .ok z w) (h : K (a.put o.dst z) w) : o.wp P a w K Q := by
  unfold Oper.wp execOp
  simp only [ho, List.map_toArray, Sem.run_bind, hr, Result.andThen_ok, Sem.run_pure]
  exact h
theorem op_moveC (c : Value) (ho : o.op = .move (.const c)) {a : Act} {w : World} {K : Act → World → Prop} (h : K (a.put o.dst c) w) : o.wp P a w K Q := by
  unfold Oper.wp execOp
  simp only [ho]
  exact h
theorem op_assignC (c : Value) (ho : o.op = .assign (.const c)) {a : Act} {w : World} {K : Act → World → Prop} (h : K (a.put o.dst c) w) : o.wp P a w K Q := by
  unfold Oper.wp execOp
  simp only [ho]
  exact h
theorem op_addC (t : Tmp) (T R : TypeId) (n m : Int) (ho : o.op = .binOp .add T (.tmp t) (.const (nu m)) R) {a : Act} {w : World} {K : Act → World → Prop} (hx : a.tmps.getD t undef = nu n) (hr : I64 (n + m)) (h : K (a.put o.dst (nu (n + m))) w) : o.wp P a w K Q := by
  have ex : a.eval (.tmp t) = nu n := hx
  have ey : a.eval (.const (nu m)) = nu m := rfl
  have hw : IntKind.i64.wrap (n + m) = n + m := by have h1 := hr.1; have h2 := hr.2; rw [IntKind.wrap_i64]; omega
  unfold Oper.wp execOp
  simp only [ho, ex, ey]
  simp [binOp, eqGuard, Op.intArith, hw]
  exact h
end
/-- The slot of what is made anew: where it lies, and what it holds. -/
def spN (st : Nat) (T : TypeId) (len : Nat) (new : List Value) (B : Nat) (L : Nat → Bool) (v : Value) (w : World) : Prop :=
  ∃ g row, v = pt g 0 ∧ B ≤ g ∧ w.heap[g]? = some (.cells (List.toArray row) T) ∧ row.length = len ∧ (L st = true → row = new)
def vN (ia st : Nat) (T : TypeId) (len : Nat) (new : List Value) (B : Nat) (cs : List Value) (L : Nat → Bool) (i : Nat) (v : Value) (w : World) : Prop :=
  if i = ia then spN st T len new B L v w else v = cs.getD i undef
section
variable {P : Program} {ops : Array Oper} {Q : Exit → Act → World → Prop} {N : Nat} {a0 : Act} {w0 : World} {i : Nat} {o : Oper} {ia st : Nat} {T : TypeId} {len : Nat} {new cs : List Value} {B : Nat} {J : (Nat → Bool) → World → Prop}
theorem vN_c {L : Nat → Bool} {v : Value} {w : World} (h : vN ia st T len new B cs L i v w) (hi : i ≠ ia) : v = cs.getD i undef := by
  unfold vN at h
  rwa [if_neg hi] at h
/-- An operation whose answer is a constant: it reads, or makes memory, or does what J tells. -/
theorem oweN (c : Value) (hi : i ≠ ia) (hi' : i ≠ st) (hc : cs.getD i undef = c)
    (H : ∀ (L : Nat → Bool) (a : Act) (w : World), L i = false → J L w → (∀ j, waits o j = true → L j = true) → (∀ j oj, ops[j]? = some oj → waits oj i = true → L j = false) → (∀ t, keepOk ops i t = true → a.tmps.getD t undef = a0.tmps.getD t undef) → (∀ j d, waits o j = true → j ≠ ia → dstOf ops j = some d → a.tmps.getD d undef = cs.getD j undef) →
      ∀ K : Act → World → Prop, (∀ w', J (up L i) w' → (∀ k r, B ≤ k → w.heap[k]? = some (.cells r T) → w'.heap[k]? = some (.cells r T)) → K (a.put o.dst c) w') → o.wp P a w K Q) :
    Owe P ops Q N a0 (vN ia st T len new B cs) J i o := by
  intro L a w hLi hw hnot hJ hs hk hv
  refine H L a w hLi hJ hw hnot hk (fun j d hj h9 hd => vN_c (hv j d (hw j hj) hd) h9) _ (fun w' hJ' hrow => ⟨c, rfl, fun _ => ?_, hJ', fun j d hj hd => ?_⟩)
  · unfold vN
    rw [if_neg hi]
    exact hc.symm
  · have hu := hv j d hj hd
    unfold vN at hu ⊢
    split at hu
    · rename_i e
      rw [if_pos e]
      obtain ⟨g, row, e1, hg, hr, hl, hx⟩ := hu
      exact ⟨g, row, e1, hg, hrow g _ hg hr, hl, by rw [up_ne hi']; exact hx⟩
    · rename_i e
      rw [if_neg e]
      exact hu
theorem oweN_alloc (hop : o.op = .alloc T) (z : List Value) (hz : (P.info? T).map (·.zero) = some (some (.agg z.toArray))) (hl : z.length = len) (ost : Oper) (hst : ops[st]? = some ost) (hws : waits ost ia = true) (hne : ia ≠ st)
    (hJB : ∀ L w, J L w → B ≤ w.heap.size) (hJa : ∀ L w o', J L w → J (up L ia) (w.alloc o')) :
    Owe P ops Q N a0 (vN ia st T len new B cs) J ia o := by
  intro L a w hLi hw hnot hJ hs hk hv
  refine op_alloc T hop z.toArray hz ⟨_, rfl, fun _ => ?_, hJa _ _ _ hJ, fun j d hj hd => ?_⟩
  · unfold vN
    rw [if_pos rfl]
    refine ⟨w.heap.size, z, rfl, hJB _ _ hJ, top_obj w _, hl, fun h10 => ?_⟩
    rw [up_ne hne, hnot st _ hst hws] at h10
    cases h10
  · have hj9 : j ≠ ia := by rintro rfl; rw [hLi] at hj; cases hj
    have := vN_c (hv j d hj hd) hj9
    unfold vN
    rw [if_neg hj9]
    exact this
theorem oweN_store (x y : Tmp) (hop : o.op = .store T (.tmp x) (.tmp y)) (hn : o.dst = none) (hx : dstOf ops ia = some x) (iy : Nat) (hiy : dstOf ops iy = some y) (hia : iy ≠ ia) (hw1 : waits o ia = true) (hw2 : waits o iy = true) (hcy : cs.getD iy undef = .agg new.toArray) (hlen : new.length = len) (h1 : ∀ v ∈ new, v.oneCell' = true) (hi : (P.info? T).map (·.size) = some new.length)
    (hJs : ∀ L w w' g r, J L w → B ≤ g → w.heap[g]? = some (.cells r T) → But g w w' → J (up L st) w') :
    Owe P ops Q N a0 (vN ia st T len new B cs) J st o := by
  intro L a w hLi hw hnot hJ hs hk hv
  have h9 := hv ia x (hw ia hw1) hx
  have h7 := (vN_c (hv iy y (hw iy hw2) hiy) hia).trans hcy
  unfold vN at h9
  rw [if_pos rfl] at h9
  obtain ⟨g, row, e1, hg, hrow, hl, -⟩ := h9
  refine op_store T (.tmp x) (.tmp y) hop hn g e1 new row h7 T hrow (hl.trans hlen.symm) h1 hi ⟨undef, by rw [hn]; rfl, fun h => (by rw [hn] at h; exact Bool.noConfusion h), ?_, fun j d hj hd => ?_⟩
  · exact hJs L w _ g _ hJ hg hrow (but_setRow w g _)
  · by_cases hj9 : j = ia
    · subst hj9
      have : d = x := by
        rw [hx] at hd
        cases hd
        rfl
      subst this
      unfold vN
      rw [if_pos rfl]
      exact ⟨g, new, e1, hg, setRow_heap w g _ _ _ (0, 0) hrow, hlen, fun _ => rfl⟩
    · have := vN_c (hv j d hj hd) hj9
      unfold vN
      rw [if_neg hj9]
      exact this
/-- The law: what lies behind such a region. -/
theorem wp_region_nj {id : Nat} (ia st da : Nat) (T : TypeId) (len : Nat) (new : List Value) (B : Nat) (cs : List Value) (J : (Nat → Bool) → World → Prop) (ds : Nat → List (Nat × Value)) (hf : P.follows .mixedOrders = true) (hok : okMd ops N = true) (hN : a0.tmps.size = N)
    (hdst : dstOf ops ia = some da) (hst : st < ops.size) (hic : ia < cs.length) (hds : ∀ g, (List.range ops.size).filterMap (fun i => (dstOf ops i).map fun d => (d, (cs.set ia (pt g 0)).getD i undef)) = ds g)
    (h0 : ∀ w1, Below w0.heap.size w0 w1 → J (fun _ => false) w1)
    (hown : ∀ i o, ops[i]? = some o → Owe P ops Q N a0 (vN ia st T len new B cs) J i o)
    (hend : ∀ g L W, B ≤ g → W.heap[g]? = some (.cells new.toArray T) → (∀ i, i < ops.size → L i = true) → J L W → Q .normal { tmps := (ds g).foldl (fun B p => B.setIfInBounds p.1 p.2) a0.tmps, defers := a0.defers } W) :
    (Code.region id ops true).wp P Q a0 w0 := by
  refine wp_region_md (N := N) (vN ia st T len new B cs) J hf hok hN h0 hown ?_
  intro L a W hall hJ hs hd hk hv
  have h9 := hv ia da hdst
  unfold vN at h9
  rw [if_pos rfl] at h9
  obtain ⟨g, row, e1, hg, hrow, -, hrx⟩ := h9
  obtain rfl := hrx (hall st hst)
  have e := frame_of (c := fun i => (cs.set ia (pt g 0)).getD i undef) (hs.trans hN.symm) hk (fun i d hdd => by
    by_cases h9 : i = ia
    · subst h9
      rw [hdst] at hdd
      cases hdd
      rw [e1, List.getD_eq_getElem?_getD, List.getElem?_set_self hic]
      rfl
    · rw [vN_c (hv i d hdd) h9, List.getD_eq_getElem?_getD, List.getD_eq_getElem?_getD, List.getElem?_set_ne (fun h => h9 h.symm)])
  have e2 := e.trans (fold_pairs (fun i => dstOf ops i) (fun i => (cs.set ia (pt g 0)).getD i undef) (List.range ops.size) a0.tmps)
  rw [hds] at e2
  have ea : a = { tmps := (ds g).foldl (fun B p => B.setIfInBounds p.1 p.2) a0.tmps, defers := a0.defers } := by
    obtain ⟨tm, df⟩ := a
    cases e2
    cases hd
    rfl
  rw [ea]
  exact hend g L W hg hrow hall hJ
end
section
variable {P : Program} {ops : Array Oper} {Q : Exit → Act → World → Prop} {N : Nat} {a0 : Act} {w0 : World} {i : Nat} {o : Oper} {S : List Nat} {sp : Nat → Value → World → Prop} {cs : List Value} {J : (Nat → Bool) → World → Prop} {R : World → World → Prop}
/-- What an operation owes. -/
def OweP (P : Program) (ops : Array Oper) (Q : Exit → Act → World → Prop) (a0 : Act) (S : List Nat) (sp : Nat → Value → World → Prop) (cs : List Value) (J : (Nat → Bool) → World → Prop) (R : World → World → Prop) (i : Nat) (o : Oper) : Prop :=
  ∀ L a w, L i = false → (∀ j, waits o j = true → L j = true) → (∀ j oj, ops[j]? = some oj → waits oj i = true → L j = false) → J L w →
    (∀ t, keepOk ops i t = true → a.tmps.getD t undef = a0.tmps.getD t undef) → (∀ j d, waits o j = true → dstOf ops j = some d → vG S sp cs j (a.tmps.getD d undef) w) →
    ∀ K : Act → World → Prop, (∀ v w', (o.dst.isSome = true → vG S sp cs i v w') → R w w' → J (up L i) w' → K (a.put o.dst v) w') → o.wp P a w K Q
theorem wp_region_sp {id : Nat} (S : List Nat) (sp : Nat → Value → World → Prop) (cs : List Value) (J : (Nat → Bool) → World → Prop) (R : World → World → Prop) (ds : (Nat → Value) → List (Nat × Value)) (hf : P.follows .mixedOrders = true) (hok : okMd ops N = true) (hN : a0.tmps.size = N)
    (hds : ∀ u : Nat → Value, (List.range ops.size).filterMap (fun i => (dstOf ops i).map fun d => (d, if i ∈ S then u i else cs.getD i undef)) = ds u)
    (hsp : ∀ L L' i v w w', J L w → J L' w' → R w w' → sp i v w → sp i v w')
    (h0 : ∀ w1, Below w0.heap.size w0 w1 → J (fun _ => false) w1)
    (hown : ∀ i o, ops[i]? = some o → OweP P ops Q a0 S sp cs J R i o)
    (hend : ∀ u L W, (∀ i, i < ops.size → L i = true) → J L W → Q .normal { tmps := (ds u).foldl (fun B p => B.setIfInBounds p.1 p.2) a0.tmps, defers := a0.defers } W) :
    (Code.region id ops true).wp P Q a0 w0 := by
  refine wp_region_md (N := N) (fun _ i v w => vG S sp cs i v w) J hf hok hN h0 ?_ ?_
  · intro i o ho L a w hLi hw hnot hJ hs hk hv
    refine hown i o ho L a w hLi hw hnot hJ hk (fun j d hj hd => hv j d (hw j hj) hd) _ (fun v w' hv' hR hJ' => ⟨v, rfl, hv', hJ', fun j d hj hd => ?_⟩)
    have h1 : vG S sp cs j (a.tmps.getD d undef) w := hv j d hj hd
    show vG S sp cs j (a.tmps.getD d undef) w'
    unfold vG at h1 ⊢
    by_cases e : j ∈ S
    · rw [if_pos e] at h1 ⊢
      exact hsp _ _ _ _ _ _ hJ hJ' hR h1
    · rw [if_neg e] at h1 ⊢
      exact h1
  · intro L a W hall hJ hs hd hk hv
    obtain ⟨u, hu⟩ : ∃ u : Nat → Value, ∀ i d, dstOf ops i = some d → u i = a.tmps.getD d undef := ⟨fun i => match dstOf ops i with | some d => a.tmps.getD d undef | none => undef, fun i d h => by simp only [h]⟩
    have e := frame_of (c := fun i => if i ∈ S then u i else cs.getD i undef) (hs.trans hN.symm) hk (fun i d hdi => by
      have h1 : vG S sp cs i (a.tmps.getD d undef) W := hv i d hdi
      unfold vG at h1
      by_cases hi : i ∈ S
      · rw [if_pos hi]; exact (hu i d hdi).symm
      · rw [if_neg hi] at h1 ⊢; exact h1)
    have e2 := e.trans (fold_pairs (fun i => dstOf ops i) (fun i => if i ∈ S then u i else cs.getD i undef) (List.range ops.size) a0.tmps)
    rw [hds] at e2
    have ea : a = { tmps := (ds u).foldl (fun B p => B.setIfInBounds p.1 p.2) a0.tmps, defers := a0.defers } := by
      obtain ⟨tm, df⟩ := a
      cases e2
      cases hd
      rfl
    rw [ea]
    exact hend u L W hall hJ
/-- An operation whose answer is a constant. -/
theorem oweP (c : Value) (hi : i ∉ S) (hc : cs.getD i undef = c)
    (H : ∀ (L : Nat → Bool) (a : Act) (w : World), L i = false → J L w → (∀ j oj, ops[j]? = some oj → waits oj i = true → L j = false) → (∀ t, keepOk ops i t = true → a.tmps.getD t undef = a0.tmps.getD t undef) → (∀ j d, waits o j = true → j ∉ S → dstOf ops j = some d → a.tmps.getD d undef = cs.getD j undef) → (∀ j d, waits o j = true → j ∈ S → dstOf ops j = some d → sp j (a.tmps.getD d undef) w) →
      ∀ K : Act → World → Prop, (∀ w', R w w' → J (up L i) w' → K (a.put o.dst c) w') → o.wp P a w K Q) :
    OweP P ops Q a0 S sp cs J R i o := by
  intro L a w hLi hw hnot hJ hk hv K h
  refine H L a w hLi hJ hnot hk (fun j d hj hjs hd => vG_c (hv j d hj hd) hjs) (fun j d hj hjs hd => vG_s (hv j d hj hd) hjs) K (fun w' hR hJ' => h c w' (fun _ => ?_) hR hJ')
  unfold vG
  rw [if_neg hi]
  exact hc.symm
/-- An operation that makes something. -/
theorem oweS (hi : i ∈ S)
    (H : ∀ (L : Nat → Bool) (a : Act) (w : World), L i = false → J L w → (∀ j oj, ops[j]? = some oj → waits oj i = true → L j = false) → (∀ t, keepOk ops i t = true → a.tmps.getD t undef = a0.tmps.getD t undef) → (∀ j d, waits o j = true → j ∉ S → dstOf ops j = some d → a.tmps.getD d undef = cs.getD j undef) → (∀ j d, waits o j = true → j ∈ S → dstOf ops j = some d → sp j (a.tmps.getD d undef) w) →
      ∀ K : Act → World → Prop, (∀ v w', sp i v w' → R w w' → J (up L i) w' → K (a.put o.dst v) w') → o.wp P a w K Q) :
    OweP P ops Q a0 S sp cs J R i o := by
  intro L a w hLi hw hnot hJ hk hv K h
  refine H L a w hLi hJ hnot hk (fun j d hj hjs hd => vG_c (hv j d hj hd) hjs) (fun j d hj hjs hd => vG_s (hv j d hj hd) hjs) K (fun v w' hs hR hJ' => h v w' (fun _ => ?_) hR hJ')
  unfold vG
  rw [if_pos hi]
  exact hs
end
section
variable {P : Program} {o : Oper} {a : Act} {w : World} {Q : Exit → Act → World → Prop} {K : Act → World → Prop}
/-- A call of a function that a slot holds, with what it captured. -/
theorem op_callV (t : Tmp) (f : FuncId) (cap : Array Value) (xs : List Operand) (ts : Array TypeId) (vs : Array Value) (v : Value) (ho : o.op = .call { callee := .value (.tmp t), args := xs.toArray, argTypes := ts }) (ht : a.tmps.getD t undef = .func (.func f) #[] cap) (hc : ∀ args w, (callFunc f args).run P w = .ok (.enter f args) w) (hx : (xs.map a.eval).toArray = vs)
    {J : World → Prop} (hm : Calls P f (vs ++ cap) w fun e w' => e = .returned v ∧ J w') (h : ∀ w', J w' → K (a.put o.dst v) w') : o.wp P a w K Q := by
  unfold Oper.wp execOp
  have e : (do let d ← resolve a.eval { callee := .value (.tmp t), args := xs.toArray, argTypes := ts } o.type; invoke d.target d.args : Sem Next).run P w = .ok (.enter f (vs ++ cap)) w := by
    have e0 : a.eval (.tmp t) = .func (.func f) #[] cap := ht
    simp [resolve, Deferred.ofValue, invoke, hc, e0, hx]
  simp only [ho]
  rw [e]
  simp only [Oper.upon]
  refine hm.mono ?_
  rintro e w' ⟨rfl, hJ⟩
  exact h w' hJ
theorem op_bsV (t e : TypeId) (l : List (Nat × Operand)) (ho : o.op = .buildSlice t l.length l.toArray) (hpos : 0 < l.length) (hsm : l.length ≤ 1000) (ht : Try.prog.underlying t = some (.slice e)) (z : Value) (bytes : Nat) (hinfo : (Try.prog.info? e).map (fun i => (i.zero, i.size, i.bytes)) = some (some z, 1, bytes)) (vs : List Value) (hvl : vs.length = l.length) (hfl : l.map (fun x => (x.1, a.eval x.2)) = (vs.zipIdx 0).map fun x => (x.2, x.1)) (h1 : ∀ v ∈ vs, v.oneCell' = true)
    (h : K (a.put o.dst (.slice (some ⟨w.heap.size, 0, none⟩) l.length l.length)) (w.alloc (.cells vs.toArray e))) : o.wp Try.prog a w K Q := by
  obtain ⟨i, hi, hz0, hz1, hz2⟩ := info_parts hinfo
  have e0 : ∀ (us : List Value), (∀ v ∈ us, v.oneCell' = true) → us.flatMap (fun v => v.cells.toList) = us := by
    intro us
    induction us with
    | nil => intro _; rfl
    | cons u us ih =>
      intro hu
      rw [List.flatMap_cons, ih (fun v hv => hu v (by simp [hv])), cells_one (hu u (by simp))]
      rfl
  have hfill := Great.fill_whole (s := 1) (by decide) vs ((Array.range (l.length * 1)).map (z.cells[· % z.cells.size]!)) (fun v hv => by rw [cells_one (h1 v hv)]; rfl) (by simp [hvl])
  rw [e0 vs h1] at hfill
  refine wp_buildSlice t e l.length l.toArray ho _ i z ht hi hz0 (by rw [hz1]; omega) (by rw [hz1]; omega) (by rw [hz1]; simpa [hfl] using hfill) h
end
/-! ### Regions that draw their order, where but one order is left -/
section
variable {P : Program} {ops : Array Oper} {Q : Exit → Act → World → Prop}
def wpSq (P : Program) (ops : Array Oper) (Q : Exit → Act → World → Prop) : List Nat → Act → World → Prop
  | [], a, w => Q .normal a w
  | i :: l, a, w => ∃ o, ops[i]? = some o ∧ o.guard = none ∧ o.wp P a w (fun a' w' => wpSq P ops Q l a' w') Q
def forcedB (ops : Array Oper) : List Nat → Array Bool → Bool
  | [], listed => Region.ready .any ops listed == []
  | i :: l, listed => Region.ready .any ops listed == [i] && forcedB ops l (listed.setIfInBounds i true)
theorem wpAny_sq : ∀ (l : List Nat) (listed : Array Bool) (a : Act) (w : World), forcedB ops l listed = true → wpSq P ops Q l a w → wpAny P .any ops Q l.length listed a w
  | [], listed, a, w, hf, h => by
    unfold forcedB at hf
    exact ⟨by simpa using hf, h⟩
  | i :: l, listed, a, w, hf, h => by
    unfold forcedB at hf
    rw [Bool.and_eq_true] at hf
    have hr : Region.ready .any ops listed = [i] := by simpa using hf.1
    obtain ⟨o, ho, hg, hw⟩ := h
    refine ⟨fun h0 => (by rw [hr] at h0; cases h0), fun j hj => ?_⟩
    rw [hr, List.mem_singleton] at hj
    subst hj
    unfold wpOp
    rw [ho]
    have hwt : Region.wanted o (yielded ops a.tmps) = true := by simp [Region.wanted, hg]
    simp only [hwt, if_true]
    exact Or.inl (Oper.wp_mono (fun a' w' h' => wpAny_sq l _ a' w' hf.2 h') hw)
theorem wp_region_sq {id : Nat} {a : Act} {w : World} (l : List Nat) (hm : P.follows .mixedOrders = true) (hl : l.length = ops.size) (hf : forcedB ops l (Array.replicate ops.size false) = true) (h : wpSq P ops Q l a { w with drawn := w.drawn + 1 }) : (Code.region id ops true).wp P Q a w := by
  refine wp_region_any hm ?_
  rw [← hl] at hf ⊢
  exact wpAny_sq l _ _ _ hf h
end
theorem own_one1 {w : World} {e size g : Nat} {cs : List Value} (hl : cs.length = size) (h : w.heap[g]? = some (.cells cs.toArray e)) : Pc w size (.slice (some ⟨g, 0, none⟩) 1 1) 1 cs := by
  refine ⟨by simp [hl], _, _, rfl, fun _ => ⟨_, rfl, fun j u hj => ?_⟩⟩
  rw [add_none, cell_of_row _ _ _ _ _ _ h]
  simpa using hj
section
variable {B : Nat} {L : Nat → Bool} {v : Value} {w : World}
end
/-- A list stands where it stood, or in what is new. -/
def Fr (w : World) (v v' : Value) : Prop := ∀ k, v'.ownBlock = some k → v.ownBlock = some k ∨ w.heap.size ≤ k
theorem Fr.same (w : World) (v : Value) : Fr w v v := fun _ h => Or.inl h
section
variable {P : Program} {o : Oper} {a : Act} {w : World} {Q : Exit → Act → World → Prop} {K : Act → World → Prop}
theorem op_field (x : Tmp) (T : TypeId) (k : Nat) (u v : Value) (ho : o.op = .field T (.tmp x) k) (hx : a.tmps.getD x undef = u) (hr : (Instr.field T u k).run P w = .ok v w) (h : K (a.put o.dst v) w) : o.wp P a w K Q := by
  have ex : a.eval (.tmp x) = u := hx
  unfold Oper.wp execOp
  simp only [ho, ex, Sem.run_bind, hr, Result.andThen_ok, Sem.run_pure, Oper.upon]
  exact h
theorem op_index (x y : Tmp) (T : TypeId) (u i v : Value) (ho : o.op = .index T (.tmp x) (.tmp y)) (hx : a.tmps.getD x undef = u) (hy : a.tmps.getD y undef = i) (hr : (Instr.index T u i).run P w = .ok v w) (h : K (a.put o.dst v) w) : o.wp P a w K Q := by
  have ex : a.eval (.tmp x) = u := hx
  have ey : a.eval (.tmp y) = i := hy
  unfold Oper.wp execOp
  simp only [ho, ex, ey, Sem.run_bind, hr, Result.andThen_ok, Sem.run_pure, Oper.upon]
  exact h
theorem op_conv (x : Tmp) (S T : TypeId) (u v : Value) (ho : o.op = .convert S T (.tmp x)) (hx : a.tmps.getD x undef = u) (hr : (convert S T u).run P w = .ok v w) (h : K (a.put o.dst v) w) : o.wp P a w K Q := by
  have ex : a.eval (.tmp x) = u := hx
  unfold Oper.wp execOp
  simp only [ho, ex, Sem.run_bind, hr, Result.andThen_ok, Sem.run_pure, Oper.upon]
  exact h
theorem op_subC (t : Tmp) (T R : TypeId) (n m : Int) (ho : o.op = .binOp .sub T (.tmp t) (.const (nu m)) R) (hx : a.tmps.getD t undef = nu n) (hr : I64 (n - m)) (h : K (a.put o.dst (nu (n - m))) w) : o.wp P a w K Q := by
  have ex : a.eval (.tmp t) = nu n := hx
  have ey : a.eval (.const (nu m)) = nu m := rfl
  have hw : IntKind.i64.wrap (n - m) = n - m := by have h1 := hr.1; have h2 := hr.2; rw [IntKind.wrap_i64]; omega
  unfold Oper.wp execOp
  simp only [ho, ex, ey]
  simp [binOp, eqGuard, Op.intArith, hw]
  exact h
theorem index_byte {P : Program} (w : World) (T : TypeId) (hT : P.underlying T = some .string) (v : List UInt8) (k : Nat) (hk : k < v.length) : (Instr.index T (st v) (nu (k : Int))).run P w = .ok (.int .u8 (bv (v.getD k 0))) w := by
  have hs : (⟨v.toArray⟩ : ByteArray).size = v.length := rfl
  have h0 := run_index_string (P := P) (w := w) T ⟨v.toArray⟩ .i64 (k : Int) hT
  rw [h0]
  simp [hs, hk, bv]
  rfl
theorem conv_byte (w : World) (n : Int) (h : 0 ≤ n ∧ n < 256) : (convert 5 3 (.int .u8 n)).run Try.prog w = .ok (nu n) w := by
  have e3 : Try.prog.intKind 3 = .i64 := by kernel_rfl
  have h0 := run_convert_int (P := Try.prog) (w := w) 5 3 .u8 n (by rw [Try.underlying5]; rfl) (by rw [e3]; exact Try.underlying3)
  have hw : IntKind.i64.wrap n = n := by rw [IntKind.wrap_i64]; omega
  rw [h0, e3, hw]
end
section
variable {P : Program} {o : Oper} {a : Act} {w : World} {Q : Exit → Act → World → Prop} {K : Act → World → Prop}
theorem op_max (x y : Tmp) (m n : Int) (ho : o.op = .call { callee := .builtin .max, args := #[.tmp x, .tmp y], argTypes := #[3, 3] }) (hx : a.tmps.getD x undef = nu m) (hy : a.tmps.getD y undef = nu n) (h : K (a.put o.dst (nu (max m n))) w) : o.wp P a w K Q := by
  have ex : a.eval (.tmp x) = nu m := hx
  have ey : a.eval (.tmp y) = nu n := hy
  have hr : ∀ t, (Builtin.max_ #[3, 3] t #[nu m, nu n]).run P w = .ok (nu (max m n)) w := fun t => by
    by_cases e : m < n
    · rw [Int.max_eq_right (by omega)]
      simp [Builtin.max_, Builtin.max2, e]
    · rw [Int.max_eq_left (by omega)]
      simp [Builtin.max_, Builtin.max2, e]
  unfold Oper.wp execOp
  simp [ho, resolve, invoke, builtin, ex, ey, hr, Result.andThen]
  exact h
theorem op_min (x y : Tmp) (m n : Int) (ho : o.op = .call { callee := .builtin .min, args := #[.tmp x, .tmp y], argTypes := #[3, 3] }) (hx : a.tmps.getD x undef = nu m) (hy : a.tmps.getD y undef = nu n) (h : K (a.put o.dst (nu (min m n))) w) : o.wp P a w K Q := by
  have ex : a.eval (.tmp x) = nu m := hx
  have ey : a.eval (.tmp y) = nu n := hy
  have hr : ∀ t, (Builtin.min_ #[3, 3] t #[nu m, nu n]).run P w = .ok (nu (min m n)) w := fun t => by
    by_cases e : n < m
    · rw [Int.min_eq_right (by omega)]
      simp [Builtin.min_, Builtin.min2, e]
      try omega
    · rw [Int.min_eq_left (by omega)]
      simp [Builtin.min_, Builtin.min2, e]
      try omega
  unfold Oper.wp execOp
  simp [ho, resolve, invoke, builtin, ex, ey, hr, Result.andThen]
  exact h
end
theorem made_ints (n : Nat) : madeCells (Value.int .i64 0).cells (n * 1) = (List.replicate n (nu 0)).toArray := by
  apply Array.ext_getElem?
  intro i
  by_cases hi : i < n
  · rw [Array.getElem?_eq_getElem (by rw [size_madeCells]; omega), List.getElem?_toArray, List.getElem?_replicate, if_pos hi]
    simp [madeCells, Value.cells, Nat.mod_one]
  · rw [Array.getElem?_eq_none (by rw [size_madeCells]; omega), List.getElem?_toArray, List.getElem?_eq_none (by simp; omega)]
theorem make_ints (n : Nat) (hn : n ≤ 8) (W : World) : (Instr.makeSlice 34 (.int .i64 (n : Int)) (.int .i64 (n : Int))).run Try.prog W = .ok (.slice (some ⟨W.heap.size, 0, none⟩) n n) (W.alloc (.cells (List.replicate n (nu 0)).toArray 3)) := by
  obtain ⟨i, hi, hz0, hz1, hz2⟩ := info_parts info3
  have h := run_makeSlice (P := Try.prog) W 34 3 i _ Try.underlying34 hi hz0 .i64 .i64 n n (by omega) (by omega) (by rw [hz1, Int.toNat_natCast]; omega) (by rw [hz2]; omega) (by omega)
  rw [hz1] at h
  simp only [Int.toNat_natCast] at h
  rw [made_ints] at h
  exact h
theorem wl_make {ops : Array Oper} {rest : List Oper} {o : Oper} {a : Act} {w : World} {Q : Exit → Act → World → Prop} (x : Operand) (ho : o.op = .makeSlice 34 x x) (hw : Region.wanted o (yielded ops a.tmps) = true) (n : Nat) (hn : n ≤ 8) (Z : Array Value) (hZ : (List.replicate n (nu 0)).toArray = Z) (hx : a.eval x = nu n)
    (h : wpList Try.prog ops Q rest (a.put o.dst (.slice (some ⟨w.heap.size, 0, none⟩) n n)) (w.alloc (.cells Z 3))) : wpList Try.prog ops Q (o :: rest) a w := by
  refine BigFrame.wpList_want hw fun K hK => ?_
  have h' := hK _ _ h
  unfold Oper.wp execOp
  simp only [ho, hx, Sem.run_bind, make_ints n hn w, Result.andThen_ok, Sem.run_pure, hZ]
  exact h'
/-- Numbers laid one by one. -/
def tc (c : Nat → Int) (n k : Nat) : List Int := (List.range n).map fun j => if j < k then c j else 0
theorem tc_len (c : Nat → Int) (n k : Nat) : (tc c n k).length = n := by simp [tc]
theorem tc_full (c : Nat → Int) (n : Nat) : tc c n n = (List.range n).map c := by
  unfold tc
  apply List.map_congr_left
  intro j hj
  rw [if_pos (List.mem_range.1 hj)]
theorem tc_zero (c : Nat → Int) (n : Nat) : ic (tc c n 0) = List.replicate n (nu 0) := by
  unfold ic tc
  rw [List.map_map]
  apply List.ext_getElem
  · simp
  · intro i h1 h2
    simp
theorem tc_set (c : Nat → Int) (n k : Nat) (hk : k < n) : ic (tc c n k) = (ic (tc c n k)).take k ++ ([nu 0] ++ (ic (tc c n k)).drop (k + 1)) ∧ ic (tc c n (k + 1)) = (ic (tc c n k)).take k ++ ([nu (c k)] ++ (ic (tc c n k)).drop (k + 1)) := by
  have hl : ∀ m, (ic (tc c n m)).length = n := fun m => by simp [ic, tc_len]
  have hat : ∀ m i, i < n → (ic (tc c n m))[i]? = some (nu (if i < m then c i else 0)) := fun m i hi => by simp [ic, tc, hi]
  have e : ∀ (v : Value) (M : List Value), M.length = n → (∀ i, i < n → i ≠ k → M[i]? = (ic (tc c n k))[i]?) → M[k]? = some v → M = (ic (tc c n k)).take k ++ ([v] ++ (ic (tc c n k)).drop (k + 1)) := by
    intro v M hM h1 h2
    apply List.ext_getElem?
    intro i
    by_cases hi : i < n
    · rcases Nat.lt_trichotomy i k with h | h | h
      · rw [h1 i hi (by omega), List.getElem?_append_left (by rw [List.length_take, hl]; omega), List.getElem?_take_of_lt h]
      · subst h
        rw [h2, List.getElem?_append_right (by rw [List.length_take, hl]; omega), List.length_take, hl, show i - min i n = 0 by omega]
        rfl
      · rw [h1 i hi (by omega), List.getElem?_append_right (by rw [List.length_take, hl]; omega), List.length_take, hl, List.getElem?_append_right (by simp; omega), List.getElem?_drop]
        congr 1
        simp
        omega
    · rw [List.getElem?_eq_none (by omega), List.getElem?_eq_none (by simp [hl]; omega)]
  refine ⟨e _ _ (hl k) (fun _ _ _ => rfl) (by rw [hat k k hk, if_neg (by omega)]), e _ _ (hl (k + 1)) (fun i hi hne => ?_) (by rw [hat (k + 1) k hk, if_pos (by omega)])⟩
  rw [hat (k + 1) i hi, hat k i hi]
  by_cases h : i < k
  · rw [if_pos h, if_pos (by omega)]
  · rw [if_neg h, if_neg (by omega)]
def vL (S : List Nat) (sp : (Nat → Bool) → Nat → Value → World → Prop) (cs : List Value) (L : Nat → Bool) (i : Nat) (v : Value) (w : World) : Prop := if i ∈ S then sp L i v w else v = cs.getD i undef
section
variable {P : Program} {ops : Array Oper} {Q : Exit → Act → World → Prop} {N : Nat} {a0 : Act} {w0 : World} {i : Nat} {o : Oper} {S : List Nat} {sp : (Nat → Bool) → Nat → Value → World → Prop} {cs : List Value} {J : (Nat → Bool) → World → Prop} {L : Nat → Bool} {v : Value} {w : World}
theorem vL_c (h : vL S sp cs L i v w) (hi : i ∉ S) : v = cs.getD i undef := by
  unfold vL at h
  rwa [if_neg hi] at h
theorem vL_s (h : vL S sp cs L i v w) (hi : i ∈ S) : sp L i v w := by
  unfold vL at h
  rwa [if_pos hi] at h
/-- What an operation owes. -/
def OweQ (P : Program) (ops : Array Oper) (Q : Exit → Act → World → Prop) (a0 : Act) (S : List Nat) (sp : (Nat → Bool) → Nat → Value → World → Prop) (cs : List Value) (J : (Nat → Bool) → World → Prop) (i : Nat) (o : Oper) : Prop :=
  ∀ L a w, L i = false → (∀ j, waits o j = true → L j = true) → (∀ j oj, ops[j]? = some oj → waits oj i = true → L j = false) → J L w →
    (∀ t, keepOk ops i t = true → a.tmps.getD t undef = a0.tmps.getD t undef) → (∀ j d, L j = true → dstOf ops j = some d → vL S sp cs L j (a.tmps.getD d undef) w) →
    ∀ K : Act → World → Prop, (∀ v w', (o.dst.isSome = true → vL S sp cs (up L i) i v w') → J (up L i) w' → (∀ j d, L j = true → j ∈ S → dstOf ops j = some d → sp (up L i) j (a.tmps.getD d undef) w') → K (a.put o.dst v) w') → o.wp P a w K Q
theorem wp_region_sj {id : Nat} (S : List Nat) (sp : (Nat → Bool) → Nat → Value → World → Prop) (cs : List Value) (J : (Nat → Bool) → World → Prop) (ds : (Nat → Value) → List (Nat × Value)) (hf : P.follows .mixedOrders = true) (hok : okMd ops N = true) (hN : a0.tmps.size = N)
    (hds : ∀ u : Nat → Value, (List.range ops.size).filterMap (fun i => (dstOf ops i).map fun d => (d, if i ∈ S then u i else cs.getD i undef)) = ds u)
    (h0 : ∀ w1, Below w0.heap.size w0 w1 → J (fun _ => false) w1)
    (hown : ∀ i o, ops[i]? = some o → OweQ P ops Q a0 S sp cs J i o)
    (hend : ∀ u L W, (∀ i, i < ops.size → L i = true) → J L W → (∀ i, i ∈ S → (dstOf ops i).isSome = true → sp L i (u i) W) → Q .normal { tmps := (ds u).foldl (fun B p => B.setIfInBounds p.1 p.2) a0.tmps, defers := a0.defers } W) :
    (Code.region id ops true).wp P Q a0 w0 := by
  refine wp_region_md (N := N) (fun L i v w => vL S sp cs L i v w) J hf hok hN h0 ?_ ?_
  · intro i o ho L a w hLi hw hnot hJ hs hk hv
    refine hown i o ho L a w hLi hw hnot hJ hk hv _ (fun v w' hv' hJ' hsp => ⟨v, rfl, hv', hJ', fun j d hj hd => ?_⟩)
    have h1 : vL S sp cs L j (a.tmps.getD d undef) w := hv j d hj hd
    show vL S sp cs (up L i) j (a.tmps.getD d undef) w'
    unfold vL at h1 ⊢
    by_cases e : j ∈ S
    · rw [if_pos e]
      exact hsp j d hj e hd
    · rw [if_neg e] at h1 ⊢
      exact h1
  · intro L a W hall hJ hs hd hk hv
    obtain ⟨u, hu⟩ : ∃ u : Nat → Value, ∀ i d, dstOf ops i = some d → u i = a.tmps.getD d undef := ⟨fun i => match dstOf ops i with | some d => a.tmps.getD d undef | none => undef, fun i d h => by simp only [h]⟩
    have e := frame_of (c := fun i => if i ∈ S then u i else cs.getD i undef) (hs.trans hN.symm) hk (fun i d hdi => by
      have h1 : vL S sp cs L i (a.tmps.getD d undef) W := hv i d hdi
      unfold vL at h1
      by_cases hi : i ∈ S
      · rw [if_pos hi]; exact (hu i d hdi).symm
      · rw [if_neg hi] at h1 ⊢; exact h1)
    have e2 := e.trans (fold_pairs (fun i => dstOf ops i) (fun i => if i ∈ S then u i else cs.getD i undef) (List.range ops.size) a0.tmps)
    rw [hds] at e2
    have ea : a = { tmps := (ds u).foldl (fun B p => B.setIfInBounds p.1 p.2) a0.tmps, defers := a0.defers } := by
      obtain ⟨tm, df⟩ := a
      cases e2
      cases hd
      rfl
    have hsp : ∀ i, i ∈ S → (dstOf ops i).isSome = true → sp L i (u i) W := fun i hi hdi => by
      cases hq : dstOf ops i with
      | none => rw [hq] at hdi; cases hdi
      | some d =>
        have h1 : vL S sp cs L i (a.tmps.getD d undef) W := hv i d hq
        rw [hu i d hq]
        exact vL_s h1 hi
    rw [ea]
    exact hend u L W hall hJ hsp
/-- An operation whose answer is a constant, and that turns nothing. -/
theorem oweQ (c : Value) (hi : i ∉ S) (hc : cs.getD i undef = c) (hsp : ∀ L j v w, j ∈ S → sp L j v w → sp (up L i) j v w) (hJ : ∀ L w, J L w → J (up L i) w)
    (H : ∀ (L : Nat → Bool) (a : Act) (w : World), L i = false → J L w → (∀ j oj, ops[j]? = some oj → waits oj i = true → L j = false) → (∀ t, keepOk ops i t = true → a.tmps.getD t undef = a0.tmps.getD t undef) → (∀ j d, waits o j = true → j ∉ S → dstOf ops j = some d → a.tmps.getD d undef = cs.getD j undef) → (∀ j d, waits o j = true → j ∈ S → dstOf ops j = some d → sp L j (a.tmps.getD d undef) w) →
      ∀ K : Act → World → Prop, K (a.put o.dst c) w → o.wp P a w K Q) :
    OweQ P ops Q a0 S sp cs J i o := by
  intro L a w hLi hw hnot hJL hk hv K h
  refine H L a w hLi hJL hnot hk (fun j d hj hjs hd => vL_c (hv j d (hw j hj) hd) hjs) (fun j d hj hjs hd => vL_s (hv j d (hw j hj) hd) hjs) K (h c w (fun _ => ?_) (hJ L w hJL) (fun j d hj hjs hd => hsp L j _ w hjs (vL_s (hv j d hj hd) hjs)))
  unfold vL
  rw [if_neg hi]
  exact hc.symm
end
/-- One cell more, behind a row of one's own: a list of numbers. -/
theorem op_pushI {P : Program} {o : Oper} {a : Act} {w : World} {Q : Exit → Act → World → Prop} {K : Act → World → Prop} (s x : Tmp) (base : Nat) (t : TypeId) (z : Value) (bytes : Nat) (ho : o.op = .call { callee := .builtin .append, args := #[.tmp s, .tmp x], argTypes := #[t, t] }) (ht : P.underlying t = some (.slice 3)) (hinfo : (P.info? 3).map (fun i => (i.zero, i.size, i.bytes)) = some (some z, 1, bytes)) (hzs : z.cells.size = 1) (hby : bytes ≤ 1000)
    (n g : Nat) (xs : List Value) (u : Value) (v : Value) (hs : a.tmps.getD s undef = v) (hx : a.tmps.getD x undef = .slice (some ⟨g, 0, none⟩) 1 1) (hg : w.heap[g]? = some (.cells #[u] 3)) (hown : w.ownsRow base 3 1 v n xs) (h1 : u.oneCell' = true) (hn : n ≤ 100000) (hbase : base ≤ w.heap.size)
    (h : ∀ v' w', w'.ownsRow base 3 1 v' (n + 1) (xs ++ [u]) → w.grownBy w' v.ownBlock → K (a.put o.dst v') w') : o.wp P a w K Q := by
  refine op_append s x base t 3 z 1 bytes ho ht hinfo hzs (by decide) n 1 xs [u] (by rw [hs]; exact hown) (by rw [hx]; exact own_one1 (cs := [u]) rfl hg) (by simpa using h1) (by omega) hby hbase (fun v' w' g1 g2 => ?_)
  rw [hs] at g2
  exact h v' w' g1 g2
section
variable {P : Program} {o : Oper} {a : Act} {w : World} {Q : Exit → Act → World → Prop} {K : Act → World → Prop}
theorem op_addT (x y : Tmp) (T R : TypeId) (n m : Int) (ho : o.op = .binOp .add T (.tmp x) (.tmp y) R) (hx : a.tmps.getD x undef = nu n) (hy : a.tmps.getD y undef = nu m) (hr : I64 (n + m)) (h : K (a.put o.dst (nu (n + m))) w) : o.wp P a w K Q := by
  have ex : a.eval (.tmp x) = nu n := hx
  have ey : a.eval (.tmp y) = nu m := hy
  have hw : IntKind.i64.wrap (n + m) = n + m := by have h1 := hr.1; have h2 := hr.2; rw [IntKind.wrap_i64]; omega
  unfold Oper.wp execOp
  simp only [ho, ex, ey]
  simp [binOp, eqGuard, Op.intArith, hw]
  exact h
theorem op_remT (x y : Tmp) (T R : TypeId) (n m : Nat) (hm : 0 < m) (ho : o.op = .binOp .rem T (.tmp x) (.tmp y) R) (hx : a.tmps.getD x undef = nu ((n : Nat) : Int)) (hy : a.tmps.getD y undef = nu ((m : Nat) : Int)) (h : K (a.put o.dst (nu ((n % m : Nat) : Int))) w) : o.wp P a w K Q := by
  have ex : a.eval (.tmp x) = nu ((n : Nat) : Int) := hx
  have ey : a.eval (.tmp y) = nu ((m : Nat) : Int) := hy
  have h0' : ¬ m = 0 := by omega
  have ht : ((n : Nat) : Int).tmod ((m : Nat) : Int) = ((n % m : Nat) : Int) := (Int.ofNat_tmod n m).symm
  unfold Oper.wp execOp
  simp only [ho, ex, ey]
  simp [binOp, eqGuard, Op.intDiv, h0', ht]
  exact h
end
theorem wq_build {P : Program} {ops : Array Oper} {C : World → Prop} {Q : Act → Prop} {a : Act} {o : Oper} {rest : List Oper} (ty : TypeId) (ho : o.op = .build ty #[]) (hw : Region.wanted o (yielded ops a.tmps) = true) (z : Array Value) (hr : ∀ w, (Instr.build ty #[]).run P w = .ok (.agg z) w)
    (h : wpQuiet P ops C Q rest (a.put o.dst (.agg z))) : wpQuiet P ops C Q (o :: rest) a := by
  unfold wpQuiet
  rw [if_pos hw]
  refine ⟨.agg z, fun w hC => ?_, h⟩
  unfold Oper.quietAt execOp
  simp only [ho, List.map_toArray, List.map_nil, Sem.run_bind, hr, Result.andThen_ok, Sem.run_pure, Oper.quietUpon]
  trivial
theorem list_eq_of {α : Type} (d : α) (xs ys : List α) (hl : xs.length = ys.length) (h : ∀ j, j < xs.length → xs.getD j d = ys.getD j d) : xs = ys := by
  apply List.ext_getElem hl
  intro i h1 h2
  have := h i h1
  simpa [List.getD, h1, h2] using this
theorem list_ne_at {α : Type} [BEq α] [LawfulBEq α] (d : α) (xs ys : List α) (j : Nat) (h : xs.getD j d ≠ ys.getD j d) : (xs == ys) = false := by
  rw [Bool.eq_false_iff]
  intro e
  exact h (by rw [eq_of_beq e])
theorem list_ne_len {α : Type} [BEq α] [LawfulBEq α] (xs ys : List α) (h : xs.length ≠ ys.length) : (xs == ys) = false := by
  rw [Bool.eq_false_iff]
  intro e
  exact h (by rw [eq_of_beq e])

theorem own_mono {w : World} {base base' e size n : Nat} {v : Value} {xs : List Value} (h : w.ownsRow base e size v n xs) (hb : base' ≤ base) : w.ownsRow base' e size v n xs := by
  refine ⟨h.1, ?_⟩
  rcases h.2 with h0 | ⟨g, cap, cur, rfl, h1, h2⟩
  · exact Or.inl h0
  · exact Or.inr ⟨g, cap, cur, rfl, Nat.le_trans hb h1, h2⟩
theorem ic_at {w : World} {g : Nat} {l : List Int} (h : w.heap[g]? = some (.cells (ic l).toArray 3)) : ∀ j, j < l.length → w.cell? ⟨g, 0 + j, none⟩ = some (nu (l.getD j 0)) := fun j hj => row_zeroY h j _ (by simp [ic, List.getD, hj])
theorem ints_row {w : World} {g : Nat} {l : List Int} (cap : Nat) (h : w.heap[g]? = some (.cells (ic l).toArray 3)) : IntsAt w (.slice (some ⟨g, 0, none⟩) l.length cap) l := ⟨_, cap, rfl, fun _ => ⟨g, 0, rfl, ic_at h⟩⟩
end Go.Proofs.Ytkjgiidmajjonaa.Kn
