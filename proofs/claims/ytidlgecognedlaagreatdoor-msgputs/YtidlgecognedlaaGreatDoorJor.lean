/-
  A region that draws its order, walked once: whatever the order, where those operations that an operation waits for have answered as told, it answers as told; what was there stands.
-/
import Derived.Orders
import Derived.Below
import Derived.WalkKit
namespace Go.Proofs.YtidlgecognedlaaGreatDoor.Ms
open Go Go.RowKit
set_option maxRecDepth 100000

/-- Which operations this law takes: unguarded, each with a slot of its own that nothing ahead uses, each waiting for elder ones alone. -/
def okOps (ops : Array Oper) (keep : List Tmp) (N : Nat) : Bool :=
  (List.range ops.size).all fun i => match ops[i]? with
    | some o => o.guard.isNone && ((match o.dst with | some d => decide (d < N) && !keep.contains d && (List.range ops.size).all (fun j => j == i || ((ops[j]?).bind (·.dst) != some d)) | none => false) && o.after.all (fun e => !Region.binds .any e || decide (e.on < i)))
    | none => false
theorem okOps_at {ops : Array Oper} {keep : List Tmp} {N : Nat} (h : okOps ops keep N = true) {i : Nat} {o : Oper} (ho : ops[i]? = some o) :
    o.guard = none ∧ (∃ d, o.dst = some d ∧ d < N ∧ d ∉ keep ∧ ∀ j, j < ops.size → j ≠ i → (ops[j]?).bind (·.dst) ≠ some d) ∧ ∀ e ∈ o.after, Region.binds .any e = true → e.on < i := by
  have hi : i < ops.size := (Array.getElem?_eq_some_iff.1 ho).1
  unfold okOps at h
  rw [List.all_eq_true] at h
  have h1 := h i (List.mem_range.2 hi)
  rw [ho] at h1
  simp only [Bool.and_eq_true] at h1
  obtain ⟨h1, h2, h3⟩ := h1
  refine ⟨by simpa using h1, ?_, ?_⟩
  · cases hd : o.dst with
    | none => rw [hd] at h2; exact absurd h2 Bool.false_ne_true
    | some d =>
      rw [hd] at h2
      simp only [Bool.and_eq_true, decide_eq_true_eq, List.all_eq_true, List.mem_range] at h2
      refine ⟨d, rfl, h2.1.1, by simpa using h2.1.2, fun j hj hne => ?_⟩
      have := h2.2 j hj
      simpa [hne] using this
  · intro e he hb
    rw [Array.all_eq_true_iff_forall_mem] at h3
    have := h3 e he
    simpa [hb] using this

section
variable {P : Program} {ops : Array Oper} {Q : Exit → Act → World → Prop} {val : Nat → Value → World → Prop} {keep : List Tmp} {a0 : Act} {w0 : World}
structure Mid (ops : Array Oper) (val : Nat → Value → World → Prop) (keep : List Tmp) (a0 : Act) (w0 : World) (listed : Array Bool) (a : Act) (w : World) : Prop where
  below : Below w0.heap.size w0 w
  size : a.tmps.size = a0.tmps.size
  defs : a.defers = a0.defers
  kept : ∀ t ∈ keep, a.tmps.getD t undef = a0.tmps.getD t undef
  done : ∀ i d, listed.getD i false = true → (ops[i]?).bind (·.dst) = some d → val i (a.tmps.getD d undef) w
/-- What one operation owes. -/
def Owes (P : Program) (ops : Array Oper) (Q : Exit → Act → World → Prop) (val : Nat → Value → World → Prop) (keep : List Tmp) (a0 : Act) (w0 : World) (i : Nat) (o : Oper) : Prop :=
  ∀ a w, Below w0.heap.size w0 w → (∀ t ∈ keep, a.tmps.getD t undef = a0.tmps.getD t undef) →
    (∀ j d, (o.after.any fun e => Region.binds .any e && e.on == j) = true → (ops[j]?).bind (·.dst) = some d → val j (a.tmps.getD d undef) w) →
    o.wp P a w (fun a' w' => ∃ v, a' = a.put o.dst v ∧ val i v w' ∧ Below w.heap.size w w') Q
def unl (n : Nat) (listed : Array Bool) : List Nat := (List.range n).filter fun i => !listed.getD i true
theorem mem_unl {n : Nat} {listed : Array Bool} {i : Nat} : i ∈ unl n listed ↔ i < n ∧ listed.getD i true = false := by simp [unl]
theorem getD_set (l : Array Bool) (i j : Nat) (d : Bool) (hi : i < l.size) : (l.setIfInBounds i true).getD j d = if i = j then true else l.getD j d := by
  by_cases h : i = j
  · subst h
    simp [Array.getD_eq_getD_getElem?, hi]
  · simp [Array.getD_eq_getD_getElem?, h]
theorem unl_set {n : Nat} {listed : Array Bool} {i : Nat} (hn : listed.size = n) (hi : i ∈ unl n listed) : (unl n (listed.setIfInBounds i true)).length < (unl n listed).length := by
  have hlt := (mem_unl.1 hi).1
  have e : unl n (listed.setIfInBounds i true) = (unl n listed).filter (fun j => j != i) := by
    unfold unl
    rw [List.filter_filter]
    apply List.filter_congr
    intro j _
    rw [getD_set listed i j true (by omega)]
    by_cases h : i = j
    · subst h; simp
    · have h' : j ≠ i := fun e => h e.symm
      simp [h, h']
  rw [e]
  have := List.length_filter_lt_length_iff_exists (p := fun j => j != i) (l := unl n listed)
  exact this.2 ⟨i, hi, by simp⟩
theorem of_ready {listed : Array Bool} {i : Nat} (h : i ∈ Region.ready .any ops listed) : i < ops.size ∧ listed.getD i true = false ∧ ∀ o, ops[i]? = some o → ∀ e ∈ o.after, Region.binds .any e = true → listed.getD e.on false = true := by
  unfold Region.ready at h
  simp only [List.mem_filter, List.mem_range, Bool.and_eq_true, Bool.not_eq_true'] at h
  refine ⟨h.1, h.2.1, fun o ho e he hb => ?_⟩
  have h3 := h.2.2
  rw [ho] at h3
  simp only [Option.map_some, Option.getD_some, Array.all_eq_true_iff_forall_mem] at h3
  have := h3 e he
  simpa [hb] using this
theorem ready_of {listed : Array Bool} {i : Nat} {o : Oper} (ho : ops[i]? = some o) (hu : listed.getD i true = false) (h : ∀ e ∈ o.after, Region.binds .any e = true → listed.getD e.on false = true) : i ∈ Region.ready .any ops listed := by
  unfold Region.ready
  simp only [List.mem_filter, List.mem_range, Bool.and_eq_true, Bool.not_eq_true']
  refine ⟨(Array.getElem?_eq_some_iff.1 ho).1, hu, ?_⟩
  rw [ho]
  simp only [Option.map_some, Option.getD_some, Array.all_eq_true_iff_forall_mem]
  intro e he
  by_cases hb : Region.binds .any e = true
  · simp [h e he hb]
  · simp [hb]
theorem listed_tf {l : Array Bool} {i : Nat} (hi : i < l.size) (d : Bool) : l.getD i d = l.getD i true := by simp [hi]
/-- Where none may come up all have. -/
theorem all_done {N : Nat} (hok : okOps ops keep N = true) {listed : Array Bool} (hn : listed.size = ops.size) (hr : Region.ready .any ops listed = []) : ∀ n i, i < n → i < ops.size → listed.getD i true = true
  | 0, i, h, _ => absurd h (Nat.not_lt_zero i)
  | n + 1, i, _, hi => by
    cases hu : listed.getD i true with
    | true => rfl
    | false =>
      obtain ⟨o, ho⟩ : ∃ o, ops[i]? = some o := ⟨ops[i], Array.getElem?_eq_getElem hi⟩
      obtain ⟨-, -, he⟩ := okOps_at hok ho
      have hm := ready_of ho hu (fun e hm hb => by
        have hlt := he e hm hb
        have := all_done hok hn hr n e.on (by omega) (by omega)
        rw [listed_tf (by omega) false]
        exact this)
      rw [hr] at hm
      cases hm
theorem wpAny_mid {N : Nat} (hok : okOps ops keep N = true) (hN : a0.tmps.size = N)
    (hmono : ∀ i v w w', val i v w → Below w.heap.size w w' → val i v w')
    (hown : ∀ i o, ops[i]? = some o → Owes P ops Q val keep a0 w0 i o)
    (hend : ∀ a w, Below w0.heap.size w0 w → a.tmps.size = N → a.defers = a0.defers → (∀ t ∈ keep, a.tmps.getD t undef = a0.tmps.getD t undef) → (∀ i d, (ops[i]?).bind (·.dst) = some d → val i (a.tmps.getD d undef) w) → Q .normal a w) :
    ∀ (fuel : Nat) (listed : Array Bool) (a : Act) (w : World), listed.size = ops.size → (unl ops.size listed).length ≤ fuel → Mid ops val keep a0 w0 listed a w → wpAny P .any ops Q fuel listed a w := by
  have fin : ∀ (listed : Array Bool) (a : Act) (w : World), listed.size = ops.size → Mid ops val keep a0 w0 listed a w → (∀ i, i < ops.size → listed.getD i true = true) → Q .normal a w := by
    intro listed a w hn hm hall
    refine hend a w hm.below (hm.size.trans hN) hm.defs hm.kept fun i d hd => hm.done i d ?_ hd
    have hi : i < ops.size := by
      cases ho : ops[i]? with
      | none => rw [ho] at hd; cases hd
      | some o => exact (Array.getElem?_eq_some_iff.1 ho).1
    rw [listed_tf (by omega) false]
    exact hall i hi
  intro fuel
  induction fuel with
  | zero =>
    intro listed a w hn hf hm
    have hall : ∀ i, i < ops.size → listed.getD i true = true := by
      intro i hi
      cases hu : listed.getD i true with
      | true => rfl
      | false =>
        have : i ∈ unl ops.size listed := mem_unl.2 ⟨hi, hu⟩
        have h0 : unl ops.size listed = [] := List.length_eq_zero_iff.1 (by omega)
        rw [h0] at this
        cases this
    refine ⟨?_, fin listed a w hn hm hall⟩
    cases hr : Region.ready .any ops listed with
    | nil => rfl
    | cons i l =>
      have hi : i ∈ Region.ready .any ops listed := by rw [hr]; simp
      obtain ⟨h1, h2, -⟩ := of_ready hi
      rw [hall i h1] at h2
      cases h2
  | succ fuel ih =>
    intro listed a w hn hf hm
    refine ⟨fun hr => fin listed a w hn hm (fun i hi => all_done hok hn hr (i + 1) i (by omega) hi), fun i hi => ?_⟩
    obtain ⟨h1, h2, h3⟩ := of_ready hi
    obtain ⟨o, ho⟩ : ∃ o, ops[i]? = some o := ⟨ops[i], Array.getElem?_eq_getElem h1⟩
    obtain ⟨hg, ⟨d, hd, hdN, hdk, hdi⟩, -⟩ := okOps_at hok ho
    have hw : Region.wanted o (yielded ops a.tmps) = true := by unfold Region.wanted; rw [hg]
    unfold wpOp
    rw [ho]
    simp only [hw, if_true]
    left
    refine Oper.wp_mono ?_ (hown i o ho a w hm.below hm.kept fun j dj hj hdj => hm.done j dj ?_ hdj)
    · rintro a' w' ⟨v, rfl, hv, hb⟩
      have hds : d < a.tmps.size := by rw [hm.size, hN]; exact hdN
      have hput : ∀ t, t ≠ d → (a.put o.dst v).tmps.getD t undef = a.tmps.getD t undef := by
        intro t ht
        have ht' : d ≠ t := fun e => ht e.symm
        rw [hd]
        simp [Act.put, Array.getD_eq_getD_getElem?, ht']
      have hown' : (a.put o.dst v).tmps.getD d undef = v := by
        rw [hd]
        simp [Act.put, hds]
      refine ih _ _ _ (by simp [hn]) (by have := unl_set hn (mem_unl.2 ⟨h1, h2⟩); omega) ⟨?_, ?_, ?_, ?_, ?_⟩
      · exact hm.below.trans (hb.mono hm.below.size)
      · rw [← hm.size, hd]; simp [Act.put]
      · rw [← hm.defs, hd]; rfl
      · intro t ht
        rw [hput t (fun e => hdk (e ▸ ht))]
        exact hm.kept t ht
      · intro j dj hj hdj
        rw [getD_set listed i j false (by omega)] at hj
        by_cases hij : i = j
        · subst hij
          rw [ho] at hdj
          have : dj = d := by simpa [hd] using hdj.symm
          subst this
          rw [hown']
          exact hv
        · rw [if_neg hij] at hj
          have hjs : j < ops.size := by
            cases hoj : ops[j]? with
            | none => rw [hoj] at hdj; cases hdj
            | some oj => exact (Array.getElem?_eq_some_iff.1 hoj).1
          have hne : dj ≠ d := fun e => hdi j hjs (fun e2 => hij e2.symm) (e ▸ hdj)
          rw [hput dj hne]
          exact hmono j _ _ _ (hm.done j dj hj hdj) hb
    · rw [Array.any_eq_true'] at hj
      obtain ⟨e, he, hb⟩ := hj
      simp only [Bool.and_eq_true, beq_iff_eq] at hb
      rw [← hb.2]
      exact h3 o ho e he hb.1
/-- The law of the region. -/
theorem wp_region_mid {id : Nat} {N : Nat} (hf : P.follows .mixedOrders = true) (hok : okOps ops keep N = true) (hN : a0.tmps.size = N)
    (hmono : ∀ i v w w', val i v w → Below w.heap.size w w' → val i v w')
    (hown : ∀ i o, ops[i]? = some o → Owes P ops Q val keep a0 w0 i o)
    (hend : ∀ a w, Below w0.heap.size w0 w → a.tmps.size = N → a.defers = a0.defers → (∀ t ∈ keep, a.tmps.getD t undef = a0.tmps.getD t undef) → (∀ i d, (ops[i]?).bind (·.dst) = some d → val i (a.tmps.getD d undef) w) → Q .normal a w) :
    (Code.region id ops true).wp P Q a0 w0 := by
  refine wp_region_any hf ?_
  refine wpAny_mid hok hN hmono hown hend _ _ _ _ (by simp) ?_ ⟨?_, rfl, rfl, fun _ _ => rfl, ?_⟩
  · have := List.length_filter_le (fun i => !(Array.replicate ops.size false).getD i true) (List.range ops.size)
    simpa [unl] using this
  · exact ⟨rfl, rfl, rfl, Nat.le_refl _, fun k hk => rfl⟩
  · intro i d h
    exfalso
    revert h
    simp [Array.getD_eq_getD_getElem?, Array.getElem?_replicate]
    split <;> simp
end
end Go.Proofs.YtidlgecognedlaaGreatDoor.Ms
