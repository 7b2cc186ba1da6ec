/-
  A region that draws its order, has guarded operations that all come up, and calls that write: the guards' slots are Bools that are known.
-/
import Derived.Test.YtkjgiidmajjonaaWpd
namespace Go.Proofs.Ytkjgiidmajjonaa.Kn
open Go Go.RowKit
set_option maxRecDepth 100000

def okElsG (ops : Array Oper) : Bool :=
  (List.range ops.size).all fun i => match ops[i]? with
    | some o => o.after.all (fun e => !Region.binds .any e || decide (e.on < i))
    | none => false
theorem okElsG_at {ops : Array Oper} (h : okElsG ops = true) {i : Nat} {o : Oper} (ho : ops[i]? = some o) : ∀ e ∈ o.after, Region.binds .any e = true → e.on < i := by
  have hi : i < ops.size := (Array.getElem?_eq_some_iff.1 ho).1
  unfold okElsG at h
  rw [List.all_eq_true] at h
  have h1 := h i (List.mem_range.2 hi)
  rw [ho] at h1
  intro e he hb
  simp only at h1
  rw [Array.all_eq_true_iff_forall_mem] at h1
  have := h1 e he
  simpa [hb] using this
section
variable {P : Program} {ops : Array Oper} {Q : Exit → Act → World → Prop} {a0 : Act} {w0 : World} {I : (Nat → Bool) → Act → World → Prop}
theorem all_elsG (hok : okElsG ops = true) {listed : Array Bool} (hn : listed.size = ops.size) (hr : Region.ready .any ops listed = []) : ∀ n i, i < n → i < ops.size → listed.getD i true = true
  | 0, i, h, _ => absurd h (Nat.not_lt_zero i)
  | n + 1, i, _, hi => by
    cases hu : listed.getD i true with
    | true => rfl
    | false =>
      obtain ⟨o, ho⟩ : ∃ o, ops[i]? = some o := ⟨ops[i], Array.getElem?_eq_getElem hi⟩
      have he := okElsG_at hok ho
      have hm := ready_ofB ho hu (fun e hm hb => by
        have hlt := he e hm hb
        have := all_elsG hok hn hr n e.on (by omega) (by omega)
        rw [listed_tfB (by omega) false]
        exact this)
      rw [hr] at hm
      cases hm
theorem wpAny_invG (hok : okElsG ops = true)
    (hgd : ∀ (L : Nat → Bool) (a : Act) (w : World) (i : Nat) (o : Oper), ops[i]? = some o → I L a w → (∀ j, (o.after.any fun e => Region.binds .any e && e.on == j) = true → L j = true) → Region.wanted o (yielded ops a.tmps) = true)
    (hstep : ∀ L a w i o, ops[i]? = some o → I L a w → L i = false → (∀ j, (o.after.any fun e => Region.binds .any e && e.on == j) = true → L j = true) → o.wp P a w (fun a' w' => I (up L i) a' w') Q)
    (hend : ∀ L a w, (∀ i, i < ops.size → L i = true) → I L a w → Q .normal a w) :
    ∀ (fuel : Nat) (listed : Array Bool) (a : Act) (w : World), listed.size = ops.size → (unlB ops.size listed).length ≤ fuel → I (fun j => listed.getD j false) a w → wpAny P .any ops Q fuel listed a w := by
  have fin : ∀ (listed : Array Bool) (a : Act) (w : World), listed.size = ops.size → I (fun j => listed.getD j false) a w → (∀ i, i < ops.size → listed.getD i true = true) → Q .normal a w := by
    intro listed a w hn hm hall
    refine hend _ a w (fun i hi => ?_) hm
    show listed.getD i false = true
    rw [listed_tfB (by omega) false]
    exact hall i hi
  intro fuel
  induction fuel with
  | zero =>
    intro listed a w hn hf hm
    have hall : ∀ i, i < ops.size → listed.getD i true = true := by
      intro i hi
      cases hu : listed.getD i true with
      | true => rfl
      | false =>
        have : i ∈ unlB ops.size listed := mem_unlB.2 ⟨hi, hu⟩
        have h0 : unlB ops.size listed = [] := List.length_eq_zero_iff.1 (by omega)
        rw [h0] at this
        cases this
    refine ⟨?_, fin listed a w hn hm hall⟩
    cases hr : Region.ready .any ops listed with
    | nil => rfl
    | cons i l =>
      have hi : i ∈ Region.ready .any ops listed := by rw [hr]; simp
      obtain ⟨h1, h2, -⟩ := of_readyB hi
      rw [hall i h1] at h2
      cases h2
  | succ fuel ih =>
    intro listed a w hn hf hm
    refine ⟨fun hr => fin listed a w hn hm (fun i hi => all_elsG hok hn hr (i + 1) i (by omega) hi), fun i hi => ?_⟩
    obtain ⟨h1, h2, h3⟩ := of_readyB hi
    obtain ⟨o, ho⟩ : ∃ o, ops[i]? = some o := ⟨ops[i], Array.getElem?_eq_getElem h1⟩
    have hwt : ∀ j, (o.after.any fun e => Region.binds .any e && e.on == j) = true → listed.getD j false = true := fun j hj => by
      rw [Array.any_eq_true'] at hj
      obtain ⟨e, he, hb⟩ := hj
      simp only [Bool.and_eq_true, beq_iff_eq] at hb
      rw [← hb.2]
      exact h3 o ho e he hb.1
    have hw : Region.wanted o (yielded ops a.tmps) = true := hgd _ a w i o ho hm hwt
    unfold wpOp
    rw [ho]
    simp only [hw, if_true]
    left
    refine Oper.wp_mono ?_ (hstep _ a w i o ho hm (by show listed.getD i false = false; rw [listed_tfB (by omega) false]; exact h2) (fun j hj => ?_))
    · intro a' w' hI
      refine ih _ _ _ (by simp [hn]) (by have := unl_setB hn (mem_unlB.2 ⟨h1, h2⟩); omega) ?_
      have e : (fun j => (listed.setIfInBounds i true).getD j false) = up (fun j => listed.getD j false) i := funext fun j => getB_set listed i j false (by omega)
      rw [e]
      exact hI
    · rw [Array.any_eq_true'] at hj
      obtain ⟨e, he, hb⟩ := hj
      simp only [Bool.and_eq_true, beq_iff_eq] at hb
      rw [← hb.2]
      exact h3 o ho e he hb.1
theorem wp_region_invG {id : Nat} (I : (Nat → Bool) → Act → World → Prop) (hf : P.follows .mixedOrders = true) (hok : okElsG ops = true) (h0 : ∀ w1, Below w0.heap.size w0 w1 → I (fun _ => false) a0 w1)
    (hgd : ∀ (L : Nat → Bool) (a : Act) (w : World) (i : Nat) (o : Oper), ops[i]? = some o → I L a w → (∀ j, (o.after.any fun e => Region.binds .any e && e.on == j) = true → L j = true) → Region.wanted o (yielded ops a.tmps) = true)
    (hstep : ∀ L a w i o, ops[i]? = some o → I L a w → L i = false → (∀ j, (o.after.any fun e => Region.binds .any e && e.on == j) = true → L j = true) → o.wp P a w (fun a' w' => I (up L i) a' w') Q)
    (hend : ∀ L a w, (∀ i, i < ops.size → L i = true) → I L a w → Q .normal a w) :
    (Code.region id ops true).wp P Q a0 w0 := by
  refine wp_region_any hf ?_
  refine wpAny_invG (I := I) hok hgd hstep hend _ _ _ _ (by simp) ?_ ?_
  · have := List.length_filter_le (fun i => !(Array.replicate ops.size false).getD i true) (List.range ops.size)
    simpa [unlB] using this
  · have e : (fun j => (Array.replicate ops.size false).getD j false) = fun _ => false := by
      funext j
      simp [Array.getD_eq_getD_getElem?, Array.getElem?_replicate]
      split <;> simp
    rw [e]
    exact h0 _ ⟨rfl, rfl, rfl, Nat.le_refl _, fun k hk => rfl⟩
end
def okMdG (ops : Array Oper) (N : Nat) : Bool :=
  okElsG ops && (List.range ops.size).all fun i => match dstOf ops i with
    | some d => decide (d < N) && (List.range ops.size).all (fun j => j == i || dstOf ops j != some d)
    | none => true
theorem okMdG_at {ops : Array Oper} {N : Nat} (h : okMdG ops N = true) : okElsG ops = true ∧ ∀ i d, dstOf ops i = some d → d < N ∧ ∀ j, dstOf ops j = some d → j = i := by
  unfold okMdG at h
  rw [Bool.and_eq_true, List.all_eq_true] at h
  refine ⟨h.1, fun i d hd => ?_⟩
  have h1 := h.2 i (List.mem_range.2 (dst_lt hd))
  rw [hd] at h1
  simp only [Bool.and_eq_true, decide_eq_true_eq, List.all_eq_true, List.mem_range] at h1
  refine ⟨h1.1, fun j hj => ?_⟩
  have := h1.2 j (dst_lt hj)
  simpa [hj] using this
section
variable {P : Program} {ops : Array Oper} {Q : Exit → Act → World → Prop} {N : Nat} {a0 : Act} {w0 : World} {val : (Nat → Bool) → Nat → Value → World → Prop} {J : (Nat → Bool) → World → Prop} {L : Nat → Bool} {a : Act} {w w' : World} {i : Nat} {o : Oper}
theorem Md.stepG (hok : okMdG ops N = true) (hm : Md ops N a0 val J L a w) (ho : ops[i]? = some o) (hw : ∀ j, waits o j = true → L j = true) {v : Value} (hv : o.dst.isSome = true → val (up L i) i v w') (hJ : J (up L i) w') (hmono : ∀ j d, L j = true → dstOf ops j = some d → val (up L i) j (a.tmps.getD d undef) w') :
    Md ops N a0 val J (up L i) (a.put o.dst v) w' := by
  obtain ⟨-, hd⟩ := okMdG_at hok
  have hdi : dstOf ops i = o.dst := by unfold dstOf; rw [ho]; rfl
  refine ⟨(put_size _ _ _).trans hm.size, (put_defs _ _ _).trans hm.defs, fun t ht => ?_, fun j d hj hdj => ?_, fun j oj hoj hj x hx => ?_, hJ⟩
  · have h1 := ht i (up_self L i)
    rw [hdi] at h1
    have h2 := hm.kept t (fun j hj => ht j (by unfold up; split <;> first | rfl | exact hj))
    rw [← h2]
    cases e : o.dst with
    | none => rfl
    | some d => exact put_ne _ _ _ _ (fun e2 => h1 (by rw [e, e2]))
  · by_cases hij : i = j
    · subst hij
      rw [hdi] at hdj
      rw [hdj]
      rw [put_eq _ _ _ (by rw [hm.size]; exact (hd i d (hdi.trans hdj)).1)]
      exact hv (by rw [hdj]; rfl)
    · rw [up_ne hij] at hj
      have hne : o.dst ≠ some d := fun e => hij ((hd j d hdj).2 i (hdi.trans e))
      have e2 : (a.put o.dst v).tmps.getD d undef = a.tmps.getD d undef := by
        cases e : o.dst with
        | none => rfl
        | some d' => exact put_ne _ _ _ _ (fun e2 => hne (by rw [e, e2]))
      rw [e2]
      exact hmono j d hj hdj
  · by_cases hij : i = j
    · subst hij
      rw [ho] at hoj
      cases hoj
      unfold up
      split
      · rfl
      · exact hw x hx
    · rw [up_ne hij] at hj
      unfold up
      split
      · rfl
      · exact hm.clos j oj hoj hj x hx
theorem wp_region_mdG {id : Nat} (val : (Nat → Bool) → Nat → Value → World → Prop) (J : (Nat → Bool) → World → Prop) (hf : P.follows .mixedOrders = true) (hok : okMdG ops N = true) (hN : a0.tmps.size = N) (h0 : ∀ w1, Below w0.heap.size w0 w1 → J (fun _ => false) w1)
    (hgs : ∀ (i : Nat) (o : Oper) (j : Nat) (b : Bool), ops[i]? = some o → o.guard = some (j, b) → waits o j = true ∧ (∃ d, dstOf ops j = some d) ∧ ∀ L v w, val L j v w → v = .bool b)
    (hown : ∀ i o, ops[i]? = some o → Owe P ops Q N a0 val J i o)
    (hend : ∀ L a w, (∀ i, i < ops.size → L i = true) → J L w → a.tmps.size = N → a.defers = a0.defers → (∀ t, noneW ops t = true → a.tmps.getD t undef = a0.tmps.getD t undef) → (∀ i d, dstOf ops i = some d → val L i (a.tmps.getD d undef) w) → Q .normal a w) :
    (Code.region id ops true).wp P Q a0 w0 := by
  refine wp_region_invG (Md ops N a0 val J) hf (okMdG_at hok).1 (fun w1 hw1 => ⟨hN, rfl, fun _ _ => rfl, by simp, by simp, h0 w1 hw1⟩) ?_ ?_ ?_
  · intro L a w i o ho hm hw
    unfold Region.wanted
    cases hg : o.guard with
    | none => rfl
    | some jb =>
      obtain ⟨j, b⟩ := jb
      obtain ⟨h1, ⟨d, h2⟩, h3⟩ := hgs i o j b ho hg
      have hv := h3 _ _ _ (hm.done j d (hw j h1) h2)
      have hdN : d < a.tmps.size := by rw [hm.size]; exact ((okMdG_at hok).2 j d h2).1
      have hy : yielded ops a.tmps j = some b := by
        unfold yielded
        have e1 : (ops[j]?).bind (·.dst) = some d := h2
        rw [e1]
        simp only [Option.bind_some]
        have e2 : a.tmps[d]? = some (.bool b) := by rw [Array.getD_eq_getD_getElem?] at hv; rw [Array.getElem?_eq_getElem hdN] at hv ⊢; exact congrArg some hv
        rw [e2]
      simp [hy]
  · intro L a w i o ho hm hLi hw
    refine Oper.wp_mono ?_ (hown i o ho L a w hLi hw (hm.not hLi) hm.inv hm.size (hm.keepAt hLi) hm.done)
    rintro a' w' ⟨v, rfl, hv, hJ, hmono⟩
    exact hm.stepG hok ho hw hv hJ hmono
  · intro L a w hall hm
    refine hend L a w hall hm.inv hm.size hm.defs (fun t ht => hm.kept t (fun i _ e => ?_)) (fun i d hdi => hm.done i d (hall i (dst_lt hdi)) hdi)
    unfold noneW at ht
    rw [List.all_eq_true] at ht
    have := ht i (List.mem_range.2 (dst_lt e))
    simp [e] at this

end
section
variable {P : Program} {ops : Array Oper} {Q : Exit → Act → World → Prop} {N : Nat} {a0 : Act} {w0 : World} {i : Nat} {o : Oper}
theorem wp_region_csG {id : Nat} (cs : List Value) (J : (Nat → Bool) → World → Prop) (ds : List (Nat × Value)) (hf : P.follows .mixedOrders = true) (hok : okMdG ops N = true) (hN : a0.tmps.size = N)
    (h0 : ∀ w1, Below w0.heap.size w0 w1 → J (fun _ => false) w1) (hds : (List.range ops.size).filterMap (fun i => (dstOf ops i).map fun d => (d, cs.getD i undef)) = ds)
    (hgs : ∀ (i : Nat) (o : Oper) (j : Nat) (b : Bool), ops[i]? = some o → o.guard = some (j, b) → waits o j = true ∧ (∃ d, dstOf ops j = some d) ∧ cs.getD j undef = .bool b)
    (hown : ∀ i o, ops[i]? = some o → OweK P ops Q a0 cs J i o)
    (hend : ∀ L W, (∀ i, i < ops.size → L i = true) → J L W → Q .normal { tmps := ds.foldl (fun B p => B.setIfInBounds p.1 p.2) a0.tmps, defers := a0.defers } W) :
    (Code.region id ops true).wp P Q a0 w0 := by
  refine wp_region_mdG (N := N) (fun _ i v _ => v = cs.getD i undef) J hf hok hN h0 (fun i o j b ho hg => ⟨(hgs i o j b ho hg).1, (hgs i o j b ho hg).2.1, fun _ v _ hv => hv.trans (hgs i o j b ho hg).2.2⟩) ?_ ?_
  · intro i o ho L a w hLi hw hnot hJ hs hk hv
    exact hown i o ho L a w hLi hw hnot hJ hk (fun j d hj hd => hv j d (hw j hj) hd) _ (fun w' hJ' => ⟨_, rfl, fun _ => rfl, hJ', fun j d hj hd => hv j d hj hd⟩)
  · intro L a W hall hJ hs hd hk hv
    have e := frame_of (c := fun i => cs.getD i undef) (hs.trans hN.symm) hk hv
    have e2 := e.trans (fold_pairs (fun i => dstOf ops i) (fun i => cs.getD i undef) (List.range ops.size) a0.tmps)
    rw [hds] at e2
    have ea : a = { tmps := ds.foldl (fun B p => B.setIfInBounds p.1 p.2) a0.tmps, defers := a0.defers } := by
      obtain ⟨tm, df⟩ := a
      cases e2
      cases hd
      rfl
    rw [ea]
    exact hend L W hall hJ
end
end Go.Proofs.Ytkjgiidmajjonaa.Kn
