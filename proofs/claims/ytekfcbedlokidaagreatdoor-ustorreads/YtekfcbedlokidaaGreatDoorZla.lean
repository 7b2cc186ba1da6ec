/-
  Regions that draw their order, where some slots hold what was made on the way (for every program): a law; calls of a function that a slot holds; lists of one-celled values made at once.
-/
import Derived.Test.YtekfcbedlokidaaGreatDoorH30
import Derived.Orders
namespace Go.Proofs.YtekfcbedlokidaaGreatDoor.Ms
open Go Go.RowKit
set_option maxRecDepth 100000
section
variable {P : Program} {ops : Array Oper} {Q : Exit → Act → World → Prop} {N : Nat} {a0 : Act} {w0 : World} {i : Nat} {o : Oper} {S : List Nat} {sp : Nat → Value → World → Prop} {cs : List Value} {J : (Nat → Bool) → World → Prop} {R : World → World → Prop}
def OweP (P : Program) (ops : Array Oper) (Q : Exit → Act → World → Prop) (a0 : Act) (S : List Nat) (sp : Nat → Value → World → Prop) (cs : List Value) (J : (Nat → Bool) → World → Prop) (R : World → World → Prop) (i : Nat) (o : Oper) : Prop :=
  ∀ L a w, L i = false → (∀ j, waits o j = true → L j = true) → (∀ j oj, ops[j]? = some oj → waits oj i = true → L j = false) → J L w →
    (∀ t, keepOk ops i t = true → a.tmps.getD t undef = a0.tmps.getD t undef) → (∀ j d, waits o j = true → dstOf ops j = some d → vG S sp cs j (a.tmps.getD d undef) w) →
    ∀ K : Act → World → Prop, (∀ v w', (o.dst.isSome = true → vG S sp cs i v w') → R w w' → J (up L i) w' → K (a.put o.dst v) w') → o.wp P a w K Q
theorem wp_region_sp {id : Nat} (S : List Nat) (sp : Nat → Value → World → Prop) (cs : List Value) (J : (Nat → Bool) → World → Prop) (R : World → World → Prop) (ds : (Nat → Value) → List (Nat × Value)) (hf : P.follows .mixedOrders = true) (hok : okMd ops N = true) (hN : a0.tmps.size = N)
    (hds : ∀ u : Nat → Value, (List.range ops.size).filterMap (fun i => (dstOf ops i).map fun d => (d, if i ∈ S then u i else cs.getD i undef)) = ds u)
    (hsp : ∀ L L' i v w w', J L w → J L' w' → R w w' → sp i v w → sp i v w')
    (h0 : ∀ w1, Below w0.heap.size w0 w1 → J (fun _ => false) w1)
    (hown : ∀ i o, ops[i]? = some o → OweP P ops Q a0 S sp cs J R i o)
    (hend : ∀ u L W, (∀ i, i < ops.size → L i = true) → J L W → Q .normal { tmps := (ds u).foldl (fun B p => B.setIfInBounds p.1 p.2) a0.tmps, defers := a0.defers } W) :
    (Code.region id ops true).wp P Q a0 w0 := by
  refine wp_region_md (N := N) (fun _ i v w => vG S sp cs i v w) J hf hok hN h0 ?_ ?_
  · intro i o ho L a w hLi hw hnot hJ hs hk hv
    refine hown i o ho L a w hLi hw hnot hJ hk (fun j d hj hd => hv j d (hw j hj) hd) _ (fun v w' hv' hR hJ' => ⟨v, rfl, hv', hJ', fun j d hj hd => ?_⟩)
    have h1 : vG S sp cs j (a.tmps.getD d undef) w := hv j d hj hd
    show vG S sp cs j (a.tmps.getD d undef) w'
    unfold vG at h1 ⊢
    by_cases e : j ∈ S
    · rw [if_pos e] at h1 ⊢
      exact hsp _ _ _ _ _ _ hJ hJ' hR h1
    · rw [if_neg e] at h1 ⊢
      exact h1
  · intro L a W hall hJ hs hd hk hv
    obtain ⟨u, hu⟩ : ∃ u : Nat → Value, ∀ i d, dstOf ops i = some d → u i = a.tmps.getD d undef := ⟨fun i => match dstOf ops i with | some d => a.tmps.getD d undef | none => undef, fun i d h => by simp only [h]⟩
    have e := frame_of (c := fun i => if i ∈ S then u i else cs.getD i undef) (hs.trans hN.symm) hk (fun i d hdi => by
      have h1 : vG S sp cs i (a.tmps.getD d undef) W := hv i d hdi
      unfold vG at h1
      by_cases hi : i ∈ S
      · rw [if_pos hi]; exact (hu i d hdi).symm
      · rw [if_neg hi] at h1 ⊢; exact h1)
    have e2 := e.trans (fold_pairs (fun i => dstOf ops i) (fun i => if i ∈ S then u i else cs.getD i undef) (List.range ops.size) a0.tmps)
    rw [hds] at e2
    have ea : a = { tmps := (ds u).foldl (fun B p => B.setIfInBounds p.1 p.2) a0.tmps, defers := a0.defers } := by
      obtain ⟨tm, df⟩ := a
      cases e2
      cases hd
      rfl
    rw [ea]
    exact hend u L W hall hJ
theorem oweP (c : Value) (hi : i ∉ S) (hc : cs.getD i undef = c)
    (H : ∀ (L : Nat → Bool) (a : Act) (w : World), L i = false → J L w → (∀ j oj, ops[j]? = some oj → waits oj i = true → L j = false) → (∀ t, keepOk ops i t = true → a.tmps.getD t undef = a0.tmps.getD t undef) → (∀ j d, waits o j = true → j ∉ S → dstOf ops j = some d → a.tmps.getD d undef = cs.getD j undef) → (∀ j d, waits o j = true → j ∈ S → dstOf ops j = some d → sp j (a.tmps.getD d undef) w) →
      ∀ K : Act → World → Prop, (∀ w', R w w' → J (up L i) w' → K (a.put o.dst c) w') → o.wp P a w K Q) :
    OweP P ops Q a0 S sp cs J R i o := by
  intro L a w hLi hw hnot hJ hk hv K h
  refine H L a w hLi hJ hnot hk (fun j d hj hjs hd => vG_c (hv j d hj hd) hjs) (fun j d hj hjs hd => vG_s (hv j d hj hd) hjs) K (fun w' hR hJ' => h c w' (fun _ => ?_) hR hJ')
  unfold vG
  rw [if_neg hi]
  exact hc.symm
theorem oweS (hi : i ∈ S)
    (H : ∀ (L : Nat → Bool) (a : Act) (w : World), L i = false → J L w → (∀ j oj, ops[j]? = some oj → waits oj i = true → L j = false) → (∀ t, keepOk ops i t = true → a.tmps.getD t undef = a0.tmps.getD t undef) → (∀ j d, waits o j = true → j ∉ S → dstOf ops j = some d → a.tmps.getD d undef = cs.getD j undef) → (∀ j d, waits o j = true → j ∈ S → dstOf ops j = some d → sp j (a.tmps.getD d undef) w) →
      ∀ K : Act → World → Prop, (∀ v w', sp i v w' → R w w' → J (up L i) w' → K (a.put o.dst v) w') → o.wp P a w K Q) :
    OweP P ops Q a0 S sp cs J R i o := by
  intro L a w hLi hw hnot hJ hk hv K h
  refine H L a w hLi hJ hnot hk (fun j d hj hjs hd => vG_c (hv j d hj hd) hjs) (fun j d hj hjs hd => vG_s (hv j d hj hd) hjs) K (fun v w' hs hR hJ' => h v w' (fun _ => ?_) hR hJ')
  unfold vG
  rw [if_pos hi]
  exact hs
end
section
variable {P : Program} {o : Oper} {a : Act} {w : World} {Q : Exit → Act → World → Prop} {K : Act → World → Prop}
theorem op_callV (t : Tmp) (f : FuncId) (cap : Array Value) (xs : List Operand) (ts : Array TypeId) (vs : Array Value) (v : Value) (ho : o.op = .call { callee := .value (.tmp t), args := xs.toArray, argTypes := ts }) (ht : a.tmps.getD t undef = .func (.func f) #[] cap) (hc : ∀ args w, (callFunc f args).run P w = .ok (.enter f args) w) (hx : (xs.map a.eval).toArray = vs)
    {J : World → Prop} (hm : Calls P f (vs ++ cap) w fun e w' => e = .returned v ∧ J w') (h : ∀ w', J w' → K (a.put o.dst v) w') : o.wp P a w K Q := by
  unfold Oper.wp execOp
  have e : (do let d ← resolve a.eval { callee := .value (.tmp t), args := xs.toArray, argTypes := ts } o.type; invoke d.target d.args : Sem Next).run P w = .ok (.enter f (vs ++ cap)) w := by
    have e0 : a.eval (.tmp t) = .func (.func f) #[] cap := ht
    simp [resolve, Deferred.ofValue, invoke, hc, e0, hx]
  simp only [ho]
  rw [e]
  simp only [Oper.upon]
  refine hm.mono ?_
  rintro e w' ⟨rfl, hJ⟩
  exact h w' hJ
theorem op_bsV (t e : TypeId) (l : List (Nat × Operand)) (ho : o.op = .buildSlice t l.length l.toArray) (hpos : 0 < l.length) (hsm : l.length ≤ 1000) (ht : Tryz.prog.underlying t = some (.slice e)) (z : Value) (bytes : Nat) (hinfo : (Tryz.prog.info? e).map (fun i => (i.zero, i.size, i.bytes)) = some (some z, 1, bytes)) (vs : List Value) (hvl : vs.length = l.length) (hfl : l.map (fun x => (x.1, a.eval x.2)) = (vs.zipIdx 0).map fun x => (x.2, x.1)) (h1 : ∀ v ∈ vs, v.oneCell' = true)
    (h : K (a.put o.dst (.slice (some ⟨w.heap.size, 0, none⟩) l.length l.length)) (w.alloc (.cells vs.toArray e))) : o.wp Tryz.prog a w K Q := by
  obtain ⟨i, hi, hz0, hz1, hz2⟩ := info_parts hinfo
  have e0 : ∀ (us : List Value), (∀ v ∈ us, v.oneCell' = true) → us.flatMap (fun v => v.cells.toList) = us := by
    intro us
    induction us with
    | nil => intro _; rfl
    | cons u us ih =>
      intro hu
      rw [List.flatMap_cons, ih (fun v hv => hu v (by simp [hv])), cells_one (hu u (by simp))]
      rfl
  have hfill := Great.fill_whole (s := 1) (by decide) vs ((Array.range (l.length * 1)).map (z.cells[· % z.cells.size]!)) (fun v hv => by rw [cells_one (h1 v hv)]; rfl) (by simp [hvl])
  rw [e0 vs h1] at hfill
  refine wp_buildSlice t e l.length l.toArray ho _ i z ht hi hz0 (by rw [hz1]; omega) (by rw [hz1]; omega) (by rw [hz1]; simpa [hfl] using hfill) h
end
end Go.Proofs.YtekfcbedlokidaaGreatDoor.Ms
