/-
  Single operations of a region that draws its order: texts that are joined, lists of numbers, arguments of calls; fields' places.
-/
import Derived.Test.YtekfcbedlokidaaGreatDoorH03
import Derived.Test.YtekfcbedlokidaaGreatDoorH08
import Derived.Test.YtekfcbedlokidaaGreatDoorH01
import Derived.Laws.Concat
import Derived.Test.YtekfcbedlokidaaGreatDoorH25
namespace Go.Proofs.YtekfcbedlokidaaGreatDoor.Ms
open Go Go.RowKit
set_option maxRecDepth 100000
theorem args1 {x c : Value} (h : x = c) : [x].toArray = #[c] := by rw [h]
theorem args2 {x c y d : Value} (h : x = c) (k : y = d) : [x, y].toArray = #[c, d] := by rw [h, k]
theorem args3 {x c y d z e : Value} (h : x = c) (k : y = d) (l : z = e) : [x, y, z].toArray = #[c, d, e] := by rw [h, k, l]
theorem args4 {x c y d z e u f : Value} (h : x = c) (k : y = d) (l : z = e) (m : u = f) : [x, y, z, u].toArray = #[c, d, e, f] := by rw [h, k, l, m]
section
variable {P : Program} {w : World} {o : Oper} {a : Act} {Q : Exit → Act → World → Prop} {K : Act → World → Prop}
theorem op_addS (x y : Operand) (T R : TypeId) (s t : List UInt8) (ho : o.op = .binOp .add T x y R) (hx : a.eval x = st s) (hy : a.eval y = st t) (hl : s.length + t.length ≤ 9223372036854775807) (h : K (a.put o.dst (st (s ++ t))) w) : o.wp P a w K Q := by
  have e := run_string_add_sum (P := P) w ⟨s.toArray⟩ ⟨t.toArray⟩ (by show s.length + t.length ≤ _; exact hl)
  rw [str_app] at e
  unfold Oper.wp execOp
  simp [ho, hx, hy, eqGuard, binOp, e]
  exact h
end
def vG (S : List Nat) (sp : Nat → Value → World → Prop) (cs : List Value) (i : Nat) (v : Value) (w : World) : Prop := if i ∈ S then sp i v w else v = cs.getD i undef
section
variable {S : List Nat} {sp : Nat → Value → World → Prop} {cs : List Value} {i : Nat} {v : Value} {w : World}
theorem vG_c (h : vG S sp cs i v w) (hi : i ∉ S) : v = cs.getD i undef := by
  unfold vG at h
  rwa [if_neg hi] at h
theorem vG_s (h : vG S sp cs i v w) (hi : i ∈ S) : sp i v w := by
  unfold vG at h
  rwa [if_pos hi] at h
end
open Go Go.RowKit
section
variable {P : Program} {ops : Array Oper} {Q : Exit → Act → World → Prop} {N : Nat} {a0 : Act} {w0 : World} {ia st : Nat} {T : TypeId} {len : Nat} {new cs : List Value} {i : Nat} {o : Oper}
theorem fold_pairs (f : Nat → Option Nat) (c : Nat → Value) : ∀ (l : List Nat) (B : Array Value), l.foldl (fun B i => match f i with | some d => B.setIfInBounds d (c i) | none => B) B = (l.filterMap fun i => (f i).map fun d => (d, c i)).foldl (fun B p => B.setIfInBounds p.1 p.2) B
  | [], _ => rfl
  | i :: l, B => by
    rw [List.foldl_cons, fold_pairs f c l, List.filterMap_cons]
    cases f i <;> rfl
end
open Go Go.RowKit
set_option maxRecDepth 100000
section
variable {P : Program} {ops : Array Oper} {Q : Exit → Act → World → Prop} {N : Nat} {a0 : Act} {w0 : World} {i : Nat} {o : Oper}
def OweK (P : Program) (ops : Array Oper) (Q : Exit → Act → World → Prop) (a0 : Act) (cs : List Value) (J : (Nat → Bool) → World → Prop) (i : Nat) (o : Oper) : Prop :=
  ∀ L a w, L i = false → (∀ j, waits o j = true → L j = true) → (∀ j oj, ops[j]? = some oj → waits oj i = true → L j = false) → J L w →
    (∀ t, keepOk ops i t = true → a.tmps.getD t undef = a0.tmps.getD t undef) → (∀ j d, waits o j = true → dstOf ops j = some d → a.tmps.getD d undef = cs.getD j undef) →
    ∀ K : Act → World → Prop, (∀ w', J (up L i) w' → K (a.put o.dst (cs.getD i undef)) w') → o.wp P a w K Q
theorem wp_region_cs {id : Nat} (cs : List Value) (J : (Nat → Bool) → World → Prop) (ds : List (Nat × Value)) (hf : P.follows .mixedOrders = true) (hok : okMd ops N = true) (hN : a0.tmps.size = N)
    (h0 : ∀ w1, Below w0.heap.size w0 w1 → J (fun _ => false) w1) (hds : (List.range ops.size).filterMap (fun i => (dstOf ops i).map fun d => (d, cs.getD i undef)) = ds)
    (hown : ∀ i o, ops[i]? = some o → OweK P ops Q a0 cs J i o)
    (hend : ∀ L W, (∀ i, i < ops.size → L i = true) → J L W → Q .normal { tmps := ds.foldl (fun B p => B.setIfInBounds p.1 p.2) a0.tmps, defers := a0.defers } W) :
    (Code.region id ops true).wp P Q a0 w0 := by
  refine wp_region_md (N := N) (fun _ i v _ => v = cs.getD i undef) J hf hok hN h0 ?_ ?_
  · intro i o ho L a w hLi hw hnot hJ hs hk hv
    exact hown i o ho L a w hLi hw hnot hJ hk (fun j d hj hd => hv j d (hw j hj) hd) _ (fun w' hJ' => ⟨_, rfl, fun _ => rfl, hJ', fun j d hj hd => hv j d hj hd⟩)
  · intro L a W hall hJ hs hd hk hv
    have e := frame_of (c := fun i => cs.getD i undef) (hs.trans hN.symm) hk hv
    have e2 := e.trans (fold_pairs (fun i => dstOf ops i) (fun i => cs.getD i undef) (List.range ops.size) a0.tmps)
    rw [hds] at e2
    have ea : a = { tmps := ds.foldl (fun B p => B.setIfInBounds p.1 p.2) a0.tmps, defers := a0.defers } := by
      obtain ⟨tm, df⟩ := a
      cases e2
      cases hd
      rfl
    rw [ea]
    exact hend L W hall hJ
theorem op_buildY (ty : TypeId) (l : List (Nat × Operand)) (ho : o.op = .build ty l.toArray) (z : Value) {a : Act} {w : World} {K : Act → World → Prop} (hr : (Instr.build ty (l.map fun x => (x.1, a.eval x.2)).toArray).run P w = .ok z w) (h : K (a.put o.dst z) w) : o.wp P a w K Q := by
  unfold Oper.wp execOp
  simp only [ho, List.map_toArray, Sem.run_bind, hr, Result.andThen_ok, Sem.run_pure]
  exact h
theorem op_assignC (c : Value) (ho : o.op = .assign (.const c)) {a : Act} {w : World} {K : Act → World → Prop} (h : K (a.put o.dst c) w) : o.wp P a w K Q := by
  unfold Oper.wp execOp
  simp only [ho]
  exact h
theorem op_addC (t : Tmp) (T R : TypeId) (n m : Int) (ho : o.op = .binOp .add T (.tmp t) (.const (nu m)) R) {a : Act} {w : World} {K : Act → World → Prop} (hx : a.tmps.getD t undef = nu n) (hr : I64 (n + m)) (h : K (a.put o.dst (nu (n + m))) w) : o.wp P a w K Q := by
  have ex : a.eval (.tmp t) = nu n := hx
  have ey : a.eval (.const (nu m)) = nu m := rfl
  have hw : IntKind.i64.wrap (n + m) = n + m := by have h1 := hr.1; have h2 := hr.2; rw [IntKind.wrap_i64]; omega
  unfold Oper.wp execOp
  simp only [ho, ex, ey]
  simp [binOp, eqGuard, Op.intArith, hw]
  exact h
end
def spN (st : Nat) (T : TypeId) (len : Nat) (new : List Value) (B : Nat) (L : Nat → Bool) (v : Value) (w : World) : Prop :=
  ∃ g row, v = pt g 0 ∧ B ≤ g ∧ w.heap[g]? = some (.cells (List.toArray row) T) ∧ row.length = len ∧ (L st = true → row = new)
def vN (ia st : Nat) (T : TypeId) (len : Nat) (new : List Value) (B : Nat) (cs : List Value) (L : Nat → Bool) (i : Nat) (v : Value) (w : World) : Prop :=
  if i = ia then spN st T len new B L v w else v = cs.getD i undef
section
variable {P : Program} {ops : Array Oper} {Q : Exit → Act → World → Prop} {N : Nat} {a0 : Act} {w0 : World} {i : Nat} {o : Oper} {ia st : Nat} {T : TypeId} {len : Nat} {new cs : List Value} {B : Nat} {J : (Nat → Bool) → World → Prop}
theorem vN_c {L : Nat → Bool} {v : Value} {w : World} (h : vN ia st T len new B cs L i v w) (hi : i ≠ ia) : v = cs.getD i undef := by
  unfold vN at h
  rwa [if_neg hi] at h
theorem oweN (c : Value) (hi : i ≠ ia) (hi' : i ≠ st) (hc : cs.getD i undef = c)
    (H : ∀ (L : Nat → Bool) (a : Act) (w : World), L i = false → J L w → (∀ j, waits o j = true → L j = true) → (∀ j oj, ops[j]? = some oj → waits oj i = true → L j = false) → (∀ t, keepOk ops i t = true → a.tmps.getD t undef = a0.tmps.getD t undef) → (∀ j d, waits o j = true → j ≠ ia → dstOf ops j = some d → a.tmps.getD d undef = cs.getD j undef) →
      ∀ K : Act → World → Prop, (∀ w', J (up L i) w' → (∀ k r, B ≤ k → w.heap[k]? = some (.cells r T) → w'.heap[k]? = some (.cells r T)) → K (a.put o.dst c) w') → o.wp P a w K Q) :
    Owe P ops Q N a0 (vN ia st T len new B cs) J i o := by
  intro L a w hLi hw hnot hJ hs hk hv
  refine H L a w hLi hJ hw hnot hk (fun j d hj h9 hd => vN_c (hv j d (hw j hj) hd) h9) _ (fun w' hJ' hrow => ⟨c, rfl, fun _ => ?_, hJ', fun j d hj hd => ?_⟩)
  · unfold vN
    rw [if_neg hi]
    exact hc.symm
  · have hu := hv j d hj hd
    unfold vN at hu ⊢
    split at hu
    · rename_i e
      rw [if_pos e]
      obtain ⟨g, row, e1, hg, hr, hl, hx⟩ := hu
      exact ⟨g, row, e1, hg, hrow g _ hg hr, hl, by rw [up_ne hi']; exact hx⟩
    · rename_i e
      rw [if_neg e]
      exact hu
theorem oweN_alloc (hop : o.op = .alloc T) (z : List Value) (hz : (P.info? T).map (·.zero) = some (some (.agg z.toArray))) (hl : z.length = len) (ost : Oper) (hst : ops[st]? = some ost) (hws : waits ost ia = true) (hne : ia ≠ st)
    (hJB : ∀ L w, J L w → B ≤ w.heap.size) (hJa : ∀ L w o', J L w → J (up L ia) (w.alloc o')) :
    Owe P ops Q N a0 (vN ia st T len new B cs) J ia o := by
  intro L a w hLi hw hnot hJ hs hk hv
  refine op_alloc T hop z.toArray hz ⟨_, rfl, fun _ => ?_, hJa _ _ _ hJ, fun j d hj hd => ?_⟩
  · unfold vN
    rw [if_pos rfl]
    refine ⟨w.heap.size, z, rfl, hJB _ _ hJ, top_obj w _, hl, fun h10 => ?_⟩
    rw [up_ne hne, hnot st _ hst hws] at h10
    cases h10
  · have hj9 : j ≠ ia := by rintro rfl; rw [hLi] at hj; cases hj
    have := vN_c (hv j d hj hd) hj9
    unfold vN
    rw [if_neg hj9]
    exact this
theorem oweN_store (x y : Tmp) (hop : o.op = .store T (.tmp x) (.tmp y)) (hn : o.dst = none) (hx : dstOf ops ia = some x) (iy : Nat) (hiy : dstOf ops iy = some y) (hia : iy ≠ ia) (hw1 : waits o ia = true) (hw2 : waits o iy = true) (hcy : cs.getD iy undef = .agg new.toArray) (hlen : new.length = len) (h1 : ∀ v ∈ new, v.oneCell' = true) (hi : (P.info? T).map (·.size) = some new.length)
    (hJs : ∀ L w w' g r, J L w → B ≤ g → w.heap[g]? = some (.cells r T) → But g w w' → J (up L st) w') :
    Owe P ops Q N a0 (vN ia st T len new B cs) J st o := by
  intro L a w hLi hw hnot hJ hs hk hv
  have h9 := hv ia x (hw ia hw1) hx
  have h7 := (vN_c (hv iy y (hw iy hw2) hiy) hia).trans hcy
  unfold vN at h9
  rw [if_pos rfl] at h9
  obtain ⟨g, row, e1, hg, hrow, hl, -⟩ := h9
  refine op_store T (.tmp x) (.tmp y) hop hn g e1 new row h7 T hrow (hl.trans hlen.symm) h1 hi ⟨undef, by rw [hn]; rfl, fun h => (by rw [hn] at h; exact Bool.noConfusion h), ?_, fun j d hj hd => ?_⟩
  · exact hJs L w _ g _ hJ hg hrow (but_setRow w g _)
  · by_cases hj9 : j = ia
    · subst hj9
      have : d = x := by
        rw [hx] at hd
        cases hd
        rfl
      subst this
      unfold vN
      rw [if_pos rfl]
      exact ⟨g, new, e1, hg, setRow_heap w g _ _ _ (0, 0) hrow, hlen, fun _ => rfl⟩
    · have := vN_c (hv j d hj hd) hj9
      unfold vN
      rw [if_neg hj9]
      exact this
theorem wp_region_nj {id : Nat} (ia st da : Nat) (T : TypeId) (len : Nat) (new : List Value) (B : Nat) (cs : List Value) (J : (Nat → Bool) → World → Prop) (ds : Nat → List (Nat × Value)) (hf : P.follows .mixedOrders = true) (hok : okMd ops N = true) (hN : a0.tmps.size = N)
    (hdst : dstOf ops ia = some da) (hst : st < ops.size) (hic : ia < cs.length) (hds : ∀ g, (List.range ops.size).filterMap (fun i => (dstOf ops i).map fun d => (d, (cs.set ia (pt g 0)).getD i undef)) = ds g)
    (h0 : ∀ w1, Below w0.heap.size w0 w1 → J (fun _ => false) w1)
    (hown : ∀ i o, ops[i]? = some o → Owe P ops Q N a0 (vN ia st T len new B cs) J i o)
    (hend : ∀ g L W, B ≤ g → W.heap[g]? = some (.cells new.toArray T) → (∀ i, i < ops.size → L i = true) → J L W → Q .normal { tmps := (ds g).foldl (fun B p => B.setIfInBounds p.1 p.2) a0.tmps, defers := a0.defers } W) :
    (Code.region id ops true).wp P Q a0 w0 := by
  refine wp_region_md (N := N) (vN ia st T len new B cs) J hf hok hN h0 hown ?_
  intro L a W hall hJ hs hd hk hv
  have h9 := hv ia da hdst
  unfold vN at h9
  rw [if_pos rfl] at h9
  obtain ⟨g, row, e1, hg, hrow, -, hrx⟩ := h9
  obtain rfl := hrx (hall st hst)
  have e := frame_of (c := fun i => (cs.set ia (pt g 0)).getD i undef) (hs.trans hN.symm) hk (fun i d hdd => by
    by_cases h9 : i = ia
    · subst h9
      rw [hdst] at hdd
      cases hdd
      rw [e1, List.getD_eq_getElem?_getD, List.getElem?_set_self hic]
      rfl
    · rw [vN_c (hv i d hdd) h9, List.getD_eq_getElem?_getD, List.getD_eq_getElem?_getD, List.getElem?_set_ne (fun h => h9 h.symm)])
  have e2 := e.trans (fold_pairs (fun i => dstOf ops i) (fun i => (cs.set ia (pt g 0)).getD i undef) (List.range ops.size) a0.tmps)
  rw [hds] at e2
  have ea : a = { tmps := (ds g).foldl (fun B p => B.setIfInBounds p.1 p.2) a0.tmps, defers := a0.defers } := by
    obtain ⟨tm, df⟩ := a
    cases e2
    cases hd
    rfl
  rw [ea]
  exact hend g L W hg hrow hall hJ
end
end Go.Proofs.YtekfcbedlokidaaGreatDoor.Ms
