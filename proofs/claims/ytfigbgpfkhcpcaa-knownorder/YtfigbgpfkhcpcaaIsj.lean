/-
  Regions that draw their order, for every program: some slots hold what hangs on what has come up; what is in memory is told by an invariant over what has been done.
-/
import Derived.Test.YtfigbgpfkhcpcaaIrl
namespace Go.Proofs.Ytfigbgpfkhcpcaa.Kn
open Go Go.RowKit
set_option maxRecDepth 100000

def vL (S : List Nat) (sp : (Nat → Bool) → Nat → Value → World → Prop) (cs : List Value) (L : Nat → Bool) (i : Nat) (v : Value) (w : World) : Prop := if i ∈ S then sp L i v w else v = cs.getD i undef
section
variable {P : Program} {ops : Array Oper} {Q : Exit → Act → World → Prop} {N : Nat} {a0 : Act} {w0 : World} {i : Nat} {o : Oper} {S : List Nat} {sp : (Nat → Bool) → Nat → Value → World → Prop} {cs : List Value} {J : (Nat → Bool) → World → Prop} {L : Nat → Bool} {v : Value} {w : World}
theorem vL_c (h : vL S sp cs L i v w) (hi : i ∉ S) : v = cs.getD i undef := by
  unfold vL at h
  rwa [if_neg hi] at h
theorem vL_s (h : vL S sp cs L i v w) (hi : i ∈ S) : sp L i v w := by
  unfold vL at h
  rwa [if_pos hi] at h
/-- What an operation owes. -/
def OweQ (P : Program) (ops : Array Oper) (Q : Exit → Act → World → Prop) (a0 : Act) (S : List Nat) (sp : (Nat → Bool) → Nat → Value → World → Prop) (cs : List Value) (J : (Nat → Bool) → World → Prop) (i : Nat) (o : Oper) : Prop :=
  ∀ L a w, L i = false → (∀ j, waits o j = true → L j = true) → (∀ j oj, ops[j]? = some oj → waits oj i = true → L j = false) → J L w →
    (∀ t, keepOk ops i t = true → a.tmps.getD t undef = a0.tmps.getD t undef) → (∀ j d, L j = true → dstOf ops j = some d → vL S sp cs L j (a.tmps.getD d undef) w) →
    ∀ K : Act → World → Prop, (∀ v w', (o.dst.isSome = true → vL S sp cs (up L i) i v w') → J (up L i) w' → (∀ j d, L j = true → j ∈ S → dstOf ops j = some d → sp (up L i) j (a.tmps.getD d undef) w') → K (a.put o.dst v) w') → o.wp P a w K Q
theorem wp_region_sj {id : Nat} (S : List Nat) (sp : (Nat → Bool) → Nat → Value → World → Prop) (cs : List Value) (J : (Nat → Bool) → World → Prop) (ds : (Nat → Value) → List (Nat × Value)) (hf : P.follows .mixedOrders = true) (hok : okMd ops N = true) (hN : a0.tmps.size = N)
    (hds : ∀ u : Nat → Value, (List.range ops.size).filterMap (fun i => (dstOf ops i).map fun d => (d, if i ∈ S then u i else cs.getD i undef)) = ds u)
    (h0 : ∀ w1, Below w0.heap.size w0 w1 → J (fun _ => false) w1)
    (hown : ∀ i o, ops[i]? = some o → OweQ P ops Q a0 S sp cs J i o)
    (hend : ∀ u L W, (∀ i, i < ops.size → L i = true) → J L W → (∀ i, i ∈ S → (dstOf ops i).isSome = true → sp L i (u i) W) → Q .normal { tmps := (ds u).foldl (fun B p => B.setIfInBounds p.1 p.2) a0.tmps, defers := a0.defers } W) :
    (Code.region id ops true).wp P Q a0 w0 := by
  refine wp_region_md (N := N) (fun L i v w => vL S sp cs L i v w) J hf hok hN h0 ?_ ?_
  · intro i o ho L a w hLi hw hnot hJ hs hk hv
    refine hown i o ho L a w hLi hw hnot hJ hk hv _ (fun v w' hv' hJ' hsp => ⟨v, rfl, hv', hJ', fun j d hj hd => ?_⟩)
    have h1 : vL S sp cs L j (a.tmps.getD d undef) w := hv j d hj hd
    show vL S sp cs (up L i) j (a.tmps.getD d undef) w'
    unfold vL at h1 ⊢
    by_cases e : j ∈ S
    · rw [if_pos e]
      exact hsp j d hj e hd
    · rw [if_neg e] at h1 ⊢
      exact h1
  · intro L a W hall hJ hs hd hk hv
    obtain ⟨u, hu⟩ : ∃ u : Nat → Value, ∀ i d, dstOf ops i = some d → u i = a.tmps.getD d undef := ⟨fun i => match dstOf ops i with | some d => a.tmps.getD d undef | none => undef, fun i d h => by simp only [h]⟩
    have e := frame_of (c := fun i => if i ∈ S then u i else cs.getD i undef) (hs.trans hN.symm) hk (fun i d hdi => by
      have h1 : vL S sp cs L i (a.tmps.getD d undef) W := hv i d hdi
      unfold vL at h1
      by_cases hi : i ∈ S
      · rw [if_pos hi]; exact (hu i d hdi).symm
      · rw [if_neg hi] at h1 ⊢; exact h1)
    have e2 := e.trans (fold_pairs (fun i => dstOf ops i) (fun i => if i ∈ S then u i else cs.getD i undef) (List.range ops.size) a0.tmps)
    rw [hds] at e2
    have ea : a = { tmps := (ds u).foldl (fun B p => B.setIfInBounds p.1 p.2) a0.tmps, defers := a0.defers } := by
      obtain ⟨tm, df⟩ := a
      cases e2
      cases hd
      rfl
    have hsp : ∀ i, i ∈ S → (dstOf ops i).isSome = true → sp L i (u i) W := fun i hi hdi => by
      cases hq : dstOf ops i with
      | none => rw [hq] at hdi; cases hdi
      | some d =>
        have h1 : vL S sp cs L i (a.tmps.getD d undef) W := hv i d hq
        rw [hu i d hq]
        exact vL_s h1 hi
    rw [ea]
    exact hend u L W hall hJ hsp
/-- An operation whose answer is a constant, and that turns nothing. -/
theorem oweQ (c : Value) (hi : i ∉ S) (hc : cs.getD i undef = c) (hsp : ∀ L j v w, j ∈ S → sp L j v w → sp (up L i) j v w) (hJ : ∀ L w, J L w → J (up L i) w)
    (H : ∀ (L : Nat → Bool) (a : Act) (w : World), L i = false → J L w → (∀ j oj, ops[j]? = some oj → waits oj i = true → L j = false) → (∀ t, keepOk ops i t = true → a.tmps.getD t undef = a0.tmps.getD t undef) → (∀ j d, waits o j = true → j ∉ S → dstOf ops j = some d → a.tmps.getD d undef = cs.getD j undef) → (∀ j d, waits o j = true → j ∈ S → dstOf ops j = some d → sp L j (a.tmps.getD d undef) w) →
      ∀ K : Act → World → Prop, K (a.put o.dst c) w → o.wp P a w K Q) :
    OweQ P ops Q a0 S sp cs J i o := by
  intro L a w hLi hw hnot hJL hk hv K h
  refine H L a w hLi hJL hnot hk (fun j d hj hjs hd => vL_c (hv j d (hw j hj) hd) hjs) (fun j d hj hjs hd => vL_s (hv j d (hw j hj) hd) hjs) K (h c w (fun _ => ?_) (hJ L w hJL) (fun j d hj hjs hd => hsp L j _ w hjs (vL_s (hv j d hj hd) hjs)))
  unfold vL
  rw [if_neg hi]
  exact hc.symm
end
/-- One cell more, behind a row of one's own: a list of numbers. -/
theorem op_pushI {P : Program} {o : Oper} {a : Act} {w : World} {Q : Exit → Act → World → Prop} {K : Act → World → Prop} (s x : Tmp) (base : Nat) (t : TypeId) (z : Value) (bytes : Nat) (ho : o.op = .call { callee := .builtin .append, args := #[.tmp s, .tmp x], argTypes := #[t, t] }) (ht : P.underlying t = some (.slice 3)) (hinfo : (P.info? 3).map (fun i => (i.zero, i.size, i.bytes)) = some (some z, 1, bytes)) (hzs : z.cells.size = 1) (hby : bytes ≤ 1000)
    (n g : Nat) (xs : List Value) (u : Value) (v : Value) (hs : a.tmps.getD s undef = v) (hx : a.tmps.getD x undef = .slice (some ⟨g, 0, none⟩) 1 1) (hg : w.heap[g]? = some (.cells #[u] 3)) (hown : w.ownsRow base 3 1 v n xs) (h1 : u.oneCell' = true) (hn : n ≤ 100000) (hbase : base ≤ w.heap.size)
    (h : ∀ v' w', w'.ownsRow base 3 1 v' (n + 1) (xs ++ [u]) → w.grownBy w' v.ownBlock → K (a.put o.dst v') w') : o.wp P a w K Q := by
  refine op_append s x base t 3 z 1 bytes ho ht hinfo hzs (by decide) n 1 xs [u] (by rw [hs]; exact hown) (by rw [hx]; exact own_one1 (cs := [u]) rfl hg) (by simpa using h1) (by omega) hby hbase (fun v' w' g1 g2 => ?_)
  rw [hs] at g2
  exact h v' w' g1 g2
end Go.Proofs.Ytfigbgpfkhcpcaa.Kn
