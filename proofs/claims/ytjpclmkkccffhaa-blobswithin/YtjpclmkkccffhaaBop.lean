/-
  Single operations of a region that draws its order, and the frame behind it.
-/
import Derived.Test.YtjpclmkkccffhaaBgt
namespace Go.Proofs.Ytjpclmkkccffhaa.Bl
open Go Go.RowKit Go.Maps
set_option maxRecDepth 100000

section
variable {P : Program} {o : Oper} {a : Act} {w : World} {Q : Exit → Act → World → Prop} {K : Act → World → Prop}
theorem op_move (t : Tmp) (c : Value) (ho : o.op = .move (.tmp t)) (hx : a.tmps.getD t undef = c) (h : K (a.put o.dst c) w) : o.wp P a w K Q := by
  have hx' : a.eval (.tmp t) = c := hx
  unfold Oper.wp execOp
  simp only [ho, hx', Sem.run_pure, Oper.upon]
  exact h
theorem op_nil (t : Tmp) (g off : Nat) (ho : o.op = .nilCheck (.tmp t)) (hx : a.tmps.getD t undef = ptr g off) (h : K (a.put o.dst (ptr g off)) w) : o.wp P a w K Q := by
  have hx' : a.eval (.tmp t) = ptr g off := hx
  unfold Oper.wp execOp
  simp only [ho, hx', Sem.run_pure, Oper.upon]
  exact h
theorem op_extract (t : Tmp) (k : Nat) (vs : Array Value) (c : Value) (ho : o.op = .extract (.tmp t) k) (hx : a.tmps.getD t undef = .tuple vs) (hc : vs[k]? = some c) (h : K (a.put o.dst c) w) : o.wp P a w K Q := by
  have hx' : a.eval (.tmp t) = .tuple vs := hx
  unfold Oper.wp execOp
  simp [ho, hx', Instr.extract, hc]
  exact h
theorem op_len (t : Tmp) (T : TypeId) (n : Nat) (ho : o.op = Op.call { callee := Callee.builtin Builtin.len, args := #[.tmp t], argTypes := #[T] }) (v : Value) (hx : a.tmps.getD t undef = v) (hr : ∀ ty, (Builtin.len_ #[T] ty #[v]).run P w = .ok (nu n) w) (h : K (a.put o.dst (nu n)) w) : o.wp P a w K Q := by
  have hx' : a.eval (.tmp t) = v := hx
  unfold Oper.wp execOp
  simp [ho, resolve, invoke, builtin, hx', hr, Result.andThen]
  exact h
end
section
variable {o : Oper} {a : Act} {w : World} {Q : Exit → Act → World → Prop} {K : Act → World → Prop} {m : Nat} {L : List Blo} {ow n : Int}
def foundB (L : List Blo) (o n : Int) : Bool := (L.find? (hitB o n)).isSome
theorem look_run (h : MapAt w m (L.map kvB)) (hI : Inv L) (ho : I64 ow) (hn : I64 n) : (Instr.lookup 59 (.map (some m)) (pk ow n) true).run Try.prog w = .ok (.tuple #[.agg (bloC (getB L ow n)).toArray, .bool (foundB L ow n)]) w := by
  obtain ⟨kl, hkl⟩ := key_pk ow n ho hn
  rcases map_lookup h lawPl uMap (zeroV w) (keysL hI) hkl with ⟨h1, hr⟩ | ⟨p, h1, h2, hr⟩
  · rw [hr]
    unfold getB foundB
    rw [find_no h1]
    rfl
  · obtain ⟨b, hb, hf, e⟩ := find_yes hI h1 h2
    rw [hr]
    unfold getB foundB
    rw [hf, e]
    rfl
theorem op_look (t u : Tmp) (hop : o.op = Op.lookup 59 (.tmp t) (.tmp u) true) (hm : a.tmps.getD t undef = .map (some m)) (hx : a.tmps.getD u undef = pk ow n) (h : MapAt w m (L.map kvB)) (hI : Inv L) (ho : I64 ow) (hn : I64 n)
    (hK : K (a.put o.dst (.tuple #[.agg (bloC (getB L ow n)).toArray, .bool (foundB L ow n)])) w) : o.wp Try.prog a w K Q := by
  have hm' : a.eval (.tmp t) = .map (some m) := hm
  have hx' : a.eval (.tmp u) = pk ow n := hx
  unfold Oper.wp
  simp [execOp, hop, hm', hx', look_run h hI ho hn, Result.andThen]
  exact hK
theorem op_update (t u z : Tmp) (hop : o.op = Op.mapUpdate 59 (.tmp t) (.tmp u) (.tmp z)) (hd : o.dst = none) (b : Blo) (hm : a.tmps.getD t undef = .map (some m)) (hx : a.tmps.getD u undef = pk b.owner b.number) (hv : a.tmps.getD z undef = .agg (bloC b).toArray)
    (h : MapAt w m (L.map kvB)) (hI : Inv L) (hb : mayB b = true) (hno : NoHit L b.owner b.number) (hK : ∀ w', MapAt w' m ((L ++ [b]).map kvB) → Kp [m] w w' → K a w') : o.wp Try.prog a w K Q := by
  have hm' : a.eval (.tmp t) = .map (some m) := hm
  have hx' : a.eval (.tmp u) = pk b.owner b.number := hx
  have hv' : a.eval (.tmp z) = .agg (bloC b).toArray := hv
  obtain ⟨kl, hkl⟩ := key_pk b.owner b.number (may_i64 hb).1 (may_i64 hb).2
  obtain ⟨w', hr, h1, h2⟩ := map_update h lawPl uMap (keysL hI) hkl (fun p hp => by
    obtain ⟨x, hx, rfl⟩ := List.mem_map.1 hp
    intro e
    exact find_none hno x hx (pk_inj e)) (.agg (bloC b).toArray)
  unfold Oper.wp
  simp [execOp, hop, hm', hx', hv', hr, Result.andThen]
  show K (a.put o.dst undef) w'
  rw [hd]
  refine hK w' ?_ h2
  rw [List.map_append]
  exact h1
end
/-- The frame behind a region whose slots are known. -/
theorem frame_at {ops : Array Oper} {A : Array Value} {c : Nat → Value} (hv : ∀ i d, dstOf ops i = some d → A.getD d undef = c i) : ∀ (l : List Nat) (B : Array Value), B.size = A.size → (∀ t, t < A.size → (∀ i ∈ l, dstOf ops i ≠ some t) → B.getD t undef = A.getD t undef) →
    l.foldl (fun B i => match dstOf ops i with | some d => B.setIfInBounds d (c i) | none => B) B = A
  | [], B, hs, hB => by
    apply Array.ext hs
    intro i h1 h2
    have := hB i h2 (by simp)
    simpa [h1, h2] using this
  | i :: l, B, hs, hB => by
    rw [List.foldl_cons]
    cases e : dstOf ops i with
    | none =>
      refine frame_at hv l B hs (fun t ht hl => hB t ht (fun j hj => ?_))
      rcases List.mem_cons.1 hj with rfl | hj
      · rw [e]; simp
      · exact hl j hj
    | some d =>
      refine frame_at hv l (B.setIfInBounds d (c i)) (by simpa using hs) (fun t ht hl => ?_)
      by_cases hd : d = t
      · subst hd
        rw [hv i d e]
        have : d < B.size := by rw [hs]; exact ht
        simp [this]
      · have h1 := hB t ht (fun j hj => by
          rcases List.mem_cons.1 hj with rfl | hj
          · rw [e]; simpa using hd
          · exact hl j hj)
        rw [← h1]
        simp [Array.getD_eq_getD_getElem?, hd]
theorem frame_of {ops : Array Oper} {a a0 : Act} {c : Nat → Value} (hs : a.tmps.size = a0.tmps.size) (hk : ∀ t, noneW ops t = true → a.tmps.getD t undef = a0.tmps.getD t undef) (hv : ∀ i d, dstOf ops i = some d → a.tmps.getD d undef = c i) :
    a.tmps = (List.range ops.size).foldl (fun B i => match dstOf ops i with | some d => B.setIfInBounds d (c i) | none => B) a0.tmps := by
  refine (frame_at hv _ _ hs.symm (fun t _ hl => (hk t ?_).symm)).symm
  unfold noneW
  rw [List.all_eq_true]
  intro j hj
  have := hl j hj
  simpa using this
end Go.Proofs.Ytjpclmkkccffhaa.Bl
