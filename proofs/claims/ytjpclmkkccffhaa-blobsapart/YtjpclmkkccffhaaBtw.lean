/-
  A region that draws its order and calls two functions one behind the other, each of which changes memory: one law.
-/
import Derived.Test.YtjpclmkkccffhaaBin
namespace Go.Proofs.Ytjpclmkkccffhaa.Bl
open Go Go.RowKit Go.Maps
set_option maxRecDepth 100000

section
variable {P : Program} {ops : Array Oper} {Q : Exit → Act → World → Prop} {N : Nat} {a0 : Act} {w0 : World}
def Csts (ops : Array Oper) (cs : List Value) (a : Act) (o : Oper) : Prop := ∀ j d, waits o j = true → dstOf ops j = some d → a.tmps.getD d undef = cs.getD j undef
theorem wp_region_two {id : Nat} (c1 c2 : Nat) (cs : List Value) (R J0 J1 J2 : World → Prop) (hf : P.follows .mixedOrders = true) (hok : okMd ops N = true) (hN : a0.tmps.size = N)
    (hc12 : ∀ o, ops[c2]? = some o → waits o c1 = true) (hne : c1 ≠ c2)
    (h0 : ∀ w1, Below w0.heap.size w0 w1 → J0 w1) (r0 : ∀ w, J0 w → R w) (r1 : ∀ w, J1 w → R w) (r2 : ∀ w, J2 w → R w)
    (hp : ∀ i o, i ≠ c1 → i ≠ c2 → ops[i]? = some o → ∀ (a : Act) (w : World), R w → Kpt ops a0 a i → Csts ops cs a o → ∀ K : Act → World → Prop, K (a.put o.dst (cs.getD i undef)) w → o.wp P a w K Q)
    (h1 : ∀ o, ops[c1]? = some o → ∀ (a : Act) (w : World), J0 w → Kpt ops a0 a c1 → Csts ops cs a o → ∀ K : Act → World → Prop, (∀ w', J1 w' → K (a.put o.dst (cs.getD c1 undef)) w') → o.wp P a w K Q)
    (h2 : ∀ o, ops[c2]? = some o → ∀ (a : Act) (w : World), J1 w → Kpt ops a0 a c2 → Csts ops cs a o → ∀ K : Act → World → Prop, (∀ w', J2 w' → K (a.put o.dst (cs.getD c2 undef)) w') → o.wp P a w K Q)
    (hlt : c1 < ops.size ∧ c2 < ops.size)
    (hend : ∀ a w, J2 w → a.tmps.size = N → a.defers = a0.defers → (∀ t, noneW ops t = true → a.tmps.getD t undef = a0.tmps.getD t undef) → (∀ i d, dstOf ops i = some d → a.tmps.getD d undef = cs.getD i undef) → Q .normal a w) :
    (Code.region id ops true).wp P Q a0 w0 := by
  refine wp_region_md (N := N) (fun _ i v _ => v = cs.getD i undef) (fun L w => (L c1 = false → J0 w) ∧ (L c1 = true → L c2 = false → J1 w) ∧ (L c2 = true → J2 w)) hf hok hN (fun w1 hw => ⟨fun _ => h0 w1 hw, fun h => Bool.noConfusion h, fun h => Bool.noConfusion h⟩) ?_ ?_
  · intro i o ho L a w hLi hw hnot hJ hs hk hv
    have hcs : Csts ops cs a o := fun j d hj hd => hv j d (hw j hj) hd
    by_cases e1 : i = c1
    · subst e1
      have h2f : L c2 = false := by
        cases h2c : ops[c2]? with
        | none => exact absurd hlt.2 (by have := Array.getElem?_eq_none_iff.1 h2c; omega)
        | some o2 => exact hnot c2 o2 h2c (hc12 o2 h2c)
      refine h1 o ho a w (hJ.1 hLi) hk hcs _ (fun w' hJ1 => ⟨_, rfl, fun _ => rfl, ⟨fun h => ?_, fun _ _ => hJ1, fun h => ?_⟩, fun j d hj hd => hv j d hj hd⟩)
      · rw [up_self] at h
        cases h
      · rw [up_ne hne, h2f] at h
        cases h
    · by_cases e2 : i = c2
      · subst e2
        have h1t : L c1 = true := hw c1 (hc12 o ho)
        refine h2 o ho a w (hJ.2.1 h1t hLi) hk hcs _ (fun w' hJ2 => ⟨_, rfl, fun _ => rfl, ⟨fun h => ?_, fun _ h => ?_, fun _ => hJ2⟩, fun j d hj hd => hv j d hj hd⟩)
        · rw [up_ne (fun e => hne e.symm), h1t] at h
          cases h
        · rw [up_self] at h
          cases h
      · have hR : R w := by
          cases h1c : L c1 with
          | false => exact r0 w (hJ.1 h1c)
          | true =>
            cases h2c : L c2 with
            | false => exact r1 w (hJ.2.1 h1c h2c)
            | true => exact r2 w (hJ.2.2 h2c)
        refine hp i o e1 e2 ho a w hR hk hcs _ ⟨_, rfl, fun _ => rfl, ?_, fun j d hj hd => hv j d hj hd⟩
        show (up L i c1 = false → J0 w) ∧ (up L i c1 = true → up L i c2 = false → J1 w) ∧ (up L i c2 = true → J2 w)
        rw [up_ne e1, up_ne e2]
        exact hJ
  · intro L a w hall hJ hs hd hk hv
    exact hend a w (hJ.2.2 (hall c2 hlt.2)) hs hd hk hv
end
section
variable {P : Program} {o : Oper} {a : Act} {w : World} {Q : Exit → Act → World → Prop} {K : Act → World → Prop}
theorem op_call (f : FuncId) (xs : List Operand) (ts : Array TypeId) (vs : Array Value) (v : Value) (ho : o.op = .call { callee := .value (.func f), args := xs.toArray, argTypes := ts }) (hc : ∀ args w, (callFunc f args).run P w = .ok (.enter f args) w) (hx : (xs.map a.eval).toArray = vs)
    {J : World → Prop} (hm : Calls P f vs w fun e w' => e = .returned v ∧ J w') (h : ∀ w', J w' → K (a.put o.dst v) w') : o.wp P a w K Q := by
  unfold Oper.wp execOp
  have e : (do let d ← resolve a.eval { callee := .value (.func f), args := xs.toArray, argTypes := ts } o.type; invoke d.target d.args : Sem Next).run P w = .ok (.enter f vs) w := by
    have e0 : a.eval (.func f) = .func (.func f) #[] #[] := rfl
    simp [resolve, Deferred.ofValue, invoke, hc, e0, hx]
  simp only [ho]
  rw [e]
  simp only [Oper.upon]
  refine hm.mono ?_
  rintro e w' ⟨rfl, hJ⟩
  exact h w' hJ
theorem op_eqlI (x y : Tmp) (T R : TypeId) (m n : Int) (ho : o.op = .binOp .eql T (.tmp x) (.tmp y) R) (hx : a.tmps.getD x undef = nu m) (hy : a.tmps.getD y undef = nu n) (h : K (a.put o.dst (.bool (m == n))) w) : o.wp P a w K Q := by
  have ex : a.eval (.tmp x) = nu m := hx
  have ey : a.eval (.tmp y) = nu n := hy
  unfold Oper.wp execOp
  simp [ho, ex, ey, eqGuard, binOp]
  exact h
theorem op_neqI (x y : Tmp) (T R : TypeId) (m n : Int) (ho : o.op = .binOp .neq T (.tmp x) (.tmp y) R) (hx : a.tmps.getD x undef = nu m) (hy : a.tmps.getD y undef = nu n) (h : K (a.put o.dst (.bool (!(m == n)))) w) : o.wp P a w K Q := by
  have ex : a.eval (.tmp x) = nu m := hx
  have ey : a.eval (.tmp y) = nu n := hy
  unfold Oper.wp execOp
  simp [ho, ex, ey, eqGuard, binOp]
  exact h
end
end Go.Proofs.Ytjpclmkkccffhaa.Bl
