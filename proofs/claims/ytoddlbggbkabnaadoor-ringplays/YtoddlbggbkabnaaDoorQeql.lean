/-
  '==' of whole aggregates, asked where the order is drawn.
-/
import Derived.Test.YtoddlbggbkabnaaDoorMgen
namespace Go.Proofs.YtoddlbggbkabnaaDoor
open Go Go.RowKit
set_option maxRecDepth 100000

theorem wpQuiet_eql {P : Program} {ops : Array Oper} {C : World → Prop} {Q : Act → Prop} {a : Act} {o : Oper} {rest : List Oper} (hw : Region.wanted o (yielded ops a.tmps) = true) (ty rt : TypeId) (x y : Operand) (ho : o.op = .binOp .eql ty x y rt)
    (X Y : Array Value) (hx : a.eval x = .agg X) (hy : a.eval y = .agg Y) (hgt : P.eqGuardType P.depth ty = false) (B : Bool) (he : ∀ w, (Op.equalIn 10000 ty (.agg X) (.agg Y)).run P w = .ok B w)
    (h : wpQuiet P ops C Q rest (a.put o.dst (.bool B))) : wpQuiet P ops C Q (o :: rest) a := by
  unfold wpQuiet
  rw [if_pos hw]
  refine ⟨.bool B, fun w hC => ?_, h⟩
  have hq : ∀ w, (Op.equal ty (.agg X) (.agg Y)).run P w = .ok B w := he
  unfold Oper.quietAt execOp
  simp [ho, hx, hy, eqGuard, binOp, Sem.run_bind, hgt, hq, Oper.quietUpon]

theorem guard34 : Tryd.prog.eqGuardType Tryd.prog.depth 34 = false := by kernel_rfl
theorem guard32 : Tryd.prog.eqGuardType Tryd.prog.depth 32 = false := by kernel_rfl

end Go.Proofs.YtoddlbggbkabnaaDoor
