/-
  Single operations, for every program: a field of a struct at hand, a byte of a text, a byte as a number, one less.
-/
import Derived.Test.YtfigbgpfkhcpcaaIrs
namespace Go.Proofs.Ytfigbgpfkhcpcaa.Kn
open Go Go.RowKit
set_option maxRecDepth 100000

section
variable {P : Program} {o : Oper} {a : Act} {w : World} {Q : Exit → Act → World → Prop} {K : Act → World → Prop}
theorem op_field (x : Tmp) (T : TypeId) (k : Nat) (u v : Value) (ho : o.op = .field T (.tmp x) k) (hx : a.tmps.getD x undef = u) (hr : (Instr.field T u k).run P w = .ok v w) (h : K (a.put o.dst v) w) : o.wp P a w K Q := by
  have ex : a.eval (.tmp x) = u := hx
  unfold Oper.wp execOp
  simp only [ho, ex, Sem.run_bind, hr, Result.andThen_ok, Sem.run_pure, Oper.upon]
  exact h
theorem op_index (x y : Tmp) (T : TypeId) (u i v : Value) (ho : o.op = .index T (.tmp x) (.tmp y)) (hx : a.tmps.getD x undef = u) (hy : a.tmps.getD y undef = i) (hr : (Instr.index T u i).run P w = .ok v w) (h : K (a.put o.dst v) w) : o.wp P a w K Q := by
  have ex : a.eval (.tmp x) = u := hx
  have ey : a.eval (.tmp y) = i := hy
  unfold Oper.wp execOp
  simp only [ho, ex, ey, Sem.run_bind, hr, Result.andThen_ok, Sem.run_pure, Oper.upon]
  exact h
theorem op_conv (x : Tmp) (S T : TypeId) (u v : Value) (ho : o.op = .convert S T (.tmp x)) (hx : a.tmps.getD x undef = u) (hr : (convert S T u).run P w = .ok v w) (h : K (a.put o.dst v) w) : o.wp P a w K Q := by
  have ex : a.eval (.tmp x) = u := hx
  unfold Oper.wp execOp
  simp only [ho, ex, Sem.run_bind, hr, Result.andThen_ok, Sem.run_pure, Oper.upon]
  exact h
theorem op_subC (t : Tmp) (T R : TypeId) (n m : Int) (ho : o.op = .binOp .sub T (.tmp t) (.const (nu m)) R) (hx : a.tmps.getD t undef = nu n) (hr : I64 (n - m)) (h : K (a.put o.dst (nu (n - m))) w) : o.wp P a w K Q := by
  have ex : a.eval (.tmp t) = nu n := hx
  have ey : a.eval (.const (nu m)) = nu m := rfl
  have hw : IntKind.i64.wrap (n - m) = n - m := by have h1 := hr.1; have h2 := hr.2; rw [IntKind.wrap_i64]; omega
  unfold Oper.wp execOp
  simp only [ho, ex, ey]
  simp [binOp, eqGuard, Op.intArith, hw]
  exact h
end
theorem field_view (x : Ln) (w : World) : (Instr.field 36 (.agg (lnC x).toArray) 2).run Try.prog w = .ok (st x.view) w := by
  obtain ⟨f, b, v, t⟩ := x
  kernel_rfl
theorem index_byte {P : Program} (w : World) (T : TypeId) (hT : P.underlying T = some .string) (v : List UInt8) (k : Nat) (hk : k < v.length) : (Instr.index T (st v) (nu (k : Int))).run P w = .ok (.int .u8 (bv (v.getD k 0))) w := by
  have hs : (⟨v.toArray⟩ : ByteArray).size = v.length := rfl
  have h0 := run_index_string (P := P) (w := w) T ⟨v.toArray⟩ .i64 (k : Int) hT
  rw [h0]
  simp [hs, hk, bv]
  rfl
theorem conv_byte (w : World) (n : Int) (h : 0 ≤ n ∧ n < 256) : (convert 5 3 (.int .u8 n)).run Try.prog w = .ok (nu n) w := by
  have e3 : Try.prog.intKind 3 = .i64 := by kernel_rfl
  have h0 := run_convert_int (P := Try.prog) (w := w) 5 3 .u8 n (by rw [Try.underlying5]; rfl) (by rw [e3]; exact Try.underlying3)
  have hw : IntKind.i64.wrap n = n := by rw [IntKind.wrap_i64]; omega
  rw [h0, e3, hw]
end Go.Proofs.Ytfigbgpfkhcpcaa.Kn
