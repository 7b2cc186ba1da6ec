/-
  What '==' answers on two arrays of bytes, in any program.
-/
import Derived.Test.YtfkfjopjnfeahaaDoorPlainb
import Derived.DeepKeys
import Derived.WalkKit
namespace Go.Proofs.YtfkfjopjnfeahaaDoor
open Go Go.RowKit

theorem bv_eq (a b : UInt8) : (bv a == bv b) = decide (a = b) := by
  unfold bv
  by_cases h : a = b
  · subst h; simp
  · have : ¬ a.toNat = b.toNat := fun e => h (UInt8.toNat_inj.1 e)
    simp [h]; omega

theorem eqItems_bytes {P : Program} (w : World) (e : TypeId) (k : IntKind) (he : P.underlying e = some (.int k)) (x y : List UInt8) (d : Nat) : ∀ is : List Nat, (∀ i ∈ is, i < x.length ∧ i < y.length) →
    (Op.eqItems (d + 1) e 1 (x.map cb).toArray (y.map cb).toArray is).run P w = .ok (decide (∀ i ∈ is, x.getD i 0 = y.getD i 0)) w
  | [], _ => by simp [Op.eqItems]
  | i :: is, h => by
    have hx : ((x.map cb).toArray)[i * 1]? = some (.int .u8 (bv (x.getD i 0))) := by
      rw [Nat.mul_one, List.getElem?_toArray]; exact cb_at x i (h i (by simp)).1
    have hy : ((y.map cb).toArray)[i * 1]? = some (.int .u8 (bv (y.getD i 0))) := by
      rw [Nat.mul_one, List.getElem?_toArray]; exact cb_at y i (h i (by simp)).2
    have hagg : (isAgg e).run P w = .ok false w := by
      unfold isAgg
      rw [Sem.run_bind, run_underlying he w]
      simp
    have px : (part e (x.map cb).toArray (i * 1)).run P w = .ok (.int .u8 (bv (x.getD i 0))) w := by
      unfold part
      rw [Sem.run_bind, hagg]
      simp only [Result.andThen_ok, Bool.false_eq_true, if_false, hx, Sem.run_pure]
    have py : (part e (y.map cb).toArray (i * 1)).run P w = .ok (.int .u8 (bv (y.getD i 0))) w := by
      unfold part
      rw [Sem.run_bind, hagg]
      simp only [Result.andThen_ok, Bool.false_eq_true, if_false, hy, Sem.run_pure]
    have pe : (Op.equalIn (d + 1) e (.int .u8 (bv (x.getD i 0))) (.int .u8 (bv (y.getD i 0)))).run P w = .ok (decide (x.getD i 0 = y.getD i 0)) w := by
      unfold Op.equalIn
      rw [Sem.run_bind, run_underlying he w]
      simp only [Result.andThen_ok, if_true, Sem.run_pure, bv_eq]
    have ih := eqItems_bytes w e k he x y d is (fun j hj => h j (by simp [hj]))
    unfold Op.eqItems
    simp only [Sem.run_bind, px, py, pe, Result.andThen_ok]
    by_cases hh : x.getD i 0 = y.getD i 0
    · simp only [hh, decide_true, Bool.not_true, Bool.false_eq_true, if_false, ih, List.forall_mem_cons, true_and]
    · simp only [hh, decide_false, Bool.not_false, if_true, List.forall_mem_cons, false_and, Sem.run_pure]

theorem same_all (x y : List UInt8) (n : Nat) (hx : x.length = n) (hy : y.length = n) : (∀ i ∈ List.range n, x.getD i 0 = y.getD i 0) ↔ x = y := by
  constructor
  · intro h
    apply List.ext_getElem (by omega)
    intro i h1 h2
    have := h i (by simp; omega)
    simpa [List.getD, List.getElem?_eq_getElem h1, List.getElem?_eq_getElem h2] using this
  · rintro rfl i _; rfl

theorem run_equal_bytes {P : Program} (w : World) (t e : TypeId) (n : Nat) (k : IntKind) (hu : P.underlying t = some (.array n e)) (he : P.underlying e = some (.int k)) (hs : (P.info? e).map (·.size) = some 1) (x y : List UInt8) (hx : x.length = n) (hy : y.length = n) :
    (Op.equal t (.agg (x.map cb).toArray) (.agg (y.map cb).toArray)).run P w = .ok (decide (x = y)) w := by
  cases hq : P.info? e with
  | none => simp [hq] at hs
  | some i =>
    have hi : i.size = 1 := by simpa [hq] using hs
    have hc : P.cellsOf e = 1 := by simp [Program.cellsOf, hq, hi]
    unfold Op.equal
    rw [show Op.maxDepth = 9998 + 1 + 1 from rfl, run_equalIn_array w (9998 + 1) _ _ hu hq, hc, eqItems_bytes w e k he x y 9998 _ (by intro j hj; simp at hj; omega)]
    simp only [same_all x y n hx hy]

end Go.Proofs.YtfkfjopjnfeahaaDoor
