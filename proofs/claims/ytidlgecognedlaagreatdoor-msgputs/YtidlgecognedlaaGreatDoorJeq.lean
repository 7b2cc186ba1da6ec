/-
  What '==' answers on digests and on the structs of messages.
-/
import Derived.Test.YtidlgecognedlaaGreatDoorJpl
import Derived.Test.YtidlgecognedlaaGreatDoorChecked
import Derived.DeepKeys
import Derived.Laws.StructEq
import Derived.WalkKit
namespace Go.Proofs.YtidlgecognedlaaGreatDoor.Ms
open Go Go.RowKit
set_option maxRecDepth 100000

theorem bv_eq (a b : UInt8) : (bv a == bv b) = decide (a = b) := by
  unfold bv
  by_cases h : a = b
  · subst h; simp
  · have : ¬ a.toNat = b.toNat := fun e => h (UInt8.toNat_inj.1 e)
    simp [h]; omega
theorem cb_at (b : List UInt8) (i : Nat) (hi : i < b.length) : (dg b)[i]? = some (.int .u8 (bv (b.getD i 0))) := by
  simp [dg, List.getD, cb, List.getElem?_eq_getElem hi]
theorem eqItems_bytes {P : Program} (w : World) (e : TypeId) (k : IntKind) (he : P.underlying e = some (.int k)) (x y : List UInt8) (d : Nat) : ∀ is : List Nat, (∀ i ∈ is, i < x.length ∧ i < y.length) →
    (Op.eqItems (d + 1) e 1 (dg x).toArray (dg y).toArray is).run P w = .ok (decide (∀ i ∈ is, x.getD i 0 = y.getD i 0)) w
  | [], _ => by simp [Op.eqItems]
  | i :: is, h => by
    have hx : ((dg x).toArray)[i * 1]? = some (.int .u8 (bv (x.getD i 0))) := by
      rw [Nat.mul_one, List.getElem?_toArray]; exact cb_at x i (h i (by simp)).1
    have hy : ((dg y).toArray)[i * 1]? = some (.int .u8 (bv (y.getD i 0))) := by
      rw [Nat.mul_one, List.getElem?_toArray]; exact cb_at y i (h i (by simp)).2
    have hagg : (isAgg e).run P w = .ok false w := by
      unfold isAgg
      rw [Sem.run_bind, run_underlying he w]
      simp
    have px : (part e (dg x).toArray (i * 1)).run P w = .ok (.int .u8 (bv (x.getD i 0))) w := by
      unfold part
      rw [Sem.run_bind, hagg]
      simp only [Result.andThen_ok, Bool.false_eq_true, if_false, hx, Sem.run_pure]
    have py : (part e (dg y).toArray (i * 1)).run P w = .ok (.int .u8 (bv (y.getD i 0))) w := by
      unfold part
      rw [Sem.run_bind, hagg]
      simp only [Result.andThen_ok, Bool.false_eq_true, if_false, hy, Sem.run_pure]
    have pe : (Op.equalIn (d + 1) e (.int .u8 (bv (x.getD i 0))) (.int .u8 (bv (y.getD i 0)))).run P w = .ok (decide (x.getD i 0 = y.getD i 0)) w := by
      unfold Op.equalIn
      rw [Sem.run_bind, run_underlying he w]
      simp only [Result.andThen_ok, if_true, Sem.run_pure, bv_eq]
    have ih := eqItems_bytes w e k he x y d is (fun j hj => h j (by simp [hj]))
    unfold Op.eqItems
    simp only [Sem.run_bind, px, py, pe, Result.andThen_ok]
    by_cases hh : x.getD i 0 = y.getD i 0
    · simp only [hh, decide_true, Bool.not_true, Bool.false_eq_true, if_false, ih, List.forall_mem_cons, true_and]
    · simp only [hh, decide_false, Bool.not_false, if_true, List.forall_mem_cons, false_and, Sem.run_pure]
theorem same_all (x y : List UInt8) (n : Nat) (hx : x.length = n) (hy : y.length = n) : (∀ i ∈ List.range n, x.getD i 0 = y.getD i 0) ↔ x = y := by
  constructor
  · intro h
    apply List.ext_getElem (by omega)
    intro i h1 h2
    have := h i (by simp; omega)
    simpa [List.getD, List.getElem?_eq_getElem h1, List.getElem?_eq_getElem h2] using this
  · rintro rfl i _; rfl
theorem equalIn_dig (w : World) (d : Nat) (x y : List UInt8) (hx : x.length = 32) (hy : y.length = 32) :
    (Op.equalIn (d + 2) 23 (.agg (dg x).toArray) (.agg (dg y).toArray)).run Tryz.prog w = .ok (x == y) w := by
  have hs : (Tryz.prog.info? 5).map (·.size) = some 1 := by kernel_rfl
  cases hq : Tryz.prog.info? 5 with
  | none => simp [hq] at hs
  | some i =>
    have hi : i.size = 1 := by simpa [hq] using hs
    have hc : Tryz.prog.cellsOf 5 = 1 := by simp [Program.cellsOf, hq, hi]
    rw [run_equalIn_array w (d + 1) _ _ Tryz.underlying23 hq, hc, eqItems_bytes w 5 _ Tryz.underlying5 x y d _ (by intro j hj; simp at hj; omega)]
    simp only [same_all x y 32 hx hy]
    by_cases e : x = y <;> simp [e]

/-! ### Parts of a row -/
theorem part_cell {P : Program} (w : World) (t : TypeId) (d : TypeDesc) (cs : Array Value) (off : Nat) (v : Value) (hu : P.underlying t = some d) (hd : (match d with | .struct _ | .array _ _ => true | _ => false) = false) (hv : cs[off]? = some v) :
    (part t cs off).run P w = .ok v w := by
  have hagg : (isAgg t).run P w = .ok false w := by
    unfold isAgg
    rw [Sem.run_bind, run_underlying hu w]
    cases d <;> simp_all
  unfold part
  rw [Sem.run_bind, hagg]
  simp only [Result.andThen_ok, Bool.false_eq_true, if_false, hv, Sem.run_pure]
theorem part_seg {P : Program} (w : World) (t : TypeId) (d : TypeDesc) (A cs C : List Value) (off : Nat) (hA : A.length = off) (hu : P.underlying t = some d) (hd : (match d with | .struct _ | .array _ _ => true | _ => false) = true) (hs : (P.info? t).map (·.size) = some cs.length) :
    (part t (A ++ (cs ++ C)).toArray off).run P w = .ok (.agg cs.toArray) w := by
  have hagg : (isAgg t).run P w = .ok true w := by
    unfold isAgg
    rw [Sem.run_bind, run_underlying hu w]
    cases d <;> simp_all
  cases hq : P.info? t with
  | none => simp [hq] at hs
  | some i =>
    have hi : i.size = cs.length := by simpa [hq] using hs
    unfold part
    rw [Sem.run_bind, hagg]
    simp only [Result.andThen_ok, if_true, Sem.run_bind, sizeOf, typeInfo]
    simp [hq, hi]
    subst hA
    simp
/-- A struct's fields, one behind the other: what '==' answers on each. -/
def EachEq (P : Program) (w : World) (d : Nat) (xs ys : Array Value) : List Field → List Bool → Prop
  | [], [] => True
  | f :: fs, b :: bs => (f.name ≠ "_" ∧ ∃ a c, (part f.type xs f.offset).run P w = .ok a w ∧ (part f.type ys f.offset).run P w = .ok c w ∧ (Op.equalIn d f.type a c).run P w = .ok b w) ∧ EachEq P w d xs ys fs bs
  | _, _ => False
theorem eqFields_run {P : Program} (w : World) (d : Nat) (xs ys : Array Value) : ∀ (fs : List Field) (bs : List Bool), EachEq P w d xs ys fs bs → (Op.eqFields d xs ys fs).run P w = .ok (bs.all id) w
  | [], [], _ => by simp [Op.eqFields]
  | [], _ :: _, h => h.elim
  | _ :: _, [], h => h.elim
  | f :: fs, b :: bs, ⟨⟨hn, a, c, h1, h2, h3⟩, ht⟩ => by
    have ih := eqFields_run w d xs ys fs bs ht
    unfold Op.eqFields
    rw [if_pos hn]
    simp only [Sem.run_bind, h1, h2, h3, Result.andThen_ok]
    cases b
    · simp
    · simp [ih]
theorem sizeDig : (Tryz.prog.info? 23).map (·.size) = some 32 := by kernel_rfl
theorem part_int (w : World) (cs : List Value) (off : Nat) (n : Int) (h : cs[off]? = some (nu n)) : (part 3 cs.toArray off).run Tryz.prog w = .ok (nu n) w := part_cell w 3 _ _ off _ Tryz.underlying3 rfl (by simpa using h)
theorem part_str (w : World) (cs : List Value) (off : Nat) (s : List UInt8) (h : cs[off]? = some (st s)) : (part 9 cs.toArray off).run Tryz.prog w = .ok (st s) w := part_cell w 9 _ _ off _ Tryz.underlying9 rfl (by simpa using h)
theorem part_dig (w : World) (L A C : List Value) (x : List UInt8) (off : Nat) (hx : x.length = 32) (hL : L = A ++ (dg x ++ C)) (hA : A.length = off) : (part 23 L.toArray off).run Tryz.prog w = .ok (.agg (dg x).toArray) w := by
  subst hL
  exact part_seg w _ _ A (dg x) C off hA Tryz.underlying23 rfl (by rw [dg_len, hx]; exact sizeDig)
theorem equalIn_int (w : World) (d : Nat) (a b : Int) : (Op.equalIn (d + 1) 3 (nu a) (nu b)).run Tryz.prog w = .ok (a == b) w := run_equalIn_int w d 3 _ _ a b Tryz.underlying3
theorem equalIn_str (w : World) (d : Nat) (a b : List UInt8) : (Op.equalIn (d + 1) 9 (st a) (st b)).run Tryz.prog w = .ok (a == b) w := by
  unfold st
  rw [run_equalIn_string w d 9 _ _ Tryz.underlying9, ByteArray.toList_eq, ByteArray.toList_eq]

theorem equal_sub (w : World) (a b : Sub) (ha : a.Wf) (hb : b.Wf) : (Op.equalIn 10000 25 (.agg (subC a).toArray) (.agg (subC b).toArray)).run Tryz.prog w = .ok (sameS a b) w := by
  rw [show (10000 : Nat) = 9997 + 2 + 1 from rfl, run_equalIn_struct w (9997 + 2) 25 _ _ (by kernel_rfl) (by kernel_rfl)]
  rw [eqFields_run w (9997 + 2) _ _ _ [a.number == b.number, a.kind == b.kind, a.target == b.target, a.value == b.value, a.asked == b.asked, a.data == b.data] ?_]
  · simp [sameS]
  · simp only [Program.fieldsOf, Tryz.underlying25]
    refine ⟨⟨by decide, _, _, part_int w _ 0 a.number rfl, part_int w _ 0 b.number rfl, equalIn_int w _ _ _⟩, ⟨by decide, _, _, part_int w _ 1 a.kind rfl, part_int w _ 1 b.kind rfl, equalIn_int w _ _ _⟩, ⟨by decide, _, _, part_int w _ 2 a.target rfl, part_int w _ 2 b.target rfl, equalIn_int w _ _ _⟩,
      ⟨by decide, _, _, part_str w _ 3 a.value rfl, part_str w _ 3 b.value rfl, equalIn_str w _ _ _⟩, ⟨by decide, _, _, part_dig w _ _ (dg a.data) a.asked 4 ha.asked rfl rfl, part_dig w _ _ (dg b.data) b.asked 4 hb.asked rfl rfl, equalIn_dig w _ _ _ ha.asked hb.asked⟩,
      ⟨by decide, _, _, part_dig w _ ([nu a.number, nu a.kind, nu a.target, st a.value] ++ dg a.asked) [] a.data 36 ha.data (by simp [subC]) (by simp [dg_len, ha.asked]), part_dig w _ ([nu b.number, nu b.kind, nu b.target, st b.value] ++ dg b.asked) [] b.data 36 hb.data (by simp [subC]) (by simp [dg_len, hb.asked]), equalIn_dig w _ _ _ ha.data hb.data⟩, trivial⟩
theorem equal_pen (w : World) (a b : Pen) (ha : a.Wf) (hb : b.Wf) : (Op.equalIn 10000 113 (.agg (penC a).toArray) (.agg (penC b).toArray)).run Tryz.prog w = .ok (sameP a b) w := by
  rw [show (10000 : Nat) = 9997 + 2 + 1 from rfl, run_equalIn_struct w (9997 + 2) 113 _ _ (by kernel_rfl) (by kernel_rfl)]
  rw [eqFields_run w (9997 + 2) _ _ _ [a.client == b.client, a.number == b.number, a.kind == b.kind, a.target == b.target, a.asked == b.asked, a.proof == b.proof] ?_]
  · simp [sameP]
  · simp only [Program.fieldsOf, Tryz.underlying113]
    refine ⟨⟨by decide, _, _, part_int w _ 0 a.client rfl, part_int w _ 0 b.client rfl, equalIn_int w _ _ _⟩, ⟨by decide, _, _, part_int w _ 1 a.number rfl, part_int w _ 1 b.number rfl, equalIn_int w _ _ _⟩, ⟨by decide, _, _, part_int w _ 2 a.kind rfl, part_int w _ 2 b.kind rfl, equalIn_int w _ _ _⟩,
      ⟨by decide, _, _, part_int w _ 3 a.target rfl, part_int w _ 3 b.target rfl, equalIn_int w _ _ _⟩, ⟨by decide, _, _, part_dig w _ _ (dg a.proof) a.asked 4 ha.asked rfl rfl, part_dig w _ _ (dg b.proof) b.asked 4 hb.asked rfl rfl, equalIn_dig w _ _ _ ha.asked hb.asked⟩,
      ⟨by decide, _, _, part_dig w _ ([nu a.client, nu a.number, nu a.kind, nu a.target] ++ dg a.asked) [] a.proof 36 ha.proof (by simp [penC]) (by simp [dg_len, ha.asked]), part_dig w _ ([nu b.client, nu b.number, nu b.kind, nu b.target] ++ dg b.asked) [] b.proof 36 hb.proof (by simp [penC]) (by simp [dg_len, hb.asked]), equalIn_dig w _ _ _ ha.proof hb.proof⟩, trivial⟩
theorem equal_blo (w : World) (a b : Blo) (ha : a.Wf) (hb : b.Wf) : (Op.equalIn 10000 30 (.agg (bloC a).toArray) (.agg (bloC b).toArray)).run Tryz.prog w = .ok (sameB a b) w := by
  rw [show (10000 : Nat) = 9997 + 2 + 1 from rfl, run_equalIn_struct w (9997 + 2) 30 _ _ (by kernel_rfl) (by kernel_rfl)]
  rw [eqFields_run w (9997 + 2) _ _ _ [a.owner == b.owner, a.number == b.number, a.cipher == b.cipher, a.tag == b.tag] ?_]
  · simp [sameB]
  · simp only [Program.fieldsOf, Tryz.underlying30]
    refine ⟨⟨by decide, _, _, part_int w _ 0 a.owner rfl, part_int w _ 0 b.owner rfl, equalIn_int w _ _ _⟩, ⟨by decide, _, _, part_int w _ 1 a.number rfl, part_int w _ 1 b.number rfl, equalIn_int w _ _ _⟩,
      ⟨by decide, _, _, part_str w _ 2 a.cipher rfl, part_str w _ 2 b.cipher rfl, equalIn_str w _ _ _⟩, ⟨by decide, _, _, part_dig w _ [nu a.owner, nu a.number, st a.cipher] [] a.tag 3 ha.tag (by simp [bloC]) rfl, part_dig w _ [nu b.owner, nu b.number, st b.cipher] [] b.tag 3 hb.tag (by simp [bloC]) rfl, equalIn_dig w _ _ _ ha.tag hb.tag⟩, trivial⟩
theorem equal_dig (w : World) (a b : List UInt8) (ha : a.length = 32) (hb : b.length = 32) : (Op.equalIn 10000 23 (.agg (dg a).toArray) (.agg (dg b).toArray)).run Tryz.prog w = .ok (a == b) w := equalIn_dig w 9998 a b ha hb
end Go.Proofs.YtidlgecognedlaaGreatDoor.Ms
