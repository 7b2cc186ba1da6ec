/-
  Lines and acts that came in, opened for a walk.
-/
import Derived.Test.YtoddlbggbkabnaaDoorOdig
import Derived.Test.YtoddlbggbkabnaaDoorWnone
namespace Go.Proofs.YtoddlbggbkabnaaDoor
open Go.ChangeShapes Go.WideShapes Go.ChangeAt Go.WideMaps Go.WideElems Go.RowKit
set_option maxRecDepth 100000

theorem cells3 : Tryd.prog.cellsOf 3 = 1 := by kernel_rfl
theorem cells32 : Tryd.prog.cellsOf 32 = 3 := by kernel_rfl
theorem cells36 : Tryd.prog.cellsOf 36 = 36 := by kernel_rfl

section
variable {H : Type} {enc : TypeId × Value → H} {W : World} {base : Nat} {sp : Nat → Bool} {held : Bool} {fuel : Nat} {cs : List Value} {x : DataW H × List MemPlace}

def InI64 (n : Int) : Prop := -9223372036854775808 ≤ n ∧ n ≤ 9223372036854775807
theorem list3 {α : Type} {l : List α} (h : l.length = 3) : ∃ c0 c1 c2, l = [c0, c1, c2] := by
  match l, h with
  | [c0, c1, c2], _ => exact ⟨c0, c1, c2, rfl⟩

theorem line_cells (h : DataW.trod enc Tryd.prog W base sp held fuel 32 cs = some x) : ∃ (c d : Int) (t : List UInt8), cs = [.int .i64 c, .int .i64 d, .string ⟨t.toArray⟩] ∧ InI64 c ∧ InI64 d ∧ t.length ≤ maxLen := by
  obtain ⟨xs, n, _, _, hl, hlen, hfs⟩ := DataW.trod_struct Tryd.underlying32 h
  rw [cells32] at hl
  obtain ⟨c0, c1, c2, rfl⟩ := list3 hl
  obtain ⟨y0, y1, y2, rfl⟩ := list3 (show xs.length = 3 from hlen)
  have g0 : DataW.trod enc Tryd.prog W base sp held n 3 [c0] = some y0 := by simpa [cells3] using hfs 0 _ rfl
  have g1 : DataW.trod enc Tryd.prog W base sp held n 3 [c1] = some y1 := by simpa [cells3] using hfs 1 _ rfl
  have g2 : DataW.trod enc Tryd.prog W base sp held n 9 [c2] = some y2 := by simpa [cells9] using hfs 2 _ rfl
  obtain ⟨c, e0, -, w0⟩ := DataW.trod_int Tryd.underlying3 g0
  obtain ⟨d, e1, -, w1⟩ := DataW.trod_int Tryd.underlying3 g1
  obtain ⟨A, e2, -, hA⟩ := DataW.trod_string Tryd.underlying9 g2
  simp only [List.cons.injEq, and_true] at e0 e1 e2
  subst e0 e1 e2
  exact ⟨c, d, A.data.toList, by simp, bounds_i64 w0, bounds_i64 w1, by simpa using hA⟩

theorem digest_cells (h : DataW.trod enc Tryd.prog W base sp held fuel 34 cs = some x) : ∃ D : List UInt8, D.length = 32 ∧ cs = D.map cb := by
  obtain ⟨xs, m, rfl, hx, hlen, hxl, hat⟩ := DataW.trod_array Tryd.underlying34 h
  rw [cells25] at hlen
  rw [cells5] at hat
  obtain ⟨l, hl, hcs⟩ := bytes_list cs (fun i hi => by
    have h1 := hat i (by omega)
    cases hq : xs[i]? with
    | none => rw [List.getElem?_eq_none_iff] at hq; omega
    | some x =>
      rw [hq] at h1
      obtain ⟨n, hn, -, hw⟩ := DataW.trod_int Tryd.underlying5 h1
      have h2 : cs[i]? = some (.int .u8 n) := by
        have := congrArg (·[0]?) hn
        simpa [List.getElem?_take, List.getElem?_drop] using this
      exact ⟨n, h2, bounds_u8 hw⟩)
  exact ⟨l, by omega, hcs⟩

theorem act_cells (h : DataW.trod enc Tryd.prog W base sp held fuel 36 cs = some x) : ∃ (k c d : Int) (t D : List UInt8), cs = actL k c d t D ∧ InI64 k ∧ InI64 c ∧ InI64 d ∧ t.length ≤ maxLen ∧ D.length = 32 := by
  obtain ⟨xs, n, _, _, hl, hlen, hfs⟩ := DataW.trod_struct Tryd.underlying36 h
  rw [cells36] at hl
  obtain ⟨y0, y1, y2, rfl⟩ := list3 (show xs.length = 3 from hlen)
  have g0 : DataW.trod enc Tryd.prog W base sp held n 3 (cs.take 1) = some y0 := by simpa [cells3] using hfs 0 _ rfl
  have g1 : DataW.trod enc Tryd.prog W base sp held n 32 ((cs.drop 1).take 3) = some y1 := by simpa [cells32] using hfs 1 _ rfl
  have g2 : DataW.trod enc Tryd.prog W base sp held n 34 ((cs.drop 4).take 32) = some y2 := by simpa [cells25] using hfs 2 _ rfl
  obtain ⟨k, e0, -, w0⟩ := DataW.trod_int Tryd.underlying3 g0
  obtain ⟨c, d, t, e1, hc, hd, ht⟩ := line_cells g1
  obtain ⟨D, hD, e2⟩ := digest_cells g2
  refine ⟨k, c, d, t, D, ?_, bounds_i64 w0, hc, hd, ht, hD⟩
  have s1 : cs = cs.take 1 ++ ((cs.drop 1).take 3 ++ (cs.drop 4).take 32) := by
    have a1 : (cs.drop 4).take 32 = cs.drop 4 := List.take_of_length_le (by rw [List.length_drop]; omega)
    rw [a1, show cs.drop 4 = (cs.drop 1).drop 3 by rw [List.drop_drop], List.take_append_drop, List.take_append_drop]
  rw [s1, e0, e1, e2]
  rfl

end

theorem open_line {H : Type} {enc : TypeId × Value → H} {W : World} {base : Nat} {v : Value} {d : DataW H} {p : List MemPlace} (hv : Value.okWide Tryd.prog W .any base 32 v)
    (h : DataW.Trod enc Tryd.prog W 0 (fun _ => true) true 32 v d p) : ∃ (c e : Int) (t : List UInt8), v = .agg #[.int .i64 c, .int .i64 e, .string ⟨t.toArray⟩] ∧ InI64 c ∧ InI64 e ∧ t.length ≤ maxLen := by
  obtain ⟨cs, rfl, hsz⟩ := okWide_struct Tryd.underlying32 hv
  obtain ⟨fuel, hf⟩ := h
  obtain ⟨c, e, t, hcs, h1⟩ := line_cells hf
  refine ⟨c, e, t, ?_, h1⟩
  simp only [Value.cells] at hcs
  rw [← Array.toArray_toList (xs := cs), hcs]
theorem open_act {H : Type} {enc : TypeId × Value → H} {W : World} {base : Nat} {v : Value} {d : DataW H} {p : List MemPlace} (hv : Value.okWide Tryd.prog W .any base 36 v)
    (h : DataW.Trod enc Tryd.prog W 0 (fun _ => true) true 36 v d p) : ∃ (k c e : Int) (t D : List UInt8), v = .agg (actL k c e t D).toArray ∧ InI64 k ∧ InI64 c ∧ InI64 e ∧ t.length ≤ maxLen ∧ D.length = 32 := by
  obtain ⟨cs, rfl, hsz⟩ := okWide_struct Tryd.underlying36 hv
  obtain ⟨fuel, hf⟩ := h
  obtain ⟨k, c, e, t, D, hcs, h1⟩ := act_cells hf
  refine ⟨k, c, e, t, D, ?_, h1⟩
  simp only [Value.cells] at hcs
  rw [← Array.toArray_toList (xs := cs), hcs]

end Go.Proofs.YtoddlbggbkabnaaDoor
