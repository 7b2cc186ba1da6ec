/-
  The two structs that come in, opened for a walk: no text in them is longer than a text that comes in may be.
-/
import Derived.Test.YtfkfjopjnfeahaaDoorOpen
import Derived.Test.YtfkfjopjnfeahaaDoorWnoth
import Derived.Test.YtfkfjopjnfeahaaDoorRows
import Derived.SizedLaws
namespace Go.Proofs.YtfkfjopjnfeahaaDoor
open Go.ChangeShapes Go.WideShapes Go.ChangeAt Go.WideMaps Go.WideElems Go.RowKit
set_option maxRecDepth 100000

theorem cells3 : Tryd.prog.cellsOf 3 = 1 := by kernel_rfl
theorem cells33 : Tryd.prog.cellsOf 33 = 1 := by kernel_rfl
theorem cells31 : Tryd.prog.cellsOf 31 = 4 := by kernel_rfl
theorem cells35 : Tryd.prog.cellsOf 35 = 4 := by kernel_rfl
theorem bounds_u16 {n : Int} (h : (Lit.int .u16 n).wf = true) : 0 ≤ n ∧ n ≤ 65535 := by
  simp [Lit.wf, IntKind.min, IntKind.max, IntKind.signed, IntKind.bits] at h
  omega
theorem list4 {α : Type} {l : List α} (h : l.length = 4) : ∃ c0 c1 c2 c3, l = [c0, c1, c2, c3] := by
  match l, h with
  | [c0, c1, c2, c3], _ => exact ⟨c0, c1, c2, c3, rfl⟩

theorem weights_mem_31 {H : Type} (y1 y2 y3 : DataW H) (t : List UInt8) : t.length ∈ (DataW.agg [.lit (.string t), y1, y2, y3]).weights Tryd.prog 31 := by
  unfold DataW.weights
  rw [Tryd.underlying31]
  simp [DataW.weightsEach, DataW.weights]
theorem weights_mem_35 {H : Type} (y1 y2 y3 : DataW H) (t : List UInt8) : t.length ∈ (DataW.agg [.lit (.string t), y1, y2, y3]).weights Tryd.prog 35 := by
  unfold DataW.weights
  rw [Tryd.underlying35]
  simp [DataW.weightsEach, DataW.weights]

section
variable {H : Type} {enc : TypeId × Value → H} {W : World} {base : Nat} {sp : Nat → Bool} {held : Bool} {fuel : Nat} {cs : List Value} {x : DataW H × List MemPlace}

theorem four_cells (h : DataW.trod enc Tryd.prog W base sp held fuel 31 cs = some x) : ∃ (k : List UInt8) (n : Int) (a b : List UInt8), cs = [.string ⟨k.toArray⟩, .int .i64 n, .string ⟨a.toArray⟩, .string ⟨b.toArray⟩] ∧ k.length ∈ x.1.weights Tryd.prog 31 := by
  obtain ⟨xs, n, _, hx, hl, hlen, hfs⟩ := DataW.trod_struct Tryd.underlying31 h
  rw [cells31] at hl
  obtain ⟨c0, c1, c2, c3, rfl⟩ := list4 hl
  obtain ⟨y0, y1, y2, y3, rfl⟩ := list4 (show xs.length = 4 from hlen)
  have g0 : DataW.trod enc Tryd.prog W base sp held n 9 [c0] = some y0 := by simpa [cells9] using hfs 0 _ rfl
  have g1 : DataW.trod enc Tryd.prog W base sp held n 3 [c1] = some y1 := by simpa [cells3] using hfs 1 _ rfl
  have g2 : DataW.trod enc Tryd.prog W base sp held n 9 [c2] = some y2 := by simpa [cells9] using hfs 2 _ rfl
  have g3 : DataW.trod enc Tryd.prog W base sp held n 9 [c3] = some y3 := by simpa [cells9] using hfs 3 _ rfl
  obtain ⟨A, e0, hy, -⟩ := DataW.trod_string Tryd.underlying9 g0
  obtain ⟨c, e1, -, w1⟩ := DataW.trod_int Tryd.underlying3 g1
  obtain ⟨B, e2, -, -⟩ := DataW.trod_string Tryd.underlying9 g2
  obtain ⟨D, e3, -, -⟩ := DataW.trod_string Tryd.underlying9 g3
  simp only [List.cons.injEq, and_true] at e0 e1 e2 e3
  subst e0 e1 e2 e3
  refine ⟨A.data.toList, c, B.data.toList, D.data.toList, by simp, ?_⟩
  subst hx
  rw [hy]
  exact weights_mem_31 y1.1 y2.1 y3.1 A.data.toList

theorem rows_cells (h : DataW.trod enc Tryd.prog W base sp held fuel 35 cs = some x) : ∃ (k : List UInt8) (n : Int) (a b : Nat), cs = [.string ⟨k.toArray⟩, .int .i64 n, .int .u16 (a : Int), .int .u16 (b : Int)] ∧ a < 65536 ∧ b < 65536 ∧ k.length ∈ x.1.weights Tryd.prog 35 := by
  obtain ⟨xs, n, _, hx, hl, hlen, hfs⟩ := DataW.trod_struct Tryd.underlying35 h
  rw [cells35] at hl
  obtain ⟨c0, c1, c2, c3, rfl⟩ := list4 hl
  obtain ⟨y0, y1, y2, y3, rfl⟩ := list4 (show xs.length = 4 from hlen)
  have g0 : DataW.trod enc Tryd.prog W base sp held n 9 [c0] = some y0 := by simpa [cells9] using hfs 0 _ rfl
  have g1 : DataW.trod enc Tryd.prog W base sp held n 3 [c1] = some y1 := by simpa [cells3] using hfs 1 _ rfl
  have g2 : DataW.trod enc Tryd.prog W base sp held n 33 [c2] = some y2 := by simpa [cells33] using hfs 2 _ rfl
  have g3 : DataW.trod enc Tryd.prog W base sp held n 33 [c3] = some y3 := by simpa [cells33] using hfs 3 _ rfl
  obtain ⟨A, e0, hy, -⟩ := DataW.trod_string Tryd.underlying9 g0
  obtain ⟨c, e1, -, w1⟩ := DataW.trod_int Tryd.underlying3 g1
  obtain ⟨p, e2, -, w2⟩ := DataW.trod_int Tryd.underlying33 g2
  obtain ⟨q, e3, -, w3⟩ := DataW.trod_int Tryd.underlying33 g3
  simp only [List.cons.injEq, and_true] at e0 e1 e2 e3
  have b2 : 0 ≤ p ∧ p ≤ 65535 := bounds_u16 w2
  have b3 : 0 ≤ q ∧ q ≤ 65535 := bounds_u16 w3
  obtain ⟨p', rfl⟩ : ∃ m : Nat, p = m := ⟨p.toNat, by omega⟩
  obtain ⟨q', rfl⟩ : ∃ m : Nat, q = m := ⟨q.toNat, by omega⟩
  subst e0 e1 e2 e3
  refine ⟨A.data.toList, c, p', q', by simp, by omega, by omega, ?_⟩
  subst hx
  rw [hy]
  exact weights_mem_35 y1.1 y2.1 y3.1 A.data.toList
end

theorem open_four {H : Type} {enc : TypeId × Value → H} {W : World} {base : Nat} {v : Value} {d : DataW H} {p : List MemPlace} (hv : Value.okWide Tryd.prog W .any base 31 v)
    (h : DataW.Trod enc Tryd.prog W 0 (fun _ => true) true 31 v d p) : ∃ (k : List UInt8) (n : Int) (a b : List UInt8), v = .agg (fourL k n a b) ∧ k.length ∈ d.weights Tryd.prog 31 := by
  obtain ⟨cs, rfl, hsz⟩ := okWide_struct Tryd.underlying31 hv
  obtain ⟨fuel, hf⟩ := h
  obtain ⟨k, n, a, b, hcs, h1⟩ := four_cells hf
  refine ⟨k, n, a, b, ?_, h1⟩
  simp only [Value.cells] at hcs
  rw [← Array.toArray_toList (xs := cs), hcs]
  rfl
theorem open_rows {H : Type} {enc : TypeId × Value → H} {W : World} {base : Nat} {v : Value} {d : DataW H} {p : List MemPlace} (hv : Value.okWide Tryd.prog W .any base 35 v)
    (h : DataW.Trod enc Tryd.prog W 0 (fun _ => true) true 35 v d p) : ∃ (k : List UInt8) (n : Int) (a b : Nat), v = .agg (rowsL k n a b) ∧ a < 65536 ∧ b < 65536 ∧ k.length ∈ d.weights Tryd.prog 35 := by
  obtain ⟨cs, rfl, hsz⟩ := okWide_struct Tryd.underlying35 hv
  obtain ⟨fuel, hf⟩ := h
  obtain ⟨k, n, a, b, hcs, h1⟩ := rows_cells hf
  refine ⟨k, n, a, b, ?_, h1⟩
  simp only [Value.cells] at hcs
  rw [← Array.toArray_toList (xs := cs), hcs]
  rfl

end Go.Proofs.YtfkfjopjnfeahaaDoor
