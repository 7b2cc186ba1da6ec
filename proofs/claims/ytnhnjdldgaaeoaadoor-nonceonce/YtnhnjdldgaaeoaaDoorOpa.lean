/-
  Acts and lists of them that came in, opened for a walk.
-/
import Derived.Test.YtnhnjdldgaaeoaaDoorNac
import Derived.Test.YtnhnjdldgaaeoaaDoorOpi
namespace Go.Proofs.YtnhnjdldgaaeoaaDoor
open Go.ChangeShapes Go.WideShapes Go.ChangeAt Go.WideMaps Go.WideElems Go.RowKit
set_option maxRecDepth 100000

theorem cells36 : Tryd.prog.cellsOf 36 = 4 := by kernel_rfl
section
variable {H : Type} {enc : TypeId × Value → H} {W : World} {base : Nat} {sp : Nat → Bool} {held : Bool} {fuel : Nat} {cs : List Value} {x : DataW H × List MemPlace}
theorem list4 {α : Type} {l : List α} (h : l.length = 4) : ∃ c0 c1 c2 c3, l = [c0, c1, c2, c3] := by
  match l, h with
  | [c0, c1, c2, c3], _ => exact ⟨c0, c1, c2, c3, rfl⟩

theorem act_cells (h : DataW.trod enc Tryd.prog W 0 (fun _ => true) held fuel 36 cs = some x) : ∃ (k i : Int) (t : List UInt8) (v : Value) (ks : List Int), cs = [.int .i64 k, .int .i64 i, .string ⟨t.toArray⟩, v] ∧ i < 9223372036854775808 ∧ IntsAt W v ks := by
  obtain ⟨xs, n, _, _, hl, hlen, hfs⟩ := DataW.trod_struct Tryd.underlying36 h
  rw [cells36] at hl
  obtain ⟨c0, c1, c2, c3, rfl⟩ := list4 hl
  obtain ⟨y0, y1, y2, y3, rfl⟩ := list4 (show xs.length = 4 from hlen)
  have g0 : DataW.trod enc Tryd.prog W 0 (fun _ => true) held n 3 [c0] = some y0 := by simpa [cells3] using hfs 0 _ rfl
  have g1 : DataW.trod enc Tryd.prog W 0 (fun _ => true) held n 3 [c1] = some y1 := by simpa [cells3] using hfs 1 _ rfl
  have g2 : DataW.trod enc Tryd.prog W 0 (fun _ => true) held n 9 [c2] = some y2 := by simpa [cells9] using hfs 2 _ rfl
  have g3 : DataW.trod enc Tryd.prog W 0 (fun _ => true) held n 34 [c3] = some y3 := by simpa [cells34] using hfs 3 _ rfl
  obtain ⟨k, e0, -, -⟩ := DataW.trod_int Tryd.underlying3 g0
  obtain ⟨i, e1, -, w1⟩ := DataW.trod_int Tryd.underlying3 g1
  obtain ⟨A, e2, -, -⟩ := DataW.trod_string Tryd.underlying9 g2
  obtain ⟨v, ks, e3, hI⟩ := ints_cells g3
  simp only [List.cons.injEq, and_true] at e0 e1 e2 e3
  subst e0 e1 e2 e3
  exact ⟨k, i, A.data.toList, c3, ks, by simp, by have := (bounds_i64 w1).2; omega, hI⟩
end
theorem open_acts {H : Type} {enc : TypeId × Value → H} {W : World} {base : Nat} {v : Value} {d : DataW H} {p : List MemPlace} (hv : Value.okWide Tryd.prog W .any base 22 v)
    (h : DataW.Trod enc Tryd.prog W 0 (fun _ => true) true 22 v d p) : ∃ a len cap, v = .slice a len cap ∧ ActsAt W a len := by
  obtain ⟨a, len, cap, rfl⟩ := okWide_slice Tryd.underlying22 hv
  obtain ⟨fuel, hf⟩ := h
  refine ⟨a, len, cap, rfl, ?_⟩
  rcases Go.Deep.open_slice Tryd.underlying22 hf with ⟨hcs, hx⟩ | ⟨a', len', cap', m, n, Df, Pf, hcs, hb, hl, hm, hmm, hx, hat⟩
  · simp [Value.cells] at hcs
    obtain ⟨rfl, rfl, rfl⟩ := hcs
    exact fun j hj => by omega
  · simp [Value.cells] at hcs
    obtain ⟨rfl, rfl, rfl⟩ := hcs
    simp only [if_true] at hmm
    subst hmm
    intro j hj
    obtain ⟨cs, hcs, ht⟩ := hat j (by omega)
    rw [cells36] at hcs
    obtain ⟨k, i, t, u, ks, rfl, hi, hI⟩ := act_cells ht
    have hcell := (World.cells?_some hcs).2.2
    obtain ⟨b, off, spot⟩ := a'
    have hspot : spot = none := by
      obtain ⟨cs0, hcs0, ht0⟩ := hat 0 (by omega)
      rw [cells36] at hcs0
      obtain ⟨k0, i0, t0, u0, ks0, rfl, -⟩ := act_cells ht0
      have h0 := (World.cells?_some hcs0).2.2 0 (by omega)
      have h1 : ([Value.int .i64 k0, .int .i64 i0, .string ⟨t0.toArray⟩, u0])[0]? = some (.int .i64 k0) := rfl
      rw [h1] at h0
      simpa [Addr.add] using World.cell?_spot h0
    subst hspot
    refine ⟨b, off, k, i, t, u, ks, rfl, fun c y hy => ?_, hi, hI⟩
    have hc4 : c < 4 := by have := (List.getElem?_eq_some_iff.1 hy).1; simpa using this
    have h0 := hcell c hc4
    rw [hy, Go.WideShapes.add_plain, Go.WideShapes.add_plain] at h0
    exact h0
end Go.Proofs.YtnhnjdldgaaeoaaDoor
