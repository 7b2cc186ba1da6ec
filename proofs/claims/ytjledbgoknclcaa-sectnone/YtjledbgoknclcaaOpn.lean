/-
  Numbers, acts and lists of them that came in, opened for a walk.
-/
import Derived.Test.YtjledbgoknclcaaWmd
import Derived.Test.YtjledbgoknclcaaRows
import Derived.WalkKit
import Derived.ProofKit
import Derived.OpenShut
import Derived.Deep.Slices
namespace Go.Proofs.Ytjledbgoknclcaa
open Go.ChangeShapes Go.WideShapes Go.ChangeAt Go.WideMaps Go.WideElems Go.RowKit
set_option maxRecDepth 100000

theorem own : ownKnob Try.prog.godebug = none := by kernel_rfl
theorem laidOut : laidOutB Try.prog = true := by kernel_rfl
theorem cells3 : Try.prog.cellsOf 3 = 1 := by kernel_rfl
theorem cells9 : Try.prog.cellsOf 9 = 1 := by kernel_rfl
theorem cells36 : Try.prog.cellsOf 36 = 1 := by kernel_rfl
theorem cells44 : Try.prog.cellsOf 44 = 4 := by kernel_rfl
section
variable {H : Type} {enc : TypeId × Value → H} {W : World} {base : Nat} {sp : Nat → Bool} {held : Bool} {fuel : Nat} {cs : List Value} {x : DataW H × List MemPlace}
theorem list4 {α : Type} {l : List α} (h : l.length = 4) : ∃ c0 c1 c2 c3, l = [c0, c1, c2, c3] := by
  match l, h with
  | [c0, c1, c2, c3], _ => exact ⟨c0, c1, c2, c3, rfl⟩

theorem ints_cells (h : DataW.trod enc Try.prog W 0 (fun _ => true) held fuel 36 cs = some x) : ∃ v ks, cs = [v] ∧ IntsAt W v ks := by
  rcases open_ints Try.underlying36 Try.underlying3 cells3 h with ⟨rfl, -⟩ | ⟨a, len, cap, zs, rfl, _, hl, _, hz, -, hcell, -⟩
  · exact ⟨_, [], rfl, none, 0, rfl, Nat.le_refl _, fun h => absurd rfl h⟩
  · simp only [if_true] at hz
    have hlen : (zs.take len).length = len := by rw [List.length_take]; omega
    refine ⟨_, zs.take len, rfl, some a, cap, by rw [hlen], by rw [hlen]; exact hl, fun hne => ?_⟩
    have hpos : 0 < len := by
      rcases Nat.eq_zero_or_pos len with e | e
      · subst e; simp at hne
      · exact e
    obtain ⟨b, off, spot⟩ := a
    have hspot : spot = none := by simpa [Addr.add] using World.cell?_spot (hcell 0 (by omega))
    subst hspot
    refine ⟨b, off, rfl, fun j x hj => ?_⟩
    have hj' : j < len := by have := (List.getElem?_eq_some_iff.1 hj).1; omega
    have h9 := hcell j (by omega)
    rw [Go.WideShapes.add_plain] at h9
    rw [h9]
    rw [List.getElem?_take, if_pos hj'] at hj
    simp [List.getD, hj]

theorem act_cells (h : DataW.trod enc Try.prog W 0 (fun _ => true) held fuel 44 cs = some x) : ∃ (k i : Int) (t : List UInt8) (v : Value) (ks : List Int), cs = [.int .i64 k, .int .i64 i, .string ⟨t.toArray⟩, v] ∧ i < 9223372036854775808 ∧ IntsAt W v ks := by
  obtain ⟨xs, n, _, _, hl, hlen, hfs⟩ := DataW.trod_struct Try.underlying44 h
  rw [cells44] at hl
  obtain ⟨c0, c1, c2, c3, rfl⟩ := list4 hl
  obtain ⟨y0, y1, y2, y3, rfl⟩ := list4 (show xs.length = 4 from hlen)
  have g0 : DataW.trod enc Try.prog W 0 (fun _ => true) held n 3 [c0] = some y0 := by simpa [cells3] using hfs 0 _ rfl
  have g1 : DataW.trod enc Try.prog W 0 (fun _ => true) held n 3 [c1] = some y1 := by simpa [cells3] using hfs 1 _ rfl
  have g2 : DataW.trod enc Try.prog W 0 (fun _ => true) held n 9 [c2] = some y2 := by simpa [cells9] using hfs 2 _ rfl
  have g3 : DataW.trod enc Try.prog W 0 (fun _ => true) held n 36 [c3] = some y3 := by simpa [cells36] using hfs 3 _ rfl
  obtain ⟨k, e0, -, -⟩ := DataW.trod_int Try.underlying3 g0
  obtain ⟨i, e1, -, w1⟩ := DataW.trod_int Try.underlying3 g1
  obtain ⟨A, e2, -, -⟩ := DataW.trod_string Try.underlying9 g2
  obtain ⟨v, ks, e3, hI⟩ := ints_cells g3
  simp only [List.cons.injEq, and_true] at e0 e1 e2 e3
  subst e0 e1 e2 e3
  exact ⟨k, i, A.data.toList, c3, ks, by simp, by have := (bounds_i64 w1).2; omega, hI⟩
end

theorem open_ints' {H : Type} {enc : TypeId × Value → H} {W : World} {base : Nat} {v : Value} {d : DataW H} {p : List MemPlace} (hv : Value.okWide Try.prog W .any base 36 v)
    (h : DataW.Trod enc Try.prog W 0 (fun _ => true) true 36 v d p) : ∃ ks, IntsAt W v ks := by
  obtain ⟨a, len, cap, rfl⟩ := okWide_slice Try.underlying36 hv
  obtain ⟨fuel, hf⟩ := h
  obtain ⟨v, ks, hcs, hI⟩ := ints_cells hf
  simp only [Value.cells, List.cons.injEq, and_true] at hcs
  subst hcs
  exact ⟨ks, hI⟩
theorem open_act {H : Type} {enc : TypeId × Value → H} {W : World} {base : Nat} {v : Value} {d : DataW H} {p : List MemPlace} (hv : Value.okWide Try.prog W .any base 44 v)
    (h : DataW.Trod enc Try.prog W 0 (fun _ => true) true 44 v d p) : ∃ (k i : Int) (t : List UInt8) (u : Value) (ks : List Int), v = .agg #[.int .i64 k, .int .i64 i, .string ⟨t.toArray⟩, u] ∧ i < 9223372036854775808 ∧ IntsAt W u ks := by
  obtain ⟨cs, rfl, hsz⟩ := okWide_struct Try.underlying44 hv
  obtain ⟨fuel, hf⟩ := h
  obtain ⟨k, i, t, u, ks, hcs, h1⟩ := act_cells hf
  refine ⟨k, i, t, u, ks, ?_, h1⟩
  simp only [Value.cells] at hcs
  rw [← Array.toArray_toList (xs := cs), hcs]
theorem open_acts {H : Type} {enc : TypeId × Value → H} {W : World} {base : Nat} {v : Value} {d : DataW H} {p : List MemPlace} (hv : Value.okWide Try.prog W .any base 22 v)
    (h : DataW.Trod enc Try.prog W 0 (fun _ => true) true 22 v d p) : ∃ a len cap, v = .slice a len cap ∧ ActsAt W a len := by
  obtain ⟨a, len, cap, rfl⟩ := okWide_slice Try.underlying22 hv
  obtain ⟨fuel, hf⟩ := h
  refine ⟨a, len, cap, rfl, ?_⟩
  rcases Go.Deep.open_slice Try.underlying22 hf with ⟨hcs, hx⟩ | ⟨a', len', cap', m, n, Df, Pf, hcs, hb, hl, hm, hmm, hx, hat⟩
  · simp [Value.cells] at hcs
    obtain ⟨rfl, rfl, rfl⟩ := hcs
    exact fun j hj => by omega
  · simp [Value.cells] at hcs
    obtain ⟨rfl, rfl, rfl⟩ := hcs
    simp only [if_true] at hmm
    subst hmm
    intro j hj
    obtain ⟨cs, hcs, ht⟩ := hat j (by omega)
    rw [cells44] at hcs
    obtain ⟨k, i, t, u, ks, rfl, hi, hI⟩ := act_cells ht
    have hcell := (World.cells?_some hcs).2.2
    obtain ⟨b, off, spot⟩ := a'
    have hspot : spot = none := by
      obtain ⟨cs0, hcs0, ht0⟩ := hat 0 (by omega)
      rw [cells44] at hcs0
      obtain ⟨k0, i0, t0, u0, ks0, rfl, -⟩ := act_cells ht0
      have h0 := (World.cells?_some hcs0).2.2 0 (by omega)
      have h1 : ([Value.int .i64 k0, .int .i64 i0, .string ⟨t0.toArray⟩, u0])[0]? = some (.int .i64 k0) := rfl
      rw [h1] at h0
      simpa [Addr.add] using World.cell?_spot h0
    subst hspot
    refine ⟨b, off, k, i, t, u, ks, rfl, fun c y hy => ?_, hi, hI⟩
    have hc4 : c < 4 := by have := (List.getElem?_eq_some_iff.1 hy).1; simpa using this
    have h0 := hcell c hc4
    rw [hy, Go.WideShapes.add_plain, Go.WideShapes.add_plain] at h0
    exact h0
end Go.Proofs.Ytjledbgoknclcaa
