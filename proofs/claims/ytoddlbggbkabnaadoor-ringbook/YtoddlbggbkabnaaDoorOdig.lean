/-
  A digest that came in, opened for a walk.
-/
import Derived.Test.YtoddlbggbkabnaaDoorOpen
import Derived.Test.YtoddlbggbkabnaaDoorMpl
namespace Go.Proofs.YtoddlbggbkabnaaDoor
open Go.ChangeShapes Go.WideShapes Go.ChangeAt Go.WideMaps Go.WideElems Go.RowKit

theorem cells25 : Tryd.prog.cellsOf 34 = 32 := by kernel_rfl
theorem cells5 : Tryd.prog.cellsOf 5 = 1 := by kernel_rfl

theorem bytes_list : ∀ (cs : List Value), (∀ i, i < cs.length → ∃ n : Int, cs[i]? = some (.int .u8 n) ∧ 0 ≤ n ∧ n ≤ 255) → ∃ l : List UInt8, l.length = cs.length ∧ cs = l.map cb
  | [], _ => ⟨[], rfl, rfl⟩
  | c :: cs, h => by
    obtain ⟨n, hn, h0, h1⟩ := h 0 (by simp)
    obtain ⟨l, hl, hcs⟩ := bytes_list cs (fun i hi => by
      obtain ⟨m, hm, h2⟩ := h (i + 1) (by simpa using hi)
      exact ⟨m, by simpa using hm, h2⟩)
    refine ⟨UInt8.ofNat n.toNat :: l, by simp [hl], ?_⟩
    have hc : c = .int .u8 n := by simpa using hn
    rw [List.map_cons, ← hcs, hc]
    congr 1
    unfold cb
    rw [bv_ofNat]
    congr 1
    omega

theorem open_digest {H : Type} {enc : TypeId × Value → H} {W : World} {v : Value} {d : DataW H} {p : List MemPlace}
    (h : DataW.Trod enc Tryd.prog W 0 (fun _ => true) true 34 v d p) : ∃ l : List UInt8, l.length = 32 ∧ v = .agg (l.map cb).toArray := by
  obtain ⟨fuel, hf⟩ := h
  obtain ⟨xs, m, rfl, hx, hlen, hxl, hat⟩ := DataW.trod_array Tryd.underlying34 hf
  rw [cells25] at hlen
  rw [cells5] at hat
  obtain ⟨l, hl, hcs⟩ := bytes_list v.cells.toList (fun i hi => by
    have h1 := hat i (by omega)
    cases hq : xs[i]? with
    | none => rw [List.getElem?_eq_none_iff] at hq; omega
    | some x =>
      rw [hq] at h1
      obtain ⟨n, hn, -, hw⟩ := DataW.trod_int Tryd.underlying5 h1
      have h2 : v.cells.toList[i]? = some (.int .u8 n) := by
        have := congrArg (·[0]?) hn
        simpa [List.getElem?_take, List.getElem?_drop] using this
      exact ⟨n, h2, bounds_u8 hw⟩)
  refine ⟨l, by omega, ?_⟩
  cases v with
  | agg cs => simp only [Value.cells] at hcs; rw [← hcs, Array.toArray_toList]
  | _ => simp [Value.cells] at hlen

end Go.Proofs.YtoddlbggbkabnaaDoor
