/-
  Numbers that came in, opened for a walk.
-/
import Derived.Test.YtnhnjdldgaaeoaaDoorIrw
import Derived.Test.YtnhnjdldgaaeoaaDoorRows
import Derived.Test.YtnhnjdldgaaeoaaDoorLaid
import Derived.WalkKit
import Derived.ProofKit
import Derived.OpenShut
import Derived.Deep.Slices
namespace Go.Proofs.YtnhnjdldgaaeoaaDoor
open Go.ChangeShapes Go.WideShapes Go.ChangeAt Go.WideMaps Go.WideElems Go.RowKit
set_option maxRecDepth 100000

theorem laidOut : laidOutB Tryd.prog = true := by kernel_rfl
theorem cells3 : Tryd.prog.cellsOf 3 = 1 := by kernel_rfl
theorem cells34 : Tryd.prog.cellsOf 34 = 1 := by kernel_rfl
section
variable {H : Type} {enc : TypeId × Value → H} {W : World} {base : Nat} {sp : Nat → Bool} {held : Bool} {fuel : Nat} {cs : List Value} {x : DataW H × List MemPlace}

theorem ints_cells (h : DataW.trod enc Tryd.prog W 0 (fun _ => true) held fuel 34 cs = some x) : ∃ v ks, cs = [v] ∧ IntsAt W v ks := by
  rcases open_ints Tryd.underlying34 Tryd.underlying3 cells3 h with ⟨rfl, -⟩ | ⟨a, len, cap, zs, rfl, _, hl, _, hz, -, hcell, -⟩
  · exact ⟨_, [], rfl, none, 0, rfl, Nat.le_refl _, fun h => absurd rfl h⟩
  · simp only [if_true] at hz
    have hlen : (zs.take len).length = len := by rw [List.length_take]; omega
    refine ⟨_, zs.take len, rfl, some a, cap, by rw [hlen], by rw [hlen]; exact hl, fun hne => ?_⟩
    have hpos : 0 < len := by
      rcases Nat.eq_zero_or_pos len with e | e
      · subst e; simp at hne
      · exact e
    obtain ⟨b, off, spot⟩ := a
    have hspot : spot = none := by simpa [Addr.add] using World.cell?_spot (hcell 0 (by omega))
    subst hspot
    refine ⟨b, off, rfl, fun j x hj => ?_⟩
    have hj' : j < len := by have := (List.getElem?_eq_some_iff.1 hj).1; omega
    have h9 := hcell j (by omega)
    rw [Go.WideShapes.add_plain] at h9
    rw [h9]
    rw [List.getElem?_take, if_pos hj'] at hj
    simp [List.getD, hj]

end

theorem open_ints' {H : Type} {enc : TypeId × Value → H} {W : World} {base : Nat} {v : Value} {d : DataW H} {p : List MemPlace} (hv : Value.okWide Tryd.prog W .any base 34 v)
    (h : DataW.Trod enc Tryd.prog W 0 (fun _ => true) true 34 v d p) : ∃ ks, IntsAt W v ks := by
  obtain ⟨a, len, cap, rfl⟩ := okWide_slice Tryd.underlying34 hv
  obtain ⟨fuel, hf⟩ := h
  obtain ⟨v, ks, hcs, hI⟩ := ints_cells hf
  simp only [Value.cells, List.cons.injEq, and_true] at hcs
  subst hcs
  exact ⟨ks, hI⟩
end Go.Proofs.YtnhnjdldgaaeoaaDoor
