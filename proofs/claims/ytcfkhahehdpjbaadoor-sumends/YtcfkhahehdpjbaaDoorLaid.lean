/-
  What the laid table of constants gives the walks, and a start in which it lies so.
-/
import Derived.Test.YtcfkhahehdpjbaaDoorRows
import Derived.Test.YtcfkhahehdpjbaaDoorTbk
import Derived.ProofKit
import Derived.LaidMore
import Derived.OpenShut
import Derived.Stop.Joined
import Derived.Stop.LaidErr
import Derived.Lib.LaidTab
namespace Go.Proofs.YtcfkhahehdpjbaaDoor
open Go.ChangeShapes Go.WideShapes Go.ChangeAt Go.WideMaps Go.WideElems Go.RowKit

def laid1 : List (String × DataW Unit) := [("affidavit/sum.constants", Rows.laid_affidavit_sum_constants)]

theorem own : ownKnob Tryd.prog.godebug = none := by kernel_rfl
theorem gTab : Tryd.prog.globalNamed "affidavit/sum.constants" = some 0 := by kernel_rfl
theorem tTab : (Tryd.prog.globals[0]?).map (·.type) = some 52 := by kernel_rfl
theorem door_met (os : Os) (args : Array Value) : laidMetH Tryd.prog laid1 ((World.doorLaid Tryd.prog 14 os).forCall (fun _ _ => 0) ⟨#[], args, []⟩).memory :=
  laidMetH_of_parts3 (fuel := 8) (laidMet_of_run' 8 (by kernel_rfl) (by kernel_rfl)) (by kernel_rfl) (by kernel_rfl)
theorem cells38 : Tryd.prog.cellsOf 38 = 1 := by kernel_rfl
theorem cells52 : Tryd.prog.cellsOf 52 = 64 := by kernel_rfl
theorem tabData1 : (Rows.laid_affidavit_sum_constants : DataW Unit) = Lib.tabData .u32 (kks.map wv) := by kernel_rfl

theorem ktab_of_laid {W : World} (h : laidMetH Tryd.prog laid1 W) : Ktab W := by
  rw [MakeChecks.laidMetH_plain _ _ _ (by kernel_rfl)] at h
  unfold laid1 at h
  rw [tabData1] at h
  have h1 := Lib.tabIs_of_head gTab tTab Tryd.underlying52 Tryd.underlying38 cells38 cells52 h
  unfold Lib.TabIs World.var? at h1
  rw [gTab] at h1
  simp only [Option.bind_some] at h1
  cases hh : W.heap[0]? with
  | none => rw [hh] at h1; simp at h1
  | some o =>
    rw [hh] at h1
    cases o with
    | cells cs t fr =>
      simp only [Option.some.injEq] at h1
      subst h1
      refine ⟨t, fr, ?_⟩
      rw [hh, List.map_map]
      rfl
    | _ => simp at h1

end Go.Proofs.YtcfkhahehdpjbaaDoor
