/-
  What the laid variables give the walks, and a start in which they lie so.
-/
import Derived.Test.YtfkfjopjnfeahaaDoorRows
import Derived.Test.YtfkfjopjnfeahaaDoorTbk
import Derived.Test.YtfkfjopjnfeahaaDoorLnum
import Derived.ProofKit
import Derived.LaidMore
import Derived.OpenShut
import Derived.Stop.Joined
import Derived.Stop.LaidErr
import Derived.Lib.LaidTab
namespace Go.Proofs.YtfkfjopjnfeahaaDoor
open Go.ChangeShapes Go.WideShapes Go.ChangeAt Go.WideMaps Go.WideElems Go.RowKit

def laidAll : List (String × DataW Unit) := [("math/bits.deBruijn32tab", Rows.laid_math_bits_deBruijn32tab), ("math/bits.deBruijn64tab", Rows.laid_math_bits_deBruijn64tab), ("affidavit/sum.constants", Rows.laid_affidavit_sum_constants), ("internal/strconv.uint64pow10", Rows.laid_internal_strconv_uint64pow10)]

theorem own : ownKnob Tryd.prog.godebug = none := by kernel_rfl
theorem door_met (os : Os) (args : Array Value) : laidMetH Tryd.prog laidAll ((World.doorLaid Tryd.prog 29 os).forCall (fun _ _ => 0) ⟨#[], args, []⟩).memory :=
  laidMetH_of_parts3 (fuel := 8) (laidMet_of_run' 8 (by kernel_rfl) (by kernel_rfl)) (by kernel_rfl) (by kernel_rfl)
theorem gTab : Tryd.prog.globalNamed "affidavit/sum.constants" = some 0 := by kernel_rfl
theorem tTab : (Tryd.prog.globals[0]?).map (·.type) = some 82 := by kernel_rfl
theorem tTab_e : Tryd.prog.cellsOf 67 = 1 := by kernel_rfl
theorem tTab_t : Tryd.prog.cellsOf 82 = 64 := by kernel_rfl
theorem tabData1 : (Rows.laid_affidavit_sum_constants : DataW Unit) = Lib.tabData .u32 (kks.map wv) := by kernel_rfl
theorem ktab_of_laid {W : World} (h : laidMetH Tryd.prog laidAll W) : Ktab W := by
  rw [MakeChecks.laidMetH_plain _ _ _ (by kernel_rfl)] at h
  have h2 := h.tail.tail
  rw [tabData1] at h2
  have h1 := Lib.tabIs_of_head gTab tTab Tryd.underlying82 Tryd.underlying67 tTab_e tTab_t h2
  unfold Lib.TabIs World.var? at h1
  rw [gTab] at h1
  simp only [Option.bind_some] at h1
  cases hh : W.heap[0]? with
  | none => rw [hh] at h1; simp at h1
  | some o =>
    rw [hh] at h1
    cases o with
    | cells cs t fr =>
      simp only [Option.some.injEq] at h1
      subst h1
      refine ⟨t, fr, ?_⟩
      rw [hh, List.map_map]
      rfl
    | _ => simp at h1
theorem tPow : (Tryd.prog.globals[1]?).map (·.type) = some 92 := by kernel_rfl
theorem tPow_e : Tryd.prog.cellsOf 78 = 1 := by kernel_rfl
theorem tPow_t : Tryd.prog.cellsOf 92 = 20 := by kernel_rfl
theorem powData : (Rows.laid_internal_strconv_uint64pow10 : DataW Unit) = Lib.tabData .u64 Lib.pow10Tab := by kernel_rfl
theorem tabs_of_laid {W : World} (h : laidMetH Tryd.prog laidAll W) : Lay.Tabs W := by
  rw [MakeChecks.laidMetH_plain _ _ _ (by kernel_rfl)] at h
  have h2 := h.tail.tail.tail
  rw [powData] at h2
  exact Lib.tabIs_of_head Lay.gPow tPow Tryd.underlying92 Tryd.underlying78 tPow_e tPow_t h2

end Go.Proofs.YtfkfjopjnfeahaaDoor
