/-
  What must come at any rate: the law's awake answers true.
-/
import Derived.Test.YtfigbgpfkhcpcaaImd
namespace Go.Proofs.Ytfigbgpfkhcpcaa.Kn
open Go Go.RowKit
set_option maxRecDepth 100000

def tg5 : List UInt8 := 5 :: List.replicate 31 0
def ln1 : Ln := ⟨1, 1, [0, 1], tg5⟩
def ln2 : Ln := ⟨1, 1, [1], List.replicate 32 0⟩
theorem a_1 : learnE 2 [] ln1 = 0 := by kernel_rfl
theorem a_2 : learnL 2 [] ln1 = [ln1] := by kernel_rfl
theorem a_3 : learnE 2 [ln1] ln2 = 8 := by kernel_rfl
theorem a_4 : learnL 2 [ln1] ln2 = [ln1] := by kernel_rfl
theorem a_5 : longL [ln1] = [0, 1] := by kernel_rfl
theorem a_6 : (topL [ln1]).byc = 1 := by kernel_rfl
theorem a_7 : (topL [ln1]).tag = tg5 := by kernel_rfl
theorem a_8 : stL 2 0 [ln1] = [0, 1] := by kernel_rfl
theorem a_9 : cutN 2 0 [ln1] = 0 := by kernel_rfl
theorem a_10 : seenN 2 0 [ln1] = 1 := by kernel_rfl
theorem build_tg5 (W : World) : (Instr.build 32 #[(0, .int .u8 5)]).run Try.prog W = .ok (.agg (dg tg5).toArray) W := by kernel_rfl
theorem ints_row {w : World} {g : Nat} {l : List Int} (cap : Nat) (h : w.heap[g]? = some (.cells (ic l).toArray 3)) : IntsAt w (.slice (some ⟨g, 0, none⟩) l.length cap) l := ⟨_, cap, rfl, fun _ => ⟨g, 0, rfl, ic_at h⟩⟩
end Go.Proofs.Ytfigbgpfkhcpcaa.Kn
