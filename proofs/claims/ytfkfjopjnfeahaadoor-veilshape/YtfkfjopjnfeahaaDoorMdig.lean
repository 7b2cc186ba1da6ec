/-
  What mac.Digest answers at any string.
-/
import Derived.Test.YtfkfjopjnfeahaaDoorMref
namespace Go.Proofs.YtfkfjopjnfeahaaDoor
open Go Go.RowKit
set_option maxRecDepth 100000

theorem results_row_tmp {P : Program} {fn : Func} {p u : Tmp} {ty : TypeId} (h : fn.results = #[.cell p ty, .tmp u]) (tmps : Array Value) (w : World) (g : Nat) (t : TypeId) (cs : Array Value) (fr : Nat × Nat) (d : TypeDesc)
    (hp : tmps.getD p undef = .pointer (some ⟨g, 0, none⟩)) (hg : w.heap[g]? = some (.cells cs t fr))
    (hu : P.underlying ty = some d) (hd : (match d with | .struct _ | .array _ _ => true | _ => false) = true) (hi : (P.info? ty).map (·.size) = some cs.size) :
    (results fn tmps).run P w = .ok (.tuple #[.agg cs, tmps.getD u undef]) w := by
  have hp' : tmps[p]?.getD undef = .pointer (some ⟨g, 0, none⟩) := by simpa using hp
  simp [results, h, hp', asAddr, run_loadVar_row w g t ty cs fr d hg hu hd hi]

/-- The error that mac.Digest tells of so many bytes. -/
def digErr (n : Nat) : Int := if n < 32 then 5 else if 32 < n then 6 else 0
/-- The bytes that it answers. -/
def digOut (l : List UInt8) : List UInt8 := if l.length = 32 then l else List.replicate 32 0
theorem digOut_len (l : List UInt8) : (digOut l).length = 32 := by
  unfold digOut; split
  · assumption
  · simp

end Go.Proofs.YtfkfjopjnfeahaaDoor
