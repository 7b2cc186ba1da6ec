/-
  NonceNone answers true: a nil allocator has nothing, and there is none without a cell.
-/
import Derived.Test.YtnhnjdldgaaeoaaDoorNaw
namespace Go.Proofs.YtnhnjdldgaaeoaaDoor
open Go Go.RowKit
set_option maxRecDepth 100000

set_option maxHeartbeats 2000000 in
theorem none_walk (w : World) (ht : Lay.Tabs w) (n : Int) : Calls Tryd.prog 6 #[.int .i64 n] w fun e w' => e = .returned (.bool true) ∧ Below w.heap.size w w' := by
  have HA := hid (nawake_any w ht)
  clear ht
  go_enter Tryd.func6, Tryd.ntmps6
  go_wp2_with fail
  refine (take_nil _).mono ?_
  rintro e W ⟨rfl, hW⟩
  subst W
  go_wp2_with fail
  refine (some_nil _ n).mono ?_
  rintro e W ⟨rfl, hW⟩
  subst W
  go_wp2_with fail
  refine (nopen_nil _).mono ?_
  rintro e W ⟨rfl, hW⟩
  subst W
  go_wp2_with fail
  refine HA.out.mono ?_
  rintro e w1 ⟨rfl, hb1⟩
  have HB1 := hid hb1
  clear hb1 HA
  go_wp2_with fail
  refine (anext_nil _).mono ?_
  rintro e W ⟨rfl, hW⟩
  subst W
  go_wp2_with fail
  refine (limit_nil _).mono ?_
  rintro e W ⟨rfl, hW⟩
  subst W
  go_wp2
  go_ret
  exact ⟨rfl, HB1.out⟩
end Go.Proofs.YtnhnjdldgaaeoaaDoor
