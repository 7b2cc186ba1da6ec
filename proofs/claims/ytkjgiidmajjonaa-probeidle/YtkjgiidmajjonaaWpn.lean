/-
  The walk of ProbeNone, over what a nil prober answers.
-/
import Derived.Test.YtkjgiidmajjonaaWpa
namespace Go.Proofs.Ytkjgiidmajjonaa.Kn
open Go Go.RowKit
set_option maxRecDepth 100000

set_option maxHeartbeats 4000000 in
theorem pnone_core {w : World} (n : Int) (b : Bool)
    (HA : Hid (∀ W, Calls Try.prog 9 #[] W fun e w' => e = .returned (.bool true) ∧ Below W.heap.size W w'))
    (HT : Hid (∀ W, Calls Try.prog 17 #[.pointer none, .bool b] W fun e w' => e = .returned (.tuple #[.slice none 0 0, nu (-1)]) ∧ Below W.heap.size W w'))
    (HH : Hid (∀ W, Calls Try.prog 15 #[.pointer none, nu n] W fun e w' => e = .returned (.bool false) ∧ Below W.heap.size W w'))
    (HS : Hid (∀ W, Calls Try.prog 16 #[.pointer none] W fun e w' => e = .returned (.bool false) ∧ Below W.heap.size W w'))
    (HX : Hid (∀ W, Calls Try.prog 12 #[.pointer none] W fun e w' => e = .returned (nu 0) ∧ Below W.heap.size W w'))
    (HD : Hid (∀ W, Calls Try.prog 14 #[.pointer none, nu n] W fun e w' => e = .returned (nu 0) ∧ Below W.heap.size W w')) :
    Calls Try.prog 7 #[nu n, .bool b] w fun e w' => e = .returned (.bool true) ∧ Below w.heap.size w w' := by
  go_enter Try.func7, Try.ntmps7
  go_wp2_with fail
  refine (HT.out _).mono ?_
  rintro e W1 ⟨rfl, bb⟩
  have B1 := hid bb
  clear bb
  go_wp2_with fail
  refine (HA.out _).mono ?_
  rintro e W2 ⟨rfl, bb⟩
  have B2 := hid (below_twoY B1.out bb B1.out.size)
  clear bb B1
  go_wp2_with fail
  refine (HH.out _).mono ?_
  rintro e W3 ⟨rfl, bb⟩
  have B3 := hid (below_twoY B2.out bb B2.out.size)
  clear bb B2
  go_wp2_with fail
  refine (HS.out _).mono ?_
  rintro e W4 ⟨rfl, bb⟩
  have B4 := hid (below_twoY B3.out bb B3.out.size)
  clear bb B3
  go_wp2_with fail
  refine (HX.out _).mono ?_
  rintro e W5 ⟨rfl, bb⟩
  have B5 := hid (below_twoY B4.out bb B4.out.size)
  clear bb B4
  go_wp2_with fail
  refine (HD.out _).mono ?_
  rintro e W6 ⟨rfl, bb⟩
  have B6 := hid (below_twoY B5.out bb B5.out.size)
  clear bb B5
  go_wp2
  go_ret
  exact ⟨rfl, B6.out⟩
end Go.Proofs.Ytkjgiidmajjonaa.Kn
