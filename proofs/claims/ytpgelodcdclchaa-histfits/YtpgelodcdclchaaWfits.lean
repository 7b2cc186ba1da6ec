/-
  HistFits answers true: goes, fits and longer ones as the reference has them.
-/
import Derived.Test.YtpgelodcdclchaaHlw
import Derived.Test.YtpgelodcdclchaaHref
import Derived.BigQuiet
namespace Go.Proofs.Ytpgelodcdclchaa.Hist
open Go Go.RowKit
set_option maxRecDepth 100000

set_option maxHeartbeats 4000000 in
theorem fits_walk (a b : List UInt8) (w : World) : Calls Try.prog 4 #[.string ⟨a.toArray⟩, .string ⟨b.toArray⟩] w fun e w' => e = .returned (.bool true) ∧ Below w.heap.size w w' := by
  have HWa := hid (fun W => few_any a W)
  have HWb := hid (fun W => few_any b W)
  have hx : (a.take 700).length ≤ 700 := by rw [List.length_take]; omega
  have hy : (b.take 700).length ≤ 700 := by rw [List.length_take]; omega
  generalize a.take 700 = x at *
  generalize b.take 700 = y at *
  have HA := hid (fun W => awake_any W)
  have H1 := hid (fun W => goes_any x y W)
  have H2 := hid (fun W => rgoes_any x y (by omega) W)
  have H3 := hid (fun W => fit_any x y W)
  have H4 := hid (fun W => rfit_any x y (by omega) (by omega) W)
  have H5 := hid (fun W => longer_any x y (by omega) (by omega) W)
  have H6 := hid (fun W => rlonger_any x y (by omega) W)
  generalize goesB x y = r1 at *
  generalize fitB x y = r2 at *
  generalize longerL x y = r3 at *
  clear hx hy
  have HB0 := hid (Below.refl w.heap.size w)
  go_enter Try.func4, Try.ntmps4
  go_wp2_with fail
  refine (HWa.out _).mono ?_
  rintro e v1 ⟨rfl, hw⟩
  subst v1
  go_wp2_with fail
  refine (HWb.out _).mono ?_
  rintro e v2 ⟨rfl, hw⟩
  subst v2
  go_wp2_with fail
  refine (HA.out _).mono ?_
  rintro e w3 ⟨rfl, hb⟩
  have HB3 := hid (below_two HB0.out hb)
  clear hb HB0
  go_wp2_with fail
  refine (H1.out _).mono ?_
  rintro e v4 ⟨rfl, hw⟩
  subst v4
  go_wp2_with fail
  refine (H2.out _).mono ?_
  rintro e w5 ⟨rfl, hb⟩
  have HB5 := hid (below_two HB3.out hb)
  clear hb HB3
  go_wp2_with fail
  refine (H3.out _).mono ?_
  rintro e v6 ⟨rfl, hw⟩
  subst v6
  go_wp2_with fail
  refine (H4.out _).mono ?_
  rintro e w7 ⟨rfl, hb⟩
  have HB7 := hid (below_two HB5.out hb)
  clear hb HB5
  go_wp2_with fail
  refine (H5.out _).mono ?_
  rintro e w8 ⟨rfl, hb⟩
  have HB8 := hid (below_two HB7.out hb)
  clear hb HB7
  go_wp2_with fail
  refine (H6.out _).mono ?_
  rintro e w9 ⟨rfl, hb⟩
  have HB9 := hid (below_two HB8.out hb)
  clear hb HB8
  go_wp2
  go_ret
  exact ⟨rfl, HB9.out⟩
end Go.Proofs.Ytpgelodcdclchaa.Hist
