/-
  HistCounts answers true: which histories may be, counts, places and beginnings as the reference has them.
-/
import Derived.Test.YtpgelodcdclchaaHlw
import Derived.Test.YtpgelodcdclchaaHref
import Derived.BigQuiet
namespace Go.Proofs.Ytpgelodcdclchaa.Hist
open Go Go.RowKit
set_option maxRecDepth 100000

theorem below_drawn {B : Nat} {w w' : World} (h : Below B w w') (n : Nat) : Below B w (w'.drewN n) := ⟨h.os, h.tape, h.output, h.size, h.block⟩
set_option maxHeartbeats 4000000 in
theorem counts_walk (a : List UInt8) (m c n : Int) (w : World) : Calls Try.prog 3 #[.agg #[.string ⟨a.toArray⟩, .int .i64 m, .int .i64 c, .int .i64 n]] w fun e w' => e = .returned (.bool true) ∧ Below w.heap.size w w' := by
  have HWa := hid (fun W => few_any a W)
  have hx : (a.take 700).length ≤ 700 := by rw [List.length_take]; omega
  generalize a.take 700 = x at *
  have HA := hid (fun W => awake_any W)
  have H1 := hid (fun W => right_any x m W)
  have H2 := hid (fun W => rright_any x m W)
  have H3 := hid (fun W => count_any x (by omega) c W)
  have H4 := hid (fun W => rcount_any x (by omega) c W)
  have H5 := hid (fun W => place_any x (by omega) c n W)
  have H6 := hid (fun W => rplace_any x (by omega) c n W)
  have H7 := hid (fun W => upto_any x (by omega) c W)
  have H8 := hid (fun W => rupto_any x (by omega) c W)
  generalize rightB x m = r1 at *
  generalize cnt x c = r2 at *
  generalize placeI x c n = r3 at *
  generalize uptoL x c = r4 at *
  clear hx
  have HT := hid (top_obj w (.cells #[.string ⟨a.toArray⟩, .int .i64 m, .int .i64 c, .int .i64 n] 23))
  have HB0 : Hid (Below w.heap.size w (w.alloc (.cells #[.string ⟨a.toArray⟩, .int .i64 m, .int .i64 c, .int .i64 n] 23))) := (Below.refl _ w).alloc (Nat.le_refl _) _
  go_enter Try.func3, Try.ntmps3
  go_wp2
  generalize w.alloc (.cells #[.string ⟨a.toArray⟩, .int .i64 m, .int .i64 c, .int .i64 n] 23) = W0 at *
  have c0 : W0.cell? ⟨w.heap.size, 0, none⟩ = some (.string ⟨a.toArray⟩) := by rw [cell_of_row _ _ _ _ _ _ HT.out]; rfl
  have c1 : W0.cell? ⟨w.heap.size, 1, none⟩ = some (.int .i64 m) := by rw [cell_of_row _ _ _ _ _ _ HT.out]; rfl
  have c2 : W0.cell? ⟨w.heap.size, 2, none⟩ = some (.int .i64 c) := by rw [cell_of_row _ _ _ _ _ _ HT.out]; rfl
  have c3 : W0.cell? ⟨w.heap.size, 3, none⟩ = some (.int .i64 n) := by rw [cell_of_row _ _ _ _ _ _ HT.out]; rfl
  clear HT
  go_quiet (first | (go_at_call 9; refine Calls.quiet_of_same (HWa.out _)))
  have HB1 := hid (below_drawn HB0.out nq)
  generalize W0.drewN nq = W1 at *
  clear c0 c1 c2 c3 HB0 HWa
  go_wp2_with fail
  refine (HA.out _).mono ?_
  rintro e w2 ⟨rfl, hb⟩
  have HB2 := hid (below_two HB1.out hb)
  clear hb HB1
  go_wp2_with fail
  refine (H1.out _).mono ?_
  rintro e w3 ⟨rfl, hb⟩
  have HB3 := hid (below_two HB2.out hb)
  clear hb HB2
  go_wp2_with fail
  refine (H2.out _).mono ?_
  rintro e v4 ⟨rfl, hw⟩
  subst v4
  go_wp2_with fail
  refine (H3.out _).mono ?_
  rintro e w5 ⟨rfl, hb⟩
  have HB5 := hid (below_two HB3.out hb)
  clear hb HB3
  go_wp2_with fail
  refine (H4.out _).mono ?_
  rintro e v6 ⟨rfl, hw⟩
  subst v6
  go_wp2_with fail
  refine (H5.out _).mono ?_
  rintro e w7 ⟨rfl, hb⟩
  have HB7 := hid (below_two HB5.out hb)
  clear hb HB5
  go_wp2_with fail
  refine (H6.out _).mono ?_
  rintro e v8 ⟨rfl, hw⟩
  subst v8
  go_wp2_with fail
  refine (H7.out _).mono ?_
  rintro e w9 ⟨rfl, hb⟩
  have HB9 := hid (below_two HB7.out hb)
  clear hb HB7
  go_wp2_with fail
  refine (H8.out _).mono ?_
  rintro e v10 ⟨rfl, hw⟩
  subst v10
  go_wp2
  go_ret
  exact ⟨rfl, HB9.out⟩
end Go.Proofs.Ytpgelodcdclchaa.Hist
