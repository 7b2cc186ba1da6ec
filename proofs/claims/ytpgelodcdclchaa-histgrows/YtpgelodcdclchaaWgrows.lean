/-
  HistGrows answers true: a history that goes on another one has the other one's operations at their places.
-/
import Derived.Test.YtpgelodcdclchaaHlw
import Derived.Test.YtpgelodcdclchaaHpg
namespace Go.Proofs.Ytpgelodcdclchaa.Hist
open Go Go.RowKit
set_option maxRecDepth 100000

theorem str_app (x y : List UInt8) : (⟨x.toArray⟩ ++ ⟨y.toArray⟩ : ByteArray) = ⟨(x ++ y).toArray⟩ := by
  apply ByteArray.ext
  simp

set_option maxHeartbeats 4000000 in
theorem grows_walk (a b : List UInt8) (c : Int) (w : World) : Calls Try.prog 7 #[.string ⟨a.toArray⟩, .string ⟨b.toArray⟩, .int .i64 c] w fun e w' => e = .returned (.bool true) ∧ Below w.heap.size w w' := by
  have HWa := hid (fun W => few_any a W)
  have HWb := hid (fun W => few_any b W)
  have hx : (a.take 700).length ≤ 700 := by rw [List.length_take]; omega
  have hy : (b.take 700).length ≤ 700 := by rw [List.length_take]; omega
  generalize a.take 700 = x at *
  generalize b.take 700 = y at *
  have happ := str_app x y
  have hg : (x ++ y).length ≤ 1400 := by rw [List.length_append]; omega
  have HA := hid (fun W => awake_any W)
  have HGg := hid (fun W => goes_any (x ++ y) x W)
  rw [app_goes] at HGg
  have HCg := hid (fun W => count_any (x ++ y) (by omega) c W)
  rw [cnt_append] at HCg
  have HCx := hid (fun W => count_any x (by omega) c W)
  have HCy := hid (fun W => count_any y (by omega) c W)
  have HPg := hid (fun n W => place_any (x ++ y) (by omega) c n W)
  have HPx := hid (fun n W => place_any x (by omega) c n W)
  have HPe := hid (fun n h1 h2 => place_app x y c n h1 h2)
  have HUx := hid (fun W => upto_any x (by omega) c W)
  have HUg := hid (fun W => upto_any (x ++ y) (by omega) c W)
  have HUe := hid (upto_app x y c)
  have hul := upto_len x c
  have HGu := hid (fun W => goes_any x (uptoL x c) W)
  rw [upto_goes] at HGu
  have HCu := hid (fun W => count_any (uptoL x c) (by omega) c W)
  rw [upto_cnt] at HCu
  have hN1 : cnt x c ≤ 700 := Nat.le_trans (cnt_le x c) hx
  have hN2 : cnt y c ≤ 700 := Nat.le_trans (cnt_le y c) hy
  have hsx : (⟨x.toArray⟩ : ByteArray).size = x.length := rfl
  have hsy : (⟨y.toArray⟩ : ByteArray).size = y.length := rfl
  generalize cnt x c = N1 at *
  generalize cnt y c = N2 at *
  generalize uptoL x c = u at *
  generalize uptoL (x ++ y) c = u2 at *
  have hnq : (((N1 + N2 : Nat) : Int) != (N1 : Int) + (N2 : Int)) = false := by simp
  have HB0 := hid (Below.refl w.heap.size w)
  clear hul
  go_enter Try.func7, Try.ntmps7
  go_wp2_with fail
  refine (HWa.out _).mono ?_
  rintro e v1 ⟨rfl, hw⟩
  subst v1
  go_wp2_with fail
  refine (HWb.out _).mono ?_
  rintro e v2 ⟨rfl, hw⟩
  subst v2
  go_wp2_with fail
  clear happ
  generalize x ++ y = g at *
  refine (HA.out _).mono ?_
  rintro e w1 ⟨rfl, hb⟩
  have HB1 := hid (below_two HB0.out hb)
  clear hb
  go_wp2_with fail
  refine (HGg.out _).mono ?_
  rintro e v2 ⟨rfl, hw⟩
  subst v2
  go_wp2_with fail
  refine (HCg.out _).mono ?_
  rintro e w3 ⟨rfl, hb⟩
  have HB3 := hid (below_two HB1.out hb)
  clear hb
  go_wp2_with fail
  refine (HCx.out _).mono ?_
  rintro e w4 ⟨rfl, hb⟩
  have HB4 := hid (below_two HB3.out hb)
  clear hb
  go_wp2_with fail
  refine (HCy.out _).mono ?_
  rintro e w5 ⟨rfl, hb⟩
  have HB5 := hid (below_two HB4.out hb)
  clear hb
  go_wp2
  go_loopw [8] (fun v w' => ∃ n : Nat, 1 ≤ n ∧ n ≤ 40 ∧ v = .int .i64 n ∧ Hid (Below w.heap.size w w')) (fun v _ => 40 - (intOf v).toNat)
  case atStart => exact ⟨1, by omega, by omega, rfl, HB5.out⟩
  case round =>
    obtain ⟨n, hn1, hn2, rfl, HBr⟩ := hrel
    by_cases hle : n ≤ N1
    · have d1 : decide ((n : Int) ≤ (N1 : Int)) = true := decide_eq_true (by omega)
      have d1' : decide (n ≤ N1) = true := decide_eq_true hle
      by_cases hlt : n < 40
      · have d2 : decide ((n : Int) < 40) = true := decide_eq_true (by omega)
        have d2' : decide (n < 40) = true := decide_eq_true hlt
        have HPn := hid (HPg.out n)
        rw [HPe.out n hn1 hle] at HPn
        have HQn := hid (HPx.out n)
        generalize placeI x c n = P at *
        have HL := hid hlt
        clear hle hlt HPg HPx HPe HUx HUg HUe HGu HCu HCy HCg HA HGg
        go_wp2_with fail
        refine (HCx.out _).mono ?_
        rintro e w21 ⟨rfl, hb⟩
        have HB21 := hid (below_two HBr.out hb)
        clear hb
        go_wp2_with fail
        refine (HPn.out _).mono ?_
        rintro e w22 ⟨rfl, hb⟩
        have HB22 := hid (below_two HB21.out hb)
        clear hb
        go_wp2_with fail
        refine (HQn.out _).mono ?_
        rintro e w23 ⟨rfl, hb⟩
        have HB23 := hid (below_two HB22.out hb)
        clear hb
        go_wp2
        have hlt := HL.out
        exact ⟨⟨n + 1, by omega, by omega, by go_num, HB23.out⟩, by simp [intOf]; omega⟩
      · have d2 : decide ((n : Int) < 40) = false := decide_eq_false (by omega)
        have d2' : decide (n < 40) = false := decide_eq_false hlt
        clear hle hlt HPg HPx HPe HCg HA HGg
        by_cases h0 : N2 = 0
        · have dz : decide (0 < (N2 : Int)) = false := decide_eq_false (by omega)
          have dz' : decide (0 < N2) = false := decide_eq_false (by omega)
          have HU := hid (fun W => HUg.out W)
          rw [HUe.out h0] at HU
          clear h0 HUe HUg
          go_wp2_with fail
          refine (HCx.out _).mono ?_
          rintro e w21 ⟨rfl, hb⟩
          have HB21 := hid (below_two HBr.out hb)
          clear hb
          go_wp2_with fail
          refine (HUx.out _).mono ?_
          rintro e w22 ⟨rfl, hb⟩
          have HB22 := hid (below_two HB21.out hb)
          clear hb
          go_wp2_with fail
          refine (HGu.out _).mono ?_
          rintro e v23 ⟨rfl, hw⟩
          subst v23
          go_wp2_with fail
          refine (HCu.out _).mono ?_
          rintro e w24 ⟨rfl, hb⟩
          have HB24 := hid (below_two HB22.out hb)
          clear hb
          go_wp2_with fail
          refine (HCx.out _).mono ?_
          rintro e w25 ⟨rfl, hb⟩
          have HB25 := hid (below_two HB24.out hb)
          clear hb
          go_wp2_with fail
          refine (HCy.out _).mono ?_
          rintro e w26 ⟨rfl, hb⟩
          have HB26 := hid (below_two HB25.out hb)
          clear hb
          go_wp2_with fail
          refine (HU.out _).mono ?_
          rintro e w27 ⟨rfl, hb⟩
          have HB27 := hid (below_two HB26.out hb)
          clear hb
          go_wp2
          go_ret
          exact ⟨rfl, HB27.out⟩
        · have dz : decide (0 < (N2 : Int)) = true := decide_eq_true (by omega)
          have dz' : decide (0 < N2) = true := decide_eq_true (by omega)
          clear HUe HUg
          go_wp2_with fail
          refine (HCx.out _).mono ?_
          rintro e w21 ⟨rfl, hb⟩
          have HB21 := hid (below_two HBr.out hb)
          clear hb
          go_wp2_with fail
          refine (HUx.out _).mono ?_
          rintro e w22 ⟨rfl, hb⟩
          have HB22 := hid (below_two HB21.out hb)
          clear hb
          go_wp2_with fail
          refine (HGu.out _).mono ?_
          rintro e v23 ⟨rfl, hw⟩
          subst v23
          go_wp2_with fail
          refine (HCu.out _).mono ?_
          rintro e w24 ⟨rfl, hb⟩
          have HB24 := hid (below_two HB22.out hb)
          clear hb
          go_wp2_with fail
          refine (HCx.out _).mono ?_
          rintro e w25 ⟨rfl, hb⟩
          have HB25 := hid (below_two HB24.out hb)
          clear hb
          go_wp2_with fail
          refine (HCy.out _).mono ?_
          rintro e w26 ⟨rfl, hb⟩
          have HB26 := hid (below_two HB25.out hb)
          clear hb
          go_wp2
          go_ret
          exact ⟨rfl, HB26.out⟩
    · have d1 : decide ((n : Int) ≤ (N1 : Int)) = false := decide_eq_false (by omega)
      have d1' : decide (n ≤ N1) = false := decide_eq_false hle
      clear hle HPg HPx HPe HCg HA HGg
      by_cases h0 : N2 = 0
      · have dz : decide (0 < (N2 : Int)) = false := decide_eq_false (by omega)
        have dz' : decide (0 < N2) = false := decide_eq_false (by omega)
        have HU := hid (fun W => HUg.out W)
        rw [HUe.out h0] at HU
        clear h0 HUe HUg
        go_wp2_with fail
        refine (HCx.out _).mono ?_
        rintro e w21 ⟨rfl, hb⟩
        have HB21 := hid (below_two HBr.out hb)
        clear hb
        go_wp2_with fail
        refine (HUx.out _).mono ?_
        rintro e w22 ⟨rfl, hb⟩
        have HB22 := hid (below_two HB21.out hb)
        clear hb
        go_wp2_with fail
        refine (HGu.out _).mono ?_
        rintro e v23 ⟨rfl, hw⟩
        subst v23
        go_wp2_with fail
        refine (HCu.out _).mono ?_
        rintro e w24 ⟨rfl, hb⟩
        have HB24 := hid (below_two HB22.out hb)
        clear hb
        go_wp2_with fail
        refine (HCx.out _).mono ?_
        rintro e w25 ⟨rfl, hb⟩
        have HB25 := hid (below_two HB24.out hb)
        clear hb
        go_wp2_with fail
        refine (HCy.out _).mono ?_
        rintro e w26 ⟨rfl, hb⟩
        have HB26 := hid (below_two HB25.out hb)
        clear hb
        go_wp2_with fail
        refine (HU.out _).mono ?_
        rintro e w27 ⟨rfl, hb⟩
        have HB27 := hid (below_two HB26.out hb)
        clear hb
        go_wp2
        go_ret
        exact ⟨rfl, HB27.out⟩
      · have dz : decide (0 < (N2 : Int)) = true := decide_eq_true (by omega)
        have dz' : decide (0 < N2) = true := decide_eq_true (by omega)
        clear HUe HUg
        go_wp2_with fail
        refine (HCx.out _).mono ?_
        rintro e w21 ⟨rfl, hb⟩
        have HB21 := hid (below_two HBr.out hb)
        clear hb
        go_wp2_with fail
        refine (HUx.out _).mono ?_
        rintro e w22 ⟨rfl, hb⟩
        have HB22 := hid (below_two HB21.out hb)
        clear hb
        go_wp2_with fail
        refine (HGu.out _).mono ?_
        rintro e v23 ⟨rfl, hw⟩
        subst v23
        go_wp2_with fail
        refine (HCu.out _).mono ?_
        rintro e w24 ⟨rfl, hb⟩
        have HB24 := hid (below_two HB22.out hb)
        clear hb
        go_wp2_with fail
        refine (HCx.out _).mono ?_
        rintro e w25 ⟨rfl, hb⟩
        have HB25 := hid (below_two HB24.out hb)
        clear hb
        go_wp2_with fail
        refine (HCy.out _).mono ?_
        rintro e w26 ⟨rfl, hb⟩
        have HB26 := hid (below_two HB25.out hb)
        clear hb
        go_wp2
        go_ret
        exact ⟨rfl, HB26.out⟩
end Go.Proofs.Ytpgelodcdclchaa.Hist
