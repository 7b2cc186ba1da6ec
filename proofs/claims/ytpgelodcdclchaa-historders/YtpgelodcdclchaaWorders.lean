/-
  HistOrders answers true: going on is an order; two that one goes on fit; the longer one goes on both.
-/
import Derived.Test.YtpgelodcdclchaaHlw
import Derived.Test.YtpgelodcdclchaaHref
import Derived.BigQuiet
namespace Go.Proofs.Ytpgelodcdclchaa.Hist
open Go Go.RowKit
set_option maxRecDepth 100000

theorem goes_anti {x y : List UInt8} (h1 : goesB x y = true) (h2 : goesB y x = true) : x = y :=
  ((goes_pre y x).1 h2).eq_of_length_le ((goes_pre x y).1 h1).length_le
theorem goes_refl (x : List UInt8) : goesB x x = true := (goes_pre x x).2 (List.prefix_refl x)
theorem goes_trans {x y z : List UInt8} (h1 : goesB x y = true) (h2 : goesB y z = true) : goesB x z = true := (goes_pre x z).2 (((goes_pre y z).1 h2).trans ((goes_pre x y).1 h1))
theorem goes_fit {x y z : List UInt8} (h1 : goesB x y = true) (h2 : goesB x z = true) : fitB y z = true := fit_both ((goes_pre x y).1 h1) ((goes_pre x z).1 h2)
set_option maxHeartbeats 4000000 in
theorem orders_walk (a b c : List UInt8) (w : World) : Calls Try.prog 6 #[.string ⟨a.toArray⟩, .string ⟨b.toArray⟩, .string ⟨c.toArray⟩] w fun e w' => e = .returned (.bool true) ∧ Below w.heap.size w w' := by
  have HWa := hid (fun W => few_any a W)
  have HWb := hid (fun W => few_any b W)
  have HWc := hid (fun W => few_any c W)
  have hx : (a.take 700).length ≤ 700 := by rw [List.length_take]; omega
  have hy : (b.take 700).length ≤ 700 := by rw [List.length_take]; omega
  generalize a.take 700 = x at *
  generalize b.take 700 = y at *
  generalize c.take 700 = z at *
  have HA := hid (fun W => awake_any W)
  have HG := hid (fun u v W => goes_any u v W)
  have HF := hid (fun u v W => fit_any u v W)
  have HL := hid (fun W => longer_any x y (by omega) (by omega) W)
  have hxx := goes_refl x
  have hyy := goes_refl y
  clear hx hy
  have HB0 := hid (Below.refl w.heap.size w)
  cases hp : goesB x y with
  | true =>
    cases hq : goesB y x with
    | true =>
      have hxyF : fitB x y = true := by unfold fitB; rw [hp, hq]; rfl
      have hyxF : fitB y x = true := by unfold fitB; rw [hp, hq]; rfl
      have hlo : longerL x y = y := by unfold longerL; rw [hq]; rfl
      rw [hlo] at HL
      clear hlo
      have hxy := goes_anti hp hq
      subst hxy
      cases hr : goesB x z with
      | true =>
        have hf := goes_fit hp hr
        go_enter Try.func6, Try.ntmps6
        go_wp2_with fail
        refine (HWa.out _).mono ?_
        rintro e v1 ⟨rfl, hw⟩
        subst v1
        go_wp2_with fail
        refine (HWb.out _).mono ?_
        rintro e v2 ⟨rfl, hw⟩
        subst v2
        go_wp2_with fail
        refine (HWc.out _).mono ?_
        rintro e v3 ⟨rfl, hw⟩
        subst v3
        go_wp2_with fail
        refine (HG.out x x _).mono ?_
        rintro e v4 ⟨rfl, hw⟩
        subst v4
        go_wp2_with fail
        refine (HG.out x x _).mono ?_
        rintro e v5 ⟨rfl, hw⟩
        subst v5
        go_wp2_with fail
        refine (HG.out x x _).mono ?_
        rintro e v6 ⟨rfl, hw⟩
        subst v6
        go_wp2_with fail
        refine (HG.out x x _).mono ?_
        rintro e v7 ⟨rfl, hw⟩
        subst v7
        go_wp2_with fail
        refine (HG.out x z _).mono ?_
        rintro e v8 ⟨rfl, hw⟩
        subst v8
        go_wp2_with fail
        refine (HG.out x z _).mono ?_
        rintro e v9 ⟨rfl, hw⟩
        subst v9
        go_wp2_with fail
        refine (HG.out x x _).mono ?_
        rintro e v10 ⟨rfl, hw⟩
        subst v10
        go_wp2_with fail
        refine (HG.out x z _).mono ?_
        rintro e v11 ⟨rfl, hw⟩
        subst v11
        go_wp2_with fail
        refine (HF.out x z _).mono ?_
        rintro e v12 ⟨rfl, hw⟩
        subst v12
        go_wp2_with fail
        refine (HL.out _).mono ?_
        rintro e w13 ⟨rfl, hb⟩
        have HB13 := hid (below_two HB0.out hb)
        clear hb HB0
        go_wp2_with fail
        refine (HA.out _).mono ?_
        rintro e w14 ⟨rfl, hb⟩
        have HB14 := hid (below_two HB13.out hb)
        clear hb HB13
        go_wp2_with fail
        refine (HF.out x x _).mono ?_
        rintro e v15 ⟨rfl, hw⟩
        subst v15
        go_wp2_with fail
        refine (HF.out x x _).mono ?_
        rintro e v16 ⟨rfl, hw⟩
        subst v16
        go_wp2_with fail
        refine (HF.out x x _).mono ?_
        rintro e v17 ⟨rfl, hw⟩
        subst v17
        go_wp2_with fail
        refine (HG.out x x _).mono ?_
        rintro e v18 ⟨rfl, hw⟩
        subst v18
        go_wp2_with fail
        refine (HG.out x x _).mono ?_
        rintro e v19 ⟨rfl, hw⟩
        subst v19
        go_wp2
        go_ret
        exact ⟨rfl, HB14.out⟩
      | false =>
        go_enter Try.func6, Try.ntmps6
        go_wp2_with fail
        refine (HWa.out _).mono ?_
        rintro e v1 ⟨rfl, hw⟩
        subst v1
        go_wp2_with fail
        refine (HWb.out _).mono ?_
        rintro e v2 ⟨rfl, hw⟩
        subst v2
        go_wp2_with fail
        refine (HWc.out _).mono ?_
        rintro e v3 ⟨rfl, hw⟩
        subst v3
        go_wp2_with fail
        refine (HG.out x x _).mono ?_
        rintro e v4 ⟨rfl, hw⟩
        subst v4
        go_wp2_with fail
        refine (HG.out x x _).mono ?_
        rintro e v5 ⟨rfl, hw⟩
        subst v5
        go_wp2_with fail
        refine (HG.out x x _).mono ?_
        rintro e v6 ⟨rfl, hw⟩
        subst v6
        go_wp2_with fail
        refine (HG.out x x _).mono ?_
        rintro e v7 ⟨rfl, hw⟩
        subst v7
        go_wp2_with fail
        refine (HG.out x z _).mono ?_
        rintro e v8 ⟨rfl, hw⟩
        subst v8
        go_wp2_with fail
        refine (HG.out x x _).mono ?_
        rintro e v9 ⟨rfl, hw⟩
        subst v9
        go_wp2_with fail
        refine (HG.out x z _).mono ?_
        rintro e v10 ⟨rfl, hw⟩
        subst v10
        go_wp2_with fail
        refine (HL.out _).mono ?_
        rintro e w11 ⟨rfl, hb⟩
        have HB11 := hid (below_two HB0.out hb)
        clear hb HB0
        go_wp2_with fail
        refine (HA.out _).mono ?_
        rintro e w12 ⟨rfl, hb⟩
        have HB12 := hid (below_two HB11.out hb)
        clear hb HB11
        go_wp2_with fail
        refine (HF.out x x _).mono ?_
        rintro e v13 ⟨rfl, hw⟩
        subst v13
        go_wp2_with fail
        refine (HF.out x x _).mono ?_
        rintro e v14 ⟨rfl, hw⟩
        subst v14
        go_wp2_with fail
        refine (HF.out x x _).mono ?_
        rintro e v15 ⟨rfl, hw⟩
        subst v15
        go_wp2_with fail
        refine (HG.out x x _).mono ?_
        rintro e v16 ⟨rfl, hw⟩
        subst v16
        go_wp2_with fail
        refine (HG.out x x _).mono ?_
        rintro e v17 ⟨rfl, hw⟩
        subst v17
        go_wp2
        go_ret
        exact ⟨rfl, HB12.out⟩
    | false =>
      have hxyF : fitB x y = true := by unfold fitB; rw [hp, hq]; rfl
      have hyxF : fitB y x = true := by unfold fitB; rw [hp, hq]; rfl
      have hlo : longerL x y = x := by unfold longerL; rw [hq]; rfl
      rw [hlo] at HL
      clear hlo
      cases hr : goesB y z with
      | true =>
        cases hs : goesB x z with
        | true =>
          have hf := goes_fit hp hs
          go_enter Try.func6, Try.ntmps6
          go_wp2_with fail
          refine (HWa.out _).mono ?_
          rintro e v1 ⟨rfl, hw⟩
          subst v1
          go_wp2_with fail
          refine (HWb.out _).mono ?_
          rintro e v2 ⟨rfl, hw⟩
          subst v2
          go_wp2_with fail
          refine (HWc.out _).mono ?_
          rintro e v3 ⟨rfl, hw⟩
          subst v3
          go_wp2_with fail
          refine (HG.out x x _).mono ?_
          rintro e v4 ⟨rfl, hw⟩
          subst v4
          go_wp2_with fail
          refine (HG.out x y _).mono ?_
          rintro e v5 ⟨rfl, hw⟩
          subst v5
          go_wp2_with fail
          refine (HG.out y x _).mono ?_
          rintro e v6 ⟨rfl, hw⟩
          subst v6
          go_wp2_with fail
          refine (HG.out x y _).mono ?_
          rintro e v7 ⟨rfl, hw⟩
          subst v7
          go_wp2_with fail
          refine (HG.out y z _).mono ?_
          rintro e v8 ⟨rfl, hw⟩
          subst v8
          go_wp2_with fail
          refine (HG.out x z _).mono ?_
          rintro e v9 ⟨rfl, hw⟩
          subst v9
          go_wp2_with fail
          refine (HG.out x y _).mono ?_
          rintro e v10 ⟨rfl, hw⟩
          subst v10
          go_wp2_with fail
          refine (HG.out x z _).mono ?_
          rintro e v11 ⟨rfl, hw⟩
          subst v11
          go_wp2_with fail
          refine (HF.out y z _).mono ?_
          rintro e v12 ⟨rfl, hw⟩
          subst v12
          go_wp2_with fail
          refine (HL.out _).mono ?_
          rintro e w13 ⟨rfl, hb⟩
          have HB13 := hid (below_two HB0.out hb)
          clear hb HB0
          go_wp2_with fail
          refine (HA.out _).mono ?_
          rintro e w14 ⟨rfl, hb⟩
          have HB14 := hid (below_two HB13.out hb)
          clear hb HB13
          go_wp2_with fail
          refine (HF.out x y _).mono ?_
          rintro e v15 ⟨rfl, hw⟩
          subst v15
          go_wp2_with fail
          refine (HF.out y x _).mono ?_
          rintro e v16 ⟨rfl, hw⟩
          subst v16
          go_wp2_with fail
          refine (HF.out x y _).mono ?_
          rintro e v17 ⟨rfl, hw⟩
          subst v17
          go_wp2_with fail
          refine (HG.out x x _).mono ?_
          rintro e v18 ⟨rfl, hw⟩
          subst v18
          go_wp2_with fail
          refine (HG.out x y _).mono ?_
          rintro e v19 ⟨rfl, hw⟩
          subst v19
          go_wp2
          go_ret
          exact ⟨rfl, HB14.out⟩
        | false =>
          rw [goes_trans hp hr] at hs; cases hs
      | false =>
        cases hs : goesB x z with
        | true =>
          have hf := goes_fit hp hs
          go_enter Try.func6, Try.ntmps6
          go_wp2_with fail
          refine (HWa.out _).mono ?_
          rintro e v1 ⟨rfl, hw⟩
          subst v1
          go_wp2_with fail
          refine (HWb.out _).mono ?_
          rintro e v2 ⟨rfl, hw⟩
          subst v2
          go_wp2_with fail
          refine (HWc.out _).mono ?_
          rintro e v3 ⟨rfl, hw⟩
          subst v3
          go_wp2_with fail
          refine (HG.out x x _).mono ?_
          rintro e v4 ⟨rfl, hw⟩
          subst v4
          go_wp2_with fail
          refine (HG.out x y _).mono ?_
          rintro e v5 ⟨rfl, hw⟩
          subst v5
          go_wp2_with fail
          refine (HG.out y x _).mono ?_
          rintro e v6 ⟨rfl, hw⟩
          subst v6
          go_wp2_with fail
          refine (HG.out x y _).mono ?_
          rintro e v7 ⟨rfl, hw⟩
          subst v7
          go_wp2_with fail
          refine (HG.out y z _).mono ?_
          rintro e v8 ⟨rfl, hw⟩
          subst v8
          go_wp2_with fail
          refine (HG.out x y _).mono ?_
          rintro e v9 ⟨rfl, hw⟩
          subst v9
          go_wp2_with fail
          refine (HG.out x z _).mono ?_
          rintro e v10 ⟨rfl, hw⟩
          subst v10
          go_wp2_with fail
          refine (HF.out y z _).mono ?_
          rintro e v11 ⟨rfl, hw⟩
          subst v11
          go_wp2_with fail
          refine (HL.out _).mono ?_
          rintro e w12 ⟨rfl, hb⟩
          have HB12 := hid (below_two HB0.out hb)
          clear hb HB0
          go_wp2_with fail
          refine (HA.out _).mono ?_
          rintro e w13 ⟨rfl, hb⟩
          have HB13 := hid (below_two HB12.out hb)
          clear hb HB12
          go_wp2_with fail
          refine (HF.out x y _).mono ?_
          rintro e v14 ⟨rfl, hw⟩
          subst v14
          go_wp2_with fail
          refine (HF.out y x _).mono ?_
          rintro e v15 ⟨rfl, hw⟩
          subst v15
          go_wp2_with fail
          refine (HF.out x y _).mono ?_
          rintro e v16 ⟨rfl, hw⟩
          subst v16
          go_wp2_with fail
          refine (HG.out x x _).mono ?_
          rintro e v17 ⟨rfl, hw⟩
          subst v17
          go_wp2_with fail
          refine (HG.out x y _).mono ?_
          rintro e v18 ⟨rfl, hw⟩
          subst v18
          go_wp2
          go_ret
          exact ⟨rfl, HB13.out⟩
        | false =>
          go_enter Try.func6, Try.ntmps6
          go_wp2_with fail
          refine (HWa.out _).mono ?_
          rintro e v1 ⟨rfl, hw⟩
          subst v1
          go_wp2_with fail
          refine (HWb.out _).mono ?_
          rintro e v2 ⟨rfl, hw⟩
          subst v2
          go_wp2_with fail
          refine (HWc.out _).mono ?_
          rintro e v3 ⟨rfl, hw⟩
          subst v3
          go_wp2_with fail
          refine (HG.out x x _).mono ?_
          rintro e v4 ⟨rfl, hw⟩
          subst v4
          go_wp2_with fail
          refine (HG.out x y _).mono ?_
          rintro e v5 ⟨rfl, hw⟩
          subst v5
          go_wp2_with fail
          refine (HG.out y x _).mono ?_
          rintro e v6 ⟨rfl, hw⟩
          subst v6
          go_wp2_with fail
          refine (HG.out x y _).mono ?_
          rintro e v7 ⟨rfl, hw⟩
          subst v7
          go_wp2_with fail
          refine (HG.out y z _).mono ?_
          rintro e v8 ⟨rfl, hw⟩
          subst v8
          go_wp2_with fail
          refine (HG.out x y _).mono ?_
          rintro e v9 ⟨rfl, hw⟩
          subst v9
          go_wp2_with fail
          refine (HG.out x z _).mono ?_
          rintro e v10 ⟨rfl, hw⟩
          subst v10
          go_wp2_with fail
          refine (HL.out _).mono ?_
          rintro e w11 ⟨rfl, hb⟩
          have HB11 := hid (below_two HB0.out hb)
          clear hb HB0
          go_wp2_with fail
          refine (HA.out _).mono ?_
          rintro e w12 ⟨rfl, hb⟩
          have HB12 := hid (below_two HB11.out hb)
          clear hb HB11
          go_wp2_with fail
          refine (HF.out x y _).mono ?_
          rintro e v13 ⟨rfl, hw⟩
          subst v13
          go_wp2_with fail
          refine (HF.out y x _).mono ?_
          rintro e v14 ⟨rfl, hw⟩
          subst v14
          go_wp2_with fail
          refine (HF.out x y _).mono ?_
          rintro e v15 ⟨rfl, hw⟩
          subst v15
          go_wp2_with fail
          refine (HG.out x x _).mono ?_
          rintro e v16 ⟨rfl, hw⟩
          subst v16
          go_wp2_with fail
          refine (HG.out x y _).mono ?_
          rintro e v17 ⟨rfl, hw⟩
          subst v17
          go_wp2
          go_ret
          exact ⟨rfl, HB12.out⟩
  | false =>
    cases hq : goesB y x with
    | true =>
      have hxyF : fitB x y = true := by unfold fitB; rw [hp, hq]; rfl
      have hyxF : fitB y x = true := by unfold fitB; rw [hp, hq]; rfl
      have hlo : longerL x y = y := by unfold longerL; rw [hq]; rfl
      rw [hlo] at HL
      clear hlo
      have hne : ¬ y = x := fun e => by rw [e, hxx] at hp; cases hp
      go_enter Try.func6, Try.ntmps6
      go_wp2_with fail
      refine (HWa.out _).mono ?_
      rintro e v1 ⟨rfl, hw⟩
      subst v1
      go_wp2_with fail
      refine (HWb.out _).mono ?_
      rintro e v2 ⟨rfl, hw⟩
      subst v2
      go_wp2_with fail
      refine (HWc.out _).mono ?_
      rintro e v3 ⟨rfl, hw⟩
      subst v3
      go_wp2_with fail
      refine (HG.out x x _).mono ?_
      rintro e v4 ⟨rfl, hw⟩
      subst v4
      go_wp2_with fail
      refine (HG.out x y _).mono ?_
      rintro e v5 ⟨rfl, hw⟩
      subst v5
      go_wp2_with fail
      refine (HG.out x y _).mono ?_
      rintro e v6 ⟨rfl, hw⟩
      subst v6
      go_wp2_with fail
      refine (HG.out x y _).mono ?_
      rintro e v7 ⟨rfl, hw⟩
      subst v7
      go_wp2_with fail
      refine (HL.out _).mono ?_
      rintro e w8 ⟨rfl, hb⟩
      have HB8 := hid (below_two HB0.out hb)
      clear hb HB0
      go_wp2_with fail
      refine (HA.out _).mono ?_
      rintro e w9 ⟨rfl, hb⟩
      have HB9 := hid (below_two HB8.out hb)
      clear hb HB8
      go_wp2_with fail
      refine (HF.out x y _).mono ?_
      rintro e v10 ⟨rfl, hw⟩
      subst v10
      go_wp2_with fail
      refine (HF.out y x _).mono ?_
      rintro e v11 ⟨rfl, hw⟩
      subst v11
      go_wp2_with fail
      refine (HF.out x y _).mono ?_
      rintro e v12 ⟨rfl, hw⟩
      subst v12
      go_wp2_with fail
      refine (HG.out y x _).mono ?_
      rintro e v13 ⟨rfl, hw⟩
      subst v13
      go_wp2_with fail
      refine (HG.out y y _).mono ?_
      rintro e v14 ⟨rfl, hw⟩
      subst v14
      go_wp2
      go_ret
      exact ⟨rfl, HB9.out⟩
    | false =>
      have hxyF : fitB x y = false := by unfold fitB; rw [hp, hq]; rfl
      have hyxF : fitB y x = false := by unfold fitB; rw [hp, hq]; rfl
      have hlo : longerL x y = x := by unfold longerL; rw [hq]; rfl
      rw [hlo] at HL
      clear hlo
      go_enter Try.func6, Try.ntmps6
      go_wp2_with fail
      refine (HWa.out _).mono ?_
      rintro e v1 ⟨rfl, hw⟩
      subst v1
      go_wp2_with fail
      refine (HWb.out _).mono ?_
      rintro e v2 ⟨rfl, hw⟩
      subst v2
      go_wp2_with fail
      refine (HWc.out _).mono ?_
      rintro e v3 ⟨rfl, hw⟩
      subst v3
      go_wp2_with fail
      refine (HG.out x x _).mono ?_
      rintro e v4 ⟨rfl, hw⟩
      subst v4
      go_wp2_with fail
      refine (HG.out x y _).mono ?_
      rintro e v5 ⟨rfl, hw⟩
      subst v5
      go_wp2_with fail
      refine (HG.out x y _).mono ?_
      rintro e v6 ⟨rfl, hw⟩
      subst v6
      go_wp2_with fail
      refine (HG.out x y _).mono ?_
      rintro e v7 ⟨rfl, hw⟩
      subst v7
      go_wp2_with fail
      refine (HL.out _).mono ?_
      rintro e w8 ⟨rfl, hb⟩
      have HB8 := hid (below_two HB0.out hb)
      clear hb HB0
      go_wp2_with fail
      refine (HA.out _).mono ?_
      rintro e w9 ⟨rfl, hb⟩
      have HB9 := hid (below_two HB8.out hb)
      clear hb HB8
      go_wp2_with fail
      refine (HF.out x y _).mono ?_
      rintro e v10 ⟨rfl, hw⟩
      subst v10
      go_wp2_with fail
      refine (HF.out y x _).mono ?_
      rintro e v11 ⟨rfl, hw⟩
      subst v11
      go_wp2_with fail
      refine (HF.out x y _).mono ?_
      rintro e v12 ⟨rfl, hw⟩
      subst v12
      go_wp2
      go_ret
      exact ⟨rfl, HB9.out⟩
end Go.Proofs.Ytpgelodcdclchaa.Hist
