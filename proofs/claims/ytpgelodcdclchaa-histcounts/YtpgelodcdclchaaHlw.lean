/-
  What the statements of histories ask first: few and awake.
-/
import Derived.Test.YtpgelodcdclchaaHfk
import Derived.Test.YtpgelodcdclchaaHri
namespace Go.Proofs.Ytpgelodcdclchaa.Hist
open Go Go.RowKit
set_option maxRecDepth 100000

set_option maxHeartbeats 2000000 in
theorem few_any (h : List UInt8) (w : World) : Calls Try.prog 9 #[.string ⟨h.toArray⟩] w fun e w' => e = .returned (.string ⟨(h.take 700).toArray⟩) ∧ w' = w := by
  have hss : (⟨h.toArray⟩ : ByteArray).size = h.length := rfl
  by_cases hl : 700 < h.length
  · have d1 : decide ((700 : Int) < (h.length : Int)) = true := decide_eq_true (by omega)
    have d2 : decide (700 < h.length) = true := decide_eq_true hl
    have hx := ext_take h 700
    generalize h.take 700 = t at *
    go_enter Try.func9, Try.ntmps9
    go_wp2
    go_ret
    exact ⟨rfl, rfl⟩
  · have d1 : decide ((700 : Int) < (h.length : Int)) = false := decide_eq_false (by omega)
    have d2 : decide (700 < h.length) = false := decide_eq_false hl
    rw [List.take_of_length_le (by omega)]
    clear hl
    go_enter Try.func9, Try.ntmps9
    go_wp2
    go_ret
    exact ⟨rfl, rfl⟩

set_option maxHeartbeats 4000000 in
theorem awake_any (w : World) : Calls Try.prog 10 #[] w fun e w' => e = .returned (.bool true) ∧ Below w.heap.size w w' := by
  have hs : StrsAt (w.alloc (.cells #[.string ⟨#[97]⟩, .string ⟨#[97, 98]⟩, .string ⟨#[98]⟩] 9)) (some ⟨w.heap.size, 0, none⟩) [[97], [97, 98], [98]] := fun _ => by
    refine ⟨w.heap.size, 0, rfl, fun j hj => ?_⟩
    rw [cell_of_row _ _ _ _ _ _ (top_obj w _)]
    match j, hj with
    | 0, _ => rfl
    | 1, _ => rfl
    | 2, _ => rfl
    | j + 3, hj => exact absurd (show j + 3 < 3 from hj) (by omega)
  have hsz : ∀ j, (([[97], [97, 98], [98]] : List (List UInt8)).getD j []).length < 9223372036854775807 := fun j => by
    match j with
    | 0 => decide
    | 1 => decide
    | 2 => decide
    | j + 3 => simp
  have HF := hid ((fork_any 3 hs (by decide) hsz).mono (R' := fun e w' => e = .returned (.tuple #[.int .i64 0, .int .i64 2]) ∧ Below (w.alloc (.cells #[.string ⟨#[97]⟩, .string ⟨#[97, 98]⟩, .string ⟨#[98]⟩] 9)).heap.size (w.alloc (.cells #[.string ⟨#[97]⟩, .string ⟨#[97, 98]⟩, .string ⟨#[98]⟩] 9)) w')
    (fun e w' hq => by
      obtain ⟨⟨p, q, rfl, hfk⟩, hb⟩ := hq
      obtain ⟨rfl, rfl⟩ := hfk.found (i := 0) (k := 2) (by decide) (by decide) (by decide) (fun j hj => absurd hj (Nat.not_lt_zero j)) (fun k' hk' j hj => by
        obtain rfl : k' = 1 := by omega
        obtain rfl : j = 0 := by omega
        decide)
      exact ⟨rfl, hb⟩))
  have HB0 : Hid (Below w.heap.size w (w.alloc (.cells #[.string ⟨#[97]⟩, .string ⟨#[97, 98]⟩, .string ⟨#[98]⟩] 9))) := (Below.refl _ w).alloc (Nat.le_refl _) _
  have HC := hid (fun W => count_any [0, 1, 0] (by decide) 0 W)
  rw [show cnt [0, 1, 0] 0 = 2 by decide] at HC
  have HU := hid (fun W => upto_any [0, 1, 0] (by decide) 1 W)
  rw [show uptoL [0, 1, 0] 1 = [0, 1] by decide] at HU
  have HP := hid (fun W => place_any [0, 1, 0] (by decide) 0 2 W)
  rw [show placeI [0, 1, 0] 0 2 = 2 by decide] at HP
  have HT := hid (fun W => fit_any [0, 1] [0, 0] W)
  rw [show fitB [0, 1] [0, 0] = false by decide] at HT
  have HG := hid (fun W => goes_any [0, 1, 0] [0] W)
  rw [show goesB [0, 1, 0] [0] = true by decide] at HG
  have HR := hid (fun W => right_any [0, 1, 0] 2 W)
  rw [show rightB [0, 1, 0] 2 = true by decide] at HR
  have HQ := hid (fun W => right_any [0, 1, 0] 1 W)
  rw [show rightB [0, 1, 0] 1 = false by decide] at HQ
  clear hs hsz
  go_enter Try.func10, Try.ntmps10
  go_wp2_with fail
  refine HF.out.mono ?_
  rintro e w1 ⟨rfl, hb⟩
  have HB1 := hid (below_two HB0.out hb)
  clear hb HF HB0
  go_wp2_with fail
  refine (HC.out _).mono ?_
  rintro e w2 ⟨rfl, hb⟩
  have HB2 := hid (below_two HB1.out hb)
  clear hb HC HB1
  go_wp2_with fail
  refine (HU.out _).mono ?_
  rintro e w3 ⟨rfl, hb⟩
  have HB3 := hid (below_two HB2.out hb)
  clear hb HU HB2
  go_wp2_with fail
  refine (HP.out _).mono ?_
  rintro e w4 ⟨rfl, hb⟩
  have HB4 := hid (below_two HB3.out hb)
  clear hb HP HB3
  go_wp2_with fail
  refine (HT.out _).mono ?_
  rintro e w5 ⟨rfl, hw⟩
  subst w5
  clear HT
  go_wp2_with fail
  refine (HG.out _).mono ?_
  rintro e w5 ⟨rfl, hw⟩
  subst w5
  clear HG
  go_wp2_with fail
  refine (HR.out _).mono ?_
  rintro e w5 ⟨rfl, hb⟩
  have HB5 := hid (below_two HB4.out hb)
  clear hb HR HB4
  go_wp2_with fail
  refine (HQ.out _).mono ?_
  rintro e w6 ⟨rfl, hb⟩
  have HB6 := hid (below_two HB5.out hb)
  clear hb HQ HB5
  go_wp2
  go_ret
  exact ⟨rfl, HB6.out⟩
end Go.Proofs.Ytpgelodcdclchaa.Hist
