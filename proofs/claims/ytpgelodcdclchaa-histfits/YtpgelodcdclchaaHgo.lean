/-
  What hist.Goes, Fit, Longer and Upto answer.
-/
import Derived.Test.YtpgelodcdclchaaHpc
import Derived.Test.YtpgelodcdclchaaShelf
import Derived.Lib.QuietBelow
namespace Go.Proofs.Ytpgelodcdclchaa.Hist
open Go Go.RowKit
set_option maxRecDepth 100000

theorem below_two {w w1 w2 : World} (h1 : Below w.heap.size w w1) (h2 : Below w1.heap.size w1 w2) : Below w.heap.size w w2 := h1.trans (h2.mono h1.size)

theorem prefix_any (a b : List UInt8) (w : World) : Calls Try.prog 29 #[.string ⟨a.toArray⟩, .string ⟨b.toArray⟩] w fun e w' => e = .returned (.bool (goesB a b)) ∧ w' = w :=
  (Try.strings_HasPrefix ⟨a.toArray⟩ ⟨b.toArray⟩ w).mono fun e w' hq => ⟨by rw [hq.1]; rfl, hq.2⟩

set_option maxHeartbeats 2000000 in
theorem clone_any (s : List UInt8) (hs : s.length ≤ 281474976710656) (w : World) : Calls Try.prog 28 #[.string ⟨s.toArray⟩] w fun e w' => e = .returned (.string ⟨s.toArray⟩) ∧ Below w.heap.size w w' := by
  have HC := hid (Try.stringslite_Clone ⟨s.toArray⟩ w hs)
  go_enter Try.func28, Try.ntmps28
  go_wp2_with (go_at_call 34; refine HC.out.mono ?_; rintro e w1 ⟨rfl, hb⟩)
  go_ret
  exact ⟨rfl, hb⟩

set_option maxHeartbeats 2000000 in
theorem goes_any (a b : List UInt8) (w : World) : Calls Try.prog 19 #[.string ⟨a.toArray⟩, .string ⟨b.toArray⟩] w fun e w' => e = .returned (.bool (goesB a b)) ∧ w' = w := by
  have HC := hid (prefix_any a b w)
  generalize goesB a b = r at *
  go_enter Try.func19, Try.ntmps19
  go_wp2_with (go_at_call 29; refine HC.out.mono ?_; rintro e w1 ⟨rfl, rfl⟩)
  go_ret
  exact ⟨rfl, rfl⟩

set_option maxHeartbeats 2000000 in
theorem fit_any (a b : List UInt8) (w : World) : Calls Try.prog 21 #[.string ⟨a.toArray⟩, .string ⟨b.toArray⟩] w fun e w' => e = .returned (.bool (fitB a b)) ∧ w' = w := by
  have HA := hid (goes_any a b w)
  have HB := hid (goes_any b a w)
  unfold fitB
  generalize goesB b a = s at *
  cases hq : goesB a b with
  | true =>
    rw [hq] at HA
    go_enter Try.func21, Try.ntmps21
    go_wp2_with fail
    refine HA.out.mono ?_
    rintro e w1 ⟨rfl, hw⟩
    subst w1
    go_wp2
    go_ret
    exact ⟨rfl, rfl⟩
  | false =>
    rw [hq] at HA
    go_enter Try.func21, Try.ntmps21
    go_wp2_with fail
    refine HA.out.mono ?_
    rintro e w1 ⟨rfl, hw⟩
    subst w1
    go_wp2_with fail
    refine HB.out.mono ?_
    rintro e w1 ⟨rfl, hw⟩
    subst w1
    go_wp2
    go_ret
    exact ⟨rfl, rfl⟩

set_option maxHeartbeats 2000000 in
theorem longer_any (a b : List UInt8) (ha : a.length ≤ 281474976710656) (hb : b.length ≤ 281474976710656) (w : World) : Calls Try.prog 23 #[.string ⟨a.toArray⟩, .string ⟨b.toArray⟩] w fun e w' => e = .returned (.string ⟨(longerL a b).toArray⟩) ∧ Below w.heap.size w w' := by
  have HB := hid (goes_any b a w)
  have HCa := hid (clone_any a ha w)
  have HCb := hid (clone_any b hb w)
  clear ha hb
  unfold longerL
  cases hq : goesB b a with
  | true =>
    rw [hq] at HB
    rw [if_pos rfl]
    go_enter Try.func23, Try.ntmps23
    go_wp2_with fail
    refine HB.out.mono ?_
    rintro e w1 ⟨rfl, hw⟩
    subst w1
    go_wp2_with fail
    refine HCb.out.mono ?_
    rintro e w1 ⟨rfl, hw⟩
    have HW := hid hw
    clear hw
    go_wp2
    go_ret
    exact ⟨rfl, HW.out⟩
  | false =>
    rw [hq] at HB
    rw [if_neg Bool.false_ne_true]
    go_enter Try.func23, Try.ntmps23
    go_wp2_with fail
    refine HB.out.mono ?_
    rintro e w1 ⟨rfl, hw⟩
    subst w1
    go_wp2_with fail
    refine HCa.out.mono ?_
    rintro e w1 ⟨rfl, hw⟩
    have HW := hid hw
    clear hw
    go_wp2
    go_ret
    exact ⟨rfl, HW.out⟩

theorem ext_take (l : List UInt8) (k : Nat) : (⟨l.toArray⟩ : ByteArray).extract 0 k = ⟨(l.take k).toArray⟩ := by
  apply ByteArray.ext
  simp [ByteArray.data_extract]

set_option maxHeartbeats 2000000 in
theorem upto_any (h : List UInt8) (hl : h.length ≤ 281474976710656) (c : Int) (w : World) : Calls Try.prog 17 #[.string ⟨h.toArray⟩, .int .i64 c] w fun e w' => e = .returned (.string ⟨(uptoL h c).toArray⟩) ∧ Below w.heap.size w w' := by
  have HC := hid (count_any h (by omega) c w)
  have HP := hid (fun W => place_any h (by omega) c (cnt h c) W)
  have hr := place_range h c (cnt h c)
  have hss : (⟨h.toArray⟩ : ByteArray).size = h.length := rfl
  obtain ⟨m, hm⟩ : ∃ m : Nat, placeI h c (cnt h c) + 1 = (m : Int) := ⟨(placeI h c (cnt h c) + 1).toNat, by omega⟩
  have hu : uptoL h c = h.take m := by unfold uptoL; rw [hm]; rfl
  have HK := hid (fun W => clone_any (h.take m) (by rw [List.length_take]; omega) W)
  have hx := ext_take h m
  have hml : m ≤ h.length := by omega
  obtain ⟨p, hp⟩ : ∃ p, placeI h c (cnt h c) = p := ⟨_, rfl⟩
  rw [hp] at HP hm
  rw [hu]
  have hw1 : p + 1 = (m : Int) := hm
  obtain rfl : p = (m : Int) - 1 := by omega
  clear hr hu hm hp hw1
  generalize cnt h c = n at *
  generalize h.take m = t at *
  have HX := hid hx
  clear hx
  go_enter Try.func17, Try.ntmps17
  go_wp2_with fail
  refine HC.out.mono ?_
  rintro e w1 ⟨rfl, hb1⟩
  have HB1 := hid hb1
  clear hb1
  go_wp2_with fail
  refine (HP.out _).mono ?_
  rintro e w2 ⟨rfl, hb2⟩
  have HB2 := hid (below_two HB1.out hb2)
  clear hb2
  have hx := HX.out
  go_wp2_with fail
  refine (HK.out _).mono ?_
  rintro e w3 ⟨rfl, hb3⟩
  have HB3 := hid (below_two HB2.out hb3)
  clear hb3
  go_wp2
  go_ret
  exact ⟨rfl, HB3.out⟩
end Go.Proofs.Ytpgelodcdclchaa.Hist
