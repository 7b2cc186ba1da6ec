/-
  What the laws VeilVeils, VeilRows and VeilTwice answer at every input.
-/
import Derived.Test.YtfkfjopjnfeahaaDoorWawk
namespace Go.Proofs.YtfkfjopjnfeahaaDoor
open Go Go.RowKit
set_option maxRecDepth 100000

set_option maxHeartbeats 2000000 in
theorem veilVeils_any (k t : List UInt8) (hk : k.length ≤ 140737488351232) (n : Int) (w : World) (hK : Ktab w) (hT : Lay.Tabs w) :
    Calls Tryd.prog 3 #[.string ⟨k.toArray⟩, .int .i64 n, .string ⟨t.toArray⟩] w fun e w' => e = .returned (.bool true) ∧ Below w.heap.size w w' := by
  have HFk := hid (few_any k)
  have HFt := hid (few_any t)
  have hkl := fewB_le k
  generalize fewB k = x at *
  generalize fewB t = y at *
  have HKb : Hid (∀ V, Below w.heap.size w V → Ktab V) := fun V h => hK.stays h hK.pos
  have HTb : Hid (∀ V, Below w.heap.size w V → Lay.Tabs V) := fun V h => hT.stays h
  have HA := hid (fun W a b => awake_any W a b)
  have HV := hid (veil_any x (by omega) n y w hK hT)
  have HX := hid (fun W => xveil_any x (by omega) n y W)
  generalize vOut x n y = S at *
  generalize rErr n y.length = r at *
  clear hK hT hkl hk
  go_enter Tryd.func3, Tryd.ntmps3
  go_wp2_with fail
  refine (HFk.out _).mono ?_
  rintro e W ⟨rfl, rfl⟩
  go_wp2_with fail
  refine (HFt.out _).mono ?_
  rintro e W ⟨rfl, rfl⟩
  go_wp2_with (first | (go_at_call 9; refine Calls.mono HV.out ?_))
  rintro e w1 ⟨rfl, hb1⟩
  have HB1 := hid hb1
  clear hb1 HV
  go_wp2_with (first | (go_at_call 10; refine (HX.out w1).mono ?_))
  rintro e w2 ⟨rfl, hb2⟩
  have HB2 := hid (HB1.out.trans (hb2.mono HB1.out.size))
  clear hb2 HB1
  go_wp2_with (first | (go_at_call 11; refine (HA.out w2 (HKb.out _ HB2.out) (HTb.out _ HB2.out)).mono ?_))
  rintro e w3 ⟨rfl, hb3⟩
  have HB3 := hid (HB2.out.trans (hb3.mono HB2.out.size))
  clear hb3 HB2
  go_wp2
  go_ret
  exact ⟨rfl, HB3.out⟩

set_option maxHeartbeats 2000000 in
theorem veilRows_any (k : List UInt8) (hk : k.length ≤ 140737488351232) (n m : Int) (w : World) (hK : Ktab w) (hT : Lay.Tabs w) :
    Calls Tryd.prog 4 #[.string ⟨k.toArray⟩, .int .i64 n, .int .i64 m] w fun e w' => e = .returned (.bool true) ∧ Below w.heap.size w w' := by
  have HFk := hid (few_any k)
  have hkl := fewB_le k
  generalize fewB k = x at *
  have HKb : Hid (∀ V, Below w.heap.size w V → Ktab V) := fun V h => hK.stays h hK.pos
  have HTb : Hid (∀ V, Below w.heap.size w V → Lay.Tabs V) := fun V h => hT.stays h
  have HA := hid (fun W a b => awake_any W a b)
  have HV := hid (fun m => row_any x (by omega) n m w hK hT)
  have HX := hid (fun m W => xrow_any x (by omega) n m W)
  clear hK hT hkl hk
  have main : ∀ m', Hid (Calls Tryd.prog 12 #[.string ⟨x.toArray⟩, .int .i64 n, .int .i64 m'] w fun e w' => e = .returned (.tuple #[.string ⟨(rOut x n m').toArray⟩, .int .i64 (rErr n m' : Nat)]) ∧ Below w.heap.size w w') ∧ Hid (∀ W, Calls Tryd.prog 13 #[.string ⟨x.toArray⟩, .int .i64 n, .int .i64 m'] W fun e w' => e = .returned (.tuple #[.string ⟨(rOut x n m').toArray⟩, .int .i64 (rErr n m' : Nat)]) ∧ Below W.heap.size W w') := fun m' => ⟨HV.out m', HX.out m'⟩
  clear HV HX
  by_cases h1 : 600 < m
  · have d1 : decide (600 < m) = true := decide_eq_true h1
    by_cases h2 : m ≤ 16384
    · have d2 : decide (m ≤ 16384) = true := decide_eq_true h2
      obtain ⟨HV, HX⟩ := main 600
      generalize rOut x n 600 = S at *
      generalize rErr n 600 = r at *
      clear main
      go_enter Tryd.func4, Tryd.ntmps4
      go_wp2_with (first | (go_at_call 8; (refine (HFk.out _).mono ?_; rintro e W ⟨rfl, rfl⟩)) | (go_at_call 12; refine Calls.mono HV.out ?_))
      rintro e w1 ⟨rfl, hb1⟩
      have HB1 := hid hb1
      clear hb1 HV
      go_wp2_with (first | (go_at_call 13; refine (HX.out w1).mono ?_))
      rintro e w2 ⟨rfl, hb2⟩
      have HB2 := hid (HB1.out.trans (hb2.mono HB1.out.size))
      clear hb2 HB1
      go_wp2_with (first | (go_at_call 11; refine (HA.out w2 (HKb.out _ HB2.out) (HTb.out _ HB2.out)).mono ?_))
      rintro e w3 ⟨rfl, hb3⟩
      have HB3 := hid (HB2.out.trans (hb3.mono HB2.out.size))
      clear hb3 HB2
      go_wp2
      go_ret
      exact ⟨rfl, HB3.out⟩
    · have d2 : decide (m ≤ 16384) = false := decide_eq_false h2
      obtain ⟨HV, HX⟩ := main m
      generalize rOut x n m = S at *
      generalize rErr n m = r at *
      clear main h2
      go_enter Tryd.func4, Tryd.ntmps4
      go_wp2_with (first | (go_at_call 8; (refine (HFk.out _).mono ?_; rintro e W ⟨rfl, rfl⟩)) | (go_at_call 12; refine Calls.mono HV.out ?_))
      rintro e w1 ⟨rfl, hb1⟩
      have HB1 := hid hb1
      clear hb1 HV
      go_wp2_with (first | (go_at_call 13; refine (HX.out w1).mono ?_))
      rintro e w2 ⟨rfl, hb2⟩
      have HB2 := hid (HB1.out.trans (hb2.mono HB1.out.size))
      clear hb2 HB1
      go_wp2_with (first | (go_at_call 11; refine (HA.out w2 (HKb.out _ HB2.out) (HTb.out _ HB2.out)).mono ?_))
      rintro e w3 ⟨rfl, hb3⟩
      have HB3 := hid (HB2.out.trans (hb3.mono HB2.out.size))
      clear hb3 HB2
      go_wp2
      go_ret
      exact ⟨rfl, HB3.out⟩
  · have d1 : decide (600 < m) = false := decide_eq_false h1
    obtain ⟨HV, HX⟩ := main m
    generalize rOut x n m = S at *
    generalize rErr n m = r at *
    clear main h1
    go_enter Tryd.func4, Tryd.ntmps4
    go_wp2_with (first | (go_at_call 8; (refine (HFk.out _).mono ?_; rintro e W ⟨rfl, rfl⟩)) | (go_at_call 12; refine Calls.mono HV.out ?_))
    rintro e w1 ⟨rfl, hb1⟩
    have HB1 := hid hb1
    clear hb1 HV
    go_wp2_with (first | (go_at_call 13; refine (HX.out w1).mono ?_))
    rintro e w2 ⟨rfl, hb2⟩
    have HB2 := hid (HB1.out.trans (hb2.mono HB1.out.size))
    clear hb2 HB1
    go_wp2_with (first | (go_at_call 11; refine (HA.out w2 (HKb.out _ HB2.out) (HTb.out _ HB2.out)).mono ?_))
    rintro e w3 ⟨rfl, hb3⟩
    have HB3 := hid (HB2.out.trans (hb3.mono HB2.out.size))
    clear hb3 HB2
    go_wp2
    go_ret
    exact ⟨rfl, HB3.out⟩

set_option maxHeartbeats 2000000 in
theorem veilTwice_any (k t : List UInt8) (hk : k.length ≤ 140737488351232) (n : Int) (w : World) (hK : Ktab w) (hT : Lay.Tabs w) :
    Calls Tryd.prog 5 #[.string ⟨k.toArray⟩, .int .i64 n, .string ⟨t.toArray⟩] w fun e w' => e = .returned (.bool true) ∧ Below w.heap.size w w' := by
  have HFk := hid (few_any k)
  have HFt := hid (few_any t)
  have hkl := fewB_le k
  generalize fewB k = x at *
  generalize fewB t = y at *
  have HKb : Hid (∀ V, Below w.heap.size w V → Ktab V) := fun V h => hK.stays h hK.pos
  have HTb : Hid (∀ V, Below w.heap.size w V → Lay.Tabs V) := fun V h => hT.stays h
  have HA := hid (fun W a b => awake_any W a b)
  have HB0 : Hid (Below w.heap.size w w) := Below.refl _ _
  by_cases h : rErr n y.length = 0
  · obtain ⟨h0, h1, h2, h3⟩ := (rErr_ok n y.length).1 h
    have hy : y.length ≤ 16384 := by omega
    have HV := hid (veil_ok x (by omega) n h0 h1 y hy w hK hT)
    have hvl := veilB_len x n y
    have HV2 : Hid (∀ W, Ktab W → Lay.Tabs W → Calls Tryd.prog 9 #[.string ⟨x.toArray⟩, .int .i64 n, .string ⟨(veilB x n y).toArray⟩] W fun e w' => e = .returned (.tuple #[.string ⟨y.toArray⟩, .int .i64 0]) ∧ Below W.heap.size W w') := fun W a b => by
      have h := veil_ok x (by omega) n h0 h1 (veilB x n y) (by rw [hvl]; exact hy) W a b
      rw [veilB_twice] at h
      exact h
    generalize veilB x n y = S at *
    have hsS : (⟨S.toArray⟩ : ByteArray).size = y.length := hvl
    have hsy : (⟨y.toArray⟩ : ByteArray).size = y.length := rfl
    clear hK hT hkl hk h h0 h1 h2 h3 hy hvl
    go_enter Tryd.func5, Tryd.ntmps5
    go_wp2_with fail
    refine (HFk.out _).mono ?_
    rintro e W ⟨rfl, rfl⟩
    go_wp2_with fail
    refine (HFt.out _).mono ?_
    rintro e W ⟨rfl, rfl⟩
    go_wp2_with (first | (go_at_call 9; refine Calls.mono HV.out ?_))
    rintro e w1 ⟨rfl, hb1⟩
    have HB1 := hid hb1
    clear hb1 HV
    go_wp2_with (first | (go_at_call 9; refine (HV2.out w1 (HKb.out _ HB1.out) (HTb.out _ HB1.out)).mono ?_))
    rintro e w2 ⟨rfl, hb2⟩
    have HB2 := hid (HB1.out.trans (hb2.mono HB1.out.size))
    clear hb2 HB1 HV2
    go_wp2_with (first | (go_at_call 11; refine (HA.out w2 (HKb.out _ HB2.out) (HTb.out _ HB2.out)).mono ?_))
    rintro e w3 ⟨rfl, hb3⟩
    have HB3 := hid (HB2.out.trans (hb3.mono HB2.out.size))
    clear hb3 HB2
    go_wp2
    go_ret
    exact ⟨rfl, HB3.out⟩
  · have HV := hid (fun W => veil_bad x y n h W)
    generalize rErr n y.length = r at *
    have hr : (((r : Nat) : Int) != 0) = true := by simp; omega
    have hr2 : (((r : Nat) : Int) == 0) = false := by simp; omega
    clear hK hT hkl hk h
    go_enter Tryd.func5, Tryd.ntmps5
    go_wp2_with fail
    refine (HFk.out _).mono ?_
    rintro e W ⟨rfl, rfl⟩
    go_wp2_with fail
    refine (HFt.out _).mono ?_
    rintro e W ⟨rfl, rfl⟩
    go_wp2_with (first | (go_at_call 9; refine (HV.out _).mono ?_; rintro e W ⟨rfl, rfl⟩) | (go_at_call 11; refine (HA.out _ (HKb.out _ HB0.out) (HTb.out _ HB0.out)).mono ?_))
    rintro e w2 ⟨rfl, hb2⟩
    have HB2 := hid hb2
    clear hb2
    go_wp2
    go_ret
    exact ⟨rfl, HB2.out⟩

end Go.Proofs.YtfkfjopjnfeahaaDoor
