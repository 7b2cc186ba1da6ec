/-
  What the laws MacTags and MacLabels answer at every input.
-/
import Derived.Test.YthpannpadmeknaaDoorMawk
namespace Go.Proofs.YthpannpadmeknaaDoor
open Go Go.RowKit
set_option maxRecDepth 100000

set_option maxHeartbeats 2000000 in
theorem macTags_any (k t : List UInt8) (n : Int) (h0 : -9223372036854775808 ≤ n) (h1 : n ≤ 9223372036854775807) (w : World) (hK : Ktab w) (hT : Lay.Tabs w) :
    Calls Tryd.prog 3 #[.string ⟨k.toArray⟩, .string ⟨t.toArray⟩, .int .i64 n] w fun e w' => e = .returned (.bool true) ∧ Below w.heap.size w w' := by
  have HFk := hid (few_any k)
  have HFt := hid (few_any t)
  have hkl := few_len k
  have htl := few_len t
  generalize k.take 1500 = x at *
  generalize t.take 1500 = y at *
  have HKb : Hid (∀ V, Below w.heap.size w V → Ktab V) := fun V h => hK.stays h hK.pos
  have HTb : Hid (∀ V, Below w.heap.size w V → Lay.Tabs V) := fun V h => hT.stays h
  have HA := hid (fun W a b => awake_any W a b)
  have HT1 := hid (fun W a => tag_one x y (by omega) (by omega) W a)
  have HR1 := hid (fun W => rtag_any x (by omega) y (by omega) W)
  have HM := hid (fun W a b => make_ok x (by omega) y (by omega) n h0 h1 W a b)
  have HRM := hid (fun W => rmake_ok x (by omega) y (by omega) n h0 h1 W)
  have HE := same25 (hmac x y) (hmac_len _ _)
  have HB0 : Hid (Below w.heap.size w w) := Below.refl _ _
  generalize ((hmac x y).map cb).toArray = X at *
  generalize makeB x y n = M at *
  clear hK hT hkl htl
  go_enter Tryd.func3, Tryd.ntmps3
  go_wp2_with (first | (go_at_call 8; first | (refine (HFk.out _).mono ?_; rintro e W ⟨rfl, rfl⟩) | (refine (HFt.out _).mono ?_; rintro e W ⟨rfl, rfl⟩)) | (go_at_call 9; refine (HA.out _ (HKb.out _ HB0.out) (HTb.out _ HB0.out)).mono ?_))
  rintro e w1 ⟨rfl, hb1⟩
  have HB1 : Hid (Below _ _ w1) := hb1
  clear hb1 HA
  go_wp2_with (first | (go_at_call 10; refine (HT1.out w1 (HKb.out _ HB1.out)).mono ?_))
  rintro e w2 ⟨rfl, hb2⟩
  have HB2 := hid (HB1.out.trans (hb2.mono HB1.out.size))
  clear hb2 HB1
  go_wp2_with (first | (go_at_call 11; refine (HR1.out w2).mono ?_))
  rintro e w3 ⟨rfl, hb3⟩
  have HB3 := hid (HB2.out.trans (hb3.mono HB2.out.size))
  clear hb3 HB2
  go_wp2_with (first | (go_at_call 12; refine (HM.out w3 (HKb.out _ HB3.out) (HTb.out _ HB3.out)).mono ?_))
  rintro e w4 ⟨rfl, hb4⟩
  have HB4 := hid (HB3.out.trans (hb4.mono HB3.out.size))
  clear hb4 HB3
  go_wp2_with (first | (go_at_call 13; refine (HRM.out w4).mono ?_))
  rintro e w5 ⟨rfl, hb5⟩
  have HB5 := hid (HB4.out.trans (hb5.mono HB4.out.size))
  clear hb5 HB4
  go_wp2
  go_ret
  exact ⟨rfl, HB5.out⟩

set_option maxHeartbeats 2000000 in
theorem macLabels_any (k l : List UInt8) (n : Int) (h0 : -9223372036854775808 ≤ n) (h1 : n ≤ 9223372036854775807) (w : World) (hK : Ktab w) (hT : Lay.Tabs w) :
    Calls Tryd.prog 7 #[.string ⟨k.toArray⟩, .string ⟨l.toArray⟩, .int .i64 n] w fun e w' => e = .returned (.bool true) ∧ Below w.heap.size w w' := by
  have HFk := hid (few_any k)
  have hkl := few_len k
  generalize k.take 1500 = x at *
  have hsl : (⟨l.toArray⟩ : ByteArray).size = l.length := rfl
  have HKb : Hid (∀ V, Below w.heap.size w V → Ktab V) := fun V h => hK.stays h hK.pos
  have HTb : Hid (∀ V, Below w.heap.size w V → Lay.Tabs V) := fun V h => hT.stays h
  have HA := hid (fun W a b => awake_any W a b)
  have HB0 : Hid (Below w.heap.size w w) := Below.refl _ _
  by_cases hl : l.length ≤ 16384
  · have HM := hid (fun W a b => make_ok x (by omega) l hl n h0 h1 W a b)
    have hM := makeB_len x l n
    generalize makeB x l n = M at *
    have hsM : (⟨M.toArray⟩ : ByteArray).size = 32 := hM
    clear hK hT hM
    go_enter Tryd.func7, Tryd.ntmps7
    go_wp2_with (first | (go_at_call 8; (refine (HFk.out _).mono ?_; rintro e W ⟨rfl, rfl⟩)) | (go_at_call 12; refine (HM.out _ (HKb.out _ HB0.out) (HTb.out _ HB0.out)).mono ?_))
    rintro e w1 ⟨rfl, hb1⟩
    have HB1 := hid hb1
    clear hb1 HM
    go_wp2_with (first | (go_at_call 9; refine (HA.out _ (HKb.out _ HB1.out) (HTb.out _ HB1.out)).mono ?_))
    rintro e w2 ⟨rfl, hb2⟩
    have HB2 := hid (HB1.out.trans (hb2.mono HB1.out.size))
    clear hb2 HB1
    go_wp2
    go_ret
    exact ⟨rfl, HB2.out⟩
  · have hl' : 16384 < l.length := by omega
    have HM := hid (fun W => make_big x l hl' n W)
    clear hK hT hl
    go_enter Tryd.func7, Tryd.ntmps7
    go_wp2_with (first | (go_at_call 8; (refine (HFk.out _).mono ?_; rintro e W ⟨rfl, rfl⟩)) | (go_at_call 12; refine (HM.out _).mono ?_; rintro e W ⟨rfl, rfl⟩) | (go_at_call 9; refine (HA.out _ (HKb.out _ HB0.out) (HTb.out _ HB0.out)).mono ?_))
    rintro e w2 ⟨rfl, hb2⟩
    have HB2 := hid hb2
    clear hb2
    go_wp2
    go_ret
    exact ⟨rfl, HB2.out⟩

end Go.Proofs.YthpannpadmeknaaDoor
