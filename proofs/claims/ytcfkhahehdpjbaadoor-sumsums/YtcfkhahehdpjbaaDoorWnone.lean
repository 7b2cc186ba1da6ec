/-
  What the laws SumNone and SumSums answer at every string.
-/
import Derived.Test.YtcfkhahehdpjbaaDoorAwk
namespace Go.Proofs.YtcfkhahehdpjbaaDoor
open Go Go.RowKit
set_option maxRecDepth 100000

theorem same25z (w : World) : (Op.equalIn 10000 25 (.agg zb32) (.agg #[.int .u8 0, .int .u8 0, .int .u8 0, .int .u8 0, .int .u8 0, .int .u8 0, .int .u8 0, .int .u8 0, .int .u8 0, .int .u8 0, .int .u8 0, .int .u8 0, .int .u8 0, .int .u8 0, .int .u8 0, .int .u8 0, .int .u8 0, .int .u8 0, .int .u8 0, .int .u8 0, .int .u8 0, .int .u8 0, .int .u8 0, .int .u8 0, .int .u8 0, .int .u8 0, .int .u8 0, .int .u8 0, .int .u8 0, .int .u8 0, .int .u8 0, .int .u8 0])).run Tryd.prog w = .ok true w := by
  have h := run_equal_bytes (P := Tryd.prog) w 25 5 32 .u8 Tryd.underlying25 Tryd.underlying5 size5 (List.replicate 32 0) (List.replicate 32 0) (by simp) (by simp)
  have h' : (Op.equalIn 10000 25 (.agg zb32) (.agg #[.int .u8 0, .int .u8 0, .int .u8 0, .int .u8 0, .int .u8 0, .int .u8 0, .int .u8 0, .int .u8 0, .int .u8 0, .int .u8 0, .int .u8 0, .int .u8 0, .int .u8 0, .int .u8 0, .int .u8 0, .int .u8 0, .int .u8 0, .int .u8 0, .int .u8 0, .int .u8 0, .int .u8 0, .int .u8 0, .int .u8 0, .int .u8 0, .int .u8 0, .int .u8 0, .int .u8 0, .int .u8 0, .int .u8 0, .int .u8 0, .int .u8 0, .int .u8 0])).run Tryd.prog w = .ok (decide (List.replicate 32 (0 : UInt8) = List.replicate 32 0)) w := h
  rw [h']; simp

set_option maxHeartbeats 1000000 in
theorem sumNone_any (s : ByteArray) (w : World) (hK : Ktab w) : Calls Tryd.prog 7 #[.string s] w fun e w' => e = .returned (.bool true) ∧ Below w.heap.size w w' := by
  have HE := same25z
  have HM : Hid (∀ w, Calls Tryd.prog 15 #[.pointer none] w fun e w' => e = .returned (.agg zb32) ∧ Below w.heap.size w w') := sumM_nil
  have HA := hid (awake_any w hK)
  generalize zb32 = Z at *
  clear hK
  go_enter Tryd.func7, Tryd.ntmps7
  go_wp2_with (first | (go_at_call 9; refine Calls.mono HA.out ?_))
  rintro e w1 ⟨rfl, hb1⟩
  have HB1 : Hid (Below w.heap.size w w1) := hb1
  clear hb1 HA
  go_wp2_with (first | (go_at_call 13; refine (add_nil s _).mono ?_; rintro e w2 ⟨rfl, rfl⟩) | (go_at_call 15; refine (HM.out _).mono ?_))
  rintro e w3 ⟨rfl, hb3⟩
  have HB3 : Hid (Below w.heap.size w w3) := HB1.out.trans (hb3.mono HB1.out.size)
  clear hb3
  go_wp2_with (first | (go_at_call 14; refine (len_nil _).mono ?_; rintro e w4 ⟨rfl, rfl⟩))
  go_ret
  exact ⟨rfl, HB3.out⟩

set_option maxHeartbeats 1000000 in
theorem sumSums_any (l : List UInt8) (w : World) (hK : Ktab w) : Calls Tryd.prog 3 #[.string ⟨l.toArray⟩] w fun e w' => e = .returned (.bool true) ∧ Below w.heap.size w w' := by
  have HF := hid (few_any l w)
  have hl : (l.take 2000).length ≤ 2000 := by rw [List.length_take]; omega
  generalize l.take 2000 = t at *
  have HA := hid (awake_any w hK)
  have HS : Hid (∀ W, Ktab W → Calls Tryd.prog 10 #[.string ⟨t.toArray⟩] W fun e w' => e = .returned (.agg ((sha t).map cb).toArray) ∧ Below W.heap.size W w') := fun W k => sum_any t (by omega) W k
  have HR : Hid (∀ W, Calls Tryd.prog 11 #[.string ⟨t.toArray⟩] W fun e w' => e = .returned (.agg ((sha t).map cb).toArray) ∧ Below W.heap.size W w') := fun W => rsum_any t (by omega) W
  have HE := same25 t
  have HK : Hid (Ktab w) := hK
  generalize ((sha t).map cb).toArray = X at *
  clear hK hl
  go_enter Tryd.func3, Tryd.ntmps3
  go_wp2_with (first | (go_at_call 8; refine Calls.mono HF.out ?_; rintro e w4 ⟨rfl, rfl⟩) | (go_at_call 9; refine Calls.mono HA.out ?_))
  rintro e w1 ⟨rfl, hb1⟩
  have HB1 : Hid (Below w4.heap.size w4 w1) := hb1
  clear hb1 HA
  go_wp2_with fail
  refine (HS.out w1 (HK.out.stays HB1.out HK.out.pos)).mono ?_
  rintro e w2 ⟨rfl, hb2⟩
  have HB2 : Hid (Below w4.heap.size w4 w2) := HB1.out.trans (hb2.mono HB1.out.size)
  clear hb2
  go_wp2_with fail
  refine (HR.out w2).mono ?_
  rintro e w3 ⟨rfl, hb3⟩
  have HB3 : Hid (Below w4.heap.size w4 w3) := HB2.out.trans (hb3.mono HB2.out.size)
  clear hb3
  go_wp2
  go_ret
  exact ⟨rfl, HB3.out⟩

end Go.Proofs.YtcfkhahehdpjbaaDoor
