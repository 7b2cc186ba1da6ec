/-
  What few and awake of the laws answer.
-/
import Derived.Test.YtfkfjopjnfeahaaDoorVveil
import Derived.Test.YtfkfjopjnfeahaaDoorXveil
import Derived.Test.YtfkfjopjnfeahaaDoorXbyt
namespace Go.Proofs.YtfkfjopjnfeahaaDoor
open Go Go.RowKit Go.Joins
set_option maxRecDepth 100000

def fewB (l : List UInt8) : List UInt8 := if 400 < l.length ∧ l.length ≤ 16384 then l.take 400 else l
theorem fewB_le (l : List UInt8) : (fewB l).length ≤ l.length := by
  unfold fewB; split
  · rw [List.length_take]; omega
  · omega

theorem few_any (l : List UInt8) (w : World) : Calls Tryd.prog 8 #[.string ⟨l.toArray⟩] w fun e w' => e = .returned (.string ⟨(fewB l).toArray⟩) ∧ w' = w := by
  have hs : (⟨l.toArray⟩ : ByteArray).size = l.length := rfl
  by_cases h1 : 400 < l.length
  · have d1 : decide ((400 : Int) < (l.length : Int)) = true := decide_eq_true (by omega)
    by_cases h2 : l.length ≤ 16384
    · have d2 : decide ((l.length : Int) ≤ 16384) = true := decide_eq_true (by omega)
      have hx : Hid ((⟨l.toArray⟩ : ByteArray).extract 0 400 = ⟨(fewB l).toArray⟩) := by show _ = _; rw [cut_take, fewB, if_pos ⟨h1, h2⟩]
      go_enter Tryd.func8, Tryd.ntmps8
      go_wp2
      go_ret
      exact ⟨by rw [hx.out]; rfl, rfl⟩
    · have d2 : decide ((l.length : Int) ≤ 16384) = false := decide_eq_false (by omega)
      have hx : Hid (fewB l = l) := by show _ = _; rw [fewB, if_neg (by omega)]
      clear h2
      go_enter Tryd.func8, Tryd.ntmps8
      go_wp2
      go_ret
      exact ⟨by rw [hx.out]; rfl, rfl⟩
  · have d1 : decide ((400 : Int) < (l.length : Int)) = false := decide_eq_false (by omega)
    have hx : Hid (fewB l = l) := by show _ = _; rw [fewB, if_neg (by omega)]
    clear h1
    go_enter Tryd.func8, Tryd.ntmps8
    go_wp2
    go_ret
    exact ⟨by rw [hx.out]; rfl, rfl⟩

theorem first_byte (k : List UInt8) (n : Int) (t : List UInt8) (ht : 0 < t.length) : (veilB k n t).getD 0 0 = t.getD 0 0 ^^^ (blkB k n 0).getD 0 0 := by
  have h := veilOf_at (blkB k n) (blkB_len k n) t 0 ht
  rw [rowOf_same (blkB k n) (blkB_len k n) 0 t.length 1 ht (by omega), rowOf_zero] at h
  exact h

set_option maxHeartbeats 1000000 in
theorem awake_any (w : World) (hK : Ktab w) (hT : Lay.Tabs w) : Calls Tryd.prog 11 #[] w fun e w' => e = .returned (.bool true) ∧ Below w.heap.size w w' := by
  have HV1 : Hid (Calls Tryd.prog 9 #[.string ⟨#[107]⟩, .int .i64 1, .string ⟨#[97, 98, 99]⟩] w fun e w' => e = .returned (.tuple #[.string ⟨(veilB [107] 1 [97, 98, 99]).toArray⟩, .int .i64 0]) ∧ Below w.heap.size w w') := veil_ok [107] (by decide) 1 (by decide) (by decide) [97, 98, 99] (by decide) w hK hT
  have hl3 : (veilB [107] 1 [97, 98, 99]).length = 3 := veilB_len [107] 1 [97, 98, 99]
  have HV2 : Hid (∀ W, Ktab W → Lay.Tabs W → Calls Tryd.prog 9 #[.string ⟨#[107]⟩, .int .i64 1, .string ⟨(veilB [107] 1 [97, 98, 99]).toArray⟩] W fun e w' => e = .returned (.tuple #[.string ⟨#[97, 98, 99]⟩, .int .i64 0]) ∧ Below W.heap.size W w') := fun W a b => by
    have h := veil_ok [107] (by decide) 1 (by decide) (by decide) (veilB [107] 1 [97, 98, 99]) (by rw [hl3]; omega) W a b
    rw [veilB_twice] at h
    exact h
  have HBy : Hid (∀ W, Calls Tryd.prog 14 #[.string ⟨#[107]⟩, .int .i64 1, .int .i64 0] W fun e w' => e = .returned (.int .u8 (bv ((blkB [107] 1 0).getD 0 0))) ∧ Below W.heap.size W w') := fun W => xbyte_first [107] (by decide) 1 (by decide) (by decide) W
  have hfb : Hid ((veilB [107] 1 [97, 98, 99]).getD 0 0 = 97 ^^^ (blkB [107] 1 0).getD 0 0) := first_byte [107] 1 [97, 98, 99] (by decide)
  have hx : bits .xor .u8 97 (bv ((blkB [107] 1 0).getD 0 0)) = (((veilB [107] 1 [97, 98, 99]).getD 0 0).toNat : Int) := by rw [hfb.out]; exact bv_xor 97 _
  have hq := byte_at (veilB [107] 1 [97, 98, 99]) 0 (by rw [hl3]; decide)
  have HKb : Hid (∀ V, Below w.heap.size w V → Ktab V) := fun V h => hK.stays h hK.pos
  have HTb : Hid (∀ V, Below w.heap.size w V → Lay.Tabs V) := fun V h => hT.stays h
  clear hfb hK hT
  generalize (blkB [107] 1 0).getD 0 0 = c at *
  generalize veilB [107] 1 [97, 98, 99] = s at *
  have hss : (⟨s.toArray⟩ : ByteArray).size = 3 := hl3
  generalize (s.getD 0 0) = z at *
  go_enter Tryd.func11, Tryd.ntmps11
  go_wp2_with (first | (go_at_call 9; refine Calls.mono HV1.out ?_))
  rintro e w1 ⟨rfl, hb1⟩
  have HB1 := hid hb1
  clear hb1 HV1
  go_wp2_with (first | (go_at_call 9; refine (HV2.out _ (HKb.out _ HB1.out) (HTb.out _ HB1.out)).mono ?_))
  rintro e w2 ⟨rfl, hb2⟩
  have HB2 : Hid (Below w.heap.size w w2) := HB1.out.trans (hb2.mono HB1.out.size)
  clear hb2 HB1 HV2
  have HC : Hid (∀ dd os, Calls Tryd.prog 14 #[.string ⟨#[107]⟩, .int .i64 1, .int .i64 0] (Sort.grow (redrawn w2 dd) os) fun e w'' => e = .returned (.int .u8 (bv c)) ∧ ∃ p : Regrown, w'' = Sort.grow (redrawn w2 p.d) p.os) := fun dd os => Calls.regrown_of (HBy.out _)
  clear HBy
  go_upto_region 3 with fail
  refine wp_region_quiet_below (by kernel_rfl) (by kernel_rfl) ?_
  repeat (first | go_big_quiet_step (exact HC.out _ _) | quiet_step (exact HC.out _ _))
  refine wpQuiet_nil ?_
  intro _ hw'
  obtain ⟨⟨dq, osq⟩, hw''⟩ := hw'
  subst hw''
  have HBf : Hid (Below w.heap.size w (Sort.grow (redrawn w2 dq) osq)) := HB2.out.trans ((below_regrown w2 dq osq).mono HB2.out.size)
  clear HC HB2
  go_wp2
  go_ret
  exact ⟨rfl, HBf.out⟩

end Go.Proofs.YtfkfjopjnfeahaaDoor
