/-
  The walk of BlobsWithin: no owner ever has more than its room.
-/
import Derived.Test.YtjpclmkkccffhaaBmd
namespace Go.Proofs.Ytjpclmkkccffhaa.Bl
open Go Go.RowKit Go.Maps
set_option maxRecDepth 100000

set_option maxHeartbeats 4000000 in
theorem within_walk {w : World} {x : Option Addr} {cap : Nat} {acs : List Ac} (h : ActsAt w x acs) : Calls Try.prog 6 #[.slice x acs.length cap] w fun e w' => e = .returned (.bool true) ∧ Below w.heap.size w w' := by
  have H := hid h
  have HN := hid (new_any w)
  clear h
  go_enter Try.func6, Try.ntmps6
  go_wp2_with (first
    | (go_at_call 15; refine HN.out.mono ?_; rintro e W0 ⟨rfl, h0, k0⟩; have H0 := hid h0; have K0 := hid k0; have HA := hid (awake_any W0); clear h0 k0)
    | (go_at_call 9; refine HA.out.mono ?_; rintro e W1 ⟨rfl, b1⟩; have K1 := hid (below_two K0.out b1); have H1 := hid (H0.out.kept b1); clear b1))
  have B2 := hid (below_a1 W1 (.cells #[.slice none 0 0] 45))
  have S2 := hid (H1.out.kept B2.out)
  have F2 : Hid (RfAt (W1.alloc (.cells #[.slice none 0 0] 45)) W1.heap.size (.slice none 0 0) []) := ⟨top_obj W1 _, World.ownsRow_nil _ _ _ _, inv_nil⟩
  have BB := hid (below_two K1.out B2.out)
  have hr : Hid (w.heap.size ≤ W1.heap.size) := K1.out.size
  generalize W1.alloc (.cells #[.slice none 0 0] 45) = W2 at *
  generalize W1.heap.size = r at *
  obtain ⟨s, hs⟩ : ∃ s, w.heap.size + 1 = s := ⟨_, rfl⟩
  obtain ⟨m, hm⟩ : ∃ m, w.heap.size = m := ⟨_, rfl⟩
  have S2' : Hid (StAt W2 s m []) := by rw [← hs, ← hm]; exact S2.out
  have hsm : Hid (w.heap.size ≤ s ∧ w.heap.size ≤ m) := by show _ ∧ _; omega
  rw [hs]
  clear hs hm S2 H1 K1 B2 HN H0 K0 HA
  go_loopw [5] (fun i wr => ∃ k : Nat, k ≤ min acs.length 40 ∧ i = nu k ∧ Hid (StAt wr s m (playD acs k)) ∧ Hid (∃ v, RfAt wr r v (playD acs k)) ∧ Hid (Below w.heap.size w wr)) (fun i _ => min acs.length 40 - (intOf i).toNat)
  case atStart => exact ⟨0, Nat.zero_le _, rfl, S2', ⟨_, F2.out⟩, BB⟩
  case round =>
    clear F2 BB S2'
    obtain ⟨k, hk, rfl, HS, HF, HB⟩ := hrel
    have hpb := play_bound acs.length k hk
    by_cases hc : (k : Int) < (acs.length : Int) ∧ (k : Int) < 40
    · have n1 : decide ((k : Int) < (acs.length : Int)) = true := decide_eq_true hc.1
      have n1' : decide (k < acs.length) = true := decide_eq_true (by omega)
      have n2 : decide ((k : Int) < 40) = true := decide_eq_true hc.2
      have hk1 := hid (hpb.2.1 hc)
      have hk40 := hpb.1
      have hlt : k < acs.length := hk1.out.2
      obtain ⟨b, off, rfl, vl, hcells, hok, hI⟩ := (H.out.kept HB.out) k hk1.out.2
      obtain ⟨v, hf⟩ := HF.out
      have SC := hid hcells
      have ZC : Hid ((Try.prog.info? 42).map (·.size) = some (acC (acs.getD k noAc) vl).length) := by
        show _ = _
        rw [acC_len hok.wf]
        exact sizeAc
      have HD := hid (do_any HS.out hf (acs.getD k noAc) hok vl hI)
      have hP : Hid (playD acs (k + 1) = doD (playD acs k) (acs.getD k noAc)) := rfl
      clear hpb hc hcells hf
      generalize doD (playD acs k) (acs.getD k noAc) = D at *
      generalize acs.getD k noAc = ac at *
      go_wp2_with (first
        | ((with_reducible refine wl_load 42 (.tmp 32) ?_ b (off + k * 39) ?_ ?_ (acC ac vl) _ SC.out Try.underlying42 ?_ ZC.out ?_); exact rfl; exact rfl; exact rfl; exact rfl)
        | (go_at_call 14; refine HD.out.mono ?_; rintro e W5 ⟨rfl, h5, f5, k5⟩; have H5 := hid h5; have F5 := hid f5; have K5 := hid k5; clear h5 f5 k5))
      have B5 : Hid (Below w.heap.size w W5) := HB.out.trans (K5.out.below (by have := hsm.out; have := hr.out; simp; omega) HB.out.size)
      clear HD K5 SC ZC HS HF
      go_loopw [6] (fun i wi => ∃ q : Nat, q ≤ 8 ∧ i = nu q ∧ Hid (Below W5.heap.size W5 wi)) (fun i _ => 8 - (intOf i).toNat)
      case atStart => exact ⟨0, by omega, rfl, Below.refl _ _⟩
      case round =>
        obtain ⟨q, hq, rfl, HQ⟩ := hrel
        by_cases hq8 : q < 8
        · have g1 : decide ((q : Int) < 8) = true := decide_eq_true (by omega)
          have HU := hid (used_any (H5.out.kept HQ.out) q)
          have hc1 := H5.out.inv.cnt q
          have hc2 := H5.out.inv.byt q
          have g2 : decide ((256 : Int) < (cntO D q : Int)) = false := decide_eq_false (by omega)
          have g3 : decide ((32768 : Int) < (bytO D q : Int)) = false := decide_eq_false (by omega)
          have hl := sortO_len D q
          have HL := hid hl
          clear hl
          go_wp2_with (first
            | (go_at_call 16; refine HU.out.mono ?_; rintro e W6 ⟨rfl, b6⟩; have B6 := hid b6; have HNu := hid (numbers_any ((H5.out.kept HQ.out).kept b6) q); clear b6)
            | (go_at_call 17; refine HNu.out.mono ?_; rintro e W7 ⟨v7, rfl, i7, b7⟩; obtain ⟨a7, c7, rfl, -⟩ := i7; have B7 := hid b7; rw [HL.out]; clear b7))
          go_roundw
          case rel => exact ⟨q + 1, by omega, by go_num, HQ.out.trans ((B6.out.mono HQ.out.size).trans (B7.out.mono (Nat.le_trans HQ.out.size B6.out.size)))⟩
          case measure => simp [intOf]; omega
        · have g1 : decide ((q : Int) < 8) = false := decide_eq_false (by omega)
          go_wp2
          go_roundw
          case rel => exact ⟨k + 1, hk1.out.1, by go_num, hid (by rw [hP.out]; exact H5.out.kept HQ.out), hid (by rw [hP.out]; obtain ⟨v5, h5⟩ := F5.out; exact ⟨v5, h5.kept HQ.out⟩), B5.out.trans (HQ.out.mono B5.out.size)⟩
          case measure => have := hk1.out; simp [intOf]; omega
    · have HJ := hid (hpb.2.2 hc)
      by_cases hc1 : (k : Int) < (acs.length : Int)
      · have n1 : decide ((k : Int) < (acs.length : Int)) = true := decide_eq_true hc1
        have n1' : decide (k < acs.length) = true := decide_eq_true (by omega)
        have n2 : decide ((k : Int) < 40) = false := decide_eq_false (fun h => hc ⟨hc1, h⟩)
        clear hpb hc hc1
        go_wp2
        go_ret
        exact ⟨rfl, HB.out⟩
      · have n1 : decide ((k : Int) < (acs.length : Int)) = false := decide_eq_false hc1
        have n1' : decide (k < acs.length) = false := decide_eq_false (by omega)
        clear hpb hc hc1
        go_wp2
        go_ret
        exact ⟨rfl, HB.out⟩
end Go.Proofs.Ytjpclmkkccffhaa.Bl
