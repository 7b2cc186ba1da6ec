/-
  The walk of BlobsDo: every call of a store is answered as the document says.
-/
import Derived.Test.YtjpclmkkccffhaaBmd
namespace Go.Proofs.Ytjpclmkkccffhaa.Bl
open Go Go.RowKit Go.Maps
set_option maxRecDepth 100000

set_option maxHeartbeats 4000000 in
theorem does_walk {w : World} {x : Option Addr} {cap : Nat} {acs : List Ac} (h : ActsAt w x acs) (o : Int) : Calls Try.prog 3 #[.slice x acs.length cap, nu o] w fun e w' => e = .returned (.bool true) ∧ Below w.heap.size w w' := by
  have HM := hid (mk_any (cap := cap) h)
  clear h
  go_enter Try.func3, Try.ntmps3
  go_wp2_with (first
    | (go_at_call 8; refine HM.out.mono ?_; rintro e W1 ⟨s, m, r, v, rfl, h1, f1, b1, -⟩; have H1 := hid h1; have F1 := hid f1; have B1 := hid b1; have HA := hid (awake_any W1); clear h1 f1 b1)
    | (go_at_call 9; refine HA.out.mono ?_; rintro e W2 ⟨rfl, b2⟩; have B2 := hid b2; clear b2))
  have H2 := hid (H1.out.kept B2.out)
  have F2 := hid (F1.out.kept B2.out)
  have BB := hid (below_two B1.out B2.out)
  generalize playD acs (min acs.length 40) = L at *
  clear H1 F1 B1 B2 HM HA
  go_loopw [8] (fun i wr => ∃ k : Nat, k ≤ 10 ∧ i = nu ((k : Int) - 1) ∧ Hid (Below W2.heap.size W2 wr)) (fun i _ => 10 - (intOf i + 1).toNat)
  case atStart => exact ⟨0, by omega, rfl, Below.refl _ _⟩
  case round =>
    obtain ⟨k, hk, rfl, HB⟩ := hrel
    by_cases hlt : k < 10
    · have d1 : decide ((k : Int) - 1 < 9) = true := decide_eq_true (by omega)
      have HS := hid (same_any (H2.out.kept HB.out) (F2.out.kept HB.out) ((k : Int) - 1) rfl)
      go_wp2_with (go_at_call 10; refine HS.out.mono ?_; rintro e W3 ⟨rfl, b3⟩; have B3 := hid b3; clear b3)
      go_roundw
      case rel => exact ⟨k + 1, by omega, by go_num, HB.out.trans (B3.out.mono HB.out.size)⟩
      case measure => simp [intOf]; omega
    · have d1 : decide ((k : Int) - 1 < 9) = false := decide_eq_false (by omega)
      have HS := hid (same_any (H2.out.kept HB.out) (F2.out.kept HB.out) o rfl)
      go_wp2_with (go_at_call 10; refine HS.out.mono ?_; rintro e W3 ⟨rfl, b3⟩; have B3 := hid b3; clear b3)
      go_ret
      exact ⟨rfl, BB.out.trans ((HB.out.mono BB.out.size).trans (B3.out.mono (Nat.le_trans BB.out.size HB.out.size)))⟩
end Go.Proofs.Ytjpclmkkccffhaa.Bl
