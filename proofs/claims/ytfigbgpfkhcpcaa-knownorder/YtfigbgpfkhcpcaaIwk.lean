/-
  What must come at any rate: the law's awake answers true.
-/
import Derived.Test.YtfigbgpfkhcpcaaIwa
namespace Go.Proofs.Ytfigbgpfkhcpcaa.Kn
open Go Go.RowKit
set_option maxRecDepth 100000

set_option maxHeartbeats 4000000 in
theorem awake_core {w : World} {p : Nat} {D5 D0 : List Value} (S1 S2 : World → Prop)
    (HN : Hid (Calls Try.prog 27 #[nu 2, nu 0] w fun e w' => e = .returned (.tuple #[pt p 0, nu 0]) ∧ S1 w' ∧ Below w.heap.size w w'))
    (HL1 : Hid (∀ W, S1 W → Calls Try.prog 29 #[pt p 0, nu 1, nu 1, .string ⟨#[0, 1]⟩, .agg D5.toArray] W fun e w' => e = .returned (nu 0) ∧ S2 w' ∧ Kp [p] W w'))
    (HL2 : Hid (∀ W, S2 W → Calls Try.prog 29 #[pt p 0, nu 1, nu 1, .string ⟨#[1]⟩, .agg D0.toArray] W fun e w' => e = .returned (nu 8) ∧ S2 w' ∧ Kp [p] W w'))
    (HLg : Hid (∀ W, S2 W → Calls Try.prog 15 #[pt p 0] W fun e w' => e = .returned (.tuple #[.string ⟨#[0, 1]⟩, nu 1, .agg D5.toArray]) ∧ Below W.heap.size W w'))
    (HSt : Hid (∀ W, S2 W → Calls Try.prog 18 #[pt p 0] W fun e w' => ∃ g, e = .returned (.slice (some ⟨g, 0, none⟩) 2 2) ∧ W.heap.size ≤ g ∧ w'.heap[g]? = some (.cells #[nu 0, nu 1] 3) ∧ Below W.heap.size W w'))
    (HCu : Hid (∀ W, S2 W → Calls Try.prog 20 #[pt p 0] W fun e w' => e = .returned (nu 0) ∧ Below W.heap.size W w'))
    (HSe : Hid (∀ W, S2 W → Calls Try.prog 22 #[pt p 0] W fun e w' => e = .returned (nu 1) ∧ Below W.heap.size W w'))
    (HIn : Hid (∀ W g g', W.heap[g]? = some (.cells #[nu 0, nu 1] 3) → W.heap[g']? = some (.cells #[nu 0, nu 1] 3) → Calls Try.prog 17 #[.slice (some ⟨g, 0, none⟩) 2 2, .slice (some ⟨g', 0, none⟩) 2 2] W fun e w' => e = .returned (.bool true) ∧ Below W.heap.size W w'))
    (HK : Hid (∀ W W', S2 W → Below W.heap.size W W' → S2 W')) (hp : w.heap.size ≤ p) (HPl : Hid (∀ W, S2 W → p < W.heap.size)) (HKb : Hid (∀ W W' x, S2 W → p ≠ x → But x W W' → S2 W'))
    (HB5 : Hid (∀ W, (Instr.build 32 #[(0, .int .u8 5)]).run Try.prog W = .ok (.agg D5.toArray) W)) (HB0 : Hid (∀ W, (Instr.build 32 #[]).run Try.prog W = .ok (.agg D0.toArray) W))
    (hz : (Try.prog.info? 32).map (·.zero) = some (some (.agg D0.toArray))) (LD : D0.length = D5.length) (OD : Hid (∀ u ∈ D5, u.oneCell' = true)) (ZD : Hid ((Try.prog.info? 32).map (·.size) = some D5.length)) (hd5 : Hid (D5[0]? = some (.int .u8 5))) :
    Calls Try.prog 10 #[] w fun e w' => e = .returned (.bool true) ∧ Below w.heap.size w w' := by
  have HP := hid hp
  go_enter Try.func10, Try.ntmps10
  go_wp2_with fail
  refine HN.out.mono ?_
  rintro e W1 ⟨rfl, s1, b1⟩
  have B1 := hid b1
  clear b1
  go_wp2_with ((with_reducible refine wl_buildY 32 [(0, .const (.int .u8 5))] ?_ ?_ D5.toArray ?_ ?_); exact rfl; exact rfl; exact HB5.out _)
  refine (HL1.out _ s1).mono ?_
  rintro e W2 ⟨rfl, s2, k2⟩
  have S2' := hid s2
  have B2 := hid (B1.out.trans (k2.below (by simpa using HP.out) B1.out.size))
  clear k2 s2
  go_wp2_with ((with_reducible refine wl_buildY 32 [] ?_ ?_ D0.toArray ?_ ?_); exact rfl; exact rfl; exact HB0.out _)
  refine (HL2.out _ S2'.out).mono ?_
  rintro e W3 ⟨rfl, s3, k3⟩
  have S3 := hid s3
  have B3 := hid (B2.out.trans (k3.below (by simpa using HP.out) B2.out.size))
  clear k3 s3 S2' B2 B1
  go_wp2_with fail
  refine (HLg.out _ S3.out).mono ?_
  rintro e W4 ⟨rfl, b4⟩
  have S4 := hid (HK.out _ _ S3.out b4)
  have B4 := hid (below_twoY B3.out b4 B3.out.size)
  clear b4 S3 B3
  obtain ⟨X, hX⟩ : ∃ X, W4.heap.size = X := ⟨_, rfl⟩
  have T5 := hid (top_obj W4 (.cells D0.toArray 32))
  have S5 := hid (HK.out _ _ S4.out (below_a1 W4 (.cells D0.toArray 32)))
  have B5 := hid (B4.out.alloc B4.out.size (.cells D0.toArray 32))
  have hXw : w.heap.size ≤ X := by rw [← hX]; exact B4.out.size
  rw [hX] at T5
  have HXe := hid hX
  clear hX
  go_upto_region 5 with (first
    | ((with_reducible refine wl_alloc 32 ?_ ?_ D0.toArray hz ?_); exact rfl; exact rfl; rw [HXe.out]; try simp only [Act.put, List.setIfInBounds_toArray, List.set_cons_zero, List.set_cons_succ])
    | ((with_reducible refine wl_put 32 (.tmp 5) (.tmp 33) ?_ ?_ X 0 ?_ ?_ [] D5 D0 [] ?_ 32 (row_nilY T5.out) rfl LD OD.out ZD.out ?_); exact rfl; exact rfl; exact rfl; exact rfl; exact rfl; intro W6 r6 b6))
  have hpX : p ≠ X := by have := HPl.out _ S4.out; have := HXe.out; omega
  have S6 := hid (HKb.out _ _ X S5.out hpX b6)
  have B6 := hid (b6.below B5.out hXw)
  have R6 : Hid (W6.heap[X]? = some (.cells D5.toArray 32)) := by
    show _ = _
    simpa using r6
  clear r6 b6 S5 B5 T5 S4 B4
  go_wp2_with fail
  refine (HSt.out _ S6.out).mono ?_
  rintro e W7 ⟨g, rfl, hg, hr7, b7⟩
  have S7 := hid (HK.out _ _ S6.out b7)
  have B7 := hid (below_twoY B6.out b7 B6.out.size)
  have R7 := hid (row_kept R6.out b7)
  have S8 := hid (HK.out _ _ S7.out (below_a1 W7 (.cells #[nu 0, nu 1] 3)))
  have B8 := hid (B7.out.alloc B7.out.size (.cells #[nu 0, nu 1] 3))
  have R8 := hid (row_kept R7.out (below_a1 W7 (.cells #[nu 0, nu 1] 3)))
  have HI8 := hid (HIn.out _ g W7.heap.size (row_kept hr7 (below_a1 W7 (.cells #[nu 0, nu 1] 3))) (top_obj W7 (.cells #[nu 0, nu 1] 3)))
  clear S6 B6 R6 S7 B7 R7 hr7 hg b7
  go_wp2_with fail
  refine HI8.out.mono ?_
  rintro e W9 ⟨rfl, b9⟩
  have S9 := hid (HK.out _ _ S8.out b9)
  have B9 := hid (below_twoY B8.out b9 B8.out.size)
  have R9 := hid (row_kept R8.out b9)
  clear b9 S8 B8 R8 HI8
  go_wp2_with fail
  refine (HCu.out _ S9.out).mono ?_
  rintro e W10 ⟨rfl, b10⟩
  have S10 := hid (HK.out _ _ S9.out b10)
  have B10 := hid (below_twoY B9.out b10 B9.out.size)
  have R10 := hid (row_kept R9.out b10)
  clear b10 S9 B9 R9
  go_wp2_with fail
  refine (HSe.out _ S10.out).mono ?_
  rintro e W11 ⟨rfl, b11⟩
  have B11 := hid (below_twoY B10.out b11 B10.out.size)
  have R11 := hid (row_kept R10.out b11)
  have t0 : W11.cell? ⟨X, 0, none⟩ = some (.int .u8 5) := row_zeroY R11.out 0 _ hd5.out
  clear b11 S10 B10 R10
  go_wp2
  go_ret
  exact ⟨rfl, B11.out⟩
theorem awake_any (w : World) : Calls Try.prog 10 #[] w fun e w' => e = .returned (.bool true) ∧ Below w.heap.size w w' := by
  refine awake_core (p := w.heap.size) (D5 := dg tg5) (D0 := dg (List.replicate 32 0)) (fun W => KAt W w.heap.size 2 0 []) (fun W => KAt W w.heap.size 2 0 [ln1])
    (new_ok 2 0 (by decide) (by decide) (by decide) w)
    (fun W hW => ?_) (fun W hW => ?_) (fun W hW => ?_) (fun W hW => ?_) (fun W hW => ?_) (fun W hW => ?_) (fun W g g' h1 h2 => ?_) (fun W W' hW hb => hW.kept hb) (Nat.le_refl _) (fun W hW => hW.lt) (fun W W' x hW hx hb => ⟨hb.row hW.obj hx, hW.inv, hW.n2, hW.n8, hW.hme⟩) build_tg5 build_dg zeroDg rfl (one_dg tg5) (sizeDg (d := tg5) (by decide)) rfl
  · have h := learn_any hW ln1 rfl (by decide)
    unfold LnPost at h
    rw [show learnE (2 : Nat) [] ln1 = 0 from a_1, show learnL (2 : Nat) [] ln1 = [ln1] from a_2] at h
    exact h
  · have h := learn_any hW ln2 rfl (by decide)
    unfold LnPost at h
    rw [show learnE (2 : Nat) [ln1] ln2 = 8 from a_3, show learnL (2 : Nat) [ln1] ln2 = [ln1] from a_4] at h
    exact h
  · have h := longest_any hW
    rw [a_5, a_6, a_7] at h
    exact h
  · have h := stable_any hW
    rw [show stL 2 ((0 : Nat) : Int) [ln1] = [0, 1] from a_8] at h
    exact h
  · have h := cut_any hW
    rw [show cutN 2 ((0 : Nat) : Int) [ln1] = 0 from a_9] at h
    exact h
  · have h := seen_any hW
    rw [a_10] at h
    exact h
  · exact (rints_any (ints_row (l := [0, 1]) 2 h1) (ints_row (l := [0, 1]) 2 h2) (by decide)).mono fun e w' hq => ⟨by rw [hq.1]; rfl, hq.2⟩
end Go.Proofs.Ytfigbgpfkhcpcaa.Kn
