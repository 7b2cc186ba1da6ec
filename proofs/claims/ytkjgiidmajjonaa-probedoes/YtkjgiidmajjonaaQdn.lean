/-
  container/heap's down and Fix, over a queue.
-/
import Derived.Test.YtkjgiidmajjonaaQup
namespace Go.Proofs.Ytkjgiidmajjonaa.Kn
open Go Go.RowKit
set_option maxRecDepth 100000

section
variable {w w' : World} {pp g cap : Nat} {n me now nx : Int} {L : List En} {S : List Value}
/-- What down leaves. -/
def DnPost (w : World) (pp g cap : Nat) (n me now nx : Int) (L : List En) (S : List Value) (nn i0 : Nat) (b : Bool) (L' : List En) (w' : World) : Prop :=
  (L'.length = L.length ∧ L'.Perm L ∧ (∀ k, nn ≤ k → at_ L' k = at_ L k)) ∧ ((b = true → Hp L' nn) ∧ (b = false → UpI L' nn i0)) ∧ RAt w' pp g cap n me now nx L' S ∧ Kp [g] w w'
theorem dn_out {M : List En} {nn i i0 : Nat} (hX : (i = i0 ∧ FxI M nn i) ∨ (i0 < i ∧ DnI M nn i)) (hl : ∀ k, 0 < k → k < nn → (k - 1) / 2 = i → leE (at_ M i) (at_ M k)) : (decide (i0 < i) = true → Hp M nn) ∧ (decide (i0 < i) = false → UpI M nn i0) := by
  rcases hX with ⟨rfl, h⟩ | ⟨h0, h⟩
  · exact ⟨fun e => by simp at e, fun _ => fx_stop h hl⟩
  · exact ⟨fun _ => dn_stop h hl, fun e => by have := of_decide_eq_false e; omega⟩
theorem dn_on {M : List En} {nn i i0 c : Nat} (hX : (i = i0 ∧ FxI M nn i) ∨ (i0 < i ∧ DnI M nn i)) (hc : (c - 1) / 2 = i) (c0 : 0 < c) (hcn : c < nn) (hn : nn ≤ M.length) (hm : ∀ k, 0 < k → k < nn → (k - 1) / 2 = i → leE (at_ M c) (at_ M k)) (hl : leE (at_ M c) (at_ M i)) : (c = i0 ∧ FxI (swp M i c) nn c) ∨ (i0 < c ∧ DnI (swp M i c) nn c) := by
  have hf : FxI M nn i := hX.elim (fun h => h.2) (fun h => h.2.fx)
  have hi : i0 ≤ i := hX.elim (fun h => by omega) (fun h => by omega)
  exact Or.inr ⟨by omega, dn_step hf hc c0 hcn hn hm hl⟩
theorem swp_far (M : List En) {i c k : Nat} (hi : i < M.length) (hc : c < M.length) (h1 : k ≠ i) (h2 : k ≠ c) : at_ (swp M i c) k = at_ M k := by rw [swp_at M hi hc, if_neg h2, if_neg h1]
set_option maxHeartbeats 16000000 in
theorem down_any (h : RAt w pp g cap n me now nx L S) (hL : L.length ≤ 1000) {i0 nn : Nat} (hnl : nn ≤ L.length) (hi0 : i0 ≤ 1000) (hu : FxI L nn i0) : Calls Try.prog 38 #[qI pp, nu i0, nu nn] w fun e w' => ∃ b L', e = .returned (.bool b) ∧ DnPost w pp g cap n me now nx L S nn i0 b L' w' := by
  have H := hid h
  have K0 := hid (Kp.refl [g] w)
  have U0 := hid hu
  clear h hu
  go_enter Try.func38, Try.ntmps38
  go_wp2
  go_loopw [7] (fun iv wr => ∃ (i : Nat) (M : List En), iv = nu i ∧ i ≤ 1000 ∧ M.length = L.length ∧ M.Perm L ∧ Hid (∀ k, nn ≤ k → at_ M k = at_ L k) ∧ Hid ((i = i0 ∧ FxI M nn i) ∨ (i0 < i ∧ DnI M nn i)) ∧ Hid (RAt wr pp g cap n me now nx M S) ∧ Hid (Kp [g] w wr)) (fun iv _ => 2000 - (intOf iv).toNat)
  case atStart => exact ⟨i0, L, rfl, hi0, rfl, .refl _, hid (fun k _ => rfl), hid (Or.inl ⟨rfl, U0.out⟩), H, K0⟩
  case round =>
    obtain ⟨i, M, rfl, hi, hml, hpm, FR, U, R, K⟩ := hrel
    clear U0 H K0
    have I1 : I64 (2 * (i : Int)) := by unfold I64; omega
    have I2 : I64 (2 * (i : Int) + 1) := by unfold I64; omega
    obtain ⟨c1, hc1⟩ : ∃ c1 : Nat, 2 * i + 1 = c1 := ⟨_, rfl⟩
    have e1 : 2 * (i : Int) + 1 = (c1 : Int) := by omega
    by_cases hA : nn ≤ c1
    · have d0 : decide ((nn : Int) ≤ (c1 : Int)) = true := decide_eq_true (by omega)
      have d0' : decide (nn ≤ c1) = true := decide_eq_true hA
      go_wp2
      go_ret
      exact ⟨_, M, rfl, ⟨hml, hpm, FR.out⟩, dn_out U.out (fun k k0 k1 k2 => by omega), R.out, K.out⟩
    · have d0 : decide ((nn : Int) ≤ (c1 : Int)) = false := decide_eq_false (by omega)
      have d0' : decide (nn ≤ c1) = false := decide_eq_false hA
      have d1 : decide ((c1 : Int) < 0) = false := decide_eq_false (by omega)
      have I3 : I64 ((c1 : Int) + 1) := by unfold I64; omega
      obtain ⟨c2, hc2⟩ : ∃ c2 : Nat, c1 + 1 = c2 := ⟨_, rfl⟩
      have e2 : (c1 : Int) + 1 = (c2 : Int) := by omega
      have him : i < M.length := by omega
      have hc1m : c1 < M.length := by omega
      by_cases hB : c2 < nn
      · have d2 : decide ((c2 : Int) < (nn : Int)) = true := decide_eq_true (by omega)
        have d2' : decide (c2 < nn) = true := decide_eq_true hB
        have hc2m : c2 < M.length := by omega
        cases hlc : ltE (at_ M c2) (at_ M c1) with
        | true =>
          have HM : Hid (∀ k, 0 < k → k < nn → (k - 1) / 2 = i → leE (at_ M c2) (at_ M k)) := hid (fun k k0 k1 k2 => by
            have : k = c1 ∨ k = c2 := by omega
            rcases this with rfl | rfl
            · exact lt_yes hlc
            · exact leE.refl _)
          have HLc := hid (less_any R.out hc2m hc1m)
          rw [hlc] at HLc
          go_wp2_with fail
          refine HLc.out.mono ?_
          rintro e W3 ⟨rfl, bb⟩
          have R3 := hid (R.out.kept bb)
          have K3 := hid (K.out.trans (Kp.of bb))
          clear bb R K HLc
          cases hlt : ltE (at_ M c2) (at_ M i) with
          | false =>
            have HLs := hid (less_any R3.out hc2m him)
            rw [hlt] at HLs
            go_wp2_with fail
            refine HLs.out.mono ?_
            rintro e W4 ⟨rfl, bb⟩
            have R4 := hid (R3.out.kept bb)
            have K4 := hid (K3.out.trans (Kp.of bb))
            clear bb R3 K3 HLs
            go_wp2
            go_ret
            exact ⟨_, M, rfl, ⟨hml, hpm, FR.out⟩, dn_out U.out (fun k k0 k1 k2 => (lt_no.1 hlt).trans (HM.out k k0 k1 k2)), R4.out, K4.out⟩
          | true =>
            have HLs := hid (less_any R3.out hc2m him)
            rw [hlt] at HLs
            go_wp2_with fail
            refine HLs.out.mono ?_
            rintro e W4 ⟨rfl, bb⟩
            have R4 := hid (R3.out.kept bb)
            have K4 := hid (K3.out.trans (Kp.of bb))
            clear bb R3 K3 HLs
            go_wp2_with fail
            refine (swap_any R4.out him hc2m).mono ?_
            rintro e W5 ⟨rfl, r5, k5⟩
            have R5 := hid r5
            have K5 := hid (K4.out.trans k5)
            clear r5 k5 R4 K4
            go_wp2
            refine ⟨⟨c2, swp M i c2, rfl, by omega, by rw [swp_len]; exact hml, (swp_perm M him hc2m).trans hpm, ?_, ?_, R5, K5⟩, by simp [intOf]; omega⟩
            · exact hid (fun k hk => (swp_far M him hc2m (by omega) (by omega)).trans (FR.out k hk))
            · exact hid (dn_on U.out (by omega) (by omega) (by omega) (by omega) HM.out (lt_yes hlt))
        | false =>
          have HM : Hid (∀ k, 0 < k → k < nn → (k - 1) / 2 = i → leE (at_ M c1) (at_ M k)) := hid (fun k k0 k1 k2 => by
            have : k = c1 ∨ k = c2 := by omega
            rcases this with rfl | rfl
            · exact leE.refl _
            · exact lt_no.1 hlc)
          have HLc := hid (less_any R.out hc2m hc1m)
          rw [hlc] at HLc
          go_wp2_with fail
          refine HLc.out.mono ?_
          rintro e W3 ⟨rfl, bb⟩
          have R3 := hid (R.out.kept bb)
          have K3 := hid (K.out.trans (Kp.of bb))
          clear bb R K HLc
          cases hlt : ltE (at_ M c1) (at_ M i) with
          | false =>
            have HLs := hid (less_any R3.out hc1m him)
            rw [hlt] at HLs
            go_wp2_with fail
            refine HLs.out.mono ?_
            rintro e W4 ⟨rfl, bb⟩
            have R4 := hid (R3.out.kept bb)
            have K4 := hid (K3.out.trans (Kp.of bb))
            clear bb R3 K3 HLs
            go_wp2
            go_ret
            exact ⟨_, M, rfl, ⟨hml, hpm, FR.out⟩, dn_out U.out (fun k k0 k1 k2 => (lt_no.1 hlt).trans (HM.out k k0 k1 k2)), R4.out, K4.out⟩
          | true =>
            have HLs := hid (less_any R3.out hc1m him)
            rw [hlt] at HLs
            go_wp2_with fail
            refine HLs.out.mono ?_
            rintro e W4 ⟨rfl, bb⟩
            have R4 := hid (R3.out.kept bb)
            have K4 := hid (K3.out.trans (Kp.of bb))
            clear bb R3 K3 HLs
            go_wp2_with fail
            refine (swap_any R4.out him hc1m).mono ?_
            rintro e W5 ⟨rfl, r5, k5⟩
            have R5 := hid r5
            have K5 := hid (K4.out.trans k5)
            clear r5 k5 R4 K4
            go_wp2
            refine ⟨⟨c1, swp M i c1, rfl, by omega, by rw [swp_len]; exact hml, (swp_perm M him hc1m).trans hpm, ?_, ?_, R5, K5⟩, by simp [intOf]; omega⟩
            · exact hid (fun k hk => (swp_far M him hc1m (by omega) (by omega)).trans (FR.out k hk))
            · exact hid (dn_on U.out (by omega) (by omega) (by omega) (by omega) HM.out (lt_yes hlt))
      · have d2 : decide ((c2 : Int) < (nn : Int)) = false := decide_eq_false (by omega)
        have d2' : decide (c2 < nn) = false := decide_eq_false hB
        have HM : Hid (∀ k, 0 < k → k < nn → (k - 1) / 2 = i → leE (at_ M c1) (at_ M k)) := hid (fun k k0 k1 k2 => by
          have : k = c1 := by omega
          subst this
          exact leE.refl _)
        cases hlt : ltE (at_ M c1) (at_ M i) with
        | false =>
          have HLs := hid (less_any R.out hc1m him)
          rw [hlt] at HLs
          go_wp2_with fail
          refine HLs.out.mono ?_
          rintro e W4 ⟨rfl, bb⟩
          have R4 := hid (R.out.kept bb)
          have K4 := hid (K.out.trans (Kp.of bb))
          clear bb R K HLs
          go_wp2
          go_ret
          exact ⟨_, M, rfl, ⟨hml, hpm, FR.out⟩, dn_out U.out (fun k k0 k1 k2 => (lt_no.1 hlt).trans (HM.out k k0 k1 k2)), R4.out, K4.out⟩
        | true =>
          have HLs := hid (less_any R.out hc1m him)
          rw [hlt] at HLs
          go_wp2_with fail
          refine HLs.out.mono ?_
          rintro e W4 ⟨rfl, bb⟩
          have R4 := hid (R.out.kept bb)
          have K4 := hid (K.out.trans (Kp.of bb))
          clear bb R K HLs
          go_wp2_with fail
          refine (swap_any R4.out him hc1m).mono ?_
          rintro e W5 ⟨rfl, r5, k5⟩
          have R5 := hid r5
          have K5 := hid (K4.out.trans k5)
          clear r5 k5 R4 K4
          go_wp2
          refine ⟨⟨c1, swp M i c1, rfl, by omega, by rw [swp_len]; exact hml, (swp_perm M him hc1m).trans hpm, ?_, ?_, R5, K5⟩, by simp [intOf]; omega⟩
          · exact hid (fun k hk => (swp_far M him hc1m (by omega) (by omega)).trans (FR.out k hk))
          · exact hid (dn_on U.out (by omega) (by omega) (by omega) (by omega) HM.out (lt_yes hlt))
theorem fix_any (h : RAt w pp g cap n me now nx L S) (hL : L.length ≤ 1000) {i : Nat} (hi : i < L.length) (hu : FxI L L.length i) : Calls Try.prog 35 #[qI pp, nu i] w fun e w' => e = .returned (.tuple #[]) ∧ ∃ L', (L'.Perm L ∧ Hp L' L'.length) ∧ RAt w' pp g cap n me now nx L' S ∧ Kp [g] w w' := by
  have HLe := hid (len_any h)
  have HD := hid (down_any h hL (Nat.le_refl _) (by omega) hu)
  clear h hu
  go_enter Try.func35, Try.ntmps35
  go_wp2_with fail
  refine HLe.out.mono ?_
  rintro e W1 ⟨rfl, hw⟩
  subst W1
  go_wp2_with fail
  refine HD.out.mono ?_
  rintro e W2 ⟨b, L2, rfl, ⟨hl2, hp2, -⟩, ⟨hb1, hb0⟩, r2, k2⟩
  have R2 := hid r2
  have K2 := hid k2
  clear r2 k2 HD HLe
  cases b with
  | true =>
    have HB := hid (hb1 rfl)
    clear hb1 hb0
    go_wp2
    refine bodyPost_end (results_none rfl _ _ _) rfl ?_
    exact ⟨rfl, L2, ⟨hp2, by rw [hl2]; exact HB.out⟩, R2.out, K2.out⟩
  | false =>
    have HB := hid (hb0 rfl)
    clear hb1 hb0
    have HU := hid (up_any R2.out (by omega) (show i < L2.length by omega) (by rw [hl2]; exact HB.out))
    go_wp2_with fail
    refine HU.out.mono ?_
    rintro e W3 ⟨rfl, L3, hp3, r3, k3⟩
    have R3 := hid r3
    have K3 := hid (K2.out.trans k3)
    clear r3 k3 HU R2 K2
    go_wp2
    refine bodyPost_end (results_none rfl _ _ _) rfl ?_
    exact ⟨rfl, L3, ⟨hp3.1.trans hp2, hp3.2⟩, R3.out, K3.out⟩
end
end Go.Proofs.Ytkjgiidmajjonaa.Kn
