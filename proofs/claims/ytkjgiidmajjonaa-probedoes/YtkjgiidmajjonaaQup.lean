/-
  container/heap's up, over a queue.
-/
import Derived.Test.YtkjgiidmajjonaaQls
import Derived.Handy
namespace Go.Proofs.Ytkjgiidmajjonaa.Kn
open Go Go.RowKit
set_option maxRecDepth 100000

/-- A queue as an interface's value. -/
abbrev qI (pp : Nat) : Value := .iface 56 (pt pp 4)
theorem half_td (j : Nat) : ((j : Int) - 1).tdiv 2 = (((j - 1) / 2 : Nat) : Int) := by
  by_cases h : j = 0
  · subst h; decide
  · rw [Int.tdiv_eq_ediv_of_nonneg (by omega)]; omega
section
variable {w w' : World} {pp g cap : Nat} {n me now nx : Int} {L : List En} {S : List Value}
theorem RAt.below_kp (h : RAt w pp g cap n me now nx L S) {X : List Nat} {w0 : World} (hk : Kp X w0 w) (hb : Below w.heap.size w w') : RAt w' pp g cap n me now nx L S ∧ Kp X w0 w' := ⟨h.kept hb, hk.trans (Kp.of hb)⟩
set_option maxHeartbeats 8000000 in
theorem up_any (h : RAt w pp g cap n me now nx L S) (hL : L.length ≤ 1000) {j0 : Nat} (hj : j0 < L.length) (hu : UpI L L.length j0) : Calls Try.prog 31 #[qI pp, nu j0] w fun e w' => e = .returned (.tuple #[]) ∧ ∃ L', (L'.Perm L ∧ Hp L' L'.length) ∧ RAt w' pp g cap n me now nx L' S ∧ Kp [g] w w' := by
  have H := hid h
  have K0 := hid (Kp.refl [g] w)
  have U0 := hid hu
  clear h hu
  go_enter Try.func31, Try.ntmps31
  go_wp2
  go_loopw [1] (fun jv wr => ∃ (j : Nat) (M : List En), jv = nu j ∧ j < L.length ∧ M.length = L.length ∧ M.Perm L ∧ Hid (UpI M L.length j) ∧ Hid (RAt wr pp g cap n me now nx M S) ∧ Hid (Kp [g] w wr)) (fun jv _ => (intOf jv).toNat)
  case atStart => exact ⟨j0, L, rfl, hj, rfl, .refl _, U0, H, K0⟩
  case round =>
    obtain ⟨j, M, rfl, hjl, hml, hpm, U, R, K⟩ := hrel
    clear U0 H K0
    have ht := half_td j
    have I1 : I64 ((j : Int) - 1) := by unfold I64; omega
    have hwr : IntKind.i64.wrap (((j - 1) / 2 : Nat) : Int) = (((j - 1) / 2 : Nat) : Int) := by rw [IntKind.wrap_i64]; omega
    by_cases h0 : j = 0
    · subst h0
      have d0 : ((((0 - 1) / 2 : Nat) : Int) == ((0 : Nat) : Int)) = true := by decide
      go_wp2
      refine bodyPost_end (results_none rfl _ _ _) rfl ?_
      exact ⟨rfl, M, ⟨hpm, by rw [hml]; exact up_top U.out⟩, R.out, K.out⟩
    · obtain ⟨i, hi⟩ : ∃ i, (j - 1) / 2 = i := ⟨_, rfl⟩
      rw [hi] at ht hwr
      have hij : i < j := by omega
      have d0 : ((i : Int) == (j : Int)) = false := by rw [beq_eq_false_iff_ne]; omega
      have d0' : decide (i = j) = false := decide_eq_false (by omega)
      have hil : i < M.length := by omega
      have hjm : j < M.length := by omega
      cases hlt : ltE (at_ M j) (at_ M i) with
      | false =>
        have HLs := hid (less_any R.out hjm hil)
        rw [hlt] at HLs
        go_wp2_with fail
        refine HLs.out.mono ?_
        rintro e W2 ⟨rfl, bb⟩
        have R2 := hid (R.out.kept bb)
        have K2 := hid (K.out.trans (Kp.of bb))
        clear bb R K HLs
        go_wp2
        refine bodyPost_end (results_none rfl _ _ _) rfl ?_
        refine ⟨rfl, M, ⟨hpm, ?_⟩, R2.out, K2.out⟩
        rw [hml]
        refine up_stop U.out ?_
        rw [hi]
        exact lt_no.1 hlt
      | true =>
        have HLs := hid (less_any R.out hjm hil)
        rw [hlt] at HLs
        go_wp2_with fail
        refine HLs.out.mono ?_
        rintro e W2 ⟨rfl, bb⟩
        have R2 := hid (R.out.kept bb)
        have K2 := hid (K.out.trans (Kp.of bb))
        clear bb R K HLs
        go_wp2_with fail
        refine (swap_any R2.out hil hjm).mono ?_
        rintro e W3 ⟨rfl, r3, k3⟩
        have R3 := hid r3
        have K3 := hid (K2.out.trans k3)
        clear r3 k3 R2 K2
        go_wp2
        refine ⟨⟨i, swp M i j, rfl, by omega, by rw [swp_len]; exact hml, (swp_perm M hil hjm).trans hpm, ?_, R3, K3⟩, by simp [intOf]; omega⟩
        exact hid (up_step U.out (by omega) (by omega) (by omega) hi.symm (lt_yes hlt))
end
end Go.Proofs.Ytkjgiidmajjonaa.Kn
