/-
  The walk of KnownForks: two views that do not fit are never both learned.
-/
import Derived.Test.YtfigbgpfkhcpcaaWkn
namespace Go.Proofs.Ytfigbgpfkhcpcaa.Kn
open Go Go.RowKit
set_option maxRecDepth 100000

theorem learn_vals (n : Int) (L : List Ln) (x : Ln) : learnE n L x = 0 ∨ learnE n L x = 2 ∨ learnE n L x = 8 := by
  rcases learn_cases n L x with ⟨-, e, -⟩ | ⟨-, -, e, -⟩ | ⟨-, -, e, -⟩ <;> rw [e] <;> simp
set_option maxHeartbeats 16000000 in
theorem forks_core {w : World} {a b : Ln} {SV : Value} {S0 S1 : Nat → World → Prop} {E1 E2 : Int} {FT : Bool} (ha : a.Wf) (hb : b.Wf)
    (HM : Hid (∀ W, Below w.heap.size w W → Calls Try.prog 9 #[nu 4, nu 0, SV] W fun e w' => ∃ p q, e = .returned (.tuple #[pt p 0, pt q 0, .bool true]) ∧ S0 p w' ∧ Below W.heap.size W w' ∧ W.heap.size ≤ p))
    (HL1 : Hid (∀ p W1, S0 p W1 → a.view.length ≤ 600 → Calls Try.prog 29 #[pt p 0, nu a.fro, nu a.byc, st a.view, .agg (dg a.tag).toArray] W1 fun e w' => e = .returned (nu E1) ∧ S1 p w' ∧ Kp [p] W1 w'))
    (HL2 : Hid (∀ p W1, S1 p W1 → b.view.length ≤ 600 → Calls Try.prog 29 #[pt p 0, nu b.fro, nu b.byc, st b.view, .agg (dg b.tag).toArray] W1 fun e w' => e = .returned (nu E2) ∧ Kp [p] W1 w'))
    (HA : Hid (∀ W, Calls Try.prog 10 #[] W fun e w' => e = .returned (.bool true) ∧ Below W.heap.size W w'))
    (HF : Hid (a.view.length ≤ 600 → b.view.length ≤ 600 → ∀ W, Calls Try.prog 30 #[st a.view, st b.view] W fun e w' => e = .returned (.bool FT) ∧ Below W.heap.size W w'))
    (HK : Hid (∀ p W W', S0 p W → Below W.heap.size W W' → S0 p W'))
    (hE : FT = true ∨ (FT = false ∧ (E1 != 0) = true) ∨ (FT = false ∧ (E1 != 0) = false ∧ (E2 != 0) = true)) :
    Calls Try.prog 7 #[.agg (lnC a).toArray, .agg (lnC b).toArray, SV] w fun e w' => e = .returned (.bool true) ∧ Below w.heap.size w w' := by
  have B0 := hid (below_a1 w (.cells (lnC a).toArray 36))
  have R0 := hid (top_obj w (.cells (lnC a).toArray 36))
  obtain ⟨W0, hW0⟩ : ∃ W0, w.alloc (.cells (lnC a).toArray 36) = W0 := ⟨_, rfl⟩
  rw [hW0] at B0 R0
  have B1 := hid (B0.out.alloc B0.out.size (.cells (lnC b).toArray 36))
  have T1 := hid (top_obj W0 (.cells (lnC b).toArray 36))
  have R1 := hid (row_kept R0.out (below_a1 W0 (.cells (lnC b).toArray 36)))
  obtain ⟨Y, hY⟩ : ∃ Y, W0.heap.size = Y := ⟨_, rfl⟩
  rw [hY] at T1
  have hsY : w.heap.size + 1 = Y := by rw [← hY, ← hW0]; simp
  have ZA := hid (sizeDg ha)
  have ZB := hid (sizeDg hb)
  obtain ⟨fa, ba, va, ta⟩ := a
  obtain ⟨fb, bb, vb, tb⟩ := b
  simp only at *
  go_enter Try.func7, Try.ntmps7
  go_upto_region 1 with fail
  try rw [hW0]
  generalize W0.alloc (.cells (lnC ⟨fb, bb, vb, tb⟩).toArray 36) = W1 at *
  have HsY := hid hsY
  clear hY hW0 hsY B0 R0
  have C1 := hid (fun W (hb : Below W1.heap.size W1 W) => And.intro (lrow_o (row_kept R1.out hb)) (And.intro (lrow_n (row_kept R1.out hb)) (And.intro (lrow_c (row_kept R1.out hb)) (lrow_t (row_kept R1.out hb)))))
  have C2 := hid (fun W (hb : Below W1.heap.size W1 W) => And.intro (lrow_o (row_kept T1.out hb)) (And.intro (lrow_n (row_kept T1.out hb)) (And.intro (lrow_c (row_kept T1.out hb)) (lrow_t (row_kept T1.out hb)))))
  go_wp2_with fail
  refine (HM.out _ B1.out).mono ?_
  rintro e W2 ⟨p, q, rfl, s2, b2, hp⟩
  have S2' := hid s2
  have B2 := hid b2
  have HP := hid hp
  clear s2 b2 hp HM
  go_wp2_with fail
  refine (HA.out _).mono ?_
  rintro e W3 ⟨rfl, b3⟩
  have S3 := hid (HK.out _ _ _ S2'.out b3)
  have B3 := hid (below_two B2.out b3)
  clear b3 S2' B2
  have c1 := (C1.out _ B3.out).1
  have c2 := (C1.out _ B3.out).2.1
  have c3 := (C1.out _ B3.out).2.2.1
  have e3 := (C2.out _ B3.out).2.2.1
  have hsa : (⟨va.toArray⟩ : ByteArray).size = va.length := rfl
  have hsb : (⟨vb.toArray⟩ : ByteArray).size = vb.length := rfl
  by_cases ha6 : va.length ≤ 600
  · have d1 : decide ((600 : Int) < (va.length : Int)) = false := decide_eq_false (by omega)
    have d1' : decide (600 < va.length) = false := decide_eq_false (by omega)
    by_cases hb6 : vb.length ≤ 600
    · have d2 : decide ((600 : Int) < (vb.length : Int)) = false := decide_eq_false (by omega)
      have d2' : decide (600 < vb.length) = false := decide_eq_false (by omega)
      have K4 := hid (fun j y hj => (C1.out _ B3.out).2.2.2 j y hj)
      have HLa := hid (HL1.out _ _ S3.out ha6)
      have HFT := hid (HF.out ha6 hb6)
      generalize va.length = la at *
      generalize vb.length = lb at *
      clear ha6
      go_wp2_with ((with_reducible refine wl_load 32 (.tmp 51) ?_ w.heap.size 3 ?_ ?_ (dg ta) _ K4.out Try.underlying32 ?_ ZA.out ?_); exact rfl; exact rfl; exact rfl; exact rfl)
      refine HLa.out.mono ?_
      rintro e W4 ⟨rfl, s4, k4⟩
      have B4 : Hid (Below W1.heap.size W1 W4) := B3.out.trans (k4.below (by simpa using HP.out) B3.out.size)
      have HLb := hid (HL2.out _ _ s4 hb6)
      clear s4 k4 c1 c2 c3 e3 K4 hb6
      have f1 := (C2.out _ B4.out).1
      have f2 := (C2.out _ B4.out).2.1
      have f3 := (C2.out _ B4.out).2.2.1
      have K5 := hid (fun j y hj => (C2.out _ B4.out).2.2.2 j y hj)
      go_wp2_with ((with_reducible refine wl_load 32 (.tmp 61) ?_ Y 3 ?_ ?_ (dg tb) _ K5.out Try.underlying32 ?_ ZB.out ?_); exact rfl; exact rfl; exact rfl; exact rfl)
      refine HLb.out.mono ?_
      rintro e W5 ⟨rfl, k5⟩
      have B5 : Hid (Below W1.heap.size W1 W5) := B4.out.trans (k5.below (by simpa using HP.out) B4.out.size)
      clear k5 f1 f2 f3 K5
      have g1 := (C1.out _ B5.out).2.2.1
      have g2 := (C2.out _ B5.out).2.2.1
      have BB := hid (below_twoY B1.out B5.out B1.out.size)
      go_wp2_with fail
      refine (HFT.out _).mono ?_
      rintro e W6 ⟨rfl, b6⟩
      have B6 := hid (below_twoY BB.out b6 BB.out.size)
      clear b6
      rcases hE with e0 | ⟨e0, e1⟩ | ⟨e0, e1, e2⟩
      · subst e0
        go_wp2
        go_ret
        exact ⟨rfl, B6.out⟩
      · subst e0
        go_wp2
        go_ret
        exact ⟨rfl, B6.out⟩
      · subst e0
        go_wp2
        go_ret
        exact ⟨rfl, B6.out⟩
    · have d2 : decide ((600 : Int) < (vb.length : Int)) = true := decide_eq_true (by omega)
      have d2' : decide (600 < vb.length) = true := decide_eq_true (by omega)
      generalize va.length = la at *
      generalize vb.length = lb at *
      clear ha6 hb6
      have BB := hid (below_twoY B1.out B3.out B1.out.size)
      go_wp2_with fail
      refine (HA.out _).mono ?_
      rintro e W6 ⟨rfl, b6⟩
      have B6 := hid (below_twoY BB.out b6 BB.out.size)
      clear b6
      go_wp2
      go_ret
      exact ⟨rfl, B6.out⟩
  · have d1 : decide ((600 : Int) < (va.length : Int)) = true := decide_eq_true (by omega)
    have d1' : decide (600 < va.length) = true := decide_eq_true (by omega)
    generalize va.length = la at *
    generalize vb.length = lb at *
    clear ha6
    have BB := hid (below_twoY B1.out B3.out B1.out.size)
    go_wp2_with fail
    refine (HA.out _).mono ?_
    rintro e W6 ⟨rfl, b6⟩
    have B6 := hid (below_twoY BB.out b6 BB.out.size)
    clear b6
    go_wp2
    go_ret
    exact ⟨rfl, B6.out⟩
theorem forks_walk (w : World) (a b : Ln) (ha : a.Wf) (hb : b.Wf) {ad : Option Addr} {M : List Ln} {cap : Nat} (hM : LinesAt w ad M) :
    Calls Try.prog 7 #[.agg (lnC a).toArray, .agg (lnC b).toArray, .slice ad M.length cap] w fun e w' => e = .returned (.bool true) ∧ Below w.heap.size w w' := by
  obtain ⟨L, hL⟩ : ∃ L, allL (4 : Nat) (fewL M) = L := ⟨_, rfl⟩
  have hpi : PI (4 : Nat) L := by
    rw [← hL]
    exact all_pi _ _ fun x hx => hM.1 x (few_mem M x hx)
  refine forks_core (S0 := fun p W => KAt W p 4 0 L) (S1 := fun p W => KAt W p 4 0 (learnL (4 : Nat) L a)) (E1 := learnE (4 : Nat) L a) (E2 := learnE (4 : Nat) (learnL (4 : Nat) L a) b) (FT := Hist.fitB a.view b.view) ha hb ?_ ?_ ?_ ?_ ?_ ?_ ?_
  · refine hid fun W hb' => ?_
    refine (made_ok 4 0 (by decide) (by decide) (by decide) (hM.kept hb')).mono ?_
    rintro e w' ⟨p, q, v, rfl, k, -, hp, -, b'⟩
    rw [hL] at k
    exact ⟨p, q, rfl, k, b', hp⟩
  · refine hid fun p W1 k h6 => ?_
    refine (learn_any k a ha (by omega)).mono ?_
    rintro e w' ⟨rfl, k', kp⟩
    exact ⟨rfl, k', kp⟩
  · refine hid fun p W1 k h6 => ?_
    refine (learn_any k b hb (by omega)).mono ?_
    rintro e w' ⟨rfl, k', kp⟩
    exact ⟨rfl, kp⟩
  · exact hid fun W => awake_any W
  · exact hid fun h1 h2 W => Hist.rfit_any _ _ (by omega) (by omega) W
  · exact hid fun p W W' k b' => k.kept b'
  · cases hf : Hist.fitB a.view b.view with
    | true => exact Or.inl rfl
    | false =>
      right
      by_cases h1 : learnE (4 : Nat) L a = 0
      · by_cases h2 : learnE (4 : Nat) (learnL (4 : Nat) L a) b = 0
        · have := forks_plain hpi ha hb h1 h2
          rw [hf] at this
          cases this
        · exact Or.inr ⟨rfl, by rw [h1]; rfl, by simpa using h2⟩
      · exact Or.inl ⟨rfl, by simpa using h1⟩
end Go.Proofs.Ytfigbgpfkhcpcaa.Kn
