/-
  The laws of probe at every input.
-/
import Derived.Test.YtkjgiidmajjonaaQtw
import Derived.Test.YtkjgiidmajjonaaWpn
import Derived.Test.YtkjgiidmajjonaaWpi
import Derived.Test.YtkjgiidmajjonaaWps
import Derived.Test.YtkjgiidmajjonaaWpp
namespace Go.Proofs.Ytkjgiidmajjonaa.Kn
open Go Go.RowKit
set_option maxRecDepth 100000

section
variable {base n me pp : Nat} {F : List Nat} {p : Pb} {W W' : World}
theorem KS.kept (h : KS base n me pp F p W) (hb : Below W.heap.size W W') : KS base n me pp F p W' := by
  obtain ⟨g, cap, L, S, e, hge, R, P, hx⟩ := h
  exact ⟨g, cap, L, S, e, hge, R.kept hb, P, hx⟩
theorem KS.kp {X : List Nat} (h : KS base n me pp F p W) (hk : Kp X W W') (hX : ∀ x ∈ X, x ∉ F) : KS base n me pp F p W' := by
  obtain ⟨g, cap, L, S, rfl, hge, R, P, hx⟩ := h
  exact ⟨g, cap, L, S, rfl, hge, R.kp hk (fun e => hX _ e (by simp)) (fun e => hX _ e (by simp)), P, hx⟩
theorem KS.above (h : KS base n me pp F p W) : ∀ x ∈ F, base ≤ x ∧ x < W.heap.size := by
  obtain ⟨g, cap, L, S, rfl, hge, R, P, hx⟩ := h
  have hl := R.lt
  intro x hm
  simp at hm
  rcases hm with rfl | rfl
  · exact ⟨hge.1, hl.1⟩
  · exact ⟨hge.2, hl.2⟩
theorem KS.low (h : KS base n me pp F p W) : base ≤ W.heap.size := by
  obtain ⟨g, cap, L, S, rfl, hge, R, P, hx⟩ := h
  have hl := R.lt
  omega
theorem next_ks (h : KS base n me pp F p W) (h2 : 2 ≤ n) : Calls Try.prog 12 #[pt pp 0] W fun e w' => e = .returned (nu p.next) ∧ Below W.heap.size W w' := by
  obtain ⟨g, cap, L, S, rfl, hge, R, P, hx⟩ := h
  refine (next_any R (by omega)).mono ?_
  rintro e w' ⟨rfl, rfl⟩
  exact ⟨rfl, Below.refl _ _⟩
end
theorem awake_any (w : World) : Calls Try.prog 9 #[] w fun e w' => e = .returned (.bool true) ∧ Below w.heap.size w w' :=
  pawake_core (KS := KS w.heap.size 3 0) (hid (new_ok (n := 3) (me := 0) (by decide) (by decide) (by decide))) (hid fun _ _ _ _ _ h hb => h.kept hb) (hid fun _ _ _ _ h => h.above)
    (hid fun pp F k W hk h => (tick_any h h.low (by decide) (by decide) (by decide) (by rw [sA_now]; omega) false).mono fun e w' hq => by
      obtain ⟨F', u, h1, h2, h3, h4, h5, h6⟩ := hq
      exact ⟨F', u, h1, h2, h3, h4, fun b hb => ⟨(h5 b hb).2.1, (h5 b hb).2.2⟩, h6⟩)
    (hid fun _ _ _ _ h => next_ks h (by decide)) (hid fun _ _ _ h => due_any h (by decide) (by decide) 1)
theorem none_walk (w : World) (n : Int) (b : Bool) : Calls Try.prog 7 #[nu n, .bool b] w fun e w' => e = .returned (.bool true) ∧ Below w.heap.size w w' :=
  pnone_core n b (hid awake_any) (hid fun W => tick_nil W b) (hid fun W => heard_nil W n) (hid asked_nil) (hid next_nil) (hid fun W => due_nil W n)
section
variable {w : World} {ad : Option Addr} {M : List (Int × Int)} {cap : Nat}
theorem new_at_base {n me : Nat} (h2 : 2 ≤ n) (h8 : n ≤ 8) (hm : me < n) (W : World) (hb : Below w.heap.size w W) : Calls Try.prog 8 #[nu n, nu me] W fun e w' => ∃ pp F, e = .returned (.tuple #[pt pp 0, nu 0]) ∧ KS w.heap.size n me pp F (newPb n me) w' ∧ Below W.heap.size W w' := by
  refine (new_ok h2 h8 hm).mono ?_
  rintro e w' ⟨pp, F, rfl, ⟨g, cp, L, S, e, hge, R, P, hx⟩, bb⟩
  have := hb.size
  exact ⟨pp, F, rfl, ⟨g, cp, L, S, e, ⟨by omega, by omega⟩, R, P, hx⟩, bb⟩
theorem idle_walk (hM : AcsAt w ad M) : Calls Try.prog 6 #[.slice ad M.length cap] w fun e w' => e = .returned (.bool true) ∧ Below w.heap.size w w' :=
  idle_core hM (KS := KS w.heap.size 3 2) (hid fun W hb => new_at_base (n := 3) (me := 2) (by decide) (by decide) (by decide) W hb) (hid awake_any) (hid fun _ _ _ _ _ h hb => h.kept hb) (hid fun _ _ _ _ h => h.above)
    (hid fun pp F p W c h h0 h9 => (heard_any h (by decide) (by decide) ⟨h0, by omega⟩ c).mono fun e w' hq => by
      obtain ⟨F', h1, h2, h3, h4⟩ := hq
      exact ⟨F', h1, h2, h3⟩)
    (hid fun pp F p W h h0 h9 => (pasked_any h (by decide) (by decide) (by decide) ⟨h0, by omega⟩).mono fun e w' hq => by
      obtain ⟨F', h1, h2, h3, h4⟩ := hq
      exact ⟨F', h1, h2, h3⟩)
    (hid fun pp F p W b h h0 h9 => (tick_any h h.low (by decide) (by decide) (by decide) ⟨h0, by omega⟩ b).mono fun e w' hq => by
      obtain ⟨F', u, h1, h2, h3, h4, h5, h6⟩ := hq
      exact ⟨F', u, h1, h2, h3, h4⟩)
theorem soon_walk {cv : Int} (hcv : 0 ≤ cv ∧ cv < 256) (hM : AcsAt w ad M) : Calls Try.prog 4 #[.slice ad M.length cap, .int .u8 cv] w fun e w' => e = .returned (.bool true) ∧ Below w.heap.size w w' :=
  soon_core hcv hM (KS := KS w.heap.size 4 1) (hid fun W hb => new_at_base (n := 4) (me := 1) (by decide) (by decide) (by decide) W hb) (hid awake_any) (hid fun _ _ _ _ _ h hb => h.kept hb) (hid fun _ _ _ _ h => h.above)
    (hid fun pp F p W c h h0 h9 => (heard_any h (by decide) (by decide) ⟨h0, by omega⟩ c).mono fun e w' hq => by
      obtain ⟨F', h1, h2, h3, h4⟩ := hq
      exact ⟨F', h1, h2, h3⟩)
    (hid fun pp F p W h h0 h9 => (pasked_any h (by decide) (by decide) (by decide) ⟨h0, by omega⟩).mono fun e w' hq => by
      obtain ⟨F', h1, h2, h3, h4⟩ := hq
      exact ⟨F', h1, h2, h3⟩)
    (hid fun pp F p W b h h0 h9 => (tick_any h h.low (by decide) (by decide) (by decide) ⟨h0, by omega⟩ b).mono fun e w' hq => by
      obtain ⟨F', u, h1, h2, h3, h4, h5, h6⟩ := hq
      exact ⟨F', u, h1, h2, h3, h4⟩)
theorem turns_walk {nv : Int} (hnv : 0 ≤ nv ∧ nv < 256) (hM : AcsAt w ad M) : Calls Try.prog 5 #[.int .u8 nv, .slice ad M.length cap] w fun e w' => e = .returned (.bool true) ∧ Below w.heap.size w w' := by
  obtain ⟨kk, hkk⟩ : ∃ kk : Nat, nv % 7 + 2 = (kk : Int) := ⟨(nv % 7 + 2).toNat, by omega⟩
  have h2 : 2 ≤ kk := by omega
  have h8 : kk ≤ 8 := by omega
  exact turns_core hnv hkk hM (KS := KS w.heap.size kk 1) (hid fun W hb => new_at_base (n := kk) (me := 1) h2 h8 (by omega) W hb) (hid awake_any) (hid fun _ _ _ _ _ h hb => h.kept hb) (hid fun _ _ _ _ h => h.above)
    (hid fun pp F p W c h h0 h9 => (heard_any h h2 h8 ⟨h0, by omega⟩ c).mono fun e w' hq => by
      obtain ⟨F', h1, h2, h3, h4⟩ := hq
      exact ⟨F', h1, h2, h3⟩)
    (hid fun pp F p W b h h0 h9 _ => (tick_any h h.low h2 h8 (by omega) ⟨h0, by omega⟩ b).mono fun e w' hq => by
      obtain ⟨F', u, h1, h2, h3, h4, h5, h6⟩ := hq
      exact ⟨F', u, h1, h3, h4⟩)
theorem does_walk (hM : AcsAt w ad M) (n me : Int) : Calls Try.prog 3 #[nu n, nu me, .slice ad M.length cap] w fun e w' => e = .returned (.bool true) ∧ Below w.heap.size w w' := by
  by_cases hb : n < 2 ∨ 8 < n ∨ me < 0 ∨ n ≤ me
  · exact pdoes_bad n me hb (hid fun W => new_bad n me hb) (hid awake_any)
  · obtain ⟨n', rfl⟩ : ∃ n' : Nat, n = (n' : Int) := ⟨n.toNat, by omega⟩
    obtain ⟨me', rfl⟩ : ∃ me' : Nat, me = (me' : Int) := ⟨me.toNat, by omega⟩
    have h2 : 2 ≤ n' := by omega
    have h8 : n' ≤ 8 := by omega
    have hm : me' < n' := by omega
    refine pdoes_core n' me' h2 h8 hm hM (KS := KS w.heap.size n' me') (hid (new_ok h2 h8 hm)) (hid awake_any) (hid fun _ _ _ _ _ h hb => h.kept hb) (hid fun _ _ _ _ h => h.above) (hid fun _ _ _ _ h => next_ks h h2) (hid fun _ _ _ _ c h => due_any h h2 h8 c) ?_
    exact hid fun pp q g cap S p kd cl F W hS hX hq hg hn0 hn9 hnx => pdo_core n' me' h8 hm kd cl hS hX hq hg hn0 hn9 hnx (fun x hx => by have := (hS.above x hx).2; omega)
      (hid fun _ _ _ _ _ h hb => h.kept hb) (hid fun _ _ _ _ _ _ h hk hX => h.kp hk hX)
      (hid fun F W c h => heard_any h h2 h8 ⟨hn0, by omega⟩ c)
      (hid fun F W h => pasked_any h h2 h8 hm ⟨hn0, by omega⟩)
      (hid fun F W b h => (tick_any h h.low h2 h8 hm ⟨hn0, by omega⟩ b).mono fun e w' hq => by
        obtain ⟨F', u, h1, h2, h3, h4, h5, h6⟩ := hq
        exact ⟨F', u, h1, h2, h3, h4, fun b hb => (h5 b hb).1, h6⟩)
end
end Go.Proofs.Ytkjgiidmajjonaa.Kn
