/-
  The prober's Heard, Asked and Due.
-/
import Derived.Test.YtkjgiidmajjonaaQsm
namespace Go.Proofs.Ytkjgiidmajjonaa.Kn
open Go Go.RowKit
set_option maxRecDepth 100000

/-- The program's prober in the state p, at the block pp, owning the blocks F, all of them at or above base. -/
def KS (base n me pp : Nat) (F : List Nat) (p : Pb) (W : World) : Prop := ∃ g cap L S, F = [pp, g] ∧ (base ≤ pp ∧ base ≤ g) ∧ RAt W pp g cap n me p.now p.next L S ∧ HPs n me p L ∧ (0 ≤ p.next ∧ p.next < n)
def mvJ (i : Nat) (w : World) (P : World → Prop) (F : Nat → Bool) (W : World) : Prop := bif F i then P W else Below w.heap.size w W
theorem mvJ.no {i : Nat} {w : World} {P : World → Prop} {F : Nat → Bool} {W : World} (h : mvJ i w P F W) (hF : F i = false) : Below w.heap.size w W := by
  unfold mvJ at h
  rw [hF] at h
  exact h
theorem mvJ.yes {i : Nat} {w : World} {P : World → Prop} {F : Nat → Bool} {W : World} (h : mvJ i w P F W) (hF : F i = true) : P W := by
  unfold mvJ at h
  rw [hF] at h
  exact h
theorem mvJ.both {i : Nat} {w : World} {P : World → Prop} {F : Nat → Bool} {W : World} {C : Prop} (h : mvJ i w P F W) (h1 : P W → C) (h2 : Below w.heap.size w W → C) : C := by
  cases hF : F i with
  | false => exact h2 (h.no hF)
  | true => exact h1 (h.yes hF)
theorem mvJ.up {i k : Nat} {w : World} {P : World → Prop} {F : Nat → Bool} {W : World} (h : mvJ i w P F W) (hk : k ≠ i) : mvJ i w P (up F k) W := by
  unfold mvJ
  rw [up_ne hk]
  exact h
theorem mvJ.at {i : Nat} {w : World} {P : World → Prop} {F : Nat → Bool} {W : World} (h : P W) : mvJ i w P (Kn.up F i) W := by
  unfold mvJ
  rw [up_self]
  exact h
section
variable {w : World} {base n me pp : Nat} {F : List Nat} {p : Pb}
set_option maxHeartbeats 4000000 in
theorem heard_any (h : KS base n me pp F p w) (h2 : 2 ≤ n) (h8 : n ≤ 8) (hn : 0 ≤ p.now ∧ p.now ≤ 1000) (c : Int) : Calls Try.prog 15 #[pt pp 0, nu c] w fun e w' => ∃ F', e = .returned (.bool (othB n me c)) ∧ KS base n me pp F' (heardPb n me p c) w' ∧ Kp F w w' ∧ ∀ x ∈ F', x ∈ F ∨ w.heap.size ≤ x := by
  obtain ⟨g, cap, L, S, rfl, hge, R, P, hx⟩ := h
  have HM := hid (made_any R (by omega))
  have HO := hid (other_any R c)
  cases ho : othB n me c with
  | false =>
    have hE : heardPb n me p c = p := by unfold heardPb; rw [ho]; rfl
    rw [hE]
    rw [ho] at HO
    have H : Hid (KS base n me pp [pp, g] p w) := ⟨g, cap, L, S, rfl, hge, R, P, hx⟩
    clear R P hE ho
    go_enter Try.func15, Try.ntmps15
    go_wp2_with fail
    refine HM.out.mono ?_
    rintro e W1 ⟨rfl, hw⟩
    subst W1
    go_wp2_with fail
    refine HO.out.mono ?_
    rintro e W1 ⟨rfl, hw⟩
    subst W1
    go_wp2
    go_ret
    exact ⟨_, rfl, H.out, Kp.refl _ _, fun x hx => Or.inl hx⟩
  | true =>
    rw [ho] at HO
    have IN : I64 (p.now + 4) := by unfold I64; omega
    have HMV : Hid (∀ W, Below w.heap.size w W → Calls Try.prog 28 #[pt pp 4, nu c, nu (p.now + 4)] W fun e w' => e = .returned (.tuple #[]) ∧ (KS base n me pp [pp, g] (heardPb n me p c) w' ∧ Kp [pp, g] w w')) := fun W bb => by
      refine (move_any (R.kept bb) (by have := P.short h8; omega) P.hp (P.has ho) (p.now + 4)).mono ?_
      rintro e w' ⟨rfl, k, L', ⟨hk, hkx⟩, ⟨hp, hh⟩, r, kp⟩
      exact ⟨rfl, ⟨g, cap, L', S, rfl, hge, by rw [heard_now, heard_next]; exact r, P.heard h8 ho hk hkx hp hh, by rw [heard_next]; exact hx⟩, (Kp.of bb).trans (kp.drop (fun x hx => Or.inl (by simp at hx; simp [hx])))⟩
    have C2 : Hid (∀ G W, mvJ 9 w (fun W => KS base n me pp [pp, g] (heardPb n me p c) W ∧ Kp [pp, g] w W) G W → W.cell? ⟨pp, 2, none⟩ = some (nu p.now)) := fun G W hJ => hJ.both (fun h => by
      obtain ⟨⟨g', cap', L', S', -, -, r, -⟩, -⟩ := h
      have := r.c2
      rw [heard_now] at this
      exact this) (fun h => (R.kept h).c2)
    clear R P ho
    go_enter Try.func15, Try.ntmps15
    go_wp2_with fail
    refine HM.out.mono ?_
    rintro e W1 ⟨rfl, hw⟩
    subst W1
    go_wp2_with fail
    refine HO.out.mono ?_
    rintro e W1 ⟨rfl, hw⟩
    subst W1
    go_upto_region 3 with fail
    refine wp_region_cs (N := 24) [(pt pp 0), (pt pp 0), (pt pp 4), (nu c), (pt pp 0), (pt pp 0), (pt pp 2), (nu p.now), (nu (p.now + 4)), (.tuple #[])] (mvJ 9 w (fun W => KS base n me pp [pp, g] (heardPb n me p c) W ∧ Kp [pp, g] w W)) [(14, (pt pp 0)), (15, (pt pp 0)), (16, (pt pp 4)), (17, (nu c)), (18, (pt pp 0)), (19, (pt pp 0)), (20, (pt pp 2)), (21, (nu p.now)), (22, (nu (p.now + 4))), (23, (.tuple #[]))] (by kernel_rfl) (by kernel_rfl) rfl (fun w1 hb => hb) (by kernel_rfl) ?_ ?_
    · intro i o ho
      match i, ho with
      | 0, ho => cases ho; exact fun L1 a w1 hLi hw hnot hJ hk hv K h => op_move 0 _ rfl (hk 0 (by kernel_rfl)) (h _ (hJ.up (by decide)))
      | 1, ho => cases ho; exact fun L1 a w1 hLi hw hnot hJ hk hv K h => op_nil 14 pp 0 rfl (hv 0 14 (by kernel_rfl) (by kernel_rfl)) (h _ (hJ.up (by decide)))
      | 2, ho => cases ho; exact fun L1 a w1 hLi hw hnot hJ hk hv K h => op_fa 15 _ 4 pp 0 4 rfl (fun W => by kernel_rfl) (hv 1 15 (by kernel_rfl) (by kernel_rfl)) (h _ (hJ.up (by decide)))
      | 3, ho => cases ho; exact fun L1 a w1 hLi hw hnot hJ hk hv K h => op_move 1 _ rfl (hk 1 (by kernel_rfl)) (h _ (hJ.up (by decide)))
      | 4, ho => cases ho; exact fun L1 a w1 hLi hw hnot hJ hk hv K h => op_move 0 _ rfl (hk 0 (by kernel_rfl)) (h _ (hJ.up (by decide)))
      | 5, ho => cases ho; exact fun L1 a w1 hLi hw hnot hJ hk hv K h => op_nil 18 pp 0 rfl (hv 4 18 (by kernel_rfl) (by kernel_rfl)) (h _ (hJ.up (by decide)))
      | 6, ho => cases ho; exact fun L1 a w1 hLi hw hnot hJ hk hv K h => op_fa 19 _ 2 pp 0 2 rfl (fun W => by kernel_rfl) (hv 5 19 (by kernel_rfl) (by kernel_rfl)) (h _ (hJ.up (by decide)))
      | 7, ho => cases ho; exact fun L1 a w1 hLi hw hnot hJ hk hv K h => op_load1 _ (.tmp 20) rfl pp 2 (hv 6 20 (by kernel_rfl) (by kernel_rfl)) (nu p.now) _ (C2.out _ _ hJ) Try.underlying3 rfl (h _ (hJ.up (by decide)))
      | 8, ho => cases ho; exact fun L1 a w1 hLi hw hnot hJ hk hv K h => op_addC 21 _ _ p.now 4 rfl (hv 7 21 (by kernel_rfl) (by kernel_rfl)) IN (h _ (hJ.up (by decide)))
      | 9, ho => cases ho; exact fun L1 a w1 hLi hw hnot hJ hk hv K h => op_call 28 [.tmp 16, .tmp 17, .tmp 22] _ #[(pt pp 4), (nu c), (nu (p.now + 4))] (.tuple #[]) rfl (fun _ _ => by kernel_rfl) (args3 (hv 2 16 (by kernel_rfl) (by kernel_rfl)) (hv 3 17 (by kernel_rfl) (by kernel_rfl)) (hv 8 22 (by kernel_rfl) (by kernel_rfl))) (HMV.out _ (hJ.no hLi)) (fun w1 e1 => h _ (mvJ.at e1))
      | (i + 10), ho => exact absurd ho (by simp)
    intro LL W5 hall hJ
    simp only [List.foldl_cons, List.foldl_nil, List.setIfInBounds_toArray, List.set_cons_zero, List.set_cons_succ]
    have HE := hid (hJ.yes (hall 9 (by decide)))
    clear hJ hall
    go_wp2
    go_ret
    exact ⟨_, rfl, HE.out.1, HE.out.2, fun x hx => Or.inl hx⟩
set_option maxHeartbeats 4000000 in
theorem pasked_any (h : KS base n me pp F p w) (h2 : 2 ≤ n) (h8 : n ≤ 8) (hm : me < n) (hn : 0 ≤ p.now ∧ p.now ≤ 1000) : Calls Try.prog 16 #[pt pp 0] w fun e w' => ∃ F', e = .returned (.bool true) ∧ KS base n me pp F' (askedPb me p) w' ∧ Kp F w w' ∧ ∀ x ∈ F', x ∈ F ∨ w.heap.size ≤ x := by
  obtain ⟨g, cap, L, S, rfl, hge, R, P, hx⟩ := h
  have HM := hid (made_any R (by omega))
  have IN : I64 (p.now + 7) := by unfold I64; omega
  have HMV : Hid (∀ W, Below w.heap.size w W → Calls Try.prog 28 #[pt pp 4, nu 8, nu (p.now + 7)] W fun e w' => e = .returned (.tuple #[]) ∧ (KS base n me pp [pp, g] (askedPb me p) w' ∧ Kp [pp, g] w w')) := fun W bb => by
    refine (move_any (R.kept bb) (by have := P.short h8; omega) P.hp P.has8 (p.now + 7)).mono ?_
    rintro e w' ⟨rfl, k, L', ⟨hk, hkx⟩, ⟨hp, hh⟩, r, kp⟩
    exact ⟨rfl, ⟨g, cap, L', S, rfl, hge, r, P.asked h8 hm hk hkx hp hh, hx⟩, (Kp.of bb).trans (kp.drop (fun x hx => Or.inl (by simp at hx; simp [hx])))⟩
  have C2 : Hid (∀ G W, mvJ 8 w (fun W => KS base n me pp [pp, g] (askedPb me p) W ∧ Kp [pp, g] w W) G W → W.cell? ⟨pp, 2, none⟩ = some (nu p.now)) := fun G W hJ => hJ.both (fun h => by
    obtain ⟨⟨g', cap', L', S', -, -, r, -⟩, -⟩ := h
    exact r.c2) (fun h => (R.kept h).c2)
  clear R P
  go_enter Try.func16, Try.ntmps16
  go_wp2_with fail
  refine HM.out.mono ?_
  rintro e W1 ⟨rfl, hw⟩
  subst W1
  go_upto_region 3 with fail
  refine wp_region_cs (N := 15) [(pt pp 0), (pt pp 0), (pt pp 4), (pt pp 0), (pt pp 0), (pt pp 2), (nu p.now), (nu (p.now + 7)), (.tuple #[])] (mvJ 8 w (fun W => KS base n me pp [pp, g] (askedPb me p) W ∧ Kp [pp, g] w W)) [(6, (pt pp 0)), (7, (pt pp 0)), (8, (pt pp 4)), (9, (pt pp 0)), (10, (pt pp 0)), (11, (pt pp 2)), (12, (nu p.now)), (13, (nu (p.now + 7))), (14, (.tuple #[]))] (by kernel_rfl) (by kernel_rfl) rfl (fun w1 hb => hb) (by kernel_rfl) ?_ ?_
  · intro i o ho
    match i, ho with
    | 0, ho => cases ho; exact fun L1 a w1 hLi hw hnot hJ hk hv K h => op_move 0 _ rfl (hk 0 (by kernel_rfl)) (h _ (hJ.up (by decide)))
    | 1, ho => cases ho; exact fun L1 a w1 hLi hw hnot hJ hk hv K h => op_nil 6 pp 0 rfl (hv 0 6 (by kernel_rfl) (by kernel_rfl)) (h _ (hJ.up (by decide)))
    | 2, ho => cases ho; exact fun L1 a w1 hLi hw hnot hJ hk hv K h => op_fa 7 _ 4 pp 0 4 rfl (fun W => by kernel_rfl) (hv 1 7 (by kernel_rfl) (by kernel_rfl)) (h _ (hJ.up (by decide)))
    | 3, ho => cases ho; exact fun L1 a w1 hLi hw hnot hJ hk hv K h => op_move 0 _ rfl (hk 0 (by kernel_rfl)) (h _ (hJ.up (by decide)))
    | 4, ho => cases ho; exact fun L1 a w1 hLi hw hnot hJ hk hv K h => op_nil 9 pp 0 rfl (hv 3 9 (by kernel_rfl) (by kernel_rfl)) (h _ (hJ.up (by decide)))
    | 5, ho => cases ho; exact fun L1 a w1 hLi hw hnot hJ hk hv K h => op_fa 10 _ 2 pp 0 2 rfl (fun W => by kernel_rfl) (hv 4 10 (by kernel_rfl) (by kernel_rfl)) (h _ (hJ.up (by decide)))
    | 6, ho => cases ho; exact fun L1 a w1 hLi hw hnot hJ hk hv K h => op_load1 _ (.tmp 11) rfl pp 2 (hv 5 11 (by kernel_rfl) (by kernel_rfl)) (nu p.now) _ (C2.out _ _ hJ) Try.underlying3 rfl (h _ (hJ.up (by decide)))
    | 7, ho => cases ho; exact fun L1 a w1 hLi hw hnot hJ hk hv K h => op_addC 12 _ _ p.now 7 rfl (hv 6 12 (by kernel_rfl) (by kernel_rfl)) IN (h _ (hJ.up (by decide)))
    | 8, ho => cases ho; exact fun L1 a w1 hLi hw hnot hJ hk hv K h => op_call 28 [.tmp 8, .const (nu (8)), .tmp 13] _ #[(pt pp 4), (nu (8)), (nu (p.now + 7))] (.tuple #[]) rfl (fun _ _ => by kernel_rfl) (args3 (hv 2 8 (by kernel_rfl) (by kernel_rfl)) rfl (hv 7 13 (by kernel_rfl) (by kernel_rfl))) (HMV.out _ (hJ.no hLi)) (fun w1 e1 => h _ (mvJ.at e1))
    | (i + 9), ho => exact absurd ho (by simp)
  intro LL W5 hall hJ
  simp only [List.foldl_cons, List.foldl_nil, List.setIfInBounds_toArray, List.set_cons_zero, List.set_cons_succ]
  have HE := hid (hJ.yes (hall 8 (by decide)))
  clear hJ hall
  go_wp2
  go_ret
  exact ⟨_, rfl, HE.out.1, HE.out.2, fun x hx => Or.inl hx⟩
set_option maxHeartbeats 4000000 in
theorem due_any (h : KS base n me pp F p w) (h2 : 2 ≤ n) (h8 : n ≤ 8) (c : Int) : Calls Try.prog 14 #[pt pp 0, nu c] w fun e w' => e = .returned (nu (if othB n me c then duI p.due c else 0)) ∧ Below w.heap.size w w' := by
  obtain ⟨g, cap, L, S, rfl, hge, R, P, hx⟩ := h
  have HM := hid (made_any R (by omega))
  have HO := hid (other_any R c)
  cases ho : othB n me c with
  | false =>
    rw [ho] at HO
    rw [if_neg (by decide)]
    clear R P ho
    go_enter Try.func14, Try.ntmps14
    go_wp2_with fail
    refine HM.out.mono ?_
    rintro e W1 ⟨rfl, hw⟩
    subst W1
    go_wp2_with fail
    refine HO.out.mono ?_
    rintro e W1 ⟨rfl, hw⟩
    subst W1
    go_wp2
    go_ret
    exact ⟨rfl, Below.refl _ _⟩
  | true =>
    rw [ho] at HO
    rw [if_pos rfl]
    obtain ⟨k, hkl, hkx, hkb⟩ := first_at (P.has ho)
    have hd := P.at h8 hkl ho hkx
    have HPL : Hid (∀ W, Below w.heap.size w W → Calls Try.prog 27 #[pt pp 4, nu c] W fun e w' => e = .returned (nu (k : Int)) ∧ Below W.heap.size W w') := fun W bb => place_any (R.kept bb) (by have := P.short h8; omega) hkl hkx hkb
    have C4 : Hid (∀ W, Below w.heap.size w W → W.cell? ⟨pp, 4, none⟩ = some (.slice (some ⟨g, 0, none⟩) L.length cap)) := fun W bb => (R.kept bb).c4
    have E0 : Hid (∀ W, Below w.heap.size w W → W.cell? ⟨g, 0 + k * 2 + 0, none⟩ = some (nu (duI p.due c))) := fun W bb => by rw [← hd]; exact (R.kept bb).e0 hkl
    clear R P ho hd hkx hkb
    go_enter Try.func14, Try.ntmps14
    go_wp2_with fail
    refine HM.out.mono ?_
    rintro e W1 ⟨rfl, hw⟩
    subst W1
    go_wp2_with fail
    refine HO.out.mono ?_
    rintro e W1 ⟨rfl, hw⟩
    subst W1
    go_upto_region 3 with fail
    refine wp_region_cs (N := 27) [(pt pp 0), (pt pp 0), (pt pp 4), (pt pp 4), (Value.slice (some ⟨g, 0, none⟩) L.length cap), (pt pp 0), (pt pp 0), (pt pp 4), (nu c), (nu (k : Int)), (pt g (0 + k * 2)), (pt g (0 + k * 2 + 0)), (nu (duI p.due c)), (nu (duI p.due c))] (fun _ W => Below w.heap.size w W) [(14, (pt pp 0)), (15, (pt pp 0)), (16, (pt pp 4)), (17, (pt pp 4)), (18, (Value.slice (some ⟨g, 0, none⟩) L.length cap)), (19, (pt pp 0)), (20, (pt pp 0)), (21, (pt pp 4)), (22, (nu c)), (23, (nu (k : Int))), (24, (pt g (0 + k * 2))), (25, (pt g (0 + k * 2 + 0))), (26, (nu (duI p.due c))), (4, (nu (duI p.due c)))] (by kernel_rfl) (by kernel_rfl) rfl (fun w1 hb => hb) (by kernel_rfl) ?_ ?_
    · intro i o ho
      match i, ho with
      | 0, ho => cases ho; exact fun L1 a w1 hLi hw hnot hJ hk hv K h => op_move 0 _ rfl (hk 0 (by kernel_rfl)) (h _ hJ)
      | 1, ho => cases ho; exact fun L1 a w1 hLi hw hnot hJ hk hv K h => op_nil 14 pp 0 rfl (hv 0 14 (by kernel_rfl) (by kernel_rfl)) (h _ hJ)
      | 2, ho => cases ho; exact fun L1 a w1 hLi hw hnot hJ hk hv K h => op_fa 15 _ 4 pp 0 4 rfl (fun W => by kernel_rfl) (hv 1 15 (by kernel_rfl) (by kernel_rfl)) (h _ hJ)
      | 3, ho => cases ho; exact fun L1 a w1 hLi hw hnot hJ hk hv K h => op_fa 16 _ 0 pp 4 0 rfl (fun W => by kernel_rfl) (hv 2 16 (by kernel_rfl) (by kernel_rfl)) (h _ hJ)
      | 4, ho => cases ho; exact fun L1 a w1 hLi hw hnot hJ hk hv K h => op_load1 _ (.tmp 17) rfl pp 4 (hv 3 17 (by kernel_rfl) (by kernel_rfl)) (Value.slice (some ⟨g, 0, none⟩) L.length cap) _ (C4.out _ hJ) Try.underlying50 rfl (h _ hJ)
      | 5, ho => cases ho; exact fun L1 a w1 hLi hw hnot hJ hk hv K h => op_move 0 _ rfl (hk 0 (by kernel_rfl)) (h _ hJ)
      | 6, ho => cases ho; exact fun L1 a w1 hLi hw hnot hJ hk hv K h => op_nil 19 pp 0 rfl (hv 5 19 (by kernel_rfl) (by kernel_rfl)) (h _ hJ)
      | 7, ho => cases ho; exact fun L1 a w1 hLi hw hnot hJ hk hv K h => op_fa 20 _ 4 pp 0 4 rfl (fun W => by kernel_rfl) (hv 6 20 (by kernel_rfl) (by kernel_rfl)) (h _ hJ)
      | 8, ho => cases ho; exact fun L1 a w1 hLi hw hnot hJ hk hv K h => op_move 1 _ rfl (hk 1 (by kernel_rfl)) (h _ hJ)
      | 9, ho => cases ho; exact fun L1 a w1 hLi hw hnot hJ hk hv K h => op_call 27 [.tmp 21, .tmp 22] _ #[(pt pp 4), (nu c)] (nu (k : Int)) rfl (fun _ _ => by kernel_rfl) (args2 (hv 7 21 (by kernel_rfl) (by kernel_rfl)) (hv 8 22 (by kernel_rfl) (by kernel_rfl))) (HPL.out _ hJ) (fun w1 e1 => h _ (below_two hJ e1))
      | 10, ho => cases ho; exact fun L1 a w1 hLi hw hnot hJ hk hv K h => op_indexS 18 23 _ 49 rfl Try.underlying50 2 sizeD g 0 (L.length) (cap) (k) (hkl) (hv 4 18 (by kernel_rfl) (by kernel_rfl)) (hv 9 23 (by kernel_rfl) (by kernel_rfl)) (h _ hJ)
      | 11, ho => cases ho; exact fun L1 a w1 hLi hw hnot hJ hk hv K h => op_fa 24 _ 0 g (0 + k * 2) 0 rfl (fun W => by kernel_rfl) (hv 10 24 (by kernel_rfl) (by kernel_rfl)) (h _ hJ)
      | 12, ho => cases ho; exact fun L1 a w1 hLi hw hnot hJ hk hv K h => op_load1 _ (.tmp 25) rfl g (0 + k * 2 + 0) (hv 11 25 (by kernel_rfl) (by kernel_rfl)) (nu (duI p.due c)) _ (E0.out _ hJ) Try.underlying3 rfl (h _ hJ)
      | 13, ho => cases ho; exact fun L1 a w1 hLi hw hnot hJ hk hv K h => op_assign 26 _ rfl (hv 12 26 (by kernel_rfl) (by kernel_rfl)) (h _ hJ)
      | (i + 14), ho => exact absurd ho (by simp)
    intro LL W5 hall hJ
    simp only [List.foldl_cons, List.foldl_nil, List.setIfInBounds_toArray, List.set_cons_zero, List.set_cons_succ]
    go_wp2
    go_ret
    exact ⟨rfl, hJ⟩
end
end Go.Proofs.Ytkjgiidmajjonaa.Kn
