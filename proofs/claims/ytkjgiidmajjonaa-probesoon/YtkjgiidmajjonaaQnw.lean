/-
  New.
-/
import Derived.Test.YtkjgiidmajjonaaQhd
namespace Go.Proofs.Ytkjgiidmajjonaa.Kn
open Go Go.RowKit
set_option maxRecDepth 100000

/-- The clients that have come up, each at its first tick. -/
def newL (me k : Nat) : List En := ((List.range k).filter (fun c => decide (c ≠ me))).map (fun (c : Nat) => (4, (c : Int)))
theorem newL_no {me k : Nat} (h : k = me) : newL me (k + 1) = newL me k := by
  unfold newL
  rw [List.range_succ, List.filter_append]
  simp [h]
theorem newL_yes {me k : Nat} (h : k ≠ me) : newL me (k + 1) = newL me k ++ [(4, (k : Int))] := by
  unfold newL
  rw [List.range_succ, List.filter_append, List.map_append]
  simp [h]
theorem newL_len (me k : Nat) : (newL me k).length ≤ k := by
  unfold newL
  rw [List.length_map]
  have := List.length_filter_le (fun c => decide (c ≠ me)) (List.range k)
  rw [List.length_range] at this
  exact this
theorem newL_end {n me : Nat} (hm : me < n) : canon n me (newPb n me) = newL me n ++ [(7, 8)] := by
  unfold canon newL
  rw [new_at n me hm _ (by omega), if_pos rfl]
  congr 1
  refine List.map_congr_left fun c hc => ?_
  simp at hc
  rw [new_at n me hm _ (by omega), if_neg (by omega)]
theorem newPb_next (n me : Nat) : (newPb n me).next = nxP n me me := by
  unfold nxP newPb
  simp
theorem nxP_rng {n me : Nat} (hm : me < n) {r : Int} : 0 ≤ nxP n me r ∧ nxP n me r < n := by
  unfold nxP
  have hz : (n : Int) ≠ 0 := by omega
  split
  · exact ⟨Int.emod_nonneg _ hz, Int.emod_lt_of_pos _ (by omega)⟩
  · exact ⟨Int.emod_nonneg _ hz, Int.emod_lt_of_pos _ (by omega)⟩
theorem hp_nil : Hp [] 0 := fun k _ h => by omega
section
variable {w : World}
set_option maxHeartbeats 16000000 in
theorem new_ok {n me : Nat} (h2 : 2 ≤ n) (h8 : n ≤ 8) (hm : me < n) : Calls Try.prog 8 #[nu n, nu me] w fun e w' => ∃ pp F, e = .returned (.tuple #[pt pp 0, nu 0]) ∧ KS w.heap.size n me pp F (newPb n me) w' ∧ Below w.heap.size w w' := by
  have d1 : decide ((n : Int) < 2) = false := decide_eq_false (by omega)
  have d2 : decide ((8 : Int) < (n : Int)) = false := decide_eq_false (by omega)
  have d3 : decide ((me : Int) < 0) = false := decide_eq_false (by omega)
  have d4 : decide ((n : Int) ≤ (me : Int)) = false := decide_eq_false (by omega)
  have d1' : decide (n < 2) = false := decide_eq_false (by omega)
  have d2' : decide (8 < n) = false := decide_eq_false (by omega)
  have d4' : decide (n ≤ me) = false := decide_eq_false (by omega)
  have B1 := hid (below_a1 w (.cells #[nu n, nu me, nu 0, nu 0, .slice none 0 0, fnA] 54))
  have R1 := hid (top_obj w (.cells #[nu n, nu me, nu 0, nu 0, .slice none 0 0, fnA] 54))
  go_enter Try.func8, Try.ntmps8
  go_upto_region 4 with fail
  obtain ⟨pp, hpp⟩ : ∃ pp, w.heap.size = pp := ⟨_, rfl⟩
  rw [hpp] at R1 ⊢
  have HPP := hid hpp
  clear hpp
  generalize w.alloc (.cells #[nu n, nu me, nu 0, nu 0, .slice none 0 0, fnA] 54) = W1 at *
  have HBh := hid (behind_any (w := W1) (pp := pp) (row_cell (A := []) (C := [nu me, nu 0, nu 0, .slice none 0 0, fnA]) R1.out rfl rfl) (row_cell (A := [nu n]) (C := [nu 0, nu 0, .slice none 0 0, fnA]) R1.out rfl rfl) h2 h8 (r := me) ⟨by omega, by omega⟩ hm)
  obtain ⟨nx, hnx⟩ : ∃ nx, nxP n me me = nx := ⟨_, rfl⟩
  have HNX := hid hnx
  rw [hnx] at HBh
  clear hnx
  go_wp2_with fail
  refine HBh.out.mono ?_
  rintro e W2 ⟨rfl, hw⟩
  subst W2
  clear HBh
  have OBJ : Hid (W1.heap[pp]? = some (.cells ([nu n, nu me, nu 0] ++ ([nu 0] ++ [Value.slice none 0 0, fnA])).toArray 54)) := hid R1.out
  go_upto_region 5 with (first
    | ((with_reducible refine wl_put1 3 (.tmp 33) (.tmp 31) ?_ ?_ pp 3 ?_ ?_ [nu n, nu me, nu 0] [Value.slice none 0 0, fnA] (nu 0) (nu nx) ?_ 54 OBJ.out ?_ ?_ ?_ ?_); exact rfl; exact rfl; exact rfl; exact rfl; exact rfl; exact rfl; exact rfl; exact size3; intro W4 r4 b4))
  have O4 : Hid (OAt W4 pp n me 0 nx (.slice none 0 0) []) := hid ⟨r4, W4.ownsRow_nil 0 _ 2, fun e => by cases e⟩
  have B4 : Hid (Below w.heap.size w W4) := hid (b4.below B1.out (by rw [HPP.out]; exact Nat.le_refl _))
  clear r4 b4 OBJ B1 R1
  have hap : Hid (Hp [] 0) := hid hp_nil
  go_wp2
  go_loopw [35] (fun iv wr => ∃ (k : Nat) (v : Value) (L : List En), iv = nu k ∧ k ≤ n ∧ L.Perm (newL me k) ∧ Hid (Hp L L.length) ∧ Hid (OAt wr pp n me 0 nx v L) ∧ Hid (∀ b, v.ownBlock = some b → pp ≤ b) ∧ Hid (Below w.heap.size w wr)) (fun iv _ => n - (intOf iv).toNat)
  case atStart => exact ⟨0, _, [], rfl, by omega, .refl _, hap, O4, hid (fun b hb => by cases hb), B4⟩
  case round =>
    obtain ⟨k, v, L, rfl, hk, hp, HH, O, V, B⟩ := hrel
    clear O4 B4 hap
    have hL9 : L.length ≤ 900 := by rw [hp.length_eq]; have := newL_len me k; omega
    by_cases hlt : k < n
    · have d5 : decide ((k : Int) < (n : Int)) = true := decide_eq_true (by omega)
      have d5' : decide (k < n) = true := decide_eq_true hlt
      have I1 : I64 ((k : Int) + 1) := by unfold I64; omega
      by_cases hkm : k = me
      · have d6 : ((k : Int) != (me : Int)) = false := by simp [hkm]
        have d6' : ((k : Int) == (me : Int)) = true := by simp [hkm]
        have HQ := hid hkm
        clear hkm
        go_wp2
        refine ⟨⟨k + 1, v, L, by go_num, by omega, ?_, HH, O, V, B⟩, by simp [intOf]; omega⟩
        rw [newL_no HQ.out]
        exact hp
      · have d6 : ((k : Int) != (me : Int)) = true := by simp; omega
        have d6' : ((k : Int) == (me : Int)) = false := by rw [beq_eq_false_iff_ne]; omega
        have HQ := hid hkm
        have HP := hid (hpush_any O.out hL9 HH.out (4, (k : Int)))
        clear hkm
        go_wp2_with fail
        refine HP.out.mono ?_
        rintro e W5 ⟨rfl, g5, cap5, L5, S5, ⟨hp5, hh5⟩, r5, k5, hg5⟩
        have O5 := hid r5.o
        have V5 : Hid (∀ b, (Value.slice (some ⟨g5, 0, none⟩) L5.length cap5).ownBlock = some b → pp ≤ b) := hid (fun b hb => by
          cases hb
          rcases hg5 with e | e
          · exact V.out _ e
          · show pp ≤ g5
            have := B.out.size
            have := HPP.out
            omega)
        have B5 : Hid (Below w.heap.size w W5) := hid (B.out.trans (k5.below (fun x hx => by
          rcases List.mem_cons.1 hx with rfl | hx
          · rw [HPP.out]; exact Nat.le_refl _
          · rw [HPP.out]; exact V.out x (mem_ob.1 hx)) B.out.size))
        have HH5 := hid hh5
        have HP5 : Hid (L5.Perm (newL me (k + 1))) := hid (by
          rw [newL_yes HQ.out]
          refine hp5.trans ((hp.cons _).trans ?_)
          exact (List.perm_append_comm (l₁ := [_])))
        clear r5 k5 hg5 hp5 hh5 HP O V B HH
        go_wp2
        exact ⟨⟨k + 1, _, L5, by go_num, by omega, HP5.out, HH5, O5, V5, B5⟩, by simp [intOf]; omega⟩
    · have d5 : decide ((k : Int) < (n : Int)) = false := decide_eq_false (by omega)
      have d5' : decide (k < n) = false := decide_eq_false hlt
      have hkn : k = n := by omega
      subst hkn
      have HP := hid (hpush_any O.out hL9 HH.out (7, 8))
      go_wp2_with fail
      refine HP.out.mono ?_
      rintro e W5 ⟨rfl, g5, cap5, L5, S5, ⟨hp5, hh5⟩, r5, k5, hg5⟩
      have B5 : Hid (Below w.heap.size w W5) := hid (B.out.trans (k5.below (fun x hx => by
        rcases List.mem_cons.1 hx with rfl | hx
        · rw [HPP.out]; exact Nat.le_refl _
        · rw [HPP.out]; exact V.out x (mem_ob.1 hx)) B.out.size))
      have K5 : Hid (KS w.heap.size k me pp [pp, g5] (newPb k me) W5) := hid (by
        have hnx : (newPb k me).next = nx := (newPb_next k me).trans HNX.out
        refine ⟨g5, cap5, L5, S5, rfl, ⟨by rw [HPP.out]; exact Nat.le_refl _, ?_⟩, ?_, ⟨hh5, ?_, new_len k me⟩, ?_⟩
        · rcases hg5 with e | e
          · rw [HPP.out]; exact V.out _ e
          · exact Nat.le_trans B.out.size e
        · rw [hnx]; exact r5
        · rw [newL_end hm]
          refine hp5.trans ((hp.cons _).trans ?_)
          exact (List.perm_append_comm (l₁ := [_]))
        · rw [newPb_next]; exact nxP_rng hm)
      clear r5 k5 hg5 hp5 hh5 HP O V B HH
      go_wp2
      go_ret2
      exact ⟨pp, _, rfl, K5.out, B5.out⟩
theorem new_bad (n me : Int) (hb : n < 2 ∨ 8 < n ∨ me < 0 ∨ n ≤ me) : Calls Try.prog 8 #[nu n, nu me] w fun e w' => e = .returned (.tuple #[.pointer none, nu 2]) ∧ Below w.heap.size w w' := by
  have hor : n < 2 ∨ (¬ n < 2 ∧ 8 < n) ∨ (¬ n < 2 ∧ ¬ 8 < n ∧ me < 0) ∨ (¬ n < 2 ∧ ¬ 8 < n ∧ ¬ me < 0 ∧ n ≤ me) := by omega
  clear hb
  rcases hor with h1 | ⟨h1, h2⟩ | ⟨h1, h2, h3⟩ | ⟨h1, h2, h3, h4⟩
  · have d1 : decide (n < 2) = true := decide_eq_true h1
    clear h1
    go_enter Try.func8, Try.ntmps8
    go_wp2
    go_ret2
    exact ⟨rfl, Below.refl _ _⟩
  · have d1 : decide (n < 2) = false := decide_eq_false h1
    have d2 : decide (8 < n) = true := decide_eq_true h2
    clear h1 h2
    go_enter Try.func8, Try.ntmps8
    go_wp2
    go_ret2
    exact ⟨rfl, Below.refl _ _⟩
  · have d1 : decide (n < 2) = false := decide_eq_false h1
    have d2 : decide (8 < n) = false := decide_eq_false h2
    have d3 : decide (me < 0) = true := decide_eq_true h3
    clear h1 h2 h3
    go_enter Try.func8, Try.ntmps8
    go_wp2
    go_ret2
    exact ⟨rfl, Below.refl _ _⟩
  · have d1 : decide (n < 2) = false := decide_eq_false h1
    have d2 : decide (8 < n) = false := decide_eq_false h2
    have d3 : decide (me < 0) = false := decide_eq_false h3
    have d4 : decide (n ≤ me) = true := decide_eq_true h4
    clear h1 h2 h3 h4
    go_enter Try.func8, Try.ntmps8
    go_wp2
    go_ret2
    exact ⟨rfl, Below.refl _ _⟩
end
end Go.Proofs.Ytkjgiidmajjonaa.Kn
