/-
  A history that goes on another one: counts, places and beginnings. No program plays a part.
-/
import Derived.Test.YtfigbgpfkhcpcaaHpf
namespace Go.Proofs.Ytfigbgpfkhcpcaa.Hist
open Go
set_option maxRecDepth 100000

theorem hit_exists (x : List UInt8) (c : Int) : ∀ (m : Nat), m ≤ x.length → ∀ n : Nat, 1 ≤ n → n ≤ cnt (x.take m) c → ∃ k, k < m ∧ hit x c n k = true := by
  intro m
  induction m with
  | zero => intro _ n h1 h2; simp [cnt_nil] at h2; omega
  | succ m ih =>
    intro hm n h1 h2
    have e := cnt_step x m (by omega) c
    by_cases hn : n ≤ cnt (x.take m) c
    · obtain ⟨k, hk, hh⟩ := ih (by omega) n h1 hn
      exact ⟨k, by omega, hh⟩
    · by_cases hb : bv (x.getD m 0) = c
      · rw [if_pos hb] at e
        exact ⟨m, by omega, (hit_iff x c n m).2 ⟨hb, by omega⟩⟩
      · rw [if_neg hb] at e
        omega
theorem hit_app (x y : List UInt8) (c n : Int) (j : Nat) (hj : j < x.length) : hit (x ++ y) c n j = hit x c n j := by
  unfold hit
  rw [List.take_append_of_le_length (by omega)]
  have e : (x ++ y).getD j 0 = x.getD j 0 := by simp [List.getD, List.getElem?_append_left hj]
  rw [e]
theorem place_app (x y : List UInt8) (c : Int) (n : Nat) (h1 : 1 ≤ n) (h2 : n ≤ cnt x c) : placeI (x ++ y) c n = placeI x c n := by
  rcases plc_cases x c n with ⟨_, hno⟩ | ⟨i, hi, hp, ht, hb⟩
  · obtain ⟨k, hk, hh⟩ := hit_exists x c x.length (Nat.le_refl _) n h1 (by rw [cnt_all]; exact h2)
    rw [hno k hk] at hh
    cases hh
  · rw [hp]
    refine plc_some (by simp; omega) (by rw [hit_app x y c n i hi]; exact ht) (fun j hj => ?_)
    rw [hit_app x y c n j (by omega)]
    exact hb j hj
theorem place_zero (x : List UInt8) (c : Int) : placeI x c ((0 : Nat) : Int) = -1 := by
  refine plc_none fun j hj => ?_
  rw [Bool.eq_false_iff]
  intro ht
  have hh := (hit_iff x c _ j).1 ht
  have e := cnt_step x j hj c
  rw [if_pos hh.1] at e
  omega
theorem upto_take (x : List UInt8) (c : Int) : ∃ m, m ≤ x.length ∧ uptoL x c = x.take m ∧ cnt (x.take m) c = cnt x c := by
  unfold uptoL
  by_cases h0 : cnt x c = 0
  · rw [h0, place_zero]
    exact ⟨0, by omega, rfl, by rw [List.take_zero, cnt_nil]⟩
  · rcases plc_cases x c (cnt x c) with ⟨_, hno⟩ | ⟨i, hi, hp, ht, hb⟩
    · obtain ⟨k, hk, hh⟩ := hit_exists x c x.length (Nat.le_refl _) (cnt x c) (by omega) (by rw [cnt_all]; exact Nat.le_refl _)
      rw [hno k hk] at hh
      cases hh
    · rw [hp]
      refine ⟨i + 1, by omega, rfl, ?_⟩
      have := ((hit_iff x c _ i).1 ht).2
      omega
theorem upto_goes (x : List UInt8) (c : Int) : goesB x (uptoL x c) = true := by
  obtain ⟨m, _, e, _⟩ := upto_take x c
  rw [e, goes_pre]
  exact List.take_prefix m x
theorem upto_cnt (x : List UInt8) (c : Int) : cnt (uptoL x c) c = cnt x c := by
  obtain ⟨m, _, e, h⟩ := upto_take x c
  rw [e, h]
theorem upto_len (x : List UInt8) (c : Int) : (uptoL x c).length ≤ x.length := ((goes_pre _ _).1 (upto_goes x c)).length_le
theorem upto_app (x y : List UInt8) (c : Int) (h : cnt y c = 0) : uptoL (x ++ y) c = uptoL x c := by
  have e : cnt (x ++ y) c = cnt x c := by rw [cnt_append, h]; rfl
  unfold uptoL
  rw [e]
  by_cases h0 : cnt x c = 0
  · rw [h0, place_zero, place_zero]
    rfl
  · rw [place_app x y c (cnt x c) (by omega) (Nat.le_refl _)]
    have hr := place_range x c (cnt x c)
    rw [List.take_append_of_le_length (by omega)]
theorem app_goes (x y : List UInt8) : goesB (x ++ y) x = true := (goes_pre _ _).2 (List.prefix_append x y)
end Go.Proofs.Ytfigbgpfkhcpcaa.Hist
