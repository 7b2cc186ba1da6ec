/-
  What Some and Take do.
-/
import Derived.Test.YtnhnjdldgaaeoaaDoorNre
namespace Go.Proofs.YtnhnjdldgaaeoaaDoor
open Go Go.RowKit
set_option maxRecDepth 100000

/-- Rising numbers as cells; only the first i are there yet. -/
def numC (s n i : Nat) : List Value := (List.range n).map fun k => .int .i64 (if k < i then ((s + k : Nat) : Int) else 0)
def numL (s n : Nat) : List Value := (List.range n).map fun k => .int .i64 ((s + k : Nat) : Int)
theorem numC_end (s n : Nat) : numC s n n = numL s n := by
  unfold numC numL
  apply List.map_congr_left
  intro k hk
  rw [if_pos (List.mem_range.1 hk)]
theorem numC_set (s n i : Nat) (_h : i < n) : (numC s n i).set i (.int .i64 ((s + i : Nat) : Int)) = numC s n (i + 1) := by
  apply List.ext_getElem?
  intro k
  unfold numC
  rw [List.getElem?_set, List.length_map, List.length_range]
  by_cases hk : i = k
  · subst hk
    rw [if_pos rfl, if_pos (by assumption), List.getElem?_map, List.getElem?_range (by assumption)]
    simp
  · rw [if_neg hk, List.getElem?_map, List.getElem?_map]
    by_cases hn : k < n
    · rw [List.getElem?_range hn]
      simp only [Option.map_some]
      by_cases hki : k < i
      · rw [if_pos hki, if_pos (by omega)]
      · rw [if_neg hki, if_neg (by omega)]
    · rw [List.getElem?_eq_none (by simp; omega)]
      rfl
theorem numC_len (s n i : Nat) : (numC s n i).length = n := by simp [numC]
theorem numL_len (s n : Nat) : (numL s n).length = n := by simp [numL]
theorem numC_zero (s n : Nat) : madeCells ((Value.int .i64 0).cells) (n * 1) = (numC s n 0).toArray := by
  apply Array.ext_getElem?
  intro k
  by_cases hk : k < n
  · have e : (numC s n 0).toArray[k]? = some (.int .i64 0) := by
      simp [numC, hk]
    rw [e]
    simp [madeCells, hk, Value.cells, Nat.mod_one]
  · rw [Array.getElem?_eq_none (by simp [madeCells]; omega), Array.getElem?_eq_none (by simp [numC]; omega)]
theorem numL_at (s n k : Nat) (h : k < n) : (numL s n)[k]? = some (.int .i64 ((s + k : Nat) : Int)) := by simp [numL, h]
/-- A row of n rising numbers from s on. -/
def NumsAt (w : World) (b s n : Nat) : Prop := w.heap[b]? = some (.cells (numL s n).toArray 3)
theorem NumsAt.cell {w : World} {b s n : Nat} (h : NumsAt w b s n) (k : Nat) (hk : k < n) : w.cell? ⟨b, k, none⟩ = some (.int .i64 ((s + k : Nat) : Int)) := by
  rw [cell_of_row _ _ _ _ _ _ h, List.getElem?_toArray, numL_at s n k hk]
theorem NumsAt.kept {w w' : World} {b s n : Nat} (h : NumsAt w b s n) {X : List Nat} (hk : Kp X w w') (hb : b ∉ X) : NumsAt w' b s n := hk.row h hb
theorem infoInt : (Tryd.prog.info? 3).map (fun i => (i.zero, i.size, i.bytes)) = some (some (.int .i64 0), 1, 8) := by kernel_rfl

section
variable {w w' : World} {a d g first size : Nat} {al : Al} {x : Cx} {D : Dk}
theorem numbers_any (w : World) (s : Nat) : Calls Tryd.prog 29 #[.int .i64 s] w fun e w' => ∃ p, e = .returned (.func (.func 42) #[] #[.pointer (some ⟨p, 0, none⟩)]) ∧ w'.heap[p]? = some (.cells #[.int .i64 s] 3) ∧ Below w.heap.size w w' ∧ w.heap.size ≤ p := by
  go_enter Tryd.func29, Tryd.ntmps29
  go_wp2
  go_ret
  exact ⟨_, rfl, top_row _ _, below_a1 _ _, Nat.le_refl _⟩
theorem number_at (p s i : Nat) (hs : s ≤ 1099511627776) (hi : i ≤ 256) (hc : w.cell? ⟨p, 0, none⟩ = some (.int .i64 s)) : Calls Tryd.prog 42 #[.int .i64 i, .pointer (some ⟨p, 0, none⟩)] w fun e w' => e = .returned (.int .i64 ((s + i : Nat) : Int)) ∧ w' = w := by
  go_enter Tryd.func42, Tryd.ntmps42
  go_wp2
  go_ret
  exact ⟨by simp, rfl⟩

theorem AllocAt.took (h : AllocAt w a x.c al) (L : Nat) (h1 : L ≤ al.lim) : AllocAt (w.setCell ⟨a, 1, none⟩ (.int .i64 L)) a x.c ⟨L, al.lim⟩ :=
  ⟨by rw [heap_setCell_same _ _ 1 _ _ _ h.obj]; rfl, h1, h.mx⟩

set_option maxHeartbeats 4000000 in
theorem some_bad (h : AllocAt w a x.c al) (hc : CellAt w x d first size) (hd : DiskAt w d g D) (hr : first + 2 + 2 * size ≤ D.S.length) (ht : Lay.Tabs w) (n : Int) (hE : (someP D first size al n).1 ≠ 0) :
    Calls Tryd.prog 14 #[.pointer (some ⟨a, 0, none⟩), .int .i64 n] w fun e w' =>
      e = .returned (.tuple #[.slice none 0 0, .int .i64 (someP D first size al n).1]) ∧ DiskAt w' d g (someP D first size al n).2.1 ∧ AllocAt w' a x.c (someP D first size al n).2.2 ∧ Kp [d, g, a] w w' := by
  have H := hid h
  have HD := hid hd
  have c1 := h.c1
  have hle := h.le
  have hmx := h.mx
  rw [some_is] at hE ⊢
  by_cases h1 : n < 1
  · rw [if_pos (.inl h1)]
    have b1 : decide (n < 1) = true := decide_eq_true h1
    clear h hc hd ht hE
    go_enter Tryd.func14, Tryd.ntmps14
    go_wp2
    go_ret2
    exact ⟨rfl, HD.out, H.out, Kp.refl _ _⟩
  · have b1 : decide (n < 1) = false := decide_eq_false h1
    by_cases h2 : 256 < n
    · rw [if_pos (.inr h2)]
      have b2 : decide (256 < n) = true := decide_eq_true h2
      clear h hc hd ht hE
      go_enter Tryd.func14, Tryd.ntmps14
      go_wp2
      go_ret2
      exact ⟨rfl, HD.out, H.out, Kp.refl _ _⟩
    · have b2 : decide (256 < n) = false := decide_eq_false h2
      rw [if_neg (by omega)] at hE ⊢
      obtain ⟨k, rfl⟩ : ∃ k : Nat, n = k := ⟨n.toNat, by omega⟩
      simp only [Int.toNat_natCast] at hE ⊢
      by_cases h3 : 1099511627761 < al.next + k
      · rw [if_pos h3]
        have b3 : decide (1099511627760 < (al.next : Int) + (k : Int) - 1) = true := decide_eq_true (by omega)
        clear h hc hd ht hE
        go_enter Tryd.func14, Tryd.ntmps14
        go_wp2
        go_ret2
        exact ⟨rfl, HD.out, H.out, Kp.refl _ _⟩
      · rw [if_neg h3] at hE ⊢
        have b3 : decide (1099511627760 < (al.next : Int) + (k : Int) - 1) = false := decide_eq_false (by omega)
        have hE2 : (resP D first size al k).1 ≠ 0 := by
          intro e
          rw [if_pos e] at hE
          exact hE rfl
        have HLi := hid (res_lim D first size al k hE2)
        rw [if_neg hE2]
        have HRe := hid (reserve_any h hc hd hr ht k (by omega))
        rw [show ((al.next + k : Nat) : Int) = (al.next : Int) + (k : Int) by omega] at HRe
        have b4 : ((resP D first size al k).1 != 0) = true := by simpa using hE2
        clear h hc hd ht hE
        generalize resP D first size al k = R at *
        obtain ⟨eS, DS, lS⟩ := R
        simp only at HRe HLi b4 hE2 ⊢
        go_enter Tryd.func14, Tryd.ntmps14
        go_wp2_with fail
        refine HRe.out.mono ?_
        rintro e w1 ⟨rfl, h1, h2, h3⟩
        have HD1 := hid h1
        have HA1 := hid h2
        have HK1 := hid h3
        clear h1 h2 h3 HRe
        go_wp2
        go_ret2
        refine ⟨rfl, HD1.out, ?_, HK1.out⟩
        have h9 := HA1.out
        rw [HLi.out] at h9
        exact h9

set_option maxHeartbeats 4000000 in
theorem some_ok (h : AllocAt w a x.c al) (hc : CellAt w x d first size) (hd : DiskAt w d g D) (hr : first + 2 + 2 * size ≤ D.S.length) (ht : Lay.Tabs w) (n : Int) (hE : (someP D first size al n).1 = 0) :
    Calls Tryd.prog 14 #[.pointer (some ⟨a, 0, none⟩), .int .i64 n] w fun e w' => ∃ b k : Nat,
      n = k ∧ 1 ≤ k ∧ k ≤ 256 ∧ e = .returned (.tuple #[.slice (some ⟨b, 0, none⟩) k k, .int .i64 0]) ∧ NumsAt w' b al.next k ∧ w.heap.size ≤ b ∧ DiskAt w' d g (someP D first size al n).2.1 ∧ AllocAt w' a x.c (someP D first size al n).2.2 ∧ Kp [d, g, a] w w' ∧ (someP D first size al n).2.2.next = al.next + k ∧ al.next + k ≤ 1099511627761 := by
  have c1 := h.c1
  have hle := h.le
  have hmx := h.mx
  rw [some_is] at hE ⊢
  by_cases h1 : n < 1 ∨ 256 < n
  · rw [if_pos h1] at hE
    exact absurd hE (by simp)
  · rw [if_neg h1] at hE ⊢
    obtain ⟨k, rfl⟩ : ∃ k : Nat, n = k := ⟨n.toNat, by omega⟩
    simp only [Int.toNat_natCast] at hE ⊢
    have b1 : decide ((k : Int) < 1) = false := decide_eq_false (by omega)
    have b2 : decide (256 < (k : Int)) = false := decide_eq_false (by omega)
    by_cases h3 : 1099511627761 < al.next + k
    · rw [if_pos h3] at hE
      exact absurd hE (by simp)
    · rw [if_neg h3] at hE ⊢
      have b3 : decide (1099511627760 < (al.next : Int) + (k : Int) - 1) = false := decide_eq_false (by omega)
      have hE2 : (resP D first size al k).1 = 0 := by
        by_cases e : (resP D first size al k).1 = 0
        · exact e
        · rw [if_neg e] at hE
          exact absurd hE e
      rw [if_pos hE2]
      have HRe := hid (reserve_any h hc hd hr ht k (by omega))
      rw [show ((al.next + k : Nat) : Int) = (al.next : Int) + (k : Int) by omega] at HRe
      obtain ⟨l1, l2, l3⟩ := res_le D first size al k hle hmx (by omega)
      have HLl := hid (l3 hE2)
      have HAw : Hid (a < w.heap.size) := row_lt h.obj
      have HDw : Hid (d < w.heap.size ∧ g < w.heap.size) := ⟨row_lt hd.obj, row_lt hd.row⟩
      have HF := hid (h.far hd)
      obtain ⟨ii, hii, hz0, hz1, hz2⟩ := info_parts infoInt
      have HMk : Hid (∀ W : World, _) := fun W => run_make (P := Tryd.prog) W 34 3 ii _ Tryd.underlying34 hii hz0 .i64 .i64 (k : Int) (k : Int) (by omega) (by omega) (by rw [hz2]; omega) (by omega)
      rw [hz1] at HMk
      simp only [Int.toNat_natCast] at HMk
      rw [numC_zero al.next k] at HMk
      clear h hc hd ht hE l1 l2 l3 hz0 hz1 hz2 hii
      generalize resP D first size al k = R at *
      obtain ⟨eS, DS, lS⟩ := R
      simp only at HRe HLl hE2 ⊢
      subst hE2
      obtain ⟨nx, lm⟩ := al
      simp only at *
      go_enter Tryd.func14, Tryd.ntmps14
      go_wp2_with fail
      refine HRe.out.mono ?_
      rintro e w1 ⟨rfl, h1, h2, h3⟩
      have HD1 := hid h1
      have HA1 := hid h2
      have HK1 := hid h3
      have c1 := h2.c1
      clear h1 h2 h3 HRe
      go_wp2_with fail
      refine (numbers_any _ nx).mono ?_
      rintro e w2 ⟨p, rfl, hp, hb2, hpg⟩
      have HB2 := hid hb2
      have HP := hid hp
      have hmk := HMk.out w2
      clear hb2 hp HMk
      generalize hW3 : w2.alloc (.cells (numC nx k 0).toArray 3) = W3
      have hT3 : W3.heap[w2.heap.size]? = some (.cells (numC nx k 0).toArray 3) := by rw [← hW3]; exact top_row _ _
      have HB3 : Hid (Below w2.heap.size w2 W3) := by rw [← hW3]; exact below_a1 _ _
      have HT3 := hid hT3
      have HP3 : Hid (W3.heap[p]? = some (.cells #[.int .i64 nx] 3)) := row_kept HP.out HB3.out
      have HPn : Hid (p ≠ w2.heap.size) := by have := row_lt HP.out; show p ≠ _; omega
      go_wp2
      clear hmk hT3
      clear hW3
      have hbg : w1.heap.size ≤ w2.heap.size := HB2.out.size
      have hwg : w.heap.size ≤ w1.heap.size := HK1.out.size
      generalize w2.heap.size = b at *
      go_loopw [46] (fun i w' => ∃ j : Nat, j ≤ k ∧ i = .int .i64 j ∧ Hid (w'.heap[b]? = some (.cells (numC nx k j).toArray 3)) ∧ Hid (Kp [b] W3 w')) (fun i _ => k - (intOf i).toNat)
      case atStart => exact ⟨0, Nat.zero_le _, rfl, HT3, Kp.refl _ _⟩
      case round =>
        obtain ⟨j, hj, rfl, HI, HK⟩ := hrel
        by_cases hlt : j < k
        · have e1 : decide ((j : Int) < (k : Int)) = true := by simpa using hlt
          have e2 : decide (j < k) = true := by simpa using hlt
          have HNm := hid (number_at (w := wr) p nx j (by omega) (by omega) (by rw [cell_of_row _ _ _ _ _ _ (HK.out.row HP3.out (by simpa using HPn.out))]; rfl))
          have q1 : wr.cell? ⟨b, j, none⟩ = some (.int .i64 0) := by
            rw [cell_of_row _ _ _ _ _ _ HI.out, List.getElem?_toArray]
            simp [numC, hlt]
          have q2 : wr.frozen? ⟨b, j, none⟩ = false := by simp [World.frozen?, HI.out]
          go_wp2_with fail
          refine HNm.out.mono ?_
          rintro e w4 ⟨rfl, hw⟩
          subst w4
          go_wp2
          go_roundw
          case rel =>
            refine ⟨j + 1, by omega, by go_num, ?_, HK.out.setCell _ _ (.inl (by simp))⟩
            show _ = _
            rw [heap_setCell_same _ _ j _ _ _ HI.out]
            simp only [List.setIfInBounds_toArray]
            rw [← numC_set nx k j hlt]
            simp
          case measure => simp [intOf]; omega
        · obtain rfl : j = k := by omega
          have e1 : decide ((j : Int) < (j : Int)) = false := by simp
          have HK13 : Hid (Kp [b] w1 wr) := (Kp.of (HB2.out.trans (HB3.out.mono hbg))).trans HK.out
          have hab : a ≠ b := by have := HAw.out; omega
          have HA4 : Hid (AllocAt wr a x.c ⟨nx, lS⟩) := HA1.out.kept HK13.out (by simpa using hab)
          have HD4 : Hid (DiskAt wr d g DS) := HD1.out.kept HK13.out (by have := HDw.out.1; simp; omega) (by have := HDw.out.2; simp; omega)
          have c4 := HA4.out.c1
          have f4 := HA4.out.fz 1
          have HKw : Hid (Kp [d, g, a] w wr) := HK1.out.trans (HK13.out.drop (fun y hy => .inr (by simp at hy; omega)))
          go_wp2
          go_ret2
          have ee : ((nx : Int) + (j : Int)) = ((nx + j : Nat) : Int) := by omega
          rw [ee]
          have hk9 : Kp [a] wr (wr.setCell ⟨a, 1, none⟩ (.int .i64 ((nx + j : Nat) : Int))) := (Kp.refl _ _).setCell _ _ (.inl (by simp))
          refine ⟨b, j, rfl, by omega, by omega, rfl, ?_, by omega, HD4.out.kept hk9 (fun hm => HF.out (by simp at hm ⊢; simp [hm])) (fun hm => HF.out (by simp at hm ⊢; simp [hm])), HA4.out.took _ HLl.out, HKw.out.setCell _ _ (.inl (by simp)), rfl, by omega⟩
          have h9 := HI.out
          rw [numC_end] at h9
          exact (show NumsAt wr b nx j from h9).kept hk9 (by simpa using Ne.symm hab)
theorem some_nil (w : World) (n : Int) : Calls Tryd.prog 14 #[.pointer none, .int .i64 n] w fun e w' => e = .returned (.tuple #[.slice none 0 0, .int .i64 1]) ∧ w' = w := by
  go_enter Tryd.func14, Tryd.ntmps14
  go_wp2
  go_ret2
  exact ⟨rfl, rfl⟩
theorem take_nil (w : World) : Calls Tryd.prog 19 #[.pointer none] w fun e w' => e = .returned (.tuple #[.int .i64 0, .int .i64 1]) ∧ w' = w := by
  go_enter Tryd.func19, Tryd.ntmps19
  go_wp2_with fail
  refine (some_nil _ 1).mono ?_
  rintro e W ⟨rfl, hW⟩
  subst W
  go_wp2
  go_ret2
  exact ⟨rfl, rfl⟩
set_option maxHeartbeats 2000000 in
theorem take_bad (h : AllocAt w a x.c al) (hc : CellAt w x d first size) (hd : DiskAt w d g D) (hr : first + 2 + 2 * size ≤ D.S.length) (ht : Lay.Tabs w) (hE : (someP D first size al 1).1 ≠ 0) :
    Calls Tryd.prog 19 #[.pointer (some ⟨a, 0, none⟩)] w fun e w' =>
      e = .returned (.tuple #[.int .i64 0, .int .i64 (someP D first size al 1).1]) ∧ DiskAt w' d g (someP D first size al 1).2.1 ∧ AllocAt w' a x.c (someP D first size al 1).2.2 ∧ Kp [d, g, a] w w' := by
  have HS := hid (some_bad h hc hd hr ht 1 hE)
  have b1 : ((someP D first size al 1).1 != 0) = true := by simpa using hE
  clear h hc hd ht
  generalize someP D first size al 1 = S at *
  obtain ⟨eS, DS, aS⟩ := S
  simp only at HS b1 hE ⊢
  go_enter Tryd.func19, Tryd.ntmps19
  go_wp2_with fail
  refine HS.out.mono ?_
  rintro e w1 ⟨rfl, h1, h2, h3⟩
  have HD1 := hid h1
  have HA1 := hid h2
  have HK1 := hid h3
  clear h1 h2 h3 HS
  go_wp2
  go_ret2
  exact ⟨rfl, HD1.out, HA1.out, HK1.out⟩
set_option maxHeartbeats 2000000 in
theorem take_ok (h : AllocAt w a x.c al) (hc : CellAt w x d first size) (hd : DiskAt w d g D) (hr : first + 2 + 2 * size ≤ D.S.length) (ht : Lay.Tabs w) (hE : (someP D first size al 1).1 = 0) :
    Calls Tryd.prog 19 #[.pointer (some ⟨a, 0, none⟩)] w fun e w' =>
      e = .returned (.tuple #[.int .i64 al.next, .int .i64 0]) ∧ DiskAt w' d g (someP D first size al 1).2.1 ∧ AllocAt w' a x.c (someP D first size al 1).2.2 ∧ Kp [d, g, a] w w' ∧ (someP D first size al 1).2.2.next = al.next + 1 := by
  have HS := hid (some_ok h hc hd hr ht 1 hE)
  clear h hc hd ht hE
  generalize someP D first size al 1 = S at *
  obtain ⟨eS, DS, aS⟩ := S
  simp only at HS ⊢
  go_enter Tryd.func19, Tryd.ntmps19
  go_wp2_with fail
  refine HS.out.mono ?_
  rintro e w1 ⟨b, k, hk, h1, h2, rfl, h4, h5, h6, h7, h8, h9, h10⟩
  obtain rfl : k = 1 := by omega
  have HD1 := hid h6
  have HA1 := hid h7
  have HK1 := hid h8
  have HN1 := hid h9
  have q1 : w1.cell? ⟨b, 0, none⟩ = some (.int .i64 ((al.next : Nat) : Int)) := by have := h4.cell 0 (by omega); simpa using this
  clear h4 h5 h6 h7 h8 h9 h10 h1 h2 hk HS
  go_wp2
  go_ret2
  exact ⟨rfl, HD1.out, HA1.out, HK1.out, HN1.out⟩
end
end Go.Proofs.YtnhnjdldgaaeoaaDoor
