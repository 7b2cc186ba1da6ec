/-
  What the reference's Load answers.
-/
import Derived.Test.YtnhnjdldgaaeoaaGreatDoorQcl
import Derived.Test.YtnhnjdldgaaeoaaGreatDoorKte
namespace Go.Proofs.YtnhnjdldgaaeoaaGreatDoor
open Go Go.RowKit
set_option maxRecDepth 100000

theorem owns_cells {w : World} {B n : Nat} {v : Value} {l : List UInt8} (h : w.ownsRowF B 5 1 v n (Lib.byteCells l)) (hn : 0 < n) : ∃ g cap, v = .slice (some ⟨g, 0, none⟩) n cap ∧ n ≤ cap ∧ ∀ j x, (Lib.byteCells l)[j]? = some x → w.cell? ⟨g, j, none⟩ = some x := by
  rcases h.2 with ⟨_, h0⟩ | ⟨g, cap, cur, fz, hv', hB, hg, h4, h5, h6, hcs, htake⟩
  · omega
  · refine ⟨g, cap, hv', ?_, fun j x hx => ?_⟩
    · exact h5
    · rw [← htake, List.getElem?_take] at hx
      by_cases hj : j < n * 1
      · rw [if_pos hj] at hx
        rw [cell_of_row _ _ _ _ _ _ hg, ← Array.getElem?_toList]
        exact hx
      · rw [if_neg hj] at hx
        cases hx
theorem conv_first {w : World} {g cap : Nat} (l : List UInt8) (k : Nat) (hk : k ≤ l.length) (hc : ∀ j x, (Lib.byteCells l)[j]? = some x → w.cell? ⟨g, j, none⟩ = some x) : (convert 97 9 (.slice (some ⟨g, 0, none⟩) k cap)).run Tryz.prog w = .ok (.string ⟨(l.take k).toArray⟩) w := by
  have hl : (l.take k).length = k := by simp; omega
  have h := run_convert_bytes_back (P := Tryz.prog) w 97 9 5 ⟨g, 0, none⟩ cap (l.take k) Tryz.underlying97 Tryz.underlying5 Tryz.underlying9 (fun j hj => by
    have hj2 : j < l.length := by rw [hl] at hj; omega
    rw [add_none, Nat.zero_add, hc j (.int .u8 (l[j].toNat : Nat)) (by simp [Lib.byteCells, hj2])]
    simp)
  rw [hl] at h
  exact h

section
variable {w w' : World} {y : Nat} {r : Rx} {first size : Nat} {D : Dk}
set_option maxHeartbeats 4000000 in
theorem rload_any (h : RcAt w y r first size) (hr : RefAt w r D) (hroom : first + 2 + 2 * size ≤ D.S.length) :
    Calls Tryz.prog 29 #[.pointer (some ⟨y, 0, none⟩)] w fun e w' =>
      e = .returned (.tuple #[.string ⟨(loadP D first size).1.toArray⟩, .int .i64 (loadP D first size).2.1, .int .i64 (loadP D first size).2.2]) ∧ Below w.heap.size w w' := by
  have c0 := h.c0
  have c3 := hr.c3
  have hf := h.fst
  have hsz := h.sz
  have hlen := hr.len
  unfold loadP
  cases hdn : D.down with
  | true =>
    rw [hdn] at c3
    simp only [if_true]
    clear h hr
    go_enter Tryz.func29, Tryz.ntmps29
    go_wp2
    go_ret3
    exact ⟨rfl, Below.refl _ _⟩
  | false =>
    rw [hdn] at c3
    simp only [Bool.false_eq_true, if_false]
    have HS0 := hid (fun W hb => rsays_any (h.stays (w' := W) hb) (hr.below hb) 0 (by omega))
    have HS1 := hid (fun W hb => rsays_any (h.stays (w' := W) hb) (hr.below hb) 1 (by omega))
    have x0 := say_le size (secB D.S first)
    have x1 := say_le size (secB D.S (first + 1))
    simp only [Nat.add_zero] at HS0
    have HC1 : Hid (∀ W, Below w.heap.size w W → W.cell? ⟨y, 1, none⟩ = some (.int .i64 first) ∧ W.cell? ⟨y, 2, none⟩ = some (.int .i64 size)) := fun W hb => ⟨(h.stays hb).c1, (h.stays hb).c2⟩
    have HQL : Hid (∀ a, a + size ≤ D.S.length → ∀ W, Below w.heap.size w W → (W.cell? ⟨y, 0, none⟩ = some (.pointer (some ⟨r.x, 0, none⟩)) ∧ W.cell? ⟨y, 2, none⟩ = some (.int .i64 size) ∧ W.cell? ⟨r.x, 0, none⟩ = some (.slice (some ⟨r.gL, 0, none⟩) D.S.length r.cL)) ∧ (∀ j, j < size → W.cell? ⟨r.gL, a + j, none⟩ = some (.string ⟨(secB D.S (a + j)).toArray⟩))) :=
      fun a ha W hb => ⟨⟨(h.stays hb).c0, (h.stays hb).c2, (hr.below hb).c0⟩, fun j hj => (hr.below hb).sec (a + j) (by omega)⟩
    have HSL := hid (fun k => sec_len hr.ok k)
    have HTL0 := hid (fun a => catP_len (S := D.S) (a := a) (k := size) (fun i _ => sec_len hr.ok _))
    have HST0 := hid (fun a j => catP_succ D.S a j)
    obtain ⟨i0, hi, hz0, hz1, hz2⟩ := info_parts infoByte
    have H0 : Hid (∀ (W : World) (a : Nat), Below w.heap.size w W → W.ownsRowF w.heap.size 5 1 (.slice none 0 0) (64 * 0) (Lib.byteCells (catP D.S a 0))) := by
      intro W a hb
      exact ⟨rfl, .inl ⟨rfl, rfl⟩⟩
    clear h hr
    generalize hN : D.S.length = N at *
    generalize sayN size (secB D.S first) = X at *
    generalize sayN size (secB D.S (first + 1)) = Y at *
    obtain ⟨xn, xl⟩ := X
    obtain ⟨yn, yl⟩ := Y
    simp only at HS0 HS1 x0 x1 ⊢
    by_cases hgt : xn < yn
    · rw [if_pos hgt]
      obtain ⟨at0, hat⟩ : ∃ a, a = first + 2 + size := ⟨_, rfl⟩
      have HQ := hid (HQL.out at0 (by omega))
      have HTL := hid (HTL0.out at0)
      have HST := hid (HST0.out at0)
      have H0 := hid (fun W hb => H0.out W at0 hb)
      rw [← hat]
      clear HQL HTL0 HST0
      obtain ⟨T, hT⟩ : ∃ T : Nat → List UInt8, T = catP D.S at0 := ⟨_, rfl⟩
      have eT : ∀ j, catP D.S at0 j = T j := fun j => by rw [hT]
      simp only [eT] at HTL HST H0 ⊢
      clear hT eT
      go_enter Tryz.func29, Tryz.ntmps29
      go_wp2_with fail
      refine (HS0.out _ (Below.refl _ _)).mono ?_
      rintro e w1 ⟨rfl, hb1⟩
      have HB1 := hid hb1
      obtain ⟨m1, m2⟩ := HC1.out _ hb1
      clear hb1
      go_wp2_with fail
      refine (HS1.out _ HB1.out).mono ?_
      rintro e w2 ⟨rfl, hb2⟩
      have HB2 : Hid (Below w.heap.size w w2) := HB1.out.trans (hb2.mono HB1.out.size)
      clear hb2 m1 m2 HB1
      obtain ⟨m1, m2⟩ := HC1.out _ HB2.out
      go_wp2_with fail
      go_quiet (fail)
      have HB3 : Hid (Below w.heap.size w (w2.drewN nq)) := below_drawn HB2.out _
      have eat : (first : Int) + 2 + (size : Int) = (at0 : Int) := by omega
      have hnz : ((yn : Int) == 0) = false := by simp; omega
      have hatb : at0 + size ≤ N := by omega
      clear hat
      clear HB2 m1 m2 HS0 HS1 HC1
      go_wp2
      try simp only [eat]
      go_loopw [10, 11] (fun v k w' => ∃ j : Nat, k = .int .i64 j ∧ j ≤ size ∧ Hid (w'.ownsRowF w.heap.size 5 1 v (64 * j) (Lib.byteCells (T j))) ∧ Hid (Below w.heap.size w w')) (fun _ k _ => size - (intOf k).toNat)
      case atStart => exact ⟨0, rfl, by omega, H0.out _ HB3.out, HB3⟩
      case round =>
        clear HB3 H0
        obtain ⟨j, rfl, hj, HI, HB⟩ := hrel
        rename_i v10
        have hsz2 : w.heap.size ≤ wr.heap.size := HB.out.size
        obtain ⟨⟨p0, p1, p2⟩, p3⟩ := HQ.out _ HB.out
        by_cases hlt : j < size
        · have e1 : decide ((j : Int) < (size : Int)) = true := by simpa using hlt
          have q3 := p3 j hlt
          have hst := hid (HST.out j)
          have hsl := HSL.out (at0 + j)
          clear p3
          generalize secB D.S (at0 + j) = s at *
          have hss : (⟨s.toArray⟩ : ByteArray).size = 64 := hsl
          have d2 : decide ((at0 : Int) + (j : Int) < (N : Int)) = true := by simp; omega
          go_wp2_with (at_builtin; refine Lib.wpList_append_own_stringF _ rfl _ _ 97 9 rfl w.heap.size 5 i0 Tryz.underlying97 Tryz.underlying9 hi hz0 hz1 hz2 _ _ _ rfl HI.out ⟨s.toArray⟩ rfl ?c3 ?c4 ?c5 ?_)
          case c3 => unfold maxLen; rw [hss]; omega
          case c4 => rw [hss]; omega
          case c5 => exact hsz2
          intro v' w2 hown' hgrow _
          have HI2 : Hid (w2.ownsRowF w.heap.size 5 1 v' (64 * (j + 1)) (Lib.byteCells (T (j + 1)))) := by
            rw [hst.out]
            have e : Lib.byteCells (T j ++ s) = Lib.byteCells (T j) ++ Lib.strCells ⟨s.toArray⟩ := by simp [Lib.byteCells, Lib.strCells]
            rw [e, show 64 * (j + 1) = 64 * j + 64 by omega]
            exact hown'
          have HB2 : Hid (Below w.heap.size w w2) := HB.out.grown hgrow hsz2 (fun k hk => (HI.out.lt k hk).1)
          obtain ⟨ao, cp, rfl⟩ := rowF_form HI2.out
          clear hown' hgrow HI HB
          go_wp2
          go_roundw
          case rel => exact ⟨j + 1, by go_num, by omega, HI2, HB2⟩
          case measure => simp [intOf]; omega
        · obtain rfl : j = size := by omega
          obtain ⟨gg, cp, rfl, hcp, hcl⟩ := owns_cells HI.out (by omega)
          have hcv := conv_first (w := wr) (g := gg) (cap := cp) (T j) yl (by rw [HTL.out]; omega) hcl
          have hcp2 : yl ≤ cp := by omega
          clear hcl p3
          go_wp2
          go_ret3
          exact ⟨rfl, HB.out⟩
    · rw [if_neg hgt]
      by_cases hz : xn = 0
      · subst hz
        simp only [if_true]
        go_enter Tryz.func29, Tryz.ntmps29
        go_wp2_with fail
        refine (HS0.out _ (Below.refl _ _)).mono ?_
        rintro e w1 ⟨rfl, hb1⟩
        have HB1 := hid hb1
        obtain ⟨m1, m2⟩ := HC1.out _ hb1
        clear hb1
        go_wp2_with fail
        refine (HS1.out _ HB1.out).mono ?_
        rintro e w2 ⟨rfl, hb2⟩
        have HB2 : Hid (Below w.heap.size w w2) := HB1.out.trans (hb2.mono HB1.out.size)
        clear hb2
        go_wp2
        go_ret3
        exact ⟨rfl, HB2.out⟩
      · rw [if_neg hz]
        obtain ⟨at0, hat⟩ : ∃ a, a = first + 2 := ⟨_, rfl⟩
        have HQ := hid (HQL.out at0 (by omega))
        have HTL := hid (HTL0.out at0)
        have HST := hid (HST0.out at0)
        have H0 := hid (fun W hb => H0.out W at0 hb)
        rw [← hat]
        clear HQL HTL0 HST0
        obtain ⟨T, hT⟩ : ∃ T : Nat → List UInt8, T = catP D.S at0 := ⟨_, rfl⟩
        have eT : ∀ j, catP D.S at0 j = T j := fun j => by rw [hT]
        simp only [eT] at HTL HST H0 ⊢
        clear hT eT
        go_enter Tryz.func29, Tryz.ntmps29
        go_wp2_with fail
        refine (HS0.out _ (Below.refl _ _)).mono ?_
        rintro e w1 ⟨rfl, hb1⟩
        have HB1 := hid hb1
        obtain ⟨m1, m2⟩ := HC1.out _ hb1
        clear hb1
        go_wp2_with fail
        refine (HS1.out _ HB1.out).mono ?_
        rintro e w2 ⟨rfl, hb2⟩
        have HB2 : Hid (Below w.heap.size w w2) := HB1.out.trans (hb2.mono HB1.out.size)
        clear hb2 m1 m2 HB1
        obtain ⟨m1, m2⟩ := HC1.out _ HB2.out
        have eat : (first : Int) + 2 = (at0 : Int) := by omega
        have hnz : ((xn : Int) == 0) = false := by simp; omega
        have hatb : at0 + size ≤ N := by omega
        clear hat
        clear HS0 HS1 HC1
        go_wp2
        clear m1 m2
        try simp only [eat]
        go_loopw [10, 11] (fun v k w' => ∃ j : Nat, k = .int .i64 j ∧ j ≤ size ∧ Hid (w'.ownsRowF w.heap.size 5 1 v (64 * j) (Lib.byteCells (T j))) ∧ Hid (Below w.heap.size w w')) (fun _ k _ => size - (intOf k).toNat)
        case atStart => exact ⟨0, rfl, by omega, H0.out _ HB2.out, HB2⟩
        case round =>
          clear HB2 H0
          obtain ⟨j, rfl, hj, HI, HB⟩ := hrel
          rename_i v10
          have hsz2 : w.heap.size ≤ wr.heap.size := HB.out.size
          obtain ⟨⟨p0, p1, p2⟩, p3⟩ := HQ.out _ HB.out
          by_cases hlt : j < size
          · have e1 : decide ((j : Int) < (size : Int)) = true := by simpa using hlt
            have q3 := p3 j hlt
            have hst := hid (HST.out j)
            have hsl := HSL.out (at0 + j)
            clear p3
            generalize secB D.S (at0 + j) = s at *
            have hss : (⟨s.toArray⟩ : ByteArray).size = 64 := hsl
            have d2 : decide ((at0 : Int) + (j : Int) < (N : Int)) = true := by simp; omega
            go_wp2_with (at_builtin; refine Lib.wpList_append_own_stringF _ rfl _ _ 97 9 rfl w.heap.size 5 i0 Tryz.underlying97 Tryz.underlying9 hi hz0 hz1 hz2 _ _ _ rfl HI.out ⟨s.toArray⟩ rfl ?c3 ?c4 ?c5 ?_)
            case c3 => unfold maxLen; rw [hss]; omega
            case c4 => rw [hss]; omega
            case c5 => exact hsz2
            intro v' w2 hown' hgrow _
            have HI2 : Hid (w2.ownsRowF w.heap.size 5 1 v' (64 * (j + 1)) (Lib.byteCells (T (j + 1)))) := by
              rw [hst.out]
              have e : Lib.byteCells (T j ++ s) = Lib.byteCells (T j) ++ Lib.strCells ⟨s.toArray⟩ := by simp [Lib.byteCells, Lib.strCells]
              rw [e, show 64 * (j + 1) = 64 * j + 64 by omega]
              exact hown'
            have HB2 : Hid (Below w.heap.size w w2) := HB.out.grown hgrow hsz2 (fun k hk => (HI.out.lt k hk).1)
            obtain ⟨ao, cp, rfl⟩ := rowF_form HI2.out
            clear hown' hgrow HI HB
            go_wp2
            go_roundw
            case rel => exact ⟨j + 1, by go_num, by omega, HI2, HB2⟩
            case measure => simp [intOf]; omega
          · obtain rfl : j = size := by omega
            obtain ⟨gg, cp, rfl, hcp, hcl⟩ := owns_cells HI.out (by omega)
            have hcv := conv_first (w := wr) (g := gg) (cap := cp) (T j) xl (by rw [HTL.out]; omega) hcl
            have hcp2 : xl ≤ cp := by omega
            clear hcl p3
            go_wp2
            go_ret3
            exact ⟨rfl, HB.out⟩
end
end Go.Proofs.YtnhnjdldgaaeoaaGreatDoor
