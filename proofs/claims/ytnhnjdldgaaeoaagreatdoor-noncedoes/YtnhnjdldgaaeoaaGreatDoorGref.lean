/-
  The reference's allocator: what its Open and Some answer; both allocators, alike.
-/
import Derived.Test.YtnhnjdldgaaeoaaGreatDoorGval
import Derived.Test.YtnhnjdldgaaeoaaGreatDoorQlo
import Derived.Test.YtnhnjdldgaaeoaaGreatDoorGsav
import Derived.Test.YtnhnjdldgaaeoaaGreatDoorGlay
import Derived.Test.YtnhnjdldgaaeoaaGreatDoorWdo
import Derived.Test.YtnhnjdldgaaeoaaGreatDoorQop
import Derived.BigQuiet
namespace Go.Proofs.YtnhnjdldgaaeoaaGreatDoor
open Go Go.RowKit
set_option maxRecDepth 100000

/-- The reference's allocator at b, over its cell at y. -/
structure RalAt (w : World) (b y : Nat) (al : Al) : Prop where
  obj : w.heap[b]? = some (.cells #[.pointer (some ⟨y, 0, none⟩), .int .i64 al.next, .int .i64 al.lim] 57)
  le : al.next ≤ al.lim
  mx : al.lim ≤ 1099511627776
section
variable {w w' : World} {b y first size : Nat} {al : Al} {r : Rx} {D : Dk}
theorem RalAt.kept (h : RalAt w b y al) {X : List Nat} (hk : Kp X w w') (h1 : b ∉ X) : RalAt w' b y al := ⟨hk.row h.obj h1, h.le, h.mx⟩
theorem RalAt.stays (h : RalAt w b y al) (hb : Below w.heap.size w w') : RalAt w' b y al := h.kept (X := []) (Kp.of hb) (by simp)
theorem RalAt.c0 (h : RalAt w b y al) : w.cell? ⟨b, 0, none⟩ = some (.pointer (some ⟨y, 0, none⟩)) := by rw [cell_of_row _ _ _ _ _ _ h.obj]; rfl
theorem RalAt.c1 (h : RalAt w b y al) : w.cell? ⟨b, 1, none⟩ = some (.int .i64 al.next) := by rw [cell_of_row _ _ _ _ _ _ h.obj]; rfl
theorem RalAt.c2 (h : RalAt w b y al) : w.cell? ⟨b, 2, none⟩ = some (.int .i64 al.lim) := by rw [cell_of_row _ _ _ _ _ _ h.obj]; rfl
theorem RalAt.fz (h : RalAt w b y al) (j : Nat) : w.frozen? ⟨b, j, none⟩ = false := by simp [World.frozen?, h.obj]
theorem RalAt.far (h : RalAt w b y al) (hr : RefAt w r D) : b ∉ [r.x, r.gL, r.gO] := by
  intro hm
  simp only [List.mem_cons, List.not_mem_nil, or_false] at hm
  rcases hm with rfl | rfl | rfl
  · exact differ h.obj hr.obj (by decide)
  · exact differ h.obj hr.L (by decide)
  · exact differ h.obj hr.O (by decide)
theorem RalAt.next (h : RalAt w b y al) (hr : RefAt w r D) (hk : Kp [r.x, r.gL, r.gO] w w') : RalAt w' b y al := h.kept hk (h.far hr)
theorem RalAt.cell (h : RalAt w b y al) (hc : RcAt w y r first size) : y ≠ b := by
  rintro rfl
  exact differ h.obj hc.obj (by decide)

set_option maxHeartbeats 4000000 in
theorem r8open_ok (hc : RcAt w y r first size) (hr : RefAt w r D) (hroom : first + 2 + 2 * size ≤ D.S.length) (hE : keptE (loadP D first size) = 0) :
    Calls Tryz.prog 10 #[.pointer (some ⟨y, 0, none⟩)] w fun e w' => ∃ b, e = .returned (.tuple #[.pointer (some ⟨b, 0, none⟩), .int .i64 0]) ∧ RalAt w' b y ⟨keptN (loadP D first size), keptN (loadP D first size)⟩ ∧ Below w.heap.size w w' ∧ w.heap.size ≤ b := by
  have HL := hid (rload_any hc hr hroom)
  have hln := load_len D first size
  have hsz := hc.sz
  clear hc hr hroom
  have hle := kept_le _ hE
  generalize loadP D first size = L at *
  obtain ⟨t, n, e⟩ := L
  simp only at HL hln
  by_cases h9 : e = 9
  · have eV : keptN (t, n, e) = 0 := by unfold keptN; rw [if_pos h9]
    rw [eV] at hle ⊢
    subst h9
    go_enter Tryz.func10, Tryz.ntmps10
    go_wp2_with fail
    refine HL.out.mono ?_
    rintro e w1 ⟨rfl, hb1⟩
    have HB1 := hid hb1
    clear hb1
    go_wp2
    go_ret2
    exact ⟨w1.heap.size, rfl, ⟨top_row _ _, Nat.le_refl _, hle⟩, below_more HB1.out _ (Nat.le_refl _), HB1.out.size⟩
  · have d9 : (e == 9) = false := by simpa using h9
    by_cases h0 : e = 0
    · subst h0
      have HRd := hid (fun W => refRead_any ⟨t.toArray⟩ (by show t.length ≤ maxLen; unfold maxLen; omega) W t rfl)
      obtain ⟨V, hV⟩ : ∃ V, V = keptN (t, n, 0) := ⟨_, rfl⟩
      rw [← hV] at hle ⊢
      unfold keptE at hE
      unfold keptN at hV
      unfold Lay.numTo at HRd
      have hts : (⟨t.toArray⟩ : ByteArray).size = t.length := rfl
      have e90 : ¬ ((0 : Int) = 9) := by decide
      have e00 : ¬ ((0 : Int) ≠ 0) := by decide
      simp only [e90, e00, if_false] at hE hV
      generalize readNum t = R at *
      obtain ⟨re, rn, rl⟩ := R
      simp only at HRd hE hV
      by_cases hcd : re = 0 ∧ rl = t.length ∧ 0 ≤ rn ∧ rn ≤ 1099511627776
      · obtain ⟨c1, c2, c3, c4⟩ := hcd
        subst c1
        simp only [if_true, Nat.zero_add] at HRd
        have b2 : ((rl : Int) != (t.length : Int)) = false := by simp [c2]
        have b3 : decide (rn < 0) = false := decide_eq_false (by omega)
        have b4 : decide (1099511627776 < rn) = false := decide_eq_false (by omega)
        have HV2 : Hid ((V : Int) = rn) := by show (V : Int) = rn; omega
        clear hE hV c2
        rw [← HV2.out] at HRd b3 b4
        clear HV2 c3 c4
        go_enter Tryz.func10, Tryz.ntmps10
        go_wp2_with fail
        refine HL.out.mono ?_
        rintro e w1 ⟨rfl, hb1⟩
        have HB1 := hid hb1
        clear hb1
        go_wp2_with fail
        refine (HRd.out _).mono ?_
        rintro e W ⟨rfl, hW⟩
        subst W
        go_wp2
        go_ret2
        exact ⟨w1.heap.size, rfl, ⟨top_row _ _, Nat.le_refl _, hle⟩, below_more HB1.out _ (Nat.le_refl _), HB1.out.size⟩
      · rw [if_neg hcd] at hE
        exact absurd hE (by decide)
    · have eE : keptE (t, n, e) = e := by unfold keptE; rw [if_neg h9, if_pos h0]
      rw [eE] at hE
      exact absurd hE h0
set_option maxHeartbeats 4000000 in
theorem r8open_bad (hc : RcAt w y r first size) (hr : RefAt w r D) (hroom : first + 2 + 2 * size ≤ D.S.length) (hE : keptE (loadP D first size) ≠ 0) :
    Calls Tryz.prog 10 #[.pointer (some ⟨y, 0, none⟩)] w fun e w' => e = .returned (.tuple #[.pointer none, .int .i64 (keptE (loadP D first size))]) ∧ Below w.heap.size w w' := by
  have HL := hid (rload_any hc hr hroom)
  have hln := load_len D first size
  have hsz := hc.sz
  clear hc hr hroom
  generalize loadP D first size = L at *
  obtain ⟨t, n, e⟩ := L
  simp only at HL hln
  by_cases h9 : e = 9
  · have eE : keptE (t, n, e) = 0 := by unfold keptE; rw [if_pos h9]
    exact absurd eE hE
  · have d9 : (e == 9) = false := by simpa using h9
    by_cases h0 : e = 0
    · subst h0
      have HRd := hid (fun W => refRead_any ⟨t.toArray⟩ (by show t.length ≤ maxLen; unfold maxLen; omega) W t rfl)
      obtain ⟨E, hK⟩ : ∃ E, E = keptE (t, n, 0) := ⟨_, rfl⟩
      rw [← hK] at hE ⊢
      unfold keptE at hK
      unfold Lay.numTo at HRd
      have hts : (⟨t.toArray⟩ : ByteArray).size = t.length := rfl
      have e90 : ¬ ((0 : Int) = 9) := by decide
      have e00 : ¬ ((0 : Int) ≠ 0) := by decide
      simp only [e90, e00, if_false] at hK
      generalize readNum t = R at *
      obtain ⟨re, rn, rl⟩ := R
      simp only at HRd hK
      have hE6 : E = 6 := by
        by_cases hcd : re = 0 ∧ rl = t.length ∧ 0 ≤ rn ∧ rn ≤ 1099511627776
        · rw [if_pos hcd] at hK
          exact absurd hK hE
        · rw [if_neg hcd] at hK
          exact hK
      have hncd : ¬ (re = 0 ∧ rl = t.length ∧ 0 ≤ rn ∧ rn ≤ 1099511627776) := fun hcd => by
        rw [if_pos hcd] at hK
        exact hE hK
      subst hE6
      clear hK hE
      by_cases c1 : re = 0
      · subst c1
        simp only [if_true, Nat.zero_add] at HRd
        by_cases c2 : rl = t.length
        · have b2 : ((rl : Int) != (t.length : Int)) = false := by simp [c2]
          by_cases c3 : rn < 0
          · have b3 : decide (rn < 0) = true := decide_eq_true c3
            clear c2 hncd
            go_enter Tryz.func10, Tryz.ntmps10
            go_wp2_with fail
            refine HL.out.mono ?_
            rintro e w1 ⟨rfl, hb1⟩
            have HB1 := hid hb1
            clear hb1
            go_wp2_with fail
            refine (HRd.out _).mono ?_
            rintro e W ⟨rfl, hW⟩
            subst W
            go_wp2
            go_ret2
            exact ⟨rfl, HB1.out⟩
          · have b3 : decide (rn < 0) = false := decide_eq_false c3
            have b4 : decide (1099511627776 < rn) = true := decide_eq_true (by omega)
            clear c2 hncd
            go_enter Tryz.func10, Tryz.ntmps10
            go_wp2_with fail
            refine HL.out.mono ?_
            rintro e w1 ⟨rfl, hb1⟩
            have HB1 := hid hb1
            clear hb1
            go_wp2_with fail
            refine (HRd.out _).mono ?_
            rintro e W ⟨rfl, hW⟩
            subst W
            go_wp2
            go_ret2
            exact ⟨rfl, HB1.out⟩
        · have b2 : ((rl : Int) != (t.length : Int)) = true := by simp; omega
          clear hncd
          go_enter Tryz.func10, Tryz.ntmps10
          go_wp2_with fail
          refine HL.out.mono ?_
          rintro e w1 ⟨rfl, hb1⟩
          have HB1 := hid hb1
          clear hb1
          go_wp2_with fail
          refine (HRd.out _).mono ?_
          rintro e W ⟨rfl, hW⟩
          subst W
          go_wp2
          go_ret2
          exact ⟨rfl, HB1.out⟩
      · have b1 : ((re : Int) != 0) = true := by simp; omega
        rw [if_neg c1] at HRd
        clear hncd
        go_enter Tryz.func10, Tryz.ntmps10
        go_wp2_with fail
        refine HL.out.mono ?_
        rintro e w1 ⟨rfl, hb1⟩
        have HB1 := hid hb1
        clear hb1
        go_wp2_with fail
        refine (HRd.out _).mono ?_
        rintro e W ⟨rfl, hW⟩
        subst W
        go_wp2
        go_ret2
        exact ⟨rfl, HB1.out⟩
    · have d0 : (e != 0) = true := by simpa using h0
      have eE : keptE (t, n, e) = e := by unfold keptE; rw [if_neg h9, if_pos h0]
      rw [eE]
      go_enter Tryz.func10, Tryz.ntmps10
      go_wp2_with fail
      refine HL.out.mono ?_
      rintro e w1 ⟨rfl, hb1⟩
      have HB1 := hid hb1
      clear hb1
      go_wp2
      go_ret2
      exact ⟨rfl, HB1.out⟩
end
end Go.Proofs.YtnhnjdldgaaeoaaGreatDoor

/-
  What the reference's Some does; which numbers are the same.
-/
namespace Go.Proofs.YtnhnjdldgaaeoaaGreatDoor
open Go Go.RowKit
set_option maxRecDepth 100000

def numZ (s n : Nat) : List Int := (List.range n).map fun k => ((s + k : Nat) : Int)
theorem numZ_len (s n : Nat) : (numZ s n).length = n := by simp [numZ]
theorem numL_succ (s n : Nat) : numL s (n + 1) = numL s n ++ [.int .i64 ((s + n : Nat) : Int)] := by simp [numL, List.range_succ]
theorem NumsAt.ints {w : World} {b s n : Nat} (h : NumsAt w b s n) : IntsAt w (.slice (some ⟨b, 0, none⟩) n n) (numZ s n) := by
  refine ⟨some ⟨b, 0, none⟩, n, by rw [numZ_len], by rw [numZ_len]; exact Nat.le_refl _, fun _ => ⟨b, 0, rfl, fun j x hj => ?_⟩⟩
  have hjn : j < n := by have := (List.getElem?_eq_some_iff.1 hj).1; rw [numZ_len] at this; exact this
  rw [Nat.zero_add, h.cell j hjn]
  simp [numZ, hjn] at hj
  rw [← hj]
  simp
theorem own_ints {w : World} {base s n : Nat} {v : Value} (h : w.ownsRow base 3 1 v n (numL s n)) : IntsAt w v (numZ s n) := by
  have e1 : numL s n = icells ((List.range n).map fun k => s + k) := by simp [numL, icells]
  have e2 : numZ s n = castL ((List.range n).map fun k => s + k) := by simp [numZ, castL]
  have e3 : n = ((List.range n).map fun k => s + k).length := by simp
  rw [e1, e3] at h
  rw [e2]
  simp only [List.length_map, List.length_range] at h
  refine ints_of_own (base := base) ?_
  simpa using h

section
variable {w w' : World} {b y first size : Nat} {al : Al} {r : Rx} {D : Dk}
theorem RalAt.put (h : RalAt w b y al) (L : Nat) (h1 : al.next ≤ L) (h2 : L ≤ 1099511627776) : RalAt (w.setCell ⟨b, 2, none⟩ (.int .i64 L)) b y ⟨al.next, L⟩ :=
  ⟨by rw [heap_setCell_same _ _ 2 _ _ _ h.obj]; rfl, h1, h2⟩
theorem RalAt.took (h : RalAt w b y al) (L : Nat) (h1 : L ≤ al.lim) : RalAt (w.setCell ⟨b, 1, none⟩ (.int .i64 L)) b y ⟨L, al.lim⟩ :=
  ⟨by rw [heap_setCell_same _ _ 1 _ _ _ h.obj]; rfl, h1, h.mx⟩
theorem limN_top (next n L : Nat) (h : next + n ≤ L) : limN next n L = L := by unfold limN; rw [if_pos h]

set_option maxHeartbeats 4000000 in
theorem r8some_bad (h : RalAt w b y al) (hc : RcAt w y r first size) (hr : RefAt w r D) (hroom : first + 2 + 2 * size ≤ D.S.length) (n : Int) (hE : (someP D first size al n).1 ≠ 0) :
    Calls Tryz.prog 18 #[.pointer (some ⟨b, 0, none⟩), .int .i64 n] w fun e w' =>
      e = .returned (.tuple #[.slice none 0 0, .int .i64 (someP D first size al n).1]) ∧ RefAt w' r (someP D first size al n).2.1 ∧ RalAt w' b y (someP D first size al n).2.2 ∧ Kp [r.x, r.gL, r.gO, b] w w' := by
  have H := hid h
  have HR := hid hr
  have c1 := h.c1
  have c2 := h.c2
  have hle := h.le
  have hmx := h.mx
  rw [some_is] at hE ⊢
  by_cases h1 : n < 1
  · rw [if_pos (.inl h1)]
    have b1 : decide (n < 1) = true := decide_eq_true h1
    clear h hc hr hE
    go_enter Tryz.func18, Tryz.ntmps18
    go_wp2
    go_ret2
    exact ⟨rfl, HR.out, H.out, Kp.refl _ _⟩
  · have b1 : decide (n < 1) = false := decide_eq_false h1
    by_cases h2 : 256 < n
    · rw [if_pos (.inr h2)]
      have b2 : decide (256 < n) = true := decide_eq_true h2
      clear h hc hr hE
      go_enter Tryz.func18, Tryz.ntmps18
      go_wp2
      go_ret2
      exact ⟨rfl, HR.out, H.out, Kp.refl _ _⟩
    · have b2 : decide (256 < n) = false := decide_eq_false h2
      rw [if_neg (by omega)] at hE ⊢
      obtain ⟨k, rfl⟩ : ∃ k : Nat, n = k := ⟨n.toNat, by omega⟩
      simp only [Int.toNat_natCast] at hE ⊢
      by_cases h3 : 1099511627761 < al.next + k
      · rw [if_pos h3]
        have b3 : decide (1099511627760 < (al.next : Int) + (k : Int) - 1) = true := decide_eq_true (by omega)
        clear h hc hr hE
        go_enter Tryz.func18, Tryz.ntmps18
        go_wp2
        go_ret2
        exact ⟨rfl, HR.out, H.out, Kp.refl _ _⟩
      · rw [if_neg h3] at hE ⊢
        have b3 : decide (1099511627760 < (al.next : Int) + (k : Int) - 1) = false := decide_eq_false (by omega)
        have hE2 : (resP D first size al k).1 ≠ 0 := by
          intro e
          rw [if_pos e] at hE
          exact hE rfl
        rw [if_neg hE2]
        have hgo : ¬ (al.next + k ≤ al.lim) := by
          intro h9
          apply hE2
          unfold resP
          rw [if_pos h9]
        unfold resP at hE2 ⊢
        rw [if_neg hgo] at hE2 ⊢
        have hnl : ¬ (al.next + k ≤ al.lim) := hgo
        have HSv : Hid (∀ W, Below w.heap.size w W → Calls Tryz.prog 16 #[.pointer (some ⟨y, 0, none⟩), .string ⟨(numW (limN al.next k al.lim)).toArray⟩] W fun e w' =>
            e = .returned (.int .i64 (saveP D first size (numW (limN al.next k al.lim))).1) ∧ RefAt w' r (saveP D first size (numW (limN al.next k al.lim))).2 ∧ Kp [r.x, r.gL, r.gO] W w') := fun W hb => rsave_any (hc.stays hb) (hr.below hb) hroom _
        have HQ : Hid (∀ W, Kp [r.x, r.gL, r.gO] w W → W.cell? ⟨b, 0, none⟩ = some (.pointer (some ⟨y, 0, none⟩))) := fun W hk => (h.next hr hk).c0
        have HAl : Hid (∀ W, Kp [r.x, r.gL, r.gO] w W → RalAt W b y al) := fun W hk => h.next hr hk
        have HLb : Hid (al.lim < limN al.next k al.lim ∧ al.next + k ≤ limN al.next k al.lim ∧ limN al.next k al.lim ≤ 1099511627776) := by
          show _ ∧ _ ∧ _
          unfold limN
          rw [if_neg hnl]
          omega
        have HNu : Hid (∀ W, Calls Tryz.prog 42 #[.int .i64 ((limN al.next k al.lim : Nat) : Int)] W fun e w' => e = .returned (.string ⟨(numW (limN al.next k al.lim)).toArray⟩) ∧ Below W.heap.size W w') := by
          intro W
          have h9 := HLb.out
          exact Lay.refNumber_any _ (by omega) (by omega) W
        have hst := fun L => limN_step al.next k L
        generalize saveP D first size (numW (limN al.next k al.lim)) = SS at *
        obtain ⟨eS, DS⟩ := SS
        simp only at HSv hE2 ⊢
        have hes : eS ≠ 0 := by
          intro e
          rw [if_pos e] at hE2
          exact hE2 rfl
        rw [if_neg hes]
        have HL0 : Hid (limN al.next k al.lim = limN al.next k al.lim) := show _ = _ from rfl
        have HSt := hid hst
        have b4 : (eS != 0) = true := by simpa using hes
        obtain ⟨lb1, lb2, lb3⟩ := HLb.out
        clear h hc hr hE hE2 hst hnl hroom HLb
        generalize hLL : limN al.next k al.lim = LL at HSv HNu lb1 lb2 lb3
        rw [hLL] at HL0
        have HL0' : Hid (limN al.next k al.lim = LL) := hLL
        clear hLL HL0
        obtain ⟨nx, lm⟩ := al
        simp only at *
        have HL0 := hid HL0'.out
        clear HL0'
        go_enter Tryz.func18, Tryz.ntmps18
        go_wp2
        go_loopw [6] (fun v w' => ∃ L : Nat, v = .int .i64 L ∧ L ≤ LL ∧ Hid (limN nx k L = LL) ∧ w' = w) (fun v _ => nx + k - (intOf v).toNat)
        case atStart => exact ⟨lm, rfl, by omega, HL0, rfl⟩
        case round =>
          obtain ⟨L, rfl, hLL, HLn, hw⟩ := hrel
          subst wr
          by_cases hlt : L < nx + k
          · have e1 : decide ((L : Int) < (nx : Int) + (k : Int)) = true := decide_eq_true (by omega)
            have hs9 := HSt.out L hlt
            have hg9 := limN_ge nx k (L + 16)
            have HLn2 : Hid (limN nx k (L + 16) = LL) := by show _ = _; rw [← hs9]; exact HLn.out
            have hL16 : L + 16 ≤ LL := by have := HLn2.out; omega
            clear hs9 hg9 HLn
            go_wp2
            go_roundw
            case rel => exact ⟨L + 16, by go_num, hL16, HLn2, by first | trivial | rfl⟩
            case measure => simp [intOf]; omega
          · have hLe : L = LL := by have h9 := HLn.out; rw [limN_top _ _ _ (by omega)] at h9; exact h9
            subst hLe
            have e1 : decide ((L : Int) < (nx : Int) + (k : Int)) = false := decide_eq_false (by omega)
            have e2 : decide ((lm : Int) < (L : Int)) = true := decide_eq_true (by omega)
            clear HLn HL0 HSt hlt
            go_wp2_with fail
            go_region_held3 (fun W => W.cell? ⟨b, 0, none⟩ = some (.pointer (some ⟨y, 0, none⟩)))
              (with_reducible first | exact HQ.out _ HK4 | exact HQ.out _ (Kp.of HB3) | exact HQ.out _ (Kp.refl _ _).drew | exact HQ.out _ (Kp.refl _ _))
              (first | (go_at_call 42; refine (HNu.out _).mono ?_; rintro e W3 ⟨rfl, hb3⟩; have HB3 : Below w.heap.size w W3 := (Below.refl _ _).drew.trans hb3; clear hb3) | (go_at_call 16; refine (HSv.out _ HB3).mono ?_; rintro e W4 ⟨rfl, h4, k4⟩; have HR4 := hid h4; have HK4 : Kp [r.x, r.gL, r.gO] w W4 := (Kp.of HB3).trans k4; clear h4 k4))
            have HK9 := hid HK4
            have HA9 := hid (HAl.out _ HK4)
            clear HK4 HB3 HQ HSv HNu HAl
            go_wp2
            go_ret2
            exact ⟨rfl, HR4.out, HA9.out, HK9.out.drop (by simp)⟩
end
end Go.Proofs.YtnhnjdldgaaeoaaGreatDoor

/-
  What the reference's Some answers where it takes numbers.
-/
namespace Go.Proofs.YtnhnjdldgaaeoaaGreatDoor
open Go Go.RowKit
set_option maxRecDepth 100000

section
variable {w w' : World} {b y first size : Nat} {al : Al} {r : Rx} {D : Dk}

set_option maxHeartbeats 8000000 in
theorem r8some_ok (h : RalAt w b y al) (hc : RcAt w y r first size) (hr : RefAt w r D) (hroom : first + 2 + 2 * size ≤ D.S.length) (n : Int) (hE : (someP D first size al n).1 = 0) :
    Calls Tryz.prog 18 #[.pointer (some ⟨b, 0, none⟩), .int .i64 n] w fun e w' => ∃ v,
      e = .returned (.tuple #[v, .int .i64 0]) ∧ IntsAt w' v (numZ al.next n.toNat) ∧ RefAt w' r (someP D first size al n).2.1 ∧ RalAt w' b y (someP D first size al n).2.2 ∧ Kp [r.x, r.gL, r.gO, b] w w' := by
  have H := hid h
  have HR := hid hr
  have c1 := h.c1
  have c2 := h.c2
  have hle := h.le
  have hmx := h.mx
  rw [some_is] at hE ⊢
  by_cases h1 : n < 1 ∨ 256 < n
  · rw [if_pos h1] at hE
    exact absurd hE (by simp)
  · rw [if_neg h1] at hE ⊢
    obtain ⟨k, rfl⟩ : ∃ k : Nat, n = k := ⟨n.toNat, by omega⟩
    simp only [Int.toNat_natCast] at hE ⊢
    have b1 : decide ((k : Int) < 1) = false := decide_eq_false (by omega)
    have b2 : decide (256 < (k : Int)) = false := decide_eq_false (by omega)
    by_cases h3 : 1099511627761 < al.next + k
    · rw [if_pos h3] at hE
      exact absurd hE (by simp)
    · rw [if_neg h3] at hE ⊢
      have b3 : decide (1099511627760 < (al.next : Int) + (k : Int) - 1) = false := decide_eq_false (by omega)
      have hE2 : (resP D first size al k).1 = 0 := by
        by_cases e : (resP D first size al k).1 = 0
        · exact e
        · rw [if_neg e] at hE
          exact absurd hE e
      rw [if_pos hE2]
      unfold resP at hE2 ⊢
      by_cases hgo : al.next + k ≤ al.lim
      · rw [if_pos hgo]
        clear h hc hr hE hE2
        obtain ⟨nx, lm⟩ := al
        simp only at *
        have e1 : decide ((lm : Int) < (nx : Int) + (k : Int)) = false := decide_eq_false (by omega)
        have HAt := hid H.out
        have HRt := hid HR.out
        have HKt : Hid (Kp [r.x, r.gL, r.gO, b] w w) := Kp.refl _ _
        have HlS : Hid (nx + k ≤ lm) := hgo
        clear H HR
        go_enter Tryz.func18, Tryz.ntmps18
        go_wp2
        go_loopw [6] (fun v w' => v = .int .i64 lm ∧ w' = w) (fun _ _ => 0)
        case atStart => exact ⟨rfl, rfl⟩
        case round =>
          obtain ⟨rfl, hw⟩ := hrel
          subst wr
          go_wp2
          have hrb : b < w.heap.size := row_lt HAt.out.obj
          have HO0 : Hid (w.ownsRow w.heap.size 3 1 (.slice none 0 0) 0 (numL nx 0)) := World.ownsRow_nil _ _ _ _
          go_loopw [8, 9] (fun v i w' => ∃ j : Nat, j ≤ k ∧ i = .int .i64 j ∧ Hid (w'.ownsRow w.heap.size 3 1 v j (numL nx j)) ∧ Hid (Below w.heap.size w w')) (fun _ i _ => k - (intOf i).toNat)
          case atStart => exact ⟨0, Nat.zero_le _, rfl, HO0, Below.refl _ _⟩
          case round =>
            clear HO0
            obtain ⟨j, hj, rfl, HO, HB⟩ := hrel
            have HAr := hid (HAt.out.stays HB.out)
            have c5 := HAr.out.c1
            have f5 := HAr.out.fz 1
            by_cases hjk : j < k
            · have d1 : decide ((j : Int) < (k : Int)) = true := decide_eq_true (by omega)
              have hsz : w.heap.size ≤ wr.heap.size := HB.out.size
              go_wp2_with (first | (at_builtin; refine wpList_push (W := wr) rfl (.tmp 63) (.tmp 70) 43 3 rfl _ 8 Tryz.underlying43 infoInt rfl (by omega) w.heap.size u8 (.int .i64 ((nx : Int) + (j : Int))) j (numL nx j) rfl rfl HO.out rfl (by omega) hsz ?_))
              intro v3 w3 hr3 hg3 _
              have HB3 : Hid (Below w.heap.size w w3) := (HB.out.alloc hsz _).grown hg3 (by simp; omega) (own_ge HO.out)
              have HR3 : Hid (w3.ownsRow w.heap.size 3 1 v3 (j + 1) (numL nx (j + 1))) := by
                show World.ownsRow _ _ _ _ _ _ _
                rw [numL_succ, Int.natCast_add]
                exact hr3
              clear hr3 hg3 HO HB HAr c5 f5
              go_wp2
              go_roundw
              case rel => exact ⟨j + 1, by omega, by go_num, HR3, HB3⟩
              case measure => simp [intOf]; omega
            · obtain rfl : j = k := by omega
              have d1 : decide ((j : Int) < (j : Int)) = false := by simp
              have HKr : Hid (Kp [r.x, r.gL, r.gO, b] w wr) := HKt.out.trans (Kp.of HB.out)
              have HRr := hid (HRt.out.below HB.out)
              have HIn := hid (own_ints HO.out)
              have HGe := hid (own_ge HO.out)
              obtain ⟨ao, cap, hv⟩ := own_form HO.out
              subst hv
              clear HO
              go_wp2
              go_ret2
              have ee : ((nx : Int) + (j : Int)) = ((nx + j : Nat) : Int) := by omega
              rw [ee]
              have hk9 : Kp [b] wr (wr.setCell ⟨b, 1, none⟩ (.int .i64 ((nx + j : Nat) : Int))) := (Kp.refl _ _).setCell _ _ (.inl (by simp))
              have hfar := HAr.out.far HRr.out
              simp only [List.mem_cons, List.not_mem_nil, or_false] at hfar
              refine ⟨_, rfl, HIn.out.far fun _ q hq => heap_setCell_other _ _ _ _ (by have := HGe.out q hq; show q ≠ b; omega), HRr.out.kept hk9 (by simp; omega) (by simp; omega) (by simp; omega), HAr.out.took _ HlS.out, HKr.out.setCell _ _ (.inl (by simp))⟩
      · rw [if_neg hgo] at hE2 ⊢
        have hnl : ¬ (al.next + k ≤ al.lim) := hgo
        have HSv : Hid (∀ W, Below w.heap.size w W → Calls Tryz.prog 16 #[.pointer (some ⟨y, 0, none⟩), .string ⟨(numW (limN al.next k al.lim)).toArray⟩] W fun e w' =>
            e = .returned (.int .i64 (saveP D first size (numW (limN al.next k al.lim))).1) ∧ RefAt w' r (saveP D first size (numW (limN al.next k al.lim))).2 ∧ Kp [r.x, r.gL, r.gO] W w') := fun W hb => rsave_any (hc.stays hb) (hr.below hb) hroom _
        have HQ : Hid (∀ W, Kp [r.x, r.gL, r.gO] w W → W.cell? ⟨b, 0, none⟩ = some (.pointer (some ⟨y, 0, none⟩))) := fun W hk => (h.next hr hk).c0
        have HAl : Hid (∀ W, Kp [r.x, r.gL, r.gO] w W → RalAt W b y al) := fun W hk => h.next hr hk
        have HLb : Hid (al.lim < limN al.next k al.lim ∧ al.next + k ≤ limN al.next k al.lim ∧ limN al.next k al.lim ≤ 1099511627776) := by
          show _ ∧ _ ∧ _
          unfold limN
          rw [if_neg hnl]
          omega
        have HNu : Hid (∀ W, Calls Tryz.prog 42 #[.int .i64 ((limN al.next k al.lim : Nat) : Int)] W fun e w' => e = .returned (.string ⟨(numW (limN al.next k al.lim)).toArray⟩) ∧ Below W.heap.size W w') := by
          intro W
          have h9 := HLb.out
          exact Lay.refNumber_any _ (by omega) (by omega) W
        have hst := fun L => limN_step al.next k L
        have HFar := hid (h.far hr)
        generalize saveP D first size (numW (limN al.next k al.lim)) = SS at *
        obtain ⟨eS, DS⟩ := SS
        simp only at HSv hE2 ⊢
        have hes : eS = 0 := by
          by_cases e : eS = 0
          · exact e
          · rw [if_neg e] at hE2
            exact hE2
        subst hes
        rw [if_pos rfl]
        have HSt := hid hst
        obtain ⟨lb1, lb2, lb3⟩ := HLb.out
        clear h hc hr hE hE2 hst hnl hroom HLb H HR
        generalize hLL : limN al.next k al.lim = LL at *
        have HL0 : Hid (limN al.next k al.lim = LL) := hLL
        clear hLL
        obtain ⟨nx, lm⟩ := al
        simp only at *
        go_enter Tryz.func18, Tryz.ntmps18
        go_wp2
        go_loopw [6] (fun v w' => ∃ L : Nat, v = .int .i64 L ∧ L ≤ LL ∧ Hid (limN nx k L = LL) ∧ w' = w) (fun v _ => nx + k - (intOf v).toNat)
        case atStart => exact ⟨lm, rfl, by omega, HL0, rfl⟩
        case round =>
          obtain ⟨L, rfl, hLL, HLn, hw⟩ := hrel
          subst wr
          by_cases hlt : L < nx + k
          · have e1 : decide ((L : Int) < (nx : Int) + (k : Int)) = true := decide_eq_true (by omega)
            have hs9 := HSt.out L hlt
            have hg9 := limN_ge nx k (L + 16)
            have HLn2 : Hid (limN nx k (L + 16) = LL) := by show _ = _; rw [← hs9]; exact HLn.out
            have hL16 : L + 16 ≤ LL := by have := HLn2.out; omega
            clear hs9 hg9 HLn
            go_wp2
            go_roundw
            case rel => exact ⟨L + 16, by go_num, hL16, HLn2, by first | trivial | rfl⟩
            case measure => simp [intOf]; omega
          · have hLe : L = LL := by have h9 := HLn.out; rw [limN_top _ _ _ (by omega)] at h9; exact h9
            subst hLe
            have e1 : decide ((L : Int) < (nx : Int) + (k : Int)) = false := decide_eq_false (by omega)
            have e2 : decide ((lm : Int) < (L : Int)) = true := decide_eq_true (by omega)
            clear HLn HL0 HSt hlt
            go_wp2_with fail
            go_region_held3 (fun W => W.cell? ⟨b, 0, none⟩ = some (.pointer (some ⟨y, 0, none⟩)))
              (with_reducible first | exact HQ.out _ HK4 | exact HQ.out _ (Kp.of HB3) | exact HQ.out _ (Kp.refl _ _).drew | exact HQ.out _ (Kp.refl _ _))
              (first | (go_at_call 42; refine (HNu.out _).mono ?_; rintro e W3 ⟨rfl, hb3⟩; have HB3 : Below w.heap.size w W3 := (Below.refl _ _).drew.trans hb3; clear hb3) | (go_at_call 16; refine (HSv.out _ HB3).mono ?_; rintro e W4 ⟨rfl, h4, k4⟩; have HR4 := hid h4; have HK4 : Kp [r.x, r.gL, r.gO] w W4 := (Kp.of HB3).trans k4; clear h4 k4))
            have HK9 := hid HK4
            have HA9 := hid (HAl.out _ HK4)
            have c9 := HA9.out.c2
            have f9 := HA9.out.fz 2
            clear HK4 HB3 HQ HSv HNu HAl
            go_wp2
            have hk8 : Kp [b] W4 (W4.setCell ⟨b, 2, none⟩ (.int .i64 (L : Int))) := (Kp.refl _ _).setCell _ _ (.inl (by simp))
            have hfar := HA9.out.far HR4.out
            simp only [List.mem_cons, List.not_mem_nil, or_false] at hfar
            have HAt : Hid (RalAt (W4.setCell ⟨b, 2, none⟩ (.int .i64 (L : Int))) b y ⟨nx, L⟩) := HA9.out.put L (by show nx ≤ L; omega) (by omega)
            have HRt : Hid (RefAt (W4.setCell ⟨b, 2, none⟩ (.int .i64 (L : Int))) r DS) := HR4.out.kept hk8 (by simp; omega) (by simp; omega) (by simp; omega)
            have HKt : Hid (Kp [r.x, r.gL, r.gO, b] w (W4.setCell ⟨b, 2, none⟩ (.int .i64 (L : Int)))) := (HK9.out.drop (by simp)).setCell _ _ (.inl (by simp))
            have HlS : Hid (nx + k ≤ L) := lb2
            generalize W4.setCell ⟨b, 2, none⟩ (.int .i64 (L : Int)) = wt at *
            clear hk8 hfar HA9 HR4 HK9 c9 f9
            have hrb : b < wt.heap.size := row_lt HAt.out.obj
            have HO0 : Hid (wt.ownsRow wt.heap.size 3 1 (.slice none 0 0) 0 (numL nx 0)) := World.ownsRow_nil _ _ _ _
            go_loopw [8, 9] (fun v i w' => ∃ j : Nat, j ≤ k ∧ i = .int .i64 j ∧ Hid (w'.ownsRow wt.heap.size 3 1 v j (numL nx j)) ∧ Hid (Below wt.heap.size wt w')) (fun _ i _ => k - (intOf i).toNat)
            case atStart => exact ⟨0, Nat.zero_le _, rfl, HO0, Below.refl _ _⟩
            case round =>
              clear HO0
              obtain ⟨j, hj, rfl, HO, HB⟩ := hrel
              have HAr := hid (HAt.out.stays HB.out)
              have c5 := HAr.out.c1
              have f5 := HAr.out.fz 1
              by_cases hjk : j < k
              · have d1 : decide ((j : Int) < (k : Int)) = true := decide_eq_true (by omega)
                have hsz : wt.heap.size ≤ wr.heap.size := HB.out.size
                go_wp2_with (first | (at_builtin; refine wpList_push (W := wr) rfl (.tmp 63) (.tmp 70) 43 3 rfl _ 8 Tryz.underlying43 infoInt rfl (by omega) wt.heap.size u8 (.int .i64 ((nx : Int) + (j : Int))) j (numL nx j) rfl rfl HO.out rfl (by omega) hsz ?_))
                intro v3 w3 hr3 hg3 _
                have HB3 : Hid (Below wt.heap.size wt w3) := (HB.out.alloc hsz _).grown hg3 (by simp; omega) (own_ge HO.out)
                have HR3 : Hid (w3.ownsRow wt.heap.size 3 1 v3 (j + 1) (numL nx (j + 1))) := by
                  show World.ownsRow _ _ _ _ _ _ _
                  rw [numL_succ, Int.natCast_add]
                  exact hr3
                clear hr3 hg3 HO HB HAr c5 f5
                go_wp2
                go_roundw
                case rel => exact ⟨j + 1, by omega, by go_num, HR3, HB3⟩
                case measure => simp [intOf]; omega
              · obtain rfl : j = k := by omega
                have d1 : decide ((j : Int) < (j : Int)) = false := by simp
                have HKr : Hid (Kp [r.x, r.gL, r.gO, b] w wr) := HKt.out.trans (Kp.of HB.out)
                have HRr := hid (HRt.out.below HB.out)
                have HIn := hid (own_ints HO.out)
                have HGe := hid (own_ge HO.out)
                obtain ⟨ao, cap, hv⟩ := own_form HO.out
                subst hv
                clear HO
                go_wp2
                go_ret2
                have ee : ((nx : Int) + (j : Int)) = ((nx + j : Nat) : Int) := by omega
                rw [ee]
                have hk9 : Kp [b] wr (wr.setCell ⟨b, 1, none⟩ (.int .i64 ((nx + j : Nat) : Int))) := (Kp.refl _ _).setCell _ _ (.inl (by simp))
                have hfar := HAr.out.far HRr.out
                simp only [List.mem_cons, List.not_mem_nil, or_false] at hfar
                refine ⟨_, rfl, HIn.out.far fun _ q hq => heap_setCell_other _ _ _ _ (by have := HGe.out q hq; show q ≠ b; omega), HRr.out.kept hk9 (by simp; omega) (by simp; omega) (by simp; omega), HAr.out.took _ HlS.out, HKr.out.setCell _ _ (.inl (by simp))⟩
end
end Go.Proofs.YtnhnjdldgaaeoaaGreatDoor

/-
  Both allocators, over both cells and both disks, alike; which numbers are the same.
-/
namespace Go.Proofs.YtnhnjdldgaaeoaaGreatDoor
open Go Go.RowKit
set_option maxRecDepth 100000

theorem ints_any {w : World} {v u : Value} {ks : List Int} (hl : ks.length ≤ 512) (h1 : IntsAt w v ks) (h2 : IntsAt w u ks) : Calls Tryz.prog 20 #[v, u] w fun e w' => e = .returned (.bool true) ∧ Below w.heap.size w w' := by
  obtain ⟨ao, cap, rfl, -, hk1⟩ := h1
  obtain ⟨bo, cap2, rfl, -, hk2⟩ := h2
  go_enter Tryz.func20, Tryz.ntmps20
  go_wp2
  go_loopw [5] (fun i w' => ∃ j n : Nat, j ≤ ks.length ∧ i = .int .i64 j ∧ w' = w.drewN n) (fun i _ => ks.length - (intOf i).toNat)
  case atStart => exact ⟨0, 0, by omega, rfl, rfl⟩
  case round =>
    obtain ⟨j, n, hj, rfl, hw⟩ := hrel
    subst wr
    by_cases hlt : j < ks.length
    · have hne : ks ≠ [] := by intro e; rw [e] at hlt; simp at hlt
      obtain ⟨b, off, rfl, hc1⟩ := hk1 hne
      obtain ⟨b2, off2, rfl, hc2⟩ := hk2 hne
      have q1 := hc1 j ks[j] (List.getElem?_eq_getElem hlt)
      have q2 := hc2 j ks[j] (List.getElem?_eq_getElem hlt)
      have d1 : decide ((j : Int) < (ks.length : Int)) = true := by simpa using hlt
      have d2 : decide (j < ks.length) = true := by simpa using hlt
      obtain ⟨x, hx⟩ : ∃ x, x = ks[j] := ⟨_, rfl⟩
      rw [← hx] at q1 q2
      have HLT := hid hlt
      clear hk1 hk2 hc1 hc2 hx
      go_wp2_with fail
      go_quiet (fail)
      go_wp2
      go_roundw
      case rel => exact ⟨j + 1, n + nq, HLT.out, by go_num, rfl⟩
      case measure => have h9 : j < ks.length := HLT.out; simp [intOf]; omega
    · have d1 : decide ((j : Int) < (ks.length : Int)) = false := by simpa using hlt
      have d2 : decide (j < ks.length) = false := by simpa using hlt
      clear hk1 hk2
      go_wp2
      go_ret
      exact ⟨rfl, below_drawn (Below.refl _ _) _⟩
theorem nil_ints (w : World) : IntsAt w (.slice none 0 0) [] := ⟨none, 0, rfl, Nat.le_refl _, fun h => absurd rfl h⟩

theorem some_len (D : Dk) (first size : Nat) (al : Al) (n : Int) : (someP D first size al n).2.1.S.length = D.S.length := by
  unfold someP
  split
  · rfl
  · split
    · rfl
    · split
      · rfl
      · split
        · exact saveP_len _ _ _ _
        · exact saveP_len _ _ _ _

/-- Both cells on both disks, behind a beginning w0. -/
structure DSt (w0 w : World) (d g : Nat) (r : Rx) (x : Cx) (y : Nat) (D : Dk) : Prop where
  quad : Quad w d g r x y D 1 1
  len : D.S.length = 6
  bel : Below w0.heap.size w0 w
  new : ∀ z ∈ allB d g r, w0.heap.size ≤ z
/-- Both allocators, alike. -/
structure Als (w0 w : World) (x : Cx) (y a b : Nat) (al : Al) : Prop where
  all : AllocAt w a x.c al
  ref : RalAt w b y al
  na : w0.heap.size ≤ a
  nb : w0.heap.size ≤ b
section
variable {w0 w w1 w2 : World} {d g y a b : Nat} {r : Rx} {x : Cx} {D D2 : Dk} {al al2 : Al}
theorem DSt.stays (h : DSt w0 w d g r x y D) (hb : Below w.heap.size w w1) : DSt w0 w1 d g r x y D := ⟨h.quad.stays hb, h.len, h.bel.trans (hb.mono h.bel.size), h.new⟩
theorem DSt.next (h : DSt w0 w d g r x y D) (hk : Kp (allB d g r) w w1) (hb : Both w1 d g r D2) (hl : D2.S.length = 6) : DSt w0 w1 d g r x y D2 :=
  ⟨h.quad.next hk hb, hl, h.bel.trans (hk.below h.new h.bel.size), h.new⟩
theorem Als.stays (h : Als w0 w x y a b al) (hb : Below w.heap.size w w1) : Als w0 w1 x y a b al := ⟨h.all.stays hb, h.ref.stays hb, h.na, h.nb⟩
/-- Types tell blocks apart. -/
theorem tell {k m : Nat} {c1 c2 : Array Value} {t1 t2 : TypeId} (h1 : w.heap[k]? = some (.cells c1 t1)) (h2 : w.heap[m]? = some (.cells c2 t2)) (hne : t1 ≠ t2) : k ≠ m := by
  rintro rfl
  exact differ h1 h2 hne
theorem Als.far (h : Als w0 w x y a b al) (q : Both w d g r D) : a ∉ allB d g r ∧ b ∉ allB d g r := by
  have h1 := q.disk.obj
  have h2 := q.disk.row
  have h3 := q.ref.obj
  have h4 := q.ref.L
  have h5 := q.ref.O
  have a1 := tell h.all.obj h1 (by decide)
  have a2 := tell h.all.obj h2 (by decide)
  have a3 := tell h.all.obj h3 (by decide)
  have a4 := tell h.all.obj h4 (by decide)
  have a5 := tell h.all.obj h5 (by decide)
  have b1 := tell h.ref.obj h1 (by decide)
  have b2 := tell h.ref.obj h2 (by decide)
  have b3 := tell h.ref.obj h3 (by decide)
  have b4 := tell h.ref.obj h4 (by decide)
  have b5 := tell h.ref.obj h5 (by decide)
  simp only [List.mem_cons, List.not_mem_nil, or_false]
  exact ⟨by omega, by omega⟩
theorem Als.next (h : Als w0 w x y a b al) (q : Both w d g r D) (hk : Kp (allB d g r) w w1) : Als w0 w1 x y a b al :=
  ⟨h.all.kept hk (h.far q).1, h.ref.kept hk (h.far q).2, h.na, h.nb⟩
/-- The code's allocator has taken numbers, the reference's not yet. -/
structure Half (w0 w : World) (d g : Nat) (r : Rx) (x : Cx) (y a b : Nat) (D D2 : Dk) (al al2 : Al) : Prop where
  disk : DiskAt w d g D2
  cell : CellAt w x d 1 1
  all : AllocAt w a x.c al2
  rdisk : RefAt w r D
  rcell : RcAt w y r 1 1
  ref : RalAt w b y al
  bel : Below w0.heap.size w0 w
  new : ∀ z ∈ allB d g r, w0.heap.size ≤ z
  na : w0.heap.size ≤ a
  nb : w0.heap.size ≤ b
theorem DSt.code (S : DSt w0 w d g r x y D) (A : Als w0 w x y a b al) (hk : Kp [d, g, a] w w1) (hd : DiskAt w1 d g D2) (ha : AllocAt w1 a x.c al2) : Half w0 w1 d g r x y a b D D2 al al2 := by
  have h1 := S.quad.both.disk.obj
  have h2 := S.quad.both.disk.row
  have h3 := S.quad.both.ref.obj
  have h4 := S.quad.both.ref.L
  have h5 := S.quad.both.ref.O
  have h6 := S.quad.ref.obj
  have h7 := A.all.obj
  have h8 := A.ref.obj
  have hn := S.quad.both.nes
  simp only [List.mem_cons, List.not_mem_nil, or_false] at hn
  have t3 := tell h3 h7 (by decide)
  have t4 := tell h4 h7 (by decide)
  have t5 := tell h5 h7 (by decide)
  have y1 := tell h6 h1 (by decide)
  have y2 := tell h6 h2 (by decide)
  have y3 := tell h6 h7 (by decide)
  have b1 := tell h8 h1 (by decide)
  have b2 := tell h8 h2 (by decide)
  have b3 := tell h8 h7 (by decide)
  refine ⟨hd, S.quad.cell.over S.quad.both.disk A.all hk, ha, S.quad.both.ref.kept hk ?_ ?_ ?_, S.quad.ref.kept hk ?_, A.ref.kept hk ?_, S.bel.trans (hk.below ?_ S.bel.size), S.new, A.na, A.nb⟩
  all_goals simp only [List.mem_cons, List.not_mem_nil, or_false]
  · omega
  · omega
  · omega
  · omega
  · omega
  · intro z hz
    rcases hz with rfl | rfl | rfl
    · exact S.new _ (by simp)
    · exact S.new _ (by simp)
    · exact A.na
theorem Half.done (h : Half w0 w d g r x y a b D D2 al al2) (hk : Kp [r.x, r.gL, r.gO, b] w w1) (hr : RefAt w1 r D2) (hb : RalAt w1 b y al2) (hl : D2.S.length = 6) : DSt w0 w1 d g r x y D2 ∧ Als w0 w1 x y a b al2 := by
  have h1 := h.disk.obj
  have h2 := h.disk.row
  have h3 := h.rdisk.obj
  have h4 := h.rdisk.L
  have h5 := h.rdisk.O
  have h6 := h.rcell.obj
  have h7 := h.all.obj
  have h8 := h.ref.obj
  have c1 := h.cell.obj
  have c2 := h.cell.hp
  have c3 := h.cell.hq
  have c4 := h.cell.hr
  have key : ∀ (k : Nat) (cs : Array Value) (t : TypeId), w.heap[k]? = some (.cells cs t) → t ≠ 64 → t ≠ 9 → t ≠ 57 → k ∉ [r.x, r.gL, r.gO, b] := by
    intro k cs t hk9 n1 n2 n3
    have t1 := tell hk9 h3 n1
    have t2 := tell hk9 h4 n2
    have t3 := tell hk9 h5 n2
    have t4 := tell hk9 h8 n3
    simp only [List.mem_cons, List.not_mem_nil, or_false]
    omega
  refine ⟨⟨⟨⟨h.disk.kept hk (key _ _ _ h1 (by decide) (by decide) (by decide)) (key _ _ _ h2 (by decide) (by decide) (by decide)), hr⟩, h.cell.kept hk (key _ _ _ c1 (by decide) (by decide) (by decide)) (key _ _ _ c2 (by decide) (by decide) (by decide)) (key _ _ _ c3 (by decide) (by decide) (by decide)) (key _ _ _ c4 (by decide) (by decide) (by decide)), h.rcell.kept hk (key _ _ _ h6 (by decide) (by decide) (by decide))⟩, hl, h.bel.trans (hk.below ?_ h.bel.size), h.new⟩, h.all.kept hk (key _ _ _ h7 (by decide) (by decide) (by decide)), hb, h.na, h.nb⟩
  intro z hz
  simp only [List.mem_cons, List.not_mem_nil, or_false] at hz
  rcases hz with rfl | rfl | rfl | rfl
  · exact h.new _ (by simp)
  · exact h.new _ (by simp)
  · exact h.new _ (by simp)
  · exact h.nb
end
end Go.Proofs.YtnhnjdldgaaeoaaGreatDoor
