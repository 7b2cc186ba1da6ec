/-
  An allocator in memory; what nonce.Open, Next and Limit answer.
-/
import Derived.Test.YtnhnjdldgaaeoaaDoorKop
import Derived.Test.YtnhnjdldgaaeoaaDoorLrdm
import Derived.Test.YtnhnjdldgaaeoaaDoorNpl
namespace Go.Proofs.YtnhnjdldgaaeoaaDoor
open Go Go.RowKit
set_option maxRecDepth 100000

/-- The allocator at a: how a reservation is kept is the Save of the cell at c. -/
structure AllocAt (w : World) (a c : Nat) (al : Al) : Prop where
  obj : w.heap[a]? = some (.cells #[.func (.func 18) #[.pointer (some ⟨c, 0, none⟩)] #[], .int .i64 al.next, .int .i64 al.lim] 61)
  le : al.next ≤ al.lim
  mx : al.lim ≤ 1099511627776
section
variable {w w' : World} {a c d g first size : Nat} {al : Al} {x : Cx} {D : Dk}
theorem AllocAt.kept (h : AllocAt w a c al) {X : List Nat} (hk : Kp X w w') (h1 : a ∉ X) : AllocAt w' a c al := ⟨hk.row h.obj h1, h.le, h.mx⟩
theorem AllocAt.stays (h : AllocAt w a c al) (hb : Below w.heap.size w w') : AllocAt w' a c al := h.kept (X := []) (Kp.of hb) (by simp)
theorem AllocAt.c0 (h : AllocAt w a c al) : w.cell? ⟨a, 0, none⟩ = some (.func (.func 18) #[.pointer (some ⟨c, 0, none⟩)] #[]) := by rw [cell_of_row _ _ _ _ _ _ h.obj]; rfl
theorem AllocAt.c1 (h : AllocAt w a c al) : w.cell? ⟨a, 1, none⟩ = some (.int .i64 al.next) := by rw [cell_of_row _ _ _ _ _ _ h.obj]; rfl
theorem AllocAt.c2 (h : AllocAt w a c al) : w.cell? ⟨a, 2, none⟩ = some (.int .i64 al.lim) := by rw [cell_of_row _ _ _ _ _ _ h.obj]; rfl
theorem AllocAt.fz (h : AllocAt w a c al) (j : Nat) : w.frozen? ⟨a, j, none⟩ = false := by simp [World.frozen?, h.obj]
theorem AllocAt.far (h : AllocAt w a c al) (hd : DiskAt w d g D) : a ∉ [d, g] := by
  intro hm
  simp only [List.mem_cons, List.not_mem_nil, or_false] at hm
  rcases hm with rfl | rfl
  · exact differ h.obj hd.obj (by decide)
  · exact differ h.obj hd.row (by decide)
theorem AllocAt.next (h : AllocAt w a c al) (hd : DiskAt w d g D) (hk : Kp [d, g] w w') : AllocAt w' a c al := h.kept hk (h.far hd)
/-- The cell is none of the allocator's block. -/
theorem AllocAt.cell (h : AllocAt w a c al) (hc : CellAt w x d first size) : x.c ≠ a ∧ x.p ≠ a ∧ x.q ≠ a ∧ x.r ≠ a := by
  refine ⟨?_, ?_, ?_, ?_⟩
  · rintro rfl; exact differ h.obj hc.obj (by decide)
  · rintro rfl; exact differ h.obj hc.hp (by decide)
  · rintro rfl; exact differ h.obj hc.hq (by decide)
  · rintro rfl; exact differ h.obj hc.hr (by decide)

set_option maxHeartbeats 2000000 in
theorem anext_any (h : AllocAt w a c al) : Calls Tryd.prog 13 #[.pointer (some ⟨a, 0, none⟩)] w fun e w' => e = .returned (.int .i64 al.next) ∧ w' = w := by
  have c1 := h.c1
  clear h
  go_enter Tryd.func13, Tryd.ntmps13
  go_wp2
  go_ret
  exact ⟨rfl, rfl⟩
theorem anext_nil (w : World) : Calls Tryd.prog 13 #[.pointer none] w fun e w' => e = .returned (.int .i64 0) ∧ w' = w := by
  go_enter Tryd.func13, Tryd.ntmps13
  go_wp2
  go_ret
  exact ⟨rfl, rfl⟩
set_option maxHeartbeats 2000000 in
theorem limit_any (h : AllocAt w a c al) : Calls Tryd.prog 15 #[.pointer (some ⟨a, 0, none⟩)] w fun e w' => e = .returned (.int .i64 al.lim) ∧ w' = w := by
  have c2 := h.c2
  clear h
  go_enter Tryd.func15, Tryd.ntmps15
  go_wp2
  go_ret
  exact ⟨rfl, rfl⟩
theorem limit_nil (w : World) : Calls Tryd.prog 15 #[.pointer none] w fun e w' => e = .returned (.int .i64 0) ∧ w' = w := by
  go_enter Tryd.func15, Tryd.ntmps15
  go_wp2
  go_ret
  exact ⟨rfl, rfl⟩

theorem load_len (D : Dk) (first size : Nat) : (loadP D first size).1.length ≤ 64 * size := by
  have h9 := (last_le D first size).2.2
  rw [load_last]
  split
  · simp
  · split
    · simp
    · rw [List.length_take]
      omega
/-- The number that is answered. -/
def keptV (L : List UInt8 × Nat × Int) : Nat := if keptE L = 0 then keptN L else 0
theorem kept_le (L : List UInt8 × Nat × Int) (h : keptE L = 0) : keptN L ≤ 1099511627776 := by
  unfold keptE at h
  unfold keptN
  by_cases h9 : L.2.2 = 9
  · rw [if_pos h9]
    omega
  · rw [if_neg h9] at h ⊢
    by_cases h0 : L.2.2 ≠ 0
    · rw [if_pos h0] at h
      exact absurd h h0
    · rw [if_neg h0] at h
      by_cases hc : (readNum L.1).1 = 0 ∧ (readNum L.1).2.2 = L.1.length ∧ 0 ≤ (readNum L.1).2.1 ∧ (readNum L.1).2.1 ≤ 1099511627776
      · omega
      · rw [if_neg hc] at h
        exact absurd h (by decide)

set_option maxHeartbeats 4000000 in
theorem reserved_any (hc : CellAt w x d first size) (hd : DiskAt w d g D) (hr : first + 2 + 2 * size ≤ D.S.length) (ht : Lay.Tabs w) :
    Calls Tryd.prog 24 #[.pointer (some ⟨x.c, 0, none⟩)] w fun e w' => e = .returned (.tuple #[.int .i64 (keptV (loadP D first size)), .int .i64 (keptE (loadP D first size))]) ∧ Below w.heap.size w w' := by
  have HL := hid (load_any hc hd hr)
  have hln := load_len D first size
  have hsz := hc.sz
  have HT := hid ht
  clear hc hd ht hr
  generalize loadP D first size = L at *
  obtain ⟨t, n, e⟩ := L
  simp only at HL hln
  by_cases h9 : e = 9
  · have eE : keptE (t, n, e) = 0 := by unfold keptE; rw [if_pos h9]
    have eV : keptV (t, n, e) = 0 := by unfold keptV keptN; rw [if_pos eE, if_pos h9]
    rw [eE, eV]
    subst h9
    go_enter Tryd.func24, Tryd.ntmps24
    go_wp2_with fail
    refine HL.out.mono ?_
    rintro e w1 ⟨rfl, hb1⟩
    have HB1 := hid hb1
    clear hb1
    go_wp2
    go_ret2
    exact ⟨rfl, HB1.out⟩
  · have d9 : (e == 9) = false := by simpa using h9
    by_cases h0 : e = 0
    · subst h0
      have HRd := hid (fun W hW => Lay.readNumber_any ⟨t.toArray⟩ 0 (Nat.zero_le _) (by show t.length ≤ _; omega) W hW t rfl)
      obtain ⟨E, hE⟩ : ∃ E, E = keptE (t, n, 0) := ⟨_, rfl⟩
      obtain ⟨V, hV⟩ : ∃ V, V = keptV (t, n, 0) := ⟨_, rfl⟩
      rw [← hE, ← hV]
      unfold keptV at hV
      rw [← hE] at hV
      unfold keptE at hE
      unfold keptN at hV
      unfold Lay.numTo at HRd
      have hts : (⟨t.toArray⟩ : ByteArray).size = t.length := rfl
      have e90 : ¬ ((0 : Int) = 9) := by decide
      have e00 : ¬ ((0 : Int) ≠ 0) := by decide
      simp only [e90, e00, if_false] at hE hV
      generalize readNum t = R at *
      obtain ⟨re, rn, rl⟩ := R
      simp only at HRd hE hV
      have HE := hid hE
      have HV := hid hV
      clear hE hV
      by_cases c1 : re = 0
      · subst c1
        simp only [if_true, Nat.zero_add] at HRd
        by_cases c2 : rl = t.length
        · have b2 : ((rl : Int) != (t.length : Int)) = false := by simp [c2]
          by_cases c3 : rn < 0
          · rw [if_neg (by omega)] at HE
            rw [HE.out, if_neg (by decide)] at HV
            rw [HE.out, HV.out]
            clear c2
            go_enter Tryd.func24, Tryd.ntmps24
            go_wp2_with fail
            refine HL.out.mono ?_
            rintro e w1 ⟨rfl, hb1⟩
            have HB1 := hid hb1
            have HR1 := hid (HRd.out _ (HT.out.stays hb1))
            clear hb1
            go_wp2_with fail
            refine HR1.out.mono ?_
            rintro e w2 ⟨rfl, hb2⟩
            have HB2 : Hid (Below w.heap.size w w2) := HB1.out.trans (hb2.mono HB1.out.size)
            clear hb2
            go_wp2
            go_ret2
            exact ⟨rfl, HB2.out⟩
          · have b3 : decide (rn < 0) = false := decide_eq_false c3
            by_cases c4 : 1099511627776 < rn
            · have b4 : decide (1099511627776 < rn) = true := decide_eq_true c4
              rw [if_neg (by omega)] at HE
              rw [HE.out, if_neg (by decide)] at HV
              rw [HE.out, HV.out]
              clear c2
              go_enter Tryd.func24, Tryd.ntmps24
              go_wp2_with fail
              refine HL.out.mono ?_
              rintro e w1 ⟨rfl, hb1⟩
              have HB1 := hid hb1
              have HR1 := hid (HRd.out _ (HT.out.stays hb1))
              clear hb1
              go_wp2_with fail
              refine HR1.out.mono ?_
              rintro e w2 ⟨rfl, hb2⟩
              have HB2 : Hid (Below w.heap.size w w2) := HB1.out.trans (hb2.mono HB1.out.size)
              clear hb2
              go_wp2
              go_ret2
              exact ⟨rfl, HB2.out⟩
            · have b4 : decide (1099511627776 < rn) = false := decide_eq_false c4
              rw [if_pos ⟨rfl, c2, by omega, by omega⟩] at HE
              rw [HE.out, if_pos rfl] at HV
              have HV2 : Hid ((V : Int) = rn) := by have := HV.out; show (V : Int) = rn; omega
              rw [HE.out, HV2.out]
              clear c2
              go_enter Tryd.func24, Tryd.ntmps24
              go_wp2_with fail
              refine HL.out.mono ?_
              rintro e w1 ⟨rfl, hb1⟩
              have HB1 := hid hb1
              have HR1 := hid (HRd.out _ (HT.out.stays hb1))
              clear hb1
              go_wp2_with fail
              refine HR1.out.mono ?_
              rintro e w2 ⟨rfl, hb2⟩
              have HB2 : Hid (Below w.heap.size w w2) := HB1.out.trans (hb2.mono HB1.out.size)
              clear hb2
              go_wp2
              go_ret2
              exact ⟨rfl, HB2.out⟩
        · have b2 : ((rl : Int) != (t.length : Int)) = true := by simp; omega
          rw [if_neg (fun h => c2 h.2.1)] at HE
          rw [HE.out, if_neg (by decide)] at HV
          rw [HE.out, HV.out]
          go_enter Tryd.func24, Tryd.ntmps24
          go_wp2_with fail
          refine HL.out.mono ?_
          rintro e w1 ⟨rfl, hb1⟩
          have HB1 := hid hb1
          have HR1 := hid (HRd.out _ (HT.out.stays hb1))
          clear hb1
          go_wp2_with fail
          refine HR1.out.mono ?_
          rintro e w2 ⟨rfl, hb2⟩
          have HB2 : Hid (Below w.heap.size w w2) := HB1.out.trans (hb2.mono HB1.out.size)
          clear hb2
          go_wp2
          go_ret2
          exact ⟨rfl, HB2.out⟩
      · have b1 : ((re : Int) != 0) = true := by simp; omega
        rw [if_neg (fun h => c1 h.1)] at HE
        rw [HE.out, if_neg (by decide)] at HV
        rw [HE.out, HV.out]
        rw [if_neg c1] at HRd
        go_enter Tryd.func24, Tryd.ntmps24
        go_wp2_with fail
        refine HL.out.mono ?_
        rintro e w1 ⟨rfl, hb1⟩
        have HB1 := hid hb1
        have HR1 := hid (HRd.out _ (HT.out.stays hb1))
        clear hb1
        go_wp2_with fail
        refine HR1.out.mono ?_
        rintro e w2 ⟨rfl, hb2⟩
        have HB2 : Hid (Below w.heap.size w w2) := HB1.out.trans (hb2.mono HB1.out.size)
        clear hb2
        go_wp2
        go_ret2
        exact ⟨rfl, HB2.out⟩
    · have d0 : (e != 0) = true := by simpa using h0
      have eE : keptE (t, n, e) = e := by unfold keptE; rw [if_neg h9, if_pos h0]
      have eV : keptV (t, n, e) = 0 := by unfold keptV; rw [if_neg (by rw [eE]; exact h0)]
      rw [eE, eV]
      go_enter Tryd.func24, Tryd.ntmps24
      go_wp2_with fail
      refine HL.out.mono ?_
      rintro e w1 ⟨rfl, hb1⟩
      have HB1 := hid hb1
      clear hb1
      go_wp2
      go_ret2
      exact ⟨rfl, HB1.out⟩

set_option maxHeartbeats 2000000 in
theorem nopen_ok (hc : CellAt w x d first size) (hd : DiskAt w d g D) (hr : first + 2 + 2 * size ≤ D.S.length) (ht : Lay.Tabs w) (hE : keptE (loadP D first size) = 0) :
    Calls Tryd.prog 9 #[.pointer (some ⟨x.c, 0, none⟩)] w fun e w' => ∃ a, e = .returned (.tuple #[.pointer (some ⟨a, 0, none⟩), .int .i64 0]) ∧ AllocAt w' a x.c ⟨keptN (loadP D first size), keptN (loadP D first size)⟩ ∧ Below w.heap.size w w' ∧ w.heap.size ≤ a := by
  have HR := hid (reserved_any hc hd hr ht)
  have hle := kept_le _ hE
  unfold keptV at HR
  rw [hE, if_pos rfl] at HR
  clear hc hd hr ht hE
  generalize keptN (loadP D first size) = k at *
  go_enter Tryd.func9, Tryd.ntmps9
  go_wp2_with fail
  refine HR.out.mono ?_
  rintro e w1 ⟨rfl, hb1⟩
  have HB1 := hid hb1
  clear hb1
  go_wp2
  go_ret2
  exact ⟨w1.heap.size, rfl, ⟨top_row _ _, Nat.le_refl _, hle⟩, below_more HB1.out _ (Nat.le_refl _), HB1.out.size⟩
set_option maxHeartbeats 2000000 in
theorem nopen_bad (hc : CellAt w x d first size) (hd : DiskAt w d g D) (hr : first + 2 + 2 * size ≤ D.S.length) (ht : Lay.Tabs w) (hE : keptE (loadP D first size) ≠ 0) :
    Calls Tryd.prog 9 #[.pointer (some ⟨x.c, 0, none⟩)] w fun e w' => e = .returned (.tuple #[.pointer none, .int .i64 (keptE (loadP D first size))]) ∧ Below w.heap.size w w' := by
  have HR := hid (reserved_any hc hd hr ht)
  clear hc hd hr ht
  generalize keptV (loadP D first size) = v at *
  generalize keptE (loadP D first size) = E at *
  have b1 : (E != 0) = true := by simpa using hE
  go_enter Tryd.func9, Tryd.ntmps9
  go_wp2_with fail
  refine HR.out.mono ?_
  rintro e w1 ⟨rfl, hb1⟩
  have HB1 := hid hb1
  clear hb1
  go_wp2
  go_ret2
  exact ⟨rfl, HB1.out⟩
theorem nopen_nil (w : World) : Calls Tryd.prog 9 #[.pointer none] w fun e w' => e = .returned (.tuple #[.pointer none, .int .i64 1]) ∧ w' = w := by
  go_enter Tryd.func9, Tryd.ntmps9
  go_wp2
  go_ret2
  exact ⟨rfl, rfl⟩
end
end Go.Proofs.YtnhnjdldgaaeoaaDoor
