/-
  Cells that may be torn, allocators as plain data; what nonce.Open, Next, Limit, Some and Take answer; the reference's ReadNumber; what comes at any rate; a list of acts in memory.
-/
import Derived.Test.YtnhnjdldgaaeoaaGreatDoorKop
import Derived.Test.YtnhnjdldgaaeoaaGreatDoorGlay
namespace Go.Proofs.YtnhnjdldgaaeoaaGreatDoor
open Go Go.RowKit
set_option maxRecDepth 100000

theorem slotS_len (D : Dk) (first size n : Nat) (t : List UInt8) : (slotS D first size n t).length = D.S.length := by
  unfold slotS putS fieldS
  rw [List.length_set, List.length_map, putsS_len]
/-- A save on a disk that is up and not armed. -/
theorem save_calm {D : Dk} {first size n : Nat} {t0 t : List UInt8} (h : CInv D first size n t0) (hd : D.down = false) (ha : D.armed = 0) (ht : t.length ≤ 64 * size) (hn : n + 1 ≤ 1099511627776) :
    ∃ D', saveP D first size t = (0, D') ∧ CInv D' first size (n + 1) t ∧ D'.down = false ∧ D'.armed = 0 ∧ D'.S.length = D.S.length := by
  rcases save_cases h hd ht hn with ⟨a, e, e2⟩ | ⟨D', -, -, e, -⟩
  · exact ⟨_, e, h.saved ht hn a false, rfl, e2 ha, by show ((slotS D first size n t).map setS).length = _; rw [List.length_map, slotS_len]⟩
  · exact absurd ha e
theorem save_big {D : Dk} {first size : Nat} {t : List UInt8} (h : 64 * size < t.length) : saveP D first size t = (4, D) := by
  unfold saveP
  rw [if_pos h]
theorem newD_up (n : Nat) : (newD n).down = false ∧ (newD n).armed = 0 ∧ (newD n).S.length = n := by simp [newD]

end Go.Proofs.YtnhnjdldgaaeoaaGreatDoor

/-
  What a cell has hangs on its sectors alone: behind a crash of a disk on which all is safe, behind a save of another cell. No program plays a part.
-/
namespace Go.Proofs.YtnhnjdldgaaeoaaGreatDoor
open Go
set_option maxRecDepth 100000

theorem CInv.congr {D D2 : Dk} {first size n : Nat} {t : List UInt8} (h : CInv D first size n t) (hok : AllOk D2.S) (hl : D2.S.length = D.S.length)
    (hs : ∀ i, first ≤ i → i < first + 2 + 2 * size → D2.S.getD i sec0 = D.S.getD i sec0) : CInv D2 first size n t := by
  have hm := mod_mul_le (n - 1) size
  have hb : ∀ i, first ≤ i → i < first + 2 + 2 * size → secB D2.S i = secB D.S i := fun i h1 h2 => by unfold secB; rw [hs i h1 h2]
  have hz := h.sz
  refine ⟨hok, by rw [hl]; exact h.room, hz, fun i h1 h2 => by rw [hs i h1 h2]; exact h.safe i h1 h2, h.cnt, h.long, fun h0 => ?_, fun h1 => ?_, fun h1 => ?_, fun h1 => ?_⟩
  · rw [hb _ (by omega) (by omega), hb _ (by omega) (by omega)]; exact h.zero h0
  · rw [hb _ (by omega) (by omega)]; exact h.cur h1
  · rw [hb _ (by omega) (by omega)]; exact h.oth h1
  · rw [catP_congr (R := D.S) (fun i h2 h3 => hb i (by omega) (by omega))]; exact h.txt h1
theorem CInv.crash {D : Dk} {first size n : Nat} {t : List UInt8} (h : CInv D first size n t) (ks : List Int) : CInv (crashD D ks) first size n t :=
  h.congr (tearAll_ok h.ok ks) (tearAll_len _ _) (fun i h1 h2 => getD_tear _ _ _ (h.safe i h1 h2))
theorem CInv.len {D : Dk} {first size n : Nat} {t : List UInt8} (h : CInv D first size n t) : first + 2 + 2 * size ≤ D.S.length := h.room
/-- A save of another cell. -/
theorem save_other {D : Dk} {first size n f2 s2 m : Nat} {t0 t u : List UInt8} (h : CInv D first size n t0) (k : CInv D f2 s2 m u) (hd : D.down = false) (ha : D.armed = 0) (ht : t.length ≤ 64 * size) (hn : n + 1 ≤ 1099511627776)
    (hap : first + 2 + 2 * size ≤ f2 ∨ f2 + 2 + 2 * s2 ≤ first) :
    ∃ D', saveP D first size t = (0, D') ∧ CInv D' first size (n + 1) t ∧ CInv D' f2 s2 m u ∧ D'.down = false ∧ D'.armed = 0 ∧ D'.S.length = D.S.length := by
  have hm := mod_mul_le n size
  rcases save_cases h hd ht hn with ⟨a, e, e2⟩ | ⟨D', -, -, e, -⟩
  · refine ⟨_, e, h.saved ht hn a false, ?_, rfl, e2 ha, by show ((slotS D first size n t).map setS).length = _; rw [List.length_map, slotS_len]⟩
    refine k.congr (ok_setS (slot_ok h)) (by show ((slotS D first size n t).map setS).length = _; rw [List.length_map, slotS_len]) (fun i h1 h2 => ?_)
    show ((slotS D first size n t).map setS).getD i sec0 = _
    rw [getD_setS, slot_far i (by omega), field_far D first size n t ht _ _ (by omega)]
    have h9 := k.safe i h1 h2
    generalize D.S.getD i sec0 = s at *
    obtain ⟨nw, od⟩ := s
    simp only at h9
    subst h9
    rfl
  · exact absurd ha e
end Go.Proofs.YtnhnjdldgaaeoaaGreatDoor

/-
  Numbers taken once, as plain functions over a disk as plain data. No program plays a part.
-/
namespace Go.Proofs.YtnhnjdldgaaeoaaGreatDoor
open Go
set_option maxRecDepth 100000

/-- A number's bytes. -/
def numW (n : Nat) : List UInt8 := Lib.itoa (n : Int) ++ [59]
/-- Up to which numbers are reserved, if n more are wanted. -/
def limN (next n limit : Nat) : Nat := if next + n ≤ limit then limit else limit + 16 * ((next + n - limit + 15) / 16)
theorem limN_ge (next n limit : Nat) : next + n ≤ limN next n limit ∧ limit ≤ limN next n limit := by
  unfold limN
  split <;> omega
theorem limN_lt (next n limit : Nat) (h : next ≤ limit) : limN next n limit < limit + n + 16 := by
  unfold limN
  split <;> omega
theorem limN_mod (next n limit : Nat) (h : limit % 16 = 0) : limN next n limit % 16 = 0 := by
  unfold limN
  split <;> omega
/-- Sixteen by sixteen. -/
theorem limN_step (next n limit : Nat) (h : limit < next + n) : limN next n limit = limN next n (limit + 16) := by
  unfold limN
  rw [if_neg (by omega)]
  by_cases h2 : next + n ≤ limit + 16
  · rw [if_pos h2]; omega
  · rw [if_neg h2]; omega

/-- An allocator: the next number, and up to which they are reserved. -/
structure Al where
  next : Nat
  lim : Nat
/-- What Open answers: the error; the number that is kept. -/
def keptE (x : List UInt8 × Nat × Int) : Int :=
  if x.2.2 = 9 then 0 else if x.2.2 ≠ 0 then x.2.2 else
  if (readNum x.1).1 = 0 ∧ (readNum x.1).2.2 = x.1.length ∧ 0 ≤ (readNum x.1).2.1 ∧ (readNum x.1).2.1 ≤ 1099511627776 then 0 else 6
def keptN (x : List UInt8 × Nat × Int) : Nat := if x.2.2 = 9 then 0 else (readNum x.1).2.1.toNat
/-- What Some does: the error, the disk, the allocator. -/
def someP (D : Dk) (first size : Nat) (a : Al) (n : Int) : Int × Dk × Al :=
  if n < 1 ∨ 256 < n then (2, D, a) else
  if 1099511627761 < a.next + n.toNat then (3, D, a) else
  if a.next + n.toNat ≤ a.lim then (0, D, ⟨a.next + n.toNat, a.lim⟩) else
  if (saveP D first size (numW (limN a.next n.toNat a.lim))).1 = 0 then (0, (saveP D first size (numW (limN a.next n.toNat a.lim))).2, ⟨a.next + n.toNat, limN a.next n.toNat a.lim⟩)
  else ((saveP D first size (numW (limN a.next n.toNat a.lim))).1, (saveP D first size (numW (limN a.next n.toNat a.lim))).2, a)

theorem numW_read (n : Nat) (h : n ≤ 9223372036854775807) : readNum (numW n) = (0, (n : Int), (numW n).length) := by
  have h9 := readNum_back (n : Int) (by omega) (by omega) []
  simpa [numW] using h9
end Go.Proofs.YtnhnjdldgaaeoaaGreatDoor

/-
  An allocator in memory; what nonce.Open, Next and Limit answer.
-/
namespace Go.Proofs.YtnhnjdldgaaeoaaGreatDoor
open Go Go.RowKit
set_option maxRecDepth 100000

/-- The allocator at a: how a reservation is kept is the Save of the cell at c. -/
structure AllocAt (w : World) (a c : Nat) (al : Al) : Prop where
  obj : w.heap[a]? = some (.cells #[.func (.func 15) #[.pointer (some ⟨c, 0, none⟩)] #[], .int .i64 al.next, .int .i64 al.lim] 74)
  le : al.next ≤ al.lim
  mx : al.lim ≤ 1099511627776
section
variable {w w' : World} {a c d g first size : Nat} {al : Al} {x : Cx} {D : Dk}
theorem AllocAt.kept (h : AllocAt w a c al) {X : List Nat} (hk : Kp X w w') (h1 : a ∉ X) : AllocAt w' a c al := ⟨hk.row h.obj h1, h.le, h.mx⟩
theorem AllocAt.stays (h : AllocAt w a c al) (hb : Below w.heap.size w w') : AllocAt w' a c al := h.kept (X := []) (Kp.of hb) (by simp)
theorem AllocAt.c0 (h : AllocAt w a c al) : w.cell? ⟨a, 0, none⟩ = some (.func (.func 15) #[.pointer (some ⟨c, 0, none⟩)] #[]) := by rw [cell_of_row _ _ _ _ _ _ h.obj]; rfl
theorem AllocAt.c1 (h : AllocAt w a c al) : w.cell? ⟨a, 1, none⟩ = some (.int .i64 al.next) := by rw [cell_of_row _ _ _ _ _ _ h.obj]; rfl
theorem AllocAt.c2 (h : AllocAt w a c al) : w.cell? ⟨a, 2, none⟩ = some (.int .i64 al.lim) := by rw [cell_of_row _ _ _ _ _ _ h.obj]; rfl
theorem AllocAt.fz (h : AllocAt w a c al) (j : Nat) : w.frozen? ⟨a, j, none⟩ = false := by simp [World.frozen?, h.obj]
theorem AllocAt.far (h : AllocAt w a c al) (hd : DiskAt w d g D) : a ∉ [d, g] := by
  intro hm
  simp only [List.mem_cons, List.not_mem_nil, or_false] at hm
  rcases hm with rfl | rfl
  · exact differ h.obj hd.obj (by decide)
  · exact differ h.obj hd.row (by decide)
theorem AllocAt.next (h : AllocAt w a c al) (hd : DiskAt w d g D) (hk : Kp [d, g] w w') : AllocAt w' a c al := h.kept hk (h.far hd)
/-- The cell is none of the allocator's block. -/
theorem AllocAt.cell (h : AllocAt w a c al) (hc : CellAt w x d first size) : x.c ≠ a ∧ x.p ≠ a ∧ x.q ≠ a ∧ x.r ≠ a := by
  refine ⟨?_, ?_, ?_, ?_⟩
  · rintro rfl; exact differ h.obj hc.obj (by decide)
  · rintro rfl; exact differ h.obj hc.hp (by decide)
  · rintro rfl; exact differ h.obj hc.hq (by decide)
  · rintro rfl; exact differ h.obj hc.hr (by decide)

set_option maxHeartbeats 2000000 in
theorem anext_any (h : AllocAt w a c al) : Calls Tryz.prog 21 #[.pointer (some ⟨a, 0, none⟩)] w fun e w' => e = .returned (.int .i64 al.next) ∧ w' = w := by
  have c1 := h.c1
  clear h
  go_enter Tryz.func21, Tryz.ntmps21
  go_wp2
  go_ret
  exact ⟨rfl, rfl⟩
theorem anext_nil (w : World) : Calls Tryz.prog 21 #[.pointer none] w fun e w' => e = .returned (.int .i64 0) ∧ w' = w := by
  go_enter Tryz.func21, Tryz.ntmps21
  go_wp2
  go_ret
  exact ⟨rfl, rfl⟩
set_option maxHeartbeats 2000000 in
theorem limit_any (h : AllocAt w a c al) : Calls Tryz.prog 22 #[.pointer (some ⟨a, 0, none⟩)] w fun e w' => e = .returned (.int .i64 al.lim) ∧ w' = w := by
  have c2 := h.c2
  clear h
  go_enter Tryz.func22, Tryz.ntmps22
  go_wp2
  go_ret
  exact ⟨rfl, rfl⟩
theorem limit_nil (w : World) : Calls Tryz.prog 22 #[.pointer none] w fun e w' => e = .returned (.int .i64 0) ∧ w' = w := by
  go_enter Tryz.func22, Tryz.ntmps22
  go_wp2
  go_ret
  exact ⟨rfl, rfl⟩

theorem load_len (D : Dk) (first size : Nat) : (loadP D first size).1.length ≤ 64 * size := by
  have h9 := (last_le D first size).2.2
  rw [load_last]
  split
  · simp
  · split
    · simp
    · rw [List.length_take]
      omega
/-- The number that is answered. -/
def keptV (L : List UInt8 × Nat × Int) : Nat := if keptE L = 0 then keptN L else 0
theorem kept_le (L : List UInt8 × Nat × Int) (h : keptE L = 0) : keptN L ≤ 1099511627776 := by
  unfold keptE at h
  unfold keptN
  by_cases h9 : L.2.2 = 9
  · rw [if_pos h9]
    omega
  · rw [if_neg h9] at h ⊢
    by_cases h0 : L.2.2 ≠ 0
    · rw [if_pos h0] at h
      exact absurd h h0
    · rw [if_neg h0] at h
      by_cases hc : (readNum L.1).1 = 0 ∧ (readNum L.1).2.2 = L.1.length ∧ 0 ≤ (readNum L.1).2.1 ∧ (readNum L.1).2.1 ≤ 1099511627776
      · omega
      · rw [if_neg hc] at h
        exact absurd h (by decide)

set_option maxHeartbeats 4000000 in
theorem reserved_any (hc : CellAt w x d first size) (hd : DiskAt w d g D) (hr : first + 2 + 2 * size ≤ D.S.length) (ht : Lay.Tabs w) :
    Calls Tryz.prog 28 #[.pointer (some ⟨x.c, 0, none⟩)] w fun e w' => e = .returned (.tuple #[.int .i64 (keptV (loadP D first size)), .int .i64 (keptE (loadP D first size))]) ∧ Below w.heap.size w w' := by
  have HL := hid (load_any hc hd hr)
  have hln := load_len D first size
  have hsz := hc.sz
  have HT := hid ht
  clear hc hd ht hr
  generalize loadP D first size = L at *
  obtain ⟨t, n, e⟩ := L
  simp only at HL hln
  by_cases h9 : e = 9
  · have eE : keptE (t, n, e) = 0 := by unfold keptE; rw [if_pos h9]
    have eV : keptV (t, n, e) = 0 := by unfold keptV keptN; rw [if_pos eE, if_pos h9]
    rw [eE, eV]
    subst h9
    go_enter Tryz.func28, Tryz.ntmps28
    go_wp2_with fail
    refine HL.out.mono ?_
    rintro e w1 ⟨rfl, hb1⟩
    have HB1 := hid hb1
    clear hb1
    go_wp2
    go_ret2
    exact ⟨rfl, HB1.out⟩
  · have d9 : (e == 9) = false := by simpa using h9
    by_cases h0 : e = 0
    · subst h0
      have HRd := hid (fun W hW => Lay.readNumber_any ⟨t.toArray⟩ 0 (Nat.zero_le _) (by show t.length ≤ _; omega) W hW t rfl)
      obtain ⟨E, hE⟩ : ∃ E, E = keptE (t, n, 0) := ⟨_, rfl⟩
      obtain ⟨V, hV⟩ : ∃ V, V = keptV (t, n, 0) := ⟨_, rfl⟩
      rw [← hE, ← hV]
      unfold keptV at hV
      rw [← hE] at hV
      unfold keptE at hE
      unfold keptN at hV
      unfold Lay.numTo at HRd
      have hts : (⟨t.toArray⟩ : ByteArray).size = t.length := rfl
      have e90 : ¬ ((0 : Int) = 9) := by decide
      have e00 : ¬ ((0 : Int) ≠ 0) := by decide
      simp only [e90, e00, if_false] at hE hV
      generalize readNum t = R at *
      obtain ⟨re, rn, rl⟩ := R
      simp only at HRd hE hV
      have HE := hid hE
      have HV := hid hV
      clear hE hV
      by_cases c1 : re = 0
      · subst c1
        simp only [if_true, Nat.zero_add] at HRd
        by_cases c2 : rl = t.length
        · have b2 : ((rl : Int) != (t.length : Int)) = false := by simp [c2]
          by_cases c3 : rn < 0
          · rw [if_neg (by omega)] at HE
            rw [HE.out, if_neg (by decide)] at HV
            rw [HE.out, HV.out]
            clear c2
            go_enter Tryz.func28, Tryz.ntmps28
            go_wp2_with fail
            refine HL.out.mono ?_
            rintro e w1 ⟨rfl, hb1⟩
            have HB1 := hid hb1
            have HR1 := hid (HRd.out _ (HT.out.stays hb1))
            clear hb1
            go_wp2_with fail
            refine HR1.out.mono ?_
            rintro e w2 ⟨rfl, hb2⟩
            have HB2 : Hid (Below w.heap.size w w2) := HB1.out.trans (hb2.mono HB1.out.size)
            clear hb2
            go_wp2
            go_ret2
            exact ⟨rfl, HB2.out⟩
          · have b3 : decide (rn < 0) = false := decide_eq_false c3
            by_cases c4 : 1099511627776 < rn
            · have b4 : decide (1099511627776 < rn) = true := decide_eq_true c4
              rw [if_neg (by omega)] at HE
              rw [HE.out, if_neg (by decide)] at HV
              rw [HE.out, HV.out]
              clear c2
              go_enter Tryz.func28, Tryz.ntmps28
              go_wp2_with fail
              refine HL.out.mono ?_
              rintro e w1 ⟨rfl, hb1⟩
              have HB1 := hid hb1
              have HR1 := hid (HRd.out _ (HT.out.stays hb1))
              clear hb1
              go_wp2_with fail
              refine HR1.out.mono ?_
              rintro e w2 ⟨rfl, hb2⟩
              have HB2 : Hid (Below w.heap.size w w2) := HB1.out.trans (hb2.mono HB1.out.size)
              clear hb2
              go_wp2
              go_ret2
              exact ⟨rfl, HB2.out⟩
            · have b4 : decide (1099511627776 < rn) = false := decide_eq_false c4
              rw [if_pos ⟨rfl, c2, by omega, by omega⟩] at HE
              rw [HE.out, if_pos rfl] at HV
              have HV2 : Hid ((V : Int) = rn) := by have := HV.out; show (V : Int) = rn; omega
              rw [HE.out, HV2.out]
              clear c2
              go_enter Tryz.func28, Tryz.ntmps28
              go_wp2_with fail
              refine HL.out.mono ?_
              rintro e w1 ⟨rfl, hb1⟩
              have HB1 := hid hb1
              have HR1 := hid (HRd.out _ (HT.out.stays hb1))
              clear hb1
              go_wp2_with fail
              refine HR1.out.mono ?_
              rintro e w2 ⟨rfl, hb2⟩
              have HB2 : Hid (Below w.heap.size w w2) := HB1.out.trans (hb2.mono HB1.out.size)
              clear hb2
              go_wp2
              go_ret2
              exact ⟨rfl, HB2.out⟩
        · have b2 : ((rl : Int) != (t.length : Int)) = true := by simp; omega
          rw [if_neg (fun h => c2 h.2.1)] at HE
          rw [HE.out, if_neg (by decide)] at HV
          rw [HE.out, HV.out]
          go_enter Tryz.func28, Tryz.ntmps28
          go_wp2_with fail
          refine HL.out.mono ?_
          rintro e w1 ⟨rfl, hb1⟩
          have HB1 := hid hb1
          have HR1 := hid (HRd.out _ (HT.out.stays hb1))
          clear hb1
          go_wp2_with fail
          refine HR1.out.mono ?_
          rintro e w2 ⟨rfl, hb2⟩
          have HB2 : Hid (Below w.heap.size w w2) := HB1.out.trans (hb2.mono HB1.out.size)
          clear hb2
          go_wp2
          go_ret2
          exact ⟨rfl, HB2.out⟩
      · have b1 : ((re : Int) != 0) = true := by simp; omega
        rw [if_neg (fun h => c1 h.1)] at HE
        rw [HE.out, if_neg (by decide)] at HV
        rw [HE.out, HV.out]
        rw [if_neg c1] at HRd
        go_enter Tryz.func28, Tryz.ntmps28
        go_wp2_with fail
        refine HL.out.mono ?_
        rintro e w1 ⟨rfl, hb1⟩
        have HB1 := hid hb1
        have HR1 := hid (HRd.out _ (HT.out.stays hb1))
        clear hb1
        go_wp2_with fail
        refine HR1.out.mono ?_
        rintro e w2 ⟨rfl, hb2⟩
        have HB2 : Hid (Below w.heap.size w w2) := HB1.out.trans (hb2.mono HB1.out.size)
        clear hb2
        go_wp2
        go_ret2
        exact ⟨rfl, HB2.out⟩
    · have d0 : (e != 0) = true := by simpa using h0
      have eE : keptE (t, n, e) = e := by unfold keptE; rw [if_neg h9, if_pos h0]
      have eV : keptV (t, n, e) = 0 := by unfold keptV; rw [if_neg (by rw [eE]; exact h0)]
      rw [eE, eV]
      go_enter Tryz.func28, Tryz.ntmps28
      go_wp2_with fail
      refine HL.out.mono ?_
      rintro e w1 ⟨rfl, hb1⟩
      have HB1 := hid hb1
      clear hb1
      go_wp2
      go_ret2
      exact ⟨rfl, HB1.out⟩

set_option maxHeartbeats 2000000 in
theorem nopen_ok (hc : CellAt w x d first size) (hd : DiskAt w d g D) (hr : first + 2 + 2 * size ≤ D.S.length) (ht : Lay.Tabs w) (hE : keptE (loadP D first size) = 0) :
    Calls Tryz.prog 9 #[.pointer (some ⟨x.c, 0, none⟩)] w fun e w' => ∃ a, e = .returned (.tuple #[.pointer (some ⟨a, 0, none⟩), .int .i64 0]) ∧ AllocAt w' a x.c ⟨keptN (loadP D first size), keptN (loadP D first size)⟩ ∧ Below w.heap.size w w' ∧ w.heap.size ≤ a := by
  have HR := hid (reserved_any hc hd hr ht)
  have hle := kept_le _ hE
  unfold keptV at HR
  rw [hE, if_pos rfl] at HR
  clear hc hd hr ht hE
  generalize keptN (loadP D first size) = k at *
  go_enter Tryz.func9, Tryz.ntmps9
  go_wp2_with fail
  refine HR.out.mono ?_
  rintro e w1 ⟨rfl, hb1⟩
  have HB1 := hid hb1
  clear hb1
  go_wp2
  go_ret2
  exact ⟨w1.heap.size, rfl, ⟨top_row _ _, Nat.le_refl _, hle⟩, below_more HB1.out _ (Nat.le_refl _), HB1.out.size⟩
set_option maxHeartbeats 2000000 in
theorem nopen_bad (hc : CellAt w x d first size) (hd : DiskAt w d g D) (hr : first + 2 + 2 * size ≤ D.S.length) (ht : Lay.Tabs w) (hE : keptE (loadP D first size) ≠ 0) :
    Calls Tryz.prog 9 #[.pointer (some ⟨x.c, 0, none⟩)] w fun e w' => e = .returned (.tuple #[.pointer none, .int .i64 (keptE (loadP D first size))]) ∧ Below w.heap.size w w' := by
  have HR := hid (reserved_any hc hd hr ht)
  clear hc hd hr ht
  generalize keptV (loadP D first size) = v at *
  generalize keptE (loadP D first size) = E at *
  have b1 : (E != 0) = true := by simpa using hE
  go_enter Tryz.func9, Tryz.ntmps9
  go_wp2_with fail
  refine HR.out.mono ?_
  rintro e w1 ⟨rfl, hb1⟩
  have HB1 := hid hb1
  clear hb1
  go_wp2
  go_ret2
  exact ⟨rfl, HB1.out⟩
theorem nopen_nil (w : World) : Calls Tryz.prog 9 #[.pointer none] w fun e w' => e = .returned (.tuple #[.pointer none, .int .i64 1]) ∧ w' = w := by
  go_enter Tryz.func9, Tryz.ntmps9
  go_wp2
  go_ret2
  exact ⟨rfl, rfl⟩
end
end Go.Proofs.YtnhnjdldgaaeoaaGreatDoor

/-
  What the reference's ReadNumber answers at place 0.
-/
namespace Go.Proofs.YtnhnjdldgaaeoaaGreatDoor
open Go Go.RowKit
set_option maxRecDepth 100000

theorem rdF_step (u : Nat) (c : UInt8) (l : List UInt8) (hc : isDig c = true) : (9223372036854775808 < u * 10 + (c.toNat - 48) → rdF (-(u : Int)) (c :: l) = none) ∧ (u * 10 + (c.toNat - 48) ≤ 9223372036854775808 → rdF (-(u : Int)) (c :: l) = rdF (-((u * 10 + (c.toNat - 48) : Nat) : Int)) l) := by
  have hd := (isDig_iff c).1 hc
  have ec : (c.toNat : Int) - 48 = ((c.toNat - 48 : Nat) : Int) := by omega
  have ht := tdiv_ten u (c.toNat - 48) (by omega)
  rw [rdF, ec]
  constructor
  · intro h
    rw [if_pos (ht.2 h)]
  · intro h
    rw [if_neg (fun h9 => by have := ht.1 h9; omega)]
    congr 1
    omega
theorem tdiv_is (u : Nat) (c : UInt8) (hc : isDig c = true) : ((-(u : Int)) < (-9223372036854775808 + ((c.toNat : Int) - 48)).tdiv 10) ↔ 9223372036854775808 < u * 10 + (c.toNat - 48) := by
  have hd := (isDig_iff c).1 hc
  have ec : (c.toNat : Int) - 48 = ((c.toNat - 48 : Nat) : Int) := by omega
  rw [ec]
  exact tdiv_ten u _ (by omega)
/-- What is left of the digits. -/
theorem dig_cons (r : List UInt8) (k : Nat) (h : k < digRun r) : (r.take (digRun r)).drop k = r.getD k 0 :: (r.take (digRun r)).drop (k + 1) := by
  have hl := digRun_le r
  have h9 : k < (r.take (digRun r)).length := by rw [List.length_take]; omega
  rw [List.drop_eq_getElem_cons h9, List.getElem_take]
  congr 1
  simp [List.getD, List.getElem?_eq_getElem (show k < r.length by omega)]
theorem ret_three {a b c a' b' c' : Int} (h1 : a = a') (h2 : b = b') (h3 : c = c') : Ending.returned (.tuple #[.int .i64 a, .int .i64 b, .int .i64 c]) = .returned (.tuple #[.int .i64 a', .int .i64 b', .int .i64 c']) := by rw [h1, h2, h3]

set_option maxHeartbeats 2000000 in
theorem refRead_neg (s : ByteArray) (hs : s.size ≤ maxLen) (w : World) (t : List UInt8) (HT : Hid (s.data.toList = t)) (hneg : isNeg t = true) :
    Calls Tryz.prog 30 #[.string s, .int .i64 0] w fun e w' => e = .returned (.tuple #[.int .i64 (readNum t).2.1, .int .i64 (Lay.numTo 0 t), .int .i64 (readNum t).1]) ∧ w' = w := by
  have hpos : 0 < s.size := by
    obtain ⟨r', hr'⟩ := Lay.neg_form hneg
    have h9 := congrArg List.length HT.out
    rw [hr'] at h9
    simp at h9
    omega
  have q0 : ((s[0].toNat : Int) == 45) = true := by
    have h9 := Lay.byte_at s 0 hpos
    rw [HT.out] at h9
    unfold isNeg at hneg
    rw [h9] at hneg
    rw [beq_iff_eq] at hneg ⊢
    rw [hneg]
    rfl
  have qs : decide ((0 : Int) < (s.size : Int)) = true := by simp; omega
  have hnl : negLen t = 1 := by unfold negLen; rw [hneg]; rfl
  have hrn := readNum_ref t
  rw [hnl, hneg] at hrn
  obtain ⟨r, hr⟩ : ∃ r, r = t.drop 1 := ⟨_, rfl⟩
  rw [← hr] at hrn
  have HR : Hid (s.data.toList.drop 1 = r) := by show _ = _; rw [HT.out, hr]
  have hl := digRun_le r
  have hl2 : r.length = s.size - 1 := by rw [← HR.out]; simp
  have HDg := digRun_at r
  have HEn := hid (refEnd_any s 1 (by omega) hs w r HR 1 rfl)
  have HBd : Hid (∀ v u : Int, v = 1 → u = ((1 + digRun r : Nat) : Int) → Calls Tryz.prog 51 #[.string s, .int .i64 v, .int .i64 u, .int .u8 59] w fun e w' => e = .returned (.int .i64 (eodErr r 59)) ∧ w' = w) := fun v u hv hu => refBad_any s 1 (by omega) 59 hs w r HR v u hv hu
  have hms : s.size ≤ 9223372036854775807 := hs
  have HRn := hid hrn
  obtain ⟨N, hN⟩ : ∃ N, N = readNum t := ⟨_, rfl⟩
  rw [← hN] at HRn
  unfold Lay.numTo
  rw [← hN]
  obtain ⟨A1, hA1⟩ : ∃ A, A = N.2.1 := ⟨_, rfl⟩
  obtain ⟨A2, hA2⟩ : ∃ A, A = (if N.1 = 0 then 0 + N.2.2 else 0) := ⟨_, rfl⟩
  obtain ⟨A3, hA3⟩ : ∃ A, A = N.1 := ⟨_, rfl⟩
  rw [← hA1, ← hA2, ← hA3]
  have HA : Hid (A1 = N.2.1 ∧ A2 = (if N.1 = 0 then 0 + N.2.2 else 0) ∧ A3 = N.1) := ⟨hA1, hA2, hA3⟩
  clear hrn hN hr hA1 hA2 hA3
  by_cases hE : eodErr r 59 = 0
  · rw [if_neg (fun h => h hE)] at HRn
    obtain ⟨z0, z1, z2, z3⟩ := Lay.eod_zero hE
    rw [hE] at HBd
    have hx : s.extract 1 (1 + digRun r) = ⟨(r.take (digRun r)).toArray⟩ := by
      apply ByteArray.ext
      have h9 := Lib.extract_data s 1 (1 + digRun r)
      rw [show 1 + digRun r - 1 = digRun r by omega, HR.out] at h9
      rw [← h9]
    have hg0 : r.getD 0 0 = s[1] := by rw [← Lay.byte_drop s 1 0 (by omega), HR.out]
    by_cases hz : r.getD 0 0 = 48
    · rw [if_pos ⟨rfl, hz⟩] at HRn
      have hd1 : digRun r = 1 := by
        by_cases h9 : 1 < digRun r
        · exact absurd hz (z3 h9)
        · omega
      have hx2 : s.extract 1 2 = ⟨#[48]⟩ := by
        rw [hd1] at hx
        rw [hx]
        congr 1
        rw [show r.take 1 = [48] from by
          cases r with
          | nil => simp at z1
          | cons c l => simp at hz; simp [hz]]
      rw [hd1] at HEn HBd
      clear hx hz hg0 z1 z2 z3 z0 HDg
      have hsz2 : 2 ≤ s.size := by omega
      go_enter Tryz.func30, Tryz.ntmps30
      go_wp2_with fail
      refine HEn.out.mono ?_
      rintro e W ⟨rfl, hW⟩
      subst W
      go_wp2_with fail
      refine (HBd.out _ _ (by omega) (by omega)).mono ?_
      rintro e W ⟨rfl, hW⟩
      subst W
      go_wp2
      go_ret3
      obtain ⟨f1, f2, f3⟩ := HA.out
      rw [HRn.out] at f1 f2 f3
      exact ⟨ret_three f1.symm (by rw [f2]; rfl) (by rw [f3]; rfl), rfl⟩
    · rw [if_neg (fun h => hz h.2)] at HRn
      have hxn : ¬ (s.extract 1 (1 + digRun r) = ⟨#[48]⟩) := by
        rw [hx]
        intro h9
        have h8 : r.take (digRun r) = [48] := by
          have h7 := congrArg (fun b => b.data.toList) h9
          simpa using h7
        apply hz
        cases r with
        | nil => simp at z1
        | cons c l =>
          have h6 : ((c :: l).take (digRun (c :: l)))[0]? = some 48 := by rw [h8]; rfl
          rw [List.getElem?_take, if_pos z0] at h6
          simpa using h6
      have hxt : ((s.extract 1 (1 + digRun r)).toList == [48]) = false := by
        rw [beq_eq_false_iff_ne]
        intro h9
        apply hxn
        apply ByteArray.ext
        rw [ByteArray.toList_eq] at h9
        have h8 : (s.extract 1 (1 + digRun r)).data = (s.extract 1 (1 + digRun r)).data.toList.toArray := by rw [Array.toArray_toList]
        rw [h8, h9]
      clear hx hz hg0 z2 z3 hxn
      go_enter Tryz.func30, Tryz.ntmps30
      go_wp2_with fail
      refine HEn.out.mono ?_
      rintro e W ⟨rfl, hW⟩
      subst W
      go_wp2_with fail
      refine (HBd.out _ _ (by omega) (by omega)).mono ?_
      rintro e W ⟨rfl, hW⟩
      subst W
      go_wp2
      obtain ⟨M, hM⟩ : ∃ M, M = rdF 0 (r.take (digRun r)) := ⟨_, rfl⟩
      rw [← hM] at HRn
      have HM0 : Hid (M = rdF (-((0 : Nat) : Int)) ((r.take (digRun r)).drop 0)) := by show _ = _; rw [hM]; rfl
      clear hM
      go_loop [10, 11] (fun n i => ∃ k u : Nat, k ≤ digRun r ∧ u ≤ 9223372036854775808 ∧ n = .int .i64 (-(u : Int)) ∧ i = .int .i64 ((1 + k : Nat) : Int) ∧ Hid (M = rdF (-(u : Int)) ((r.take (digRun r)).drop k))) (fun _ i => 1 + digRun r - (intOf i).toNat)
      case atStart => exact ⟨0, 0, Nat.zero_le _, Nat.zero_le _, rfl, rfl, HM0⟩
      case round =>
        obtain ⟨k, u, hk, hu, rfl, rfl, HM⟩ := hrel
        clear HM0
        by_cases hlt : k < digRun r
        · have hd := HDg k hlt
          have hps : 1 + k < s.size := by omega
          have HC := dig_cons r k hlt
          have hbd : r.getD k 0 = s[1 + k] := by rw [← Lay.byte_drop s 1 k hps, HR.out]
          rw [hbd] at hd HC
          have hst := rdF_step u s[1 + k] ((r.take (digRun r)).drop (k + 1)) hd
          rw [← HC] at hst
          have HSt := hid hst
          have htd := tdiv_is u s[1 + k] hd
          have hd2 := (isDig_iff _).1 hd
          clear hst HC hbd hd HDg
          by_cases hbig : 9223372036854775808 < u * 10 + (s[1 + k].toNat - 48)
          · have bb : decide (-(u : Int) < (-9223372036854775808 + ((s[1 + k].toNat : Int) - 48)).tdiv 10) = true := decide_eq_true (htd.2 hbig)
            have HMn : Hid (M = none) := HM.out.trans (HSt.out.1 hbig)
            clear htd HSt HM
            go_wp2
            go_ret3
            obtain ⟨f1, f2, f3⟩ := HA.out
            rw [HRn.out, HMn.out] at f1 f2 f3
            exact ⟨ret_three f1.symm (by rw [f2]; rfl) (by rw [f3]; rfl), rfl⟩
          · have bb : decide (-(u : Int) < (-9223372036854775808 + ((s[1 + k].toNat : Int) - 48)).tdiv 10) = false := decide_eq_false (fun h => hbig (htd.1 h))
            have HM2 : Hid (M = rdF (-((u * 10 + (s[1 + k].toNat - 48) : Nat) : Int)) ((r.take (digRun r)).drop (k + 1))) := HM.out.trans (HSt.out.2 (by omega))
            clear htd HSt HM
            go_wp2
            go_round
            case rel => exact ⟨k + 1, u * 10 + (s[1 + k].toNat - 48), by omega, by omega, by go_num, by go_num, HM2⟩
            case measure => simp [intOf]; omega
        · obtain rfl : k = digRun r := by omega
          have HMs : Hid (M = some (-(u : Int))) := by
            have h9 := HM.out
            rw [List.drop_eq_nil_of_le (by rw [List.length_take]; omega), rdF] at h9
            exact h9
          clear HM HDg
          go_wp2
          go_ret3
          obtain ⟨f1, f2, f3⟩ := HA.out
          rw [HRn.out, HMs.out] at f1 f2 f3
          exact ⟨ret_three (by rw [f1]; rfl) (by rw [f2]; simp [numR]) (by rw [f3]; rfl), rfl⟩
  · rw [if_pos hE] at HRn
    have b1 : ((eodErr r 59 : Int) != 0) = true := by simp; omega
    generalize eodErr r 59 = E at *
    go_enter Tryz.func30, Tryz.ntmps30
    go_wp2_with fail
    refine HEn.out.mono ?_
    rintro e W ⟨rfl, hW⟩
    subst W
    go_wp2_with fail
    refine (HBd.out _ _ (by omega) (by omega)).mono ?_
    rintro e W ⟨rfl, hW⟩
    subst W
    go_wp2
    go_ret3
    obtain ⟨f1, f2, f3⟩ := HA.out
    rw [HRn.out] at f1 f2 f3
    exact ⟨ret_three f1.symm (by rw [f2, if_neg hE]; rfl) (by rw [f3]), rfl⟩

set_option maxHeartbeats 2000000 in
theorem refRead_pos (s : ByteArray) (hs : s.size ≤ maxLen) (w : World) (t : List UInt8) (HT : Hid (s.data.toList = t)) (hneg : isNeg t = false) :
    Calls Tryz.prog 30 #[.string s, .int .i64 0] w fun e w' => e = .returned (.tuple #[.int .i64 (readNum t).2.1, .int .i64 (Lay.numTo 0 t), .int .i64 (readNum t).1]) ∧ w' = w := by
  have hnl : negLen t = 0 := by unfold negLen; rw [hneg]; rfl
  have hrn := readNum_ref t
  rw [hnl, hneg] at hrn
  obtain ⟨r, hr⟩ : ∃ r, r = t.drop 0 := ⟨_, rfl⟩
  rw [← hr] at hrn
  have HR : Hid (s.data.toList.drop 0 = r) := by show _ = _; rw [HT.out, hr]
  have hl := digRun_le r
  have hl2 : r.length = s.size - 0 := by rw [← HR.out]; simp
  have HDg := digRun_at r
  have HEn := hid (refEnd_any s 0 (by omega) hs w r HR 0 rfl)
  have HBd : Hid (∀ v u : Int, v = 0 → u = ((0 + digRun r : Nat) : Int) → Calls Tryz.prog 51 #[.string s, .int .i64 v, .int .i64 u, .int .u8 59] w fun e w' => e = .returned (.int .i64 (eodErr r 59)) ∧ w' = w) := fun v u hv hu => refBad_any s 0 (by omega) 59 hs w r HR v u hv hu
  have hms : s.size ≤ 9223372036854775807 := hs
  have HRn := hid hrn
  obtain ⟨N, hN⟩ : ∃ N, N = readNum t := ⟨_, rfl⟩
  rw [← hN] at HRn
  unfold Lay.numTo
  rw [← hN]
  obtain ⟨A1, hA1⟩ : ∃ A, A = N.2.1 := ⟨_, rfl⟩
  obtain ⟨A2, hA2⟩ : ∃ A, A = (if N.1 = 0 then 0 + N.2.2 else 0) := ⟨_, rfl⟩
  obtain ⟨A3, hA3⟩ : ∃ A, A = N.1 := ⟨_, rfl⟩
  rw [← hA1, ← hA2, ← hA3]
  have HA : Hid (A1 = N.2.1 ∧ A2 = (if N.1 = 0 then 0 + N.2.2 else 0) ∧ A3 = N.1) := ⟨hA1, hA2, hA3⟩
  clear hrn hN hr hA1 hA2 hA3
  by_cases hE : eodErr r 59 = 0
  · rw [if_neg (fun h => h hE)] at HRn
    obtain ⟨z0, z1, z2, z3⟩ := Lay.eod_zero hE
    rw [hE] at HBd
    rw [if_neg (fun h => by simp at h)] at HRn
    have hpos : 0 < s.size := by omega
    have q0 : ((s[0].toNat : Int) == 45) = false := by
      have h9 := Lay.byte_at s 0 hpos
      rw [HT.out] at h9
      unfold isNeg at hneg
      rw [h9] at hneg
      rw [beq_eq_false_iff_ne] at hneg ⊢
      intro h8
      apply hneg
      apply UInt8.toNat_inj.1
      show _ = 45
      omega
    have qs : decide ((0 : Int) < (s.size : Int)) = true := by simp; omega
    clear z2 z3
    go_enter Tryz.func30, Tryz.ntmps30
    go_wp2_with fail
    refine HEn.out.mono ?_
    rintro e W ⟨rfl, hW⟩
    subst W
    go_wp2_with fail
    refine (HBd.out _ _ (by omega) (by omega)).mono ?_
    rintro e W ⟨rfl, hW⟩
    subst W
    go_wp2
    obtain ⟨M, hM⟩ : ∃ M, M = rdF 0 (r.take (digRun r)) := ⟨_, rfl⟩
    rw [← hM] at HRn
    have HM0 : Hid (M = rdF (-((0 : Nat) : Int)) ((r.take (digRun r)).drop 0)) := by show _ = _; rw [hM]; rfl
    clear hM
    go_loop [10, 11] (fun n i => ∃ k u : Nat, k ≤ digRun r ∧ u ≤ 9223372036854775808 ∧ n = .int .i64 (-(u : Int)) ∧ i = .int .i64 (k : Int) ∧ Hid (M = rdF (-(u : Int)) ((r.take (digRun r)).drop k))) (fun _ i => digRun r - (intOf i).toNat)
    case atStart => exact ⟨0, 0, Nat.zero_le _, Nat.zero_le _, rfl, rfl, HM0⟩
    case round =>
      obtain ⟨k, u, hk, hu, rfl, rfl, HM⟩ := hrel
      clear HM0
      by_cases hlt : k < digRun r
      · have hd := HDg k hlt
        have hps : k < s.size := by omega
        have HC := dig_cons r k hlt
        have hbd : r.getD k 0 = s[k] := by rw [← Lay.byte_at s k hps, ← HR.out, List.drop_zero]
        rw [hbd] at hd HC
        have hst := rdF_step u s[k] ((r.take (digRun r)).drop (k + 1)) hd
        rw [← HC] at hst
        have HSt := hid hst
        have htd := tdiv_is u s[k] hd
        have hd2 := (isDig_iff _).1 hd
        clear hst HC hbd hd HDg
        by_cases hbig : 9223372036854775808 < u * 10 + (s[k].toNat - 48)
        · have bb : decide (-(u : Int) < (-9223372036854775808 + ((s[k].toNat : Int) - 48)).tdiv 10) = true := decide_eq_true (htd.2 hbig)
          have HMn : Hid (M = none) := HM.out.trans (HSt.out.1 hbig)
          clear htd HSt HM
          go_wp2
          go_ret3
          obtain ⟨f1, f2, f3⟩ := HA.out
          rw [HRn.out, HMn.out] at f1 f2 f3
          exact ⟨ret_three f1.symm (by rw [f2]; rfl) (by rw [f3]; rfl), rfl⟩
        · have bb : decide (-(u : Int) < (-9223372036854775808 + ((s[k].toNat : Int) - 48)).tdiv 10) = false := decide_eq_false (fun h => hbig (htd.1 h))
          have HM2 : Hid (M = rdF (-((u * 10 + (s[k].toNat - 48) : Nat) : Int)) ((r.take (digRun r)).drop (k + 1))) := HM.out.trans (HSt.out.2 (by omega))
          clear htd HSt HM
          go_wp2
          go_round
          case rel => exact ⟨k + 1, u * 10 + (s[k].toNat - 48), by omega, by omega, by go_num, by go_num, HM2⟩
          case measure => simp [intOf]; omega
      · obtain rfl : k = digRun r := by omega
        have HMs : Hid (M = some (-(u : Int))) := by
          have h9 := HM.out
          rw [List.drop_eq_nil_of_le (by rw [List.length_take]; omega), rdF] at h9
          exact h9
        clear HM HDg
        by_cases hmin : u = 9223372036854775808
        · subst hmin
          go_wp2
          go_ret3
          obtain ⟨f1, f2, f3⟩ := HA.out
          rw [HRn.out, HMs.out] at f1 f2 f3
          exact ⟨ret_three (by rw [f1]; rfl) (by rw [f2]; rfl) (by rw [f3]; rfl), rfl⟩
        · have bm : (-(u : Int) == -9223372036854775808) = false := by rw [beq_eq_false_iff_ne]; omega
          have HNu : Hid (numR false (some (-(u : Int))) (0 + digRun r + 1) = (0, (u : Int), digRun r + 1)) := by
            show _ = _
            unfold numR
            simp only [Bool.false_eq_true, if_false]
            rw [if_neg (by omega)]
            simp
          go_wp2
          go_ret3
          obtain ⟨f1, f2, f3⟩ := HA.out
          rw [HRn.out, HMs.out, HNu.out] at f1 f2 f3
          exact ⟨ret_three (by rw [f1] <;> simp) (by rw [f2] <;> simp) (by rw [f3] <;> rfl), rfl⟩
  · rw [if_pos hE] at HRn
    have b1 : ((eodErr r 59 : Int) != 0) = true := by simp; omega
    by_cases hpos : 0 < s.size
    · have q0 : ((s[0].toNat : Int) == 45) = false := by
        have h9 := Lay.byte_at s 0 hpos
        rw [HT.out] at h9
        unfold isNeg at hneg
        rw [h9] at hneg
        rw [beq_eq_false_iff_ne] at hneg ⊢
        intro h8
        apply hneg
        apply UInt8.toNat_inj.1
        show _ = 45
        omega
      have qs : decide ((0 : Int) < (s.size : Int)) = true := by simp; omega
      generalize eodErr r 59 = E at *
      go_enter Tryz.func30, Tryz.ntmps30
      go_wp2_with fail
      refine HEn.out.mono ?_
      rintro e W ⟨rfl, hW⟩
      subst W
      go_wp2_with fail
      refine (HBd.out _ _ (by omega) (by omega)).mono ?_
      rintro e W ⟨rfl, hW⟩
      subst W
      go_wp2
      go_ret3
      obtain ⟨f1, f2, f3⟩ := HA.out
      rw [HRn.out] at f1 f2 f3
      exact ⟨ret_three f1.symm (by rw [f2, if_neg hE]; rfl) (by rw [f3]), rfl⟩
    · have qs : decide ((0 : Int) < (s.size : Int)) = false := decide_eq_false (by omega)
      generalize eodErr r 59 = E at *
      go_enter Tryz.func30, Tryz.ntmps30
      go_wp2_with fail
      refine HEn.out.mono ?_
      rintro e W ⟨rfl, hW⟩
      subst W
      go_wp2_with fail
      refine (HBd.out _ _ (by omega) (by omega)).mono ?_
      rintro e W ⟨rfl, hW⟩
      subst W
      go_wp2
      go_ret3
      obtain ⟨f1, f2, f3⟩ := HA.out
      rw [HRn.out] at f1 f2 f3
      exact ⟨ret_three f1.symm (by rw [f2, if_neg hE]; rfl) (by rw [f3]), rfl⟩
theorem refRead_any (s : ByteArray) (hs : s.size ≤ maxLen) (w : World) (t : List UInt8) (hT : s.data.toList = t) :
    Calls Tryz.prog 30 #[.string s, .int .i64 0] w fun e w' => e = .returned (.tuple #[.int .i64 (readNum t).2.1, .int .i64 (Lay.numTo 0 t), .int .i64 (readNum t).1]) ∧ w' = w := by
  cases h : isNeg t with
  | true => exact refRead_neg s hs w t hT h
  | false => exact refRead_pos s hs w t hT h
end Go.Proofs.YtnhnjdldgaaeoaaGreatDoor

/-
  A cell whose other slot may be torn: what it has behind saves and crashes, in any number. No program plays a part.
-/
namespace Go.Proofs.YtnhnjdldgaaeoaaGreatDoor
open Go
set_option maxRecDepth 100000

/-- The slot that is written next: its last number is the one ahead of the cell's, or it is torn: its first number is the next one, its last one is not. -/
def Jnk (s : List UInt8) (n : Nat) : Prop := s.length = 64 ∧ (s.drop 56 = eightB (n - 1) ∨ (s.take 8 = eightB (n + 1) ∧ s.drop 56 ≠ eightB (n + 1)))

theorem jnk_say {s : List UInt8} {n : Nat} (size : Nat) (h : Jnk s n) (hn : n ≤ 1099511627776) : (sayN size s).1 ≤ n - 1 := by
  obtain ⟨hl, h | ⟨h1, h2⟩⟩ := h
  · unfold sayN
    split
    · rename_i e
      show (numI (s.take 8)).toNat ≤ n - 1
      rw [e.1, h, num_eight _ (by omega)]
      omega
    · show 0 ≤ n - 1
      omega
  · rw [say_none (by rw [h1]; exact Ne.symm h2)]
    show 0 ≤ n - 1
    omega
theorem jnk_torn {o : List UInt8} {n : Nat} (len k : Nat) (hk : k ≤ 64) (h : Jnk o n) : (slotB (n + 1) len).take k ++ o.drop k = slotB (n + 1) len ∨ Jnk ((slotB (n + 1) len).take k ++ o.drop k) n := by
  have hsl := slotB_len (n + 1) len
  have h0 := h
  obtain ⟨hl, h⟩ := h
  have hlen : ((slotB (n + 1) len).take k ++ o.drop k).length = 64 := by simp [hsl, hl]; omega
  by_cases h56 : k ≤ 56
  · have hd : ((slotB (n + 1) len).take k ++ o.drop k).drop 56 = o.drop 56 := by
      rw [List.drop_append, List.drop_eq_nil_of_le (by simp; omega), List.nil_append, List.drop_drop]
      congr 1
      simp [hsl]; omega
    right
    rcases h with h | ⟨h1, h2⟩
    · exact ⟨hlen, .inl (by rw [hd, h])⟩
    · by_cases h8 : 8 ≤ k
      · refine ⟨hlen, .inr ⟨?_, by rw [hd]; exact h2⟩⟩
        rw [List.take_append_of_le_length (by simp [hsl]; omega), List.take_take, Nat.min_eq_left h8, slot_first]
      · have e : (slotB (n + 1) len).take k = o.take k := by
          have e1 : (slotB (n + 1) len).take k = ((slotB (n + 1) len).take 8).take k := by rw [List.take_take, Nat.min_eq_left (by omega)]
          rw [e1, slot_first, ← h1, List.take_take, Nat.min_eq_left (by omega)]
        rw [e, List.take_append_drop]
        exact h0
  · have ht : ((slotB (n + 1) len).take k ++ o.drop k).take 56 = (slotB (n + 1) len).take 56 := by
      rw [List.take_append_of_le_length (by simp [hsl]; omega), List.take_take, Nat.min_eq_left (by omega)]
    by_cases hla : ((slotB (n + 1) len).take k ++ o.drop k).drop 56 = eightB (n + 1)
    · left
      rw [← List.take_append_drop 56 ((slotB (n + 1) len).take k ++ o.drop k), ht, hla, ← slot_last (n + 1) len, List.take_append_drop]
    · right
      refine ⟨hlen, .inr ⟨?_, hla⟩⟩
      rw [List.take_append_of_le_length (by simp [hsl]; omega), List.take_take, Nat.min_eq_left (by omega), slot_first]

structure WInv (D : Dk) (first size n : Nat) (t : List UInt8) : Prop where
  ok : AllOk D.S
  room : first + 2 + 2 * size ≤ D.S.length
  sz : 1 ≤ size ∧ size ≤ 255
  safe : ∀ i, first ≤ i → i < first + 2 + 2 * size → (D.S.getD i sec0).old = none
  cnt : n ≤ 1099511627776
  long : t.length ≤ 64 * size
  jnk : Jnk (secB D.S (first + n % 2)) n
  zero : n = 0 → secB D.S (first + 1) = zer
  cur : 1 ≤ n → secB D.S (first + (n - 1) % 2) = slotB n t.length
  txt : 1 ≤ n → (catP D.S (first + 2 + (n - 1) % 2 * size) size).take t.length = t

section
variable {D D2 : Dk} {first size n : Nat} {t0 t : List UInt8}
theorem WInv.load (h : WInv D first size n t) (hd : D.down = false) : loadP D first size = loadR n t := by
  have hj := jnk_say size h.jnk h.cnt
  unfold loadR
  by_cases hn : n = 0
  · rw [if_pos hn]
    have h2 := h.zero hn
    subst hn
    have e : first + 0 % 2 = first := rfl
    rw [e] at hj
    exact load_none hd (by omega) (by rw [h2, say_zero])
  · rw [if_neg hn]
    exact load_is hd (by omega) h.sz.2 h.cnt h.long (h.cur (by omega)) (by omega) (h.txt (by omega))
theorem WInv.slotN (h : WInv D first size n t) : slotN D first size = n + 1 ∧ slotTo D first size = n % 2 := by
  have hc := h.cnt
  have hj := jnk_say size h.jnk h.cnt
  unfold Go.Proofs.YtnhnjdldgaaeoaaGreatDoor.slotN slotTo
  by_cases hn : n = 0
  · have h2 := h.zero hn
    subst hn
    have e : first + 0 % 2 = first := rfl
    rw [e] at hj
    rw [h2, say_zero]
    have e0 : (sayN size (secB D.S first)).1 = 0 := by omega
    rw [e0]
    exact ⟨rfl, rfl⟩
  · have hs := say_slot size n t.length (by omega) hc h.long h.sz.2
    have hcur := h.cur (by omega)
    by_cases hp : n % 2 = 1
    · have e : (n - 1) % 2 = 0 := by omega
      rw [e, Nat.add_zero] at hcur
      rw [hp] at hj
      rw [hcur, hs, hp]
      simp only
      exact ⟨by omega, by rw [if_pos (by omega)]⟩
    · have e : (n - 1) % 2 = 1 := by omega
      have e2 : n % 2 = 0 := by omega
      rw [e] at hcur
      rw [e2, Nat.add_zero] at hj
      rw [hcur, hs, e2]
      simp only
      exact ⟨by omega, by rw [if_neg (by omega)]⟩
/-- What keeps the cell's text: its slot and its field; the other slot may be torn. -/
theorem WInv.keep (h : WInv D first size n t) (hok : AllOk D2.S) (hl : D2.S.length = D.S.length) (hsafe : ∀ i, first ≤ i → i < first + 2 + 2 * size → (D2.S.getD i sec0).old = none)
    (hj : Jnk (secB D2.S (first + n % 2)) n) (hc : ∀ i, first ≤ i → i < first + 2 → i ≠ first + n % 2 → secB D2.S i = secB D.S i)
    (hf : 1 ≤ n → ∀ i, first + 2 + (n - 1) % 2 * size ≤ i → i < first + 2 + (n - 1) % 2 * size + size → secB D2.S i = secB D.S i) : WInv D2 first size n t := by
  refine ⟨hok, by rw [hl]; exact h.room, h.sz, hsafe, h.cnt, h.long, hj, fun h0 => ?_, fun h1 => ?_, fun h1 => ?_⟩
  · rw [hc _ (by omega) (by omega) (by omega)]; exact h.zero h0
  · rw [hc _ (by omega) (by omega) (by omega)]; exact h.cur h1
  · rw [catP_congr (R := D.S) (hf h1)]; exact h.txt h1
theorem WInv.congr (h : WInv D first size n t) (hok : AllOk D2.S) (hl : D2.S.length = D.S.length)
    (hs : ∀ i, first ≤ i → i < first + 2 + 2 * size → D2.S.getD i sec0 = D.S.getD i sec0) : WInv D2 first size n t := by
  have hb : ∀ i, first ≤ i → i < first + 2 + 2 * size → secB D2.S i = secB D.S i := fun i h1 h2 => by unfold secB; rw [hs i h1 h2]
  have hm := mod_mul_le (n - 1) size
  refine h.keep hok hl (fun i h1 h2 => by rw [hs i h1 h2]; exact h.safe i h1 h2) ?_ (fun i h1 h2 _ => hb i h1 (by omega)) (fun _ i h1 h2 => hb i (by omega) (by omega))
  have hz := h.sz
  rw [hb _ (by omega) (by omega)]
  exact h.jnk
theorem WInv.crash (h : WInv D first size n t) (ks : List Int) : WInv (crashD D ks) first size n t :=
  h.congr (tearAll_ok h.ok ks) (tearAll_len _ _) (fun i h1 h2 => getD_tear _ _ _ (h.safe i h1 h2))
theorem torn_safe (S : List Sec) (ks : List Int) (i : Nat) : ((tearAll S ks).getD i sec0).old = none := by
  by_cases hi : i < S.length
  · have h5 : i < (tearAll S ks).length := by rw [tearAll_len]; exact hi
    have e : (tearAll S ks).getD i sec0 = (tearAll S ks)[i] := by simp [List.getD, h5]
    rw [e]
    rcases tear_get S ks i hi with ⟨h1, h2⟩ | ⟨o, kk, -, -, h2⟩
    · rw [h2]; exact h1
    · rw [h2]; rfl
  · rw [List.getD, List.getElem?_eq_none (by rw [tearAll_len]; omega : (tearAll S ks).length ≤ i)]
    rfl
theorem wfield_ok (h : WInv D first size n t0) (j : Nat) : AllOk (fieldS D first size n t j) := putsS_ok h.ok _ _ (fun c hc => chunks_le t c (List.mem_of_mem_take hc))
theorem wslot_ok (h : WInv D first size n t0) : AllOk (slotS D first size n t) := by
  unfold slotS putS
  refine (ok_setS (wfield_ok h _)).set _ (wrS_ok ?_ _ (by rw [slotB_len]; omega))
  rw [getD_setS]
  refine setS_ok ?_
  by_cases hi : first + n % 2 < (fieldS D first size n t (chunks t).length).length
  · have e : (fieldS D first size n t (chunks t).length).getD (first + n % 2) sec0 = (fieldS D first size n t (chunks t).length)[first + n % 2] := by simp [List.getD, hi]
    rw [e]; exact wfield_ok h _ _ (List.getElem_mem hi)
  · have e : (fieldS D first size n t (chunks t).length).getD (first + n % 2) sec0 = sec0 := by simp [List.getD, List.getElem?_eq_none (by omega : (fieldS D first size n t (chunks t).length).length ≤ first + n % 2)]
    rw [e]; exact sec0_ok
theorem wslot_at (h : WInv D first size n t0) (ht : t.length ≤ 64 * size) : (slotS D first size n t).getD (first + n % 2) sec0 = ⟨slotB (n + 1) t.length, some (secB D.S (first + n % 2))⟩ := by
  have hr := h.room
  have hz := h.sz
  have hm := mod_mul_le n size
  unfold slotS
  rw [getD_put, if_pos ⟨rfl, by rw [List.length_map, fieldS, putsS_len]; omega⟩, getD_setS, field_far D first size n t ht _ _ (.inl (by omega))]
  unfold wrS setS
  rw [fill_slot]
  rfl
theorem wfield_text (h : WInv D first size n t0) (ht : t.length ≤ 64 * size) (i : Nat) (hi : i < (chunks t).length) : secB (fieldS D first size n t (chunks t).length) (first + 2 + n % 2 * size + i) = fillB ((chunks t).getD i []) := by
  have hr := h.room
  have hm := mod_mul_le n size
  have hl := chunks_len t
  unfold fieldS
  rw [List.take_length]
  exact putsS_at _ _ _ i hi (by omega)
theorem fieldS_len (j : Nat) : (fieldS D first size n t j).length = D.S.length := putsS_len _ _ _
theorem slotS_len' : (slotS D first size n t).length = D.S.length := by unfold slotS putS; rw [List.length_set, List.length_map, fieldS_len]
/-- A crash behind some of the text's writes. -/
theorem wdown_field (h : WInv D first size n t0) (ht : t.length ≤ 64 * size) (j : Nat) (ks : List Int) (a : Nat) (b : Bool) : WInv (crashD ⟨fieldS D first size n t j, a, b⟩ ks) first size n t0 := by
  have hm := mod_mul_le n size
  have hz := h.sz
  have key : ∀ i, first ≤ i → i < first + 2 + 2 * size → (i < first + 2 + n % 2 * size ∨ first + 2 + n % 2 * size + size ≤ i) → secB (tearAll (fieldS D first size n t j) ks) i = secB D.S i := by
    intro i h1 h2 h3
    have e := field_far D first size n t ht j i h3
    unfold secB
    rw [getD_tear _ _ _ (by rw [e]; exact h.safe i h1 h2), e]
  refine h.keep (tearAll_ok (wfield_ok h j) ks) ((tearAll_len _ _).trans (fieldS_len j)) (fun i _ _ => torn_safe _ _ _) ?_ (fun i h1 h2 _ => key i h1 (by omega) (.inl (by omega))) (fun hn i h1 h2 => ?_)
  · show Jnk (secB (tearAll (fieldS D first size n t j) ks) (first + n % 2)) n
    rw [key _ (by omega) (by omega) (.inl (by omega))]
    exact h.jnk
  · rcases (by omega : n % 2 = 0 ∧ (n - 1) % 2 = 1 ∨ n % 2 = 1 ∧ (n - 1) % 2 = 0) with ⟨e1, e2⟩ | ⟨e1, e2⟩
    · rw [e2] at h1 h2
      exact key i (by omega) (by omega) (.inr (by rw [e1]; omega))
    · rw [e2] at h1 h2
      exact key i (by omega) (by omega) (.inl (by rw [e1]; omega))
/-- The slot is there, whole, and the field has the text. -/
theorem wnew_there (h : WInv D first size n t0) (ht : t.length ≤ 64 * size) (hn : n + 1 ≤ 1099511627776) (hok : AllOk D2.S) (hl : D2.S.length = D.S.length) (hsafe : ∀ i, first ≤ i → i < first + 2 + 2 * size → (D2.S.getD i sec0).old = none)
    (hs : secB D2.S (first + n % 2) = slotB (n + 1) t.length) (hf : ∀ i, i ≠ first + n % 2 → secB D2.S i = secB (fieldS D first size n t (chunks t).length) i) : WInv D2 first size (n + 1) t := by
  have hm := mod_mul_le n size
  refine ⟨hok, by rw [hl]; exact h.room, h.sz, hsafe, hn, ht, ?_, fun h0 => by omega, fun _ => by rw [Nat.add_sub_cancel]; exact hs, fun _ => ?_⟩
  · have e9 : secB D2.S (first + (n + 1) % 2) = secB D.S (first + (n + 1) % 2) := by
      rw [hf _ (by omega)]
      unfold secB
      rw [field_far D first size n t ht _ _ (.inl (by omega))]
    rw [e9]
    by_cases h0 : n = 0
    · have h2 := h.zero h0
      subst h0
      rw [show (0 + 1) % 2 = 1 from rfl, h2]
      exact ⟨zer_len, .inl rfl⟩
    · have e : (n + 1) % 2 = (n - 1) % 2 := by omega
      rw [e, h.cur (by omega)]
      exact ⟨slotB_len _ _, .inl (by rw [slot_last, Nat.add_sub_cancel])⟩
  · rw [Nat.add_sub_cancel]
    refine cat_text (fun i hi => sec_len hok _) (fun i hi => ?_) ht
    rw [hf _ (by omega)]
    exact wfield_text h ht i hi
/-- A crash behind the slot's write. -/
theorem wdown_slot (h : WInv D first size n t0) (ht : t.length ≤ 64 * size) (hn : n + 1 ≤ 1099511627776) (ks : List Int) (a : Nat) (b : Bool) :
    WInv (crashD ⟨slotS D first size n t, a, b⟩ ks) first size n t0 ∨ WInv (crashD ⟨slotS D first size n t, a, b⟩ ks) first size (n + 1) t := by
  have hm := mod_mul_le n size
  have hz := h.sz
  have hat := wslot_at h ht
  have hfar : ∀ i, i ≠ first + n % 2 → secB (tearAll (slotS D first size n t) ks) i = secB (fieldS D first size n t (chunks t).length) i := by
    intro i hi
    have e := slot_far (D := D) (size := size) (t := t) i hi
    unfold secB
    rw [getD_tear _ _ _ (by rw [e]; rfl), e]
    rfl
  have hfar2 : ∀ i, i ≠ first + n % 2 → (i < first + 2 + n % 2 * size ∨ first + 2 + n % 2 * size + size ≤ i) → secB (tearAll (slotS D first size n t) ks) i = secB D.S i := by
    intro i hi h3
    rw [hfar i hi]
    unfold secB
    rw [field_far D first size n t ht _ _ h3]
  obtain ⟨kk, hkk, htn⟩ := getD_torn (slotS D first size n t) ks (first + n % 2) _ (by rw [hat])
  have hnow : secB (slotS D first size n t) (first + n % 2) = slotB (n + 1) t.length := by unfold secB; rw [hat]
  rw [hnow] at htn
  rcases jnk_torn t.length kk hkk h.jnk with e | e
  · right
    exact wnew_there h ht hn (tearAll_ok (wslot_ok h) ks) ((tearAll_len _ _).trans slotS_len') (fun i _ _ => torn_safe _ _ _) (htn.trans e) hfar
  · left
    refine h.keep (tearAll_ok (wslot_ok h) ks) ((tearAll_len _ _).trans slotS_len') (fun i _ _ => torn_safe _ _ _) ?_ (fun i h1 h2 h3 => hfar2 i h3 (.inl (by omega))) (fun hn1 i h1 h2 => ?_)
    · show Jnk (secB (tearAll (slotS D first size n t) ks) (first + n % 2)) n
      rw [htn]
      exact e
    · rcases (by omega : n % 2 = 0 ∧ (n - 1) % 2 = 1 ∨ n % 2 = 1 ∧ (n - 1) % 2 = 0) with ⟨e1, e2⟩ | ⟨e1, e2⟩
      · rw [e2] at h1 h2
        exact hfar2 i (by omega) (.inr (by rw [e1]; omega))
      · rw [e2] at h1 h2
        exact hfar2 i (by omega) (.inl (by rw [e1]; omega))
/-- Behind the second Sync. -/
theorem WInv.saved (h : WInv D first size n t0) (ht : t.length ≤ 64 * size) (hn : n + 1 ≤ 1099511627776) (a : Nat) (b : Bool) : WInv ⟨(slotS D first size n t).map setS, a, b⟩ first size (n + 1) t := by
  refine wnew_there h ht hn (ok_setS (wslot_ok h)) ((List.length_map _).trans slotS_len') (fun i _ _ => ?_) ?_ (fun i hi => ?_)
  · show (((slotS D first size n t).map setS).getD i sec0).old = none
    rw [getD_setS]; rfl
  · show secB ((slotS D first size n t).map setS) (first + n % 2) = _
    rw [secB_setS]; unfold secB; rw [wslot_at h ht]
  · show secB ((slotS D first size n t).map setS) i = _
    rw [secB_setS]
    unfold secB
    rw [slot_far i hi]
    rfl
/-- What a save comes to: it is done, or the disk goes down, and behind any crash the cell has the old text or the new one, and is a cell again. -/
theorem wsave (h : WInv D first size n t0) (hd : D.down = false) (ht : t.length ≤ 64 * size) (hn : n + 1 ≤ 1099511627776) :
    (∃ D2, saveP D first size t = (0, D2) ∧ WInv D2 first size (n + 1) t ∧ D2.down = false ∧ (D.armed = 0 → D2.armed = 0) ∧ D2.S.length = D.S.length) ∨
    (∃ D', saveP D first size t = (12, D') ∧ D'.down = true ∧ D.armed ≠ 0 ∧ D'.S.length = D.S.length ∧ ∀ ks, WInv (crashD D' ks) first size n t0 ∨ WInv (crashD D' ks) first size (n + 1) t) := by
  obtain ⟨e1, e2⟩ := h.slotN
  have hr := h.room
  have hm := mod_mul_le n size
  have hcl := chunks_len t
  obtain ⟨⟨j, hj, g1, g2⟩, g3⟩ := puts_is D (first + 2 + n % 2 * size) (chunks t) hd (by omega) (chunks_le t)
  have hsv : saveP D first size t = (if (putsL D (first + 2 + n % 2 * size) (chunks t)).1 = 0 then
    (if syncE (putsL D (first + 2 + n % 2 * size) (chunks t)).2 = 0 then saveEnd (syncD (putsL D (first + 2 + n % 2 * size) (chunks t)).2) (first + n % 2) (n + 1) t.length
     else (syncE (putsL D (first + 2 + n % 2 * size) (chunks t)).2, syncD (putsL D (first + 2 + n % 2 * size) (chunks t)).2))
    else putsL D (first + 2 + n % 2 * size) (chunks t)) := by
    unfold saveP
    rw [if_neg (by omega), hd, if_neg (by decide), e1, e2, if_neg (by omega)]
  rw [hsv]
  clear hsv
  rcases hp : putsL D (first + 2 + n % 2 * size) (chunks t) with ⟨e, D1⟩
  rw [hp] at g1 g2 g3
  simp only at g1 g2 g3 ⊢
  have hfl : ∀ i, (fieldS D first size n t i).length = D.S.length := fun i => putsS_len _ _ _
  have hsl : (slotS D first size n t).length = D.S.length := slotS_len'
  rcases g2 with ⟨rfl, hjl, hd1⟩ | ⟨rfl, hd1, ha⟩
  · rw [if_pos rfl]
    have hS1 : D1.S = fieldS D first size n t (chunks t).length := by rw [g1, hjl]; rfl
    rcases sync_is D1 hd1 with ⟨s1, s2, s3⟩ | ⟨s1, s2, s3, s4⟩
    · rw [if_pos s1]
      have hS2 : (syncD D1).S = (fieldS D first size n t (chunks t).length).map setS := by rw [s2, hS1]
      obtain ⟨w1, w2, w3⟩ := write_is (syncD D1) (first + n % 2) (slotB (n + 1) t.length) s3 (by rw [hS2, List.length_map, hfl]; omega) (by rw [slotB_len]; omega)
      have hS3 : (writeD (syncD D1) ((first + n % 2 : Nat) : Int) (slotB (n + 1) t.length)).S = slotS D first size n t := by rw [w1, hS2]; rfl
      unfold saveEnd
      rcases w2 with ⟨w4, w5⟩ | ⟨w4, w5, w6⟩
      · rw [if_pos w4]
        rcases sync_is _ w5 with ⟨x1, x2, x3⟩ | ⟨x1, x2, x3, x4⟩
        · left
          refine ⟨_, by rw [x1], ?_, x3, fun h0 => sync_armed _ (w3 (sync_armed _ (g3 h0))), by rw [x2, hS3, List.length_map, hsl]⟩
          have h9 := h.saved ht hn (syncD (writeD (syncD D1) ((first + n % 2 : Nat) : Int) (slotB (n + 1) t.length))).armed (syncD (writeD (syncD D1) ((first + n % 2 : Nat) : Int) (slotB (n + 1) t.length))).down
          rw [← hS3, ← x2] at h9
          exact h9
        · right
          refine ⟨_, by rw [x1], x3, fun h0 => x4 (w3 (sync_armed _ (g3 h0))), by rw [x2, hS3, hsl], fun ks => ?_⟩
          have h9 := wdown_slot h ht hn ks (syncD (writeD (syncD D1) ((first + n % 2 : Nat) : Int) (slotB (n + 1) t.length))).armed (syncD (writeD (syncD D1) ((first + n % 2 : Nat) : Int) (slotB (n + 1) t.length))).down
          rw [← hS3, ← x2] at h9
          exact h9
      · right
        rw [if_neg (by rw [w4]; decide)]
        refine ⟨_, by rw [w4], w5, fun h0 => w6 (sync_armed _ (g3 h0)), by rw [hS3, hsl], fun ks => ?_⟩
        have h9 := wdown_slot h ht hn ks (writeD (syncD D1) ((first + n % 2 : Nat) : Int) (slotB (n + 1) t.length)).armed (writeD (syncD D1) ((first + n % 2 : Nat) : Int) (slotB (n + 1) t.length)).down
        rw [← hS3] at h9
        exact h9
    · right
      rw [if_neg (by rw [s1]; decide)]
      refine ⟨_, by rw [s1], s3, fun h0 => s4 (g3 h0), by rw [s2, hS1, hfl], fun ks => .inl ?_⟩
      have h9 := wdown_field h ht (chunks t).length ks (syncD D1).armed (syncD D1).down
      rw [← hS1, ← s2] at h9
      exact h9
  · right
    rw [if_neg (by decide)]
    refine ⟨D1, rfl, hd1, ha, by rw [g1]; exact hfl j, fun ks => .inl ?_⟩
    have h9 := wdown_field h ht j ks D1.armed D1.down
    have e9 : fieldS D first size n t j = D1.S := g1.symm
    rw [e9] at h9
    exact h9
theorem CInv.weak (h : CInv D first size n t) : WInv D first size n t := by
  refine ⟨h.ok, h.room, h.sz, h.safe, h.cnt, h.long, ?_, fun h0 => (h.zero h0).2, h.cur, h.txt⟩
  by_cases h0 : n = 0
  · have h1 := (h.zero h0).1
    subst h0
    rw [show first + 0 % 2 = first from rfl, h1]
    exact ⟨zer_len, .inl rfl⟩
  · rcases h.oth (by omega) with ⟨e, e2⟩ | ⟨e, ml, -, e3⟩
    · rw [e2]
      subst e
      exact ⟨zer_len, .inl rfl⟩
    · rw [e3]
      exact ⟨slotB_len _ _, .inl (slot_last _ _)⟩
end
end Go.Proofs.YtnhnjdldgaaeoaaGreatDoor

/-
  An allocator, its cell and its disk as plain data: what is kept behind any call and any crash. No program plays a part.
-/
namespace Go.Proofs.YtnhnjdldgaaeoaaGreatDoor
open Go
set_option maxRecDepth 100000

theorem numW_len (n : Nat) (h : n ≤ 9223372036854775807) : (numW n).length ≤ 22 := by
  have h9 := Lay.itoa_len (n : Int) (by omega) (by omega)
  unfold numW
  rw [List.length_append, List.length_singleton]
  omega
/-- The cell has k: nothing for 0, else its bytes. -/
def Has (n : Nat) (t : List UInt8) (k : Nat) : Prop := (n = 0 ∧ k = 0) ∨ (1 ≤ n ∧ t = numW k)
theorem has_kept {n : Nat} {t : List UInt8} {k : Nat} (h : Has n t k) (hk : k ≤ 1099511627776) : keptE (loadR n t) = 0 ∧ keptN (loadR n t) = k := by
  unfold loadR
  rcases h with ⟨h1, h2⟩ | ⟨h1, h2⟩
  · subst h1 h2
    exact ⟨rfl, rfl⟩
  · subst h2
    have hr := numW_read k (by omega)
    rw [if_neg (by omega)]
    unfold keptE keptN
    simp only [hr]
    refine ⟨?_, ?_⟩
    · rw [if_neg (by decide), if_neg (by decide), if_pos ⟨trivial, trivial, by omega, by omega⟩]
    · rw [if_neg (by decide)]
      omega
/-- A cell at sector 0 that has k, behind at most j saves. -/
def Good (D : Dk) (k j : Nat) : Prop := ∃ n t, n ≤ j ∧ WInv D 0 1 n t ∧ Has n t k
theorem Good.more {D : Dk} {k j : Nat} (h : Good D k j) : Good D k (j + 1) := by
  obtain ⟨n, t, h1, h2, h3⟩ := h
  exact ⟨n, t, by omega, h2, h3⟩
theorem Good.kept {D : Dk} {k j : Nat} (h : Good D k j) (hd : D.down = false) (hk : k ≤ 1099511627776) : keptE (loadP D 0 1) = 0 ∧ keptN (loadP D 0 1) = k := by
  obtain ⟨n, t, -, h2, h3⟩ := h
  rw [h2.load hd]
  exact has_kept h3 hk
theorem Good.new : Good (newD 6) 0 0 := ⟨0, [], Nat.le_refl _, (CInv.new 6 0 1 (by omega) (by omega)).weak, .inl ⟨rfl, rfl⟩⟩
structure OSt (D : Dk) (al : Al) (far j : Nat) : Prop where
  le : al.next ≤ al.lim
  fr : al.lim ≤ far
  mx : al.lim ≤ 1099511627776
  st : (D.down = false ∧ Good D al.lim j) ∨ (D.down = true ∧ ∀ ks, ∃ k, al.lim ≤ k ∧ k ≤ far ∧ k ≤ 1099511627776 ∧ Good (crashD D ks) k j)
theorem OSt.more {D : Dk} {al : Al} {far j : Nat} (h : OSt D al far j) (f2 : Nat) (hf : far ≤ f2) : OSt D al f2 (j + 1) := by
  refine ⟨h.le, Nat.le_trans h.fr hf, h.mx, ?_⟩
  rcases h.st with ⟨h1, h2⟩ | ⟨h1, h2⟩
  · exact .inl ⟨h1, h2.more⟩
  · refine .inr ⟨h1, fun ks => ?_⟩
    obtain ⟨k, g1, g2, g3, g4⟩ := h2 ks
    exact ⟨k, g1, by omega, g3, g4.more⟩
theorem save_down {D : Dk} {first size : Nat} {t : List UInt8} (hd : D.down = true) (ht : t.length ≤ 64 * size) : saveP D first size t = (12, D) := by
  unfold saveP
  rw [if_neg (by omega), hd]
  rfl
/-- Some keeps it. -/
theorem OSt.some {D : Dk} {al : Al} {far j : Nat} (h : OSt D al far j) (hj : j < 1000) (n : Int) (h1 : 1 ≤ n) (h2 : n ≤ 256) :
    OSt (someP D 0 1 al n).2.1 (someP D 0 1 al n).2.2 (max far (al.next + n.toNat + 16)) (j + 1) ∧ ((someP D 0 1 al n).1 = 0 → (someP D 0 1 al n).2.2.next = al.next + n.toNat) := by
  have hm : far ≤ max far (al.next + n.toNat + 16) := Nat.le_max_left _ _
  have hm2 : al.next + n.toNat + 16 ≤ max far (al.next + n.toNat + 16) := Nat.le_max_right _ _
  have h0 := h.more _ hm
  generalize max far (al.next + n.toNat + 16) = f2 at *
  have hle := h.le
  have hfr := h.fr
  have hmx := h.mx
  unfold someP
  rw [if_neg (by omega)]
  by_cases hr : 1099511627761 < al.next + n.toNat
  · rw [if_pos hr]
    exact ⟨h0, fun e => absurd e (by simp)⟩
  · rw [if_neg hr]
    by_cases hl : al.next + n.toNat ≤ al.lim
    · rw [if_pos hl]
      refine ⟨⟨hl, h0.fr, h0.mx, h0.st⟩, fun _ => rfl⟩
    · rw [if_neg hl]
      obtain ⟨g1, g2⟩ := limN_ge al.next n.toNat al.lim
      have g3 : limN al.next n.toNat al.lim ≤ al.next + n.toNat + 15 := by
        unfold limN
        rw [if_neg hl]
        omega
      generalize limN al.next n.toNat al.lim = L at *
      have hw := numW_len L (by omega)
      rcases h.st with ⟨hd, m, t, k1, k2, k3⟩ | ⟨hd, hk⟩
      · rcases wsave k2 hd (t := numW L) (by omega) (by omega) with ⟨D2, s1, s2, s3, s4, s5⟩ | ⟨D', s1, s2, s3, s4, s5⟩
        · rw [s1, if_pos rfl]
          exact ⟨⟨g1, by show L ≤ f2; omega, by show L ≤ _; omega, .inl ⟨s3, m + 1, numW L, by omega, s2, .inr ⟨by omega, rfl⟩⟩⟩, fun _ => rfl⟩
        · rw [s1, if_neg (by simp)]
          refine ⟨⟨hle, h0.fr, hmx, .inr ⟨s2, fun ks => ?_⟩⟩, fun e => absurd e (by simp)⟩
          rcases s5 ks with q | q
          · exact ⟨al.lim, Nat.le_refl _, h0.fr, hmx, m, t, by omega, q, k3⟩
          · exact ⟨L, g2, by omega, by omega, m + 1, numW L, by omega, q, .inr ⟨by omega, rfl⟩⟩
      · rw [save_down hd (by omega), if_neg (by simp)]
        exact ⟨h0, fun e => absurd e (by simp)⟩
/-- A crash, and Open, keep it. -/
theorem OSt.crash {D : Dk} {al : Al} {far j : Nat} (h : OSt D al far j) (ks : List Int) :
    ∃ k, al.lim ≤ k ∧ k ≤ far ∧ k ≤ 1099511627776 ∧ keptE (loadP (crashD D ks) 0 1) = 0 ∧ keptN (loadP (crashD D ks) 0 1) = k ∧ OSt (crashD D ks) ⟨k, k⟩ far j := by
  have hmx := h.mx
  rcases h.st with ⟨hd, m, t, k1, k2, k3⟩ | ⟨hd, hk⟩
  · have hg : Good (crashD D ks) al.lim j := ⟨m, t, k1, k2.crash ks, k3⟩
    obtain ⟨e1, e2⟩ := hg.kept rfl hmx
    exact ⟨al.lim, Nat.le_refl _, h.fr, hmx, e1, e2, Nat.le_refl _, h.fr, hmx, .inl ⟨rfl, hg⟩⟩
  · obtain ⟨k, g1, g2, g3, g4⟩ := hk ks
    obtain ⟨e1, e2⟩ := g4.kept rfl g3
    exact ⟨k, g1, g2, g3, e1, e2, Nat.le_refl _, g2, g3, .inl ⟨rfl, g4⟩⟩
/-- Arm keeps it. -/
theorem OSt.arm {D : Dk} {al : Al} {far j : Nat} (h : OSt D al far j) (i : Int) : OSt (armD D i) al far j := by
  refine ⟨h.le, h.fr, h.mx, ?_⟩
  rcases h.st with ⟨hd, m, t, k1, k2, k3⟩ | ⟨hd, hk⟩
  · left
    have e : (armD D i).S = D.S ∧ (armD D i).down = false := by
      unfold armD
      rw [hd]
      by_cases hn : i < 1
      · simp [hn, hd]
      · simp [hn]
    exact ⟨e.2, m, t, k1, k2.congr (by rw [e.1]; exact k2.ok) (by rw [e.1]) (fun i _ _ => by rw [e.1]), k3⟩
  · right
    have e : armD D i = D := by
      unfold armD
      rw [hd]
      rfl
    rw [e]
    exact ⟨hd, hk⟩
end Go.Proofs.YtnhnjdldgaaeoaaGreatDoor

/-
  What reserve does.
-/
namespace Go.Proofs.YtnhnjdldgaaeoaaGreatDoor
open Go Go.RowKit
set_option maxRecDepth 100000

/-- What reserve does: the error, the disk, up to which numbers are reserved. -/
def resP (D : Dk) (first size : Nat) (al : Al) (n : Nat) : Int × Dk × Nat :=
  if al.next + n ≤ al.lim then (0, D, al.lim) else
  if (saveP D first size (numW (limN al.next n al.lim))).1 = 0 then (0, (saveP D first size (numW (limN al.next n al.lim))).2, limN al.next n al.lim)
  else ((saveP D first size (numW (limN al.next n al.lim))).1, (saveP D first size (numW (limN al.next n al.lim))).2, al.lim)
theorem some_is (D : Dk) (first size : Nat) (al : Al) (n : Int) : someP D first size al n = if n < 1 ∨ 256 < n then (2, D, al) else if 1099511627761 < al.next + n.toNat then (3, D, al) else
    if (resP D first size al n.toNat).1 = 0 then (0, (resP D first size al n.toNat).2.1, ⟨al.next + n.toNat, (resP D first size al n.toNat).2.2⟩) else ((resP D first size al n.toNat).1, (resP D first size al n.toNat).2.1, al) := by
  unfold someP resP
  split
  · rfl
  · split
    · rfl
    · split
      · rw [if_pos rfl]
      · split
        · rw [if_pos rfl]
        · rfl
theorem res_lim (D : Dk) (first size : Nat) (al : Al) (n : Nat) (h : (resP D first size al n).1 ≠ 0) : (resP D first size al n).2.2 = al.lim := by
  unfold resP at h ⊢
  split at h
  · exact absurd rfl h
  · split at h
    · exact absurd rfl h
    · rename_i h1 h2
      rw [if_neg h1, if_neg h2]
theorem res_le (D : Dk) (first size : Nat) (al : Al) (n : Nat) (hl : al.next ≤ al.lim) (hm : al.lim ≤ 1099511627776) (hn : al.next + n ≤ 1099511627761) : al.next ≤ (resP D first size al n).2.2 ∧ (resP D first size al n).2.2 ≤ 1099511627776 ∧ ((resP D first size al n).1 = 0 → al.next + n ≤ (resP D first size al n).2.2) := by
  have h9 := limN_ge al.next n al.lim
  have h8 : ¬ (al.next + n ≤ al.lim) → limN al.next n al.lim ≤ al.next + n + 15 := by
    intro h
    unfold limN
    rw [if_neg h]
    omega
  unfold resP
  split
  · exact ⟨hl, hm, fun _ => by assumption⟩
  · rename_i h
    have h7 := h8 h
    split
    · exact ⟨by show al.next ≤ limN _ _ _; omega, by show limN _ _ _ ≤ _; omega, fun _ => h9.1⟩
    · rename_i h2
      exact ⟨hl, hm, fun h3 => absurd h3 h2⟩

section
variable {w w' : World} {a d g first size : Nat} {al : Al} {x : Cx} {D : Dk}
theorem AllocAt.put (h : AllocAt w a x.c al) (L : Nat) (h1 : al.next ≤ L) (h2 : L ≤ 1099511627776) : AllocAt (w.setCell ⟨a, 2, none⟩ (.int .i64 L)) a x.c ⟨al.next, L⟩ :=
  ⟨by rw [heap_setCell_same _ _ 2 _ _ _ h.obj]; rfl, h1, h2⟩
theorem blocks_is (e l : Nat) (h : l < e) : ((e : Int) - (l : Int) + 16 - 1).tdiv 16 = (((e - l + 15) / 16 : Nat) : Int) := by
  rw [show (e : Int) - (l : Int) + 16 - 1 = ((e - l + 15 : Nat) : Int) by omega, Int.tdiv_eq_ediv_of_nonneg (by omega)]
  omega

set_option maxHeartbeats 4000000 in
theorem reserve_any (h : AllocAt w a x.c al) (hc : CellAt w x d first size) (hd : DiskAt w d g D) (hr : first + 2 + 2 * size ≤ D.S.length) (ht : Lay.Tabs w) (n : Nat) (hn : al.next + n ≤ 1099511627761) :
    Calls Tryz.prog 43 #[.pointer (some ⟨a, 0, none⟩), .int .i64 ((al.next + n : Nat) : Int)] w fun e w' =>
      e = .returned (.int .i64 (resP D first size al n).1) ∧ DiskAt w' d g (resP D first size al n).2.1 ∧ AllocAt w' a x.c ⟨al.next, (resP D first size al n).2.2⟩ ∧ Kp [d, g, a] w w' := by
  have c2 := h.c2
  have H := hid h
  have HD := hid hd
  have hle := h.le
  have hmx := h.mx
  unfold resP
  by_cases h1 : al.next + n ≤ al.lim
  · rw [if_pos h1]
    have b1 : decide (((al.next + n : Nat) : Int) ≤ (al.lim : Int)) = true := decide_eq_true (by omega)
    clear h hc hd ht
    obtain ⟨nx, lm⟩ := al
    simp only at *
    generalize nx + n = en at *
    go_enter Tryz.func43, Tryz.ntmps43
    go_wp2
    go_ret
    exact ⟨rfl, HD.out, H.out, Kp.refl _ _⟩
  · rw [if_neg h1]
    have b1 : decide (((al.next + n : Nat) : Int) ≤ (al.lim : Int)) = false := decide_eq_false (by omega)
    have hL : limN al.next n al.lim = al.lim + 16 * ((al.next + n - al.lim + 15) / 16) := by unfold limN; rw [if_neg h1]
    have HLb : Hid (al.lim ≤ limN al.next n al.lim ∧ limN al.next n al.lim ≤ 1099511627776) := show _ ∧ _ by rw [hL]; omega
    have hbk := blocks_is (al.next + n) al.lim (by omega)
    have HSv : Hid (∀ W, Below w.heap.size w W → ∀ t : List UInt8, Calls Tryz.prog 15 #[.pointer (some ⟨x.c, 0, none⟩), .string ⟨t.toArray⟩] W fun e w' =>
        e = .returned (.int .i64 (saveP D first size t).1) ∧ DiskAt w' d g (saveP D first size t).2 ∧ Kp [d, g] W w') := fun W hb t => save_any (hc.stays hb) (hd.kept (X := []) (Kp.of hb) (by simp) (by simp)) (by omega) t
    have HQ : Hid (∀ W, Kp [d, g] w W → W.cell? ⟨a, 0, none⟩ = some (.func (.func 15) #[.pointer (some ⟨x.c, 0, none⟩)] #[])) := fun W hk => (h.next hd hk).c0
    have HAl : Hid (∀ W, Kp [d, g] w W → AllocAt W a x.c al) := fun W hk => h.next hd hk
    have HNu : Hid (∀ W, Below w.heap.size w W → ∀ v : Int, v = ((limN al.next n al.lim : Nat) : Int) → Calls Tryz.prog 61 #[.int .i64 v] W fun e w' => e = .returned (.string ⟨(numW (limN al.next n al.lim)).toArray⟩) ∧ Below W.heap.size W w') := by
      intro W hb v hv
      subst hv
      exact Lay.number_any _ (by omega) (by omega) W (ht.stays hb)
    generalize limN al.next n al.lim = L at *
    clear h hc hd ht H
    obtain ⟨nx, lm⟩ := al
    simp only at *
    have hbb : (nx + n - lm + 15) / 16 ≤ 68719476736 := by omega
    generalize (nx + n - lm + 15) / 16 = bk at *
    have h2 : ¬ (nx + n ≤ lm) := h1
    have HLl : Hid ((lm : Int) + (bk : Int) * 16 = (L : Int)) := show _ = _ by omega
    clear hL
    generalize hR : saveP D first size (numW L) = R
    have HR := hid hR
    clear hR
    obtain ⟨eS, DS⟩ := R
    simp only
    obtain ⟨RR, hRR⟩ : ∃ RR, RR = (if eS = 0 then ((0 : Int), DS, L) else (eS, DS, lm)) := ⟨_, rfl⟩
    rw [← hRR]
    have HRR := hid hRR
    clear hRR
    generalize nx + n = en at *
    go_enter Tryz.func43, Tryz.ntmps43
    go_wp2_with fail
    go_region_held3 (fun W => W.cell? ⟨a, 0, none⟩ = some (.func (.func 15) #[.pointer (some ⟨x.c, 0, none⟩)] #[]))
      (with_reducible first | exact HQ.out _ HK4 | exact HQ.out _ (Kp.of HB3) | exact HQ.out _ (Kp.refl _ _).drew | exact HQ.out _ (Kp.refl _ _))
      (first | (go_at_call 61; refine (HNu.out _ (Below.refl _ _).drew _ HLl.out).mono ?_; rintro e W3 ⟨rfl, hb3⟩; have HB3 : Below w.heap.size w W3 := (Below.refl _ _).drew.trans hb3; clear hb3) | (go_at_call 15; refine (HSv.out _ HB3 _).mono ?_; rw [HR.out]; rintro e W4 ⟨rfl, h4, k4⟩; have HD4 := hid h4; have HK4 : Kp [d, g] w W4 := (Kp.of HB3).trans k4; clear h4 k4))
    have HA4 := hid (HAl.out _ HK4)
    have HKq := hid HK4
    clear HK4 HB3 HQ HSv HNu HAl HR
    by_cases hE : eS = 0
    · subst hE
      rw [if_pos rfl] at HRR
      have c4 := HA4.out.c2
      have f4 := HA4.out.fz 2
      go_wp2
      go_ret
      rw [HLl.out, HRR.out]
      exact ⟨rfl, HD4.out.kept (X := [a]) ((Kp.refl _ _).setCell _ _ (.inl (by simp))) (fun hm => (HA4.out.far HD4.out) (by simp at hm ⊢; simp [hm])) (fun hm => (HA4.out.far HD4.out) (by simp at hm ⊢; simp [hm])), HA4.out.put L (by have := HLb.out; show nx ≤ L; omega) HLb.out.2, (HKq.out.drop (by simp)).setCell _ _ (.inl (by simp))⟩
    · rw [if_neg hE] at HRR
      have b2 : (eS != 0) = true := by simpa using hE
      go_wp2
      go_ret
      rw [HRR.out]
      exact ⟨rfl, HD4.out, HA4.out, HKq.out.drop (by simp)⟩
end
end Go.Proofs.YtnhnjdldgaaeoaaGreatDoor

/-
  What Some and Take do.
-/
namespace Go.Proofs.YtnhnjdldgaaeoaaGreatDoor
open Go Go.RowKit
set_option maxRecDepth 100000

/-- Rising numbers as cells; only the first i are there yet. -/
def numC (s n i : Nat) : List Value := (List.range n).map fun k => .int .i64 (if k < i then ((s + k : Nat) : Int) else 0)
def numL (s n : Nat) : List Value := (List.range n).map fun k => .int .i64 ((s + k : Nat) : Int)
theorem numC_end (s n : Nat) : numC s n n = numL s n := by
  unfold numC numL
  apply List.map_congr_left
  intro k hk
  rw [if_pos (List.mem_range.1 hk)]
theorem numC_set (s n i : Nat) (_h : i < n) : (numC s n i).set i (.int .i64 ((s + i : Nat) : Int)) = numC s n (i + 1) := by
  apply List.ext_getElem?
  intro k
  unfold numC
  rw [List.getElem?_set, List.length_map, List.length_range]
  by_cases hk : i = k
  · subst hk
    rw [if_pos rfl, if_pos (by assumption), List.getElem?_map, List.getElem?_range (by assumption)]
    simp
  · rw [if_neg hk, List.getElem?_map, List.getElem?_map]
    by_cases hn : k < n
    · rw [List.getElem?_range hn]
      simp only [Option.map_some]
      by_cases hki : k < i
      · rw [if_pos hki, if_pos (by omega)]
      · rw [if_neg hki, if_neg (by omega)]
    · rw [List.getElem?_eq_none (by simp; omega)]
      rfl
theorem numC_len (s n i : Nat) : (numC s n i).length = n := by simp [numC]
theorem numL_len (s n : Nat) : (numL s n).length = n := by simp [numL]
theorem numC_zero (s n : Nat) : madeCells ((Value.int .i64 0).cells) (n * 1) = (numC s n 0).toArray := by
  apply Array.ext_getElem?
  intro k
  by_cases hk : k < n
  · have e : (numC s n 0).toArray[k]? = some (.int .i64 0) := by
      simp [numC, hk]
    rw [e]
    simp [madeCells, hk, Value.cells, Nat.mod_one]
  · rw [Array.getElem?_eq_none (by simp [madeCells]; omega), Array.getElem?_eq_none (by simp [numC]; omega)]
theorem numL_at (s n k : Nat) (h : k < n) : (numL s n)[k]? = some (.int .i64 ((s + k : Nat) : Int)) := by simp [numL, h]
/-- A row of n rising numbers from s on. -/
def NumsAt (w : World) (b s n : Nat) : Prop := w.heap[b]? = some (.cells (numL s n).toArray 3)
theorem NumsAt.cell {w : World} {b s n : Nat} (h : NumsAt w b s n) (k : Nat) (hk : k < n) : w.cell? ⟨b, k, none⟩ = some (.int .i64 ((s + k : Nat) : Int)) := by
  rw [cell_of_row _ _ _ _ _ _ h, List.getElem?_toArray, numL_at s n k hk]
theorem NumsAt.kept {w w' : World} {b s n : Nat} (h : NumsAt w b s n) {X : List Nat} (hk : Kp X w w') (hb : b ∉ X) : NumsAt w' b s n := hk.row h hb
theorem infoInt : (Tryz.prog.info? 3).map (fun i => (i.zero, i.size, i.bytes)) = some (some (.int .i64 0), 1, 8) := by kernel_rfl

section
variable {w w' : World} {a d g first size : Nat} {al : Al} {x : Cx} {D : Dk}
theorem numbers_any (w : World) (s : Nat) : Calls Tryz.prog 44 #[.int .i64 s] w fun e w' => ∃ p, e = .returned (.func (.func 62) #[] #[.pointer (some ⟨p, 0, none⟩)]) ∧ w'.heap[p]? = some (.cells #[.int .i64 s] 3) ∧ Below w.heap.size w w' ∧ w.heap.size ≤ p := by
  go_enter Tryz.func44, Tryz.ntmps44
  go_wp2
  go_ret
  exact ⟨_, rfl, top_row _ _, below_a1 _ _, Nat.le_refl _⟩
theorem number_at (p s i : Nat) (hs : s ≤ 1099511627776) (hi : i ≤ 256) (hc : w.cell? ⟨p, 0, none⟩ = some (.int .i64 s)) : Calls Tryz.prog 62 #[.int .i64 i, .pointer (some ⟨p, 0, none⟩)] w fun e w' => e = .returned (.int .i64 ((s + i : Nat) : Int)) ∧ w' = w := by
  go_enter Tryz.func62, Tryz.ntmps62
  go_wp2
  go_ret
  exact ⟨by simp, rfl⟩

theorem AllocAt.took (h : AllocAt w a x.c al) (L : Nat) (h1 : L ≤ al.lim) : AllocAt (w.setCell ⟨a, 1, none⟩ (.int .i64 L)) a x.c ⟨L, al.lim⟩ :=
  ⟨by rw [heap_setCell_same _ _ 1 _ _ _ h.obj]; rfl, h1, h.mx⟩

set_option maxHeartbeats 4000000 in
theorem some_bad (h : AllocAt w a x.c al) (hc : CellAt w x d first size) (hd : DiskAt w d g D) (hr : first + 2 + 2 * size ≤ D.S.length) (ht : Lay.Tabs w) (n : Int) (hE : (someP D first size al n).1 ≠ 0) :
    Calls Tryz.prog 19 #[.pointer (some ⟨a, 0, none⟩), .int .i64 n] w fun e w' =>
      e = .returned (.tuple #[.slice none 0 0, .int .i64 (someP D first size al n).1]) ∧ DiskAt w' d g (someP D first size al n).2.1 ∧ AllocAt w' a x.c (someP D first size al n).2.2 ∧ Kp [d, g, a] w w' := by
  have H := hid h
  have HD := hid hd
  have c1 := h.c1
  have hle := h.le
  have hmx := h.mx
  rw [some_is] at hE ⊢
  by_cases h1 : n < 1
  · rw [if_pos (.inl h1)]
    have b1 : decide (n < 1) = true := decide_eq_true h1
    clear h hc hd ht hE
    go_enter Tryz.func19, Tryz.ntmps19
    go_wp2
    go_ret2
    exact ⟨rfl, HD.out, H.out, Kp.refl _ _⟩
  · have b1 : decide (n < 1) = false := decide_eq_false h1
    by_cases h2 : 256 < n
    · rw [if_pos (.inr h2)]
      have b2 : decide (256 < n) = true := decide_eq_true h2
      clear h hc hd ht hE
      go_enter Tryz.func19, Tryz.ntmps19
      go_wp2
      go_ret2
      exact ⟨rfl, HD.out, H.out, Kp.refl _ _⟩
    · have b2 : decide (256 < n) = false := decide_eq_false h2
      rw [if_neg (by omega)] at hE ⊢
      obtain ⟨k, rfl⟩ : ∃ k : Nat, n = k := ⟨n.toNat, by omega⟩
      simp only [Int.toNat_natCast] at hE ⊢
      by_cases h3 : 1099511627761 < al.next + k
      · rw [if_pos h3]
        have b3 : decide (1099511627760 < (al.next : Int) + (k : Int) - 1) = true := decide_eq_true (by omega)
        clear h hc hd ht hE
        go_enter Tryz.func19, Tryz.ntmps19
        go_wp2
        go_ret2
        exact ⟨rfl, HD.out, H.out, Kp.refl _ _⟩
      · rw [if_neg h3] at hE ⊢
        have b3 : decide (1099511627760 < (al.next : Int) + (k : Int) - 1) = false := decide_eq_false (by omega)
        have hE2 : (resP D first size al k).1 ≠ 0 := by
          intro e
          rw [if_pos e] at hE
          exact hE rfl
        have HLi := hid (res_lim D first size al k hE2)
        rw [if_neg hE2]
        have HRe := hid (reserve_any h hc hd hr ht k (by omega))
        rw [show ((al.next + k : Nat) : Int) = (al.next : Int) + (k : Int) by omega] at HRe
        have b4 : ((resP D first size al k).1 != 0) = true := by simpa using hE2
        clear h hc hd ht hE
        generalize resP D first size al k = R at *
        obtain ⟨eS, DS, lS⟩ := R
        simp only at HRe HLi b4 hE2 ⊢
        go_enter Tryz.func19, Tryz.ntmps19
        go_wp2_with fail
        refine HRe.out.mono ?_
        rintro e w1 ⟨rfl, h1, h2, h3⟩
        have HD1 := hid h1
        have HA1 := hid h2
        have HK1 := hid h3
        clear h1 h2 h3 HRe
        go_wp2
        go_ret2
        refine ⟨rfl, HD1.out, ?_, HK1.out⟩
        have h9 := HA1.out
        rw [HLi.out] at h9
        exact h9

set_option maxHeartbeats 4000000 in
theorem some_ok (h : AllocAt w a x.c al) (hc : CellAt w x d first size) (hd : DiskAt w d g D) (hr : first + 2 + 2 * size ≤ D.S.length) (ht : Lay.Tabs w) (n : Int) (hE : (someP D first size al n).1 = 0) :
    Calls Tryz.prog 19 #[.pointer (some ⟨a, 0, none⟩), .int .i64 n] w fun e w' => ∃ b k : Nat,
      n = k ∧ 1 ≤ k ∧ k ≤ 256 ∧ e = .returned (.tuple #[.slice (some ⟨b, 0, none⟩) k k, .int .i64 0]) ∧ NumsAt w' b al.next k ∧ w.heap.size ≤ b ∧ DiskAt w' d g (someP D first size al n).2.1 ∧ AllocAt w' a x.c (someP D first size al n).2.2 ∧ Kp [d, g, a] w w' ∧ (someP D first size al n).2.2.next = al.next + k ∧ al.next + k ≤ 1099511627761 := by
  have c1 := h.c1
  have hle := h.le
  have hmx := h.mx
  rw [some_is] at hE ⊢
  by_cases h1 : n < 1 ∨ 256 < n
  · rw [if_pos h1] at hE
    exact absurd hE (by simp)
  · rw [if_neg h1] at hE ⊢
    obtain ⟨k, rfl⟩ : ∃ k : Nat, n = k := ⟨n.toNat, by omega⟩
    simp only [Int.toNat_natCast] at hE ⊢
    have b1 : decide ((k : Int) < 1) = false := decide_eq_false (by omega)
    have b2 : decide (256 < (k : Int)) = false := decide_eq_false (by omega)
    by_cases h3 : 1099511627761 < al.next + k
    · rw [if_pos h3] at hE
      exact absurd hE (by simp)
    · rw [if_neg h3] at hE ⊢
      have b3 : decide (1099511627760 < (al.next : Int) + (k : Int) - 1) = false := decide_eq_false (by omega)
      have hE2 : (resP D first size al k).1 = 0 := by
        by_cases e : (resP D first size al k).1 = 0
        · exact e
        · rw [if_neg e] at hE
          exact absurd hE e
      rw [if_pos hE2]
      have HRe := hid (reserve_any h hc hd hr ht k (by omega))
      rw [show ((al.next + k : Nat) : Int) = (al.next : Int) + (k : Int) by omega] at HRe
      obtain ⟨l1, l2, l3⟩ := res_le D first size al k hle hmx (by omega)
      have HLl := hid (l3 hE2)
      have HAw : Hid (a < w.heap.size) := row_lt h.obj
      have HDw : Hid (d < w.heap.size ∧ g < w.heap.size) := ⟨row_lt hd.obj, row_lt hd.row⟩
      have HF := hid (h.far hd)
      obtain ⟨ii, hii, hz0, hz1, hz2⟩ := info_parts infoInt
      have HMk : Hid (∀ W : World, _) := fun W => run_make (P := Tryz.prog) W 43 3 ii _ Tryz.underlying43 hii hz0 .i64 .i64 (k : Int) (k : Int) (by omega) (by omega) (by rw [hz2]; omega) (by omega)
      rw [hz1] at HMk
      simp only [Int.toNat_natCast] at HMk
      rw [numC_zero al.next k] at HMk
      clear h hc hd ht hE l1 l2 l3 hz0 hz1 hz2 hii
      generalize resP D first size al k = R at *
      obtain ⟨eS, DS, lS⟩ := R
      simp only at HRe HLl hE2 ⊢
      subst hE2
      obtain ⟨nx, lm⟩ := al
      simp only at *
      go_enter Tryz.func19, Tryz.ntmps19
      go_wp2_with fail
      refine HRe.out.mono ?_
      rintro e w1 ⟨rfl, h1, h2, h3⟩
      have HD1 := hid h1
      have HA1 := hid h2
      have HK1 := hid h3
      have c1 := h2.c1
      clear h1 h2 h3 HRe
      go_wp2_with fail
      refine (numbers_any _ nx).mono ?_
      rintro e w2 ⟨p, rfl, hp, hb2, hpg⟩
      have HB2 := hid hb2
      have HP := hid hp
      have hmk := HMk.out w2
      clear hb2 hp HMk
      generalize hW3 : w2.alloc (.cells (numC nx k 0).toArray 3) = W3
      have hT3 : W3.heap[w2.heap.size]? = some (.cells (numC nx k 0).toArray 3) := by rw [← hW3]; exact top_row _ _
      have HB3 : Hid (Below w2.heap.size w2 W3) := by rw [← hW3]; exact below_a1 _ _
      have HT3 := hid hT3
      have HP3 : Hid (W3.heap[p]? = some (.cells #[.int .i64 nx] 3)) := row_kept HP.out HB3.out
      have HPn : Hid (p ≠ w2.heap.size) := by have := row_lt HP.out; show p ≠ _; omega
      go_wp2
      clear hmk hT3
      clear hW3
      have hbg : w1.heap.size ≤ w2.heap.size := HB2.out.size
      have hwg : w.heap.size ≤ w1.heap.size := HK1.out.size
      generalize w2.heap.size = b at *
      go_loopw [46] (fun i w' => ∃ j : Nat, j ≤ k ∧ i = .int .i64 j ∧ Hid (w'.heap[b]? = some (.cells (numC nx k j).toArray 3)) ∧ Hid (Kp [b] W3 w')) (fun i _ => k - (intOf i).toNat)
      case atStart => exact ⟨0, Nat.zero_le _, rfl, HT3, Kp.refl _ _⟩
      case round =>
        obtain ⟨j, hj, rfl, HI, HK⟩ := hrel
        by_cases hlt : j < k
        · have e1 : decide ((j : Int) < (k : Int)) = true := by simpa using hlt
          have e2 : decide (j < k) = true := by simpa using hlt
          have HNm := hid (number_at (w := wr) p nx j (by omega) (by omega) (by rw [cell_of_row _ _ _ _ _ _ (HK.out.row HP3.out (by simpa using HPn.out))]; rfl))
          have q1 : wr.cell? ⟨b, j, none⟩ = some (.int .i64 0) := by
            rw [cell_of_row _ _ _ _ _ _ HI.out, List.getElem?_toArray]
            simp [numC, hlt]
          have q2 : wr.frozen? ⟨b, j, none⟩ = false := by simp [World.frozen?, HI.out]
          go_wp2_with fail
          refine HNm.out.mono ?_
          rintro e w4 ⟨rfl, hw⟩
          subst w4
          go_wp2
          go_roundw
          case rel =>
            refine ⟨j + 1, by omega, by go_num, ?_, HK.out.setCell _ _ (.inl (by simp))⟩
            show _ = _
            rw [heap_setCell_same _ _ j _ _ _ HI.out]
            simp only [List.setIfInBounds_toArray]
            rw [← numC_set nx k j hlt]
            simp
          case measure => simp [intOf]; omega
        · obtain rfl : j = k := by omega
          have e1 : decide ((j : Int) < (j : Int)) = false := by simp
          have HK13 : Hid (Kp [b] w1 wr) := (Kp.of (HB2.out.trans (HB3.out.mono hbg))).trans HK.out
          have hab : a ≠ b := by have := HAw.out; omega
          have HA4 : Hid (AllocAt wr a x.c ⟨nx, lS⟩) := HA1.out.kept HK13.out (by simpa using hab)
          have HD4 : Hid (DiskAt wr d g DS) := HD1.out.kept HK13.out (by have := HDw.out.1; simp; omega) (by have := HDw.out.2; simp; omega)
          have c4 := HA4.out.c1
          have f4 := HA4.out.fz 1
          have HKw : Hid (Kp [d, g, a] w wr) := HK1.out.trans (HK13.out.drop (fun y hy => .inr (by simp at hy; omega)))
          go_wp2
          go_ret2
          have ee : ((nx : Int) + (j : Int)) = ((nx + j : Nat) : Int) := by omega
          rw [ee]
          have hk9 : Kp [a] wr (wr.setCell ⟨a, 1, none⟩ (.int .i64 ((nx + j : Nat) : Int))) := (Kp.refl _ _).setCell _ _ (.inl (by simp))
          refine ⟨b, j, rfl, by omega, by omega, rfl, ?_, by omega, HD4.out.kept hk9 (fun hm => HF.out (by simp at hm ⊢; simp [hm])) (fun hm => HF.out (by simp at hm ⊢; simp [hm])), HA4.out.took _ HLl.out, HKw.out.setCell _ _ (.inl (by simp)), rfl, by omega⟩
          have h9 := HI.out
          rw [numC_end] at h9
          exact (show NumsAt wr b nx j from h9).kept hk9 (by simpa using Ne.symm hab)
theorem some_nil (w : World) (n : Int) : Calls Tryz.prog 19 #[.pointer none, .int .i64 n] w fun e w' => e = .returned (.tuple #[.slice none 0 0, .int .i64 1]) ∧ w' = w := by
  go_enter Tryz.func19, Tryz.ntmps19
  go_wp2
  go_ret2
  exact ⟨rfl, rfl⟩
theorem take_nil (w : World) : Calls Tryz.prog 17 #[.pointer none] w fun e w' => e = .returned (.tuple #[.int .i64 0, .int .i64 1]) ∧ w' = w := by
  go_enter Tryz.func17, Tryz.ntmps17
  go_wp2_with fail
  refine (some_nil _ 1).mono ?_
  rintro e W ⟨rfl, hW⟩
  subst W
  go_wp2
  go_ret2
  exact ⟨rfl, rfl⟩
set_option maxHeartbeats 2000000 in
theorem take_bad (h : AllocAt w a x.c al) (hc : CellAt w x d first size) (hd : DiskAt w d g D) (hr : first + 2 + 2 * size ≤ D.S.length) (ht : Lay.Tabs w) (hE : (someP D first size al 1).1 ≠ 0) :
    Calls Tryz.prog 17 #[.pointer (some ⟨a, 0, none⟩)] w fun e w' =>
      e = .returned (.tuple #[.int .i64 0, .int .i64 (someP D first size al 1).1]) ∧ DiskAt w' d g (someP D first size al 1).2.1 ∧ AllocAt w' a x.c (someP D first size al 1).2.2 ∧ Kp [d, g, a] w w' := by
  have HS := hid (some_bad h hc hd hr ht 1 hE)
  have b1 : ((someP D first size al 1).1 != 0) = true := by simpa using hE
  clear h hc hd ht
  generalize someP D first size al 1 = S at *
  obtain ⟨eS, DS, aS⟩ := S
  simp only at HS b1 hE ⊢
  go_enter Tryz.func17, Tryz.ntmps17
  go_wp2_with fail
  refine HS.out.mono ?_
  rintro e w1 ⟨rfl, h1, h2, h3⟩
  have HD1 := hid h1
  have HA1 := hid h2
  have HK1 := hid h3
  clear h1 h2 h3 HS
  go_wp2
  go_ret2
  exact ⟨rfl, HD1.out, HA1.out, HK1.out⟩
set_option maxHeartbeats 2000000 in
theorem take_ok (h : AllocAt w a x.c al) (hc : CellAt w x d first size) (hd : DiskAt w d g D) (hr : first + 2 + 2 * size ≤ D.S.length) (ht : Lay.Tabs w) (hE : (someP D first size al 1).1 = 0) :
    Calls Tryz.prog 17 #[.pointer (some ⟨a, 0, none⟩)] w fun e w' =>
      e = .returned (.tuple #[.int .i64 al.next, .int .i64 0]) ∧ DiskAt w' d g (someP D first size al 1).2.1 ∧ AllocAt w' a x.c (someP D first size al 1).2.2 ∧ Kp [d, g, a] w w' ∧ (someP D first size al 1).2.2.next = al.next + 1 := by
  have HS := hid (some_ok h hc hd hr ht 1 hE)
  clear h hc hd ht hE
  generalize someP D first size al 1 = S at *
  obtain ⟨eS, DS, aS⟩ := S
  simp only at HS ⊢
  go_enter Tryz.func17, Tryz.ntmps17
  go_wp2_with fail
  refine HS.out.mono ?_
  rintro e w1 ⟨b, k, hk, h1, h2, rfl, h4, h5, h6, h7, h8, h9, h10⟩
  obtain rfl : k = 1 := by omega
  have HD1 := hid h6
  have HA1 := hid h7
  have HK1 := hid h8
  have HN1 := hid h9
  have q1 : w1.cell? ⟨b, 0, none⟩ = some (.int .i64 ((al.next : Nat) : Int)) := by have := h4.cell 0 (by omega); simpa using this
  clear h4 h5 h6 h7 h8 h9 h10 h1 h2 hk HS
  go_wp2
  go_ret2
  exact ⟨rfl, HD1.out, HA1.out, HK1.out, HN1.out⟩
end
end Go.Proofs.YtnhnjdldgaaeoaaGreatDoor

/-
  A disk that nobody armed: what Some does there. What comes at any rate.
-/
namespace Go.Proofs.YtnhnjdldgaaeoaaGreatDoor
open Go Go.RowKit
set_option maxRecDepth 100000

theorem some_calm {D : Dk} {al : Al} {j : Nat} (hg : Good D al.lim j) (hd : D.down = false) (ha : D.armed = 0) (hj : j < 1000) (n : Int) (h1 : 1 ≤ n) (h2 : n ≤ 256) (hr : al.next + n.toNat ≤ 1099511627761) :
    ∃ D2, someP D 0 1 al n = (0, D2, ⟨al.next + n.toNat, limN al.next n.toNat al.lim⟩) ∧ D2.down = false ∧ D2.armed = 0 ∧ Good D2 (limN al.next n.toNat al.lim) (j + 1) ∧ D2.S.length = D.S.length := by
  unfold someP
  rw [if_neg (by omega), if_neg (by omega)]
  by_cases hl : al.next + n.toNat ≤ al.lim
  · have e : limN al.next n.toNat al.lim = al.lim := by unfold limN; rw [if_pos hl]
    rw [if_pos hl, e]
    exact ⟨D, rfl, hd, ha, hg.more, rfl⟩
  · rw [if_neg hl]
    have g3 : limN al.next n.toNat al.lim ≤ al.next + n.toNat + 15 := by
      unfold limN
      rw [if_neg hl]
      omega
    generalize limN al.next n.toNat al.lim = L at *
    have hw := numW_len L (by omega)
    obtain ⟨m, t, k1, k2, k3⟩ := hg
    rcases wsave k2 hd (t := numW L) (by omega) (by omega) with ⟨D2, s1, s2, s3, s4, s5⟩ | ⟨D', s1, s2, s3, s4, s5⟩
    · rw [s1, if_pos rfl]
      exact ⟨D2, rfl, s3, s4 ha, ⟨m + 1, numW L, by omega, s2, .inr ⟨by omega, rfl⟩⟩, s5⟩
    · exact absurd ha s3

set_option maxHeartbeats 4000000 in
theorem nawake_any (w : World) (ht : Lay.Tabs w) : Calls Tryz.prog 8 #[] w fun e w' => e = .returned (.bool true) ∧ Below w.heap.size w w' := by
  have HN := hid (new_ok w 6 (by omega) (by omega))
  have HTb := hid ht
  obtain ⟨hu1, hu2, hu3⟩ := newD_up 6
  have hg0 := Good.new
  obtain ⟨k1, k2⟩ := hg0.kept hu1 (by omega)
  obtain ⟨D1, s1, d1, a1, g1, l1⟩ := some_calm (al := ⟨0, 0⟩) hg0 hu1 hu2 (by omega) 1 (by omega) (by omega) (by decide)
  have e16 : limN 0 (1 : Int).toNat 0 = 16 := rfl
  simp only [e16] at s1 g1
  obtain ⟨k3, k4⟩ := g1.kept d1 (by omega)
  obtain ⟨D2, s2, d2, a2, g2, l2⟩ := some_calm (al := ⟨16, 16⟩) g1 d1 a1 (by omega) 1 (by omega) (by omega) (by decide)
  have HS1 := hid s1
  have HS2 := hid s2
  have HK1 := hid k1
  have HK2 := hid k2
  have HK3 := hid k3
  have HK4 := hid k4
  have hl1 : D1.S.length = 6 := l1.trans hu3
  generalize newD 6 = D0 at *
  clear hg0 g1 g2 a1 a2 d1 d2 hu2 s1 s2 k1 k2 k3 k4 ht l1 l2 e16
  go_enter Tryz.func8, Tryz.ntmps8
  go_wp2_with fail
  refine HN.out.mono ?_
  rintro e w1 ⟨d, g, rfl, hd1, hb1, hg1, hg2⟩
  have HB1 := hid hb1
  have HO := hid (open_ok hd1 0 1 (by omega) (by omega) (by omega) hu1)
  have HD1 := hid hd1
  have HG : Hid (w.heap.size ≤ d ∧ w.heap.size ≤ g) := ⟨hg1, hg2⟩
  clear hd1 hb1 hg1 hg2 HN
  go_wp2_with fail
  refine HO.out.mono ?_
  rintro e w2 ⟨x, rfl, hc2, hb2, -⟩
  have HB2 : Hid (Below w.heap.size w w2) := HB1.out.trans (hb2.mono HB1.out.size)
  have hd2 := HD1.out.kept (X := []) (Kp.of hb2) (by simp) (by simp)
  have HO2 := hid (nopen_ok hc2 hd2 (by omega) (HTb.out.stays HB2.out) HK1.out)
  rw [HK2.out] at HO2
  have HC2 := hid hc2
  have HD2 := hid hd2
  clear hc2 hb2 hd2 HO HB1 HD1
  go_wp2_with fail
  refine HO2.out.mono ?_
  rintro e w3 ⟨a, rfl, ha3, hb3, hag⟩
  have HB3 : Hid (Below w.heap.size w w3) := HB2.out.trans (hb3.mono HB2.out.size)
  have HC3 := hid (HC2.out.stays hb3)
  have hd3 := HD2.out.kept (X := []) (Kp.of hb3) (by simp) (by simp)
  have HT := hid (take_ok ha3 HC3.out hd3 (by omega) (HTb.out.stays HB3.out) (by rw [HS1.out]))
  rw [HS1.out] at HT
  simp only at HT
  have HGa : Hid (w.heap.size ≤ a) := Nat.le_trans HB2.out.size hag
  have HD3 := hid hd3
  have HAp := hid (ha3.cell HC3.out)
  have HDp := hid (HC3.out.part hd3)
  clear ha3 hd3 hb3 HO2 HB2 HC2 HD2 hag
  go_wp2_with fail
  refine HT.out.mono ?_
  rintro e w4 ⟨rfl, hd4, ha4, k4, -⟩
  have HG3 : Hid (∀ y ∈ [d, g, a], w.heap.size ≤ y) := by
    intro y hy
    simp only [List.mem_cons, List.not_mem_nil, or_false] at hy
    have h1 := HG.out
    have h2 := HGa.out
    omega
  have HB4 : Hid (Below w.heap.size w w4) := HB3.out.trans (k4.below HG3.out HB3.out.size)
  have HC4 : Hid (CellAt w4 x d 0 1) := by
    have h1 := HAp.out
    have h2 := HDp.out
    simp only [List.mem_cons, List.not_mem_nil, or_false] at h2
    exact HC3.out.kept k4 (by simp; omega) (by simp; omega) (by simp; omega) (by simp; omega)
  have HO4 := hid (nopen_ok HC4.out hd4 (by omega) (HTb.out.stays HB4.out) HK3.out)
  rw [HK4.out] at HO4
  have HD4 := hid hd4
  have HA4 := hid ha4
  clear hd4 ha4 k4 HT HB3 HC3 HD3 HAp HDp
  go_wp2_with fail
  refine HO4.out.mono ?_
  rintro e w5 ⟨b, rfl, hb5a, hb5, hbg⟩
  have HB5 : Hid (Below w.heap.size w w5) := HB4.out.trans (hb5.mono HB4.out.size)
  have HC5 := hid (HC4.out.stays hb5)
  have hd5 := HD4.out.kept (X := []) (Kp.of hb5) (by simp) (by simp)
  have HA5 := hid (HA4.out.stays hb5)
  have HT5 := hid (take_ok hb5a HC5.out hd5 (by omega) (HTb.out.stays HB5.out) (by rw [HS2.out]))
  rw [HS2.out] at HT5
  simp only at HT5
  have HGb : Hid (w.heap.size ≤ b) := Nat.le_trans HB4.out.size hbg
  have HFa : Hid (a ∉ [d, g, b]) := by
    have h1 := HA5.out.far hd5
    have h2 := row_lt HA4.out.obj
    simp only [List.mem_cons, List.not_mem_nil, or_false] at h1
    show a ∉ [d, g, b]
    simp only [List.mem_cons, List.not_mem_nil, or_false]
    omega
  clear hb5a hd5 hb5 hbg HO4 HB4 HC4 HD4 HA4
  go_wp2_with fail
  refine HT5.out.mono ?_
  rintro e w6 ⟨rfl, hd6, ha6, k6, -⟩
  have HB6 : Hid (Below w.heap.size w w6) := HB5.out.trans (k6.below (fun y hy => by simp only [List.mem_cons, List.not_mem_nil, or_false] at hy; have h1 := HG.out; have h2 := HGb.out; omega) HB5.out.size)
  have HA6 := hid (HA5.out.kept k6 HFa.out)
  have HLm := hid (limit_any HA6.out)
  have HNx := hid (anext_any HA6.out)
  clear hd6 ha6 k6 HT5 HB5 HA5 HC5
  go_wp2_with fail
  refine HLm.out.mono ?_
  rintro e W ⟨rfl, hW⟩
  subst W
  go_wp2_with fail
  refine HNx.out.mono ?_
  rintro e W ⟨rfl, hW⟩
  subst W
  go_wp2
  go_ret
  exact ⟨rfl, HB6.out⟩

end Go.Proofs.YtnhnjdldgaaeoaaGreatDoor

/-
  A list of acts in memory; what Some does, whatever it answers.
-/
namespace Go.Proofs.YtnhnjdldgaaeoaaGreatDoor
open Go Go.RowKit
set_option maxRecDepth 100000

/-- The list of acts at a has so many acts that can be read. -/
def ActsAt (W : World) (a : Option Addr) (len : Nat) : Prop := ∀ j, j < len → ∃ b off k i t v ks, a = some ⟨b, off, none⟩ ∧ (∀ c u, [Value.int .i64 k, .int .i64 i, .string ⟨(t : List UInt8).toArray⟩, v][c]? = some u → W.cell? ⟨b, off + j * 4 + c, none⟩ = some u) ∧ i < 9223372036854775808 ∧ IntsAt W v ks
theorem ActsAt.cells {w w' : World} {b off j : Nat} {k i : Int} {t : List UInt8} {v : Value} (hc : ∀ c u, [Value.int .i64 k, .int .i64 i, .string ⟨(t : List UInt8).toArray⟩, v][c]? = some u → w.cell? ⟨b, off + j * 4 + c, none⟩ = some u) (hb : Below w.heap.size w w') :
    w'.cell? ⟨b, off + j * 4, none⟩ = some (.int .i64 k) ∧ w'.cell? ⟨b, off + j * 4 + 1, none⟩ = some (.int .i64 i) ∧ w'.cell? ⟨b, off + j * 4 + 2, none⟩ = some (.string ⟨t.toArray⟩) ∧ w'.cell? ⟨b, off + j * 4 + 3, none⟩ = some v := by
  have key : ∀ c u, [Value.int .i64 k, .int .i64 i, .string ⟨(t : List UInt8).toArray⟩, v][c]? = some u → w'.cell? ⟨b, off + j * 4 + c, none⟩ = some u := by
    intro c u hu
    have h9 := hc c u hu
    have h8 := World.block_lt_of_cell? _ _ h9
    rw [← h9]
    simp only [World.cell?, hb.block b h8]
  exact ⟨key 0 _ rfl, key 1 _ rfl, key 2 _ rfl, key 3 _ rfl⟩
theorem ints_old {w : World} {v : Value} {ks : List Int} (h : IntsAt w v ks) (hne : ks ≠ []) (b : Nat) (hb : v.ownBlock = some b) : b < w.heap.size := by
  obtain ⟨ao, cap, rfl, -, e2⟩ := h
  obtain ⟨b', off', rfl, e3⟩ := e2 hne
  simp [Value.ownBlock] at hb
  subst hb
  cases ks with
  | nil => exact absurd rfl hne
  | cons q qs => exact World.block_lt_of_cell? _ _ (e3 0 q rfl)
section
variable {w w' : World} {a d g first size : Nat} {al : Al} {x : Cx} {D : Dk}
theorem some_whole (h : AllocAt w a x.c al) (hc : CellAt w x d first size) (hd : DiskAt w d g D) (hr : first + 2 + 2 * size ≤ D.S.length) (ht : Lay.Tabs w) (n : Int) :
    Calls Tryz.prog 19 #[.pointer (some ⟨a, 0, none⟩), .int .i64 n] w fun e w' => ∃ v,
      e = .returned (.tuple #[v, .int .i64 (someP D first size al n).1]) ∧ DiskAt w' d g (someP D first size al n).2.1 ∧ AllocAt w' a x.c (someP D first size al n).2.2 ∧ Kp [d, g, a] w w' := by
  by_cases hE : (someP D first size al n).1 = 0
  · refine (some_ok h hc hd hr ht n hE).mono ?_
    rintro e w1 ⟨b, k, h1, h2, h3, rfl, h4, h5, h6, h7, h8, -, -⟩
    exact ⟨_, by rw [hE], h6, h7, h8⟩
  · refine (some_bad h hc hd hr ht n hE).mono ?_
    rintro e w1 ⟨rfl, h6, h7, h8⟩
    exact ⟨_, rfl, h6, h7, h8⟩
/-- The cell stays where an allocator's block and the disk change. -/
theorem CellAt.over (hc : CellAt w x d first size) (hd : DiskAt w d g D) (h : AllocAt w a x.c al) (hk : Kp [d, g, a] w w') : CellAt w' x d first size := by
  have h1 := h.cell hc
  have h2 := hc.part hd
  simp only [List.mem_cons, List.not_mem_nil, or_false] at h2
  exact hc.kept hk (by simp only [List.mem_cons, List.not_mem_nil, or_false]; omega) (by simp only [List.mem_cons, List.not_mem_nil, or_false]; omega) (by simp only [List.mem_cons, List.not_mem_nil, or_false]; omega) (by simp only [List.mem_cons, List.not_mem_nil, or_false]; omega)
end
end Go.Proofs.YtnhnjdldgaaeoaaGreatDoor
