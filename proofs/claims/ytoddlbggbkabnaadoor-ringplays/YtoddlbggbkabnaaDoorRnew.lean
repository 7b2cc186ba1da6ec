/-
  What taggerOf and New make.
-/
import Derived.Test.YtoddlbggbkabnaaDoorRfun
import Derived.Deep.RegionWith
namespace Go.Proofs.YtoddlbggbkabnaaDoor
open Go Go.RowKit
set_option maxRecDepth 100000

/-- The first j keys are laid. -/
structure KeysTo (w W : World) (s : List UInt8) (n j : Nat) : Prop where
  row : ∃ D : Array Value, D.size = n ∧ (∀ k : Nat, k < j → D[k]? = some (.string ⟨(keyB s k).toArray⟩)) ∧ W.heap[w.heap.size]? = some (.cells D 9)
  var : W.heap[w.heap.size + 1]? = some (.cells #[.slice (some ⟨w.heap.size, 0, none⟩) n n] 71)
  low : Below w.heap.size w W

theorem KeysTo.step {w W W1 : World} {s : List UInt8} {n j : Nat} (h : KeysTo w W s n j) (hj : j < n) (hb : Below W.heap.size W W1) : KeysTo w (W1.setCell ⟨w.heap.size, j, none⟩ (.string ⟨(keyB s j).toArray⟩)) s n (j + 1) := by
  obtain ⟨⟨D, hD, hk, hr⟩, hv, hl⟩ := h
  refine ⟨⟨D.setIfInBounds j (.string ⟨(keyB s j).toArray⟩), by rw [Array.size_setIfInBounds]; exact hD, fun k hk1 => ?_, heap_setCell_same _ _ _ _ _ _ (row_kept hr hb)⟩, ?_, below_setCell (hl.trans (hb.mono hl.size)) _ _ (Nat.le_refl _)⟩
  · by_cases e : k = j
    · subst e; rw [Array.getElem?_setIfInBounds_self_of_lt (by omega)]
    · rw [Array.getElem?_setIfInBounds_ne (Ne.symm e)]; exact hk k (by omega)
  · rw [Below.heap_setCell _ _ _ _ (by show _ ≠ w.heap.size; omega)]; exact row_kept hv hb
theorem KeysTo.drew {w W : World} {s : List UInt8} {n j : Nat} (h : KeysTo w W s n j) : KeysTo w W.drew s n j := ⟨h.row, h.var, h.low.drew⟩
theorem KeysTo.whole {w W : World} {s : List UInt8} {n : Nat} (h : KeysTo w W s n n) : W.heap[w.heap.size]? = some (.cells (keyRow s n).toArray 9) := by
  obtain ⟨⟨D, hD, hk, hr⟩, -, -⟩ := h
  rw [hr]
  congr 2
  apply Array.ext_getElem?
  intro i
  by_cases hi : i < n
  · rw [hk i hi, List.getElem?_toArray, keyRow_at s n i hi]
  · rw [Array.getElem?_eq_none (by omega), Array.getElem?_eq_none (by simp [keyRow]; omega)]

set_option maxHeartbeats 2000000 in
theorem taggerOf_any (s : List UInt8) (hs : s.length ≤ 64) (n : Nat) (hn : n ≤ 8) (w : World) (hK : Ktab w) (hT : Lay.Tabs w) :
    Calls Tryd.prog 25 #[.string ⟨s.toArray⟩, .int .i64 (n : Int)] w fun e w' => e = .returned (.func (.func 37) #[] #[.pointer (some ⟨w.heap.size + 1, 0, none⟩)]) ∧ KeysTo w w' s n n := by
  obtain ⟨i0, hi, hz0, hz1, hz2⟩ := info_parts infoStr
  have hmk : (Instr.makeSlice 71 (.int .i64 (n : Int)) (.int .i64 (n : Int))).run Tryd.prog w = .ok (.slice (some ⟨w.heap.size, 0, none⟩) n n) (w.alloc (.cells (madeCells (Value.string ⟨#[]⟩).cells (n * 1)) 9)) := by
    have h := run_makeSlice (P := Tryd.prog) w 71 9 i0 (.string ⟨#[]⟩) Tryd.underlying71 hi hz0 .i64 .i64 n n (by omega) (by omega) (by rw [hz1]; omega) (by rw [hz2]; omega) (by omega)
    rw [hz1] at h
    simpa using h
  have hms : (madeCells (Value.string ⟨#[]⟩).cells (n * 1)).size = n := by rw [size_madeCells]; omega
  generalize madeCells (Value.string ⟨#[]⟩).cells (n * 1) = Z at *
  have HM := hid (fun (j : Nat) (hj : j ≤ 8) W h1 h2 => make_ok s (by omega) [99, 108, 105, 101, 110, 116] (by decide) (j : Int) (by omega) (by omega) W h1 h2)
  have HKb : Hid (∀ V, Below w.heap.size w V → Ktab V) := fun V h => hK.stays h hK.pos
  have HTb : Hid (∀ V, Below w.heap.size w V → Lay.Tabs V) := fun V h => hT.stays h
  have H0 : Hid (KeysTo w ((w.alloc (.cells Z 9)).alloc (.cells #[.slice (some ⟨w.heap.size, 0, none⟩) n n] 71)) s n 0) :=
    ⟨⟨Z, hms, fun k hk => absurd hk (by omega), row_kept (top_row w _) (below_a1 _ _)⟩, by have := top_row (w.alloc (.cells Z 9)) (.cells #[.slice (some ⟨w.heap.size, 0, none⟩) n n] 71); simpa using this, below_more (below_a1 w _) _ (Nat.le_refl _)⟩
  clear hK hT hms
  go_enter Tryd.func25, Tryd.ntmps25
  go_wp2
  go_loopw [11] (fun i w' => ∃ j : Nat, j ≤ n ∧ i = .int .i64 j ∧ Hid (KeysTo w w' s n j)) (fun i _ => n - (intOf i).toNat)
  case atStart => exact ⟨0, by omega, rfl, H0⟩
  case round =>
    clear H0 hmk
    obtain ⟨j, hj, rfl, HJ⟩ := hrel
    by_cases hlt : j < n
    · have hv : wr.cell? ⟨w.heap.size + 1, 0, none⟩ = some (.slice (some ⟨w.heap.size, 0, none⟩) n n) := by rw [cell_of_row _ _ _ _ _ _ HJ.out.var]; rfl
      obtain ⟨u, hu, hf⟩ : ∃ u, wr.cell? ⟨w.heap.size, j, none⟩ = some u ∧ wr.frozen? ⟨w.heap.size, j, none⟩ = false := by
        obtain ⟨D, hD, hk, hr⟩ := HJ.out.row
        exact ⟨D[j]'(by omega), by rw [cell_of_row _ _ _ _ _ _ hr, Array.getElem?_eq_getElem (by omega)], frozen_of_row _ _ _ _ _ hr⟩
      have hl1 : w.heap.size + 1 < wr.heap.size := row_lt HJ.out.var
      have hl0 : w.heap.size < wr.heap.size := by omega
      have HMj := hid (HM.out j (by omega))
      have hj0 : (0 : Int) ≤ (j : Int) := Int.natCast_nonneg _
      have hj1 : (j : Int) < (n : Int) := by omega
      obtain ⟨ky, hky⟩ : ∃ ky, ky = makeB s [99, 108, 105, 101, 110, 116] (j : Int) := ⟨_, rfl⟩
      rw [← hky] at HMj
      have HKY : Hid (Unit → keyB s (j : Int) = ky) := fun _ => hky.symm
      have HKr := hid (HKb.out _ HJ.out.low)
      have HTr := hid (HTb.out _ HJ.out.low)
      have HSt : Hid (∀ W1, Below wr.heap.size wr W1 → KeysTo w (W1.setCell ⟨w.heap.size, j, none⟩ (.string ⟨ky.toArray⟩)) s n (j + 1)) := fun W1 hb => by
        have := HJ.out.step hlt hb
        rw [HKY.out ()] at this
        exact this
      have HC : Hid (∀ W1, Below wr.heap.size wr W1 → W1.cell? ⟨w.heap.size + 1, 0, none⟩ = some (.slice (some ⟨w.heap.size, 0, none⟩) n n) ∧ W1.cell? ⟨w.heap.size, j, none⟩ = some u ∧ W1.frozen? ⟨w.heap.size, j, none⟩ = false) := fun W1 hb =>
        ⟨(hb.cell (p := ⟨w.heap.size + 1, 0, none⟩) hl1).trans hv, (hb.cell (p := ⟨w.heap.size, j, none⟩) hl0).trans hu, (hb.frozen (p := ⟨w.heap.size, j, none⟩) hl0).trans hf⟩
      clear hky HM HJ
      go_upto_region 5 with fail
      go_region_with (go_at_call 24; refine (HMj.out _ (HKr.out.stays (Below.refl _ _).drew HKr.out.pos) (HTr.out.stays (Below.refl _ _).drew)).mono ?_; rintro e w1 ⟨rfl, hb⟩; have HB1 := hid ((Below.refl wr.heap.size wr).drew.trans hb); obtain ⟨hv1, hu1, hf1⟩ := HC.out _ HB1.out; clear hb)
      all_goals go_wp2
      all_goals exact ⟨⟨j + 1, by omega, by go_num, HSt.out _ HB1.out⟩, by simp [intOf]; omega⟩
    · obtain rfl : j = n := by omega
      go_wp2
      go_ret
      exact ⟨rfl, HJ.out⟩

/-- A new ring. -/
structure NewRing (w w' : World) (p h g b : Nat) (s : List UInt8) (n : Nat) : Prop where
  ring : RingAt w' p h g b s n []
  low : Below w.heap.size w w'
  far : w.heap.size ≤ b

set_option maxHeartbeats 2000000 in
theorem new_ok (s : List UInt8) (hs : s.length ≤ 64) (n : Nat) (h2 : 2 ≤ n) (h8 : n ≤ 8) (w : World) (hK : Ktab w) (hT : Lay.Tabs w) :
    Calls Tryd.prog 8 #[.string ⟨s.toArray⟩, .int .i64 (n : Int)] w fun e w' => ∃ p h g b, e = .returned (.tuple #[.pointer (some ⟨p, 0, none⟩), .int .i64 0]) ∧ NewRing w w' p h g b s n := by
  have hmm := @run_makeMap Tryd.prog
  have HM : Hid (∀ W, Ktab W → Lay.Tabs W → Calls Tryd.prog 24 #[.string ⟨s.toArray⟩, .string ⟨#[115, 101, 99, 114, 101, 116]⟩, .int .i64 0] W fun e w' => e = .returned (.string ⟨(secB s).toArray⟩) ∧ Below W.heap.size W w') := fun W a b => make_ok s (by omega) [115, 101, 99, 114, 101, 116] (by decide) 0 (by omega) (by omega) W a b
  have HTG := hid (fun W a b => taggerOf_any s hs n h8 W a b)
  have HKb : Hid (∀ V, Below w.heap.size w V → Ktab V) := fun V h => hK.stays h hK.pos
  have HTb : Hid (∀ V, Below w.heap.size w V → Lay.Tabs V) := fun V h => hT.stays h
  have hsz : (⟨s.toArray⟩ : ByteArray).size = s.length := rfl
  have d2 : decide ((n : Int) < 2) = false := by simp; omega
  have d8 : decide ((8 : Int) < (n : Int)) = false := by simp; omega
  have d64 : decide ((64 : Int) < (s.length : Int)) = false := by simp; omega
  obtain ⟨sc, hsc⟩ : ∃ sc, sc = secB s := ⟨_, rfl⟩
  rw [← hsc] at HM
  have HSC : Hid (Unit → secB s = sc) := fun _ => hsc.symm
  have HB0 : Hid (Below w.heap.size w w) := Below.refl _ _
  clear hK hT hsc
  go_enter Tryd.func8, Tryd.ntmps8
  go_wp2_with (first | (go_at_call 24; refine (HM.out _ (HKb.out _ HB0.out) (HTb.out _ HB0.out)).mono ?_))
  rintro e w1 ⟨rfl, hb1⟩
  have HB1 := hid hb1
  clear hb1 HM
  go_wp2_with (first | (go_at_call 25; refine (HTG.out _ (HKb.out _ HB1.out) (HTb.out _ HB1.out)).mono ?_))
  rintro e w2 ⟨rfl, hk2⟩
  have HK2 := hid hk2
  clear hk2 HTG
  go_wp2
  go_ret2
  have HB2 := HB1.out.trans (HK2.out.low.mono HB1.out.size)
  have ea : (w2.alloc (.map #[] 0)).heap.size = w2.heap.size + 1 := by simp
  refine ⟨w2.heap.size + 1, w1.heap.size + 1, w1.heap.size, w2.heap.size, rfl, ⟨?_, row_kept (row_kept HK2.out.var (below_a1 _ _)) (below_a1 _ _), row_kept (row_kept HK2.out.whole (below_a1 _ _)) (below_a1 _ _), (book_new w2).kept (below_a1 _ _)⟩, below_more (below_more HB2 _ (Nat.le_refl _)) _ (Nat.le_refl _), HB2.size⟩
  have h := top_row (w2.alloc (.map #[] 0)) (.cells #[.int .i64 (n : Int), .string ⟨sc.toArray⟩, .func (.func 37) #[] #[.pointer (some ⟨w1.heap.size + 1, 0, none⟩)], .map (some w2.heap.size)] 60)
  rw [ea] at h
  rw [HSC.out ()]
  exact h

theorem new_bad (s : List UInt8) (c : Int) (hc : c < 2 ∨ 8 < c ∨ 64 < s.length) (w : World) :
    Calls Tryd.prog 8 #[.string ⟨s.toArray⟩, .int .i64 c] w fun e w' => e = .returned (.tuple #[.pointer none, .int .i64 2]) ∧ w' = w := by
  have hsz : (⟨s.toArray⟩ : ByteArray).size = s.length := rfl
  by_cases h2 : c < 2
  · have d2 : decide (c < (2 : Int)) = true := by simp; omega
    go_enter Tryd.func8, Tryd.ntmps8
    go_wp2
    go_ret2
    exact ⟨rfl, rfl⟩
  · have d2 : decide (c < (2 : Int)) = false := by simp; omega
    by_cases h8 : 8 < c
    · have d8 : decide ((8 : Int) < c) = true := by simp; omega
      go_enter Tryd.func8, Tryd.ntmps8
      go_wp2
      go_ret2
      exact ⟨rfl, rfl⟩
    · have d8 : decide ((8 : Int) < c) = false := by simp; omega
      have d64 : decide ((64 : Int) < (s.length : Int)) = true := by simp; omega
      go_enter Tryd.func8, Tryd.ntmps8
      go_wp2
      go_ret2
      exact ⟨rfl, rfl⟩

end Go.Proofs.YtoddlbggbkabnaaDoor
