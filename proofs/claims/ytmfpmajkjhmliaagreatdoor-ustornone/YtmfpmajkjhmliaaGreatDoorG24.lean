/-
  What the function that is made for a ring answers: a client's tag.
-/
import Derived.Test.YtmfpmajkjhmliaaGreatDoorG23
import Derived.Deep.MidRow
import Derived.Deep.RegionWith
namespace Go.Proofs.YtmfpmajkjhmliaaGreatDoor
open Go Go.RowKit
set_option maxRecDepth 100000
theorem there_of_row {w : World} {g : Nat} {cs : Array Value} {t : TypeId} (h : w.heap[g]? = some (.cells cs t)) (n : Nat) (hn : n ≤ cs.size) : w.there g 0 n := fun j hj =>
  ⟨by rw [cell_of_row _ _ _ _ _ _ h, Array.getElem?_eq_getElem (by omega)]; rfl, frozen_of_row _ _ _ _ _ h⟩
theorem cell_setCells_far (b : Nat) (vs : List Value) (o : Nat) (w : World) (x : Addr) (h : x.block ≠ b) : (w.setCells b o vs).cell? x = w.cell? x := by
  rw [World.cell?_setCells_out b vs o w x (fun hb => absurd hb h)]
theorem set_take (l : List Value) (o : Nat) (v : Value) (h : o < l.length) : (l.set o v).take (o + 1) = l.take o ++ [v] := by
  rw [List.take_add_one, List.getElem?_set_self h, List.take_set, List.set_eq_of_length_le (by simp; omega)]; rfl
theorem set_drop (l : List Value) (o k : Nat) (v : Value) : (l.set o v).drop (o + 1 + k) = l.drop (o + 1 + k) := by
  rw [List.drop_set, if_pos (by omega)]
theorem heap_setCells : ∀ (vs : List Value) (g o : Nat) (w : World) (cs : Array Value) (t : TypeId), w.heap[g]? = some (.cells cs t) → o + vs.length ≤ cs.size → (w.setCells g o vs).heap[g]? = some (.cells (cs.toList.take o ++ vs ++ cs.toList.drop (o + vs.length)).toArray t)
  | [], g, o, w, cs, t, h, _ => by
    rw [World.setCells, List.append_nil, List.length_nil, Nat.add_zero, List.take_append_drop, Array.toArray_toList]; exact h
  | v :: r, g, o, w, cs, t, h, hl => by
    have hl' : o + (r.length + 1) ≤ cs.size := hl
    rw [World.setCells]
    have ih := heap_setCells r g (o + 1) (w.setCell ⟨g, o, none⟩ v) (cs.setIfInBounds o v) t (heap_setCell_same _ _ _ _ _ _ h) (by rw [Array.size_setIfInBounds]; omega)
    rw [ih, Array.toList_setIfInBounds, set_take _ _ _ (by rw [Array.length_toList]; omega), set_drop]
    simp only [List.append_assoc, List.singleton_append, List.length_cons]
    rw [show o + (r.length + 1) = o + 1 + r.length by omega]
theorem row_setCells (vs : List Value) (g : Nat) (w : World) (cs : Array Value) (t : TypeId) (h : w.heap[g]? = some (.cells cs t)) (hl : vs.length = cs.size) : (w.setCells g 0 vs).heap[g]? = some (.cells vs.toArray t) := by
  rw [heap_setCells vs g 0 w cs t h (by omega), List.drop_eq_nil_of_le (by rw [Array.length_toList]; omega)]
  simp
theorem below_setCells {B : Nat} {w : World} (g : Nat) (hg : B ≤ g) : ∀ (vs : List Value) (o : Nat) (w' : World), Below B w w' → Below B w (w'.setCells g o vs)
  | [], _, _, h => h
  | v :: r, o, w', h => by rw [World.setCells]; exact below_setCells g hg r (o + 1) _ (below_setCell h ⟨g, o, none⟩ v hg)
section
variable {w : World} {p h g b n : Nat} {s : List UInt8} {L : List Ent}
set_option maxHeartbeats 2000000 in
theorem tagOf_any (r : RingAt w p h g b s n L) (i : Nat) (d : Int) (t : List UInt8) (hi : i < n) (h1 : 1 ≤ d) (h6 : d ≤ 6) (hl : t.length ≤ 16384) (hK : Ktab w) (hT : Lay.Tabs w) :
    Calls Tryz.prog 90 #[.agg #[.int .i64 (i : Int), .int .i64 d, .string ⟨t.toArray⟩], .pointer (some ⟨h, 0, none⟩)] w fun e w' => e = .returned (.agg ((tagB s ((i : Int), d, t)).map cb).toArray) ∧ Below w.heap.size w w' := by
  have HZ := zero25
  have hZs : Hid (zb32.size = 32) := show zb32.size = 32 from rfl
  have HN := hid (fun W h => Lay.number_any d (by omega) (by omega) W h)
  have hil : Hid ((Lib.itoa d ++ [59]).length ≤ 22) := by show _ ≤ _; rw [List.length_append]; have := Lay.itoa_len d (by omega) (by omega); simp; omega
  have hkl := hid (keyB_len s (i : Int))
  have HTG : Hid (∀ W, Ktab W → Calls Tryz.prog 89 #[.string ⟨(keyB s (i : Int)).toArray⟩, .slice (some ⟨W.heap.size, 0, none⟩) 2 2] (W.alloc (.cells #[.string ⟨(Lib.itoa d ++ [59]).toArray⟩, .string ⟨t.toArray⟩] 9)) fun e w' => e = .returned (.agg ((tagB s ((i : Int), d, t)).map cb).toArray) ∧ Below W.heap.size W w') :=
    fun W kk => tag_two (keyB s (i : Int)) (Lib.itoa d ++ [59]) t (by rw [hkl.out]; omega) (by have := hil.out; omega) (by omega) W kk
  have H1 := one_cb (tagB s ((i : Int), d, t))
  have hSl : ((tagB s ((i : Int), d, t)).map cb).length = 32 := by rw [List.length_map]; exact tagB_len _ _
  have hIn : (Tryz.prog.info? 23).map (·.size) = some ((tagB s ((i : Int), d, t)).map cb).length := by rw [hSl]; exact size25
  have hUn := Tryz.underlying23
  have hq0 := top_row w (.cells #[.int .i64 (i : Int), .int .i64 d, .string ⟨t.toArray⟩] 166)
  have hb0 := below_a1 w (.cells #[.int .i64 (i : Int), .int .i64 d, .string ⟨t.toArray⟩] 166)
  have hz0 : (w.alloc (.cells #[.int .i64 (i : Int), .int .i64 d, .string ⟨t.toArray⟩] 166)).heap.size = w.heap.size + 1 := by simp
  generalize hS : (tagB s ((i : Int), d, t)).map cb = S at *
  have HSe : Hid (Unit → S = (tagB s ((i : Int), d, t)).map cb) := fun _ => hS.symm
  clear hS
  generalize zb32 = Z at *
  have HB1 : Hid (Below w.heap.size w ((w.alloc (.cells #[.int .i64 (i : Int), .int .i64 d, .string ⟨t.toArray⟩] 166)).alloc (.cells Z 23))) := below_more hb0 _ (Nat.le_refl _)
  have hq1 : Hid (((w.alloc (.cells #[.int .i64 (i : Int), .int .i64 d, .string ⟨t.toArray⟩] 166)).alloc (.cells Z 23)).heap[w.heap.size]? = some (.cells #[.int .i64 (i : Int), .int .i64 d, .string ⟨t.toArray⟩] 166)) := row_kept hq0 (below_a1 _ _)
  have hr1 : Hid (((w.alloc (.cells #[.int .i64 (i : Int), .int .i64 d, .string ⟨t.toArray⟩] 166)).alloc (.cells Z 23)).heap[w.heap.size + 1]? = some (.cells Z 23)) := by have := top_row (w.alloc (.cells #[.int .i64 (i : Int), .int .i64 d, .string ⟨t.toArray⟩] 166)) (.cells Z 23); rw [hz0] at this; exact this
  have HK1 := hid (hK.stays HB1.out hK.pos)
  have HT1 := hid (hT.stays HB1.out)
  have HR1 := hid (r.kept HB1.out)
  have hi0 : (0 : Int) ≤ (i : Int) := Int.natCast_nonneg _
  have hi1 : (i : Int) < (n : Int) := by omega
  have hh1 : h ≠ w.heap.size + 1 := by have := row_lt r.var; omega
  have hg1 : g ≠ w.heap.size + 1 := by have := row_lt r.keys; omega
  clear hK hT r hq0 hb0 hz0
  go_enter Tryz.func90, Tryz.ntmps90
  go_upto_region 1 with (first | (refine wpList_alloc_row rfl 23 rfl Z HZ ?_))
  generalize (w.alloc (.cells #[.int .i64 (i : Int), .int .i64 d, .string ⟨t.toArray⟩] 166)).alloc (.cells Z 23) = w1 at *
  have HH : Hid (∀ W, Below w1.heap.size w1 W → W.cell? ⟨h, 0, none⟩ = some (.slice (some ⟨g, 0, none⟩) n n) ∧ W.cell? ⟨g, i, none⟩ = some (.string ⟨(keyB s (i : Int)).toArray⟩) ∧ W.cell? ⟨w.heap.size, 0, none⟩ = some (.int .i64 (i : Int)) ∧ W.cell? ⟨w.heap.size, 1, none⟩ = some (.int .i64 d) ∧ W.cell? ⟨w.heap.size, 2, none⟩ = some (.string ⟨t.toArray⟩) ∧ W.there (w.heap.size + 1) 0 32) := by
    intro W hb
    have hq' := row_kept hq1.out hb
    have hr' := row_kept hr1.out hb
    have rr := HR1.out.kept hb
    refine ⟨rr.v0, rr.key i hi, ?_, ?_, ?_, there_of_row hr' 32 (by rw [hZs.out]; omega)⟩
    · rw [cell_of_row _ _ _ _ _ _ hq']; rfl
    · rw [cell_of_row _ _ _ _ _ _ hq']; rfl
    · rw [cell_of_row _ _ _ _ _ _ hq']; rfl
  have HH2 : Hid (∀ W, Below w1.heap.size w1 W → (W.setCells (w.heap.size + 1) 0 S).cell? ⟨h, 0, none⟩ = some (.slice (some ⟨g, 0, none⟩) n n) ∧ (W.setCells (w.heap.size + 1) 0 S).cell? ⟨g, i, none⟩ = some (.string ⟨(keyB s (i : Int)).toArray⟩) ∧ (W.setCells (w.heap.size + 1) 0 S).cell? ⟨w.heap.size, 0, none⟩ = some (.int .i64 (i : Int)) ∧ (W.setCells (w.heap.size + 1) 0 S).cell? ⟨w.heap.size, 1, none⟩ = some (.int .i64 d) ∧ (W.setCells (w.heap.size + 1) 0 S).cell? ⟨w.heap.size, 2, none⟩ = some (.string ⟨t.toArray⟩) ∧ (W.setCells (w.heap.size + 1) 0 S).there (w.heap.size + 1) 0 32) := by
    intro W hb
    obtain ⟨e1, e2, e3, e4, e5, e6⟩ := HH.out W hb
    refine ⟨?_, ?_, ?_, ?_, ?_, World.there_setCells e6 _ _ _⟩
    · rw [cell_setCells_far _ _ _ _ _ hh1]; exact e1
    · rw [cell_setCells_far _ _ _ _ _ hg1]; exact e2
    · rw [cell_setCells_far _ _ _ _ _ (by show w.heap.size ≠ _; omega)]; exact e3
    · rw [cell_setCells_far _ _ _ _ _ (by show w.heap.size ≠ _; omega)]; exact e4
    · rw [cell_setCells_far _ _ _ _ _ (by show w.heap.size ≠ _; omega)]; exact e5
  clear hh1 hg1
  clear hq1
  generalize keyB s (i : Int) = ky at *
  generalize Lib.itoa d ++ [59] = dd at *
  clear hil hkl HR1 HZ
  go_region_held3 (fun W => W.cell? ⟨h, 0, none⟩ = some (.slice (some ⟨g, 0, none⟩) n n) ∧ W.cell? ⟨g, i, none⟩ = some (.string ⟨ky.toArray⟩) ∧ W.cell? ⟨w.heap.size, 0, none⟩ = some (.int .i64 (i : Int)) ∧ W.cell? ⟨w.heap.size, 1, none⟩ = some (.int .i64 d) ∧ W.cell? ⟨w.heap.size, 2, none⟩ = some (.string ⟨t.toArray⟩) ∧ W.there (w.heap.size + 1) 0 32)
    (with_reducible first | exact HH2.out _ HBb | exact HH.out _ HBb | exact HH.out _ (below_alloc' HBa _) | exact HH.out _ HBa | exact HH.out _ (Below.refl _ _).drew | exact HH.out _ (Below.refl _ _))
    (first | (go_at_call 78; refine (HN.out _ (HT1.out.stays (Below.refl _ _).drew)).mono ?_; rintro e W1 ⟨rfl, hb⟩; have HBa : Below w1.heap.size w1 W1 := (Below.refl _ _).drew.trans hb; clear hb) | (go_at_call 89; refine (HTG.out W1 (HK1.out.stays HBa HK1.out.pos)).mono ?_; rintro e W2 ⟨rfl, hb⟩; have HBb : Below w1.heap.size w1 W2 := HBa.trans (hb.mono HBa.size); clear hb))
  have HF : Hid ((W2.setCells (w.heap.size + 1) 0 S).heap[w.heap.size + 1]? = some (.cells S.toArray 23)) := row_setCells S _ W2 Z 23 (row_kept hr1.out HBb) (by rw [hSl, hZs.out])
  go_wp2
  refine bodyPost_ret_by (results_cell_row (fn := Tryz.f90) (p := 3) (ty := 23) (by kernel_rfl) _ _ (w.heap.size + 1) 23 S.toArray (0, 0) _ rfl HF.out Tryz.underlying23 rfl (by rw [List.size_toArray, hSl]; exact size25)) rfl ?_
  exact ⟨by rw [HSe.out ()], below_setCells _ (by omega) S 0 W2 (HB1.out.trans (HBb.mono HB1.out.size))⟩
end
open Go Go.RowKit
set_option maxRecDepth 100000
structure KeysTo (w W : World) (s : List UInt8) (n j : Nat) : Prop where
  row : ∃ D : Array Value, D.size = n ∧ (∀ k : Nat, k < j → D[k]? = some (.string ⟨(keyB s k).toArray⟩)) ∧ W.heap[w.heap.size]? = some (.cells D 9)
  var : W.heap[w.heap.size + 1]? = some (.cells #[.slice (some ⟨w.heap.size, 0, none⟩) n n] 46)
  low : Below w.heap.size w W
theorem KeysTo.step {w W W1 : World} {s : List UInt8} {n j : Nat} (h : KeysTo w W s n j) (hj : j < n) (hb : Below W.heap.size W W1) : KeysTo w (W1.setCell ⟨w.heap.size, j, none⟩ (.string ⟨(keyB s j).toArray⟩)) s n (j + 1) := by
  obtain ⟨⟨D, hD, hk, hr⟩, hv, hl⟩ := h
  refine ⟨⟨D.setIfInBounds j (.string ⟨(keyB s j).toArray⟩), by rw [Array.size_setIfInBounds]; exact hD, fun k hk1 => ?_, heap_setCell_same _ _ _ _ _ _ (row_kept hr hb)⟩, ?_, below_setCell (hl.trans (hb.mono hl.size)) _ _ (Nat.le_refl _)⟩
  · by_cases e : k = j
    · subst e; rw [Array.getElem?_setIfInBounds_self_of_lt (by omega)]
    · rw [Array.getElem?_setIfInBounds_ne (Ne.symm e)]; exact hk k (by omega)
  · rw [Below.heap_setCell _ _ _ _ (by show _ ≠ w.heap.size; omega)]; exact row_kept hv hb
theorem KeysTo.whole {w W : World} {s : List UInt8} {n : Nat} (h : KeysTo w W s n n) : W.heap[w.heap.size]? = some (.cells (keyRow s n).toArray 9) := by
  obtain ⟨⟨D, hD, hk, hr⟩, -, -⟩ := h
  rw [hr]
  congr 2
  apply Array.ext_getElem?
  intro i
  by_cases hi : i < n
  · rw [hk i hi, List.getElem?_toArray, keyRow_at s n i hi]
  · rw [Array.getElem?_eq_none (by omega), Array.getElem?_eq_none (by simp [keyRow]; omega)]
set_option maxHeartbeats 2000000 in
theorem taggerOf_any (s : List UInt8) (hs : s.length ≤ 64) (n : Nat) (hn : n ≤ 8) (w : World) (hK : Ktab w) (hT : Lay.Tabs w) :
    Calls Tryz.prog 39 #[.string ⟨s.toArray⟩, .int .i64 (n : Int)] w fun e w' => e = .returned (.func (.func 90) #[] #[.pointer (some ⟨w.heap.size + 1, 0, none⟩)]) ∧ KeysTo w w' s n n := by
  obtain ⟨i0, hi, hz0, hz1, hz2⟩ := info_parts infoStr
  have hmk : (Instr.makeSlice 46 (.int .i64 (n : Int)) (.int .i64 (n : Int))).run Tryz.prog w = .ok (.slice (some ⟨w.heap.size, 0, none⟩) n n) (w.alloc (.cells (madeCells (Value.string ⟨#[]⟩).cells (n * 1)) 9)) := by
    have h := run_makeSlice (P := Tryz.prog) w 46 9 i0 (.string ⟨#[]⟩) Tryz.underlying46 hi hz0 .i64 .i64 n n (by omega) (by omega) (by rw [hz1]; omega) (by rw [hz2]; omega) (by omega)
    rw [hz1] at h
    simpa using h
  have hms : (madeCells (Value.string ⟨#[]⟩).cells (n * 1)).size = n := by rw [size_madeCells]; omega
  generalize madeCells (Value.string ⟨#[]⟩).cells (n * 1) = Z at *
  have HM := hid (fun (j : Nat) (hj : j ≤ 8) W h1 h2 => make_ok s (by omega) [99, 108, 105, 101, 110, 116] (by decide) (j : Int) (by omega) (by omega) W h1 h2)
  have HKb : Hid (∀ V, Below w.heap.size w V → Ktab V) := fun V h => hK.stays h hK.pos
  have HTb : Hid (∀ V, Below w.heap.size w V → Lay.Tabs V) := fun V h => hT.stays h
  have H0 : Hid (KeysTo w ((w.alloc (.cells Z 9)).alloc (.cells #[.slice (some ⟨w.heap.size, 0, none⟩) n n] 46)) s n 0) :=
    ⟨⟨Z, hms, fun k hk => absurd hk (by omega), row_kept (top_row w _) (below_a1 _ _)⟩, by have := top_row (w.alloc (.cells Z 9)) (.cells #[.slice (some ⟨w.heap.size, 0, none⟩) n n] 46); simpa using this, below_more (below_a1 w _) _ (Nat.le_refl _)⟩
  clear hK hT hms
  go_enter Tryz.func39, Tryz.ntmps39
  go_wp2
  go_loopw [11] (fun i w' => ∃ j : Nat, j ≤ n ∧ i = .int .i64 j ∧ Hid (KeysTo w w' s n j)) (fun i _ => n - (intOf i).toNat)
  case atStart => exact ⟨0, by omega, rfl, H0⟩
  case round =>
    clear H0 hmk
    obtain ⟨j, hj, rfl, HJ⟩ := hrel
    by_cases hlt : j < n
    · have hv : wr.cell? ⟨w.heap.size + 1, 0, none⟩ = some (.slice (some ⟨w.heap.size, 0, none⟩) n n) := by rw [cell_of_row _ _ _ _ _ _ HJ.out.var]; rfl
      obtain ⟨u, hu, hf⟩ : ∃ u, wr.cell? ⟨w.heap.size, j, none⟩ = some u ∧ wr.frozen? ⟨w.heap.size, j, none⟩ = false := by
        obtain ⟨D, hD, hk, hr⟩ := HJ.out.row
        exact ⟨D[j]'(by omega), by rw [cell_of_row _ _ _ _ _ _ hr, Array.getElem?_eq_getElem (by omega)], frozen_of_row _ _ _ _ _ hr⟩
      have hl1 : w.heap.size + 1 < wr.heap.size := row_lt HJ.out.var
      have hl0 : w.heap.size < wr.heap.size := by omega
      have HMj := hid (HM.out j (by omega))
      have hj0 : (0 : Int) ≤ (j : Int) := Int.natCast_nonneg _
      have hj1 : (j : Int) < (n : Int) := by omega
      obtain ⟨ky, hky⟩ : ∃ ky, ky = makeB s [99, 108, 105, 101, 110, 116] (j : Int) := ⟨_, rfl⟩
      rw [← hky] at HMj
      have HKY : Hid (Unit → keyB s (j : Int) = ky) := fun _ => hky.symm
      have HKr := hid (HKb.out _ HJ.out.low)
      have HTr := hid (HTb.out _ HJ.out.low)
      have HSt : Hid (∀ W1, Below wr.heap.size wr W1 → KeysTo w (W1.setCell ⟨w.heap.size, j, none⟩ (.string ⟨ky.toArray⟩)) s n (j + 1)) := fun W1 hb => by
        have := HJ.out.step hlt hb
        rw [HKY.out ()] at this
        exact this
      have HC : Hid (∀ W1, Below wr.heap.size wr W1 → W1.cell? ⟨w.heap.size + 1, 0, none⟩ = some (.slice (some ⟨w.heap.size, 0, none⟩) n n) ∧ W1.cell? ⟨w.heap.size, j, none⟩ = some u ∧ W1.frozen? ⟨w.heap.size, j, none⟩ = false) := fun W1 hb =>
        ⟨(hb.cell (p := ⟨w.heap.size + 1, 0, none⟩) hl1).trans hv, (hb.cell (p := ⟨w.heap.size, j, none⟩) hl0).trans hu, (hb.frozen (p := ⟨w.heap.size, j, none⟩) hl0).trans hf⟩
      clear hky HM HJ
      go_upto_region 5 with fail
      go_region_with (go_at_call 38; refine (HMj.out _ (HKr.out.stays (Below.refl _ _).drew HKr.out.pos) (HTr.out.stays (Below.refl _ _).drew)).mono ?_; rintro e w1 ⟨rfl, hb⟩; have HB1 := hid ((Below.refl wr.heap.size wr).drew.trans hb); obtain ⟨hv1, hu1, hf1⟩ := HC.out _ HB1.out; clear hb)
      all_goals go_wp2
      all_goals exact ⟨⟨j + 1, by omega, by go_num, HSt.out _ HB1.out⟩, by simp [intOf]; omega⟩
    · obtain rfl : j = n := by omega
      go_wp2
      go_ret
      exact ⟨rfl, HJ.out⟩
structure NewRing (w w' : World) (p h g b : Nat) (s : List UInt8) (n : Nat) : Prop where
  ring : RingAt w' p h g b s n []
  low : Below w.heap.size w w'
  far : w.heap.size ≤ b
set_option maxHeartbeats 2000000 in
theorem new_ok (s : List UInt8) (hs : s.length ≤ 64) (n : Nat) (h2 : 2 ≤ n) (h8 : n ≤ 8) (w : World) (hK : Ktab w) (hT : Lay.Tabs w) :
    Calls Tryz.prog 9 #[.string ⟨s.toArray⟩, .int .i64 (n : Int)] w fun e w' => ∃ p h g b, e = .returned (.tuple #[.pointer (some ⟨p, 0, none⟩), .int .i64 0]) ∧ NewRing w w' p h g b s n := by
  have hmm := @run_makeMap Tryz.prog
  have HM : Hid (∀ W, Ktab W → Lay.Tabs W → Calls Tryz.prog 38 #[.string ⟨s.toArray⟩, .string ⟨#[115, 101, 99, 114, 101, 116]⟩, .int .i64 0] W fun e w' => e = .returned (.string ⟨(secB s).toArray⟩) ∧ Below W.heap.size W w') := fun W a b => make_ok s (by omega) [115, 101, 99, 114, 101, 116] (by decide) 0 (by omega) (by omega) W a b
  have HTG := hid (fun W a b => taggerOf_any s hs n h8 W a b)
  have HKb : Hid (∀ V, Below w.heap.size w V → Ktab V) := fun V h => hK.stays h hK.pos
  have HTb : Hid (∀ V, Below w.heap.size w V → Lay.Tabs V) := fun V h => hT.stays h
  have hsz : (⟨s.toArray⟩ : ByteArray).size = s.length := rfl
  have d2 : decide ((n : Int) < 2) = false := by simp; omega
  have d8 : decide ((8 : Int) < (n : Int)) = false := by simp; omega
  have d64 : decide ((64 : Int) < (s.length : Int)) = false := by simp; omega
  obtain ⟨sc, hsc⟩ : ∃ sc, sc = secB s := ⟨_, rfl⟩
  rw [← hsc] at HM
  have HSC : Hid (Unit → secB s = sc) := fun _ => hsc.symm
  have HB0 : Hid (Below w.heap.size w w) := Below.refl _ _
  clear hK hT hsc
  go_enter Tryz.func9, Tryz.ntmps9
  go_wp2_with (first | (go_at_call 38; refine (HM.out _ (HKb.out _ HB0.out) (HTb.out _ HB0.out)).mono ?_))
  rintro e w1 ⟨rfl, hb1⟩
  have HB1 := hid hb1
  clear hb1 HM
  go_wp2_with (first | (go_at_call 39; refine (HTG.out _ (HKb.out _ HB1.out) (HTb.out _ HB1.out)).mono ?_))
  rintro e w2 ⟨rfl, hk2⟩
  have HK2 := hid hk2
  clear hk2 HTG
  go_wp2
  go_ret2
  have HB2 := HB1.out.trans (HK2.out.low.mono HB1.out.size)
  have ea : (w2.alloc (.map #[] 0)).heap.size = w2.heap.size + 1 := by simp
  refine ⟨w2.heap.size + 1, w1.heap.size + 1, w1.heap.size, w2.heap.size, rfl, ⟨?_, row_kept (row_kept HK2.out.var (below_a1 _ _)) (below_a1 _ _), row_kept (row_kept HK2.out.whole (below_a1 _ _)) (below_a1 _ _), (book_new w2).kept (below_a1 _ _)⟩, below_more (below_more HB2 _ (Nat.le_refl _)) _ (Nat.le_refl _), HB2.size⟩
  have h := top_row (w2.alloc (.map #[] 0)) (.cells #[.int .i64 (n : Int), .string ⟨sc.toArray⟩, .func (.func 90) #[] #[.pointer (some ⟨w1.heap.size + 1, 0, none⟩)], .map (some w2.heap.size)] 105)
  rw [ea] at h
  rw [HSC.out ()]
  exact h
end Go.Proofs.YtmfpmajkjhmliaaGreatDoor
