/-
  What the function that is made for a ring answers: a client's tag.
-/
import Derived.Test.YtoddlbggbkabnaaDoorRnote
import Derived.Deep.MidRow
namespace Go.Proofs.YtoddlbggbkabnaaDoor
open Go Go.RowKit
set_option maxRecDepth 100000

theorem there_of_row {w : World} {g : Nat} {cs : Array Value} {t : TypeId} (h : w.heap[g]? = some (.cells cs t)) (n : Nat) (hn : n ≤ cs.size) : w.there g 0 n := fun j hj =>
  ⟨by rw [cell_of_row _ _ _ _ _ _ h, Array.getElem?_eq_getElem (by omega)]; rfl, frozen_of_row _ _ _ _ _ h⟩
theorem cell_setCells_far (b : Nat) (vs : List Value) (o : Nat) (w : World) (x : Addr) (h : x.block ≠ b) : (w.setCells b o vs).cell? x = w.cell? x := by
  rw [World.cell?_setCells_out b vs o w x (fun hb => absurd hb h)]
theorem set_take (l : List Value) (o : Nat) (v : Value) (h : o < l.length) : (l.set o v).take (o + 1) = l.take o ++ [v] := by
  rw [List.take_add_one, List.getElem?_set_self h, List.take_set, List.set_eq_of_length_le (by simp; omega)]; rfl
theorem set_drop (l : List Value) (o k : Nat) (v : Value) : (l.set o v).drop (o + 1 + k) = l.drop (o + 1 + k) := by
  rw [List.drop_set, if_pos (by omega)]
theorem heap_setCells : ∀ (vs : List Value) (g o : Nat) (w : World) (cs : Array Value) (t : TypeId), w.heap[g]? = some (.cells cs t) → o + vs.length ≤ cs.size → (w.setCells g o vs).heap[g]? = some (.cells (cs.toList.take o ++ vs ++ cs.toList.drop (o + vs.length)).toArray t)
  | [], g, o, w, cs, t, h, _ => by
    rw [World.setCells, List.append_nil, List.length_nil, Nat.add_zero, List.take_append_drop, Array.toArray_toList]; exact h
  | v :: r, g, o, w, cs, t, h, hl => by
    have hl' : o + (r.length + 1) ≤ cs.size := hl
    rw [World.setCells]
    have ih := heap_setCells r g (o + 1) (w.setCell ⟨g, o, none⟩ v) (cs.setIfInBounds o v) t (heap_setCell_same _ _ _ _ _ _ h) (by rw [Array.size_setIfInBounds]; omega)
    rw [ih, Array.toList_setIfInBounds, set_take _ _ _ (by rw [Array.length_toList]; omega), set_drop]
    simp only [List.append_assoc, List.singleton_append, List.length_cons]
    rw [show o + (r.length + 1) = o + 1 + r.length by omega]
theorem row_setCells (vs : List Value) (g : Nat) (w : World) (cs : Array Value) (t : TypeId) (h : w.heap[g]? = some (.cells cs t)) (hl : vs.length = cs.size) : (w.setCells g 0 vs).heap[g]? = some (.cells vs.toArray t) := by
  rw [heap_setCells vs g 0 w cs t h (by omega), List.drop_eq_nil_of_le (by rw [Array.length_toList]; omega)]
  simp
theorem below_setCells {B : Nat} {w : World} (g : Nat) (hg : B ≤ g) : ∀ (vs : List Value) (o : Nat) (w' : World), Below B w w' → Below B w (w'.setCells g o vs)
  | [], _, _, h => h
  | v :: r, o, w', h => by rw [World.setCells]; exact below_setCells g hg r (o + 1) _ (below_setCell h ⟨g, o, none⟩ v hg)

section
variable {w : World} {p h g b n : Nat} {s : List UInt8} {L : List Ent}

set_option maxHeartbeats 2000000 in
theorem tagOf_any (r : RingAt w p h g b s n L) (i : Nat) (d : Int) (t : List UInt8) (hi : i < n) (h1 : 1 ≤ d) (h6 : d ≤ 6) (hl : t.length ≤ 16384) (hK : Ktab w) (hT : Lay.Tabs w) :
    Calls Tryd.prog 37 #[.agg #[.int .i64 (i : Int), .int .i64 d, .string ⟨t.toArray⟩], .pointer (some ⟨h, 0, none⟩)] w fun e w' => e = .returned (.agg ((tagB s ((i : Int), d, t)).map cb).toArray) ∧ Below w.heap.size w w' := by
  have HZ := zero25
  have hZs : Hid (zb32.size = 32) := show zb32.size = 32 from rfl
  have HN := hid (fun W h => Lay.number_any d (by omega) (by omega) W h)
  have hil : Hid ((Lib.itoa d ++ [59]).length ≤ 22) := by show _ ≤ _; rw [List.length_append]; have := Lay.itoa_len d (by omega) (by omega); simp; omega
  have hkl := hid (keyB_len s (i : Int))
  have HTG : Hid (∀ W, Ktab W → Calls Tryd.prog 35 #[.string ⟨(keyB s (i : Int)).toArray⟩, .slice (some ⟨W.heap.size, 0, none⟩) 2 2] (W.alloc (.cells #[.string ⟨(Lib.itoa d ++ [59]).toArray⟩, .string ⟨t.toArray⟩] 9)) fun e w' => e = .returned (.agg ((tagB s ((i : Int), d, t)).map cb).toArray) ∧ Below W.heap.size W w') :=
    fun W kk => tag_two (keyB s (i : Int)) (Lib.itoa d ++ [59]) t (by rw [hkl.out]; omega) (by have := hil.out; omega) (by omega) W kk
  have H1 := one_cb (tagB s ((i : Int), d, t))
  have hSl : ((tagB s ((i : Int), d, t)).map cb).length = 32 := by rw [List.length_map]; exact tagB_len _ _
  have hIn : (Tryd.prog.info? 34).map (·.size) = some ((tagB s ((i : Int), d, t)).map cb).length := by rw [hSl]; exact size25
  have hUn := Tryd.underlying34
  have hq0 := top_row w (.cells #[.int .i64 (i : Int), .int .i64 d, .string ⟨t.toArray⟩] 62)
  have hb0 := below_a1 w (.cells #[.int .i64 (i : Int), .int .i64 d, .string ⟨t.toArray⟩] 62)
  have hz0 : (w.alloc (.cells #[.int .i64 (i : Int), .int .i64 d, .string ⟨t.toArray⟩] 62)).heap.size = w.heap.size + 1 := by simp
  generalize hS : (tagB s ((i : Int), d, t)).map cb = S at *
  have HSe : Hid (Unit → S = (tagB s ((i : Int), d, t)).map cb) := fun _ => hS.symm
  clear hS
  generalize zb32 = Z at *
  have HB1 : Hid (Below w.heap.size w ((w.alloc (.cells #[.int .i64 (i : Int), .int .i64 d, .string ⟨t.toArray⟩] 62)).alloc (.cells Z 34))) := below_more hb0 _ (Nat.le_refl _)
  have hq1 : Hid (((w.alloc (.cells #[.int .i64 (i : Int), .int .i64 d, .string ⟨t.toArray⟩] 62)).alloc (.cells Z 34)).heap[w.heap.size]? = some (.cells #[.int .i64 (i : Int), .int .i64 d, .string ⟨t.toArray⟩] 62)) := row_kept hq0 (below_a1 _ _)
  have hr1 : Hid (((w.alloc (.cells #[.int .i64 (i : Int), .int .i64 d, .string ⟨t.toArray⟩] 62)).alloc (.cells Z 34)).heap[w.heap.size + 1]? = some (.cells Z 34)) := by have := top_row (w.alloc (.cells #[.int .i64 (i : Int), .int .i64 d, .string ⟨t.toArray⟩] 62)) (.cells Z 34); rw [hz0] at this; exact this
  have HK1 := hid (hK.stays HB1.out hK.pos)
  have HT1 := hid (hT.stays HB1.out)
  have HR1 := hid (r.kept HB1.out)
  have hi0 : (0 : Int) ≤ (i : Int) := Int.natCast_nonneg _
  have hi1 : (i : Int) < (n : Int) := by omega
  have hh1 : h ≠ w.heap.size + 1 := by have := row_lt r.var; omega
  have hg1 : g ≠ w.heap.size + 1 := by have := row_lt r.keys; omega
  clear hK hT r hq0 hb0 hz0
  go_enter Tryd.func37, Tryd.ntmps37
  go_upto_region 1 with (first | (refine wpList_alloc_row rfl 34 rfl Z HZ ?_))
  generalize (w.alloc (.cells #[.int .i64 (i : Int), .int .i64 d, .string ⟨t.toArray⟩] 62)).alloc (.cells Z 34) = w1 at *
  have HH : Hid (∀ W, Below w1.heap.size w1 W → W.cell? ⟨h, 0, none⟩ = some (.slice (some ⟨g, 0, none⟩) n n) ∧ W.cell? ⟨g, i, none⟩ = some (.string ⟨(keyB s (i : Int)).toArray⟩) ∧ W.cell? ⟨w.heap.size, 0, none⟩ = some (.int .i64 (i : Int)) ∧ W.cell? ⟨w.heap.size, 1, none⟩ = some (.int .i64 d) ∧ W.cell? ⟨w.heap.size, 2, none⟩ = some (.string ⟨t.toArray⟩) ∧ W.there (w.heap.size + 1) 0 32) := by
    intro W hb
    have hq' := row_kept hq1.out hb
    have hr' := row_kept hr1.out hb
    have rr := HR1.out.kept hb
    refine ⟨rr.v0, rr.key i hi, ?_, ?_, ?_, there_of_row hr' 32 (by rw [hZs.out]; omega)⟩
    · rw [cell_of_row _ _ _ _ _ _ hq']; rfl
    · rw [cell_of_row _ _ _ _ _ _ hq']; rfl
    · rw [cell_of_row _ _ _ _ _ _ hq']; rfl
  have HH2 : Hid (∀ W, Below w1.heap.size w1 W → (W.setCells (w.heap.size + 1) 0 S).cell? ⟨h, 0, none⟩ = some (.slice (some ⟨g, 0, none⟩) n n) ∧ (W.setCells (w.heap.size + 1) 0 S).cell? ⟨g, i, none⟩ = some (.string ⟨(keyB s (i : Int)).toArray⟩) ∧ (W.setCells (w.heap.size + 1) 0 S).cell? ⟨w.heap.size, 0, none⟩ = some (.int .i64 (i : Int)) ∧ (W.setCells (w.heap.size + 1) 0 S).cell? ⟨w.heap.size, 1, none⟩ = some (.int .i64 d) ∧ (W.setCells (w.heap.size + 1) 0 S).cell? ⟨w.heap.size, 2, none⟩ = some (.string ⟨t.toArray⟩) ∧ (W.setCells (w.heap.size + 1) 0 S).there (w.heap.size + 1) 0 32) := by
    intro W hb
    obtain ⟨e1, e2, e3, e4, e5, e6⟩ := HH.out W hb
    refine ⟨?_, ?_, ?_, ?_, ?_, World.there_setCells e6 _ _ _⟩
    · rw [cell_setCells_far _ _ _ _ _ hh1]; exact e1
    · rw [cell_setCells_far _ _ _ _ _ hg1]; exact e2
    · rw [cell_setCells_far _ _ _ _ _ (by show w.heap.size ≠ _; omega)]; exact e3
    · rw [cell_setCells_far _ _ _ _ _ (by show w.heap.size ≠ _; omega)]; exact e4
    · rw [cell_setCells_far _ _ _ _ _ (by show w.heap.size ≠ _; omega)]; exact e5
  clear hh1 hg1
  clear hq1
  generalize keyB s (i : Int) = ky at *
  generalize Lib.itoa d ++ [59] = dd at *
  clear hil hkl HR1 HZ
  go_region_held3 (fun W => W.cell? ⟨h, 0, none⟩ = some (.slice (some ⟨g, 0, none⟩) n n) ∧ W.cell? ⟨g, i, none⟩ = some (.string ⟨ky.toArray⟩) ∧ W.cell? ⟨w.heap.size, 0, none⟩ = some (.int .i64 (i : Int)) ∧ W.cell? ⟨w.heap.size, 1, none⟩ = some (.int .i64 d) ∧ W.cell? ⟨w.heap.size, 2, none⟩ = some (.string ⟨t.toArray⟩) ∧ W.there (w.heap.size + 1) 0 32)
    (with_reducible first | exact HH2.out _ HBb | exact HH.out _ HBb | exact HH.out _ (below_alloc' HBa _) | exact HH.out _ HBa | exact HH.out _ (Below.refl _ _).drew | exact HH.out _ (Below.refl _ _))
    (first | (go_at_call 36; refine (HN.out _ (HT1.out.stays (Below.refl _ _).drew)).mono ?_; rintro e W1 ⟨rfl, hb⟩; have HBa : Below w1.heap.size w1 W1 := (Below.refl _ _).drew.trans hb; clear hb) | (go_at_call 35; refine (HTG.out W1 (HK1.out.stays HBa HK1.out.pos)).mono ?_; rintro e W2 ⟨rfl, hb⟩; have HBb : Below w1.heap.size w1 W2 := HBa.trans (hb.mono HBa.size); clear hb))
  have HF : Hid ((W2.setCells (w.heap.size + 1) 0 S).heap[w.heap.size + 1]? = some (.cells S.toArray 34)) := row_setCells S _ W2 Z 34 (row_kept hr1.out HBb) (by rw [hSl, hZs.out])
  go_wp2
  refine bodyPost_ret_by (results_cell_row (fn := Tryd.f37) (p := 3) (ty := 34) (by kernel_rfl) _ _ (w.heap.size + 1) 34 S.toArray (0, 0) _ rfl HF.out Tryd.underlying34 rfl (by rw [List.size_toArray, hSl]; exact size25)) rfl ?_
  exact ⟨by rw [HSe.out ()], below_setCells _ (by omega) S 0 W2 (HB1.out.trans (HBb.mono HB1.out.size))⟩

end

end Go.Proofs.YtoddlbggbkabnaaDoor
