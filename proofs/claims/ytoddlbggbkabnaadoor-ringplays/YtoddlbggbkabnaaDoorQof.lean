/-
  What the reference's Of answers: a client's tag.
-/
import Derived.Test.YtoddlbggbkabnaaDoorQref
namespace Go.Proofs.YtoddlbggbkabnaaDoor
open Go Go.RowKit
set_option maxRecDepth 100000

section
variable {w : World} {x n : Nat} {s : List UInt8} {v : Value} {L : List Ent}

set_option maxHeartbeats 4000000 in
theorem of_any (r : RefAt w x s n v L) (hs : s.length ≤ 64) (c d : Int) (t : List UInt8) (hc : -9223372036854775808 ≤ c ∧ c ≤ 9223372036854775807) (hd : -9223372036854775808 ≤ d ∧ d ≤ 9223372036854775807) (ht : t.length ≤ 140737488351232) :
    Calls Tryd.prog 16 #[.pointer (some ⟨x, 0, none⟩), .agg #[.int .i64 c, .int .i64 d, .string ⟨t.toArray⟩]] w fun e w' => e = .returned (.agg ((tagB s (c, d, t)).map cb).toArray) ∧ Below w.heap.size w w' := by
  have HZ := zero25
  have hZs : Hid (zb32.size = 32) := show zb32.size = 32 from rfl
  have HRN := hid (fun W => Lay.refNumber_any d hd.1 hd.2 W)
  have HRM : Hid (∀ W, Calls Tryd.prog 23 #[.string ⟨s.toArray⟩, .string ⟨#[99, 108, 105, 101, 110, 116]⟩, .int .i64 c] W fun e w' => e = .returned (.string ⟨(keyB s c).toArray⟩) ∧ Below W.heap.size W w') := fun W => rmake_ok s (by omega) [99, 108, 105, 101, 110, 116] (by decide) c hc.1 hc.2 W
  have hil : (Lib.itoa d ++ [59]).length ≤ 22 := by rw [List.length_append]; have := Lay.itoa_len d hd.1 hd.2; simp; omega
  have hkl := keyB_len s c
  have HTG : Hid (∀ W, Calls Tryd.prog 28 #[.string ⟨(keyB s c).toArray⟩, .string ⟨((Lib.itoa d ++ [59]) ++ t).toArray⟩] W fun e w' => e = .returned (.agg ((tagB s (c, d, t)).map cb).toArray) ∧ Below W.heap.size W w') :=
    fun W => rtag_any (keyB s c) (by omega) ((Lib.itoa d ++ [59]) ++ t) (by rw [List.length_append]; omega) W
  have H1 := one_cb (tagB s (c, d, t))
  have hSl : ((tagB s (c, d, t)).map cb).length = 32 := by rw [List.length_map]; exact tagB_len _ _
  have hIn : (Tryd.prog.info? 34).map (·.size) = some ((tagB s (c, d, t)).map cb).length := by rw [hSl]; exact size25
  have hUn := Tryd.underlying34
  have hq0 := top_row w (.cells #[.int .i64 c, .int .i64 d, .string ⟨t.toArray⟩] 32)
  have hb0 := below_a1 w (.cells #[.int .i64 c, .int .i64 d, .string ⟨t.toArray⟩] 32)
  generalize hS : (tagB s (c, d, t)).map cb = S at *
  have HSe : Hid (Unit → S = (tagB s (c, d, t)).map cb) := fun _ => hS.symm
  clear hS
  generalize zb32 = Z at *
  have HB1 : Hid (Below w.heap.size w ((w.alloc (.cells #[.int .i64 c, .int .i64 d, .string ⟨t.toArray⟩] 32)).alloc (.cells Z 34))) := below_more hb0 _ (Nat.le_refl _)
  have hq1 : Hid (((w.alloc (.cells #[.int .i64 c, .int .i64 d, .string ⟨t.toArray⟩] 32)).alloc (.cells Z 34)).heap[w.heap.size]? = some (.cells #[.int .i64 c, .int .i64 d, .string ⟨t.toArray⟩] 32)) := row_kept hq0 (below_a1 _ _)
  have hr1 : Hid (((w.alloc (.cells #[.int .i64 c, .int .i64 d, .string ⟨t.toArray⟩] 32)).alloc (.cells Z 34)).heap[w.heap.size + 1]? = some (.cells Z 34)) := heap_alloc2_new w _ _
  have HR1 := hid (r.kept HB1.out)
  have hx1 : x ≠ w.heap.size + 1 := by have := row_lt r.obj; omega
  clear r hq0 hb0
  go_enter Tryd.func16, Tryd.ntmps16
  go_upto_region 1 with (first | (refine wpList_alloc_row rfl 34 rfl Z HZ ?_))
  generalize (w.alloc (.cells #[.int .i64 c, .int .i64 d, .string ⟨t.toArray⟩] 32)).alloc (.cells Z 34) = w1 at *
  have HH : Hid (∀ W, Below w1.heap.size w1 W → W.cell? ⟨x, 0, none⟩ = some (.string ⟨s.toArray⟩) ∧ W.cell? ⟨w.heap.size, 0, none⟩ = some (.int .i64 c) ∧ W.cell? ⟨w.heap.size, 1, none⟩ = some (.int .i64 d) ∧ W.cell? ⟨w.heap.size, 2, none⟩ = some (.string ⟨t.toArray⟩) ∧ W.there (w.heap.size + 1) 0 32) := by
    intro W hb
    have hq' := row_kept hq1.out hb
    refine ⟨(HR1.out.kept hb).c0, ?_, ?_, ?_, there_of_row (row_kept hr1.out hb) 32 (by rw [hZs.out]; omega)⟩
    · rw [cell_of_row _ _ _ _ _ _ hq']; rfl
    · rw [cell_of_row _ _ _ _ _ _ hq']; rfl
    · rw [cell_of_row _ _ _ _ _ _ hq']; rfl
  have HH2 : Hid (∀ W, Below w1.heap.size w1 W → (W.setCells (w.heap.size + 1) 0 S).cell? ⟨x, 0, none⟩ = some (.string ⟨s.toArray⟩) ∧ (W.setCells (w.heap.size + 1) 0 S).cell? ⟨w.heap.size, 0, none⟩ = some (.int .i64 c) ∧ (W.setCells (w.heap.size + 1) 0 S).cell? ⟨w.heap.size, 1, none⟩ = some (.int .i64 d) ∧ (W.setCells (w.heap.size + 1) 0 S).cell? ⟨w.heap.size, 2, none⟩ = some (.string ⟨t.toArray⟩) ∧ (W.setCells (w.heap.size + 1) 0 S).there (w.heap.size + 1) 0 32) := by
    intro W hb
    obtain ⟨e1, e3, e4, e5, e6⟩ := HH.out W hb
    refine ⟨?_, ?_, ?_, ?_, World.there_setCells e6 _ _ _⟩
    · rw [cell_setCells_far _ _ _ _ _ hx1]; exact e1
    · rw [cell_setCells_far _ _ _ _ _ (by show w.heap.size ≠ _; omega)]; exact e3
    · rw [cell_setCells_far _ _ _ _ _ (by show w.heap.size ≠ _; omega)]; exact e4
    · rw [cell_setCells_far _ _ _ _ _ (by show w.heap.size ≠ _; omega)]; exact e5
  generalize keyB s c = ky at *
  generalize Lib.itoa d ++ [59] = dd at *
  have hsd : (⟨dd.toArray⟩ : ByteArray).size = dd.length := rfl
  have hst : (⟨t.toArray⟩ : ByteArray).size = t.length := rfl
  have hbd : (dd.length : Int) ≤ 22 := by omega
  have hbt : (t.length : Int) ≤ 140737488351232 := by omega
  have happ : (⟨dd.toArray⟩ : ByteArray) ++ (⟨t.toArray⟩ : ByteArray) = ⟨(dd ++ t).toArray⟩ := ByteArray.mk_append_mk dd t
  have hadd : ∀ W, (Op.stringOp .add ⟨dd.toArray⟩ ⟨t.toArray⟩).run Tryd.prog W = .ok (.string ⟨(dd ++ t).toArray⟩) W := fun W => by
    have hh := run_string_add_sum (P := Tryd.prog) W ⟨dd.toArray⟩ ⟨t.toArray⟩ (by rw [hsd, hst]; omega)
    rw [happ] at hh
    exact hh
  have hsum : ((dd.length + t.length : Nat) : Int) ≤ 9223372036854775807 := by omega
  have hsum2 : (dd.length : Int) + (t.length : Int) ≤ 9223372036854775807 := by omega
  clear HR1 HZ hx1 hil hkl hc hd hq1
  go_region_held3 (fun W => W.cell? ⟨x, 0, none⟩ = some (.string ⟨s.toArray⟩) ∧ W.cell? ⟨w.heap.size, 0, none⟩ = some (.int .i64 c) ∧ W.cell? ⟨w.heap.size, 1, none⟩ = some (.int .i64 d) ∧ W.cell? ⟨w.heap.size, 2, none⟩ = some (.string ⟨t.toArray⟩) ∧ W.there (w.heap.size + 1) 0 32)
    (with_reducible first | exact HH2.out _ HBc | exact HH.out _ HBc | exact HH.out _ HBb | exact HH.out _ HBa | exact HH.out _ (Below.refl _ _).drew | exact HH.out _ (Below.refl _ _))
    (first | (go_at_call 23; refine (HRM.out _).mono ?_; rintro e W ⟨rfl, hb⟩; (first | (have HBb := HBa.trans (hb.mono HBa.size)) | (have HBa : Below w1.heap.size w1 _ := (Below.refl _ _).drew.trans hb)); clear hb) | (go_at_call 29; refine (HRN.out _).mono ?_; rintro e W ⟨rfl, hb⟩; (first | (have HBb := HBa.trans (hb.mono HBa.size)) | (have HBa : Below w1.heap.size w1 _ := (Below.refl _ _).drew.trans hb)); clear hb) | (go_at_call 28; refine (HTG.out _).mono ?_; rintro e W3 ⟨rfl, hb⟩; have HBc : Below w1.heap.size w1 W3 := HBb.trans (hb.mono HBb.size); clear hb))
  have HF : Hid ((W3.setCells (w.heap.size + 1) 0 S).heap[w.heap.size + 1]? = some (.cells S.toArray 34)) := row_setCells S _ W3 Z 34 (row_kept hr1.out HBc) (by rw [hSl, hZs.out])
  go_wp2
  refine bodyPost_ret_by (results_cell_row (fn := Tryd.f16) (p := 4) (ty := 34) (by kernel_rfl) _ _ (w.heap.size + 1) 34 S.toArray (0, 0) _ rfl HF.out Tryd.underlying34 rfl (by rw [List.size_toArray, hSl]; exact size25)) rfl ?_
  exact ⟨by rw [HSe.out ()], below_setCells _ (by omega) S 0 W3 (HB1.out.trans (HBc.mono HB1.out.size))⟩
end

end Go.Proofs.YtoddlbggbkabnaaDoor
