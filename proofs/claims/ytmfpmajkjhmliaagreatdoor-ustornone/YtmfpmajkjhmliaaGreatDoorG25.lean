/-
  What a ring's Tag answers, and what it does.
-/
import Derived.Test.YtmfpmajkjhmliaaGreatDoorG24
namespace Go.Proofs.YtmfpmajkjhmliaaGreatDoor
open Go Go.RowKit
set_option maxRecDepth 100000
theorem var_touch {w w' : World} {b i : Nat} {L : List Ent} {nm : String} {cs : Array Value} (hg : Tryz.prog.globalNamed nm = some i) (h : w.var? Tryz.prog nm = some cs) (hbk : Book w b L) (ht : Touch b w w') : w'.var? Tryz.prog nm = some cs := by
  unfold World.var? at *
  rw [hg] at *
  simp only [Option.bind_some] at *
  have hne : i ≠ b := by
    intro e
    subst e
    obtain ⟨es, clock, hb, _⟩ := hbk
    rw [hb] at h
    cases h
  have hlt : i < w.heap.size := by
    by_cases hl : i < w.heap.size
    · exact hl
    · rw [Array.getElem?_eq_none (by omega)] at h; cases h
  rw [ht.block i hlt hne]; exact h
theorem tabs_touch {w w' : World} {b : Nat} {L : List Ent} (h : Lay.Tabs w) (hbk : Book w b L) (ht : Touch b w w') : Lay.Tabs w' := by
  obtain ⟨h1, tp, p, h2⟩ := h
  exact ⟨var_touch Lay.gPow h1 hbk ht, tp, p, var_touch Lay.gRange h2 hbk ht⟩
theorem ktab_touch {w w' : World} {b : Nat} {L : List Ent} (h : Ktab w) (hbk : Book w b L) (ht : Touch b w w') : Ktab w' := by
  refine h.touch ht ?_
  obtain ⟨t, fr, h0⟩ := h
  have := hbk.ne h0
  omega
theorem touch_setCells (g : Nat) : ∀ (vs : List Value) (o : Nat) (w : World), Touch g w (w.setCells g o vs)
  | [], _, w => Touch.refl g w
  | v :: r, o, w => by rw [World.setCells]; exact (touch_setCell g o w v).trans (touch_setCells g r (o + 1) _)
theorem Touch.past {b q : Nat} {w w1 w2 : World} (h : Touch b w w1) (k : Touch q w1 w2) (hq : w.heap.size ≤ q) : Touch b w w2 :=
  ⟨k.os.trans h.os, k.tape.trans h.tape, k.output.trans h.output, Nat.le_trans h.size k.size, fun i hi hb => (k.block i (Nat.lt_of_lt_of_le hi h.size) (by omega)).trans (h.block i hi hb)⟩
section
variable {w : World} {p h g b n : Nat} {s : List UInt8} {L : List Ent}
set_option maxHeartbeats 4000000 in
theorem ringTag_ok (r : RingAt w p h g b s n L) (i : Nat) (d : Int) (t : List UInt8) (hn : n ≤ 8) (hi : i < n) (h1 : 1 ≤ d) (h6 : d ≤ 6) (hl : t.length ≤ 16384) (hr : L.length < 1000000) (hK : Ktab w) (hT : Lay.Tabs w) :
    Calls Tryz.prog 52 #[.pointer (some ⟨p, 0, none⟩), .int .i64 (i : Int), .int .i64 d, .string ⟨t.toArray⟩] w fun e w' => e = .returned (.tuple #[.agg ((tagB s ((i : Int), d, t)).map cb).toArray, .int .i64 0]) ∧ RingAt w' p h g b s n (noteL L ((i : Int), d, t)) ∧ Touch b w w' := by
  have hm : May n ((i : Int), d, t) := ⟨by show (0 : Int) ≤ (i : Int); omega, by show (i : Int) < n; omega, h1, h6, hl⟩
  have HZ := zero25
  have hZs : Hid (zb32.size = 32) := show zb32.size = 32 from rfl
  generalize zb32 = Z at *
  have HB1 : Hid (Below w.heap.size w ((w.alloc (.cells Z 23)).alloc (.cells #[.int .i64 (i : Int), .int .i64 d, .string ⟨t.toArray⟩] 166))) := below_more (below_a1 w _) _ (Nat.le_refl _)
  have hR1 : Hid (((w.alloc (.cells Z 23)).alloc (.cells #[.int .i64 (i : Int), .int .i64 d, .string ⟨t.toArray⟩] 166)).heap[w.heap.size]? = some (.cells Z 23)) := row_kept (top_row w _) (below_a1 _ _)
  have hQ1 : Hid (((w.alloc (.cells Z 23)).alloc (.cells #[.int .i64 (i : Int), .int .i64 d, .string ⟨t.toArray⟩] 166)).heap[w.heap.size + 1]? = some (.cells #[.int .i64 (i : Int), .int .i64 d, .string ⟨t.toArray⟩] 166)) := heap_alloc2_new w _ _
  have r1 := hid (r.kept HB1.out)
  have HMy := hid (may_gen ((w.alloc (.cells Z 23)).alloc (.cells #[.int .i64 (i : Int), .int .i64 d, .string ⟨t.toArray⟩] 166)) (some ⟨p, 0, none⟩) n (fun W hb => clients_any (r1.out.kept hb)) (i : Int) d t true (decide_eq_true hm).symm)
  have HNo : Hid (∀ W, RingAt W p h g b s n L → Calls Tryz.prog 99 #[.pointer (some ⟨p, 0, none⟩), .agg #[.int .i64 (i : Int), .int .i64 d, .string ⟨t.toArray⟩]] W fun e w' => e = .returned (.tuple #[]) ∧ RingAt w' p h g b s n (noteL L ((i : Int), d, t)) ∧ Touch b W w') := fun W rr => note_any rr (i : Int) d t (hm.wf hn) hl hr
  have HTO : Hid (∀ W, RingAt W p h g b s n (noteL L ((i : Int), d, t)) → Ktab W → Lay.Tabs W → Calls Tryz.prog 90 #[.agg #[.int .i64 (i : Int), .int .i64 d, .string ⟨t.toArray⟩], .pointer (some ⟨h, 0, none⟩)] W fun e w' => e = .returned (.agg ((tagB s ((i : Int), d, t)).map cb).toArray) ∧ Below W.heap.size W w') := fun W rr a b => tagOf_any rr i d t hi h1 h6 hl a b
  have HK1 := hid (hK.stays HB1.out hK.pos)
  have HT1 := hid (hT.stays HB1.out)
  have hpq : Hid (p ≠ w.heap.size) := by have := row_lt r.obj; show _ ≠ _; omega
  have hrow : Hid (h ≠ w.heap.size ∧ g ≠ w.heap.size) := by have := row_lt r.var; have := row_lt r.keys; exact ⟨by omega, by omega⟩
  have hqb : Hid (w.heap.size ≠ b ∧ w.heap.size + 1 ≠ b) := by have := r.book.lt; exact ⟨by omega, by omega⟩
  have HO1 := one_cb (tagB s ((i : Int), d, t))
  have hSl : ((tagB s ((i : Int), d, t)).map cb).length = 32 := by rw [List.length_map]; exact tagB_len _ _
  have hIn : (Tryz.prog.info? 23).map (·.size) = some ((tagB s ((i : Int), d, t)).map cb).length := by rw [hSl]; exact size25
  have hUn := Tryz.underlying23
  generalize hS : (tagB s ((i : Int), d, t)).map cb = S at *
  have HSe : Hid (Unit → S = (tagB s ((i : Int), d, t)).map cb) := fun _ => hS.symm
  generalize hL' : noteL L ((i : Int), d, t) = L' at *
  clear r hm hS hL' hK hT
  go_enter Tryz.func52, Tryz.ntmps52
  go_upto_region 4 with (first | (refine wpList_alloc_row rfl 23 rfl Z HZ ?_))
  have hc0 : ((w.alloc (.cells Z 23)).alloc (.cells #[.int .i64 (i : Int), .int .i64 d, .string ⟨t.toArray⟩] 166)).cell? ⟨w.heap.size + 1, 0, none⟩ = some (.int .i64 (i : Int)) := by rw [cell_of_row _ _ _ _ _ _ hQ1.out]; rfl
  have hc1 : ((w.alloc (.cells Z 23)).alloc (.cells #[.int .i64 (i : Int), .int .i64 d, .string ⟨t.toArray⟩] 166)).cell? ⟨w.heap.size + 1, 1, none⟩ = some (.int .i64 d) := by rw [cell_of_row _ _ _ _ _ _ hQ1.out]; rfl
  have hc2 : ((w.alloc (.cells Z 23)).alloc (.cells #[.int .i64 (i : Int), .int .i64 d, .string ⟨t.toArray⟩] 166)).cell? ⟨w.heap.size + 1, 2, none⟩ = some (.string ⟨t.toArray⟩) := by rw [cell_of_row _ _ _ _ _ _ hQ1.out]; rfl
  generalize (w.alloc (.cells Z 23)).alloc (.cells #[.int .i64 (i : Int), .int .i64 d, .string ⟨t.toArray⟩] 166) = w1 at *
  go_wp2_with (first | (go_at_call 98; refine Calls.mono HMy.out ?_))
  rintro e w2 ⟨rfl, hb2⟩
  have hR2 := hid (row_kept hR1.out hb2)
  have hQ2 := hid (row_kept hQ1.out hb2)
  have r2 := hid (r1.out.kept hb2)
  have HB2 := hid (HB1.out.trans (hb2.mono HB1.out.size))
  have HK2 := hid (HK1.out.stays hb2 HK1.out.pos)
  have HT2 := hid (HT1.out.stays hb2)
  clear hb2 HMy hc0 hc1 hc2 hQ1 hR1 r1 HB1 HK1 HT1
  have hc0 : w2.cell? ⟨w.heap.size + 1, 0, none⟩ = some (.int .i64 (i : Int)) := by rw [cell_of_row _ _ _ _ _ _ hQ2.out]; rfl
  have hc1 : w2.cell? ⟨w.heap.size + 1, 1, none⟩ = some (.int .i64 d) := by rw [cell_of_row _ _ _ _ _ _ hQ2.out]; rfl
  have hc2 : w2.cell? ⟨w.heap.size + 1, 2, none⟩ = some (.string ⟨t.toArray⟩) := by rw [cell_of_row _ _ _ _ _ _ hQ2.out]; rfl
  go_wp2_with (first | (go_at_call 99; refine (HNo.out _ r2.out).mono ?_))
  rintro e w3 ⟨rfl, hr3, ht3⟩
  have r3 := hid hr3
  have hR3 := hid (row_touch hR2.out ht3 hqb.out.1)
  have hQ3 := hid (row_touch hQ2.out ht3 hqb.out.2)
  have HK3 := hid (ktab_touch HK2.out r2.out.book ht3)
  have HT3 := hid (tabs_touch HT2.out r2.out.book ht3)
  have HTo : Hid (Touch b w w3) := (Touch.of HB2.out).trans ht3
  clear hr3 ht3 HNo hc0 hc1 hc2 hQ2 hR2 r2 HB2 HK2 HT2
  have HH : Hid (∀ W, Below w3.heap.size w3 W → W.cell? ⟨p, 2, none⟩ = some (.func (.func 90) #[] #[.pointer (some ⟨h, 0, none⟩)]) ∧ W.cell? ⟨w.heap.size + 1, 0, none⟩ = some (.int .i64 (i : Int)) ∧ W.cell? ⟨w.heap.size + 1, 1, none⟩ = some (.int .i64 d) ∧ W.cell? ⟨w.heap.size + 1, 2, none⟩ = some (.string ⟨t.toArray⟩) ∧ W.there w.heap.size 0 32) := by
    intro W hb
    have hq' := row_kept hQ3.out hb
    refine ⟨(r3.out.kept hb).c2, ?_, ?_, ?_, there_of_row (row_kept hR3.out hb) 32 (by rw [hZs.out]; omega)⟩
    · rw [cell_of_row _ _ _ _ _ _ hq']; rfl
    · rw [cell_of_row _ _ _ _ _ _ hq']; rfl
    · rw [cell_of_row _ _ _ _ _ _ hq']; rfl
  have HH2 : Hid (∀ W, Below w3.heap.size w3 W → (W.setCells w.heap.size 0 S).cell? ⟨p, 2, none⟩ = some (.func (.func 90) #[] #[.pointer (some ⟨h, 0, none⟩)]) ∧ (W.setCells w.heap.size 0 S).cell? ⟨w.heap.size + 1, 0, none⟩ = some (.int .i64 (i : Int)) ∧ (W.setCells w.heap.size 0 S).cell? ⟨w.heap.size + 1, 1, none⟩ = some (.int .i64 d) ∧ (W.setCells w.heap.size 0 S).cell? ⟨w.heap.size + 1, 2, none⟩ = some (.string ⟨t.toArray⟩) ∧ (W.setCells w.heap.size 0 S).there w.heap.size 0 32) := by
    intro W hb
    obtain ⟨e1, e2, e3, e4, e5⟩ := HH.out W hb
    refine ⟨?_, ?_, ?_, ?_, World.there_setCells e5 _ _ _⟩
    · rw [cell_setCells_far _ _ _ _ _ hpq.out]; exact e1
    · rw [cell_setCells_far _ _ _ _ _ (by show w.heap.size + 1 ≠ _; omega)]; exact e2
    · rw [cell_setCells_far _ _ _ _ _ (by show w.heap.size + 1 ≠ _; omega)]; exact e3
    · rw [cell_setCells_far _ _ _ _ _ (by show w.heap.size + 1 ≠ _; omega)]; exact e4
  clear HZ hQ3
  go_upto_region 7 with fail
  go_region_held3 (fun W => W.cell? ⟨p, 2, none⟩ = some (.func (.func 90) #[] #[.pointer (some ⟨h, 0, none⟩)]) ∧ W.cell? ⟨w.heap.size + 1, 0, none⟩ = some (.int .i64 (i : Int)) ∧ W.cell? ⟨w.heap.size + 1, 1, none⟩ = some (.int .i64 d) ∧ W.cell? ⟨w.heap.size + 1, 2, none⟩ = some (.string ⟨t.toArray⟩) ∧ W.there w.heap.size 0 32)
    (with_reducible first | exact HH2.out _ HBa | exact HH.out _ HBa | exact HH.out _ (Below.refl _ _).drew | exact HH.out _ (Below.refl _ _))
    (first | (go_at_call 90; refine (HTO.out _ (r3.out.kept (Below.refl _ _).drew) (HK3.out.stays (Below.refl _ _).drew HK3.out.pos) (HT3.out.stays (Below.refl _ _).drew)).mono ?_; rintro e W1 ⟨rfl, hb⟩; have HBa : Below w3.heap.size w3 W1 := (Below.refl _ _).drew.trans hb; clear hb))
  have HF : Hid ((W1.setCells w.heap.size 0 S).heap[w.heap.size]? = some (.cells S.toArray 23)) := row_setCells S _ W1 Z 23 (row_kept hR3.out HBa) (by rw [hSl, hZs.out])
  have r4 := hid (r3.out.kept HBa)
  have HTf : Hid (Touch w.heap.size W1 (W1.setCells w.heap.size 0 S)) := touch_setCells _ S 0 W1
  have hlow : Hid (Touch b w (W1.setCells w.heap.size 0 S)) := (HTo.out.trans (Touch.of HBa)).past HTf.out (Nat.le_refl _)
  go_wp2
  refine bodyPost_ret_by (results_row_tmp (fn := Tryz.f52) (p := 8) (u := 9) (ty := 23) (by kernel_rfl) _ _ w.heap.size 23 S.toArray (0, 0) _ rfl HF.out Tryz.underlying23 rfl (by rw [List.size_toArray, hSl]; exact size25)) rfl ?_
  refine ⟨by rw [HSe.out ()]; rfl, ?_, hlow.out⟩
  exact ⟨row_touch r4.out.obj HTf.out hpq.out, row_touch r4.out.var HTf.out hrow.out.1, row_touch r4.out.keys HTf.out hrow.out.2, r4.out.book.at (HTf.out.block b r4.out.book.lt (Ne.symm hqb.out.1))⟩
end
open Go Go.RowKit
set_option maxRecDepth 100000
section
variable {w : World} {p h g b n : Nat} {s : List UInt8} {L : List Ent}
theorem tag_c (r : RingAt w p h g b s n L) (hn : n ≤ 8) (c d : Int) (t : List UInt8) (hm : May n (c, d, t)) (hr : L.length < 1000000) (hK : Ktab w) (hT : Lay.Tabs w) :
    Calls Tryz.prog 52 #[.pointer (some ⟨p, 0, none⟩), .int .i64 c, .int .i64 d, .string ⟨t.toArray⟩] w fun e w' => e = .returned (.tuple #[.agg ((tagB s (c, d, t)).map cb).toArray, .int .i64 0]) ∧ RingAt w' p h g b s n (noteL L (c, d, t)) ∧ Touch b w w' := by
  obtain ⟨h0, h1, h2, h3, h4⟩ := hm
  simp only at h0 h1 h2 h3 h4
  obtain ⟨i, rfl⟩ : ∃ i : Nat, c = (i : Int) := ⟨c.toNat, by omega⟩
  exact ringTag_ok r i d t hn (by omega) h2 h3 h4 hr hK hT
end
end Go.Proofs.YtmfpmajkjhmliaaGreatDoor
