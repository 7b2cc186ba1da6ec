/-
  What a ring's Made answers, and what note does.
-/
import Derived.Test.YtoddlbggbkabnaaDoorRmay
namespace Go.Proofs.YtoddlbggbkabnaaDoor
open Go Go.RowKit
open Go.ChangeMaps (setBlock)
set_option maxRecDepth 100000

theorem book_put' {w : World} {b : Nat} {L : List Ent} (h : Book w b L) {x : Ent} (hx : EntWf x) (hn : x ∉ L) (hr : L.length < 1000000) :
    ∃ o, ∀ W, W.heap[b]? = w.heap[b]? → (Instr.mapUpdate 58 (.map (some b)) (entV x) (.agg #[])).run Tryd.prog W = .ok () (setBlock W b o) ∧ Book (setBlock W b o) b (L ++ [x]) := by
  obtain ⟨es, clock, hb, F, hk⟩ := h
  obtain ⟨l, hl⟩ := keyE hx
  have e1 : es.size = L.length := by have := congrArg List.length hk; simpa using this
  have hkeys : ∀ e ∈ es.toList, ∃ l, keyOf Tryd.prog 62 e.key = some l := fun e he => by
    obtain ⟨y, hy⟩ := F.reads e he
    exact ⟨_, WideElems.rd_key hy⟩
  have hne : ∀ e ∈ es.toList, e.key ≠ entV x := by
    intro e he hee
    apply hn
    have : entV x ∈ L.map entV := by rw [← hk]; exact List.mem_map.2 ⟨e, he, hee⟩
    obtain ⟨y, hy, hyy⟩ := List.mem_map.1 this
    rw [← entV_inj hyy]; exact hy
  refine ⟨.map (es.push ⟨entV x, .agg #[], clock⟩) (clock + 1), fun W hW => ?_⟩
  have hb' : W.heap[b]? = some (.map es clock) := hW.trans hb
  rcases keyedE.find W hl es.toList hkeys with ⟨h1, h2⟩ | ⟨j, e0, h1, h2, h3⟩
  · refine ⟨?_, ⟨_, _, ChangeMaps.heap_setBlock_same hb' _, ⟨by simp [maxLen]; omega, MapKept.stamped_push F.stamped h2, ?_⟩, ?_⟩⟩
    · simp [Instr.mapUpdate, run_underlying Tryd.underlying58, MapKept.run_getObj_map hb', keyedE.check W false hl, h1, MapKept.run_setObj_map _ hb', Result.andThen, setBlock]
    · intro e he
      simp only [Array.toList_push, List.mem_append, List.mem_singleton] at he
      rcases he with he | rfl
      · exact F.reads e he
      · exact ⟨_, WideElems.rd_mk hl unitElem_mk⟩
    · simp [hk]
  · exact absurd h3 (hne e0 (List.mem_of_getElem? h2))

theorem clone_any (l : List UInt8) (w : World) (hl : l.length ≤ 1000000) : Calls Tryd.prog 38 #[.string ⟨l.toArray⟩] w fun e w' => e = .returned (.string ⟨l.toArray⟩) ∧ Below w.heap.size w w' := by
  have H := hid (fun W => Tryd.stringslite_Clone ⟨l.toArray⟩ W (by show l.length ≤ _; omega))
  go_enter Tryd.func38, Tryd.ntmps38
  go_wp2_with (first | (go_at_call 48; refine (H.out _).mono ?_))
  rintro e w1 ⟨rfl, hb⟩
  have HB := hid hb
  clear hb
  go_wp2
  go_ret
  exact ⟨rfl, HB.out⟩

def noteL (L : List Ent) (x : Ent) : List Ent := if x ∈ L then L else L ++ [x]

section
variable {w : World} {p h g b n : Nat} {s : List UInt8} {L : List Ent}

theorem made_any (r : RingAt w p h g b s n L) (c d : Int) (t : List UInt8) (hx : EntWf (c, d, t)) :
    Calls Tryd.prog 18 #[.pointer (some ⟨p, 0, none⟩), .int .i64 c, .int .i64 d, .string ⟨t.toArray⟩] w fun e w' => e = .returned (.bool (decide ((c, d, t) ∈ L))) ∧ Below w.heap.size w w' := by
  have H := hid (has_any r c d t hx)
  obtain ⟨B, hB⟩ : ∃ B, B = decide ((c, d, t) ∈ L) := ⟨_, rfl⟩
  rw [← hB] at H ⊢
  clear hB r
  go_enter Tryd.func18, Tryd.ntmps18
  go_wp2_with (first | (go_at_call 30; refine Calls.mono H.out ?_))
  rintro e w1 ⟨rfl, hb⟩
  have HB := hid hb
  clear hb H
  go_wp2
  go_ret
  exact ⟨rfl, HB.out⟩
theorem made_nil (w : World) (c d : Int) (t : List UInt8) : Calls Tryd.prog 18 #[.pointer none, .int .i64 c, .int .i64 d, .string ⟨t.toArray⟩] w fun e w' => e = .returned (.bool false) ∧ w' = w := by
  go_enter Tryd.func18, Tryd.ntmps18
  go_wp2
  go_ret
  exact ⟨rfl, rfl⟩

set_option maxHeartbeats 1000000 in
theorem note_any (r : RingAt w p h g b s n L) (c d : Int) (t : List UInt8) (hx : EntWf (c, d, t)) (hl : t.length ≤ 16384) (hr : L.length < 1000000) :
    Calls Tryd.prog 27 #[.pointer (some ⟨p, 0, none⟩), .agg #[.int .i64 c, .int .i64 d, .string ⟨t.toArray⟩]] w fun e w' => e = .returned (.tuple #[]) ∧ RingAt w' p h g b s n (noteL L (c, d, t)) ∧ Touch b w w' := by
  have HB0 : Hid (Below w.heap.size w (w.alloc (.cells #[.int .i64 c, .int .i64 d, .string ⟨t.toArray⟩] 62))) := below_a1 w _
  have r0 := hid (r.kept HB0.out)
  have hq := hid (top_row w (.cells #[.int .i64 c, .int .i64 d, .string ⟨t.toArray⟩] 62))
  have HC := hid (fun W => clone_any t W (by omega))
  have Hqb : Hid (w.heap.size ≠ b) := by have := r.book.lt; show _ ≠ _; omega
  by_cases hin : (c, d, t) ∈ L
  · have hN : Hid (noteL L (c, d, t) = L) := if_pos hin
    have H0 := hid (has_any r0.out c d t hx)
    rw [decide_eq_true hin] at H0
    clear hin
    go_enter Tryd.func27, Tryd.ntmps27
    go_upto_region 1 with fail
    have hc0 : (w.alloc (.cells #[.int .i64 c, .int .i64 d, .string ⟨t.toArray⟩] 62)).cell? ⟨w.heap.size, 0, none⟩ = some (.int .i64 c) := by rw [cell_of_row _ _ _ _ _ _ hq.out]; rfl
    have hc1 : (w.alloc (.cells #[.int .i64 c, .int .i64 d, .string ⟨t.toArray⟩] 62)).cell? ⟨w.heap.size, 1, none⟩ = some (.int .i64 d) := by rw [cell_of_row _ _ _ _ _ _ hq.out]; rfl
    have hc2 : (w.alloc (.cells #[.int .i64 c, .int .i64 d, .string ⟨t.toArray⟩] 62)).cell? ⟨w.heap.size, 2, none⟩ = some (.string ⟨t.toArray⟩) := by rw [cell_of_row _ _ _ _ _ _ hq.out]; rfl
    generalize w.alloc (.cells #[.int .i64 c, .int .i64 d, .string ⟨t.toArray⟩] 62) = w0 at *
    go_wp2_with (first | (go_at_call 30; refine Calls.mono H0.out ?_))
    rintro e w1 ⟨rfl, hb1⟩
    have HB1 := hid hb1
    clear hb1 H0 hc0 hc1 hc2
    go_wp2
    refine bodyPost_ret (results_none (by kernel_rfl) _ _ _) rfl ?_
    exact ⟨rfl, by rw [hN.out]; exact r0.out.kept HB1.out, Touch.of (HB0.out.trans (HB1.out.mono HB0.out.size))⟩
  · have hN : Hid (noteL L (c, d, t) = L ++ [(c, d, t)]) := if_neg hin
    have H0 := hid (has_any r0.out c d t hx)
    rw [decide_eq_false hin] at H0
    obtain ⟨o, ho⟩ := book_put' r.book hx hin hr
    have HO := hid ho
    have Hbb : Hid (∀ W, Below (w.alloc (.cells #[.int .i64 c, .int .i64 d, .string ⟨t.toArray⟩] 62)).heap.size (w.alloc (.cells #[.int .i64 c, .int .i64 d, .string ⟨t.toArray⟩] 62)) W → W.heap[b]? = w.heap[b]?) := fun W hb => by
      rw [hb.block b r0.out.book.lt]; exact HB0.out.block b r.book.lt
    clear hin ho
    go_enter Tryd.func27, Tryd.ntmps27
    go_upto_region 1 with fail
    have hc0 : (w.alloc (.cells #[.int .i64 c, .int .i64 d, .string ⟨t.toArray⟩] 62)).cell? ⟨w.heap.size, 0, none⟩ = some (.int .i64 c) := by rw [cell_of_row _ _ _ _ _ _ hq.out]; rfl
    have hc1 : (w.alloc (.cells #[.int .i64 c, .int .i64 d, .string ⟨t.toArray⟩] 62)).cell? ⟨w.heap.size, 1, none⟩ = some (.int .i64 d) := by rw [cell_of_row _ _ _ _ _ _ hq.out]; rfl
    have hc2 : (w.alloc (.cells #[.int .i64 c, .int .i64 d, .string ⟨t.toArray⟩] 62)).cell? ⟨w.heap.size, 2, none⟩ = some (.string ⟨t.toArray⟩) := by rw [cell_of_row _ _ _ _ _ _ hq.out]; rfl
    generalize w.alloc (.cells #[.int .i64 c, .int .i64 d, .string ⟨t.toArray⟩] 62) = w0 at *
    go_wp2_with (first | (go_at_call 30; refine Calls.mono H0.out ?_))
    rintro e w1 ⟨rfl, hb1⟩
    have HB1 := hid hb1
    have hq1 := hid (row_kept hq.out hb1)
    clear hb1 H0 hc0 hc1 hc2
    have hc2 : w1.cell? ⟨w.heap.size, 2, none⟩ = some (.string ⟨t.toArray⟩) := by rw [cell_of_row _ _ _ _ _ _ hq1.out]; rfl
    go_wp2_with (first | (go_at_call 38; refine (HC.out _).mono ?_))
    rintro e w2 ⟨rfl, hb2⟩
    have HB2 := hid (HB1.out.trans (hb2.mono HB1.out.size))
    have hq2 := hid (row_kept hq1.out hb2)
    clear hb2 hc2 HC HB1 hq1
    have hc2 : w2.cell? ⟨w.heap.size, 2, none⟩ = some (.string ⟨t.toArray⟩) := by rw [cell_of_row _ _ _ _ _ _ hq2.out]; rfl
    have hf2 : w2.frozen? ⟨w.heap.size, 2, none⟩ = false := frozen_of_row _ _ _ _ _ hq2.out
    go_upto_region 3 with fail
    have HT3 : Hid (Touch w.heap.size w2 (w2.setCell ⟨w.heap.size, 2, none⟩ (.string ⟨t.toArray⟩))) := touch_setCell _ _ _ _
    have hq3 : Hid ((w2.setCell ⟨w.heap.size, 2, none⟩ (.string ⟨t.toArray⟩)).heap[w.heap.size]? = some (.cells #[.int .i64 c, .int .i64 d, .string ⟨t.toArray⟩] 62)) := heap_setCell_same _ _ _ _ _ _ hq2.out
    generalize w2.setCell ⟨w.heap.size, 2, none⟩ (.string ⟨t.toArray⟩) = w3 at *
    clear hc2 hf2 hq2
    have r3 : Hid (RingAt w3 p h g b s n L) := by
      have r2 := r0.out.kept HB2.out
      have hlt := r2.book.lt
      have e := HT3.out.block
      refine ⟨row_touch r2.obj HT3.out ?_, row_touch r2.var HT3.out ?_, row_touch r2.keys HT3.out ?_, r2.book.at (e b hlt (Ne.symm Hqb.out))⟩
      · have := row_lt r.obj; omega
      · have := row_lt r.var; omega
      · have := row_lt r.keys; omega
    have H3b : Hid (w3.heap[b]? = w.heap[b]?) := (HT3.out.block b (r0.out.kept HB2.out).book.lt (Ne.symm Hqb.out)).trans (Hbb.out _ HB2.out)
    have HT : Hid (Touch b w w3) := Touch.of ((HB0.out.trans (HB2.out.mono HB0.out.size)).trans (HT3.out.below (Nat.le_refl _) (by have := HB0.out.size; have := HB2.out.size; omega)))
    have HH : Hid (∀ W, Touch b w3 W → W.cell? ⟨p, 3, none⟩ = some (.map (some b)) ∧ W.cell? ⟨w.heap.size, 0, none⟩ = some (.int .i64 c) ∧ W.cell? ⟨w.heap.size, 1, none⟩ = some (.int .i64 d) ∧ W.cell? ⟨w.heap.size, 2, none⟩ = some (.string ⟨t.toArray⟩)) := by
      intro W hb
      have hq' := row_touch hq3.out hb Hqb.out
      have hp' := row_touch r3.out.obj hb (r3.out.book.ne r3.out.obj)
      refine ⟨?_, ?_, ?_, ?_⟩
      · rw [cell_of_row _ _ _ _ _ _ hp']; rfl
      · rw [cell_of_row _ _ _ _ _ _ hq']; rfl
      · rw [cell_of_row _ _ _ _ _ _ hq']; rfl
      · rw [cell_of_row _ _ _ _ _ _ hq']; rfl
    have hU : (Instr.mapUpdate 58 (.map (some b)) (.agg #[.int .i64 c, .int .i64 d, .string ⟨t.toArray⟩]) (.agg #[])).run Tryd.prog w3.drew = .ok () (setBlock w3.drew b o) := (HO.out w3.drew H3b.out).1
    have HBk : Hid (Book (setBlock w3.drew b o) b (L ++ [(c, d, t)])) := (HO.out w3.drew H3b.out).2
    have HTd : Hid (Touch b w3 w3.drew) := Touch.of (Below.refl _ _).drew
    have HTs : Hid (Touch b w3 (setBlock w3.drew b o)) := HTd.out.trans (touch_setBlock _ _ _)
    clear r Hbb hq hq3 HT3 HB2 Hqb
    obtain ⟨q, hqq⟩ : ∃ q, q = w.heap.size := ⟨_, rfl⟩
    rw [← hqq] at HH ⊢
    clear hqq
    go_region_held3 (fun W => W.cell? ⟨p, 3, none⟩ = some (.map (some b)) ∧ W.cell? ⟨q, 0, none⟩ = some (.int .i64 c) ∧ W.cell? ⟨q, 1, none⟩ = some (.int .i64 d) ∧ W.cell? ⟨q, 2, none⟩ = some (.string ⟨t.toArray⟩))
      (first | exact HH.out _ (Touch.refl _ _) | exact HH.out _ HTd.out | exact HH.out _ HTs.out) (fail)
    go_end0
    exact ⟨rfl, by rw [hN.out]; exact r3.out.grown HBk.out HTs.out, HT.out.trans HTs.out⟩
end

end Go.Proofs.YtoddlbggbkabnaaDoor
