/-
  What a ring's has and Made answer.
-/
import Derived.Test.YtmfpmajkjhmliaaGreatDoorG22
namespace Go.Proofs.YtmfpmajkjhmliaaGreatDoor
open Go Go.RowKit
set_option maxRecDepth 100000
theorem below_drew' {B : Nat} {w w' : World} (h : Below B w w') : Below B w w'.drew := h.drew
theorem below_alloc' {w w' : World} (h : Below w.heap.size w w') (o : Obj) : Below w.heap.size w (w'.alloc o) := h.alloc h.size o
section
variable {w : World} {p h g b n : Nat} {s : List UInt8} {L : List Ent}
set_option maxHeartbeats 1000000 in
theorem has_any (r : RingAt w p h g b s n L) (c d : Int) (t : List UInt8) (hx : EntWf (c, d, t)) :
    Calls Tryz.prog 133 #[.pointer (some ⟨p, 0, none⟩), .agg #[.int .i64 c, .int .i64 d, .string ⟨t.toArray⟩]] w fun e w' => e = .returned (.bool (decide ((c, d, t) ∈ L))) ∧ Below w.heap.size w w' := by
  have HB0 : Hid (Below w.heap.size w (w.alloc (.cells #[.int .i64 c, .int .i64 d, .string ⟨t.toArray⟩] 166))) := below_a1 w _
  have r0 := r.kept HB0.out
  have hq : (w.alloc (.cells #[.int .i64 c, .int .i64 d, .string ⟨t.toArray⟩] 166)).heap[w.heap.size]? = some (.cells #[.int .i64 c, .int .i64 d, .string ⟨t.toArray⟩] 166) := top_row w _
  go_enter Tryz.func133, Tryz.ntmps133
  go_upto_region 1 with fail
  generalize w.alloc (.cells #[.int .i64 c, .int .i64 d, .string ⟨t.toArray⟩] 166) = w0 at *
  obtain ⟨q, hq0⟩ : ∃ q, q = w.heap.size := ⟨_, rfl⟩
  rw [← hq0] at hq
  have hh : ∀ W, Below w0.heap.size w0 W → W.cell? ⟨p, 3, none⟩ = some (.map (some b)) ∧ W.cell? ⟨q, 0, none⟩ = some (.int .i64 c) ∧ W.cell? ⟨q, 1, none⟩ = some (.int .i64 d) ∧ W.cell? ⟨q, 2, none⟩ = some (.string ⟨t.toArray⟩) ∧
      (Instr.lookup 103 (.map (some b)) (.agg #[.int .i64 c, .int .i64 d, .string ⟨t.toArray⟩]) true).run Tryz.prog W = .ok (.tuple #[.agg #[], .bool (decide ((c, d, t) ∈ L))]) W := by
    intro W hb
    have hq' := row_kept hq hb
    refine ⟨(r0.kept hb).c3, ?_, ?_, ?_, book_look (r0.kept hb).book hx⟩
    · rw [cell_of_row _ _ _ _ _ _ hq']; rfl
    · rw [cell_of_row _ _ _ _ _ _ hq']; rfl
    · rw [cell_of_row _ _ _ _ _ _ hq']; rfl
  have HH := hid hh
  clear hh hq r0 r
  have HQ := hid hq0
  obtain ⟨B, hB⟩ : ∃ B, B = decide ((c, d, t) ∈ L) := ⟨_, rfl⟩
  have HBe := hid hB
  rw [← hB] at HH
  rw [← hq0]
  clear hB hq0
  go_region_held3 (fun W => W.cell? ⟨p, 3, none⟩ = some (.map (some b)) ∧ W.cell? ⟨q, 0, none⟩ = some (.int .i64 c) ∧ W.cell? ⟨q, 1, none⟩ = some (.int .i64 d) ∧ W.cell? ⟨q, 2, none⟩ = some (.string ⟨t.toArray⟩) ∧
      (Instr.lookup 103 (.map (some b)) (.agg #[.int .i64 c, .int .i64 d, .string ⟨t.toArray⟩]) true).run Tryz.prog W = .ok (.tuple #[.agg #[], .bool B]) W)
    (first | exact HH.out _ (Below.refl _ _) | exact HH.out _ (Below.refl _ _).drew | exact HH.out _ (below_alloc' (Below.refl _ _) _) | exact HH.out _ (below_alloc' (Below.refl _ _).drew _) | exact HH.out _ (below_alloc' (Below.refl _ _) _).drew | exact HH.out _ (below_alloc' (Below.refl _ _).drew _).drew) (fail)
  all_goals go_wp2
  all_goals go_ret
  all_goals refine ⟨by rw [← HBe.out]; rfl, HB0.out.trans (Below.mono ?_ HB0.out.size)⟩
  all_goals repeat first | exact Below.refl _ _ | refine below_drew' ?_ | refine below_alloc' ?_ _ | refine below_drawn ?_ _
end
open Go Go.RowKit
set_option maxRecDepth 100000
theorem may_ways (n : Nat) (c d : Int) (t : List UInt8) (B : Bool) (hB : B = decide (May n (c, d, t))) :
    (decide ((0 : Int) ≤ c) = false ∧ decide ((1 : Int) ≤ d) = false ∧ B = false) ∨ (decide ((0 : Int) ≤ c) = false ∧ decide ((1 : Int) ≤ d) = true ∧ decide (d ≤ (6 : Int)) = false ∧ B = false) ∨ (decide ((0 : Int) ≤ c) = false ∧ decide ((1 : Int) ≤ d) = true ∧ decide (d ≤ (6 : Int)) = true ∧ B = false) ∨
    (decide ((0 : Int) ≤ c) = true ∧ decide (c < (n : Int)) = false ∧ decide ((1 : Int) ≤ d) = false ∧ B = false) ∨ (decide ((0 : Int) ≤ c) = true ∧ decide (c < (n : Int)) = false ∧ decide ((1 : Int) ≤ d) = true ∧ decide (d ≤ (6 : Int)) = false ∧ B = false) ∨ (decide ((0 : Int) ≤ c) = true ∧ decide (c < (n : Int)) = false ∧ decide ((1 : Int) ≤ d) = true ∧ decide (d ≤ (6 : Int)) = true ∧ B = false) ∨
    (decide ((0 : Int) ≤ c) = true ∧ decide (c < (n : Int)) = true ∧ decide ((1 : Int) ≤ d) = false ∧ B = false) ∨ (decide ((0 : Int) ≤ c) = true ∧ decide (c < (n : Int)) = true ∧ decide ((1 : Int) ≤ d) = true ∧ decide (d ≤ (6 : Int)) = false ∧ B = false) ∨
    (decide ((0 : Int) ≤ c) = true ∧ decide (c < (n : Int)) = true ∧ decide ((1 : Int) ≤ d) = true ∧ decide (d ≤ (6 : Int)) = true ∧ decide ((t.length : Int) ≤ 16384) = false ∧ B = false) ∨ (decide ((0 : Int) ≤ c) = true ∧ decide (c < (n : Int)) = true ∧ decide ((1 : Int) ≤ d) = true ∧ decide (d ≤ (6 : Int)) = true ∧ decide ((t.length : Int) ≤ 16384) = true ∧ B = true) := by
  simp only [decide_eq_true_eq, decide_eq_false_iff_not]
  by_cases h : May n (c, d, t)
  · have hb : B = true := by rw [hB]; exact decide_eq_true h
    have h' : 0 ≤ c ∧ c < n ∧ 1 ≤ d ∧ d ≤ 6 ∧ t.length ≤ 16384 := h
    simp only [hb, and_true, Bool.true_eq_false, and_false, false_or]
    omega
  · have hf : B = false := by rw [hB]; exact decide_eq_false h
    have hn : ¬ (0 ≤ c ∧ c < n ∧ 1 ≤ d ∧ d ≤ 6 ∧ t.length ≤ 16384) := h
    simp only [hf, and_true, Bool.false_eq_true, and_false, or_false]
    omega
set_option maxHeartbeats 4000000 in
theorem may_gen (w : World) (po : Option Addr) (n : Nat) (HC : Hid (∀ W, Below w.heap.size w W → Calls Tryz.prog 106 #[.pointer po] W fun e w' => e = .returned (.int .i64 n) ∧ w' = W)) (c d : Int) (t : List UInt8) (B : Bool) (hB : B = decide (May n (c, d, t))) :
    Calls Tryz.prog 98 #[.pointer po, .agg #[.int .i64 c, .int .i64 d, .string ⟨t.toArray⟩]] w fun e w' => e = .returned (.bool B) ∧ Below w.heap.size w w' := by
  have hw := may_ways n c d t B hB
  have hs : (⟨t.toArray⟩ : ByteArray).size = t.length := rfl
  clear hB
  have HB0 : Hid (Below w.heap.size w (w.alloc (.cells #[.int .i64 c, .int .i64 d, .string ⟨t.toArray⟩] 166))) := below_a1 w _
  have hq : (w.alloc (.cells #[.int .i64 c, .int .i64 d, .string ⟨t.toArray⟩] 166)).heap[w.heap.size]? = some (.cells #[.int .i64 c, .int .i64 d, .string ⟨t.toArray⟩] 166) := top_row w _
  have hq0 : (w.alloc (.cells #[.int .i64 c, .int .i64 d, .string ⟨t.toArray⟩] 166)).cell? ⟨w.heap.size, 0, none⟩ = some (.int .i64 c) := by rw [cell_of_row _ _ _ _ _ _ hq]; rfl
  have hq1 : (w.alloc (.cells #[.int .i64 c, .int .i64 d, .string ⟨t.toArray⟩] 166)).cell? ⟨w.heap.size, 1, none⟩ = some (.int .i64 d) := by rw [cell_of_row _ _ _ _ _ _ hq]; rfl
  have hq2 : (w.alloc (.cells #[.int .i64 c, .int .i64 d, .string ⟨t.toArray⟩] 166)).cell? ⟨w.heap.size, 2, none⟩ = some (.string ⟨t.toArray⟩) := by rw [cell_of_row _ _ _ _ _ _ hq]; rfl
  clear hq
  go_enter Tryz.func98, Tryz.ntmps98
  go_upto_region 1 with fail
  generalize w.alloc (.cells #[.int .i64 c, .int .i64 d, .string ⟨t.toArray⟩] 166) = w0 at *
  have HC0 : Hid (∀ W, Below w0.heap.size w0 W → Calls Tryz.prog 106 #[.pointer po] W fun e w' => e = .returned (.int .i64 n) ∧ w' = W) := fun W hb => HC.out W (HB0.out.trans (hb.mono HB0.out.size))
  clear HC
  rcases hw with ⟨a1, a2, rfl⟩ | ⟨a1, a2, a3, rfl⟩ | ⟨a1, a2, a3, rfl⟩ | ⟨a1, a2, a3, rfl⟩ | ⟨a1, a2, a3, a4, rfl⟩ | ⟨a1, a2, a3, a4, rfl⟩ | ⟨a1, a2, a3, rfl⟩ | ⟨a1, a2, a3, a4, rfl⟩ | ⟨a1, a2, a3, a4, a5, rfl⟩ | ⟨a1, a2, a3, a4, a5, rfl⟩
  all_goals go_quiet (first | (go_at_call 106; refine Calls.quiet_of_same (HC0.out _ (below_drawn (Below.refl _ _) _))))
  all_goals go_wp2
  all_goals go_ret
  all_goals exact ⟨rfl, below_drawn HB0.out _⟩
open Go Go.RowKit
open Go.ChangeMaps (setBlock)
set_option maxRecDepth 100000
theorem book_put' {w : World} {b : Nat} {L : List Ent} (h : Book w b L) {x : Ent} (hx : EntWf x) (hn : x ∉ L) (hr : L.length < 1000000) :
    ∃ o, ∀ W, W.heap[b]? = w.heap[b]? → (Instr.mapUpdate 103 (.map (some b)) (entV x) (.agg #[])).run Tryz.prog W = .ok () (setBlock W b o) ∧ Book (setBlock W b o) b (L ++ [x]) := by
  obtain ⟨es, clock, hb, F, hk⟩ := h
  obtain ⟨l, hl⟩ := keyE hx
  have e1 : es.size = L.length := by have := congrArg List.length hk; simpa using this
  have hkeys : ∀ e ∈ es.toList, ∃ l, keyOf Tryz.prog 166 e.key = some l := fun e he => by
    obtain ⟨y, hy⟩ := F.reads e he
    exact ⟨_, WideElems.rd_key hy⟩
  have hne : ∀ e ∈ es.toList, e.key ≠ entV x := by
    intro e he hee
    apply hn
    have : entV x ∈ L.map entV := by rw [← hk]; exact List.mem_map.2 ⟨e, he, hee⟩
    obtain ⟨y, hy, hyy⟩ := List.mem_map.1 this
    rw [← entV_inj hyy]; exact hy
  refine ⟨.map (es.push ⟨entV x, .agg #[], clock⟩) (clock + 1), fun W hW => ?_⟩
  have hb' : W.heap[b]? = some (.map es clock) := hW.trans hb
  rcases keyedE.find W hl es.toList hkeys with ⟨h1, h2⟩ | ⟨j, e0, h1, h2, h3⟩
  · refine ⟨?_, ⟨_, _, ChangeMaps.heap_setBlock_same hb' _, ⟨by simp [maxLen]; omega, MapKept.stamped_push F.stamped h2, ?_⟩, ?_⟩⟩
    · simp [Instr.mapUpdate, run_underlying Tryz.underlying103, MapKept.run_getObj_map hb', keyedE.check W false hl, h1, MapKept.run_setObj_map _ hb', Result.andThen, setBlock]
    · intro e he
      simp only [Array.toList_push, List.mem_append, List.mem_singleton] at he
      rcases he with he | rfl
      · exact F.reads e he
      · exact ⟨_, WideElems.rd_mk hl unitElem_mk⟩
    · simp [hk]
  · exact absurd h3 (hne e0 (List.mem_of_getElem? h2))
theorem clone_any (l : List UInt8) (w : World) (hl : l.length ≤ 1000000) : Calls Tryz.prog 80 #[.string ⟨l.toArray⟩] w fun e w' => e = .returned (.string ⟨l.toArray⟩) ∧ Below w.heap.size w w' := by
  have H := hid (fun W => Tryz.stringslite_Clone ⟨l.toArray⟩ W (by show l.length ≤ _; omega))
  go_enter Tryz.func80, Tryz.ntmps80
  go_wp2_with (first | (go_at_call 123; refine (H.out _).mono ?_))
  rintro e w1 ⟨rfl, hb⟩
  have HB := hid hb
  clear hb
  go_wp2
  go_ret
  exact ⟨rfl, HB.out⟩
def noteL (L : List Ent) (x : Ent) : List Ent := if x ∈ L then L else L ++ [x]
section
variable {w : World} {p h g b n : Nat} {s : List UInt8} {L : List Ent}
set_option maxHeartbeats 1000000 in
theorem note_any (r : RingAt w p h g b s n L) (c d : Int) (t : List UInt8) (hx : EntWf (c, d, t)) (hl : t.length ≤ 16384) (hr : L.length < 1000000) :
    Calls Tryz.prog 99 #[.pointer (some ⟨p, 0, none⟩), .agg #[.int .i64 c, .int .i64 d, .string ⟨t.toArray⟩]] w fun e w' => e = .returned (.tuple #[]) ∧ RingAt w' p h g b s n (noteL L (c, d, t)) ∧ Touch b w w' := by
  have HB0 : Hid (Below w.heap.size w (w.alloc (.cells #[.int .i64 c, .int .i64 d, .string ⟨t.toArray⟩] 166))) := below_a1 w _
  have r0 := hid (r.kept HB0.out)
  have hq := hid (top_row w (.cells #[.int .i64 c, .int .i64 d, .string ⟨t.toArray⟩] 166))
  have HC := hid (fun W => clone_any t W (by omega))
  have Hqb : Hid (w.heap.size ≠ b) := by have := r.book.lt; show _ ≠ _; omega
  by_cases hin : (c, d, t) ∈ L
  · have hN : Hid (noteL L (c, d, t) = L) := if_pos hin
    have H0 := hid (has_any r0.out c d t hx)
    rw [decide_eq_true hin] at H0
    clear hin
    go_enter Tryz.func99, Tryz.ntmps99
    go_upto_region 1 with fail
    have hc0 : (w.alloc (.cells #[.int .i64 c, .int .i64 d, .string ⟨t.toArray⟩] 166)).cell? ⟨w.heap.size, 0, none⟩ = some (.int .i64 c) := by rw [cell_of_row _ _ _ _ _ _ hq.out]; rfl
    have hc1 : (w.alloc (.cells #[.int .i64 c, .int .i64 d, .string ⟨t.toArray⟩] 166)).cell? ⟨w.heap.size, 1, none⟩ = some (.int .i64 d) := by rw [cell_of_row _ _ _ _ _ _ hq.out]; rfl
    have hc2 : (w.alloc (.cells #[.int .i64 c, .int .i64 d, .string ⟨t.toArray⟩] 166)).cell? ⟨w.heap.size, 2, none⟩ = some (.string ⟨t.toArray⟩) := by rw [cell_of_row _ _ _ _ _ _ hq.out]; rfl
    generalize w.alloc (.cells #[.int .i64 c, .int .i64 d, .string ⟨t.toArray⟩] 166) = w0 at *
    go_wp2_with (first | (go_at_call 133; refine Calls.mono H0.out ?_))
    rintro e w1 ⟨rfl, hb1⟩
    have HB1 := hid hb1
    clear hb1 H0 hc0 hc1 hc2
    go_wp2
    refine bodyPost_ret (results_none (by kernel_rfl) _ _ _) rfl ?_
    exact ⟨rfl, by rw [hN.out]; exact r0.out.kept HB1.out, Touch.of (HB0.out.trans (HB1.out.mono HB0.out.size))⟩
  · have hN : Hid (noteL L (c, d, t) = L ++ [(c, d, t)]) := if_neg hin
    have H0 := hid (has_any r0.out c d t hx)
    rw [decide_eq_false hin] at H0
    obtain ⟨o, ho⟩ := book_put' r.book hx hin hr
    have HO := hid ho
    have Hbb : Hid (∀ W, Below (w.alloc (.cells #[.int .i64 c, .int .i64 d, .string ⟨t.toArray⟩] 166)).heap.size (w.alloc (.cells #[.int .i64 c, .int .i64 d, .string ⟨t.toArray⟩] 166)) W → W.heap[b]? = w.heap[b]?) := fun W hb => by
      rw [hb.block b r0.out.book.lt]; exact HB0.out.block b r.book.lt
    clear hin ho
    go_enter Tryz.func99, Tryz.ntmps99
    go_upto_region 1 with fail
    have hc0 : (w.alloc (.cells #[.int .i64 c, .int .i64 d, .string ⟨t.toArray⟩] 166)).cell? ⟨w.heap.size, 0, none⟩ = some (.int .i64 c) := by rw [cell_of_row _ _ _ _ _ _ hq.out]; rfl
    have hc1 : (w.alloc (.cells #[.int .i64 c, .int .i64 d, .string ⟨t.toArray⟩] 166)).cell? ⟨w.heap.size, 1, none⟩ = some (.int .i64 d) := by rw [cell_of_row _ _ _ _ _ _ hq.out]; rfl
    have hc2 : (w.alloc (.cells #[.int .i64 c, .int .i64 d, .string ⟨t.toArray⟩] 166)).cell? ⟨w.heap.size, 2, none⟩ = some (.string ⟨t.toArray⟩) := by rw [cell_of_row _ _ _ _ _ _ hq.out]; rfl
    generalize w.alloc (.cells #[.int .i64 c, .int .i64 d, .string ⟨t.toArray⟩] 166) = w0 at *
    go_wp2_with (first | (go_at_call 133; refine Calls.mono H0.out ?_))
    rintro e w1 ⟨rfl, hb1⟩
    have HB1 := hid hb1
    have hq1 := hid (row_kept hq.out hb1)
    clear hb1 H0 hc0 hc1 hc2
    have hc2 : w1.cell? ⟨w.heap.size, 2, none⟩ = some (.string ⟨t.toArray⟩) := by rw [cell_of_row _ _ _ _ _ _ hq1.out]; rfl
    go_wp2_with (first | (go_at_call 80; refine (HC.out _).mono ?_))
    rintro e w2 ⟨rfl, hb2⟩
    have HB2 := hid (HB1.out.trans (hb2.mono HB1.out.size))
    have hq2 := hid (row_kept hq1.out hb2)
    clear hb2 hc2 HC HB1 hq1
    have hc2 : w2.cell? ⟨w.heap.size, 2, none⟩ = some (.string ⟨t.toArray⟩) := by rw [cell_of_row _ _ _ _ _ _ hq2.out]; rfl
    have hf2 : w2.frozen? ⟨w.heap.size, 2, none⟩ = false := frozen_of_row _ _ _ _ _ hq2.out
    go_upto_region 3 with fail
    have HT3 : Hid (Touch w.heap.size w2 (w2.setCell ⟨w.heap.size, 2, none⟩ (.string ⟨t.toArray⟩))) := touch_setCell _ _ _ _
    have hq3 : Hid ((w2.setCell ⟨w.heap.size, 2, none⟩ (.string ⟨t.toArray⟩)).heap[w.heap.size]? = some (.cells #[.int .i64 c, .int .i64 d, .string ⟨t.toArray⟩] 166)) := heap_setCell_same _ _ _ _ _ _ hq2.out
    generalize w2.setCell ⟨w.heap.size, 2, none⟩ (.string ⟨t.toArray⟩) = w3 at *
    clear hc2 hf2 hq2
    have r3 : Hid (RingAt w3 p h g b s n L) := by
      have r2 := r0.out.kept HB2.out
      have hlt := r2.book.lt
      have e := HT3.out.block
      refine ⟨row_touch r2.obj HT3.out ?_, row_touch r2.var HT3.out ?_, row_touch r2.keys HT3.out ?_, r2.book.at (e b hlt (Ne.symm Hqb.out))⟩
      · have := row_lt r.obj; omega
      · have := row_lt r.var; omega
      · have := row_lt r.keys; omega
    have H3b : Hid (w3.heap[b]? = w.heap[b]?) := (HT3.out.block b (r0.out.kept HB2.out).book.lt (Ne.symm Hqb.out)).trans (Hbb.out _ HB2.out)
    have HT : Hid (Touch b w w3) := Touch.of ((HB0.out.trans (HB2.out.mono HB0.out.size)).trans (HT3.out.below (Nat.le_refl _) (by have := HB0.out.size; have := HB2.out.size; omega)))
    have HH : Hid (∀ W, Touch b w3 W → W.cell? ⟨p, 3, none⟩ = some (.map (some b)) ∧ W.cell? ⟨w.heap.size, 0, none⟩ = some (.int .i64 c) ∧ W.cell? ⟨w.heap.size, 1, none⟩ = some (.int .i64 d) ∧ W.cell? ⟨w.heap.size, 2, none⟩ = some (.string ⟨t.toArray⟩)) := by
      intro W hb
      have hq' := row_touch hq3.out hb Hqb.out
      have hp' := row_touch r3.out.obj hb (r3.out.book.ne r3.out.obj)
      refine ⟨?_, ?_, ?_, ?_⟩
      · rw [cell_of_row _ _ _ _ _ _ hp']; rfl
      · rw [cell_of_row _ _ _ _ _ _ hq']; rfl
      · rw [cell_of_row _ _ _ _ _ _ hq']; rfl
      · rw [cell_of_row _ _ _ _ _ _ hq']; rfl
    have hU : (Instr.mapUpdate 103 (.map (some b)) (.agg #[.int .i64 c, .int .i64 d, .string ⟨t.toArray⟩]) (.agg #[])).run Tryz.prog w3.drew = .ok () (setBlock w3.drew b o) := (HO.out w3.drew H3b.out).1
    have HBk : Hid (Book (setBlock w3.drew b o) b (L ++ [(c, d, t)])) := (HO.out w3.drew H3b.out).2
    have HTd : Hid (Touch b w3 w3.drew) := Touch.of (Below.refl _ _).drew
    have HTs : Hid (Touch b w3 (setBlock w3.drew b o)) := HTd.out.trans (touch_setBlock _ _ _)
    clear r Hbb hq hq3 HT3 HB2 Hqb
    obtain ⟨q, hqq⟩ : ∃ q, q = w.heap.size := ⟨_, rfl⟩
    rw [← hqq] at HH ⊢
    clear hqq
    go_region_held3 (fun W => W.cell? ⟨p, 3, none⟩ = some (.map (some b)) ∧ W.cell? ⟨q, 0, none⟩ = some (.int .i64 c) ∧ W.cell? ⟨q, 1, none⟩ = some (.int .i64 d) ∧ W.cell? ⟨q, 2, none⟩ = some (.string ⟨t.toArray⟩))
      (first | exact HH.out _ (Touch.refl _ _) | exact HH.out _ HTd.out | exact HH.out _ HTs.out) (fail)
    go_end0
    exact ⟨rfl, by rw [hN.out]; exact r3.out.grown HBk.out HTs.out, HT.out.trans HTs.out⟩
end
end Go.Proofs.YtmfpmajkjhmliaaGreatDoor
