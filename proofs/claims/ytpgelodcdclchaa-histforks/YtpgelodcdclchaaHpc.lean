/-
  What hist.Place answers.
-/
import Derived.Test.YtpgelodcdclchaaHct
namespace Go.Proofs.Ytpgelodcdclchaa.Hist
open Go Go.RowKit Go.Shelf
set_option maxRecDepth 100000
attribute [local go_sem] Oper.semAt_some

set_option maxHeartbeats 2000000 in
theorem place_any (h : List UInt8) (hl : h.length < 9223372036854775807) (c n : Int) (w : World) : Calls Try.prog 15 #[.string ⟨h.toArray⟩, .int .i64 c, .int .i64 n] w fun e w' =>
    e = .returned (.int .i64 (placeI h c n)) ∧ Below w.heap.size w w' := by
  have hC := fun W => operations_any h W
  refine (callsIn_wide (n := 3)).1 ?_
  refine callsIn_of_wp_marks Try.func15 rfl trivial ?_ rfl
  simp only [Try.ntmps15, List.size_toArray, List.length_cons, List.length_nil, Nat.reduceAdd, Nat.reduceSub, Array.replicate_succ, Array.replicate_zero, List.push_toArray, List.append_toArray, List.nil_append, List.cons_append]
  gi_wp2_with (refine ⟨trivial, ?_⟩; gi_at_call 27; refine (callsIn_wide.2 (hC _)).mono ?_; rintro e w' ⟨rfl, rfl⟩)
  have hbw : Below w.heap.size w (((((w.alloc (.cells #[.int .i64 c] 3)).alloc (.cells #[.int .i64 n] 3)).alloc (.cells #[.int .i64 0] 3)).alloc (.cells #[.int .i64 0] 3)).alloc (.cells #[.string ⟨h.toArray⟩] 9)) := (((((Below.refl _ w).alloc (by first | (simp; done) | (simp; omega)) _).alloc (by first | (simp; done) | (simp; omega)) _).alloc (by first | (simp; done) | (simp; omega)) _).alloc (by first | (simp; done) | (simp; omega)) _).alloc (by first | (simp; done) | (simp; omega)) _
  have r0 : (((((w.alloc (.cells #[.int .i64 c] 3)).alloc (.cells #[.int .i64 n] 3)).alloc (.cells #[.int .i64 0] 3)).alloc (.cells #[.int .i64 0] 3)).alloc (.cells #[.string ⟨h.toArray⟩] 9)).heap[w.heap.size]? = some (.cells #[.int .i64 c] 3) := by
    have e : (w.alloc (.cells #[.int .i64 c] 3)).heap[w.heap.size]? = some (.cells #[.int .i64 c] 3) := by
      exact top_obj w _
    have e := (Below.heap_alloc (w.alloc (.cells #[.int .i64 c] 3)) (.cells #[.int .i64 n] 3) (w.heap.size) (by first | (simp; done) | (simp; omega))).trans e
    have e := (Below.heap_alloc ((w.alloc (.cells #[.int .i64 c] 3)).alloc (.cells #[.int .i64 n] 3)) (.cells #[.int .i64 0] 3) (w.heap.size) (by first | (simp; done) | (simp; omega))).trans e
    have e := (Below.heap_alloc (((w.alloc (.cells #[.int .i64 c] 3)).alloc (.cells #[.int .i64 n] 3)).alloc (.cells #[.int .i64 0] 3)) (.cells #[.int .i64 0] 3) (w.heap.size) (by first | (simp; done) | (simp; omega))).trans e
    have e := (Below.heap_alloc ((((w.alloc (.cells #[.int .i64 c] 3)).alloc (.cells #[.int .i64 n] 3)).alloc (.cells #[.int .i64 0] 3)).alloc (.cells #[.int .i64 0] 3)) (.cells #[.string ⟨h.toArray⟩] 9) (w.heap.size) (by first | (simp; done) | (simp; omega))).trans e
    exact e
  have r1 : (((((w.alloc (.cells #[.int .i64 c] 3)).alloc (.cells #[.int .i64 n] 3)).alloc (.cells #[.int .i64 0] 3)).alloc (.cells #[.int .i64 0] 3)).alloc (.cells #[.string ⟨h.toArray⟩] 9)).heap[w.heap.size + 1]? = some (.cells #[.int .i64 n] 3) := by
    have e : ((w.alloc (.cells #[.int .i64 c] 3)).alloc (.cells #[.int .i64 n] 3)).heap[w.heap.size + 1]? = some (.cells #[.int .i64 n] 3) := by
      have z : (w.alloc (.cells #[.int .i64 c] 3)).heap.size = w.heap.size + 1 := by simp
      rw [← z]; exact top_obj _ _
    have e := (Below.heap_alloc ((w.alloc (.cells #[.int .i64 c] 3)).alloc (.cells #[.int .i64 n] 3)) (.cells #[.int .i64 0] 3) (w.heap.size + 1) (by first | (simp; done) | (simp; omega))).trans e
    have e := (Below.heap_alloc (((w.alloc (.cells #[.int .i64 c] 3)).alloc (.cells #[.int .i64 n] 3)).alloc (.cells #[.int .i64 0] 3)) (.cells #[.int .i64 0] 3) (w.heap.size + 1) (by first | (simp; done) | (simp; omega))).trans e
    have e := (Below.heap_alloc ((((w.alloc (.cells #[.int .i64 c] 3)).alloc (.cells #[.int .i64 n] 3)).alloc (.cells #[.int .i64 0] 3)).alloc (.cells #[.int .i64 0] 3)) (.cells #[.string ⟨h.toArray⟩] 9) (w.heap.size + 1) (by first | (simp; done) | (simp; omega))).trans e
    exact e
  have r2 : (((((w.alloc (.cells #[.int .i64 c] 3)).alloc (.cells #[.int .i64 n] 3)).alloc (.cells #[.int .i64 0] 3)).alloc (.cells #[.int .i64 0] 3)).alloc (.cells #[.string ⟨h.toArray⟩] 9)).heap[w.heap.size + 2]? = some (.cells #[.int .i64 0] 3) := by
    have e : (((w.alloc (.cells #[.int .i64 c] 3)).alloc (.cells #[.int .i64 n] 3)).alloc (.cells #[.int .i64 0] 3)).heap[w.heap.size + 2]? = some (.cells #[.int .i64 0] 3) := by
      have z : ((w.alloc (.cells #[.int .i64 c] 3)).alloc (.cells #[.int .i64 n] 3)).heap.size = w.heap.size + 2 := by simp
      rw [← z]; exact top_obj _ _
    have e := (Below.heap_alloc (((w.alloc (.cells #[.int .i64 c] 3)).alloc (.cells #[.int .i64 n] 3)).alloc (.cells #[.int .i64 0] 3)) (.cells #[.int .i64 0] 3) (w.heap.size + 2) (by first | (simp; done) | (simp; omega))).trans e
    have e := (Below.heap_alloc ((((w.alloc (.cells #[.int .i64 c] 3)).alloc (.cells #[.int .i64 n] 3)).alloc (.cells #[.int .i64 0] 3)).alloc (.cells #[.int .i64 0] 3)) (.cells #[.string ⟨h.toArray⟩] 9) (w.heap.size + 2) (by first | (simp; done) | (simp; omega))).trans e
    exact e
  have r3 : (((((w.alloc (.cells #[.int .i64 c] 3)).alloc (.cells #[.int .i64 n] 3)).alloc (.cells #[.int .i64 0] 3)).alloc (.cells #[.int .i64 0] 3)).alloc (.cells #[.string ⟨h.toArray⟩] 9)).heap[w.heap.size + 3]? = some (.cells #[.int .i64 0] 3) := by
    have e : ((((w.alloc (.cells #[.int .i64 c] 3)).alloc (.cells #[.int .i64 n] 3)).alloc (.cells #[.int .i64 0] 3)).alloc (.cells #[.int .i64 0] 3)).heap[w.heap.size + 3]? = some (.cells #[.int .i64 0] 3) := by
      have z : (((w.alloc (.cells #[.int .i64 c] 3)).alloc (.cells #[.int .i64 n] 3)).alloc (.cells #[.int .i64 0] 3)).heap.size = w.heap.size + 3 := by simp
      rw [← z]; exact top_obj _ _
    have e := (Below.heap_alloc ((((w.alloc (.cells #[.int .i64 c] 3)).alloc (.cells #[.int .i64 n] 3)).alloc (.cells #[.int .i64 0] 3)).alloc (.cells #[.int .i64 0] 3)) (.cells #[.string ⟨h.toArray⟩] 9) (w.heap.size + 3) (by first | (simp; done) | (simp; omega))).trans e
    exact e
  have r4 : (((((w.alloc (.cells #[.int .i64 c] 3)).alloc (.cells #[.int .i64 n] 3)).alloc (.cells #[.int .i64 0] 3)).alloc (.cells #[.int .i64 0] 3)).alloc (.cells #[.string ⟨h.toArray⟩] 9)).heap[w.heap.size + 4]? = some (.cells #[.string ⟨h.toArray⟩] 9) := by
    have e : (((((w.alloc (.cells #[.int .i64 c] 3)).alloc (.cells #[.int .i64 n] 3)).alloc (.cells #[.int .i64 0] 3)).alloc (.cells #[.int .i64 0] 3)).alloc (.cells #[.string ⟨h.toArray⟩] 9)).heap[w.heap.size + 4]? = some (.cells #[.string ⟨h.toArray⟩] 9) := by
      have z : ((((w.alloc (.cells #[.int .i64 c] 3)).alloc (.cells #[.int .i64 n] 3)).alloc (.cells #[.int .i64 0] 3)).alloc (.cells #[.int .i64 0] 3)).heap.size = w.heap.size + 4 := by simp
      rw [← z]; exact top_obj _ _
    exact e
  have zz : (((((w.alloc (.cells #[.int .i64 c] 3)).alloc (.cells #[.int .i64 n] 3)).alloc (.cells #[.int .i64 0] 3)).alloc (.cells #[.int .i64 0] 3)).alloc (.cells #[.string ⟨h.toArray⟩] 9)).heap.size = w.heap.size + 5 := by simp
  generalize (((((w.alloc (.cells #[.int .i64 c] 3)).alloc (.cells #[.int .i64 n] 3)).alloc (.cells #[.int .i64 0] 3)).alloc (.cells #[.int .i64 0] 3)).alloc (.cells #[.string ⟨h.toArray⟩] 9)) = W0 at *
  refine wpIn_rangeFunc_seq rfl (by decide) (gf := 32) (lb := #[.pointer (some ⟨w.heap.size + 4, 0, none⟩)]) rfl trivial (enters_of Try.func32 (by kernel_rfl) rfl)
    (ops_seq _ h hl (w.heap.size + 4) W0 (by omega) r4) (Below.refl _ _) (by omega) (fun x hx => by obtain ⟨k, _, rfl⟩ := opsA_mem hx; rfl)
    (fun k W => (∀ j, j < k → hit h c n j = false) ∧ (W.heap[w.heap.size]? = some (.cells #[.int .i64 c] 3) ∧ W.heap[w.heap.size + 1]? = some (.cells #[.int .i64 n] 3) ∧ W.heap[w.heap.size + 2]? = some (.cells #[.int .i64 0] 3) ∧ W.heap[w.heap.size + 3]? = some (.cells #[.int .i64 (k : Int)] 3)) ∧ Below w.heap.size w W)
    (fun j _ W => j = .ret ∧ W.heap[w.heap.size + 2]? = some (.cells #[.int .i64 (placeI h c n)] 3) ∧ Below w.heap.size w W)
    (fun k X Y hs hb => ⟨hs.1, ⟨(hb.block _ (by omega)).trans hs.2.1.1, (hb.block _ (by omega)).trans hs.2.1.2.1, (hb.block _ (by omega)).trans hs.2.1.2.2.1, (hb.block _ (by omega)).trans hs.2.1.2.2.2⟩, hs.2.2.trans (hb.mono (by omega))⟩)
    (fun j k X Y hs hb => ⟨hs.1, (hb.block _ (by omega)).trans hs.2.1, hs.2.2.trans (hb.mono (by omega))⟩)
    ⟨fun j hj => absurd hj (Nat.not_lt_zero j), ⟨r0, r1, r2, r3⟩, hbw⟩
    (fun x => { tmps := #[.string ⟨h.toArray⟩, .int .i64 c, .int .i64 n, undef, .pointer (some ⟨w.heap.size, 0, none⟩), .pointer (some ⟨w.heap.size + 1, 0, none⟩), .pointer (some ⟨w.heap.size + 2, 0, none⟩), .pointer (some ⟨w.heap.size + 3, 0, none⟩), x.getD 0 undef, x.getD 1 undef, .string ⟨h.toArray⟩, .func (.func 32) #[] #[.pointer (some ⟨w.heap.size + 4, 0, none⟩)], x.getD 0 undef, x.getD 1 undef, undef, undef, undef, undef, undef, undef, undef, undef, undef, undef, undef], defers := [] }) ?assign ?body ?done ?stop
  case assign =>
    intro l x W K hx hK
    obtain ⟨k, hk, rfl⟩ := opsA_mem hx
    obtain ⟨p, q, hop⟩ : ∃ p q : Int, opA h k = #[.int .i64 p, .int .i64 q] := ⟨_, _, rfl⟩
    rw [hop] at hK ⊢
    clear hx hk hop
    gi_wp2
    exact hK
  case body =>
    rintro l k x W hx ⟨hn, ⟨q0, q1, q2, q3⟩, hB⟩
    obtain ⟨hk, rfl⟩ := opsA_at hx
    have c0 : W.cell? ⟨w.heap.size, 0, none⟩ = some (.int .i64 c) := by rw [cell_of_row _ _ _ _ _ _ q0]; rfl
    have c1 : W.cell? ⟨w.heap.size + 1, 0, none⟩ = some (.int .i64 n) := by rw [cell_of_row _ _ _ _ _ _ q1]; rfl
    have c2 : W.cell? ⟨w.heap.size + 2, 0, none⟩ = some (.int .i64 0) := by rw [cell_of_row _ _ _ _ _ _ q2]; rfl
    have c3 : W.cell? ⟨w.heap.size + 3, 0, none⟩ = some (.int .i64 (k : Int)) := by rw [cell_of_row _ _ _ _ _ _ q3]; rfl
    have f2 : W.frozen? ⟨w.heap.size + 2, 0, none⟩ = false := by simp [World.frozen?, q2]
    have f3 : W.frozen? ⟨w.heap.size + 3, 0, none⟩ = false := by simp [World.frozen?, q3]
    have Q0 := hid q0
    have Q1 := hid q1
    have Q2 := hid q2
    have Q3 := hid q3
    have HB := hid hB
    have HN := hid hn
    have hon : Hid (hit h c n k = false → ∀ j, j < k + 1 → hit h c n j = false) := fun hf j hj => by
      by_cases e : j = k
      · rw [e]; exact hf
      · exact hn j (by omega)
    have hhit := hit_iff h c n k
    have hpl : Hid (hit h c n k = true → placeI h c n = (k : Int)) := fun ht => plc_some hk ht hn
    clear hx q0 q1 q2 q3 hB hn
    unfold opA
    by_cases he : bv (h.getD k 0) = c
    · have d1 : (bv (h.getD k 0) == c) = true := by simpa using he
      by_cases hm : (cnt (h.take (k + 1)) c : Int) = n
      · have HP := hid (hpl.out (hhit.2 ⟨he, hm⟩))
        have d2 : ((cnt (h.take (k + 1)) (bv (h.getD k 0)) : Int) == n) = true := by rw [he]; simpa using hm
        clear hhit hpl hon he hm HN
        generalize (cnt (h.take (k + 1)) (bv (h.getD k 0)) : Int) = m at *
        generalize bv (h.getD k 0) = x at *
        gi_wp2
        refine ⟨(Above.refl _ W).setCell (p := ⟨w.heap.size + 2, 0, none⟩) (by show w.heap.size + 2 < w.heap.size + 4; omega) _, rfl, ?_, HB.out.setCell (p := ⟨w.heap.size + 2, 0, none⟩) (by simp) _⟩
        rw [heap_setCell_at W _ 0 _ _ _ Q2.out, HP.out]; rfl
      · have hf : hit h c n k = false := Bool.eq_false_iff.2 fun ht => hm (hhit.1 ht).2
        have HF := hid (hon.out hf)
        have d2 : ((cnt (h.take (k + 1)) (bv (h.getD k 0)) : Int) == n) = false := by rw [he]; simpa using hm
        clear hhit hpl hon he hm HN hf
        generalize (cnt (h.take (k + 1)) (bv (h.getD k 0)) : Int) = m at *
        generalize bv (h.getD k 0) = x at *
        gi_wp2
        refine ⟨(Above.refl _ W).setCell (p := ⟨w.heap.size + 3, 0, none⟩) (by show w.heap.size + 3 < w.heap.size + 4; omega) _, HF.out, ⟨?_, ?_, ?_, ?_⟩, HB.out.setCell (p := ⟨w.heap.size + 3, 0, none⟩) (by simp) _⟩
        · rw [Below.heap_setCell _ _ _ _ (by simp)]; exact Q0.out
        · rw [Below.heap_setCell _ _ _ _ (by simp)]; exact Q1.out
        · rw [Below.heap_setCell _ _ _ _ (by simp)]; exact Q2.out
        · rw [heap_setCell_at W _ 0 _ _ _ Q3.out]; rfl
    · have d1 : (bv (h.getD k 0) == c) = false := by simpa using he
      have hf : hit h c n k = false := Bool.eq_false_iff.2 fun ht => he (hhit.1 ht).1
      have HF := hid (hon.out hf)
      clear hhit hpl hon he HN hf
      generalize (cnt (h.take (k + 1)) (bv (h.getD k 0)) : Int) = m at *
      generalize bv (h.getD k 0) = x at *
      gi_wp2
      refine ⟨(Above.refl _ W).setCell (p := ⟨w.heap.size + 3, 0, none⟩) (by show w.heap.size + 3 < w.heap.size + 4; omega) _, HF.out, ⟨?_, ?_, ?_, ?_⟩, HB.out.setCell (p := ⟨w.heap.size + 3, 0, none⟩) (by simp) _⟩
      · rw [Below.heap_setCell _ _ _ _ (by simp)]; exact Q0.out
      · rw [Below.heap_setCell _ _ _ _ (by simp)]; exact Q1.out
      · rw [Below.heap_setCell _ _ _ _ (by simp)]; exact Q2.out
      · rw [heap_setCell_at W _ 0 _ _ _ Q3.out]; rfl
  case done =>
    rintro D W hD ⟨hn, ⟨q0, q1, q2, q3⟩, hB⟩ hK
    rw [opsA_len] at hn
    have c2 : W.cell? ⟨w.heap.size + 2, 0, none⟩ = some (.int .i64 0) := by rw [cell_of_row _ _ _ _ _ _ q2]; rfl
    have f2 : W.frozen? ⟨w.heap.size + 2, 0, none⟩ = false := by simp [World.frozen?, q2]
    have HB := hid (hB.setCell (p := ⟨w.heap.size + 2, 0, none⟩) (by simp) (.int .i64 (-1)))
    have HKk : Hid ((W.setCell ⟨w.heap.size + 2, 0, none⟩ (.int .i64 (-1))).heap[D]? = some (.deferred (some []))) := by
      show _ = _
      rw [Below.heap_setCell _ _ _ _ (by show D ≠ w.heap.size + 2; omega)]; exact hK
    have HC5 : Hid ((W.setCell ⟨w.heap.size + 2, 0, none⟩ (.int .i64 (-1))).cell? ⟨w.heap.size + 2, 0, none⟩ = some (.int .i64 (-1))) := cell_set_same c2
    have hp := plc_none hn
    have HP := hid hp
    clear hB q0 q1 q2 q3 hK hn hp
    gi_wp2
    refine ⟨by simp, .inl ⟨_, _, rfl, run_takeDeferred HKk.out, ?_⟩⟩
    have hc6 : ((W.setCell ⟨w.heap.size + 2, 0, none⟩ (.int .i64 (-1))).putObj D (.deferred none)).cell? ⟨w.heap.size + 2, 0, none⟩ = some (.int .i64 (-1)) := (World.cell?_of_block (w := W.setCell ⟨w.heap.size + 2, 0, none⟩ (.int .i64 (-1))) (World.putObj_heap_other (by show w.heap.size + 2 ≠ D; omega))).trans HC5.out
    refine ⟨.int .i64 (-1), ?_, by rw [HP.out], HB.out.trans (below_put _ D _ _ (by omega) HKk.out)⟩
    simp [results, Try.f15, go_sem, hc6]
  case stop =>
    rintro D j k W hD hk ⟨rfl, q2, hB⟩ hK
    have hc5 : W.cell? ⟨w.heap.size + 2, 0, none⟩ = some (.int .i64 (placeI h c n)) := by rw [cell_of_row _ _ _ _ _ _ q2]; rfl
    have hc6 : (W.putObj D (.deferred none)).cell? ⟨w.heap.size + 2, 0, none⟩ = some (.int .i64 (placeI h c n)) := (World.cell?_of_block (w := W) (World.putObj_heap_other (by show w.heap.size + 2 ≠ D; omega))).trans hc5
    have HC6 := hid hc6
    have HB := hid hB
    have HKk := hid hK
    clear hB q2 hK hc5 hc6
    gi_wp2
    refine ⟨by simp, .inl ⟨_, _, rfl, run_takeDeferred HKk.out, ?_⟩⟩
    refine ⟨.int .i64 (placeI h c n), ?_, rfl, HB.out.trans (below_put _ D _ _ (by omega) HKk.out)⟩
    simp [results, Try.f15, go_sem, HC6.out]
end Go.Proofs.Ytpgelodcdclchaa.Hist
