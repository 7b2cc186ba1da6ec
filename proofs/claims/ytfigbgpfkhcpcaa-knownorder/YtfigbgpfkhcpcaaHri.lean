/-
  What hist.Right answers.
-/
import Derived.Test.YtfigbgpfkhcpcaaHct
namespace Go.Proofs.Ytfigbgpfkhcpcaa.Hist
open Go Go.RowKit Go.Shelf
set_option maxRecDepth 100000
attribute [local go_sem] Oper.semAt_some

set_option maxHeartbeats 2000000 in
theorem right_any (h : List UInt8) (n : Int) (w : World) : Calls Try.prog 37 #[.string ⟨h.toArray⟩, .int .i64 n] w fun e w' =>
    e = .returned (.bool (rightB h n)) ∧ Below w.heap.size w w' := by
  have hC := fun W => operations_any h W
  have hss : (⟨h.toArray⟩ : ByteArray).size = h.length := rfl
  have HF0 : Hid (Below w.heap.size w (((w.alloc (.cells #[.int .i64 n] 3)).alloc (.cells #[.bool false] 4)))) := ((Below.refl _ w).alloc (by simp) _).alloc (by simp) _
  have HC0 : Hid ((((w.alloc (.cells #[.int .i64 n] 3)).alloc (.cells #[.bool false] 4))).cell? ⟨w.heap.size + 1, 0, none⟩ = some (.bool false)) := by
    show _ = _
    rw [cell_of_row _ _ _ _ _ _ (heap_alloc2_new w _ _)]; rfl
  refine (callsIn_wide (n := 3)).1 ?_
  refine callsIn_of_wp_marks Try.func37 rfl trivial ?_ rfl
  simp only [Try.ntmps37, List.size_toArray, List.length_cons, List.length_nil, Nat.reduceAdd, Nat.reduceSub, Array.replicate_succ, Array.replicate_zero, List.push_toArray, List.append_toArray, List.nil_append, List.cons_append]
  by_cases h1 : n < 1
  · have e0 : rightB h n = false := by
      exact right_false1 h n h1
    rw [e0]
    have d1 : decide (n < 1) = true := decide_eq_true h1
    clear hC e0
    gi_wp2
    refine ⟨.bool false, ?_, rfl, HF0.out⟩
    simp [results, Try.f37, go_sem, HC0.out]
  by_cases h2 : 256 < n
  · have e0 : rightB h n = false := by
      exact right_false2 h n h2
    rw [e0]
    have d1 : decide (n < 1) = false := decide_eq_false h1
    have d2 : decide (256 < n) = true := decide_eq_true h2
    clear hC e0
    gi_wp2
    refine ⟨.bool false, ?_, rfl, HF0.out⟩
    simp [results, Try.f37, go_sem, HC0.out]
  by_cases h3 : 512 < h.length
  · have e0 : rightB h n = false := by
      exact right_false3 h n h3
    rw [e0]
    have d1 : decide (n < 1) = false := decide_eq_false h1
    have d2 : decide (256 < n) = false := decide_eq_false h2
    have d3 : decide ((512 : Int) < (h.length : Int)) = true := by simp; omega
    clear hC e0
    gi_wp2
    refine ⟨.bool false, ?_, rfl, HF0.out⟩
    simp [results, Try.f37, go_sem, HC0.out]
  have d1 : decide (n < 1) = false := decide_eq_false h1
  have d2 : decide (256 < n) = false := decide_eq_false h2
  have d3 : decide ((512 : Int) < (h.length : Int)) = false := by simp; omega
  have HR := hid (right_true h n h1 h2 h3)
  have H3 := hid h3
  clear HF0 HC0 h1 h2 h3
  gi_wp2_with (refine ⟨trivial, ?_⟩; gi_at_call 44; refine (callsIn_wide.2 (hC _)).mono ?_; rintro e w' ⟨rfl, rfl⟩)
  have hbw : Below w.heap.size w (((w.alloc (.cells #[.int .i64 n] 3)).alloc (.cells #[.bool false] 4)).alloc (.cells #[.string ⟨h.toArray⟩] 9)) := (((Below.refl _ w).alloc (by first | (simp; done) | (simp; omega)) _).alloc (by first | (simp; done) | (simp; omega)) _).alloc (by first | (simp; done) | (simp; omega)) _
  have r0 : (((w.alloc (.cells #[.int .i64 n] 3)).alloc (.cells #[.bool false] 4)).alloc (.cells #[.string ⟨h.toArray⟩] 9)).heap[w.heap.size]? = some (.cells #[.int .i64 n] 3) := by
    have e : (w.alloc (.cells #[.int .i64 n] 3)).heap[w.heap.size]? = some (.cells #[.int .i64 n] 3) := by
      exact top_obj w _
    have e := (Below.heap_alloc (w.alloc (.cells #[.int .i64 n] 3)) (.cells #[.bool false] 4) (w.heap.size) (by first | (simp; done) | (simp; omega))).trans e
    have e := (Below.heap_alloc ((w.alloc (.cells #[.int .i64 n] 3)).alloc (.cells #[.bool false] 4)) (.cells #[.string ⟨h.toArray⟩] 9) (w.heap.size) (by first | (simp; done) | (simp; omega))).trans e
    exact e
  have r1 : (((w.alloc (.cells #[.int .i64 n] 3)).alloc (.cells #[.bool false] 4)).alloc (.cells #[.string ⟨h.toArray⟩] 9)).heap[w.heap.size + 1]? = some (.cells #[.bool false] 4) := by
    have e : ((w.alloc (.cells #[.int .i64 n] 3)).alloc (.cells #[.bool false] 4)).heap[w.heap.size + 1]? = some (.cells #[.bool false] 4) := by
      have z : (w.alloc (.cells #[.int .i64 n] 3)).heap.size = w.heap.size + 1 := by simp
      rw [← z]; exact top_obj _ _
    have e := (Below.heap_alloc ((w.alloc (.cells #[.int .i64 n] 3)).alloc (.cells #[.bool false] 4)) (.cells #[.string ⟨h.toArray⟩] 9) (w.heap.size + 1) (by first | (simp; done) | (simp; omega))).trans e
    exact e
  have r2 : (((w.alloc (.cells #[.int .i64 n] 3)).alloc (.cells #[.bool false] 4)).alloc (.cells #[.string ⟨h.toArray⟩] 9)).heap[w.heap.size + 2]? = some (.cells #[.string ⟨h.toArray⟩] 9) := by
    have e : (((w.alloc (.cells #[.int .i64 n] 3)).alloc (.cells #[.bool false] 4)).alloc (.cells #[.string ⟨h.toArray⟩] 9)).heap[w.heap.size + 2]? = some (.cells #[.string ⟨h.toArray⟩] 9) := by
      have z : ((w.alloc (.cells #[.int .i64 n] 3)).alloc (.cells #[.bool false] 4)).heap.size = w.heap.size + 2 := by simp
      rw [← z]; exact top_obj _ _
    exact e
  have zz : (((w.alloc (.cells #[.int .i64 n] 3)).alloc (.cells #[.bool false] 4)).alloc (.cells #[.string ⟨h.toArray⟩] 9)).heap.size = w.heap.size + 3 := by simp
  generalize (((w.alloc (.cells #[.int .i64 n] 3)).alloc (.cells #[.bool false] 4)).alloc (.cells #[.string ⟨h.toArray⟩] 9)) = W0 at *
  have hl : h.length < 9223372036854775807 := by have := H3.out; omega
  refine wpIn_rangeFunc_seq rfl (by decide) (gf := 47) (lb := #[.pointer (some ⟨w.heap.size + 2, 0, none⟩)]) rfl trivial (enters_of Try.func47 (by kernel_rfl) rfl)
    (ops_seq _ h hl (w.heap.size + 2) W0 (by omega) r2) (Below.refl _ _) (by omega) (fun x hx => by obtain ⟨k, _, rfl⟩ := opsA_mem hx; rfl)
    (fun k W => (∀ j, j < k → bv (h.getD j 0) < n) ∧ (W.heap[w.heap.size]? = some (.cells #[.int .i64 n] 3) ∧ W.heap[w.heap.size + 1]? = some (.cells #[.bool false] 4)) ∧ Below w.heap.size w W)
    (fun j _ W => j = .ret ∧ rightB h n = false ∧ W.heap[w.heap.size + 1]? = some (.cells #[.bool false] 4) ∧ Below w.heap.size w W)
    (fun k X Y hs hb => ⟨hs.1, ⟨(hb.block _ (by omega)).trans hs.2.1.1, (hb.block _ (by omega)).trans hs.2.1.2⟩, hs.2.2.trans (hb.mono (by omega))⟩)
    (fun j k X Y hs hb => ⟨hs.1, hs.2.1, (hb.block _ (by omega)).trans hs.2.2.1, hs.2.2.2.trans (hb.mono (by omega))⟩)
    ⟨fun j hj => absurd hj (Nat.not_lt_zero j), ⟨r0, r1⟩, hbw⟩
    (fun x => { tmps := #[.string ⟨h.toArray⟩, .int .i64 n, undef, .pointer (some ⟨w.heap.size, 0, none⟩), .pointer (some ⟨w.heap.size + 1, 0, none⟩), x.getD 0 undef, .int .i64 n, .bool false, .bool false, .int .i64 n, .bool false, .bool false, .bool false, .string ⟨h.toArray⟩, .int .i64 h.length, .bool false, .bool false, .string ⟨h.toArray⟩, .func (.func 47) #[] #[.pointer (some ⟨w.heap.size + 2, 0, none⟩)], x.getD 0 undef, x.getD 1 undef, undef, undef, undef], defers := [] }) ?assign ?body ?done ?stop
  case assign =>
    intro l x W K hx hK
    obtain ⟨k, hk, rfl⟩ := opsA_mem hx
    obtain ⟨p, q, hop⟩ : ∃ p q : Int, opA h k = #[.int .i64 p, .int .i64 q] := ⟨_, _, rfl⟩
    rw [hop] at hK ⊢
    clear hx hk hop
    gi_wp2
    exact hK
  case body =>
    rintro l k x W hx ⟨hn, ⟨q0, q1⟩, hB⟩
    obtain ⟨hk, rfl⟩ := opsA_at hx
    have c0 : W.cell? ⟨w.heap.size, 0, none⟩ = some (.int .i64 n) := by rw [cell_of_row _ _ _ _ _ _ q0]; rfl
    have c1 : W.cell? ⟨w.heap.size + 1, 0, none⟩ = some (.bool false) := by rw [cell_of_row _ _ _ _ _ _ q1]; rfl
    have f1 : W.frozen? ⟨w.heap.size + 1, 0, none⟩ = false := by simp [World.frozen?, q1]
    have Q0 := hid q0
    have Q1 := hid q1
    have HB := hid hB
    by_cases he : n ≤ bv (h.getD k 0)
    · have HR4 := hid (right_false4 h n k hk he)
      have dx : decide (n ≤ bv (h.getD k 0)) = true := decide_eq_true he
      clear hx q0 q1 hB hn he HR
      unfold opA
      generalize (cnt (h.take (k + 1)) (bv (h.getD k 0)) : Int) = m at *
      generalize bv (h.getD k 0) = x at *
      gi_wp2
      refine ⟨(Above.refl _ W).setCell (p := ⟨w.heap.size + 1, 0, none⟩) (by show w.heap.size + 1 < w.heap.size + 2; omega) _, rfl, HR4.out, ?_, HB.out.setCell (p := ⟨w.heap.size + 1, 0, none⟩) (by simp) _⟩
      rw [heap_setCell_at W _ 0 _ _ _ Q1.out]; rfl
    · have HN : Hid (∀ j, j < k + 1 → bv (h.getD j 0) < n) := fun j hj => by
        by_cases e : j = k
        · rw [e]; omega
        · exact hn j (by omega)
      have dx : decide (n ≤ bv (h.getD k 0)) = false := decide_eq_false he
      clear hx q0 q1 hB hn he HR
      unfold opA
      generalize (cnt (h.take (k + 1)) (bv (h.getD k 0)) : Int) = m at *
      generalize bv (h.getD k 0) = x at *
      gi_wp2
      exact ⟨Above.refl _ W, HN.out, ⟨Q0.out, Q1.out⟩, HB.out⟩
  case done =>
    rintro D W hD ⟨hn, ⟨q0, q1⟩, hB⟩ hK
    rw [opsA_len] at hn
    have c2 : W.cell? ⟨w.heap.size + 1, 0, none⟩ = some (.bool false) := by rw [cell_of_row _ _ _ _ _ _ q1]; rfl
    have f2 : W.frozen? ⟨w.heap.size + 1, 0, none⟩ = false := by simp [World.frozen?, q1]
    have HB := hid (hB.setCell (p := ⟨w.heap.size + 1, 0, none⟩) (by simp) (.bool true))
    have HKk : Hid ((W.setCell ⟨w.heap.size + 1, 0, none⟩ (.bool true)).heap[D]? = some (.deferred (some []))) := by
      show _ = _
      rw [Below.heap_setCell _ _ _ _ (by show D ≠ w.heap.size + 1; omega)]; exact hK
    have HC5 : Hid ((W.setCell ⟨w.heap.size + 1, 0, none⟩ (.bool true)).cell? ⟨w.heap.size + 1, 0, none⟩ = some (.bool true)) := cell_set_same c2
    have HP := hid (HR.out hn)
    clear hB q0 q1 hK hn HR
    gi_wp2
    refine ⟨by simp, .inl ⟨_, _, rfl, run_takeDeferred HKk.out, ?_⟩⟩
    have hc6 : ((W.setCell ⟨w.heap.size + 1, 0, none⟩ (.bool true)).putObj D (.deferred none)).cell? ⟨w.heap.size + 1, 0, none⟩ = some (.bool true) := (World.cell?_of_block (w := W.setCell ⟨w.heap.size + 1, 0, none⟩ (.bool true)) (World.putObj_heap_other (by show w.heap.size + 1 ≠ D; omega))).trans HC5.out
    refine ⟨.bool true, ?_, by rw [HP.out], HB.out.trans (below_put _ D _ _ (by omega) HKk.out)⟩
    simp [results, Try.f37, go_sem, hc6]
  case stop =>
    rintro D j k W hD hk ⟨rfl, hr, q2, hB⟩ hK
    have hc5 : W.cell? ⟨w.heap.size + 1, 0, none⟩ = some (.bool false) := by rw [cell_of_row _ _ _ _ _ _ q2]; rfl
    have hc6 : (W.putObj D (.deferred none)).cell? ⟨w.heap.size + 1, 0, none⟩ = some (.bool false) := (World.cell?_of_block (w := W) (World.putObj_heap_other (by show w.heap.size + 1 ≠ D; omega))).trans hc5
    have HC6 := hid hc6
    have HB := hid hB
    have HKk := hid hK
    have HP := hid hr
    clear hB q2 hK hc5 hc6 hr HR
    gi_wp2
    refine ⟨by simp, .inl ⟨_, _, rfl, run_takeDeferred HKk.out, ?_⟩⟩
    refine ⟨.bool false, ?_, by rw [HP.out], HB.out.trans (below_put _ D _ _ (by omega) HKk.out)⟩
    simp [results, Try.f37, go_sem, HC6.out]
end Go.Proofs.Ytfigbgpfkhcpcaa.Hist
