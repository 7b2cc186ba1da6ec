/-
  HistOps answers true: the operations come in order, each with its number, as long as they are wanted.
-/
import Derived.Test.YtpgelodcdclchaaHlw
import Derived.Test.YtpgelodcdclchaaHref
namespace Go.Proofs.Ytpgelodcdclchaa.Hist
open Go Go.RowKit Go.Shelf
set_option maxRecDepth 100000
attribute [local go_sem] Oper.semAt_some

set_option maxHeartbeats 2000000 in
theorem histops_any (h : List UInt8) (hl : h.length ≤ 281474976710656) (w : World) : Calls Try.prog 25 #[.string ⟨h.toArray⟩] w fun e w' =>
    ∃ bh, e = .returned (.func (.func 32) #[] #[.pointer (some ⟨bh, 0, none⟩)]) ∧ w'.heap[bh]? = some (.cells #[.string ⟨h.toArray⟩] 9) ∧ Below w.heap.size w w' ∧ w.heap.size ≤ bh ∧ w'.heap.size = bh + 1 := by
  have HC := hid (clone_any h hl w)
  have HO := hid (fun W => operations_any h W)
  clear hl
  go_enter Try.func25, Try.ntmps25
  go_wp2_with fail
  refine HC.out.mono ?_
  rintro e w1 ⟨rfl, hb⟩
  have HB := hid hb
  clear hb
  go_wp2_with fail
  refine (HO.out _).mono ?_
  rintro e w2 ⟨rfl, hw⟩
  have HW := hid hw
  clear hw
  go_wp2
  go_ret
  have hw := HW.out
  subst hw
  exact ⟨w1.heap.size, rfl, top_obj _ _, below_two HB.out ((Below.refl _ w1).alloc (Nat.le_refl _) _), HB.out.size, by simp⟩

set_option maxHeartbeats 4000000 in
theorem ops_walk (a : List UInt8) (p : Nat) (hp : p < 65536) (w : World) : Calls Try.prog 5 #[.string ⟨a.toArray⟩, .int .u16 p] w fun e w' => e = .returned (.bool true) ∧ Below w.heap.size w w' := by
  have HWa := hid (fun W => few_any a W)
  have hx : (a.take 700).length ≤ 700 := by rw [List.length_take]; omega
  generalize a.take 700 = x at *
  have HA := hid (fun W => awake_any W)
  have HO := hid (fun W => histops_any x (by omega) W)
  have HR := hid (fun k c W => rcount_any (x.take k) (by rw [List.length_take]; omega) c W)
  obtain ⟨s, hps, hs8⟩ : ∃ s : Nat, ((p : Int) % 800) = (s : Int) ∧ s < 800 := ⟨p % 800, by omega, by omega⟩
  refine (callsIn_wide (n := 3)).1 ?_
  refine callsIn_of_wp_marks Try.func5 rfl trivial ?_ rfl
  simp only [Try.ntmps5, List.size_toArray, List.length_cons, List.length_nil, Nat.reduceAdd, Nat.reduceSub, Array.replicate_succ, Array.replicate_zero, List.push_toArray, List.append_toArray, List.nil_append, List.cons_append]
  gi_wp2_with (refine ⟨trivial, ?_⟩; gi_at_call 9; refine (callsIn_wide.2 (HWa.out _)).mono ?_; rintro e v1 ⟨rfl, hw⟩; subst v1)
  have HB3 : Hid (Below w.heap.size w (((w.alloc (.cells #[.string ⟨x.toArray⟩] 9)).alloc (.cells #[.int .i64 0] 3)).alloc (.cells #[.int .i64 s] 3))) := (((Below.refl _ w).alloc (Nat.le_refl _) _).alloc (by simp) _).alloc (by simp; omega) _
  have R0 : Hid ((((w.alloc (.cells #[.string ⟨x.toArray⟩] 9)).alloc (.cells #[.int .i64 0] 3)).alloc (.cells #[.int .i64 s] 3)).heap[w.heap.size]? = some (.cells #[.string ⟨x.toArray⟩] 9)) := (Below.heap_alloc _ _ _ (by simp; omega)).trans (heap_alloc2_old w _ _)
  have R1 : Hid ((((w.alloc (.cells #[.string ⟨x.toArray⟩] 9)).alloc (.cells #[.int .i64 0] 3)).alloc (.cells #[.int .i64 s] 3)).heap[w.heap.size + 1]? = some (.cells #[.int .i64 0] 3)) := (Below.heap_alloc _ _ _ (by simp)).trans (heap_alloc2_new w _ _)
  have R2 : Hid ((((w.alloc (.cells #[.string ⟨x.toArray⟩] 9)).alloc (.cells #[.int .i64 0] 3)).alloc (.cells #[.int .i64 s] 3)).heap[w.heap.size + 1 + 1]? = some (.cells #[.int .i64 s] 3)) := by
    have z : ((w.alloc (.cells #[.string ⟨x.toArray⟩] 9)).alloc (.cells #[.int .i64 0] 3)).heap.size = w.heap.size + 1 + 1 := by simp
    show _ = _
    rw [← z]; exact top_obj _ _
  have Z3 : Hid ((((w.alloc (.cells #[.string ⟨x.toArray⟩] 9)).alloc (.cells #[.int .i64 0] 3)).alloc (.cells #[.int .i64 s] 3)).heap.size = w.heap.size + 3) := by show _ = _; simp
  generalize ((w.alloc (.cells #[.string ⟨x.toArray⟩] 9)).alloc (.cells #[.int .i64 0] 3)).alloc (.cells #[.int .i64 s] 3) = W3 at *
  refine ⟨trivial, (callsIn_wide.2 (HA.out _)).mono ?_⟩
  rintro e w1 ⟨rfl, hb⟩
  have HB4 := hid (below_two HB3.out hb)
  have hz1 : w.heap.size + 3 ≤ w1.heap.size := by have := hb.size; rw [Z3.out] at this; exact this
  have S0 := hid ((hb.block _ (by rw [Z3.out]; omega)).trans R0.out)
  have S1 := hid ((hb.block _ (by rw [Z3.out]; omega)).trans R1.out)
  have S2 := hid ((hb.block _ (by rw [Z3.out]; omega)).trans R2.out)
  clear hb HB3 R0 R1 R2 Z3 HA HWa
  have hbt : Below w1.heap.size w1 (w1.alloc (.cells #[.bool true] 4)) := (Below.refl _ w1).alloc (Nat.le_refl _) _
  have HB5 := hid (below_two HB4.out hbt)
  have hT := top_obj w1 (.cells #[.bool true] 4)
  have T0 := hid ((hbt.block _ (by omega)).trans S0.out)
  have T1 := hid ((hbt.block _ (by omega)).trans S1.out)
  have T2 := hid ((hbt.block _ (by omega)).trans S2.out)
  have T3 := hid hT
  have c0 : (w1.alloc (.cells #[.bool true] 4)).cell? ⟨w.heap.size, 0, none⟩ = some (.string ⟨x.toArray⟩) := by rw [cell_of_row _ _ _ _ _ _ T0.out]; rfl
  have Z5 : Hid ((w1.alloc (.cells #[.bool true] 4)).heap.size = w1.heap.size + 1) := by show _ = _; simp
  clear hbt hT S0 S1 S2 HB4
  gi_wp2_with (refine ⟨trivial, ?_⟩; gi_at_call 25; refine (callsIn_wide.2 (HO.out _)).mono ?_; rintro e w2 ⟨bh, rfl, hbh, hb2, hge, hsz2⟩)
  obtain ⟨bo, hbo⟩ : ∃ bo, bo = w1.heap.size := ⟨_, rfl⟩
  rw [Z5.out, ← hbo] at hge
  rw [← hbo] at hz1 T3 ⊢
  have HB6 := hid (below_two HB5.out hb2)
  have z5 := Z5.out
  rw [← hbo] at z5
  have r0 := (hb2.block _ (by rw [z5]; omega)).trans T0.out
  have r1 := (hb2.block _ (by rw [z5]; omega)).trans T1.out
  have r2 := (hb2.block _ (by rw [z5]; omega)).trans T2.out
  have r3 := (hb2.block _ (by rw [z5]; omega)).trans T3.out
  clear T0 T1 T2 T3 HB5 Z5 z5 hb2 c0 HO hbo
  refine wpIn_rangeFunc_seq rfl (by decide) (gf := 32) (lb := #[.pointer (some ⟨bh, 0, none⟩)]) rfl trivial (enters_of Try.func32 (by kernel_rfl) rfl)
    (ops_seq _ x (by omega) bh w2 (by omega) hbh) (Below.refl _ _) (by omega) (fun v hv => by obtain ⟨k, _, rfl⟩ := opsA_mem hv; rfl)
    (fun k W => k ≤ s ∧ (W.heap[w.heap.size]? = some (.cells #[.string ⟨x.toArray⟩] 9) ∧ W.heap[w.heap.size + 1]? = some (.cells #[.int .i64 (k : Int)] 3) ∧ W.heap[w.heap.size + 1 + 1]? = some (.cells #[.int .i64 ((s : Int) - (k : Int))] 3) ∧ W.heap[bo]? = some (.cells #[.bool true] 4)) ∧ Below w.heap.size w W)
    (fun j k W => (j = .exit 0 ∧ k = s + 1) ∧ (W.heap[w.heap.size]? = some (.cells #[.string ⟨x.toArray⟩] 9) ∧ W.heap[w.heap.size + 1]? = some (.cells #[.int .i64 (k : Int)] 3) ∧ W.heap[bo]? = some (.cells #[.bool true] 4)) ∧ Below w.heap.size w W)
    (fun k X Y hs hb => ⟨hs.1, ⟨(hb.block _ (by omega)).trans hs.2.1.1, (hb.block _ (by omega)).trans hs.2.1.2.1, (hb.block _ (by omega)).trans hs.2.1.2.2.1, (hb.block _ (by omega)).trans hs.2.1.2.2.2⟩, hs.2.2.trans (hb.mono (by omega))⟩)
    (fun j k X Y hs hb => ⟨hs.1, ⟨(hb.block _ (by omega)).trans hs.2.1.1, (hb.block _ (by omega)).trans hs.2.1.2.1, (hb.block _ (by omega)).trans hs.2.1.2.2⟩, hs.2.2.trans (hb.mono (by omega))⟩)
    ⟨Nat.zero_le _, ⟨r0, r1, by simpa using r2, r3⟩, HB6.out⟩
    (fun v => { tmps := #[.string ⟨a.toArray⟩, .int .u16 p, .pointer (some ⟨w.heap.size, 0, none⟩), undef, .bool false, .pointer (some ⟨w.heap.size + 1, 0, none⟩), .pointer (some ⟨w.heap.size + 1 + 1, 0, none⟩), .pointer (some ⟨bo, 0, none⟩), v.getD 0 undef, v.getD 1 undef, .string ⟨a.toArray⟩, .string ⟨x.toArray⟩, .int .u16 p, .int .u16 s, .int .i64 s, .bool true, .string ⟨x.toArray⟩, .func (.func 32) #[] #[.pointer (some ⟨bh, 0, none⟩)], v.getD 0 undef, v.getD 1 undef, undef, undef, undef, undef, undef, undef, undef, undef, undef, undef, undef, undef, undef, undef, undef, undef, undef, undef, undef, undef, undef, undef, undef, undef, undef, undef, undef, undef, undef, undef, undef, undef, undef, undef, undef, undef, undef, undef, undef, undef, undef, undef, undef, undef, undef, undef, undef, undef, undef, undef], defers := [] }) ?assign ?body ?done ?stop
  case assign =>
    intro l v W K hv hK
    obtain ⟨k, hk, rfl⟩ := opsA_mem hv
    obtain ⟨p', q', hop⟩ : ∃ p q : Int, opA x k = #[.int .i64 p, .int .i64 q] := ⟨_, _, rfl⟩
    rw [hop] at hK ⊢
    clear hv hk hop
    gi_wp2
    exact hK
  case body =>
    rintro l k v W hv ⟨hks, ⟨q0, q1, q2, q3⟩, hB⟩
    obtain ⟨hk, rfl⟩ := opsA_at hv
    have hss : (⟨x.toArray⟩ : ByteArray).size = x.length := rfl
    have c0 : W.cell? ⟨w.heap.size, 0, none⟩ = some (.string ⟨x.toArray⟩) := by rw [cell_of_row _ _ _ _ _ _ q0]; rfl
    have c1 : W.cell? ⟨w.heap.size + 1, 0, none⟩ = some (.int .i64 (k : Int)) := by rw [cell_of_row _ _ _ _ _ _ q1]; rfl
    have c2 : W.cell? ⟨w.heap.size + 1 + 1, 0, none⟩ = some (.int .i64 ((s : Int) - (k : Int))) := by rw [cell_of_row _ _ _ _ _ _ q2]; rfl
    have c3 : W.cell? ⟨bo, 0, none⟩ = some (.bool true) := by rw [cell_of_row _ _ _ _ _ _ q3]; rfl
    have f3 : W.frozen? ⟨bo, 0, none⟩ = false := by simp [World.frozen?, q3]
    obtain ⟨V1, hV1⟩ : ∃ V1, W.setCell ⟨bo, 0, none⟩ (.bool true) = V1 := ⟨_, rfl⟩
    have s0 : V1.heap[w.heap.size]? = some (.cells #[.string ⟨x.toArray⟩] 9) := by rw [← hV1, Below.heap_setCell _ _ _ _ (by show w.heap.size ≠ bo; omega)]; exact q0
    have s1 : V1.heap[w.heap.size + 1]? = some (.cells #[.int .i64 (k : Int)] 3) := by rw [← hV1, Below.heap_setCell _ _ _ _ (by show w.heap.size + 1 ≠ bo; omega)]; exact q1
    have s2 : V1.heap[w.heap.size + 1 + 1]? = some (.cells #[.int .i64 ((s : Int) - (k : Int))] 3) := by rw [← hV1, Below.heap_setCell _ _ _ _ (by show w.heap.size + 1 + 1 ≠ bo; omega)]; exact q2
    have s3 : V1.heap[bo]? = some (.cells #[.bool true] 4) := by rw [← hV1, heap_setCell_at W _ 0 _ _ _ q3]; rfl
    have HA1 : Hid (Above bh W V1) := by rw [← hV1]; exact (Above.refl _ W).setCell (p := ⟨bo, 0, none⟩) (by show bo < bh; omega) _
    have HB1 : Hid (Below w.heap.size w V1) := by rw [← hV1]; exact hB.setCell (p := ⟨bo, 0, none⟩) (by show w.heap.size ≤ bo; omega) _
    have d1 : V1.cell? ⟨w.heap.size + 1, 0, none⟩ = some (.int .i64 (k : Int)) := by rw [cell_of_row _ _ _ _ _ _ s1]; rfl
    have g1 : V1.frozen? ⟨w.heap.size + 1, 0, none⟩ = false := by simp [World.frozen?, s1]
    obtain ⟨V2, hV2⟩ : ∃ V2, V1.setCell ⟨w.heap.size + 1, 0, none⟩ (.int .i64 ((k : Int) + 1)) = V2 := ⟨_, rfl⟩
    have t0 : V2.heap[w.heap.size]? = some (.cells #[.string ⟨x.toArray⟩] 9) := by rw [← hV2, Below.heap_setCell _ _ _ _ (by simp)]; exact s0
    have t1 : V2.heap[w.heap.size + 1]? = some (.cells #[.int .i64 ((k : Int) + 1)] 3) := by rw [← hV2, heap_setCell_at V1 _ 0 _ _ _ s1]; rfl
    have t2 : V2.heap[w.heap.size + 1 + 1]? = some (.cells #[.int .i64 ((s : Int) - (k : Int))] 3) := by rw [← hV2, Below.heap_setCell _ _ _ _ (by simp)]; exact s2
    have t3 : V2.heap[bo]? = some (.cells #[.bool true] 4) := by rw [← hV2, Below.heap_setCell _ _ _ _ (by show bo ≠ w.heap.size + 1; omega)]; exact s3
    have HA2 : Hid (Above bh W V2) := by rw [← hV2]; exact HA1.out.setCell (p := ⟨w.heap.size + 1, 0, none⟩) (by show w.heap.size + 1 < bh; omega) _
    have HB2 : Hid (Below w.heap.size w V2) := by rw [← hV2]; exact HB1.out.setCell (p := ⟨w.heap.size + 1, 0, none⟩) (by simp) _
    have e2 : V2.cell? ⟨w.heap.size + 1 + 1, 0, none⟩ = some (.int .i64 ((s : Int) - (k : Int))) := by rw [cell_of_row _ _ _ _ _ _ t2]; rfl
    have g2 : V2.frozen? ⟨w.heap.size + 1 + 1, 0, none⟩ = false := by simp [World.frozen?, t2]
    have hq : ((⟨x.toArray⟩ : ByteArray)[k]'(by rw [hss]; exact hk)).toNat = (x.getD k 0).toNat := getD_byte x k _
    have hx2 : (x.getD k 0).toNat < 256 := (x.getD k 0).toNat_lt
    have hop : opA x k = #[.int .i64 ((x.getD k 0).toNat : Int), .int .i64 (cnt (x.take (k + 1)) ((x.getD k 0).toNat : Int))] := rfl
    rw [hop]
    have HRk := hid (HR.out (k + 1) ((x.getD k 0).toNat : Int))
    have hext := ext_take x (k + 1)
    generalize (x.getD k 0).toNat = b at *
    generalize cnt (x.take (k + 1)) (b : Int) = m at *
    generalize x.take (k + 1) = tk at *
    have dk : decide ((k : Int) < (x.length : Int)) = true := decide_eq_true (by omega)
    have dk' : decide (k < x.length) = true := decide_eq_true hk
    have dl : decide ((0 : Int) ≤ (s : Int) - (k : Int)) = true := decide_eq_true (by omega)
    obtain ⟨k1, hk1⟩ : ∃ k1 : Nat, k1 = k + 1 := ⟨_, rfl⟩
    have hkk : (k : Int) + 1 = (k1 : Int) := by omega
    rw [← hk1] at hext
    have hk1l : k1 ≤ x.length := by omega
    rw [hkk] at hV2 t1
    have T0 := hid t0
    have T1 := hid t1
    have T2 := hid t2
    have T3 := hid t3
    have HK1 := hid hk1
    clear hv q0 q1 q2 q3 hB s0 s1 s2 s3 t0 t1 t2 t3 hop HR HA1 HB1 hk1
    by_cases hz : k = s
    · have de : ((s : Int) - (k : Int) == 0) = true := by simp; omega
      have HZ := hid hz
      clear hz
      gi_wp2_with (refine ⟨trivial, ?_⟩; gi_at_call 14; refine (CallsIn.inRound l (callsIn_wide.2 (HRk.out _))).mono ?_; rintro e v3 ⟨rfl, hw⟩; subst v3)
      refine ⟨HA2.out, ⟨rfl, by have := HZ.out; omega⟩, ⟨T0.out, ?_, T3.out⟩, HB2.out⟩
      rw [← HK1.out]; exact T1.out
    · have de : ((s : Int) - (k : Int) == 0) = false := by simp; omega
      have HZ : Hid (k + 1 ≤ s) := by show _ ≤ _; omega
      clear hz
      gi_wp2_with (refine ⟨trivial, ?_⟩; gi_at_call 14; refine (CallsIn.inRound l (callsIn_wide.2 (HRk.out _))).mono ?_; rintro e v3 ⟨rfl, hw⟩; subst v3)
      refine ⟨HA2.out.setCell (p := ⟨w.heap.size + 1 + 1, 0, none⟩) (by show w.heap.size + 1 + 1 < bh; omega) _, HZ.out, ⟨?_, ?_, ?_, ?_⟩, HB2.out.setCell (p := ⟨w.heap.size + 1 + 1, 0, none⟩) (by show w.heap.size ≤ w.heap.size + 1 + 1; omega) _⟩
      · rw [Below.heap_setCell _ _ _ _ (by show w.heap.size ≠ w.heap.size + 1 + 1; omega)]; exact T0.out
      · rw [Below.heap_setCell _ _ _ _ (by show w.heap.size + 1 ≠ w.heap.size + 1 + 1; omega), ← HK1.out]; exact T1.out
      · rw [heap_setCell_at V2 _ 0 _ _ _ T2.out, show (s : Int) - ((k + 1 : Nat) : Int) = (s : Int) - (k : Int) - 1 by omega]; rfl
      · rw [Below.heap_setCell _ _ _ _ (by show bo ≠ w.heap.size + 1 + 1; omega)]; exact T3.out
  case done =>
    rintro D W hD ⟨hks, ⟨q0, q1, q2, q3⟩, hB⟩ hK
    rw [opsA_len] at q1
    have hss : (⟨x.toArray⟩ : ByteArray).size = x.length := rfl
    have c0 : W.cell? ⟨w.heap.size, 0, none⟩ = some (.string ⟨x.toArray⟩) := by rw [cell_of_row _ _ _ _ _ _ q0]; rfl
    have c1 : W.cell? ⟨w.heap.size + 1, 0, none⟩ = some (.int .i64 (x.length : Int)) := by rw [cell_of_row _ _ _ _ _ _ q1]; rfl
    have c3 : W.cell? ⟨bo, 0, none⟩ = some (.bool true) := by rw [cell_of_row _ _ _ _ _ _ q3]; rfl
    have HB := hid hB
    have HKk := hid hK
    clear hB q0 q1 q2 q3 hK HR
    gi_wp2
    refine ⟨by simp, .inl ⟨_, _, rfl, run_takeDeferred HKk.out, ?_⟩⟩
    exact ⟨_, results_tmp rfl _ _ _, rfl, HB.out.trans (below_put W D _ _ (by have := hD; have := HB6.out.size; omega) HKk.out)⟩
  case stop =>
    rintro D j k W hD hk ⟨⟨rfl, hks⟩, ⟨q0, q1, q3⟩, hB⟩ hK
    have hss : (⟨x.toArray⟩ : ByteArray).size = x.length := rfl
    have c0 : W.cell? ⟨w.heap.size, 0, none⟩ = some (.string ⟨x.toArray⟩) := by rw [cell_of_row _ _ _ _ _ _ q0]; rfl
    have c1 : W.cell? ⟨w.heap.size + 1, 0, none⟩ = some (.int .i64 ((s : Int) + 1)) := by rw [cell_of_row _ _ _ _ _ _ q1, hks]; rfl
    have c3 : W.cell? ⟨bo, 0, none⟩ = some (.bool true) := by rw [cell_of_row _ _ _ _ _ _ q3]; rfl
    have HB := hid hB
    have HKk := hid hK
    clear hB q0 q1 q3 hK HR hks
    by_cases hl : s + 1 = x.length
    · have d1 : ((s : Int) + 1 == (x.length : Int)) = true := by simp; omega
      have HL := hid hl
      clear hl
      gi_wp2
      refine ⟨by simp, .inl ⟨_, _, rfl, run_takeDeferred HKk.out, ?_⟩⟩
      exact ⟨_, results_tmp rfl _ _ _, rfl, HB.out.trans (below_put W D _ _ (by have := hD; have := HB6.out.size; omega) HKk.out)⟩
    · have d1 : ((s : Int) + 1 == (x.length : Int)) = false := by simp; omega
      clear hl
      gi_wp2
      refine ⟨by simp, .inl ⟨_, _, rfl, run_takeDeferred HKk.out, ?_⟩⟩
      exact ⟨_, results_tmp rfl _ _ _, rfl, HB.out.trans (below_put W D _ _ (by have := hD; have := HB6.out.size; omega) HKk.out)⟩
end Go.Proofs.Ytpgelodcdclchaa.Hist
