/-
  What the law RingSame answers at every input.
-/
import Derived.Test.YtoddlbggbkabnaaDoorWturn
namespace Go.Proofs.YtoddlbggbkabnaaDoor
open Go Go.RowKit
set_option maxRecDepth 100000

set_option maxHeartbeats 4000000 in
theorem ringSame_long (s : List UInt8) (hs : 64 < s.length) (c d : Int) (t : List UInt8) (w : World) (hK : Ktab w) (hT : Lay.Tabs w) :
    Calls Tryd.prog 6 #[.string ⟨s.toArray⟩, .agg #[.int .i64 c, .int .i64 d, .string ⟨t.toArray⟩]] w fun e w' => e = .returned (.bool true) ∧ Below w.heap.size w w' := by
  have HA := hid (fun W a b => awake_any W a b)
  have HLi := hid (fun W => light_any c d t W)
  have HKb : Hid (∀ V, Below w.heap.size w V → Ktab V) := fun V h => hK.stays h hK.pos
  have HTb : Hid (∀ V, Below w.heap.size w V → Lay.Tabs V) := fun V h => hT.stays h
  have HB0 := hid (below_a1 w (.cells #[.int .i64 c, .int .i64 d, .string ⟨t.toArray⟩] 32))
  have hq0 := hid (top_row w (.cells #[.int .i64 c, .int .i64 d, .string ⟨t.toArray⟩] 32))
  have HN := hid (fun W => new_bad s 4 (.inr (.inr hs)) W)
  have hsz : (⟨s.toArray⟩ : ByteArray).size = s.length := rfl
  have d64 : decide ((64 : Int) < (s.length : Int)) = true := by simp; omega
  generalize lightB t = lb at *
  clear hK hT hs
  go_enter Tryd.func6, Tryd.ntmps6
  go_upto_region 1 with fail
  generalize w.alloc (.cells #[.int .i64 c, .int .i64 d, .string ⟨t.toArray⟩] 32) = w0 at *
  go_wp2_with (first | (go_at_call 8; refine (HN.out _).mono ?_; rintro e W ⟨rfl, rfl⟩) | (go_at_call 10; refine (HA.out _ (HKb.out _ HB0.out) (HTb.out _ HB0.out)).mono ?_))
  rintro e w2 ⟨rfl, hb2⟩
  have HB2 : Hid (Below w.heap.size w w2) := HB0.out.trans (hb2.mono HB0.out.size)
  have hq2 := hid (row_kept hq0.out hb2)
  clear hb2
  have hc0 : w2.cell? ⟨w.heap.size, 0, none⟩ = some (.int .i64 c) := by rw [cell_of_row _ _ _ _ _ _ hq2.out]; rfl
  have hc1 : w2.cell? ⟨w.heap.size, 1, none⟩ = some (.int .i64 d) := by rw [cell_of_row _ _ _ _ _ _ hq2.out]; rfl
  have hc2 : w2.cell? ⟨w.heap.size, 2, none⟩ = some (.string ⟨t.toArray⟩) := by rw [cell_of_row _ _ _ _ _ _ hq2.out]; rfl
  go_wp2_with (first | (go_at_call 11; refine (HLi.out _).mono ?_))
  rintro e w3 ⟨rfl, hb3⟩
  have HB3 : Hid (Below w.heap.size w w3) := HB2.out.trans (hb3.mono HB2.out.size)
  clear hb3 hc0 hc1 hc2
  cases lb with
  | false =>
    go_wp2_with (first | (go_at_call 10; refine (HA.out _ (HKb.out _ HB3.out) (HTb.out _ HB3.out)).mono ?_))
    rintro e w4 ⟨rfl, hb4⟩
    have HB4 : Hid (Below w.heap.size w w4) := HB3.out.trans (hb4.mono HB3.out.size)
    clear hb4
    go_wp2
    go_ret
    exact ⟨rfl, HB4.out⟩
  | true =>
    go_wp2
    go_ret
    exact ⟨rfl, HB3.out⟩

set_option maxHeartbeats 4000000 in
theorem ringSame_short (s : List UInt8) (hs : s.length ≤ 64) (c d : Int) (t : List UInt8) (hw : EntWf (c, d, t)) (w : World) (hK : Ktab w) (hT : Lay.Tabs w) :
    Calls Tryd.prog 6 #[.string ⟨s.toArray⟩, .agg #[.int .i64 c, .int .i64 d, .string ⟨t.toArray⟩]] w fun e w' => e = .returned (.bool true) ∧ Below w.heap.size w w' := by
  have HA := hid (fun W a b => awake_any W a b)
  have HLi := hid (fun W => light_any c d t W)
  have HKb : Hid (∀ V, Below w.heap.size w V → Ktab V) := fun V h => hK.stays h hK.pos
  have HTb : Hid (∀ V, Below w.heap.size w V → Lay.Tabs V) := fun V h => hT.stays h
  have HB0 := hid (below_a1 w (.cells #[.int .i64 c, .int .i64 d, .string ⟨t.toArray⟩] 32))
  have hq0 := hid (top_row w (.cells #[.int .i64 c, .int .i64 d, .string ⟨t.toArray⟩] 32))
  have HN : Hid (∀ W, Ktab W → Lay.Tabs W → Calls Tryd.prog 8 #[.string ⟨s.toArray⟩, .int .i64 4] W fun e w' => ∃ p h g b, e = .returned (.tuple #[.pointer (some ⟨p, 0, none⟩), .int .i64 0]) ∧ NewRing W w' p h g b s 4) := fun W a b => new_ok s hs 4 (by decide) (by decide) W a b
  have HZ := zero25
  have hZs : Hid (zb32.size = 32) := show zb32.size = 32 from rfl
  have hZ2 : Hid (Unit → zb32 = ((List.replicate 32 (0 : UInt8)).map cb).toArray) := fun _ => rfl
  generalize lightB t = lb at *
  clear hK hT hs
  go_enter Tryd.func6, Tryd.ntmps6
  go_upto_region 1 with fail
  generalize w.alloc (.cells #[.int .i64 c, .int .i64 d, .string ⟨t.toArray⟩] 32) = w0 at *
  go_wp2_with (first | (go_at_call 8; refine (HN.out _ (HKb.out _ HB0.out) (HTb.out _ HB0.out)).mono ?_))
  rintro e w1 ⟨p, h, g, b, rfl, hN⟩
  have HS1 : Hid (Start w w1 w.heap.size p h g b s c d t []) := ⟨hN.ring, HB0.out.trans (hN.low.mono HB0.out.size), Nat.le_trans HB0.out.size hN.far, row_kept hq0.out hN.low⟩
  clear hN HB0 hq0
  go_wp2_with (first | (go_at_call 8; refine (HN.out _ (HKb.out _ HS1.out.low) (HTb.out _ HS1.out.low)).mono ?_))
  rintro e w2 ⟨p2, h2, g2, b2, rfl, hN⟩
  have HS2 := hid (HS1.out.kept hN.low)
  have R2 := hid hN.ring
  have hbb : Hid (b2 ≠ b) := by have := HS1.out.ring.book.lt; have := hN.far; show _ ≠ _; omega
  clear hN HS1 HN
  go_wp2_with (first | (go_at_call 10; refine (HA.out _ (HKb.out _ HS2.out.low) (HTb.out _ HS2.out.low)).mono ?_))
  rintro e w3 ⟨rfl, hb3⟩
  have HS3 := hid (HS2.out.kept hb3)
  have R3 := hid (R2.out.kept hb3)
  clear hb3 HS2 R2
  have hc0 := HS3.out.c0
  have hc1 := HS3.out.c1
  have hc2 := HS3.out.c2
  go_wp2_with (first | (go_at_call 11; refine (HLi.out _).mono ?_))
  rintro e w4 ⟨rfl, hb4⟩
  have HS4 := hid (HS3.out.kept hb4)
  have R4 := hid (R3.out.kept hb4)
  clear hb4 HS3 R3 hc0 hc1 hc2
  have hc0 := HS4.out.c0
  have hc1 := HS4.out.c1
  have hc2 := HS4.out.c2
  cases lb with
  | false =>
    go_wp2_with (first | (go_at_call 10; refine (HA.out _ (HKb.out _ HS4.out.low) (HTb.out _ HS4.out.low)).mono ?_))
    rintro e w5 ⟨rfl, hb5⟩
    have HS5 := hid (HS4.out.kept hb5)
    clear hb5
    go_wp2
    go_ret
    exact ⟨rfl, HS5.out.low⟩
  | true =>
    have HMD : Hid (∀ W, RingAt W p2 h2 g2 b2 s 4 [] → Calls Tryd.prog 18 #[.pointer (some ⟨p2, 0, none⟩), .int .i64 c, .int .i64 d, .string ⟨t.toArray⟩] W fun e w' => e = .returned (.bool false) ∧ Below W.heap.size W w') := fun W rr => by
      have hh := made_any rr c d t hw
      rw [decide_eq_false (List.not_mem_nil)] at hh
      exact hh
    by_cases hm : May 4 (c, d, t)
    · have HTG := hid (tag_c HS4.out.ring (by decide) c d t hm (by decide) (HKb.out _ HS4.out.low) (HTb.out _ HS4.out.low))
      obtain ⟨T, hTe⟩ : ∃ T, T = tagB s (c, d, t) := ⟨_, rfl⟩
      rw [← hTe] at HTG
      have hTl : Hid (T.length = 32) := by show _ = _; rw [hTe]; exact tagB_len _ _
      have HCK : Hid (∀ W, RingAt W p2 h2 g2 b2 s 4 [] → Ktab W → Lay.Tabs W → Calls Tryd.prog 14 #[.pointer (some ⟨p2, 0, none⟩), .int .i64 c, .int .i64 d, .string ⟨t.toArray⟩, .agg (T.map cb).toArray] W fun e w' => e = .returned (.bool true) ∧ Below W.heap.size W w') := fun W rr a e => check_own rr c d t T hTe hm a e
      have HO1 := hid (one_cb T)
      have HI : Hid ((Tryd.prog.info? 34).map (·.size) = some (T.map cb).length) := by show _ = _; rw [List.length_map, hTl.out]; exact size25
      have HF : Hid ((T.map cb).length = zb32.size) := by show _ = _; rw [List.length_map, hTl.out, hZs.out]
      have HSA : Hid (∀ W L, RingAt W p h g b s 4 L → Calls Tryd.prog 22 #[.pointer (some ⟨p, 0, none⟩)] W fun e w' => e = .returned (.string ⟨(secB s).toArray⟩) ∧ w' = W) := fun W L rr => secret_any rr
      have HSB : Hid (∀ W L, RingAt W p2 h2 g2 b2 s 4 L → Calls Tryd.prog 22 #[.pointer (some ⟨p2, 0, none⟩)] W fun e w' => e = .returned (.string ⟨(secB s).toArray⟩) ∧ w' = W) := fun W L rr => secret_any rr
      generalize secB s = sc at *
      clear hTe hZ2
      generalize zb32 = Z at *
      go_wp2_with (first | (go_at_call 12; refine Calls.mono HTG.out ?_))
      rintro e w5 ⟨rfl, hr5, ht5⟩
      have HS5 := hid (HS4.out.grown hr5 ht5)
      have R5 := hid (R4.out.other HS4.out.ring.book hbb.out ht5)
      clear hr5 ht5 HTG hc0 hc1 hc2
      have HS6 : Hid (Start w (w5.alloc (.cells (T.map cb).toArray 34)) w.heap.size p h g b s c d t (noteL [] (c, d, t))) := HS5.out.kept (below_a1 _ _)
      have R6 : Hid (RingAt (w5.alloc (.cells (T.map cb).toArray 34)) p2 h2 g2 b2 s 4 []) := R5.out.kept (below_a1 _ _)
      have HSg := hid (seg_of_row (top_row w5 (.cells (T.map cb).toArray 34)))
      generalize T.map cb = S at *
      go_upto_region 8 with (first | (refine wpList_alloc_row rfl 34 rfl Z HZ ?_) | (refine wpList_store_top rfl 34 _ _ rfl rfl w5.heap.size rfl S rfl Z 34 rfl HF.out HO1.out HI.out ?_))
      generalize w5.alloc (.cells S.toArray 34) = w6 at *
      have hc0 := HS6.out.c0
      have hc1 := HS6.out.c1
      have hc2 := HS6.out.c2
      go_wp2_with (first | (refine wpList_load_seg_g rfl 34 _ rfl w5.heap.size 0 rfl S _ HSg.out Tryd.underlying34 rfl HI.out ?_) | (go_at_call 14; refine (HCK.out _ R6.out (HKb.out _ HS6.out.low) (HTb.out _ HS6.out.low)).mono ?_))
      rintro e w7 ⟨rfl, hb7⟩
      have HS7 := hid (HS6.out.kept hb7)
      have R7 := hid (R6.out.kept hb7)
      clear hb7 hc0 hc1 hc2
      have hc0 := HS7.out.c0
      have hc1 := HS7.out.c1
      have hc2 := HS7.out.c2
      go_wp2_with (first | (go_at_call 20; refine (rlen_any R7.out).mono ?_; rintro e W ⟨rfl, rfl⟩) | (go_at_call 18; refine (HMD.out _ R7.out).mono ?_))
      rintro e w8 ⟨rfl, hb8⟩
      have HS8 := hid (HS7.out.kept hb8)
      have R8 := hid (R7.out.kept hb8)
      clear hb8 hc0 hc1 hc2
      go_wp2_with (first | (go_at_call_of 22 (Value.pointer (some ⟨p2, 0, none⟩)); refine (HSB.out _ _ R8.out).mono ?_; rintro e W ⟨rfl, rfl⟩) | (go_at_call 22; refine (HSA.out _ _ HS8.out.ring).mono ?_; rintro e W ⟨rfl, rfl⟩))
      go_ret
      exact ⟨rfl, HS8.out.low⟩
    · have HTG := hid (ringTag_bad HS4.out.ring c d t hm)
      rw [hZ2.out ()] at HTG HZ hZs
      have HCK : Hid (∀ W, RingAt W p2 h2 g2 b2 s 4 [] → Calls Tryd.prog 14 #[.pointer (some ⟨p2, 0, none⟩), .int .i64 c, .int .i64 d, .string ⟨t.toArray⟩, .agg ((List.replicate 32 (0 : UInt8)).map cb).toArray] W fun e w' => e = .returned (.bool false) ∧ Below W.heap.size W w') := fun W rr => check_bad rr c d t (List.replicate 32 0) hm
      have HO1 := hid (one_cb (List.replicate 32 0))
      have HI : Hid ((Tryd.prog.info? 34).map (·.size) = some ((List.replicate 32 (0 : UInt8)).map cb).length) := by show _ = _; rw [List.length_map, List.length_replicate]; exact size25
      have HSA : Hid (∀ W L, RingAt W p h g b s 4 L → Calls Tryd.prog 22 #[.pointer (some ⟨p, 0, none⟩)] W fun e w' => e = .returned (.string ⟨(secB s).toArray⟩) ∧ w' = W) := fun W L rr => secret_any rr
      have HSB : Hid (∀ W L, RingAt W p2 h2 g2 b2 s 4 L → Calls Tryd.prog 22 #[.pointer (some ⟨p2, 0, none⟩)] W fun e w' => e = .returned (.string ⟨(secB s).toArray⟩) ∧ w' = W) := fun W L rr => secret_any rr
      generalize secB s = sc at *
      clear hZ2 hm
      generalize (List.replicate 32 (0 : UInt8)).map cb = S at *
      have HF : Hid (S.length = S.toArray.size) := by show _ = _; rw [List.size_toArray]
      go_wp2_with (first | (go_at_call 12; refine Calls.mono HTG.out ?_))
      rintro e w5 ⟨rfl, hb5⟩
      have HS5 := hid (HS4.out.kept hb5)
      have R5 := hid (R4.out.kept hb5)
      clear hb5 HTG hc0 hc1 hc2
      have HS6 : Hid (Start w (w5.alloc (.cells S.toArray 34)) w.heap.size p h g b s c d t []) := HS5.out.kept (below_a1 _ _)
      have R6 : Hid (RingAt (w5.alloc (.cells S.toArray 34)) p2 h2 g2 b2 s 4 []) := R5.out.kept (below_a1 _ _)
      have HSg := hid (seg_of_row (top_row w5 (.cells S.toArray 34)))
      go_upto_region 8 with (first | (refine wpList_alloc_row rfl 34 rfl S.toArray HZ ?_) | (refine wpList_store_top rfl 34 _ _ rfl rfl w5.heap.size rfl S rfl S.toArray 34 rfl HF.out HO1.out HI.out ?_))
      generalize w5.alloc (.cells S.toArray 34) = w6 at *
      have hc0 := HS6.out.c0
      have hc1 := HS6.out.c1
      have hc2 := HS6.out.c2
      go_wp2_with (first | (refine wpList_load_seg_g rfl 34 _ rfl w5.heap.size 0 rfl S _ HSg.out Tryd.underlying34 rfl HI.out ?_) | (go_at_call 14; refine (HCK.out _ R6.out).mono ?_))
      rintro e w7 ⟨rfl, hb7⟩
      have HS7 := hid (HS6.out.kept hb7)
      have R7 := hid (R6.out.kept hb7)
      clear hb7 hc0 hc1 hc2
      have hc0 := HS7.out.c0
      have hc1 := HS7.out.c1
      have hc2 := HS7.out.c2
      go_wp2_with (first | (go_at_call 20; refine (rlen_any R7.out).mono ?_; rintro e W ⟨rfl, rfl⟩) | (go_at_call 18; refine (HMD.out _ R7.out).mono ?_))
      rintro e w8 ⟨rfl, hb8⟩
      have HS8 := hid (HS7.out.kept hb8)
      have R8 := hid (R7.out.kept hb8)
      clear hb8 hc0 hc1 hc2
      go_wp2_with (first | (go_at_call_of 22 (Value.pointer (some ⟨p2, 0, none⟩)); refine (HSB.out _ _ R8.out).mono ?_; rintro e W ⟨rfl, rfl⟩) | (go_at_call 22; refine (HSA.out _ _ HS8.out.ring).mono ?_; rintro e W ⟨rfl, rfl⟩))
      go_ret
      exact ⟨rfl, HS8.out.low⟩

theorem ringSame_any (s : List UInt8) (c d : Int) (t : List UInt8) (hc : -9223372036854775808 ≤ c ∧ c ≤ 9223372036854775807) (hd : -9223372036854775808 ≤ d ∧ d ≤ 9223372036854775807) (ht : t.length ≤ maxLen) (w : World) (hK : Ktab w) (hT : Lay.Tabs w) :
    Calls Tryd.prog 6 #[.string ⟨s.toArray⟩, .agg #[.int .i64 c, .int .i64 d, .string ⟨t.toArray⟩]] w fun e w' => e = .returned (.bool true) ∧ Below w.heap.size w w' := by
  by_cases hs : 64 < s.length
  · exact ringSame_long s hs c d t w hK hT
  · exact ringSame_short s (by omega) c d t ⟨WalkArith.wf_i64 hc, WalkArith.wf_i64 hd, ht⟩ w hK hT

end Go.Proofs.YtoddlbggbkabnaaDoor
