/-
  What the law RingPlays answers where there may be such a ring.
-/
import Derived.Test.YtoddlbggbkabnaaDoorWplt
import Derived.Deep.CutBlock
namespace Go.Proofs.YtoddlbggbkabnaaDoor
open Go Go.RowKit
set_option maxRecDepth 100000

set_option maxHeartbeats 8000000 in
theorem ringPlays_ok (s : List UInt8) (hs : s.length ≤ 64) (n : Nat) (h2 : 2 ≤ n) (h8 : n ≤ 8) (a : Option Addr) (len cap : Nat) (w : World) (hAct : ActsAt w a len) (hK : Ktab w) (hT : Lay.Tabs w) :
    Calls Tryd.prog 3 #[.string ⟨s.toArray⟩, .int .i64 (n : Int), .slice a len cap] w fun e w' => e = .returned (.bool true) ∧ Below w.heap.size w w' := by
  have HA := hid (fun W a b => awake_any W a b)
  have HKb : Hid (∀ V, Below w.heap.size w V → Ktab V) := fun V h => hK.stays h hK.pos
  have HTb : Hid (∀ V, Below w.heap.size w V → Lay.Tabs V) := fun V h => hT.stays h
  have HNW := hid (new_ok s hs n h2 h8 w hK hT)
  have HRN := hid (fun W => rnew_ok s hs n h2 h8 W)
  have HAC := hid hAct
  have HSM : Hid (∀ W, Calls Tryd.prog 23 #[.string ⟨s.toArray⟩, .string ⟨#[115, 101, 99, 114, 101, 116]⟩, .int .i64 0] W fun e w' => e = .returned (.string ⟨(secB s).toArray⟩) ∧ Below W.heap.size W w') := fun W => rmake_ok s (by omega) [115, 101, 99, 114, 101, 116] (by decide) 0 (by omega) (by omega) W
  have HS64 := hid hs
  have HN8 := hid h8
  have HZ := zero36
  have hZs : Hid (za36.size = 36) := by show _ = _; rfl
  generalize za36 = Z36 at *
  clear hK hT hAct hs h2 h8
  go_enter Tryd.func3, Tryd.ntmps3
  go_wp2_with (first | (go_at_call 8; refine Calls.mono HNW.out ?_))
  rintro e w1 ⟨p, h, g, b, rfl, hN⟩
  have HN := hid hN
  clear hN HNW
  go_wp2_with (first | (go_at_call 9; refine (HRN.out _).mono ?_))
  rintro e w2 ⟨x, rfl, hr2, hb2, hfx⟩
  have HP2 : Hid (Pl w w2 p h g b x s n (.slice none 0 0) [] []) := ⟨HN.out.ring.kept hb2, hr2, HN.out.low.trans (hb2.mono HN.out.low.size), HN.out.far, Nat.le_trans HN.out.low.size hfx⟩
  clear hr2 hb2 hfx HN HRN
  go_wp2_with (first | (go_at_call 10; refine (HA.out _ (HKb.out _ HP2.out.low) (HTb.out _ HP2.out.low)).mono ?_))
  rintro e w3 ⟨rfl, hb3⟩
  have HP3 := hid (HP2.out.kept hb3)
  clear hb3 HP2 HA
  go_wp2
  go_loopw [11] (fun i w' => ∃ (j : Nat) (v : Value) (L : List Ent), j ≤ len ∧ j ≤ 20 ∧ i = .int .i64 j ∧ L.length ≤ j ∧ Hid (∀ e ∈ L, EntWf e) ∧ Hid (Pl w w' p h g b x s n v L L)) (fun i _ => 20 - (intOf i).toNat)
  case atStart => exact ⟨0, _, [], by omega, by omega, rfl, by simp, fun e he => absurd he (List.not_mem_nil), HP3⟩
  case round =>
    clear HP3
    obtain ⟨j, v, L, hj, hj20, rfl, hLj, HW, HP⟩ := hrel
    by_cases hlt : j < len ∧ j < 20
    · obtain ⟨hlt1, hlt2⟩ := hlt
      obtain ⟨ab, aoff, k, c, d, t, D, ha, hal, hok, hcell⟩ := (HAC.out.kept HP.out.low) j hlt1
      subst ha
      have HOK := hid hok
      have HCe := hid hcell
      have hAL : Hid ((actL k c d t D).length = 36) := actL_len k c d t D hok.2.2.2
      have HI36 : Hid ((Tryd.prog.info? 36).map (·.size) = some (actL k c d t D).length) := by show _ = _; rw [hAL.out]; exact size36
      have HO36 := hid (actL_one k c d t D)
      have HF36 : Hid ((actL k c d t D).length = Z36.size) := by show _ = _; rw [hAL.out, hZs.out]
      have HX4 : Hid (ActBox (wr.alloc (.cells (actL k c d t D).toArray 36)) wr.heap.size k c d t D) := top_row wr _
      have HP4 := hid (HP.out.kept (below_a1 wr (.cells (actL k c d t D).toArray 36)))
      have dl : decide ((j : Int) < (len : Int)) = true := by simp; omega
      have dln : decide (j < len) = true := decide_eq_true hlt1
      have d20n : decide (j < 20) = true := decide_eq_true hlt2
      have d20 : decide ((j : Int) < 20) = true := by simp; omega
      have hj0 : (0 : Int) ≤ (j : Int) := Int.natCast_nonneg _
      have hj1 : (j : Int) < (len : Int) := by omega
      clear hok hcell
      generalize hALe : actL k c d t D = AL at *
      go_upto_region 9 with (first | (refine wpList_load_seg rfl 36 _ rfl ab (aoff + j * 36) rfl AL _ HCe.out Tryd.underlying36 rfl HI36.out ?_) | (refine wpList_alloc_row rfl 36 rfl Z36 HZ ?_) | (refine wpList_store_top rfl 36 _ _ rfl rfl wr.heap.size rfl AL rfl Z36 36 rfl HF36.out HO36.out HI36.out ?_))
      generalize wr.alloc (.cells AL.toArray 36) = w4 at *
      simp only [Act.put, List.setIfInBounds_toArray, List.set_cons_zero, List.set_cons_succ]
      have HLi := hid (fun W => light_any c d t W)
      obtain ⟨lb, hlb⟩ : ∃ lb, lb = lightB t := ⟨_, rfl⟩
      rw [← hlb] at HLi
      clear hlb HCe HI36 HO36 HF36 hAL
      have hc1 := HX4.out.c1
      have hc2 := HX4.out.c2
      have hc3 := HX4.out.c3
      go_wp2_with (first | (go_at_call 11; refine (HLi.out _).mono ?_))
      rintro e w5 ⟨rfl, hb5⟩
      have HP5 := hid (HP4.out.kept hb5)
      have HX5 := hid (HX4.out.kept hb5)
      clear hb5 HP4 HX4 HLi hc1 hc2 hc3 HP
      generalize hqe : wr.heap.size = q at *
      clear hqe
      cases lb with
      | false =>
        go_wp2
        go_roundw
        case rel => exact ⟨j + 1, v, L, by omega, by omega, by go_num, by omega, HW, HP5⟩
        case measure => simp [intOf]; omega
      | true =>
        have hc0 := HX5.out.c0
        go_upto_block 2 with fail
        go_cut [13] from 44 to 180 (fun ok wc => ok = .bool true ∧ ∃ (v' : Value) (L' : List Ent), L'.length ≤ j + 1 ∧ Hid (∀ e ∈ L', EntWf e) ∧ Hid (Pl w wc p h g b x s n v' L' L') ∧ Hid (ActBox wc q k c d t D))
        case first =>
          have HZD := zero25
          obtain ⟨ZL, hzb, hzl, hz1, HEz, -⟩ := zeroL
          rw [hzb] at HZD
          have HZE : Hid (Unit → zb32 = ZL.toArray) := fun _ => hzb
          have Hzl := hid hzl
          have Hz1 := hid hz1
          clear hzb hzl hz1
          have hkk : ((k == 0) = true) ∨ ((k == 0) = false ∧ (k == 1) = true) ∨ ((k == 0) = false ∧ (k == 1) = false ∧ (k == 2) = true) ∨ ((k == 0) = false ∧ (k == 1) = false ∧ (k == 2) = false) := by
            cases (k == 0) <;> cases (k == 1) <;> cases (k == 2) <;> simp
          rcases hkk with e0 | ⟨e0, e1⟩ | ⟨e0, e1, e2⟩ | ⟨e0, e1, e2⟩
          · by_cases hm : May n (c, d, t)
            · as_aux_lemma =>
                obtain ⟨S, hsl, ho1, HET, htg, hrg⟩ := tags_pack HP5.out HS64.out HN8.out c d t HOK.out.1 HOK.out.2.1 hm HW.out (by omega) (HKb.out _ HP5.out.low) (HTb.out _ HP5.out.low)
                have HTG := hid htg
                have HRG := hid hrg
                have HO1 := hid ho1
                have hSl := hid hsl
                have HI : Hid ((Tryd.prog.info? 34).map (·.size) = some S.length) := by show _ = _; rw [hSl.out]; exact size25
                clear htg hrg ho1 hsl
                have HF : Hid (S.length = ZL.toArray.size) := by show _ = _; rw [hSl.out, List.size_toArray, Hzl.out]
                have hc1 := HX5.out.c1
                have hc2 := HX5.out.c2
                have hc3 := HX5.out.c3
                clear hm HEz
                go_wp2_with (first | (go_at_call 12; refine Calls.mono HTG.out ?_))
                rintro e w6 ⟨rfl, hr6, ht6⟩
                have HP6 := hid (HP5.out.tagged hr6 ht6)
                have HX6 : Hid (ActBox w6 q k c d t D) := row_touch HX5.out ht6 (HP5.out.ring.book.ne HX5.out)
                clear hr6 ht6 HTG hc1 hc2 hc3 hc0 HP5 HX5
                as_aux_lemma =>
                  have HP7 := hid (HP6.out.kept (below_a1 w6 (.cells S.toArray 34)))
                  have HX7 := hid (HX6.out.kept (below_a1 w6 (.cells S.toArray 34)))
                  have HR7 := hid (top_row w6 (.cells S.toArray 34))
                  go_upto_region 16 with (first | (refine wpList_alloc_row rfl 34 rfl ZL.toArray HZD ?_) | (refine wpList_store_top rfl 34 _ _ rfl rfl w6.heap.size rfl S rfl ZL.toArray 34 rfl HF.out HO1.out HI.out ?_))
                  generalize w6.alloc (.cells S.toArray 34) = w7 at *
                  as_aux_lemma =>
                    have hc1 := HX7.out.c1
                    have hc2 := HX7.out.c2
                    have hc3 := HX7.out.c3
                    go_wp2_with (first | (go_at_call 13; refine (HRG.out _ HP7.out.ref).mono ?_))
                    rintro e w8 ⟨rfl, v8, hr8, ht8⟩
                    have HP8 := hid (HP7.out.retagged hr8 ht8)
                    have HX8 : Hid (ActBox w8 q k c d t D) := row_touch HX7.out ht8 (ne_of_type HX7.out HP7.out.ref.obj (by decide))
                    have HR8 := hid (row_touch HR7.out ht8 (ne_of_type HR7.out HP7.out.ref.obj (by decide)))
                    clear hr8 ht8 HRG hc1 hc2 hc3 HP7 HX7 HR7 HP6 HX6
                    as_aux_lemma =>
                      have HP9 := hid (HP8.out.kept (below_a1 w8 (.cells S.toArray 34)))
                      have HX9 := hid (HX8.out.kept (below_a1 w8 (.cells S.toArray 34)))
                      have HA9 : Hid (∀ i u, S[i]? = some u → (w8.alloc (.cells S.toArray 34)).cell? ⟨w6.heap.size, 0 + i, none⟩ = some u) := seg_of_row (row_kept HR8.out (below_a1 _ _))
                      have HB9 := hid (seg_of_row (top_row w8 (.cells S.toArray 34)))
                      go_upto_region 17 with (first | (refine wpList_alloc_row rfl 34 rfl ZL.toArray HZD ?_) | (refine wpList_store_top rfl 34 _ _ rfl rfl w8.heap.size rfl S rfl ZL.toArray 34 rfl HF.out HO1.out HI.out ?_))
                      generalize w8.alloc (.cells S.toArray 34) = w9 at *
                      clear HZD
                      as_aux_lemma =>
                        go_wp2_with (first | (refine wpList_load_seg rfl 34 _ rfl w6.heap.size 0 rfl S _ HA9.out Tryd.underlying34 rfl HI.out ?_) | (refine wpList_load_seg rfl 34 _ rfl w8.heap.size 0 rfl S _ HB9.out Tryd.underlying34 rfl HI.out ?_))
                        go_meet
                        exact ⟨rfl, v8, noteL L (c, d, t), by have := noteL_len L (c, d, t); omega, noteL_wf L (c, d, t) HW.out HOK.out.wf, HP9, HX9⟩
            · as_aux_lemma =>
                have HTG := hid (ringTag_bad HP5.out.ring c d t hm)
                have HRG : Hid (∀ W, RefAt W x s n v L → Calls Tryd.prog 13 #[.pointer (some ⟨x, 0, none⟩), .agg #[.int .i64 c, .int .i64 d, .string ⟨t.toArray⟩]] W fun e w' => e = .returned (.tuple #[.agg zb32, .int .i64 2]) ∧ Below W.heap.size W w') := fun W rr => rtag_bad rr c d t hm
                rw [HZE.out ()] at HTG HRG
                have HF : Hid (ZL.length = ZL.toArray.size) := by show _ = _; rw [List.size_toArray]
                have HI : Hid ((Tryd.prog.info? 34).map (·.size) = some ZL.length) := by show _ = _; rw [Hzl.out]; exact size25
                have hc1 := HX5.out.c1
                have hc2 := HX5.out.c2
                have hc3 := HX5.out.c3
                clear hm
                go_wp2_with (first | (go_at_call 12; refine Calls.mono HTG.out ?_))
                rintro e w6 ⟨rfl, hb6⟩
                have HP6 := hid (HP5.out.kept hb6)
                have HX6 := hid (HX5.out.kept hb6)
                clear hb6 HTG hc1 hc2 hc3 hc0 HP5 HX5
                as_aux_lemma =>
                  have HP7 := hid (HP6.out.kept (below_a1 w6 (.cells ZL.toArray 34)))
                  have HX7 := hid (HX6.out.kept (below_a1 w6 (.cells ZL.toArray 34)))
                  have HR7 := hid (top_row w6 (.cells ZL.toArray 34))
                  go_upto_region 16 with (first | (refine wpList_alloc_row rfl 34 rfl ZL.toArray HZD ?_) | (refine wpList_store_top rfl 34 _ _ rfl rfl w6.heap.size rfl ZL rfl ZL.toArray 34 rfl HF.out Hz1.out HI.out ?_))
                  generalize w6.alloc (.cells ZL.toArray 34) = w7 at *
                  as_aux_lemma =>
                    have hc1 := HX7.out.c1
                    have hc2 := HX7.out.c2
                    have hc3 := HX7.out.c3
                    go_wp2_with (first | (go_at_call 13; refine (HRG.out _ HP7.out.ref).mono ?_))
                    rintro e w8 ⟨rfl, hb8⟩
                    have HP8 := hid (HP7.out.kept hb8)
                    have HX8 := hid (HX7.out.kept hb8)
                    have HR8 := hid (row_kept HR7.out hb8)
                    clear hb8 HRG hc1 hc2 hc3 HP7 HX7 HR7 HP6 HX6
                    as_aux_lemma =>
                      have HP9 := hid (HP8.out.kept (below_a1 w8 (.cells ZL.toArray 34)))
                      have HX9 := hid (HX8.out.kept (below_a1 w8 (.cells ZL.toArray 34)))
                      have HA9 : Hid (∀ i u, ZL[i]? = some u → (w8.alloc (.cells ZL.toArray 34)).cell? ⟨w6.heap.size, 0 + i, none⟩ = some u) := seg_of_row (row_kept HR8.out (below_a1 _ _))
                      have HB9 := hid (seg_of_row (top_row w8 (.cells ZL.toArray 34)))
                      go_upto_region 17 with (first | (refine wpList_alloc_row rfl 34 rfl ZL.toArray HZD ?_) | (refine wpList_store_top rfl 34 _ _ rfl rfl w8.heap.size rfl ZL rfl ZL.toArray 34 rfl HF.out Hz1.out HI.out ?_))
                      generalize w8.alloc (.cells ZL.toArray 34) = w9 at *
                      clear HZD
                      as_aux_lemma =>
                        go_wp2_with (first | (refine wpList_load_seg rfl 34 _ rfl w6.heap.size 0 rfl ZL _ HA9.out Tryd.underlying34 rfl HI.out ?_) | (refine wpList_load_seg rfl 34 _ rfl w8.heap.size 0 rfl ZL _ HB9.out Tryd.underlying34 rfl HI.out ?_))
                        go_meet
                        exact ⟨rfl, v, L, by omega, HW, HP9, HX9⟩
          · by_cases hm : May n (c, d, t)
            · as_aux_lemma =>
                obtain ⟨S, hsl, ho1, HET, htg, hrg⟩ := tags_pack HP5.out HS64.out HN8.out c d t HOK.out.1 HOK.out.2.1 hm HW.out (by omega) (HKb.out _ HP5.out.low) (HTb.out _ HP5.out.low)
                have HTG := hid htg
                have HRG := hid hrg
                have HO1 := hid ho1
                have hSl := hid hsl
                have HI : Hid ((Tryd.prog.info? 34).map (·.size) = some S.length) := by show _ = _; rw [hSl.out]; exact size25
                clear htg hrg ho1 hsl
                have HF : Hid (S.length = ZL.toArray.size) := by show _ = _; rw [hSl.out, List.size_toArray, Hzl.out]
                have hc1 := HX5.out.c1
                have hc2 := HX5.out.c2
                have hc3 := HX5.out.c3
                clear hm HEz
                go_wp2_with (first | (go_at_call 12; refine Calls.mono HTG.out ?_))
                rintro e w6 ⟨rfl, hr6, ht6⟩
                have HP6 := hid (HP5.out.tagged hr6 ht6)
                have HX6 : Hid (ActBox w6 q k c d t D) := row_touch HX5.out ht6 (HP5.out.ring.book.ne HX5.out)
                clear hr6 ht6 HTG hc1 hc2 hc3 hc0 HP5 HX5
                as_aux_lemma =>
                  have HP7 := hid (HP6.out.kept (below_a1 w6 (.cells S.toArray 34)))
                  have HX7 := hid (HX6.out.kept (below_a1 w6 (.cells S.toArray 34)))
                  have HR7 := hid (top_row w6 (.cells S.toArray 34))
                  go_upto_region 16 with (first | (refine wpList_alloc_row rfl 34 rfl ZL.toArray HZD ?_) | (refine wpList_store_top rfl 34 _ _ rfl rfl w6.heap.size rfl S rfl ZL.toArray 34 rfl HF.out HO1.out HI.out ?_))
                  generalize w6.alloc (.cells S.toArray 34) = w7 at *
                  as_aux_lemma =>
                    have hc1 := HX7.out.c1
                    have hc2 := HX7.out.c2
                    have hc3 := HX7.out.c3
                    go_wp2_with (first | (go_at_call 13; refine (HRG.out _ HP7.out.ref).mono ?_))
                    rintro e w8 ⟨rfl, v8, hr8, ht8⟩
                    have HP8 := hid (HP7.out.retagged hr8 ht8)
                    have HX8 : Hid (ActBox w8 q k c d t D) := row_touch HX7.out ht8 (ne_of_type HX7.out HP7.out.ref.obj (by decide))
                    have HR8 := hid (row_touch HR7.out ht8 (ne_of_type HR7.out HP7.out.ref.obj (by decide)))
                    clear hr8 ht8 HRG hc1 hc2 hc3 HP7 HX7 HR7 HP6 HX6
                    as_aux_lemma =>
                      have HP9 := hid (HP8.out.kept (below_a1 w8 (.cells S.toArray 34)))
                      have HX9 := hid (HX8.out.kept (below_a1 w8 (.cells S.toArray 34)))
                      have HA9 : Hid (∀ i u, S[i]? = some u → (w8.alloc (.cells S.toArray 34)).cell? ⟨w6.heap.size, 0 + i, none⟩ = some u) := seg_of_row (row_kept HR8.out (below_a1 _ _))
                      have HB9 := hid (seg_of_row (top_row w8 (.cells S.toArray 34)))
                      go_upto_region 17 with (first | (refine wpList_alloc_row rfl 34 rfl ZL.toArray HZD ?_) | (refine wpList_store_top rfl 34 _ _ rfl rfl w8.heap.size rfl S rfl ZL.toArray 34 rfl HF.out HO1.out HI.out ?_))
                      generalize w8.alloc (.cells S.toArray 34) = w9 at *
                      clear HZD
                      as_aux_lemma =>
                        go_wp2_with (first | (refine wpList_load_seg rfl 34 _ rfl w6.heap.size 0 rfl S _ HA9.out Tryd.underlying34 rfl HI.out ?_) | (refine wpList_load_seg rfl 34 _ rfl w8.heap.size 0 rfl S _ HB9.out Tryd.underlying34 rfl HI.out ?_))
                        go_meet
                        exact ⟨rfl, v8, noteL L (c, d, t), by have := noteL_len L (c, d, t); omega, noteL_wf L (c, d, t) HW.out HOK.out.wf, HP9, HX9⟩
            · as_aux_lemma =>
                have HTG := hid (ringTag_bad HP5.out.ring c d t hm)
                have HRG : Hid (∀ W, RefAt W x s n v L → Calls Tryd.prog 13 #[.pointer (some ⟨x, 0, none⟩), .agg #[.int .i64 c, .int .i64 d, .string ⟨t.toArray⟩]] W fun e w' => e = .returned (.tuple #[.agg zb32, .int .i64 2]) ∧ Below W.heap.size W w') := fun W rr => rtag_bad rr c d t hm
                rw [HZE.out ()] at HTG HRG
                have HF : Hid (ZL.length = ZL.toArray.size) := by show _ = _; rw [List.size_toArray]
                have HI : Hid ((Tryd.prog.info? 34).map (·.size) = some ZL.length) := by show _ = _; rw [Hzl.out]; exact size25
                have hc1 := HX5.out.c1
                have hc2 := HX5.out.c2
                have hc3 := HX5.out.c3
                clear hm
                go_wp2_with (first | (go_at_call 12; refine Calls.mono HTG.out ?_))
                rintro e w6 ⟨rfl, hb6⟩
                have HP6 := hid (HP5.out.kept hb6)
                have HX6 := hid (HX5.out.kept hb6)
                clear hb6 HTG hc1 hc2 hc3 hc0 HP5 HX5
                as_aux_lemma =>
                  have HP7 := hid (HP6.out.kept (below_a1 w6 (.cells ZL.toArray 34)))
                  have HX7 := hid (HX6.out.kept (below_a1 w6 (.cells ZL.toArray 34)))
                  have HR7 := hid (top_row w6 (.cells ZL.toArray 34))
                  go_upto_region 16 with (first | (refine wpList_alloc_row rfl 34 rfl ZL.toArray HZD ?_) | (refine wpList_store_top rfl 34 _ _ rfl rfl w6.heap.size rfl ZL rfl ZL.toArray 34 rfl HF.out Hz1.out HI.out ?_))
                  generalize w6.alloc (.cells ZL.toArray 34) = w7 at *
                  as_aux_lemma =>
                    have hc1 := HX7.out.c1
                    have hc2 := HX7.out.c2
                    have hc3 := HX7.out.c3
                    go_wp2_with (first | (go_at_call 13; refine (HRG.out _ HP7.out.ref).mono ?_))
                    rintro e w8 ⟨rfl, hb8⟩
                    have HP8 := hid (HP7.out.kept hb8)
                    have HX8 := hid (HX7.out.kept hb8)
                    have HR8 := hid (row_kept HR7.out hb8)
                    clear hb8 HRG hc1 hc2 hc3 HP7 HX7 HR7 HP6 HX6
                    as_aux_lemma =>
                      have HP9 := hid (HP8.out.kept (below_a1 w8 (.cells ZL.toArray 34)))
                      have HX9 := hid (HX8.out.kept (below_a1 w8 (.cells ZL.toArray 34)))
                      have HA9 : Hid (∀ i u, ZL[i]? = some u → (w8.alloc (.cells ZL.toArray 34)).cell? ⟨w6.heap.size, 0 + i, none⟩ = some u) := seg_of_row (row_kept HR8.out (below_a1 _ _))
                      have HB9 := hid (seg_of_row (top_row w8 (.cells ZL.toArray 34)))
                      go_upto_region 17 with (first | (refine wpList_alloc_row rfl 34 rfl ZL.toArray HZD ?_) | (refine wpList_store_top rfl 34 _ _ rfl rfl w8.heap.size rfl ZL rfl ZL.toArray 34 rfl HF.out Hz1.out HI.out ?_))
                      generalize w8.alloc (.cells ZL.toArray 34) = w9 at *
                      clear HZD
                      as_aux_lemma =>
                        go_wp2_with (first | (refine wpList_load_seg rfl 34 _ rfl w6.heap.size 0 rfl ZL _ HA9.out Tryd.underlying34 rfl HI.out ?_) | (refine wpList_load_seg rfl 34 _ rfl w8.heap.size 0 rfl ZL _ HB9.out Tryd.underlying34 rfl HI.out ?_))
                        go_meet
                        exact ⟨rfl, v, L, by omega, HW, HP9, HX9⟩
          · as_aux_lemma =>
              have HCK : Hid (∃ B, (∀ W, RingAt W p h g b s n L → Ktab W → Lay.Tabs W → Calls Tryd.prog 14 #[.pointer (some ⟨p, 0, none⟩), .int .i64 c, .int .i64 d, .string ⟨t.toArray⟩, .agg (D.map cb).toArray] W fun e w' => e = .returned (.bool B) ∧ Below W.heap.size W w') ∧ (∀ W, RefAt W x s n v L → Calls Tryd.prog 15 #[.pointer (some ⟨x, 0, none⟩), .agg #[.int .i64 c, .int .i64 d, .string ⟨t.toArray⟩], .agg (D.map cb).toArray] W fun e w' => e = .returned (.bool B) ∧ Below W.heap.size W w')) := by
                by_cases hm : May n (c, d, t)
                · exact ⟨_, fun W rr a e => check_c rr c d t D HOK.out.2.2.2 hm a e, fun W rr => rcheck_yes rr HS64.out c d t D HOK.out.1 HOK.out.2.1 (by have := HOK.out.2.2.1; omega) HOK.out.2.2.2 hm⟩
                · exact ⟨false, fun W rr _ _ => check_bad rr c d t D hm, fun W rr => rcheck_no rr c d t D hm⟩
              obtain ⟨B, hck, hrk⟩ := HCK.out
              have HK5 := hid (HKb.out _ HP5.out.low)
              have HT5 := hid (HTb.out _ HP5.out.low)
              have HC14 : Hid (∀ dd os, Calls Tryd.prog 14 #[.pointer (some ⟨p, 0, none⟩), .int .i64 c, .int .i64 d, .string ⟨t.toArray⟩, .agg (D.map cb).toArray] (Sort.grow (redrawn w5 dd) os) fun e w'' => e = .returned (.bool B) ∧ ∃ p : Regrown, w'' = Sort.grow (redrawn w5 p.d) p.os) := fun dd os => Calls.regrown_of (hck _ (HP5.out.ring.kept (below_regrown w5 dd os)) (HK5.out.stays (below_regrown w5 dd os) HK5.out.pos) (HT5.out.stays (below_regrown w5 dd os)))
              have HC15 : Hid (∀ dd os, Calls Tryd.prog 15 #[.pointer (some ⟨x, 0, none⟩), .agg #[.int .i64 c, .int .i64 d, .string ⟨t.toArray⟩], .agg (D.map cb).toArray] (Sort.grow (redrawn w5 dd) os) fun e w'' => e = .returned (.bool B) ∧ ∃ p : Regrown, w'' = Sort.grow (redrawn w5 p.d) p.os) := fun dd os => Calls.regrown_of (hrk _ (HP5.out.ref.kept (below_regrown w5 dd os)))
              have HLd := hid (cells_off w5 q 4 (D.map cb) HX5.out.seg)
              have HI : Hid ((Tryd.prog.info? 34).map (·.size) = some (D.map cb).length) := by show _ = _; rw [List.length_map, HOK.out.2.2.2]; exact size25
              clear HCK hck hrk
              generalize D.map cb = S at *
              have f1 : ∀ dd os, (Sort.grow (redrawn w5 dd) os).cell? ⟨q, 1, none⟩ = some (.int .i64 c) := fun dd os => cell_regrown HX5.out.c1 _ _
              have f2 : ∀ dd os, (Sort.grow (redrawn w5 dd) os).cell? ⟨q, 2, none⟩ = some (.int .i64 d) := fun dd os => cell_regrown HX5.out.c2 _ _
              have f3 : ∀ dd os, (Sort.grow (redrawn w5 dd) os).cell? ⟨q, 3, none⟩ = some (.string ⟨t.toArray⟩) := fun dd os => cell_regrown HX5.out.c3 _ _
              go_upto_region 19 with fail
              refine wp_region_quiet_below (by kernel_rfl) (by kernel_rfl) ?_
              iterate 11 (first | go_big_quiet_step (fail) | quiet_step (fail))
              refine wpQuiet_load_off rfl 34 _ rfl q 4 rfl S _ HLd.out Tryd.underlying34 rfl HI.out ?_
              simp only [Act.put, List.setIfInBounds_toArray, List.set_cons_zero, List.set_cons_succ]
              iterate 1 (first | go_big_quiet_step (exact HC14.out _ _) | quiet_step (exact HC14.out _ _))
              iterate 4 (first | go_big_quiet_step (fail) | quiet_step (fail))
              refine wpQuiet_load_off rfl 34 _ rfl q 4 rfl S _ HLd.out Tryd.underlying34 rfl HI.out ?_
              simp only [Act.put, List.setIfInBounds_toArray, List.set_cons_zero, List.set_cons_succ]
              iterate 1 (first | go_big_quiet_step (exact HC15.out _ _) | quiet_step (exact HC15.out _ _))
              repeat (first | go_big_quiet_step (fail) | quiet_step (fail))
              refine wpQuiet_nil ?_
              intro _ hw'
              obtain ⟨⟨dq, osq⟩, hw''⟩ := hw'
              subst hw''
              have HPz := hid (HP5.out.kept (below_regrown w5 dq osq))
              have HXz := hid (HX5.out.kept (below_regrown w5 dq osq))
              clear f1 f2 f3
              generalize Sort.grow (redrawn w5 dq) osq = wz at *
              go_wp2
              go_meet
              exact ⟨rfl, v, L, by omega, HW, HPz, HXz⟩
          · as_aux_lemma =>
              have HCK : Hid (∃ B, (∀ W, RingAt W p h g b s n L → Ktab W → Lay.Tabs W → Calls Tryd.prog 14 #[.pointer (some ⟨p, 0, none⟩), .int .i64 c, .int .i64 d, .string ⟨t.toArray⟩, .agg ((tagB s (c, d, t)).map cb).toArray] W fun e w' => e = .returned (.bool B) ∧ Below W.heap.size W w') ∧ (∀ W, RefAt W x s n v L → Calls Tryd.prog 17 #[.pointer (some ⟨x, 0, none⟩), .agg #[.int .i64 c, .int .i64 d, .string ⟨t.toArray⟩]] W fun e w' => e = .returned (.bool B) ∧ Below W.heap.size W w')) := by
                by_cases hm : May n (c, d, t)
                · exact ⟨true, fun W rr a e => check_own rr c d t _ rfl hm a e, fun W rr => rmay_any rr c d t true (decide_eq_true hm).symm⟩
                · exact ⟨false, fun W rr _ _ => check_bad rr c d t _ hm, fun W rr => rmay_any rr c d t false (decide_eq_false hm).symm⟩
              have HOf : Hid (∀ W, RefAt W x s n v L → Calls Tryd.prog 16 #[.pointer (some ⟨x, 0, none⟩), .agg #[.int .i64 c, .int .i64 d, .string ⟨t.toArray⟩]] W fun e w' => e = .returned (.agg ((tagB s (c, d, t)).map cb).toArray) ∧ Below W.heap.size W w') := fun W rr => of_any rr HS64.out c d t HOK.out.1 HOK.out.2.1 (by have := HOK.out.2.2.1; omega)
              generalize (tagB s (c, d, t)).map cb = S at *
              obtain ⟨B, hck, hrk⟩ := HCK.out
              have HK5 := hid (HKb.out _ HP5.out.low)
              have HT5 := hid (HTb.out _ HP5.out.low)
              have HC14 : Hid (∀ dd os, Calls Tryd.prog 14 #[.pointer (some ⟨p, 0, none⟩), .int .i64 c, .int .i64 d, .string ⟨t.toArray⟩, .agg S.toArray] (Sort.grow (redrawn w5 dd) os) fun e w'' => e = .returned (.bool B) ∧ ∃ p : Regrown, w'' = Sort.grow (redrawn w5 p.d) p.os) := fun dd os => Calls.regrown_of (hck _ (HP5.out.ring.kept (below_regrown w5 dd os)) (HK5.out.stays (below_regrown w5 dd os) HK5.out.pos) (HT5.out.stays (below_regrown w5 dd os)))
              have HC17 : Hid (∀ dd os, Calls Tryd.prog 17 #[.pointer (some ⟨x, 0, none⟩), .agg #[.int .i64 c, .int .i64 d, .string ⟨t.toArray⟩]] (Sort.grow (redrawn w5 dd) os) fun e w'' => e = .returned (.bool B) ∧ ∃ p : Regrown, w'' = Sort.grow (redrawn w5 p.d) p.os) := fun dd os => Calls.regrown_of (hrk _ (HP5.out.ref.kept (below_regrown w5 dd os)))
              have HC16 : Hid (∀ dd os, Calls Tryd.prog 16 #[.pointer (some ⟨x, 0, none⟩), .agg #[.int .i64 c, .int .i64 d, .string ⟨t.toArray⟩]] (Sort.grow (redrawn w5 dd) os) fun e w'' => e = .returned (.agg S.toArray) ∧ ∃ p : Regrown, w'' = Sort.grow (redrawn w5 p.d) p.os) := fun dd os => Calls.regrown_of (HOf.out _ (HP5.out.ref.kept (below_regrown w5 dd os)))
              clear HCK hck hrk
              have f1 : ∀ dd os, (Sort.grow (redrawn w5 dd) os).cell? ⟨q, 1, none⟩ = some (.int .i64 c) := fun dd os => cell_regrown HX5.out.c1 _ _
              have f2 : ∀ dd os, (Sort.grow (redrawn w5 dd) os).cell? ⟨q, 2, none⟩ = some (.int .i64 d) := fun dd os => cell_regrown HX5.out.c2 _ _
              have f3 : ∀ dd os, (Sort.grow (redrawn w5 dd) os).cell? ⟨q, 3, none⟩ = some (.string ⟨t.toArray⟩) := fun dd os => cell_regrown HX5.out.c3 _ _
              go_upto_region 12 with fail
              refine wp_region_quiet_below (by kernel_rfl) (by kernel_rfl) ?_
              iterate 13 (first | go_big_quiet_step (fail) | quiet_step (fail))
              iterate 1 (first | go_big_quiet_step (exact HC16.out _ _) | quiet_step (exact HC16.out _ _))
              iterate 1 (first | go_big_quiet_step (exact HC14.out _ _) | quiet_step (exact HC14.out _ _))
              iterate 3 (first | go_big_quiet_step (fail) | quiet_step (fail))
              iterate 1 (first | go_big_quiet_step (exact HC17.out _ _) | quiet_step (exact HC17.out _ _))
              repeat (first | go_big_quiet_step (fail) | quiet_step (fail))
              refine wpQuiet_nil ?_
              intro _ hw'
              obtain ⟨⟨dq, osq⟩, hw''⟩ := hw'
              subst hw''
              have HPz := hid (HP5.out.kept (below_regrown w5 dq osq))
              have HXz := hid (HX5.out.kept (below_regrown w5 dq osq))
              clear f1 f2 f3
              generalize Sort.grow (redrawn w5 dq) osq = wz at *
              go_wp2
              go_meet
              exact ⟨rfl, v, L, by omega, HW, HPz, HXz⟩
        case rest =>
          as_aux_lemma =>
            obtain ⟨rfl, v', L', hL', HW', HPc, HXc⟩ := hcut
            obtain ⟨ao, cp, rfl⟩ := HPc.out.ref.book.form
            have HMa : Hid (∀ W, RingAt W p h g b s n L' → Calls Tryd.prog 18 #[.pointer (some ⟨p, 0, none⟩), .int .i64 c, .int .i64 d, .string ⟨t.toArray⟩] W fun e w' => e = .returned (.bool (decide ((c, d, t) ∈ L'))) ∧ Below W.heap.size W w') := fun W rr => made_any rr c d t HOK.out.wf
            have HMb : Hid (∀ W, RefAt W x s n (.slice ao L'.length cp) L' → Calls Tryd.prog 19 #[.pointer (some ⟨x, 0, none⟩), .agg #[.int .i64 c, .int .i64 d, .string ⟨t.toArray⟩]] W fun e w' => e = .returned (.bool (decide ((c, d, t) ∈ L'))) ∧ Below W.heap.size W w') := fun W rr => rmade_any rr c d t HOK.out.wf HW'.out (by omega)
            obtain ⟨B, hB⟩ : ∃ B, B = decide ((c, d, t) ∈ L') := ⟨_, rfl⟩
            rw [← hB] at HMa HMb
            clear hB
            have HCa : Hid (∀ dd os, Calls Tryd.prog 18 #[.pointer (some ⟨p, 0, none⟩), .int .i64 c, .int .i64 d, .string ⟨t.toArray⟩] (Sort.grow (redrawn wc dd) os) fun e w'' => e = .returned (.bool B) ∧ ∃ p : Regrown, w'' = Sort.grow (redrawn wc p.d) p.os) := fun dd os => Calls.regrown_of (HMa.out _ (HPc.out.ring.kept (below_regrown wc dd os)))
            have HCb : Hid (∀ dd os, Calls Tryd.prog 19 #[.pointer (some ⟨x, 0, none⟩), .agg #[.int .i64 c, .int .i64 d, .string ⟨t.toArray⟩]] (Sort.grow (redrawn wc dd) os) fun e w'' => e = .returned (.bool B) ∧ ∃ p : Regrown, w'' = Sort.grow (redrawn wc p.d) p.os) := fun dd os => Calls.regrown_of (HMb.out _ (HPc.out.ref.kept (below_regrown wc dd os)))
            have HC20 : Hid (∀ dd os, Calls Tryd.prog 20 #[.pointer (some ⟨p, 0, none⟩)] (Sort.grow (redrawn wc dd) os) fun e w'' => e = .returned (.int .i64 L'.length) ∧ ∃ p : Regrown, w'' = Sort.grow (redrawn wc p.d) p.os) := fun dd os => Calls.regrown_of ((rlen_any (HPc.out.ring.kept (below_regrown wc dd os))).mono fun e w' hh => ⟨hh.1, hh.2 ▸ Below.refl _ _⟩)
            have HC21 : Hid (∀ dd os, Calls Tryd.prog 21 #[.pointer (some ⟨p, 0, none⟩)] (Sort.grow (redrawn wc dd) os) fun e w'' => e = .returned (.int .i64 n) ∧ ∃ p : Regrown, w'' = Sort.grow (redrawn wc p.d) p.os) := fun dd os => Calls.regrown_of ((clients_any (HPc.out.ring.kept (below_regrown wc dd os))).mono fun e w' hh => ⟨hh.1, hh.2 ▸ Below.refl _ _⟩)
            have f1 : ∀ dd os, (Sort.grow (redrawn wc dd) os).cell? ⟨q, 1, none⟩ = some (.int .i64 c) := fun dd os => cell_regrown HXc.out.c1 _ _
            have f2 : ∀ dd os, (Sort.grow (redrawn wc dd) os).cell? ⟨q, 2, none⟩ = some (.int .i64 d) := fun dd os => cell_regrown HXc.out.c2 _ _
            have f3 : ∀ dd os, (Sort.grow (redrawn wc dd) os).cell? ⟨q, 3, none⟩ = some (.string ⟨t.toArray⟩) := fun dd os => cell_regrown HXc.out.c3 _ _
            have f4 : ∀ dd os, (Sort.grow (redrawn wc dd) os).cell? ⟨x, 1, none⟩ = some (.int .i64 n) := fun dd os => cell_regrown HPc.out.ref.c1 _ _
            have f5 : ∀ dd os, (Sort.grow (redrawn wc dd) os).cell? ⟨x, 2, none⟩ = some (.slice ao L'.length cp) := fun dd os => cell_regrown HPc.out.ref.c2 _ _
            go_upto_region 20 with fail
            refine wp_region_quiet_below (by kernel_rfl) (by kernel_rfl) ?_
            iterate 13 (first | go_big_quiet_step (fail) | quiet_step (fail))
            iterate 1 (first | go_big_quiet_step (exact HCa.out _ _) | quiet_step (exact HCa.out _ _))
            iterate 3 (first | go_big_quiet_step (fail) | quiet_step (fail))
            iterate 1 (first | go_big_quiet_step (exact HCb.out _ _) | quiet_step (exact HCb.out _ _))
            iterate 4 (first | go_big_quiet_step (fail) | quiet_step (fail))
            iterate 1 (first | go_big_quiet_step (exact HC20.out _ _) | quiet_step (exact HC20.out _ _))
            iterate 9 (first | go_big_quiet_step (fail) | quiet_step (fail))
            iterate 1 (first | go_big_quiet_step (exact HC21.out _ _) | quiet_step (exact HC21.out _ _))
            repeat (first | go_big_quiet_step (fail) | quiet_step (fail))
            refine wpQuiet_nil ?_
            intro _ hw'
            obtain ⟨⟨dq, osq⟩, hw''⟩ := hw'
            subst hw''
            have HPz := hid (HPc.out.kept (below_regrown wc dq osq))
            clear f1 f2 f3 f4 f5 HCa HCb HC20 HC21
            generalize Sort.grow (redrawn wc dq) osq = wz at *
            go_wp2
            go_roundw
            case rel => exact ⟨j + 1, _, L', by omega, by omega, by go_num, by omega, HW', HPz⟩
            case measure => simp [intOf]; omega
    · have HSA := hid (secret_any HP.out.ring)
      obtain ⟨sc, hsc⟩ : ∃ sc, sc = secB s := ⟨_, rfl⟩
      rw [← hsc] at HSA HSM
      clear hsc HAC
      have hd : (decide ((j : Int) < (len : Int)) = false ∧ decide (j < len) = false) ∨ (decide ((j : Int) < (len : Int)) = true ∧ decide (j < len) = true ∧ decide ((j : Int) < 20) = false ∧ decide (j < 20) = false) := by
        simp only [decide_eq_true_eq, decide_eq_false_iff_not]; omega
      clear hlt hj hj20 hLj
      rcases hd with ⟨d1, d1n⟩ | ⟨d1, d1n, d2, d2n⟩
      · go_wp2_with (first | (go_at_call 22; refine Calls.mono HSA.out ?_; rintro e W ⟨rfl, rfl⟩) | (go_at_call 23; refine (HSM.out _).mono ?_))
        rintro e w5 ⟨rfl, hb5⟩
        have HP5 := hid (HP.out.kept hb5)
        clear hb5
        go_wp2
        go_ret
        exact ⟨rfl, HP5.out.low⟩
      · go_wp2_with (first | (go_at_call 22; refine Calls.mono HSA.out ?_; rintro e W ⟨rfl, rfl⟩) | (go_at_call 23; refine (HSM.out _).mono ?_))
        rintro e w5 ⟨rfl, hb5⟩
        have HP5 := hid (HP.out.kept hb5)
        clear hb5
        go_wp2
        go_ret
        exact ⟨rfl, HP5.out.low⟩

end Go.Proofs.YtoddlbggbkabnaaDoor
