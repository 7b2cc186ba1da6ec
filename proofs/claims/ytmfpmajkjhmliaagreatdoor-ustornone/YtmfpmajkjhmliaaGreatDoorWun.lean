/-
  The walk of UstorNone.
-/
import Derived.Test.YtmfpmajkjhmliaaGreatDoorG34
namespace Go.Proofs.YtmfpmajkjhmliaaGreatDoor.Ms
open Go Go.RowKit
set_option maxRecDepth 100000
def sameG (a b : Got) : Bool := a.view == b.view && (a.number == b.number && (a.value == b.value && (a.who == b.who && (a.long == b.long && (a.ltag == b.ltag && (a.seen == b.seen && a.stag == b.stag))))))
theorem equal_got (w : World) (a b : Got) (ha : a.Wf) (hb : b.Wf) : (Op.equalIn 10000 59 (.agg (gotC a).toArray) (.agg (gotC b).toArray)).run Tryz.prog w = .ok (sameG a b) w := by
  rw [show (10000 : Nat) = 9997 + 2 + 1 from rfl, run_equalIn_struct w (9997 + 2) 59 _ _ (by kernel_rfl) (by kernel_rfl)]
  rw [eqFields_run w (9997 + 2) _ _ _ [a.view == b.view, a.number == b.number, a.value == b.value, a.who == b.who, a.long == b.long, a.ltag == b.ltag, a.seen == b.seen, a.stag == b.stag] ?_]
  · simp [sameG]
  · simp only [Program.fieldsOf, Tryz.underlying59]
    have pa : ∀ g : Got, g.Wf → (gotC g)[37]? = some (st g.seen) := fun g hg => by
      have := mid_at ([st g.view, nu g.number, st g.value, nu g.who, st g.long] ++ dg g.ltag) [st g.seen] (dg g.stag) 37 0 (st g.seen) (by simp [dg_len, hg.ltag]) rfl
      simpa [gotC] using this
    refine ⟨⟨by decide, _, _, part_str w _ 0 a.view rfl, part_str w _ 0 b.view rfl, equalIn_str w _ _ _⟩, ⟨by decide, _, _, part_int w _ 1 a.number rfl, part_int w _ 1 b.number rfl, equalIn_int w _ _ _⟩, ⟨by decide, _, _, part_str w _ 2 a.value rfl, part_str w _ 2 b.value rfl, equalIn_str w _ _ _⟩, ⟨by decide, _, _, part_int w _ 3 a.who rfl, part_int w _ 3 b.who rfl, equalIn_int w _ _ _⟩, ⟨by decide, _, _, part_str w _ 4 a.long rfl, part_str w _ 4 b.long rfl, equalIn_str w _ _ _⟩,
      ⟨by decide, _, _, part_dig w _ [st a.view, nu a.number, st a.value, nu a.who, st a.long] ([st a.seen] ++ dg a.stag) a.ltag 5 ha.ltag rfl rfl, part_dig w _ [st b.view, nu b.number, st b.value, nu b.who, st b.long] ([st b.seen] ++ dg b.stag) b.ltag 5 hb.ltag rfl rfl, equalIn_dig w _ _ _ ha.ltag hb.ltag⟩,
      ⟨by decide, _, _, part_str w _ 37 a.seen (pa a ha), part_str w _ 37 b.seen (pa b hb), equalIn_str w _ _ _⟩,
      ⟨by decide, _, _, part_dig w _ ([st a.view, nu a.number, st a.value, nu a.who, st a.long] ++ (dg a.ltag ++ [st a.seen])) [] a.stag 38 ha.stag (by simp [gotC]) (by simp [dg_len, ha.ltag]), part_dig w _ ([st b.view, nu b.number, st b.value, nu b.who, st b.long] ++ (dg b.ltag ++ [st b.seen])) [] b.stag 38 hb.stag (by simp [gotC]) (by simp [dg_len, hb.ltag]), equalIn_dig w _ _ _ ha.stag hb.stag⟩, trivial⟩
def uactC (k wh tg : Int) (v : List UInt8) (M : List Value) : List Value := [nu k, nu wh, nu tg, st v] ++ M
set_option maxHeartbeats 16000000 in
theorem unone_walk (w : World) (hK : Ktab w) (hT : Lay.Tabs w) (k wh tg : Int) (v : List UInt8) (m : Msg) (hm : m.Wf) (vP vN : Value) (s : List UInt8) :
    Calls Tryz.prog 8 #[.agg (uactC k wh tg v (msgC m vP vN)).toArray, st s] w fun e w' => e = .returned (.bool true) ∧ Below w.heap.size w w' := by
  have T0 := top_obj w (.cells (uactC k wh tg v (msgC m vP vN)).toArray 90)
  have B0 := hid (below_a1 w (.cells (uactC k wh tg v (msgC m vP vN)).toArray 90))
  have c1 : (w.alloc (.cells (uactC k wh tg v (msgC m vP vN)).toArray 90)).cell? ⟨w.heap.size, 1, none⟩ = some (nu wh) := row_cell (A := [nu k]) (C := [nu tg, st v] ++ msgC m vP vN) T0 rfl rfl
  have c2 : (w.alloc (.cells (uactC k wh tg v (msgC m vP vN)).toArray 90)).cell? ⟨w.heap.size, 2, none⟩ = some (nu tg) := row_cell (A := [nu k, nu wh]) (C := [st v] ++ msgC m vP vN) T0 rfl rfl
  have c3 : (w.alloc (.cells (uactC k wh tg v (msgC m vP vN)).toArray 90)).cell? ⟨w.heap.size, 3, none⟩ = some (st v) := row_cell (A := [nu k, nu wh, nu tg]) (C := msgC m vP vN) T0 rfl rfl
  have C2 := hid c2
  have C4 := hid (row_seg (off := 4) (A := [nu k, nu wh, nu tg, st v]) (cs := msgC m vP vN) (C := []) T0 (by simp [uactC]) rfl)
  have ZMV := szMY hm vP vN
  have HA := hid (fun W => uask_nil W wh tg v)
  have HG := hid uagain_nil
  have HP := hid (fun W => ureply_nil W (msgC m vP vN))
  have HC := hid ucommit_nil
  have HN := hid (fun W => unew_nil W tg)
  have HR := hid (fun W => uread_nil W tg s)
  have HW := hid (fun W (hb : Below w.heap.size w W) => uawake_any W (hK.stays hb hK.pos) (hT.stays hb))
  have HS := hid (fun W => same_any (w := W) (vP := .slice none 0 0) (vQ := .slice none 0 0) (vN := .slice none 0 0) (vM := .slice none 0 0) zeroM0_wf zeroM0_wf (PensAt.nil W) (PensAt.nil W) (IntsAt.nil W) (IntsAt.nil W) (Nat.zero_le _) (Nat.zero_le _))
  rw [(sameM_iff (zeroM 0 0) (zeroM 0 0)).2 rfl] at HS
  have E := fun W => equal_got W zeroT zeroT zeroT_wf zeroT_wf
  rw [show sameG zeroT zeroT = true from by simp [sameG]] at E
  have H1 := hid ubusy_nil
  have H2 := hid unumber_nil
  have H3 := hid uview_nil
  have H4 := hid uvalue_nil
  have H5 := hid ubytes_nil
  have ZZ := zeroMsg
  have BM := hid build_msg0
  have OZ := hid (one_msgN (zeroM 0 0))
  have ZS := szMY zeroM0_wf (.slice none 0 0) (.slice none 0 0)
  have ZGz := zeroGot
  have BG := hid build_got0
  have OG := hid (one_got zeroT)
  have ZGs := szGY zeroT_wf
  clear hK hT hm T0
  generalize hU : uactC k wh tg v (msgC m vP vN) = UV at *
  generalize msgC m vP vN = MV at *
  generalize msgC (zeroM 0 0) (.slice none 0 0) (.slice none 0 0) = Z at *
  generalize gotC zeroT = ZG at *
  clear hU
  go_enter Tryz.func8, Tryz.ntmps8
  go_upto_region 1 with fail
  try simp only [Act.put, List.setIfInBounds_toArray, List.set_cons_zero, List.set_cons_succ]
  generalize w.alloc (.cells UV.toArray 90) = W0 at *
  have hs0 := B0.out.size
  generalize hX : w.heap.size = X at *
  go_wp2_with fail
  refine (HA.out _).mono ?_
  rintro e W1 ⟨rfl, b1⟩
  go_upto_region 3 with (first
    | ((with_reducible refine wl_alloc 88 ?_ ?_ Z.toArray ZZ ?_); exact rfl; exact rfl)
    | ((with_reducible refine wl_store_top 88 (.tmp 6) (.tmp 27) ?_ ?_ ?_ ?_ Z Z ?_ 88 rfl OZ.out ZS ?_); exact rfl; exact rfl; exact rfl; exact rfl; exact rfl))
  have b2 := below_two b1 (below_a1 W1 (.cells Z.toArray 88))
  have R2 := hid (top_obj W1 (.cells Z.toArray 88))
  generalize W1.alloc (.cells Z.toArray 88) = W2 at *
  generalize W1.heap.size = q6 at *
  have B2 := hid b2
  clear b1 b2 c1 c2 c3
  go_wp2_with fail
  refine (HG.out _).mono ?_
  rintro e W3 ⟨rfl, b3⟩
  go_upto_region 4 with (first
    | ((with_reducible refine wl_alloc 88 ?_ ?_ Z.toArray ZZ ?_); exact rfl; exact rfl)
    | ((with_reducible refine wl_store_top 88 (.tmp 8) (.tmp 32) ?_ ?_ ?_ ?_ Z Z ?_ 88 rfl OZ.out ZS ?_); exact rfl; exact rfl; exact rfl; exact rfl; exact rfl))
  have b4 := below_two b3 (below_a1 W3 (.cells Z.toArray 88))
  have R4 := hid (row_kept R2.out b4)
  have B4 := hid (below_two B2.out b4)
  have C44 := hid (seg_keptY C4.out B4.out)
  clear b3 b4 R2 B2
  generalize W3.alloc (.cells Z.toArray 88) = W4 at *
  go_wp2_with ((with_reducible refine wl_load 88 (.tmp 36) ?_ X 4 ?_ ?_ MV _ C44.out Tryz.underlying88 ?_ ZMV ?_); exact rfl; exact rfl; exact rfl; exact rfl)
  refine (HP.out _).mono ?_
  rintro e W5 ⟨rfl, b5⟩
  go_upto_region 5 with (first
    | ((with_reducible refine wl_alloc 59 ?_ ?_ ZG.toArray ZGz ?_); exact rfl; exact rfl)
    | ((with_reducible refine wl_store_top 59 (.tmp 10) (.tmp 39) ?_ ?_ ?_ ?_ ZG ZG ?_ 59 rfl OG.out ZGs ?_); exact rfl; exact rfl; exact rfl; exact rfl; exact rfl))
  have b6 := below_two b5 (below_a1 W5 (.cells ZG.toArray 59))
  have R6 := hid (row_kept R4.out b6)
  have Q6 := hid (top_obj W5 (.cells ZG.toArray 59))
  have B6 := hid (below_two B4.out b6)
  clear b5 b6 R4 B4 C44
  generalize W5.alloc (.cells ZG.toArray 59) = W6 at *
  generalize W5.heap.size = q10 at *
  go_wp2_with fail
  refine (HC.out _).mono ?_
  rintro e W7 ⟨rfl, b7⟩
  go_upto_region 6 with (first
    | ((with_reducible refine wl_alloc 88 ?_ ?_ Z.toArray ZZ ?_); exact rfl; exact rfl)
    | ((with_reducible refine wl_store_top 88 (.tmp 12) (.tmp 44) ?_ ?_ ?_ ?_ Z Z ?_ 88 rfl OZ.out ZS ?_); exact rfl; exact rfl; exact rfl; exact rfl; exact rfl))
  have b8 := below_two b7 (below_a1 W7 (.cells Z.toArray 88))
  have R8 := hid (row_kept R6.out b8)
  have Q8 := hid (row_kept Q6.out b8)
  have B8 := hid (below_two B6.out b8)
  clear b7 b8 R6 Q6 B6
  generalize W7.alloc (.cells Z.toArray 88) = W8 at *
  have c2 := cell_keptY C2.out B8.out
  go_wp2_with fail
  refine (HN.out _).mono ?_
  rintro e w1 ⟨rfl, hw1⟩
  subst w1
  go_wp2_with fail
  refine (HR.out _).mono ?_
  rintro e w1 ⟨rfl, hw1⟩
  subst w1
  go_upto_region 8 with fail
  simp only [List.append_eq, List.cons_append, List.nil_append]
  have hX' : Below w.heap.size w W8 := (hX ▸ B0.out : Below w.heap.size w W0).trans (B8.out.mono (by omega))
  go_wp2_with fail
  refine (HW.out _ (hX ▸ hX')).mono ?_
  rintro e W9 ⟨rfl, b9⟩
  have R9 := hid (row_kept R8.out b9)
  have Q9 := hid (row_kept Q8.out b9)
  have B9 := hid (hX'.trans (b9.mono hX'.size))
  clear b9 R8 Q8 B8 hX' c2
  go_wp2_with (first
    | ((with_reducible refine wl_load 88 (.tmp 6) ?_ q6 0 ?_ ?_ Z _ (row_zeroY R9.out) Tryz.underlying88 ?_ ZS ?_); exact rfl; exact rfl; exact rfl; exact rfl)
    | ((with_reducible refine wl_build 88 ?_ ?_ Z.toArray (BM.out _) ?_); exact rfl; exact rfl))
  refine (HS.out _).mono ?_
  rintro e W10 ⟨rfl, b10⟩
  have Q10 := hid (row_kept Q9.out b10)
  have B10 := hid (B9.out.trans (b10.mono B9.out.size))
  clear b10 R9 Q9 B9
  go_wp2_with (first
    | ((with_reducible refine wl_load 59 (.tmp 10) ?_ q10 0 ?_ ?_ ZG _ (row_zeroY Q10.out) Tryz.underlying59 ?_ ZGs ?_); exact rfl; exact rfl; exact rfl; exact rfl)
    | ((with_reducible refine wl_build 59 ?_ ?_ ZG.toArray (BG.out _) ?_); exact rfl; exact rfl))
  refine (H1.out _).mono ?_
  rintro e w1 ⟨rfl, hw1⟩
  subst w1
  go_wp2_with fail
  refine (H2.out _).mono ?_
  rintro e w1 ⟨rfl, hw1⟩
  subst w1
  go_wp2_with fail
  refine (H3.out _).mono ?_
  rintro e w1 ⟨rfl, hw1⟩
  subst w1
  go_wp2_with fail
  refine (H4.out _).mono ?_
  rintro e w1 ⟨rfl, hw1⟩
  subst w1
  go_wp2_with fail
  have happ : (⟨#[]⟩ : ByteArray) ++ (⟨#[]⟩ : ByteArray) = ⟨#[]⟩ := ByteArray.mk_append_mk [] []
  have hemp : (⟨#[]⟩ : ByteArray).toList.isEmpty = true := by rw [ByteArray.toList_eq]; rfl
  refine (H5.out _).mono ?_
  rintro e w1 ⟨rfl, hw1⟩
  subst w1
  go_wp2
  go_ret
  first | exact ⟨rfl, hX ▸ B10.out⟩ | (refine ⟨?_, hX ▸ B10.out⟩; show Ending.returned (.bool _) = _; simp only [happ, hemp])
end Go.Proofs.YtmfpmajkjhmliaaGreatDoor.Ms
