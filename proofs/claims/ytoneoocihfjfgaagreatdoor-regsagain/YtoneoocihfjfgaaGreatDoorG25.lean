/-
  The walk of awake.
-/
import Derived.Test.YtoneoocihfjfgaaGreatDoorG20
namespace Go.Proofs.YtoneoocihfjfgaaGreatDoor.Ms
open Go Go.RowKit
set_option maxRecDepth 100000
structure Sx (w W : World) (p : Nat) (F : List Nat) (R : Rs) : Prop where
  rx : RX W p F R
  ge : ∀ b ∈ F, w.heap.size ≤ b
  bl : Below w.heap.size w W
theorem Sx.kept {w W W' : World} {p : Nat} {F : List Nat} {R : Rs} (h : Sx w W p F R) (hb : Below W.heap.size W W') : Sx w W' p F R := ⟨h.rx.kept hb, h.ge, below_two h.bl hb⟩
theorem Sx.lt {w W : World} {p : Nat} {F : List Nat} {R : Rs} (h : Sx w W p F R) : ∀ b ∈ F, b < W.heap.size := by
  obtain ⟨q, rs, vs, vP, -, -, h3⟩ := h.rx
  exact h3
theorem Sx.new {w W : World} {p : Nat} {F : List Nat} {R : Rs} (h : Sx w W p F R) : W.heap.size ∉ F := fun hb => Nat.lt_irrefl _ (h.lt _ hb)
theorem Sx.but {w W W' : World} {p : Nat} {F : List Nat} {R : Rs} (h : Sx w W p F R) {k : Nat} (hb : But k W W') (hk : k ∉ F) (hw : w.heap.size ≤ k) : Sx w W' p F R := by
  have k1 : Kp [k] W W' := (Kp.refl [k] W).but hb (Or.inl (by simp))
  exact ⟨h.rx.kp k1 (fun b hf hb' => by rw [List.mem_singleton] at hb'; subst hb'; exact hk hf), h.ge, h.bl.trans (k1.below (by simpa using hw) h.bl.size)⟩
theorem submit_s {w W : World} {p : Nat} {F : List Nat} {R : Rs} (h : Sx w W p F R) {c : Int} {x : Sub} (hx : x.Wf) (hr : (subM c x).Rng) (ht : Tb w) :
    Calls Tryz.prog 13 #[.pointer (some ⟨p, 0, none⟩), nu c, .agg (subC x).toArray] W fun e W' => ∃ v' F', e = .returned (.tuple #[.agg (repC (subY R c x) v').toArray, nu (subE R c x)]) ∧ Sx w W' p F' (subR R c x) ∧ OwnP W' v' (subY R c x).pend ∧ (∀ b, v'.ownBlock = some b → W.heap.size ≤ b ∧ b ∉ F') ∧ (W.heap.size ≤ W'.heap.size) ∧ ∀ k o, W.heap[k]? = some o → k ∉ F → W'.heap[k]? = some o ∧ k ∉ F' := by
  refine (submit_x h.rx hx hr (ht.stays h.bl)).mono ?_
  rintro e W' ⟨v', F', rfl, a1, a2, a3, a4, a5⟩
  refine ⟨v', F', rfl, ⟨a1, fun b hb => ?_, h.bl.trans (a4.below h.ge h.bl.size)⟩, a2, a3, a4.size, fun k o hk hf => ⟨a4.row hk hf, fun hb => ?_⟩⟩
  · rcases a5 b hb with e | e
    · exact h.ge b e
    · exact Nat.le_trans h.bl.size e
  · rcases a5 k hb with e | e
    · exact hf e
    · exact absurd (row_ltA hk) (by omega)
theorem commit_s {w W : World} {p : Nat} {F : List Nat} {R : Rs} (h : Sx w W p F R) {c : Int} (hc : I64 c) {v t : List UInt8} (htl : t.length = 32) (ht : Tb w) :
    Calls Tryz.prog 16 #[.pointer (some ⟨p, 0, none⟩), nu c, st v, .agg (dg t).toArray] W fun e W' => ∃ F', e = .returned (nu (comE R c v t)) ∧ Sx w W' p F' (comR R c v t) ∧ (W.heap.size ≤ W'.heap.size) ∧ ∀ k o, W.heap[k]? = some o → k ∉ F → W'.heap[k]? = some o ∧ k ∉ F' := by
  refine (commit_x h.rx hc htl (ht.stays h.bl)).mono ?_
  rintro e W' ⟨F', rfl, a1, a4, a5⟩
  refine ⟨F', rfl, ⟨a1, fun b hb => ?_, h.bl.trans (a4.below h.ge h.bl.size)⟩, a4.size, fun k o hk hf => ⟨a4.row hk hf, fun hb => ?_⟩⟩
  · rcases a5 b hb with e | e
    · exact h.ge b e
    · exact Nat.le_trans h.bl.size e
  · rcases a5 k hb with e | e
    · exact hf e
    · exact absurd (row_ltA hk) (by omega)
theorem new_s (w : World) (n : Nat) (hn : 2 ≤ n ∧ n ≤ 8) : Calls Tryz.prog 5 #[nu (n : Int)] w fun e w' => e = .returned (.tuple #[.pointer (some ⟨w.heap.size, 0, none⟩), nu 0]) ∧ Sx w w' w.heap.size [w.heap.size] (newR n) :=
  (rnew_ok w n hn).mono fun _ _ h => ⟨h.1, h.2.1, by simp, h.2.2⟩
theorem row_zero {w : World} {g : Nat} {cs : List Value} {t : TypeId} (h : w.heap[g]? = some (.cells cs.toArray t)) : ∀ j v, cs[j]? = some v → w.cell? ⟨g, 0 + j, none⟩ = some v := row_seg (A := []) (C := []) h (by simp) rfl
theorem a_f4 : (flatQ (subY A3 0 x2).pend)[0]? = some (nu 1) := by kernel_rfl
theorem a_d4 : (dg (subY A3 0 x2).commit)[0]? = some (.int .u8 7) := by kernel_rfl
theorem sub_put : (([] : List Value) ++ ([nu 2] ++ (subC x1).drop 1)) = subC x2 := by kernel_rfl
theorem sub_at : subC x1 = (([] : List Value) ++ ([nu 1] ++ (subC x1).drop 1)) := by kernel_rfl
theorem szS {x : Sub} (h : x.Wf) : (Tryz.prog.info? 34).map (·.size) = some (subC x).length := by rw [subC_len h]; exact sizeSub
theorem szR {x : Rep} (h : x.Wf) (v : Value) : (Tryz.prog.info? 45).map (·.size) = some (repC x v).length := by rw [repC_len h]; exact sizeRep
theorem lnR {x : Rep} (h : x.Wf) (v : Value) : (repC zeroR (.slice none 0 0)).length = (repC x v).length := by rw [repC_len h, repC_len wfZeroR]
theorem lnS {x : Sub} (h : x.Wf) : (subC zeroS).length = (subC x).length := by rw [subC_len h]; rfl
set_option maxHeartbeats 4000000 in
theorem rawake_any (w : World) (ht : Tb w) : Calls Tryz.prog 6 #[] w fun e w' => e = .returned (.bool true) ∧ Below w.heap.size w w' := by
  have HN := hid (new_s w 2 ⟨by decide, by decide⟩)
  have HT := hid ht
  have I0 : I64 0 := ⟨by decide, by decide⟩
  have I1 : I64 1 := ⟨by decide, by decide⟩
  have I2 : I64 2 := ⟨by decide, by decide⟩
  have S1 := hid (fun W p F (h : Sx w W p F (newR 2)) => submit_s h x1_wf (xr 0 1 I0 I1) HT.out)
  have S2 := hid (fun W p F (h : Sx w W p F A1) => submit_s h x1_wf (xr 1 1 I1 I1) HT.out)
  have S3 := hid (fun W p F (h : Sx w W p F A2) => commit_s (v := [0]) (t := t7) h I0 rfl HT.out)
  have S4 := hid (fun W p F (h : Sx w W p F A3) => submit_s h x2_wf (xr 0 2 I0 I2) HT.out)
  have S5 := hid (fun W p F (h : Sx w W p F A4) => order_x h.rx)
  have S6 := hid (fun W p F (h : Sx w W p F A4) => number_x h.rx 0)
  rw [a_e1] at S1
  rw [a_e2] at S2
  rw [a_e3] at S3
  rw [a_e4] at S4
  rw [a_o4] at S5
  rw [a_n4] at S6
  have Y1 := hid (subY_wf (RInv.new 2 ⟨by decide, by decide⟩) 0 x1)
  have ZS := zeroSub
  have ZR := zeroRep
  have ZX1 := hid (szS x1_wf)
  have ZX2 := hid (szS x2_wf)
  clear ht I0 I1 I2
  go_enter Tryz.func6, Tryz.ntmps6
  go_upto_region 4 with (go_at_call 5; refine HN.out.mono ?_; rintro e W1 ⟨rfl, h1⟩; have H1 := hid h1; clear h1)
  generalize hp : w.heap.size = p at *
  have HP := hid hp
  clear hp
  go_upto_region 5 with (first
    | ((with_reducible refine wl_buildL 34 [(0, .const (nu 1)), (1, .const (nu 1))] ?_ ?_ (subC x1).toArray (build_x1 _) ?_); exact rfl; exact rfl)
    | ((with_reducible refine wl_alloc 34 ?_ ?_ (subC zeroS).toArray ZS ?_); exact rfl; exact rfl)
    | ((with_reducible refine wl_store_top 34 (.tmp 3) (.tmp 20) ?_ ?_ ?_ ?_ (subC x1) (subC zeroS) ?_ 34 (lnS x1_wf) (one_sub x1) ZX1.out ?_); exact rfl; exact rfl; exact rfl; exact rfl; exact rfl))
  have R2 := hid (top_obj W1 (.cells (subC x1).toArray 34))
  have H2 := hid (H1.out.kept (below_a1 W1 (.cells (subC x1).toArray 34)))
  have N2 := hid (H1.out.new)
  have G3 := hid (H1.out.bl.size)
  generalize W1.alloc (.cells (subC x1).toArray 34) = W2 at *
  generalize W1.heap.size = k3 at *
  have Y1 := hid (subY_wf H2.out.rx.inv 0 x1)
  clear H1
  go_upto_region 6 with (first
    | ((with_reducible refine wl_load 34 (.tmp 3) ?_ k3 0 ?_ ?_ (subC x1) _ (row_zero R2.out) Tryz.underlying34 ?_ ZX1.out ?_); exact rfl; exact rfl; exact rfl; exact rfl)
    | (go_at_call 13; refine (S1.out _ _ _ H2.out).mono ?_; rintro e W3 ⟨v1, F3, rfl, h3, o3, -, -, q3⟩; obtain ⟨ad1, c1, e1⟩ := o3.len; rw [a_p1] at e1; subst e1; have H3 := hid h3; have K3 := hid (q3 _ _ R2.out N2.out); clear h3 o3 q3)
    | ((with_reducible refine wl_alloc 45 ?_ ?_ (repC zeroR (.slice none 0 0)).toArray ZR ?_); exact rfl; exact rfl)
    | ((with_reducible refine wl_store_top 45 (.tmp 4) (.tmp 25) ?_ ?_ ?_ ?_ (repC (subY (newR 2) 0 x1) (.slice ad1 0 c1)) (repC zeroR (.slice none 0 0)) ?_ 45 (lnR Y1.out _) (one_rep _ _ rfl) (szR Y1.out _) ?_); exact rfl; exact rfl; exact rfl; exact rfl; exact rfl))
  have R4 := hid (top_obj W3 (.cells (repC (subY (newR 2) 0 x1) (.slice ad1 0 c1)).toArray 45))
  have B4 := hid (below_a1 W3 (.cells (repC (subY (newR 2) 0 x1) (.slice ad1 0 c1)).toArray 45))
  have X4 := hid (row_kept K3.out.1 B4.out)
  have H4 : Hid (Sx w _ _ F3 A1) := hid (H3.out.kept B4.out)
  have N4 := hid K3.out.2
  have M4 := hid H3.out.new
  generalize W3.alloc (.cells (repC (subY (newR 2) 0 x1) (.slice ad1 0 c1)).toArray 45) = W4 at *
  generalize W3.heap.size = k4 at *
  have Y2 := hid (subY_wf H4.out.rx.inv 1 x1)
  clear H2 H3 K3 R2 N2 B4 S1
  go_upto_region 7 with (first
    | ((with_reducible refine wl_load 34 (.tmp 3) ?_ k3 0 ?_ ?_ (subC x1) _ (row_zero X4.out) Tryz.underlying34 ?_ ZX1.out ?_); exact rfl; exact rfl; exact rfl; exact rfl)
    | (go_at_call 13; refine (S2.out _ _ _ H4.out).mono ?_; rintro e W5 ⟨v2, F5, rfl, h5, o5, -, -, q5⟩; obtain ⟨ad2, c2, e2⟩ := o5.len; rw [a_p2] at e2; subst e2; have H5 := hid h5; have K5 := hid (q5 _ _ X4.out N4.out); have J5 := hid (q5 _ _ R4.out M4.out); clear h5 o5 q5)
    | ((with_reducible refine wl_alloc 45 ?_ ?_ (repC zeroR (.slice none 0 0)).toArray ZR ?_); exact rfl; exact rfl)
    | ((with_reducible refine wl_store_top 45 (.tmp 6) (.tmp 31) ?_ ?_ ?_ ?_ (repC (subY A1 1 x1) (.slice ad2 1 c2)) (repC zeroR (.slice none 0 0)) ?_ 45 (lnR Y2.out _) (one_rep _ _ rfl) (szR Y2.out _) ?_); exact rfl; exact rfl; exact rfl; exact rfl; exact rfl))
  have B6 := hid (below_a1 W5 (.cells (repC (subY A1 1 x1) (.slice ad2 1 c2)).toArray 45))
  have X6 := hid (row_kept K5.out.1 B6.out)
  have R6 := rrow_P (row_kept J5.out.1 B6.out) Y1.out
  have Q6 := rrow_P (top_obj W5 (.cells (repC (subY A1 1 x1) (.slice ad2 1 c2)).toArray 45)) Y2.out
  have H6 : Hid (Sx w _ _ F5 A2) := hid (H5.out.kept B6.out)
  have N6 := hid K5.out.2
  generalize W5.alloc (.cells (repC (subY A1 1 x1) (.slice ad2 1 c2)).toArray 45) = W6 at *
  generalize W5.heap.size = k6 at *
  clear H4 H5 K5 J5 R4 X4 N4 M4 B6 S2 Y1 Y2
  go_upto_region 9 with (first
    | ((with_reducible refine wl_buildL 32 [(0, .const (.int .u8 7))] ?_ ?_ (dg t7).toArray (build_t7 _) ?_); exact rfl; exact rfl)
    | (go_at_call 16; refine (S3.out _ _ _ H6.out).mono ?_; rintro e W7 ⟨F7, rfl, h7, -, q7⟩; have H7 : Hid (Sx w _ _ F7 A3) := hid h7; have K7 := hid (q7 _ _ X6.out N6.out); clear h7 q7))
  have R7 : Hid (W7.heap[k3]? = some (.cells (([] : List Value) ++ ([nu 1] ++ (subC x1).drop 1)).toArray 34)) := by
    have e := K7.out.1
    rw [sub_at] at e
    exact e
  have N7 := hid K7.out.2
  clear K7 H6 X6 N6 R6 Q6 S3
  go_upto_region 10 with ((with_reducible refine wl_put1 3 (.tmp 57) (.const (nu 2)) ?_ ?_ k3 0 ?_ ?_ [] ((subC x1).drop 1) (nu 1) (nu 2) ?_ 34 R7.out ?_ ?_ ?_ ?_); exact rfl; exact rfl; exact rfl; exact rfl; exact rfl; exact rfl; exact rfl; kernel_rfl; intro W8 r8 b8; rw [sub_put] at r8; have R8 := hid r8; have H8 := hid (H7.out.but b8 N7.out G3.out); clear r8 b8)
  have Y4 := hid (subY_wf H8.out.rx.inv 0 x2)
  clear R7 H7
  go_upto_region 11 with (first
    | ((with_reducible refine wl_load 34 (.tmp 3) ?_ k3 0 ?_ ?_ (subC x2) _ (row_zero R8.out) Tryz.underlying34 ?_ ZX2.out ?_); exact rfl; exact rfl; exact rfl; exact rfl)
    | (go_at_call 13; refine (S4.out _ _ _ H8.out).mono ?_; rintro e W9 ⟨v4, F9, rfl, h9, o9, -, -, -⟩; have H9 := hid h9; have O9 := hid o9; clear h9 o9)
    | ((with_reducible refine wl_alloc 45 ?_ ?_ (repC zeroR (.slice none 0 0)).toArray ZR ?_); exact rfl; exact rfl)
    | ((with_reducible refine wl_store_top 45 (.tmp 8) (.tmp 62) ?_ ?_ ?_ ?_ (repC (subY A3 0 x2) v4) (repC zeroR (.slice none 0 0)) ?_ 45 (lnR Y4.out _) (one_rep _ _ O9.out.one) (szR Y4.out _) ?_); exact rfl; exact rfl; exact rfl; exact rfl; exact rfl))
  obtain ⟨g, cap, rfl⟩ : ∃ g cap, v4 = .slice (some ⟨g, 0, none⟩) 1 cap := by
    have ha := a_p4
    rcases O9.out.form with ⟨-, e⟩ | ⟨g, cap, cur, e, -⟩
    · rw [e] at ha; cases ha
    · rw [ha] at e
      exact ⟨g, cap, e⟩
  have B10 := hid (below_a1 W9 (.cells (repC (subY A3 0 x2) (.slice (some ⟨g, 0, none⟩) 1 cap)).toArray 45))
  have T10 := top_obj W9 (.cells (repC (subY A3 0 x2) (.slice (some ⟨g, 0, none⟩) 1 cap)).toArray 45)
  have c1 := rrow_view T10 Y4.out
  rw [a_v4] at c1
  have c2 := rrow_commit T10 Y4.out 0 _ a_d4
  have c3 := rrow_P T10 Y4.out
  have c4 := (O9.out.kept B10.out).cell 0 _ a_f4
  have H10 : Hid (Sx w _ _ F9 A4) := hid (H9.out.kept B10.out)
  generalize W9.alloc (.cells (repC (subY A3 0 x2) (.slice (some ⟨g, 0, none⟩) 1 cap)).toArray 45) = W10 at *
  generalize W9.heap.size = k8 at *
  clear H9 O9 T10 B10 H8 R8 N7 S4 Y4
  go_wp2_with (first
    | (go_at_call 12; refine (S5.out _ _ _ H10.out).mono ?_; rintro e W11 ⟨rfl, b11⟩; have H11 := hid (H10.out.kept b11); clear b11)
    | (go_at_call 17; refine (S6.out _ _ _ H11.out).mono ?_; rintro e W12 ⟨rfl, e12⟩; subst W12))
  go_ret
  exact ⟨rfl, H11.out.bl⟩
open Go Go.RowKit
set_option maxRecDepth 100000
def ractC (k c : Int) (x : Sub) (v t : List UInt8) : List Value := [nu k] ++ ([nu c] ++ (subC x ++ ([st v] ++ dg t)))
theorem ractC_len {k c : Int} {x : Sub} {v t : List UInt8} (hx : x.Wf) (ht : t.length = 32) : (ractC k c x v t).length = 103 := by simp [ractC, subC_len hx, dg_len, ht]
theorem cell_kp {w w' : World} {g i : Nat} {u : Value} (h : w.cell? ⟨g, i, none⟩ = some u) (hb : Below w.heap.size w w') : w'.cell? ⟨g, i, none⟩ = some u := (hb.cell (p := ⟨g, i, none⟩) (World.block_lt_of_cell? w _ h)).trans h
open Go Go.RowKit
set_option maxRecDepth 100000
structure Rac where
  kind : Int
  client : Int
  x : Sub
  view : List UInt8
  tag : List UInt8
def racC (a : Rac) : List Value := ractC a.kind a.client a.x a.view a.tag
structure Rac.Ok (a : Rac) : Prop where
  c : I64 a.client
  k : I64 a.kind
  xk : I64 a.x.kind
  xt : I64 a.x.target
  wf : a.x.Wf
  t : a.tag.length = 32
  xn : I64 a.x.number
def noRac : Rac := ⟨0, 0, zeroS, [], zeroD⟩
def RactsAt (w : World) (x : Option Addr) (acs : List Rac) : Prop := ∀ j, j < acs.length → ∃ b off, x = some ⟨b, off, none⟩ ∧ (acs.getD j noRac).Ok ∧ ∀ c y, (racC (acs.getD j noRac))[c]? = some y → w.cell? ⟨b, off + j * 103 + c, none⟩ = some y
theorem RactsAt.kept {w w' : World} {x : Option Addr} {acs : List Rac} (h : RactsAt w x acs) (hb : Below w.heap.size w w') : RactsAt w' x acs := by
  intro j hj
  obtain ⟨b, off, rfl, h1, h2⟩ := h j hj
  exact ⟨b, off, rfl, h1, fun c y hy => cell_kp (h2 c y hy) hb⟩
theorem sizeRac : (Tryz.prog.info? 36).map (·.size) = some 103 := by kernel_rfl
theorem rac_kind {w : World} {g : Nat} {a : Rac} (h : w.heap[g]? = some (.cells (racC a).toArray 36)) : w.cell? ⟨g, 0, none⟩ = some (nu a.kind) := row_cell (A := []) (C := [nu a.client] ++ (subC a.x ++ ([st a.view] ++ dg a.tag))) h (by simp [racC, ractC]) rfl
theorem rac_client {w : World} {g : Nat} {a : Rac} (h : w.heap[g]? = some (.cells (racC a).toArray 36)) : w.cell? ⟨g, 1, none⟩ = some (nu a.client) := row_cell (A := [nu a.kind]) (C := subC a.x ++ ([st a.view] ++ dg a.tag)) h (by simp [racC, ractC]) rfl
theorem rac_sub {w : World} {g : Nat} {a : Rac} (h : w.heap[g]? = some (.cells (racC a).toArray 36)) : ∀ j u, (subC a.x)[j]? = some u → w.cell? ⟨g, 2 + j, none⟩ = some u := row_seg (A := [nu a.kind] ++ [nu a.client]) (C := [st a.view] ++ dg a.tag) h (by simp [racC, ractC]) rfl
theorem rac_tag {w : World} {g : Nat} {a : Rac} (h : w.heap[g]? = some (.cells (racC a).toArray 36)) (hx : a.x.Wf) : ∀ j u, (dg a.tag)[j]? = some u → w.cell? ⟨g, 71 + j, none⟩ = some u := row_seg (A := [nu a.kind] ++ ([nu a.client] ++ (subC a.x ++ [st a.view]))) (C := []) h (by simp [racC, ractC]) (by simp [subC_len hx])
end Go.Proofs.YtoneoocihfjfgaaGreatDoor.Ms
