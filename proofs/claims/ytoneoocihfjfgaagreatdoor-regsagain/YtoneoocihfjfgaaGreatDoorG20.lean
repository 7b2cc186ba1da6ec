/-
  The order in which operations were asked for (Order).
-/
import Derived.Test.YtoneoocihfjfgaaGreatDoorG19
import Derived.Test.YtoneoocihfjfgaaGreatDoorG09
namespace Go.Proofs.YtoneoocihfjfgaaGreatDoor.Ms
open Go Go.RowKit
set_option maxRecDepth 100000
theorem brow_conv (w : World) (l : List UInt8) (base : Nat) (hb : base ≤ w.heap.size) (hl : l.length ≤ 1000000) : brow (Lib.bytesWorld w 5 ⟨l.toArray⟩) base (.slice (some ⟨w.heap.size, 0, none⟩) l.length (grownCap w l.length 0 5)) l := by
  have hg := grownCap_ge w l.length 0 5
  have hs : (Lib.bytesCells w 5 ⟨l.toArray⟩).size = grownCap w l.length 0 5 := by
    simp only [Lib.bytesCells, Array.size_append, Array.size_map, Array.size_replicate]
    show l.length + (grownCap w l.length 0 5 - l.length) = _
    omega
  refine .inr ⟨w.heap.size, grownCap w l.length 0 5, Lib.bytesCells w 5 ⟨l.toArray⟩, _, rfl, hb, Lib.bytesWorld_at_new w 5 ⟨l.toArray⟩, ?_, hg, hs, grownCap_le_maxLen w _ _ _ (by unfold maxLen; omega), ?_⟩
  · intro j hj h
    simp only at h
    omega
  · simp only [Lib.bytesCells, Array.toList_append, Array.toList_map]
    rw [List.take_append_of_le_length (by simp), List.take_of_length_le (by simp)]
    rfl
theorem below_bytes (w : World) (s : ByteArray) : Below w.heap.size w (Lib.bytesWorld w 5 s) :=
  ⟨rfl, rfl, rfl, by rw [Lib.bytesWorld_size]; omega, fun k hk => Lib.bytesWorld_at_old w 5 s k hk⟩
set_option maxHeartbeats 4000000 in
theorem order_any {w : World} {p : Nat} {q rs : List Nat} {R : Rs} {vs : List Value} {vP : Value} (h : RA w p q rs R vs vP) :
    Calls Tryz.prog 12 #[.pointer (some ⟨p, 0, none⟩)] w fun e w' => e = .returned (st (orderR R)) ∧ Below w.heap.size w w' := by
  have HM := hid (made_any h)
  have HR := hid h
  have cl := h.long
  have hll := h.inv.long
  have hpl := h.inv.plen
  have HI := hid h.inv
  obtain ⟨va, vcap, hvP⟩ := h.own.len
  have HB := hid (below_bytes w ⟨R.long.toArray⟩)
  have HW := hid (brow_conv w R.long w.heap.size (Nat.le_refl _) (by omega))
  have hcv : (convert 9 70 (.string ⟨R.long.toArray⟩)).run Tryz.prog w = .ok (.slice (some ⟨w.heap.size, 0, none⟩) R.long.length (grownCap w R.long.length 0 5)) (Lib.bytesWorld w 5 ⟨R.long.toArray⟩) := Lib.run_convert_string_bytes w 9 70 5 ⟨R.long.toArray⟩ Tryz.underlying9 Tryz.underlying70 Tryz.underlying5
  have cP := (h.kept HB.out).pnd
  clear h
  generalize grownCap w R.long.length 0 5 = gc at *
  generalize Lib.bytesWorld w 5 ⟨R.long.toArray⟩ = W1 at *
  go_enter Tryz.func12, Tryz.ntmps12
  go_wp2_with fail
  refine HM.out.mono ?_
  rintro e w1 ⟨rfl, hw1⟩
  subst w1
  subst hvP
  go_wp2
  clear hcv cl cP HM
  go_loopw [20, 3] (fun i vv wr => ∃ (k : Nat) (v : Value), k ≤ R.pend.length ∧ i = nu k ∧ v = vv ∧ Hid (brow wr w.heap.size v (R.long ++ (R.pend.take k).map fun x => by8 x.client)) ∧ Hid (Below w.heap.size w wr) ∧ Hid (v ≠ .slice none 0 0)) (fun i _ _ => R.pend.length - (intOf i).toNat)
  case atStart => exact ⟨0, _, by omega, rfl, rfl, by show brow _ _ _ _; simpa using HW.out, HB.out, fun h => by cases h⟩
  case round =>
    obtain ⟨k, v3, hk, rfl, rfl, HV, HBr, HNN⟩ := hrel
    clear HB HW
    by_cases hlt : k < R.pend.length
    · have d1 : decide ((k : Int) < (R.pend.length : Int)) = true := decide_eq_true (by omega)
      have d1' : decide (k < R.pend.length) = true := decide_eq_true hlt
      have hpk := HI.out.pend _ (List.getElem_mem hlt)
      have hn := HI.out.n
      have hOw := HR.out.own.kept HBr.out
      obtain ⟨g, cap, hvg, hcc⟩ : ∃ g cap, (Value.slice va R.pend.length vcap) = .slice (some ⟨g, 0, none⟩) R.pend.length cap ∧ ∀ i c, (penC R.pend[k])[i]? = some c → wr.cell? ⟨g, k * 68 + i, none⟩ = some c := by
        rcases hOw.form with ⟨-, e⟩ | ⟨g, cap, cur, e, -⟩
        · rw [e] at hlt; exact absurd hlt (Nat.not_lt_zero k)
        · refine ⟨g, cap, e, fun i c hi => ?_⟩
          rw [e] at hOw
          refine hOw.cell _ _ (flatQ_at (fun p hp => (HI.out.pend p hp).wf) k hlt i c ?_)
          rw [List.getD_eq_getElem?_getD, List.getElem?_eq_getElem hlt]
          exact hi
      cases hvg
      have hpc : (penC R.pend[k]).length = 68 := penC_len hpk.wf
      have htk : (R.pend.take (k + 1)).map (fun x => by8 x.client) = (R.pend.take k).map (fun x => by8 x.client) ++ [by8 R.pend[k].client] := by
        rw [List.take_succ_eq_append_getElem hlt, List.map_append]
        rfl
      obtain ⟨c, hc⟩ : ∃ c : Nat, R.pend[k].client = (c : Int) := ⟨R.pend[k].client.toNat, by have := hpk.cl; omega⟩
      have hc8 : c < 8 := by have := hpk.cl; omega
      have S0 := hid hcc
      have Z0 : (Tryz.prog.info? 66).map (·.size) = some (penC R.pend[k]).length := by rw [hpc]; exact sizePen
      have O0 := hid (one_pen R.pend[k])
      have ZP : (Tryz.prog.info? 66).map (·.zero) = some (some (.agg (penC zeroP).toArray)) := by kernel_rfl
      have l0 : (penC zeroP).length = (penC R.pend[k]).length := by rw [hpc]; exact penC_len ⟨rfl, rfl⟩
      have T1 := top_obj wr (.cells (penC R.pend[k]).toArray 66)
      have c0 : (wr.alloc (.cells (penC R.pend[k]).toArray 66)).cell? ⟨wr.heap.size, 0, none⟩ = some (nu (c : Int)) := by
        rw [← hc]
        exact row_seg (off := 0) (A := []) (cs := penC R.pend[k]) (C := []) T1 (by simp) rfl 0 _ rfl
      have B1 := hid (below_two HBr.out (below_a1 wr (.cells (penC R.pend[k]).toArray 66)))
      have V1 : Hid (brow (wr.alloc (.cells (penC R.pend[k]).toArray 66)) w.heap.size v3 (R.long ++ (R.pend.take k).map fun x => by8 x.client)) := brow_below HV.out (below_a1 wr _) (Nat.le_refl _)
      rw [hc] at htk
      have hbv : Ms.bv (by8 (c : Int)) = (c : Int) := by8_val _ (by omega)
      have hll' : (R.long ++ (R.pend.take k).map fun x => by8 x.client).length ≤ 1000 := by simp; omega
      have HNX : Hid ((R.long ++ (R.pend.take k).map fun x => by8 x.client) ++ [by8 (c : Int)] = R.long ++ (R.pend.take (k + 1)).map fun x => by8 x.client) := by show _ = _; rw [htk, List.append_assoc]
      clear hcc hOw hpk hpc HV T1 hc HR htk
      generalize (R.long ++ (R.pend.take k).map fun x => by8 x.client) = PL at *
      generalize penC R.pend[k] = PA at *
      generalize penC zeroP = PZ at *
      go_upto_region 7 with (first
        | ((with_reducible refine wl_load 66 (.tmp 22) ?_ g (k * 68) ?_ ?_ PA _ S0.out Tryz.underlying66 ?_ Z0 ?_); exact rfl; exact rfl; exact rfl; exact rfl)
        | ((with_reducible refine wl_alloc 66 ?_ ?_ PZ.toArray ZP ?_); exact rfl; exact rfl)
        | ((with_reducible refine wl_store_top 66 (.tmp 5) (.tmp 23) ?_ ?_ ?_ ?_ PA PZ ?_ 66 l0 O0.out Z0 ?_); exact rfl; exact rfl; exact rfl; exact rfl; exact rfl))
      generalize wr.alloc (.cells PA.toArray 66) = W2 at *
      have hs2 : w.heap.size ≤ W2.heap.size := B1.out.size
      have hu : brow (W2.alloc (.cells #[.int .u8 (c : Int)] 5)) W2.heap.size (.slice (some ⟨W2.heap.size, 0, none⟩) 1 1) [by8 (c : Int)] := by
        have := brow_one W2 W2.heap.size (by8 (c : Int)) (Nat.le_refl _)
        rw [show Go.Proofs.YtoneoocihfjfgaaGreatDoor.bv (by8 (c : Int)) = (c : Int) from hbv] at this
        exact this
      have HU := hid hu
      have V2 : Hid (brow (W2.alloc (.cells #[.int .u8 (c : Int)] 5)) w.heap.size v3 PL) := brow_below V1.out (below_a1 W2 _) (Nat.le_refl _)
      have B2 := hid (below_two B1.out (below_a1 W2 (.cells #[.int .u8 (c : Int)] 5)))
      have OB := hid (brow_own V1.out)
      clear hu V1 B1
      go_wp2_with (first | (at_builtin; refine wpList_app rfl _ _ rfl w.heap.size W2.heap.size v3 _ PL [by8 (c : Int)] rfl rfl V2.out HU.out (Or.inl HNN.out) (by simp; omega) (by simp; omega) ?_; intro v4 W4 hv4 hg4; rw [HNX.out] at hv4; have V4 := hid hv4; have G4 := hid hg4; clear hv4 hg4))
      refine ⟨⟨k + 1, v4, by omega, by go_num, rfl, V4.out, ?_, ?_⟩, by simp [intOf]; omega⟩
      · exact ((Kp.of (X := []) B2.out).grown G4.out (fun b hb => Or.inr (OB.out b hb))).below (by simp) (Nat.le_refl _)
      · rintro rfl
        rcases V4.out with ⟨-, e⟩ | ⟨g', cap', cur', fz', e, -⟩
        · rw [← HNX.out] at e
          simp at e
        · cases e
    · have e : k = R.pend.length := by omega
      subst e
      have hx := conv_brow HV.out
      clear HV HR HI HNN
      go_wp2
      go_ret
      exact ⟨rfl, HBr.out⟩
open Go Go.RowKit
set_option maxRecDepth 100000
theorem submit_x {w : World} {p : Nat} {F : List Nat} {R : Rs} (h : RX w p F R) {c : Int} {x : Sub} (hx : x.Wf) (hr : (subM c x).Rng) (ht : Tb w) :
    Calls Tryz.prog 13 #[.pointer (some ⟨p, 0, none⟩), nu c, .agg (subC x).toArray] w fun e w' => ∃ v' F', e = .returned (.tuple #[.agg (repC (subY R c x) v').toArray, nu (subE R c x)]) ∧ RX w' p F' (subR R c x) ∧ OwnP w' v' (subY R c x).pend ∧ (∀ b, v'.ownBlock = some b → w.heap.size ≤ b ∧ b ∉ F') ∧ Kp F w w' ∧ ∀ b ∈ F', b ∈ F ∨ w.heap.size ≤ b := by
  obtain ⟨q, rs, vs, vP, h1, h2, h3⟩ := h
  refine (submit_any h1 hx hr ht).mono ?_
  rintro e w' ⟨v', q', rs', vs', vP', rfl, a1, a2, a3, a4, a5⟩
  refine ⟨v', p :: (q' ++ rs'), rfl, ⟨q', rs', vs', vP', a1, fun b hb => hb, fun b hb => ?_⟩, a2, a3, a4.drop (fun b hb => Or.inl ?_), fun b hb => ?_⟩
  · rcases List.mem_cons.1 hb with rfl | hb
    · exact row_ltA a1.row
    · exact a1.lt b hb
  · rcases List.mem_cons.1 hb with rfl | hb
    · exact h2 b (by simp)
    · exact h2 b (by simp [hb])
  · rcases List.mem_cons.1 hb with rfl | hb
    · exact Or.inl (h2 b (by simp))
    · rcases a5 b hb with e | e
      · exact Or.inl (h2 b (List.mem_cons_of_mem _ e))
      · exact Or.inr e
theorem commit_x {w : World} {p : Nat} {F : List Nat} {R : Rs} (h : RX w p F R) {c : Int} (hc : I64 c) {v t : List UInt8} (htl : t.length = 32) (ht : Tb w) :
    Calls Tryz.prog 16 #[.pointer (some ⟨p, 0, none⟩), nu c, st v, .agg (dg t).toArray] w fun e w' => ∃ F', e = .returned (nu (comE R c v t)) ∧ RX w' p F' (comR R c v t) ∧ Kp F w w' ∧ ∀ b ∈ F', b ∈ F ∨ w.heap.size ≤ b := by
  obtain ⟨q, rs, vs, vP, h1, h2, h3⟩ := h
  refine (commit_any h1 hc htl ht).mono ?_
  rintro e w' ⟨q', rs', vs', vP', rfl, a1, a4, a5⟩
  refine ⟨p :: (q' ++ rs'), rfl, ⟨q', rs', vs', vP', a1, fun b hb => hb, fun b hb => ?_⟩, a4.drop (fun b hb => Or.inl ?_), fun b hb => ?_⟩
  · rcases List.mem_cons.1 hb with rfl | hb
    · exact row_ltA a1.row
    · exact a1.lt b hb
  · rcases List.mem_cons.1 hb with rfl | hb
    · exact h2 b (by simp)
    · exact h2 b (by simp [hb])
  · rcases List.mem_cons.1 hb with rfl | hb
    · exact Or.inl (h2 b (by simp))
    · rcases a5 b hb with e | e
      · exact Or.inl (h2 b (List.mem_cons_of_mem _ e))
      · exact Or.inr e
theorem order_x {w : World} {p : Nat} {F : List Nat} {R : Rs} (h : RX w p F R) : Calls Tryz.prog 12 #[.pointer (some ⟨p, 0, none⟩)] w fun e w' => e = .returned (st (orderR R)) ∧ Below w.heap.size w w' := by
  obtain ⟨q, rs, vs, vP, h1, -⟩ := h
  exact order_any h1
theorem number_x {w : World} {p : Nat} {F : List Nat} {R : Rs} (h : RX w p F R) (c : Int) : Calls Tryz.prog 17 #[.pointer (some ⟨p, 0, none⟩), nu c] w fun e w' => e = .returned (nu (numR R c)) ∧ w' = w := by
  obtain ⟨q, rs, vs, vP, h1, -⟩ := h
  exact num_reg h1 c
theorem view_x {w : World} {p : Nat} {F : List Nat} {R : Rs} (h : RX w p F R) (c : Int) : Calls Tryz.prog 20 #[.pointer (some ⟨p, 0, none⟩), nu c] w fun e w' => e = .returned (st (viewR R c)) ∧ w' = w := by
  obtain ⟨q, rs, vs, vP, h1, -⟩ := h
  exact view_reg h1 c
def x1 : Sub := ⟨1, 1, 0, [], zeroD, zeroD⟩
def x2 : Sub := ⟨2, 1, 0, [], zeroD, zeroD⟩
def t7 : List UInt8 := 7 :: List.replicate 31 0
def A1 : Rs := subR (newR 2) 0 x1
def A2 : Rs := subR A1 1 x1
def A3 : Rs := comR A2 0 [0] t7
def A4 : Rs := subR A3 0 x2
theorem a_e1 : subE (newR 2) 0 x1 = 0 := by kernel_rfl
theorem a_e2 : subE A1 1 x1 = 0 := by kernel_rfl
theorem a_e3 : comE A2 0 [0] t7 = 0 := by kernel_rfl
theorem a_e4 : subE A3 0 x2 = 0 := by kernel_rfl
theorem a_p1 : (subY (newR 2) 0 x1).pend.length = 0 := by kernel_rfl
theorem a_p2 : (subY A1 1 x1).pend.length = 1 := by kernel_rfl
theorem a_p4 : (subY A3 0 x2).pend.length = 1 := by kernel_rfl
theorem a_v4 : (subY A3 0 x2).view = [0] := by kernel_rfl
theorem a_o4 : orderR A4 = [0, 1, 0] := by kernel_rfl
theorem a_n4 : numR A4 0 = 2 := by kernel_rfl
theorem x1_wf : x1.Wf := ⟨rfl, rfl⟩
theorem x2_wf : x2.Wf := ⟨rfl, rfl⟩
theorem xr (c n : Int) (hc : I64 c) (hn : I64 n) : (subM c ⟨n, 1, 0, [], zeroD, zeroD⟩).Rng := by
  have h := zeroM_rng 1 c ⟨by decide, by decide⟩ hc
  exact ⟨h.kind, h.client, hn, ⟨by show (-9223372036854775808 : Int) ≤ 1; decide, by show (1 : Int) ≤ 9223372036854775807; decide⟩, ⟨by show (-9223372036854775808 : Int) ≤ 0; decide, by show (0 : Int) ≤ 9223372036854775807; decide⟩, h.rn, h.rl, h.rv, h.who, h.bo, h.bn, h.ns, h.ps⟩
theorem subY_wf {R : Rs} (h : RInv R) (c : Int) (x : Sub) : (subY R c x).Wf := by
  unfold subY
  split
  · exact wfZeroR
  · split
    · exact (h.reg c).ans
    · exact ansR_wf h x
theorem zeroSub : (Tryz.prog.info? 34).map (·.zero) = some (some (.agg (subC zeroS).toArray)) := by kernel_rfl
end Go.Proofs.YtoneoocihfjfgaaGreatDoor.Ms
