/-
  What do answers of a Prune and of a Get of both stores.
-/
import Derived.Test.YtjpclmkkccffhaaBdo
namespace Go.Proofs.Ytjpclmkkccffhaa.Bl
open Go Go.RowKit Go.Maps
set_option maxRecDepth 100000

theorem ints_take {w : World} {a : Option Addr} {cap c2 : Nat} {ks : List Int} (h : IntsAt w (.slice a ks.length cap) ks) (hl : 100 < ks.length) : IntsAt w (.slice a 100 c2) (ks.take 100) := by
  obtain ⟨a', cap', e, hc⟩ := h
  cases e
  have e1 : (ks.take 100).length = 100 := by rw [List.length_take]; omega
  refine ⟨a, c2, by rw [e1], fun _ => ?_⟩
  obtain ⟨b, off, rfl, hj⟩ := hc (by intro e; rw [e] at hl; simp at hl)
  refine ⟨b, off, rfl, fun j hlt => ?_⟩
  rw [e1] at hlt
  have h1 := hj j (by omega)
  rw [h1]
  congr 2
  simp [List.getD, List.getElem?_take_of_lt hlt]
theorem ref_nocell' {w : World} {r m : Nat} {s : Nat} {v : Value} {L L' : List Blo} (h : StAt w s m L) (h' : RfAt w r v L') : ∀ x ∈ [m, r], ∀ j z, w.cell? ⟨x, j, none⟩ ≠ some (nu z) := by
  intro x hx j z
  simp at hx
  rcases hx with rfl | rfl
  · exact map_nocell h.map j _
  · exact ref_nocell h' j z

set_option maxHeartbeats 4000000 in
theorem do_prune {w : World} {s m r : Nat} {v : Value} {L : List Blo} (h : StAt w s m L) (h' : RfAt w r v L) (a : Ac) (ha : a.Ok) (vL : Value) (hv : IntsC w vL a.l) (h3 : a.kind = 3) : Calls Try.prog 14 #[ptr s 0, ptr r 0, .agg (acC a vL).toArray] w fun e w' =>
    e = .returned (.bool true) ∧ StAt w' s m (pruneD L a.owner (a.l.take 100)) ∧ (∃ v', RfAt w' r v' (pruneD L a.owner (a.l.take 100))) ∧ Kp [m, r] w w' := by
  have B0 := hid (below_a1 w (.cells (acC a vL).toArray 42))
  have R0 := hid (top_obj w (.cells (acC a vL).toArray 42))
  have H0 := hid (h.kept B0.out)
  have H0' := hid (h'.kept B0.out)
  have G0 : Hid (w.heap.size ∉ [m, r]) := by
    have h1 := h.map.lt
    have h2 := row_lt h'.obj
    show _ ∉ _
    simp
    omega
  have c0 := arow_k R0.out
  have c38 := arow_l R0.out ha.wf
  have d3 : (a.kind == 3) = true := by simp [h3]
  have HV := hid (hv.1.kept B0.out)
  obtain ⟨ax, cap, rfl, hcap⟩ := hv.2
  have HK64 : Hid (∀ k ∈ a.l.take 100, I64 k) := fun k hk => ha.l k (List.take_subset _ _ hk)
  have HL : Hid ((a.l.take 100).length ≤ 100) := by show _ ≤ _; rw [List.length_take]; omega
  clear h h' h3 hv
  by_cases hlen : 100 < a.l.length
  · have dl : decide ((100 : Int) < (a.l.length : Int)) = true := decide_eq_true (by omega)
    obtain ⟨bb, off, rfl, -⟩ := HV.out.at (j := 0) (by omega)
    have hc1 : ¬ cap = 0 := by omega
    have hc2 : 100 ≤ cap := by omega
    go_enter Try.func14, Try.ntmps14
    go_upto_region 1 with fail
    generalize hR : (.cells (acC a (.slice (some ⟨bb, off, none⟩) a.l.length cap)).toArray 42 : Obj) = row at *
    generalize w.alloc row = W0 at *
    have HV2 : Hid (IntsAt W0 (.slice (some ⟨bb, off, none⟩) 100 cap) (a.l.take 100)) := ints_take HV.out hlen
    go_wp2_with fail
    have HI : Hid (∀ W, Kp [m, r] W0 W → IntsAt W (.slice (some ⟨bb, off, none⟩) 100 cap) (a.l.take 100)) := fun W hW => HV2.out.kp hW (ref_nocell' H0.out H0'.out)
    generalize hE : (pruneN L a.owner (a.l.take 100) : Nat) = E at *
    generalize hD : pruneD L a.owner (a.l.take 100) = D at *
    refine wp_region_two (N := 115) 4 9 [ptr s 0, ptr w.heap.size (0 + 1), nu a.owner, (.slice (some ⟨bb, off, none⟩) 100 cap), nu E, ptr r 0, ptr w.heap.size (0 + 1), nu a.owner, (.slice (some ⟨bb, off, none⟩) 100 cap), nu E, .bool true, .bool true]
      (fun W => W.heap[w.heap.size]? = some row) (fun W => Kp [m, r] W0 W ∧ StAt W s m L ∧ RfAt W r v L) (fun W => Kp [m, r] W0 W ∧ StAt W s m D ∧ RfAt W r v L) (fun W => Kp [m, r] W0 W ∧ StAt W s m D ∧ ∃ v', RfAt W r v' D)
      (by kernel_rfl) (by kernel_rfl) rfl (fun o ho => by cases ho; kernel_rfl) (by decide) (fun w1 hb => ⟨Kp.of hb, H0.out.kept hb, H0'.out.kept hb⟩) (fun W hW => hW.1.row R0.out G0.out) (fun W hW => hW.1.row R0.out G0.out) (fun W hW => hW.1.row R0.out G0.out) ?_ ?_ ?_ (by decide) ?_
    · intro i o n1 n2 ho
      match i, ho with
      | 0, ho => cases ho; exact fun a W hR hk hc K h => op_move 0 _ rfl (hk 0 (by kernel_rfl)) h
      | 1, ho => cases ho; exact fun a W hR hk hc K h => op_fa 5 _ 1 w.heap.size 0 1 rfl (fun W => fa_ac1 _ W) (hk 5 (by kernel_rfl)) h
      | 2, ho => cases ho; exact fun a' W hR' hk hc K h => op_load1 _ (.tmp 25) rfl w.heap.size (0 + 1) (hc 1 25 (by kernel_rfl) (by kernel_rfl)) _ _ (arow_o (hR'.trans (congrArg some hR.symm))) Try.underlying3 rfl h
      | 3, ho => cases ho; exact fun a W hR hk hc K h => op_move 7 _ rfl (hk 7 (by kernel_rfl)) h
      | 5, ho => cases ho; exact fun a W hR hk hc K h => op_move 1 _ rfl (hk 1 (by kernel_rfl)) h
      | 6, ho => cases ho; exact fun a W hR hk hc K h => op_fa 5 _ 1 w.heap.size 0 1 rfl (fun W => fa_ac1 _ W) (hk 5 (by kernel_rfl)) h
      | 7, ho => cases ho; exact fun a' W hR' hk hc K h => op_load1 _ (.tmp 30) rfl w.heap.size (0 + 1) (hc 6 30 (by kernel_rfl) (by kernel_rfl)) _ _ (arow_o (hR'.trans (congrArg some hR.symm))) Try.underlying3 rfl h
      | 8, ho => cases ho; exact fun a W hR hk hc K h => op_move 7 _ rfl (hk 7 (by kernel_rfl)) h
      | 10, ho => cases ho; exact fun a W hR hk hc K h => op_eqlI 28 33 _ _ E E rfl (hc 4 28 (by kernel_rfl) (by kernel_rfl)) (hc 9 33 (by kernel_rfl) (by kernel_rfl)) (by rw [beq_self_eq_true]; exact h)
      | 11, ho => cases ho; exact fun a W hR hk hc K h => op_assign 34 _ rfl (hc 10 34 (by kernel_rfl) (by kernel_rfl)) h
      | 4, ho => exact absurd rfl n1
      | 9, ho => exact absurd rfl n2
      | (i + 12), ho => exact absurd ho (by simp)
    · intro o ho a' W hJ hk hc K h
      cases ho
      refine op_call 13 [.tmp 24, .tmp 26, .tmp 27] _ #[ptr s 0, nu a.owner, (.slice (some ⟨bb, off, none⟩) 100 cap)] _ rfl call_prune ?_ ((prune_any hJ.2.1 a.owner _ _ ha.ow HK64.out (by have := HL.out; omega) (HI.out W hJ.1)).mono ?_) h
      · have e1 : a'.eval (.tmp 24) = ptr s 0 := hc 0 24 (by kernel_rfl) (by kernel_rfl)
        have e2 : a'.eval (.tmp 26) = nu a.owner := hc 2 26 (by kernel_rfl) (by kernel_rfl)
        have e3 : a'.eval (.tmp 27) = (.slice (some ⟨bb, off, none⟩) 100 cap) := hc 3 27 (by kernel_rfl) (by kernel_rfl)
        simp only [List.map_cons, List.map_nil, e1, e2, e3]
      · rintro e W' ⟨rfl, q1, q2⟩
        rw [hD] at q1
        exact ⟨by rw [hE]; rfl, hJ.1.trans (kp_m q2), q1, rf_km hJ.2.1 hJ.2.2 q2⟩
    · intro o ho a' W hJ hk hc K h
      cases ho
      refine op_call 26 [.tmp 29, .tmp 31, .tmp 32] _ #[ptr r 0, nu a.owner, (.slice (some ⟨bb, off, none⟩) 100 cap)] _ rfl call_rprune ?_ ((rprune_any hJ.2.2 a.owner _ _ (by have := HL.out; omega) (HI.out W hJ.1)).mono ?_) h
      · have e1 : a'.eval (.tmp 29) = ptr r 0 := hc 5 29 (by kernel_rfl) (by kernel_rfl)
        have e2 : a'.eval (.tmp 31) = nu a.owner := hc 7 31 (by kernel_rfl) (by kernel_rfl)
        have e3 : a'.eval (.tmp 32) = (.slice (some ⟨bb, off, none⟩) 100 cap) := hc 8 32 (by kernel_rfl) (by kernel_rfl)
        simp only [List.map_cons, List.map_nil, e1, e2, e3]
      · rintro e W' ⟨rfl, q1, q2⟩
        rw [hD] at q1
        exact ⟨by rw [hE]; rfl, hJ.1.trans (kp_r q2), st_kr hJ.2.1 hJ.2.2 q2, q1⟩
    · intro a' W hJ hs hd hk hc
      have h6 := hc 11 6 (by kernel_rfl)
      obtain ⟨tm, df⟩ := a'
      obtain rfl : df = [] := hd
      have HJ := hid hJ
      clear hJ hk hc hs
      go_wp2
      go_ret
      exact ⟨by rw [h6]; rfl, HJ.out.2.1, HJ.out.2.2, (Kp.of B0.out).trans HJ.out.1⟩
  · have dl : decide ((100 : Int) < (a.l.length : Int)) = false := decide_eq_false (by omega)
    go_enter Try.func14, Try.ntmps14
    go_upto_region 1 with fail
    generalize hR : (.cells (acC a (.slice ax a.l.length cap)).toArray 42 : Obj) = row at *
    generalize w.alloc row = W0 at *
    have HV2 : Hid (IntsAt W0 (.slice ax a.l.length cap) (a.l.take 100)) := by
      show IntsAt _ _ _
      rw [List.take_of_length_le (by omega)]
      exact HV.out
    go_wp2_with fail
    have HI : Hid (∀ W, Kp [m, r] W0 W → IntsAt W (.slice ax a.l.length cap) (a.l.take 100)) := fun W hW => HV2.out.kp hW (ref_nocell' H0.out H0'.out)
    generalize hE : (pruneN L a.owner (a.l.take 100) : Nat) = E at *
    generalize hD : pruneD L a.owner (a.l.take 100) = D at *
    refine wp_region_two (N := 115) 4 9 [ptr s 0, ptr w.heap.size (0 + 1), nu a.owner, (.slice ax a.l.length cap), nu E, ptr r 0, ptr w.heap.size (0 + 1), nu a.owner, (.slice ax a.l.length cap), nu E, .bool true, .bool true]
      (fun W => W.heap[w.heap.size]? = some row) (fun W => Kp [m, r] W0 W ∧ StAt W s m L ∧ RfAt W r v L) (fun W => Kp [m, r] W0 W ∧ StAt W s m D ∧ RfAt W r v L) (fun W => Kp [m, r] W0 W ∧ StAt W s m D ∧ ∃ v', RfAt W r v' D)
      (by kernel_rfl) (by kernel_rfl) rfl (fun o ho => by cases ho; kernel_rfl) (by decide) (fun w1 hb => ⟨Kp.of hb, H0.out.kept hb, H0'.out.kept hb⟩) (fun W hW => hW.1.row R0.out G0.out) (fun W hW => hW.1.row R0.out G0.out) (fun W hW => hW.1.row R0.out G0.out) ?_ ?_ ?_ (by decide) ?_
    · intro i o n1 n2 ho
      match i, ho with
      | 0, ho => cases ho; exact fun a W hR hk hc K h => op_move 0 _ rfl (hk 0 (by kernel_rfl)) h
      | 1, ho => cases ho; exact fun a W hR hk hc K h => op_fa 5 _ 1 w.heap.size 0 1 rfl (fun W => fa_ac1 _ W) (hk 5 (by kernel_rfl)) h
      | 2, ho => cases ho; exact fun a' W hR' hk hc K h => op_load1 _ (.tmp 25) rfl w.heap.size (0 + 1) (hc 1 25 (by kernel_rfl) (by kernel_rfl)) _ _ (arow_o (hR'.trans (congrArg some hR.symm))) Try.underlying3 rfl h
      | 3, ho => cases ho; exact fun a W hR hk hc K h => op_move 7 _ rfl (hk 7 (by kernel_rfl)) h
      | 5, ho => cases ho; exact fun a W hR hk hc K h => op_move 1 _ rfl (hk 1 (by kernel_rfl)) h
      | 6, ho => cases ho; exact fun a W hR hk hc K h => op_fa 5 _ 1 w.heap.size 0 1 rfl (fun W => fa_ac1 _ W) (hk 5 (by kernel_rfl)) h
      | 7, ho => cases ho; exact fun a' W hR' hk hc K h => op_load1 _ (.tmp 30) rfl w.heap.size (0 + 1) (hc 6 30 (by kernel_rfl) (by kernel_rfl)) _ _ (arow_o (hR'.trans (congrArg some hR.symm))) Try.underlying3 rfl h
      | 8, ho => cases ho; exact fun a W hR hk hc K h => op_move 7 _ rfl (hk 7 (by kernel_rfl)) h
      | 10, ho => cases ho; exact fun a W hR hk hc K h => op_eqlI 28 33 _ _ E E rfl (hc 4 28 (by kernel_rfl) (by kernel_rfl)) (hc 9 33 (by kernel_rfl) (by kernel_rfl)) (by rw [beq_self_eq_true]; exact h)
      | 11, ho => cases ho; exact fun a W hR hk hc K h => op_assign 34 _ rfl (hc 10 34 (by kernel_rfl) (by kernel_rfl)) h
      | 4, ho => exact absurd rfl n1
      | 9, ho => exact absurd rfl n2
      | (i + 12), ho => exact absurd ho (by simp)
    · intro o ho a' W hJ hk hc K h
      cases ho
      refine op_call 13 [.tmp 24, .tmp 26, .tmp 27] _ #[ptr s 0, nu a.owner, (.slice ax a.l.length cap)] _ rfl call_prune ?_ ((prune_any hJ.2.1 a.owner _ _ ha.ow HK64.out (by have := HL.out; omega) (HI.out W hJ.1)).mono ?_) h
      · have e1 : a'.eval (.tmp 24) = ptr s 0 := hc 0 24 (by kernel_rfl) (by kernel_rfl)
        have e2 : a'.eval (.tmp 26) = nu a.owner := hc 2 26 (by kernel_rfl) (by kernel_rfl)
        have e3 : a'.eval (.tmp 27) = (.slice ax a.l.length cap) := hc 3 27 (by kernel_rfl) (by kernel_rfl)
        simp only [List.map_cons, List.map_nil, e1, e2, e3]
      · rintro e W' ⟨rfl, q1, q2⟩
        rw [hD] at q1
        exact ⟨by rw [hE]; rfl, hJ.1.trans (kp_m q2), q1, rf_km hJ.2.1 hJ.2.2 q2⟩
    · intro o ho a' W hJ hk hc K h
      cases ho
      refine op_call 26 [.tmp 29, .tmp 31, .tmp 32] _ #[ptr r 0, nu a.owner, (.slice ax a.l.length cap)] _ rfl call_rprune ?_ ((rprune_any hJ.2.2 a.owner _ _ (by have := HL.out; omega) (HI.out W hJ.1)).mono ?_) h
      · have e1 : a'.eval (.tmp 29) = ptr r 0 := hc 5 29 (by kernel_rfl) (by kernel_rfl)
        have e2 : a'.eval (.tmp 31) = nu a.owner := hc 7 31 (by kernel_rfl) (by kernel_rfl)
        have e3 : a'.eval (.tmp 32) = (.slice ax a.l.length cap) := hc 8 32 (by kernel_rfl) (by kernel_rfl)
        simp only [List.map_cons, List.map_nil, e1, e2, e3]
      · rintro e W' ⟨rfl, q1, q2⟩
        rw [hD] at q1
        exact ⟨by rw [hE]; rfl, hJ.1.trans (kp_r q2), st_kr hJ.2.1 hJ.2.2 q2, q1⟩
    · intro a' W hJ hs hd hk hc
      have h6 := hc 11 6 (by kernel_rfl)
      obtain ⟨tm, df⟩ := a'
      obtain rfl : df = [] := hd
      have HJ := hid hJ
      clear hJ hk hc hs
      go_wp2
      go_ret
      exact ⟨by rw [h6]; rfl, HJ.out.2.1, HJ.out.2.2, (Kp.of B0.out).trans HJ.out.1⟩

set_option maxHeartbeats 4000000 in
theorem do_get {w : World} {s m r : Nat} {v : Value} {L : List Blo} (h : StAt w s m L) (h' : RfAt w r v L) (a : Ac) (ha : a.Ok) (vL : Value) (h4 : a.kind = 4) : Calls Try.prog 14 #[ptr s 0, ptr r 0, .agg (acC a vL).toArray] w fun e w' =>
    e = .returned (.bool true) ∧ Below w.heap.size w w' := by
  have B0 := hid (below_a1 w (.cells (acC a vL).toArray 42))
  have R0 := hid (top_obj w (.cells (acC a vL).toArray 42))
  have H0 := hid (h.kept B0.out)
  have H0' := hid (h'.kept B0.out)
  have c0 := arow_k R0.out
  have c1 := arow_o R0.out
  have c2 := arow_n R0.out
  have d3 : (a.kind == 3) = false := by simp [h4]
  have d4 : (a.kind == 4) = true := by simp [h4]
  have HG := hid (get_any H0.out a.owner a.number ha.ow ha.nu)
  have hgw : (getB L a.owner a.number).Wf := getB_wf h.inv _ _
  have hLl := h.inv.len
  clear h h' h4
  cases hf : L.find? (hitB a.owner a.number) with
  | none =>
    have e1 : getB L a.owner a.number = zeroB := by unfold getB; rw [hf]; rfl
    have e2 : getE L a.owner a.number = 9 := by unfold getE; rw [hf]; rfl
    have e3 := at_none hf
    rw [e1, e2] at HG
    have EQ := hid (fun W => equal_blo W zeroB zeroB zeroB_wf zeroB_wf)
    rw [sameB_self] at EQ
    have Zz := hid (sizeOf_blo zeroB_wf)
    clear hf e1 e2 hgw
    go_enter Try.func14, Try.ntmps14
    go_upto_region 1 with fail
    generalize w.alloc (.cells (acC a vL).toArray 42) = W0 at *
    go_wp2_with (first
      | (go_at_call 12; refine HG.out.mono ?_; rintro e W7 ⟨rfl, b7⟩; have B7 := hid b7; clear b7)
      | ((with_reducible refine wl_allocK 33 ?_ ?_ (bloC zeroB).toArray zeroBl ?_); exact rfl; exact rfl; intro W8 r8 b8 s8; have R8 := hid r8; have B8 := hid b8; clear r8 b8 s8)
      | ((with_reducible refine wl_putK 33 (.tmp 8) (.tmp 44) ?_ ?_ W7.heap.size ?_ ?_ (bloC zeroB) (bloC zeroB) ?_ 33 R8.out ?_ (one_blo _) Zz.out ?_); exact rfl; exact rfl; exact rfl; exact rfl; exact rfl; exact rfl; intro W9 r9 k9 s9; have R9 := hid r9; have B9 := hid (B7.out.trans ((B8.out.mono B7.out.size).trans (k9.below (by simp; exact B7.out.size) (Nat.le_trans B7.out.size B8.out.size)))); have HT := hid (at_any (H0'.out.kept B9.out) a.owner a.number); rw [e3] at HT; have f1 := arow_o (row_kept R0.out B9.out); have f2 := arow_n (row_kept R0.out B9.out); clear r9 k9 s9)
      | (go_at_call 27; refine HT.out.mono ?_; rintro e w1 ⟨rfl, hw1⟩; subst w1)
      | ((with_reducible refine wl_load 33 (.tmp 8) ?_ W7.heap.size 0 ?_ ?_ (bloC zeroB) _ (brow_all R9.out) Try.underlying33 ?_ Zz.out ?_); exact rfl; exact rfl; exact rfl; exact rfl)
      | ((with_reducible refine wl_build 33 ?_ ?_ (bloC zeroB).toArray (by kernel_rfl) ?_); exact rfl; exact rfl)
      | ((with_reducible refine wl_eql ?_ 33 33 (.tmp 57) (.tmp 58) ?_ (bloC zeroB).toArray (bloC zeroB).toArray ?_ ?_ guardBlo true EQ.out ?_); exact rfl; exact rfl; exact rfl; exact rfl))
    go_ret
    exact ⟨rfl, below_two B0.out B9.out⟩
  | some x =>
    have e1 : getB L a.owner a.number = x := by unfold getB; rw [hf]; rfl
    have e2 : getE L a.owner a.number = 0 := by unfold getE; rw [hf]; rfl
    obtain ⟨k, hk, hxk, e3⟩ := at_some H0.out.inv hf
    rw [e1, e2] at HG
    rw [e1] at hgw
    have EQ := hid (fun W => equal_blo W x x hgw hgw)
    rw [sameB_self] at EQ
    have Zx := hid (sizeOf_blo hgw)
    obtain ⟨g, cap, ev, hc⟩ := H0'.out.row.at H0'.out.inv hk
    rw [hxk] at hc
    have HC := hid hc
    subst ev
    have dk : decide ((k : Int) < 0) = false := decide_eq_false (by omega)
    clear hf e1 e2 hc hxk
    go_enter Try.func14, Try.ntmps14
    go_upto_region 1 with fail
    generalize w.alloc (.cells (acC a vL).toArray 42) = W0 at *
    go_upto_region 12 with (first
      | (go_at_call 12; refine HG.out.mono ?_; rintro e W7 ⟨rfl, b7⟩; have B7 := hid b7; clear b7)
      | ((with_reducible refine wl_allocK 33 ?_ ?_ (bloC zeroB).toArray zeroBl ?_); exact rfl; exact rfl; intro W8 r8 b8 s8; have R8 := hid r8; have B8 := hid b8; clear r8 b8 s8)
      | ((with_reducible refine wl_putK 33 (.tmp 8) (.tmp 44) ?_ ?_ W7.heap.size ?_ ?_ (bloC x) (bloC zeroB) ?_ 33 R8.out ((bloC_len zeroB_wf).trans (bloC_len hgw).symm) (one_blo _) Zx.out ?_); exact rfl; exact rfl; exact rfl; exact rfl; exact rfl; intro W9 r9 k9 s9; have R9 := hid r9; have B9 := hid (B7.out.trans ((B8.out.mono B7.out.size).trans (k9.below (by simp; exact B7.out.size) (Nat.le_trans B7.out.size B8.out.size)))); have HT := hid (at_any (H0'.out.kept B9.out) a.owner a.number); rw [e3] at HT; have f1 := arow_o (row_kept R0.out B9.out); have f2 := arow_n (row_kept R0.out B9.out); clear r9 k9 s9)
      | (go_at_call 27; refine HT.out.mono ?_; rintro e w1 ⟨rfl, hw1⟩; subst w1))
    have q0 := (H0'.out.kept B9.out).cell
    generalize W7.heap.size = g7 at *
    have p0 : ∀ dd os, (Sort.grow (redrawn W9 dd) os).cell? ⟨r, 0, none⟩ = some (.slice (some ⟨g, 0, none⟩) L.length cap) := fun dd os => cell_regrown q0 _ _
    have SA := hid (fun w' (hw : ∃ p : Regrown, w' = Sort.grow (redrawn W9 p.d) p.os) => (by obtain ⟨p, rfl⟩ := hw; exact fun i c hi => cell_regrown ((B9.out.cell (p := ⟨g, k * 35 + i, none⟩) (World.block_lt_of_cell? W0 _ (HC.out i c hi))).trans (HC.out i c hi)) _ _ : ∀ i c, (bloC x)[i]? = some c → w'.cell? ⟨g, k * 35 + i, none⟩ = some c))
    have SB := hid (fun w' (hw : ∃ p : Regrown, w' = Sort.grow (redrawn W9 p.d) p.os) => (by obtain ⟨p, rfl⟩ := hw; exact fun i c hi => cell_regrown (brow_all R9.out i c hi) _ _ : ∀ i c, (bloC x)[i]? = some c → w'.cell? ⟨g7, 0 + i, none⟩ = some c))
    refine wp_region_quiet_below (by kernel_rfl) (by kernel_rfl) ?_
    iterate 3 (first | go_big_quiet_step (fail) | quiet_step (fail))
    refine wq_load 33 (.tmp 8) rfl g7 0 rfl rfl (bloC x) _ (fun w' hw' => SB.out w' hw') Try.underlying33 rfl Zx.out ?_
    simp only [Act.put, List.setIfInBounds_toArray, List.set_cons_zero, List.set_cons_succ]
    iterate 6 (first | go_big_quiet_step (fail) | quiet_step (fail))
    refine wq_load 33 (.tmp 70) rfl g (k * 35) rfl rfl (bloC x) _ (fun w' hw' => SA.out w' hw') Try.underlying33 rfl Zx.out ?_
    simp only [Act.put, List.setIfInBounds_toArray, List.set_cons_zero, List.set_cons_succ]
    refine wq_eql rfl 33 33 (.tmp 64) (.tmp 71) rfl (bloC x).toArray (bloC x).toArray rfl rfl guardBlo true EQ.out ?_
    simp only [Act.put, List.setIfInBounds_toArray, List.set_cons_zero, List.set_cons_succ]
    iterate 2 (first | go_big_quiet_step (fail) | quiet_step (fail))
    refine wpQuiet_nil ?_
    intro _ hw'
    obtain ⟨⟨dq, osq⟩, hw''⟩ := hw'
    subst hw''
    have HBq := hid (below_regrown W9 dq osq)
    generalize Sort.grow (redrawn W9 dq) osq = W10 at *
    clear p0 SA SB q0
    go_wp2
    go_ret
    exact ⟨rfl, below_two (below_two B0.out B9.out) HBq.out⟩
end Go.Proofs.Ytjpclmkkccffhaa.Bl
