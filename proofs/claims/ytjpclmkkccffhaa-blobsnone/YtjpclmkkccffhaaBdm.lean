/-
  What do answers of many Puts of both stores; and of every call.
-/
import Derived.Test.YtjpclmkkccffhaaBdp
namespace Go.Proofs.Ytjpclmkkccffhaa.Bl
open Go Go.RowKit Go.Maps
set_option maxRecDepth 100000

theorem ext_take (l : List UInt8) (k : Nat) : (⟨l.toArray⟩ : ByteArray).extract 0 k = ⟨(l.take k).toArray⟩ := by
  apply ByteArray.ext
  simp [ByteArray.data_extract]
theorem cut_wf {b : Blo} (h : b.Wf) : (cutB b).Wf := h
theorem num_wf {b : Blo} (h : b.Wf) (n : Int) : (numB b n).Wf := h
theorem num_num (b : Blo) (n k : Int) : numB (numB b n) k = numB b k := rfl
theorem num_self (b : Blo) : numB b b.number = b := rfl
theorem many_bound (n : Int) (k : Nat) (hk : k ≤ manyN n) : (k : Int) ≤ 90 ∧ ((k : Int) < n ∧ (k : Int) < 90 → k + 1 ≤ manyN n) ∧ (¬ ((k : Int) < n ∧ (k : Int) < 90) → k = manyN n) := by
  unfold manyN at *
  split at hk <;> (split <;> omega)

set_option maxHeartbeats 4000000 in
theorem do_many {w : World} {s m r : Nat} {v : Value} {L : List Blo} (h : StAt w s m L) (h' : RfAt w r v L) (a : Ac) (ha : a.Ok) (vL : Value) (h5 : a.kind = 5) : Calls Try.prog 14 #[ptr s 0, ptr r 0, .agg (acC a vL).toArray] w fun e w' =>
    e = .returned (.bool true) ∧ StAt w' s m (manyD L (cutB a.b) (manyN a.number)) ∧ (∃ v', RfAt w' r v' (manyD L (cutB a.b) (manyN a.number))) ∧ Kp [m, r] w w' := by
  have B0 := hid (below_a1 w (.cells (acC a vL).toArray 42))
  have R0 := hid (top_obj w (.cells (acC a vL).toArray 42))
  have H0 := hid (h.kept B0.out)
  have H0' := hid (h'.kept B0.out)
  have G0 : Hid (w.heap.size ∉ [m, r]) := by
    have h1 := h.map.lt
    have h2 := row_lt h'.obj
    show _ ∉ _
    simp
    omega
  have S0 : Hid ((w.alloc (.cells (acC a vL).toArray 42)).heap.size = w.heap.size + 1) := by show _ = _; simp
  have c0 := arow_k R0.out
  have d3 : (a.kind == 3) = false := by simp [h5]
  have d4 : (a.kind == 4) = false := by simp [h5]
  have d5 : (a.kind == 5) = true := by simp [h5]
  have Zb := hid (sizeOf_blo ha.wf)
  have S3 := hid (arow_b R0.out)
  have hsz : (⟨a.b.cipher.toArray⟩ : ByteArray).size = a.b.cipher.length := rfl
  have hwf := ha.wf
  have VO : Hid (∀ q, v.ownBlock = some q → q < w.heap.size) := own_lt h'.row
  have hLm : Hid (m < w.heap.size ∧ r < w.heap.size ∧ s < w.heap.size) := ⟨h.map.lt, row_lt h'.obj, row_lt h.obj⟩
  clear h h' h5
  go_enter Try.func14, Try.ntmps14
  go_upto_region 1 with fail
  generalize w.alloc (.cells (acC a vL).toArray 42) = W0 at *
  go_upto_region 15 with (first
    | ((with_reducible refine wl_load 33 (.tmp 76) ?_ w.heap.size 3 ?_ ?_ (bloC a.b) _ S3.out Try.underlying33 ?_ Zb.out ?_); exact rfl; exact rfl; exact rfl; exact rfl)
    | ((with_reducible refine wl_allocK 33 ?_ ?_ (bloC zeroB).toArray zeroBl ?_); exact rfl; exact rfl; intro W8 r8 b8 s8; have R8 := hid r8; have B8 := hid b8; clear r8 b8 s8)
    | ((with_reducible refine wl_putK 33 (.tmp 11) (.tmp 77) ?_ ?_ W0.heap.size ?_ ?_ (bloC a.b) (bloC zeroB) ?_ 33 R8.out ((bloC_len zeroB_wf).trans (bloC_len hwf).symm) (one_blo _) Zb.out ?_); exact rfl; exact rfl; exact rfl; exact rfl; exact rfl; intro W9 r9 k9 s9; have R9 := hid r9; have K9 := hid k9; clear r9 k9 s9))
  have GG : Hid (w.heap.size < W0.heap.size) := by show _ < _; rw [S0.out]; omega
  have B9 : Hid (Below W0.heap.size W0 W9) := B8.out.trans (K9.out.below (by simp) B8.out.size)
  have H9 := hid (H0.out.kept B9.out)
  have H9' := hid (H0'.out.kept B9.out)
  have A9 := hid (row_kept R0.out B9.out)
  have K90 : Hid (Kp [m, r] w W9) := Kp.of (below_two B0.out B9.out)
  clear B9 K9 R8 B8
  generalize W0.heap.size = g at *
  have e2 := brow_c R9.out
  have f2 : W9.frozen? ⟨g, 2, none⟩ = false := by simp [World.frozen?, R9.out]
  have EB : Hid (bloC a.b = [nu a.b.owner, nu a.b.number] ++ ([st a.b.cipher] ++ dg a.b.tag)) := by show _ = _; simp [bloC]
  by_cases hlen : 400 < a.b.cipher.length
  · have dl : decide ((400 : Int) < (a.b.cipher.length : Int)) = true := decide_eq_true (by omega)
    have hx := ext_take a.b.cipher 400
    have h400 : 400 ≤ a.b.cipher.length := by omega
    go_upto_region 17 with fail
    have RW : Hid ((W9.setCell ⟨g, 2, none⟩ (st (a.b.cipher.take 400))).heap[g]? = some (.cells (bloC (numB (cutB a.b) (cutB a.b).number)).toArray 33)) := by
      have h0 := R9.out
      rw [EB.out] at h0
      have h1 := row_set (v := st (a.b.cipher.take 400)) h0 rfl
      exact h1
    have KC : Hid (Kp [g] W9 (W9.setCell ⟨g, 2, none⟩ (st (a.b.cipher.take 400)))) := (Kp.refl _ _).setCell _ _ (Or.inl (by simp))
    have hgm : Hid (g ≠ m ∧ g ≠ r ∧ g ≠ s ∧ g ≠ w.heap.size) := by
      have h1 := hLm.out
      have h2 := GG.out
      show _ ∧ _
      omega
    have VW : Hid (∀ q, v.ownBlock = some q → q ≠ g) := fun q hq => by have := VO.out q hq; have := GG.out; omega
    generalize W9.setCell ⟨g, 2, none⟩ (st (a.b.cipher.take 400)) = WW at *
    have AW : Hid (WW.heap[w.heap.size]? = some (.cells (acC a vL).toArray 42)) := KC.out.row A9.out (by simpa using Ne.symm hgm.out.2.2.2)
    have SW : Hid (StAt WW s m (manyD L (cutB a.b) 0)) := H9.out.kp KC.out (by simpa using Ne.symm hgm.out.2.2.1) (by simpa using Ne.symm hgm.out.1)
    have FW : Hid (RfAt WW r v (manyD L (cutB a.b) 0)) := H9'.out.kp KC.out (by simpa using Ne.symm hgm.out.2.1) (fun q hq => by simpa using VW.out q hq)
    have KW : Hid (Kp [m, r] w WW) := ⟨KC.out.os.trans K90.out.os, KC.out.tape.trans K90.out.tape, KC.out.output.trans K90.out.output, Nat.le_trans K90.out.size KC.out.size, fun q hq hx => (KC.out.block q (Nat.lt_of_lt_of_le hq K90.out.size) (by have := GG.out; simp; omega)).trans (K90.out.block q hq hx)⟩
    clear hgm
    go_wp2_with fail
    go_loopw [12] (fun i wr => ∃ (k : Nat) (z : Int), k ≤ manyN a.number ∧ i = nu k ∧ Hid (wr.heap[g]? = some (.cells (bloC (numB (cutB a.b) z)).toArray 33)) ∧ Hid (wr.heap[w.heap.size]? = some (.cells (acC a vL).toArray 42)) ∧ Hid (StAt wr s m (manyD L (cutB a.b) k)) ∧ Hid (∃ v', RfAt wr r v' (manyD L (cutB a.b) k) ∧ ∀ q, v'.ownBlock = some q → q ≠ g) ∧ Hid (Kp [m, r] w wr)) (fun i _ => manyN a.number - (intOf i).toNat)
    case atStart => exact ⟨0, (cutB a.b).number, Nat.zero_le _, rfl, RW, AW, SW, ⟨v, FW.out, VW.out⟩, KW⟩
    case round =>
      obtain ⟨k, z, hk, rfl, HRow, HAct, HSt, HRf, HK⟩ := hrel
      have hmb := many_bound a.number k hk
      have q2 := arow_n HAct.out
      by_cases hc : (k : Int) < a.number ∧ (k : Int) < 90
      · have n1 : decide ((k : Int) < a.number) = true := decide_eq_true hc.1
        have n2 : decide ((k : Int) < 90) = true := decide_eq_true hc.2
        have hk1 := hid (hmb.2.1 hc)
        have hk90 := hmb.1
        have q1 := brow_n HRow.out
        have q1f : wr.frozen? ⟨g, 1, none⟩ = false := by simp [World.frozen?, HRow.out]
        clear hmb hc
        go_upto_region 21 with fail
        obtain ⟨v', hRf⟩ := HRf.out
        have HRf' := hid hRf
        clear hRf HRf
        have R2 : Hid ((wr.setCell ⟨g, 1, none⟩ (Value.int IntKind.i64 (1000 + k))).heap[g]? = some (.cells (bloC (numB (cutB a.b) (1000 + k))).toArray 33)) := by
          have e0 : ∀ z, bloC (numB (cutB a.b) z) = [nu (cutB a.b).owner] ++ ([nu z] ++ ([st (cutB a.b).cipher] ++ dg (cutB a.b).tag)) := fun z => by simp [bloC, numB]
          have h0 := HRow.out
          rw [e0] at h0
          show _ = _
          rw [e0]
          exact row_set h0 rfl
        have K2 : Hid (Kp [g] wr (wr.setCell ⟨g, 1, none⟩ (Value.int IntKind.i64 (1000 + k)))) := (Kp.refl _ _).setCell _ _ (Or.inl (by simp))
        generalize wr.setCell ⟨g, 1, none⟩ (Value.int IntKind.i64 (1000 + k)) = W1 at *
        have hgm : Hid (g ≠ m ∧ g ≠ r ∧ g ≠ s ∧ g ≠ w.heap.size) := by
          have h1 := hLm.out
          have h2 := GG.out
          show _ ∧ _
          omega
        have A1 : Hid (W1.heap[w.heap.size]? = some (.cells (acC a vL).toArray 42)) := K2.out.row HAct.out (by simpa using Ne.symm hgm.out.2.2.2)
        have S1 := hid (HSt.out.kp K2.out (by simpa using Ne.symm hgm.out.2.2.1) (by simpa using Ne.symm hgm.out.1))
        have F1 : Hid (RfAt W1 r v' (manyD L (cutB a.b) k)) := HRf'.out.1.kp K2.out (by simpa using Ne.symm hgm.out.2.1) (fun q hq => by
          have h1 := HRf'.out.2 q hq
          simpa using h1)
        have hM : Hid (manyD L (cutB a.b) (k + 1) = putD (manyD L (cutB a.b) k) (numB (cutB a.b) (1000 + k))) := rfl
        have hBw : (numB (cutB a.b) (1000 + k)).Wf := hwf
        have hg1 : Hid (g < W1.heap.size) := row_lt R2.out
        have HK1 : Hid (Kp [m, r] w W1) := ⟨K2.out.os.trans HK.out.os, K2.out.tape.trans HK.out.tape, K2.out.output.trans HK.out.output, Nat.le_trans HK.out.size K2.out.size, fun q hq hx => (K2.out.block q (Nat.lt_of_lt_of_le hq HK.out.size) (by have := GG.out; simp; omega)).trans (HK.out.block q hq hx)⟩
        generalize hBB : numB (cutB a.b) (1000 + k) = B at *
        have HBB := hid hBB
        clear hBB
        have ZB := hid (sizeOf_blo hBw)
        generalize manyD L (cutB a.b) k = M at *
        generalize hE : putE M B = E at *
        generalize hD : putD M B = D at *
        have hgx : Hid (g ∉ [m, r]) := by show _ ∉ _; simp; exact ⟨hgm.out.1, hgm.out.2.1⟩
        refine wp_region_two (N := 115) 2 5 [ptr s 0, .agg (bloC B).toArray, nu E, ptr r 0, .agg (bloC B).toArray, nu E, .bool false]
          (fun W => W.heap[g]? = some (.cells (bloC B).toArray 33)) (fun W => Kp [m, r] W1 W ∧ StAt W s m M ∧ RfAt W r v' M) (fun W => Kp [m, r] W1 W ∧ StAt W s m D ∧ RfAt W r v' M) (fun W => Kp [m, r] W1 W ∧ StAt W s m D ∧ ∃ v2, RfAt W r v2 D ∧ ∀ q, v2.ownBlock = some q → q ≠ g)
          (by kernel_rfl) (by kernel_rfl) rfl (fun o ho => by cases ho; kernel_rfl) (by decide) (fun w1 hb => ⟨Kp.of hb, S1.out.kept hb, F1.out.kept hb⟩) (fun W hW => hW.1.row R2.out hgx.out) (fun W hW => hW.1.row R2.out hgx.out) (fun W hW => hW.1.row R2.out hgx.out) ?_ ?_ ?_ (by decide) ?_
        · intro i o p1 p2 ho
          match i, ho with
          | 0, ho => cases ho; exact fun a W hR hk hc K h => op_move 0 _ rfl (hk 0 (by kernel_rfl)) h
          | 1, ho => cases ho; exact fun a W hR hk hc K h => op_load _ (.tmp 11) rfl g 0 (hk 11 (by kernel_rfl)) (bloC B) _ (brow_all hR) Try.underlying33 rfl ZB.out h
          | 3, ho => cases ho; exact fun a W hR hk hc K h => op_move 1 _ rfl (hk 1 (by kernel_rfl)) h
          | 4, ho => cases ho; exact fun a W hR hk hc K h => op_load _ (.tmp 11) rfl g 0 (hk 11 (by kernel_rfl)) (bloC B) _ (brow_all hR) Try.underlying33 rfl ZB.out h
          | 6, ho => cases ho; exact fun a W hR hk hc K h => op_neqI 101 104 _ _ E E rfl (hc 2 101 (by kernel_rfl) (by kernel_rfl)) (hc 5 104 (by kernel_rfl) (by kernel_rfl)) (by rw [beq_self_eq_true]; exact h)
          | 2, ho => exact absurd rfl p1
          | 5, ho => exact absurd rfl p2
          | (i + 7), ho => exact absurd ho (by simp)
        · intro o ho a' W hJ hk hc K h
          cases ho
          refine op_call 11 [.tmp 99, .tmp 100] _ #[ptr s 0, .agg (bloC B).toArray] _ rfl call_put ?_ ((put_any hJ.2.1 B hBw).mono ?_) h
          · have e1 : a'.eval (.tmp 99) = ptr s 0 := hc 0 99 (by kernel_rfl) (by kernel_rfl)
            have e2 : a'.eval (.tmp 100) = .agg (bloC B).toArray := hc 1 100 (by kernel_rfl) (by kernel_rfl)
            simp only [List.map_cons, List.map_nil, e1, e2]
          · rintro e W' ⟨rfl, q1, q2⟩
            rw [hD] at q1
            exact ⟨by rw [hE]; rfl, hJ.1.trans (kp_m q2), q1, rf_km hJ.2.1 hJ.2.2 q2⟩
        · intro o ho a' W hJ hk hc K h
          cases ho
          refine op_call 28 [.tmp 102, .tmp 103] _ #[ptr r 0, .agg (bloC B).toArray] _ rfl call_rput ?_ ((rput_fr hJ.2.2 B hBw).mono ?_) h
          · have e1 : a'.eval (.tmp 102) = ptr r 0 := hc 3 102 (by kernel_rfl) (by kernel_rfl)
            have e2 : a'.eval (.tmp 103) = .agg (bloC B).toArray := hc 4 103 (by kernel_rfl) (by kernel_rfl)
            simp only [List.map_cons, List.map_nil, e1, e2]
          · rintro e W' ⟨rfl, ⟨v2, q1, qf⟩, q2⟩
            rw [hD] at q1
            refine ⟨by rw [hE]; rfl, hJ.1.trans (kp_r q2), st_kr hJ.2.1 hJ.2.2 q2, v2, q1, fun q hq => ?_⟩
            rcases qf q hq with h1 | h1
            · exact HRf'.out.2 q h1
            · have h2 := hJ.1.size
              have h3 := hg1.out
              omega
        · intro a' W hJ hs hd hk hc
          have e := frame_of hs hk hc
          obtain ⟨tm, df⟩ := a'
          obtain rfl : df = [] := hd
          have hA : tm = #[ptr s 0, ptr r 0, Value.agg (acC a vL).toArray, undef, undef, Value.pointer (some ⟨w.heap.size, 0, none⟩), u6, undef, undef, undef, undef, ptr g 0, nu k, Value.pointer (some ⟨w.heap.size, 0, none⟩), nu a.kind, Value.bool false, Value.bool false, undef, undef, undef, undef, undef, undef, undef, undef, undef, undef, undef, undef, undef, undef, undef, undef, undef, undef, Value.bool false, Value.bool false, undef, undef, undef, undef, undef, undef, undef, undef, undef, undef, undef, undef, undef, undef, undef, undef, undef, undef, undef, undef, undef, undef, undef, undef, undef, undef, undef, undef, undef, undef, undef, undef, undef, undef, undef, undef, undef, Value.bool true, Value.bool true, Value.pointer (some ⟨w.heap.size, 3, none⟩), Value.agg (bloC a.b).toArray, Value.pointer (some ⟨g, 2, none⟩), st a.b.cipher, Value.int IntKind.i64 a.b.cipher.length, Value.bool true, Value.pointer (some ⟨g, 2, none⟩), st a.b.cipher, Value.string ⟨(List.take 400 a.b.cipher).toArray⟩, Value.pointer (some ⟨g, 2, none⟩), nu k, Value.pointer (some ⟨w.heap.size, 2, none⟩), nu a.number, Value.bool true, Value.bool true, nu k, Value.bool true, Value.bool true, u94, u95, nu k, Value.int IntKind.i64 (1000 + k), Value.pointer (some ⟨g, 1, none⟩), ptr s 0, Value.agg (bloC B).toArray, nu E, ptr r 0, Value.agg (bloC B).toArray, nu E, Value.bool false, undef, undef, undef, undef, undef, undef, undef, undef, undef] := e.trans (by kernel_rfl)
          clear e hk hc hs
          subst hA
          obtain ⟨j1, j2, v2, j3, j4⟩ := hJ
          have J1 := hid j1
          have J2 := hid j2
          have J3 := hid j3
          have J4 := hid j4
          clear j1 j2 j3 j4
          go_wp2
          go_roundw
          case rel => exact ⟨k + 1, 1000 + k, hk1.out, by go_num, hid (by rw [HBB.out]; exact J1.out.row R2.out hgx.out), J1.out.row A1.out G0.out, hid (by rw [hM.out]; exact J2.out), hid ⟨v2, by rw [hM.out]; exact J3.out, J4.out⟩, HK1.out.trans J1.out⟩
          case measure => have := hk1.out; simp [intOf]; omega
      · have HJ := hid (hmb.2.2 hc)
        by_cases hc1 : (k : Int) < a.number
        · have n1 : decide ((k : Int) < a.number) = true := decide_eq_true hc1
          have n2 : decide ((k : Int) < 90) = false := decide_eq_false (fun h => hc ⟨hc1, h⟩)
          clear hmb hc hc1
          go_wp2
          go_ret
          rw [← HJ.out]
          exact ⟨rfl, HSt.out, (by obtain ⟨v', h1, -⟩ := HRf.out; exact ⟨v', h1⟩), HK.out⟩
        · have n1 : decide ((k : Int) < a.number) = false := decide_eq_false hc1
          clear hmb hc hc1
          go_wp2
          go_ret
          rw [← HJ.out]
          exact ⟨rfl, HSt.out, (by obtain ⟨v', h1, -⟩ := HRf.out; exact ⟨v', h1⟩), HK.out⟩
  · have dl : decide ((400 : Int) < (a.b.cipher.length : Int)) = false := decide_eq_false (by omega)
    have ec : cutB a.b = a.b := by
      unfold cutB
      rw [List.take_of_length_le (by omega)]
    have RW : Hid (W9.heap[g]? = some (.cells (bloC (numB (cutB a.b) (cutB a.b).number)).toArray 33)) := by
      show _ = _
      rw [ec]
      exact R9.out
    have AW := A9
    have SW : Hid (StAt W9 s m (manyD L (cutB a.b) 0)) := H9.out
    have FW : Hid (RfAt W9 r v (manyD L (cutB a.b) 0)) := H9'.out
    have KW := K90
    have VW : Hid (∀ q, v.ownBlock = some q → q ≠ g) := fun q hq => by have := VO.out q hq; have := GG.out; omega
    go_wp2_with fail
    go_loopw [12] (fun i wr => ∃ (k : Nat) (z : Int), k ≤ manyN a.number ∧ i = nu k ∧ Hid (wr.heap[g]? = some (.cells (bloC (numB (cutB a.b) z)).toArray 33)) ∧ Hid (wr.heap[w.heap.size]? = some (.cells (acC a vL).toArray 42)) ∧ Hid (StAt wr s m (manyD L (cutB a.b) k)) ∧ Hid (∃ v', RfAt wr r v' (manyD L (cutB a.b) k) ∧ ∀ q, v'.ownBlock = some q → q ≠ g) ∧ Hid (Kp [m, r] w wr)) (fun i _ => manyN a.number - (intOf i).toNat)
    case atStart => exact ⟨0, (cutB a.b).number, Nat.zero_le _, rfl, RW, AW, SW, ⟨v, FW.out, VW.out⟩, KW⟩
    case round =>
      obtain ⟨k, z, hk, rfl, HRow, HAct, HSt, HRf, HK⟩ := hrel
      have hmb := many_bound a.number k hk
      have q2 := arow_n HAct.out
      by_cases hc : (k : Int) < a.number ∧ (k : Int) < 90
      · have n1 : decide ((k : Int) < a.number) = true := decide_eq_true hc.1
        have n2 : decide ((k : Int) < 90) = true := decide_eq_true hc.2
        have hk1 := hid (hmb.2.1 hc)
        have hk90 := hmb.1
        have q1 := brow_n HRow.out
        have q1f : wr.frozen? ⟨g, 1, none⟩ = false := by simp [World.frozen?, HRow.out]
        clear hmb hc
        go_upto_region 21 with fail
        obtain ⟨v', hRf⟩ := HRf.out
        have HRf' := hid hRf
        clear hRf HRf
        have R2 : Hid ((wr.setCell ⟨g, 1, none⟩ (Value.int IntKind.i64 (1000 + k))).heap[g]? = some (.cells (bloC (numB (cutB a.b) (1000 + k))).toArray 33)) := by
          have e0 : ∀ z, bloC (numB (cutB a.b) z) = [nu (cutB a.b).owner] ++ ([nu z] ++ ([st (cutB a.b).cipher] ++ dg (cutB a.b).tag)) := fun z => by simp [bloC, numB]
          have h0 := HRow.out
          rw [e0] at h0
          show _ = _
          rw [e0]
          exact row_set h0 rfl
        have K2 : Hid (Kp [g] wr (wr.setCell ⟨g, 1, none⟩ (Value.int IntKind.i64 (1000 + k)))) := (Kp.refl _ _).setCell _ _ (Or.inl (by simp))
        generalize wr.setCell ⟨g, 1, none⟩ (Value.int IntKind.i64 (1000 + k)) = W1 at *
        have hgm : Hid (g ≠ m ∧ g ≠ r ∧ g ≠ s ∧ g ≠ w.heap.size) := by
          have h1 := hLm.out
          have h2 := GG.out
          show _ ∧ _
          omega
        have A1 : Hid (W1.heap[w.heap.size]? = some (.cells (acC a vL).toArray 42)) := K2.out.row HAct.out (by simpa using Ne.symm hgm.out.2.2.2)
        have S1 := hid (HSt.out.kp K2.out (by simpa using Ne.symm hgm.out.2.2.1) (by simpa using Ne.symm hgm.out.1))
        have F1 : Hid (RfAt W1 r v' (manyD L (cutB a.b) k)) := HRf'.out.1.kp K2.out (by simpa using Ne.symm hgm.out.2.1) (fun q hq => by
          have h1 := HRf'.out.2 q hq
          simpa using h1)
        have hM : Hid (manyD L (cutB a.b) (k + 1) = putD (manyD L (cutB a.b) k) (numB (cutB a.b) (1000 + k))) := rfl
        have hBw : (numB (cutB a.b) (1000 + k)).Wf := hwf
        have hg1 : Hid (g < W1.heap.size) := row_lt R2.out
        have HK1 : Hid (Kp [m, r] w W1) := ⟨K2.out.os.trans HK.out.os, K2.out.tape.trans HK.out.tape, K2.out.output.trans HK.out.output, Nat.le_trans HK.out.size K2.out.size, fun q hq hx => (K2.out.block q (Nat.lt_of_lt_of_le hq HK.out.size) (by have := GG.out; simp; omega)).trans (HK.out.block q hq hx)⟩
        generalize hBB : numB (cutB a.b) (1000 + k) = B at *
        have HBB := hid hBB
        clear hBB
        have ZB := hid (sizeOf_blo hBw)
        generalize manyD L (cutB a.b) k = M at *
        generalize hE : putE M B = E at *
        generalize hD : putD M B = D at *
        have hgx : Hid (g ∉ [m, r]) := by show _ ∉ _; simp; exact ⟨hgm.out.1, hgm.out.2.1⟩
        refine wp_region_two (N := 115) 2 5 [ptr s 0, .agg (bloC B).toArray, nu E, ptr r 0, .agg (bloC B).toArray, nu E, .bool false]
          (fun W => W.heap[g]? = some (.cells (bloC B).toArray 33)) (fun W => Kp [m, r] W1 W ∧ StAt W s m M ∧ RfAt W r v' M) (fun W => Kp [m, r] W1 W ∧ StAt W s m D ∧ RfAt W r v' M) (fun W => Kp [m, r] W1 W ∧ StAt W s m D ∧ ∃ v2, RfAt W r v2 D ∧ ∀ q, v2.ownBlock = some q → q ≠ g)
          (by kernel_rfl) (by kernel_rfl) rfl (fun o ho => by cases ho; kernel_rfl) (by decide) (fun w1 hb => ⟨Kp.of hb, S1.out.kept hb, F1.out.kept hb⟩) (fun W hW => hW.1.row R2.out hgx.out) (fun W hW => hW.1.row R2.out hgx.out) (fun W hW => hW.1.row R2.out hgx.out) ?_ ?_ ?_ (by decide) ?_
        · intro i o p1 p2 ho
          match i, ho with
          | 0, ho => cases ho; exact fun a W hR hk hc K h => op_move 0 _ rfl (hk 0 (by kernel_rfl)) h
          | 1, ho => cases ho; exact fun a W hR hk hc K h => op_load _ (.tmp 11) rfl g 0 (hk 11 (by kernel_rfl)) (bloC B) _ (brow_all hR) Try.underlying33 rfl ZB.out h
          | 3, ho => cases ho; exact fun a W hR hk hc K h => op_move 1 _ rfl (hk 1 (by kernel_rfl)) h
          | 4, ho => cases ho; exact fun a W hR hk hc K h => op_load _ (.tmp 11) rfl g 0 (hk 11 (by kernel_rfl)) (bloC B) _ (brow_all hR) Try.underlying33 rfl ZB.out h
          | 6, ho => cases ho; exact fun a W hR hk hc K h => op_neqI 101 104 _ _ E E rfl (hc 2 101 (by kernel_rfl) (by kernel_rfl)) (hc 5 104 (by kernel_rfl) (by kernel_rfl)) (by rw [beq_self_eq_true]; exact h)
          | 2, ho => exact absurd rfl p1
          | 5, ho => exact absurd rfl p2
          | (i + 7), ho => exact absurd ho (by simp)
        · intro o ho a' W hJ hk hc K h
          cases ho
          refine op_call 11 [.tmp 99, .tmp 100] _ #[ptr s 0, .agg (bloC B).toArray] _ rfl call_put ?_ ((put_any hJ.2.1 B hBw).mono ?_) h
          · have e1 : a'.eval (.tmp 99) = ptr s 0 := hc 0 99 (by kernel_rfl) (by kernel_rfl)
            have e2 : a'.eval (.tmp 100) = .agg (bloC B).toArray := hc 1 100 (by kernel_rfl) (by kernel_rfl)
            simp only [List.map_cons, List.map_nil, e1, e2]
          · rintro e W' ⟨rfl, q1, q2⟩
            rw [hD] at q1
            exact ⟨by rw [hE]; rfl, hJ.1.trans (kp_m q2), q1, rf_km hJ.2.1 hJ.2.2 q2⟩
        · intro o ho a' W hJ hk hc K h
          cases ho
          refine op_call 28 [.tmp 102, .tmp 103] _ #[ptr r 0, .agg (bloC B).toArray] _ rfl call_rput ?_ ((rput_fr hJ.2.2 B hBw).mono ?_) h
          · have e1 : a'.eval (.tmp 102) = ptr r 0 := hc 3 102 (by kernel_rfl) (by kernel_rfl)
            have e2 : a'.eval (.tmp 103) = .agg (bloC B).toArray := hc 4 103 (by kernel_rfl) (by kernel_rfl)
            simp only [List.map_cons, List.map_nil, e1, e2]
          · rintro e W' ⟨rfl, ⟨v2, q1, qf⟩, q2⟩
            rw [hD] at q1
            refine ⟨by rw [hE]; rfl, hJ.1.trans (kp_r q2), st_kr hJ.2.1 hJ.2.2 q2, v2, q1, fun q hq => ?_⟩
            rcases qf q hq with h1 | h1
            · exact HRf'.out.2 q h1
            · have h2 := hJ.1.size
              have h3 := hg1.out
              omega
        · intro a' W hJ hs hd hk hc
          have e := frame_of hs hk hc
          obtain ⟨tm, df⟩ := a'
          obtain rfl : df = [] := hd
          have hA : tm = #[ptr s 0, ptr r 0, Value.agg (acC a vL).toArray, undef, undef, Value.pointer (some ⟨w.heap.size, 0, none⟩), u6, undef, undef, undef, undef, ptr g 0, nu k, Value.pointer (some ⟨w.heap.size, 0, none⟩), nu a.kind, Value.bool false, Value.bool false, undef, undef, undef, undef, undef, undef, undef, undef, undef, undef, undef, undef, undef, undef, undef, undef, undef, undef, Value.bool false, Value.bool false, undef, undef, undef, undef, undef, undef, undef, undef, undef, undef, undef, undef, undef, undef, undef, undef, undef, undef, undef, undef, undef, undef, undef, undef, undef, undef, undef, undef, undef, undef, undef, undef, undef, undef, undef, undef, undef, Value.bool true, Value.bool true, Value.pointer (some ⟨w.heap.size, 3, none⟩), Value.agg (bloC a.b).toArray, Value.pointer (some ⟨g, 2, none⟩), st a.b.cipher, Value.int IntKind.i64 a.b.cipher.length, Value.bool false, undef, undef, undef, undef, nu k, Value.pointer (some ⟨w.heap.size, 2, none⟩), nu a.number, Value.bool true, Value.bool true, nu k, Value.bool true, Value.bool true, u94, u95, nu k, Value.int IntKind.i64 (1000 + k), Value.pointer (some ⟨g, 1, none⟩), ptr s 0, Value.agg (bloC B).toArray, nu E, ptr r 0, Value.agg (bloC B).toArray, nu E, Value.bool false, undef, undef, undef, undef, undef, undef, undef, undef, undef] := e.trans (by kernel_rfl)
          clear e hk hc hs
          subst hA
          obtain ⟨j1, j2, v2, j3, j4⟩ := hJ
          have J1 := hid j1
          have J2 := hid j2
          have J3 := hid j3
          have J4 := hid j4
          clear j1 j2 j3 j4
          go_wp2
          go_roundw
          case rel => exact ⟨k + 1, 1000 + k, hk1.out, by go_num, hid (by rw [HBB.out]; exact J1.out.row R2.out hgx.out), J1.out.row A1.out G0.out, hid (by rw [hM.out]; exact J2.out), hid ⟨v2, by rw [hM.out]; exact J3.out, J4.out⟩, HK1.out.trans J1.out⟩
          case measure => have := hk1.out; simp [intOf]; omega
      · have HJ := hid (hmb.2.2 hc)
        by_cases hc1 : (k : Int) < a.number
        · have n1 : decide ((k : Int) < a.number) = true := decide_eq_true hc1
          have n2 : decide ((k : Int) < 90) = false := decide_eq_false (fun h => hc ⟨hc1, h⟩)
          clear hmb hc hc1
          go_wp2
          go_ret
          rw [← HJ.out]
          exact ⟨rfl, HSt.out, (by obtain ⟨v', h1, -⟩ := HRf.out; exact ⟨v', h1⟩), HK.out⟩
        · have n1 : decide ((k : Int) < a.number) = false := decide_eq_false hc1
          clear hmb hc hc1
          go_wp2
          go_ret
          rw [← HJ.out]
          exact ⟨rfl, HSt.out, (by obtain ⟨v', h1, -⟩ := HRf.out; exact ⟨v', h1⟩), HK.out⟩

theorem do_any {w : World} {s m r : Nat} {v : Value} {L : List Blo} (h : StAt w s m L) (h' : RfAt w r v L) (a : Ac) (ha : a.Ok) (vL : Value) (hv : IntsC w vL a.l) : Calls Try.prog 14 #[ptr s 0, ptr r 0, .agg (acC a vL).toArray] w fun e w' =>
    e = .returned (.bool true) ∧ StAt w' s m (doD L a) ∧ (∃ v', RfAt w' r v' (doD L a)) ∧ Kp [m, r] w w' := by
  unfold doD
  by_cases h3 : a.kind = 3
  · rw [if_pos h3]
    exact do_prune h h' a ha vL hv h3
  · rw [if_neg h3]
    by_cases h4 : a.kind = 4
    · rw [if_pos h4]
      refine (do_get h h' a ha vL h4).mono ?_
      rintro e w' ⟨rfl, hb⟩
      exact ⟨rfl, h.kept hb, ⟨v, h'.kept hb⟩, Kp.of hb⟩
    · rw [if_neg h4]
      by_cases h5 : a.kind = 5
      · rw [if_pos h5]
        exact do_many h h' a ha vL h5
      · rw [if_neg h5]
        exact do_put h h' a ha vL h3 h4 h5
end Go.Proofs.Ytjpclmkkccffhaa.Bl
