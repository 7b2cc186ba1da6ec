/-
  What the reference's Crash does.
-/
import Derived.Test.YtnhnjdldgaaeoaaGreatDoorRne
import Derived.BigRegion
namespace Go.Proofs.YtnhnjdldgaaeoaaGreatDoor
open Go Go.RowKit
set_option maxRecDepth 100000

theorem IntsAt.far {w w' : World} {v : Value} {ks : List Int} (h : IntsAt w v ks) (hv : ks ≠ [] → ∀ b, v.ownBlock = some b → w'.heap[b]? = w.heap[b]?) : IntsAt w' v ks := by
  obtain ⟨ao, cap, rfl, hl, hk⟩ := h
  refine ⟨ao, cap, rfl, hl, fun hne => ?_⟩
  obtain ⟨b, off, rfl, hc⟩ := hk hne
  refine ⟨b, off, rfl, fun j x hj => ?_⟩
  rw [← hc j x hj]
  simp only [World.cell?, hv hne b rfl]
/-- A sector of the reference's disk is torn. -/
theorem RefAt.torn {w : World} {r : Rx} {D : Dk} (h : RefAt w r D) (i : Nat) (hi : i < D.S.length) (o : List UInt8) (ho : D.S[i].old = some o) (k : Nat) (hk : k ≤ 64) :
    RefAt ((w.setCell ⟨r.gL, i, none⟩ (.string ⟨(D.S[i].now.take k ++ o.drop k).toArray⟩)).setCell ⟨r.gO, i, none⟩ (.string ⟨#[]⟩)) r ⟨D.S.set i (tornS D.S[i] k), D.armed, D.down⟩ := by
  have hs := h.ok _ (List.getElem_mem hi)
  have hol : o.length = 64 := by have := hs.2; rw [oldB, ho] at this; exact this
  have h1 := h.setL i hi (D.S[i].now.take k ++ o.drop k) (by have := hs.1; simp; omega)
  have h2 := h1.setO i (by simpa using hi) [] none rfl zer_len
  simp only [List.set_set, List.getElem_set_self] at h2
  have e : tornS D.S[i] k = ⟨D.S[i].now.take k ++ o.drop k, none⟩ := by simp [tornS, oldB, ho]
  rw [e]
  exact h2

set_option maxHeartbeats 4000000 in
theorem rcrash_any {w : World} {r : Rx} {D : Dk} (h : RefAt w r D) (v : Value) (ks : List Int) (hk : IntsAt w v ks) (hv : ks ≠ [] → ∀ b, v.ownBlock = some b → b ≠ r.gL ∧ b ≠ r.gO) :
    Calls Tryz.prog 14 #[.pointer (some ⟨r.x, 0, none⟩), v] w fun e w' => e = .returned (.tuple #[]) ∧ RefAt w' r (crashD D ks) ∧ Kp [r.x, r.gL, r.gO] w w' := by
  have H := hid h
  have HLo := hid (rloose_any h)
  have hV := hid hv
  have hlL := row_lt h.L
  have hlO := row_lt h.O
  have hlenS := h.len.2
  obtain ⟨S, ar, dn⟩ := D
  simp only at *
  have HKs := hid hk
  clear h hv
  obtain ⟨kao, kcap, rfl, -⟩ := hk
  obtain ⟨Lo, hLo⟩ : ∃ L, L = looseN S := ⟨_, rfl⟩
  rw [← hLo] at HLo
  have HLe := hid hLo
  have hLl : Lo.length ≤ 512 := by rw [hLo]; exact Nat.le_trans (loIdx_len 0 S) hlenS
  clear hLo
  go_enter Tryz.func14, Tryz.ntmps14
  go_wp2_with (go_at_call 34; refine HLo.out.mono ?_; rintro e w1 ⟨lv, rfl, hrow, hb⟩; obtain ⟨lao, lcap, hlv⟩ := own_form hrow; subst hlv; have HL1 := hid (ints_of_own hrow); have HLB := hid (own_ge hrow); have HB1 := hid hb; clear hrow hb)
  have hI0 : Hid (∃ S', RefAt w1 r ⟨S', ar, dn⟩ ∧ tearAll S' (ks.drop 0) = tearAll S ks ∧ loIdx 0 S' = Lo.drop 0 ∧ IntsAt w1 (.slice kao ks.length kcap) ks ∧ IntsAt w1 (.slice lao Lo.length lcap) (castL Lo)) :=
    ⟨S, H.out.below HB1.out, by simp, by rw [HLe.out]; rfl, HKs.out.kept HB1.out, HL1.out⟩
  go_loopw [5] (fun i w' => ∃ j : Nat, j ≤ Lo.length ∧ i = .int .i64 j ∧ Hid (∃ S', RefAt w' r ⟨S', ar, dn⟩ ∧ tearAll S' (ks.drop j) = tearAll S ks ∧ loIdx 0 S' = Lo.drop j ∧ IntsAt w' (.slice kao ks.length kcap) ks ∧ IntsAt w' (.slice lao Lo.length lcap) (castL Lo)) ∧ Hid (Kp [r.x, r.gL, r.gO] w w')) (fun i _ => Lo.length - (intOf i).toNat)
  case atStart => exact ⟨0, by omega, rfl, hI0, Kp.of HB1.out⟩
  case round =>
    clear hI0 HLo
    obtain ⟨j, hj, rfl, HR, HK⟩ := hrel
    obtain ⟨S', hra, hte, hlo, hik, hil⟩ := HR.out
    have HRA := hid hra
    by_cases hlt : j < Lo.length
    · have d1 : decide ((j : Int) < (Lo.length : Int)) = true := by simpa using hlt
      have d2 : decide (j < Lo.length) = true := by simpa using hlt
      have hlj : loIdx 0 S' = Lo[j] :: Lo.drop (j + 1) := by rw [hlo, List.getElem_cons_drop]
      obtain ⟨i, o, hi0, hi, hold, ht1, ht2⟩ := tear_step hlj (ks.drop j)
      rw [Nat.zero_add] at hi0
      have hsk := hra.ok _ (List.getElem_mem (show i < S'.length from hi))
      have hol : o.length = 64 := by have h9 := hsk.2; simp only [oldB, hold] at h9; exact h9
      have hnl : S'[i].now.length = 64 := hsk.1
      obtain ⟨kk, hkk0⟩ : ∃ k, k = nextK (ks.drop j) := ⟨_, rfl⟩
      have HKK := hid hkk0
      have hk64 : kk ≤ 64 := by rw [hkk0]; exact nextK_le _
      rw [← hkk0] at ht1 ht2
      have HT := hid (hra.torn i hi o hold kk hk64)
      have hx0 := hra.c0
      have hx1 := hra.c1
      have hgL := hra.now i hi
      have hgO := hra.old i hi
      have hfL := hra.fzL i
      have hfO := hra.fzO i
      have hne3 : (r.gL = r.x) = False := eq_false hra.neL
      have hne4 : (r.x = r.gL) = False := eq_false (Ne.symm hra.neL)
      have hne5 : (r.gO = r.x) = False := eq_false hra.neO
      have hne6 : (r.x = r.gO) = False := eq_false (Ne.symm hra.neO)
      have hne1 : (r.gL = r.gO) = False := eq_false hra.ne
      have hne2 : (r.gO = r.gL) = False := eq_false (Ne.symm hra.ne)
      have hoT : oldT S'[i] = o := by simp [oldT, hold]
      rw [hoT] at hgO
      unfold tx at hgL hgO
      have HIL := hid hil
      obtain ⟨lcao, lccap, hlv, -, hlne⟩ := hil
      injection hlv with e1 e2 e3
      clear e2 e3
      obtain ⟨lb, lof, hle, hlc⟩ := hlne (by intro e; have := congrArg List.length e; rw [castL_len, List.length_nil] at this; omega)
      subst e1
      subst hle
      have hlcell : wr.cell? ⟨lb, lof + j, none⟩ = some (.int .i64 (i : Int)) := hlc j i (by rw [castL, List.getElem?_map, List.getElem?_eq_getElem hlt, hi0]; rfl)
      have di : decide ((i : Int) < (S'.length : Int)) = true := by simpa using hi
      obtain ⟨S2, hS2⟩ : ∃ S2, S2 = S'.set i (tornS S'[i] kk) := ⟨_, rfl⟩
      simp only at HT
      rw [← hS2] at HT ht1 ht2
      have hte2 : Hid (tearAll S2 (ks.drop (j + 1)) = tearAll S ks) := by
        show _ = _
        rw [← hte, ← ht1, List.tail_drop]
      have hlo2 := hid ht2
      simp only at hx0 hx1
      obtain ⟨nw, hnw⟩ : ∃ n, n = S'[i].now := ⟨_, rfl⟩
      simp only at hgL
      rw [← hnw] at hgL HT hnl
      obtain ⟨m, hm⟩ : ∃ m, m = S'.length := ⟨_, rfl⟩
      rw [← hm] at hx0 hx1 di
      have him : i < m := by rw [hm]; exact hi
      have HADD : Hid (∀ W, (Op.stringOp .add ⟨(nw.take kk).toArray⟩ ⟨(o.drop kk).toArray⟩).run Tryz.prog W = .ok (.string ⟨(nw.take kk ++ o.drop kk).toArray⟩) W) := fun W => by
        have hh := run_string_add_sum (P := Tryz.prog) W ⟨(nw.take kk).toArray⟩ ⟨(o.drop kk).toArray⟩ (by show (nw.take kk).length + (o.drop kk).length ≤ _; simp; omega)
        have happ : (⟨(nw.take kk).toArray⟩ : ByteArray) ++ (⟨(o.drop kk).toArray⟩ : ByteArray) = ⟨(nw.take kk ++ o.drop kk).toArray⟩ := ByteArray.mk_append_mk _ _
        rw [happ] at hh
        exact hh
      have hxt : (⟨nw.toArray⟩ : ByteArray).extract 0 kk = ⟨(nw.take kk).toArray⟩ := ext_take _ _
      have hxd : (⟨o.toArray⟩ : ByteArray).extract kk 64 = ⟨(o.drop kk).toArray⟩ := ext_drop _ _ _ hol.symm
      have hsz1 : (⟨nw.toArray⟩ : ByteArray).size = 64 := hnl
      have hsz2 : (⟨o.toArray⟩ : ByteArray).size = 64 := hol
      have hk64' : (kk : Int) ≤ 64 := by omega
      have HKs2 := hid hik
      have HV2 : Hid (∀ W, (∀ b, b ≠ r.gL → b ≠ r.gO → W.heap[b]? = wr.heap[b]?) → IntsAt W (.slice kao ks.length kcap) ks ∧ IntsAt W (.slice (some ⟨lb, lof, none⟩) Lo.length lcap) (castL Lo)) := by
        intro W hW
        refine ⟨HKs2.out.far fun hne b hb => hW b (hV.out hne b hb).1 (hV.out hne b hb).2, HIL.out.far fun _ b hb => ?_⟩
        have h9 := HLB.out b hb
        exact hW b (by omega) (by omega)
      have FIN : Hid (∀ W', W'.heap = ((wr.setCell ⟨r.gL, i, none⟩ (.string ⟨(nw.take kk ++ o.drop kk).toArray⟩)).setCell ⟨r.gO, i, none⟩ (.string ⟨#[]⟩)).heap → W'.os = wr.os → W'.tape = wr.tape → W'.output = wr.output →
          (∃ S', RefAt W' r ⟨S', ar, dn⟩ ∧ tearAll S' (ks.drop (j + 1)) = tearAll S ks ∧ loIdx 0 S' = Lo.drop (j + 1) ∧ IntsAt W' (.slice kao ks.length kcap) ks ∧ IntsAt W' (.slice (some ⟨lb, lof, none⟩) Lo.length lcap) (castL Lo)) ∧ Kp [r.x, r.gL, r.gO] w W') := by
        intro W' e1 e2 e3 e4
        have hk1 : Kp [r.x, r.gL, r.gO] w ((wr.setCell ⟨r.gL, i, none⟩ (.string ⟨(nw.take kk ++ o.drop kk).toArray⟩)).setCell ⟨r.gO, i, none⟩ (.string ⟨#[]⟩)) := (HK.out.setCell _ _ (by simp)).setCell _ _ (by simp)
        have hk2 : Kp [r.x, r.gL, r.gO] w W' := ⟨e2.trans HK.out.os, e3.trans HK.out.tape, e4.trans HK.out.output, by rw [e1]; exact hk1.size, fun k hk hx => by rw [e1]; exact hk1.block k hk hx⟩
        have h9 := HT.out
        have h8 : RefAt W' r ⟨S2, ar, dn⟩ := ⟨by rw [e1]; exact h9.obj, by rw [e1]; exact h9.L, by rw [e1]; exact h9.O, h9.ne, h9.ok, h9.len, h9.arm⟩
        have h7 := HV2.out W' (fun b hb1 hb2 => by rw [e1, heap_setCell_other _ _ _ _ hb2, heap_setCell_other _ _ _ _ hb1])
        exact ⟨⟨S2, h8, hte2.out, hlo2.out, h7.1, h7.2⟩, hk2⟩
      clear hra HR hsk hol hnl hoT hold hte hlo hlj hkk0 hS2 ht1 ht2 hnw hm hi hi0 HRA hlc hlne HT hte2 hlo2 HV2 HIL HK
      by_cases hjk : j < ks.length
      · have d5 : decide (j < ks.length) = true := by simpa using hjk
        have d6 : decide ((j : Int) < (ks.length : Int)) = true := by simpa using hjk
        obtain ⟨q, hq⟩ : ∃ q, q = ks[j] := ⟨_, rfl⟩
        have hdr : ks.drop j = q :: ks.drop (j + 1) := by rw [hq, List.getElem_cons_drop]
        obtain ⟨kao', kcap', hkv, -, hkne⟩ := hik
        injection hkv with e1 e2 e3
        clear e2 e3
        obtain ⟨kb, kof, hke, hkc⟩ := hkne (by intro e; have := congrArg List.length e; rw [List.length_nil] at this; omega)
        subst e1
        subst hke
        have hkcell : wr.cell? ⟨kb, kof + j, none⟩ = some (.int .i64 q) := hkc j q (by rw [List.getElem?_eq_getElem hjk, hq])
        clear hkc hkne hq
        by_cases hpos : 0 < q
        · have d7 : decide (0 < q) = true := by simpa using hpos
          have hkk : q % 65 = (kk : Int) := by
            have h0 : ¬ q < 0 := by omega
            have h9 := Int.emod_nonneg q (show (65 : Int) ≠ 0 by decide)
            have h8 : kk = (q % 65).toNat := by rw [HKK.out, hdr, nextK, if_neg h0]
            omega
          have hq0 : 0 ≤ q := by omega
          have hadd := HADD.out
          clear HKK hdr HADD
          go_wp2_with fail
          go_region
          go_wp2
          go_roundw
          case rel => refine ⟨j + 1, by omega, by go_num, (FIN.out _ ?_ ?_ ?_ ?_).1, (FIN.out _ ?_ ?_ ?_ ?_).2⟩ <;> rfl
          case measure => simp [intOf]; omega
        · have d7 : decide (0 < q) = false := by simpa using hpos
          have hkk : kk = 0 := by
            rw [HKK.out, hdr, nextK]
            by_cases h0 : q < 0
            · rw [if_pos h0]
            · rw [if_neg h0, show q = 0 by omega]; rfl
          clear HKK hdr
          subst hkk
          have hadd := HADD.out
          clear HADD
          simp only [List.take_zero, List.nil_append, List.drop_zero] at FIN
          go_wp2_with fail
          go_region
          go_wp2
          go_roundw
          case rel => refine ⟨j + 1, by omega, by go_num, (FIN.out _ ?_ ?_ ?_ ?_).1, (FIN.out _ ?_ ?_ ?_ ?_).2⟩ <;> rfl
          case measure => simp [intOf]; omega
      · have d5 : decide (j < ks.length) = false := by simpa using hjk
        have d6 : decide ((j : Int) < (ks.length : Int)) = false := by simpa using hjk
        have hkk : kk = 0 := by rw [HKK.out, List.drop_eq_nil_of_le (by omega)]; rfl
        clear HKK hik
        subst hkk
        have hadd := HADD.out
        clear HADD
        simp only [List.take_zero, List.nil_append, List.drop_zero] at FIN
        go_wp2_with fail
        go_region
        go_wp2
        go_roundw
        case rel => refine ⟨j + 1, by omega, by go_num, (FIN.out _ ?_ ?_ ?_ ?_).1, (FIN.out _ ?_ ?_ ?_ ?_).2⟩ <;> rfl
        case measure => simp [intOf]; omega
    · obtain rfl : j = Lo.length := by omega
      have hte2 : S' = tearAll S ks := by
        rw [← hte]
        exact (tearAll_none (by rw [hlo]; simp) _).symm
      rw [hte2] at hra
      have hc2 := hra.c2
      have hc3 := hra.c3
      have hz2 := hra.fz 2
      have hz3 := hra.fz 3
      have HP := hid (hra.put2' 0 false)
      have HTu := hid (hra.turned 0 false (by omega))
      clear hra hte hlo hik hil HR HRA hte2
      go_wp2
      go_end0
      refine ⟨rfl, ?_, (HK.out.setCell _ _ (by simp)).setCell _ _ (by simp)⟩
      show RefAt ((wr.setCell ⟨r.x, 3, none⟩ (.bool false)).setCell ⟨r.x, 2, none⟩ (.int .i64 ((0 : Nat) : Int))) r _
      rw [HP.out]
      exact HTu.out
end Go.Proofs.YtnhnjdldgaaeoaaGreatDoor
