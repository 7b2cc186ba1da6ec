/-
  What the reference's Write does.
-/
import Derived.Test.YtnhnjdldgaaeoaaGreatDoorRdk
import Derived.Deep.RegionHeld3
import Derived.Deep.RegionLaw
import Derived.Deep.RegionWith
import Derived.BigRegion
namespace Go.Proofs.YtnhnjdldgaaeoaaGreatDoor
open Go Go.RowKit
set_option maxRecDepth 100000

section
variable {w w' : World} {r : Rx} {D : Dk}
theorem map_set_at {α β : Type} (f : α → β) (S : List α) (k : Nat) (x : α) : (S.set k x).map f = (S.map f).set k (f x) := by simp [List.map_set]
theorem RefAt.setL (h : RefAt w r D) (k : Nat) (hk : k < D.S.length) (t : List UInt8) (ht : t.length = 64) : RefAt (w.setCell ⟨r.gL, k, none⟩ (.string ⟨t.toArray⟩)) r ⟨D.S.set k ⟨t, D.S[k].old⟩, D.armed, D.down⟩ := by
  have hs := h.ok _ (List.getElem_mem hk)
  refine ⟨?_, ?_, ?_, h.ne, h.ok.set k ⟨ht, hs.2⟩, by simpa using h.len, h.arm⟩
  · rw [heap_setCell_other _ _ _ _ (Ne.symm h.neL), h.obj]; simp
  · rw [setCell_eq_setRow w r.gL k _ 9 (0, 0) _ h.L, setRow_heap _ _ _ _ _ _ h.L]
    congr 2
    simp only [nowL, map_set_at, List.setIfInBounds_toArray]
    rw [List.set_append_left _ _ (by simpa [nowL] using hk)]
    rfl
  · rw [heap_setCell_other _ _ _ _ (Ne.symm h.ne), h.O]
    congr 3
    simp only [oldL, map_set_at]
    congr 1
    rw [show tx (oldT ⟨t, D.S[k].old⟩) = (D.S.map fun s => tx (oldT s))[k]'(by simpa using hk) by simp [oldT]]
    exact (List.set_getElem_self _).symm
theorem RefAt.setO (h : RefAt w r D) (k : Nat) (hk : k < D.S.length) (o : List UInt8) (o' : Option (List UInt8)) (ho : o'.getD [] = o) (hl : (o'.getD zer).length = 64) : RefAt (w.setCell ⟨r.gO, k, none⟩ (.string ⟨o.toArray⟩)) r ⟨D.S.set k ⟨D.S[k].now, o'⟩, D.armed, D.down⟩ := by
  have hs := h.ok _ (List.getElem_mem hk)
  refine ⟨?_, ?_, ?_, h.ne, h.ok.set k ⟨hs.1, hl⟩, by simpa using h.len, h.arm⟩
  · rw [heap_setCell_other _ _ _ _ (Ne.symm h.neO), h.obj]; simp
  · rw [heap_setCell_other _ _ _ _ h.ne, h.L]
    congr 3
    simp only [nowL, map_set_at]
    congr 1
    rw [show tx (⟨D.S[k].now, o'⟩ : Sec).now = (D.S.map fun s => tx s.now)[k]'(by simpa using hk) by simp]
    exact (List.set_getElem_self _).symm
  · rw [setCell_eq_setRow w r.gO k _ 9 (0, 0) _ h.O, setRow_heap _ _ _ _ _ _ h.O]
    congr 2
    simp only [oldL, map_set_at, List.setIfInBounds_toArray]
    rw [List.set_append_left _ _ (by simpa [oldL] using hk)]
    subst ho
    rfl
theorem RefAt.drewN (h : RefAt w r D) (n : Nat) : RefAt (w.drewN n) r D := h.kept (X := []) ((Kp.refl _ w).drewN n) (by simp) (by simp) (by simp)
theorem RefAt.below (h : RefAt w r D) (hb : Below w.heap.size w w') : RefAt w' r D := h.kept (X := []) (Kp.of hb) (by simp) (by simp) (by simp)

/-- The last part of Write: the text, and the count. -/
theorem old_none_T {s : Sec} (h : s.old = none) : oldT s = [] := by simp [oldT, h]

set_option maxHeartbeats 4000000 in
theorem rwrite_any (h : RefAt w r D) (i : Int) (t : List UInt8) : Calls Tryz.prog 38 #[.pointer (some ⟨r.x, 0, none⟩), .int .i64 i, .string ⟨t.toArray⟩] w fun e w' =>
    e = .returned (.int .i64 (writeE D i t)) ∧ RefAt w' r (writeD D i t) ∧ Kp [r.x, r.gL, r.gO] w w' := by
  have H := hid h
  have h0 := h.c0
  have h1 := h.c1
  have h3 := h.c3
  have hts : (⟨t.toArray⟩ : ByteArray).size = t.length := rfl
  unfold writeE writeD
  cases hd : D.down with
  | true =>
    rw [hd] at h3
    clear h
    simp only [if_true]
    go_enter Tryz.func38, Tryz.ntmps38
    go_wp2
    go_ret
    exact ⟨rfl, H.out, Kp.refl _ _⟩
  | false =>
    rw [hd] at h3
    simp only [Bool.false_eq_true, if_false]
    unfold hasB
    by_cases hi : 0 ≤ i
    · have d0 : decide (i < 0) = false := by simp; omega
      by_cases hl : i < (D.S.length : Int)
      · have d1 : decide ((D.S.length : Int) ≤ i) = false := by simp; omega
        rw [show (decide (0 ≤ i) && decide (i < (D.S.length : Int))) = true by simp; omega]
        simp only [if_true]
        by_cases ht : t.length ≤ 64
        · simp only [if_pos ht]
          have d64 : decide ((64 : Int) < (t.length : Int)) = false := by simp; omega
          obtain ⟨k, rfl⟩ : ∃ k : Nat, i = k := ⟨i.toNat, by omega⟩
          have hk : k < D.S.length := by omega
          have d2 : decide ((k : Int) < (D.S.length : Int)) = true := by simpa using hk
          simp only [Int.toNat_natCast]
          have eG : putS D.S k t = D.S.set k (wrS D.S[k] t) := by unfold putS; simp [List.getD, hk]
          rw [eG]
          obtain ⟨S2, hS2⟩ : ∃ S2, S2 = D.S.set k (wrS D.S[k] t) := ⟨_, rfl⟩
          obtain ⟨cD, hcD⟩ : ∃ c, c = (countD D).down := ⟨_, rfl⟩
          rw [← hS2, ← hcD]
          have HS2 := hid hS2
          have HcD := hid hcD
          clear hS2 hcD
          have hcl := h.now k hk
          have hco := h.old k hk
          have hfo := h.fzO k
          have hs := h.ok _ (List.getElem_mem hk)
          clear eG
          cases hold : D.S[k].old with
          | none =>
            rw [old_none_T hold] at hco
            unfold tx at hcl hco
            clear h
            go_enter Tryz.func38, Tryz.ntmps38
            go_wp2
            go_region
            obtain ⟨ON, hON⟩ : ∃ o, o = D.S[k].now := ⟨_, rfl⟩
            have HON : Hid (wrS D.S[k] t = ⟨fillB t, some ON⟩) := by show _ = _; simp [wrS, hold, hON]
            have HD1 : Hid (RefAt ((w.setCell ⟨r.gO, k, none⟩ (.string ⟨D.S[k].now.toArray⟩)).drew) r ⟨D.S.set k ⟨D.S[k].now, some ON⟩, D.armed, false⟩) := by
              have h9 := H.out.setO k hk D.S[k].now (some ON) (by rw [hON]; rfl) (by rw [hON]; exact hs.1)
              rw [hd] at h9
              exact h9.kept (X := []) ((Kp.refl _ _).drew) (by simp) (by simp) (by simp)
            have HK1 : Hid (Kp [r.x, r.gL, r.gO] w ((w.setCell ⟨r.gO, k, none⟩ (.string ⟨D.S[k].now.toArray⟩)).drew)) := ((Kp.refl _ w).setCell _ _ (by simp)).drew
            clear hON H
            go_wp2_with fail
            generalize (w.setCell ⟨r.gO, k, none⟩ (.string ⟨D.S[k].now.toArray⟩)).drew = W1 at *
            have hk1 : k < (D.S.set k ⟨D.S[k].now, some ON⟩).length := by simpa using hk
            have HFw := hid (fun W => rfill_any t ht W)
            have hFl := fillB_len t ht
            have HD2 : Hid (∀ W, Below W1.heap.size W1 W → RefAt (W.setCell ⟨r.gL, k, none⟩ (.string ⟨(fillB t).toArray⟩)) r ⟨S2, D.armed, false⟩) := by
              intro W hb
              rw [HS2.out]
              have h9 := (HD1.out.below hb).setL k hk1 (fillB t) hFl
              simp only [List.set_set, List.getElem_set_self] at h9
              have e9 : wrS D.S[k] t = ⟨fillB t, some ON⟩ := HON.out
              rw [e9]
              exact h9
            have HG : Hid (∀ W, RefAt W r ⟨S2, D.armed, false⟩ → Calls Tryz.prog 59 #[.pointer (some ⟨r.x, 0, none⟩)] W fun e w' => e = .returned (.bool cD) ∧ RefAt w' r (countD ⟨S2, D.armed, false⟩) ∧ Kp [r.x] W w') := by
              intro W hW
              have h9 := goes_any hW rfl
              have h8 : (countD ⟨S2, D.armed, false⟩).down = cD := by have h7 := countD_down D S2; rw [hd] at h7; rw [HcD.out]; exact h7
              rw [h8] at h9
              exact h9
            clear hFl HON hcl hco hfo hs hold h0 h1 h3 hd
            generalize fillB t = F at *
            have HQ : Hid (∀ W, Below W1.heap.size W1 W → W.cell? ⟨r.x, 0, none⟩ = some (.slice (some ⟨r.gL, 0, none⟩) D.S.length r.cL) ∧ W.cell? ⟨r.gL, k, none⟩ = some (tx D.S[k].now) ∧ W.frozen? ⟨r.gL, k, none⟩ = false) := by
              intro W hb
              have h9 := HD1.out.below hb
              have h8 := h9.c0
              have h7 := h9.now k hk1
              simp only [List.getElem_set_self] at h7
              exact ⟨by simpa using h8, h7, h9.fzL k⟩
            obtain ⟨q1, q2, q3⟩ := HQ.out W1 (Below.refl _ _)
            go_region_with (go_at_call 23; refine (HFw.out _).mono ?_; rintro e W2 ⟨rfl, hb⟩; have HBa : Below W1.heap.size W1 W2 := (Below.refl _ _).drew.trans hb; clear hb; obtain ⟨q4, q5, q6⟩ := HQ.out _ HBa)
            all_goals
              have HK2 : Hid (Kp [r.x, r.gL, r.gO] w (W2.setCell ⟨r.gL, k, none⟩ (.string ⟨F.toArray⟩))) := (HK1.out.trans (Kp.of HBa)).setCell _ _ (by simp)
              have HGW := hid (HG.out _ (HD2.out _ HBa))
              clear HQ HD2 HFw HG HK1 HD1 HBa
              generalize W2.setCell ⟨r.gL, k, none⟩ (.string ⟨F.toArray⟩) = W3 at *
              cases cD with
              | true =>
                go_wp2_with (go_at_call 59; refine HGW.out.mono ?_; rintro e W4 ⟨rfl, h4, h5⟩; have H4 := hid h4; have H5 := hid h5; clear h4 h5)
                go_ret
                exact ⟨rfl, H4.out, HK2.out.trans (H5.out.drop (by simp))⟩
              | false =>
                go_wp2_with (go_at_call 59; refine HGW.out.mono ?_; rintro e W4 ⟨rfl, h4, h5⟩; have H4 := hid h4; have H5 := hid h5; clear h4 h5)
                go_ret
                exact ⟨rfl, H4.out, HK2.out.trans (H5.out.drop (by simp))⟩
          | some o =>
            have hoT : oldT D.S[k] = o := by simp [oldT, hold]
            have hol : o.length = 64 := by have h9 := hs.2; simpa [oldB, hold] using h9
            rw [hoT] at hco
            unfold tx at hcl hco
            have hne : o.isEmpty = false := by
              cases o with
              | nil => simp at hol
              | cons a b => rfl
            clear h hoT hol
            go_enter Tryz.func38, Tryz.ntmps38
            go_wp2
            obtain ⟨ON, hON⟩ : ∃ o', o' = o := ⟨_, rfl⟩
            have HON : Hid (wrS D.S[k] t = ⟨fillB t, some ON⟩) := by show _ = _; simp [wrS, hold, hON]
            have HD1 : Hid (RefAt w r ⟨D.S.set k ⟨D.S[k].now, some ON⟩, D.armed, false⟩) := by
              have h9 := H.out
              have e9 : D.S.set k ⟨D.S[k].now, some ON⟩ = D.S := by
                rw [hON, ← hold]
                exact List.set_getElem_self _
              rw [e9, ← hd]
              exact h9
            have HK1 : Hid (Kp [r.x, r.gL, r.gO] w w) := Kp.refl _ w
            clear hON H
            have hk1 : k < (D.S.set k ⟨D.S[k].now, some ON⟩).length := by simpa using hk
            have HFw := hid (fun W => rfill_any t ht W)
            have hFl := fillB_len t ht
            have HD2 : Hid (∀ W, Below w.heap.size w W → RefAt (W.setCell ⟨r.gL, k, none⟩ (.string ⟨(fillB t).toArray⟩)) r ⟨S2, D.armed, false⟩) := by
              intro W hb
              rw [HS2.out]
              have h9 := (HD1.out.below hb).setL k hk1 (fillB t) hFl
              simp only [List.set_set, List.getElem_set_self] at h9
              have e9 : wrS D.S[k] t = ⟨fillB t, some ON⟩ := HON.out
              rw [e9]
              exact h9
            have HG : Hid (∀ W, RefAt W r ⟨S2, D.armed, false⟩ → Calls Tryz.prog 59 #[.pointer (some ⟨r.x, 0, none⟩)] W fun e w' => e = .returned (.bool cD) ∧ RefAt w' r (countD ⟨S2, D.armed, false⟩) ∧ Kp [r.x] W w') := by
              intro W hW
              have h9 := goes_any hW rfl
              have h8 : (countD ⟨S2, D.armed, false⟩).down = cD := by have h7 := countD_down D S2; rw [hd] at h7; rw [HcD.out]; exact h7
              rw [h8] at h9
              exact h9
            clear hne hFl HON hcl hco hfo hs hold h0 h1 h3 hd
            generalize fillB t = F at *
            have HQ : Hid (∀ W, Below w.heap.size w W → W.cell? ⟨r.x, 0, none⟩ = some (.slice (some ⟨r.gL, 0, none⟩) D.S.length r.cL) ∧ W.cell? ⟨r.gL, k, none⟩ = some (tx D.S[k].now) ∧ W.frozen? ⟨r.gL, k, none⟩ = false) := by
              intro W hb
              have h9 := HD1.out.below hb
              have h8 := h9.c0
              have h7 := h9.now k hk1
              simp only [List.getElem_set_self] at h7
              exact ⟨by simpa using h8, h7, h9.fzL k⟩
            obtain ⟨q1, q2, q3⟩ := HQ.out w (Below.refl _ _)
            go_region_with (go_at_call 23; refine (HFw.out _).mono ?_; rintro e W2 ⟨rfl, hb⟩; have HBa : Below w.heap.size w W2 := (Below.refl _ _).drew.trans hb; clear hb; obtain ⟨q4, q5, q6⟩ := HQ.out _ HBa)
            all_goals
              have HK2 : Hid (Kp [r.x, r.gL, r.gO] w (W2.setCell ⟨r.gL, k, none⟩ (.string ⟨F.toArray⟩))) := (HK1.out.trans (Kp.of HBa)).setCell _ _ (by simp)
              have HGW := hid (HG.out _ (HD2.out _ HBa))
              clear HQ HD2 HFw HG HK1 HD1 HBa
              generalize W2.setCell ⟨r.gL, k, none⟩ (.string ⟨F.toArray⟩) = W3 at *
              cases cD with
              | true =>
                go_wp2_with (go_at_call 59; refine HGW.out.mono ?_; rintro e W4 ⟨rfl, h4, h5⟩; have H4 := hid h4; have H5 := hid h5; clear h4 h5)
                go_ret
                exact ⟨rfl, H4.out, HK2.out.trans (H5.out.drop (by simp))⟩
              | false =>
                go_wp2_with (go_at_call 59; refine HGW.out.mono ?_; rintro e W4 ⟨rfl, h4, h5⟩; have H4 := hid h4; have H5 := hid h5; clear h4 h5)
                go_ret
                exact ⟨rfl, H4.out, HK2.out.trans (H5.out.drop (by simp))⟩
        · simp only [if_neg ht]
          have d64 : decide ((64 : Int) < (t.length : Int)) = true := by simp; omega
          clear h
          go_enter Tryz.func38, Tryz.ntmps38
          go_wp2
          go_ret
          exact ⟨rfl, H.out, Kp.refl _ _⟩
      · have d1 : decide ((D.S.length : Int) ≤ i) = true := by simp; omega
        rw [show (decide (0 ≤ i) && decide (i < (D.S.length : Int))) = false by simp; omega]
        simp only [Bool.false_eq_true, if_false]
        clear h
        go_enter Tryz.func38, Tryz.ntmps38
        go_wp2
        go_ret
        exact ⟨rfl, H.out, Kp.refl _ _⟩
    · have d0 : decide (i < 0) = true := by simp; omega
      rw [show (decide (0 ≤ i) && decide (i < (D.S.length : Int))) = false by simp; omega]
      simp only [Bool.false_eq_true, if_false]
      clear h
      go_enter Tryz.func38, Tryz.ntmps38
      go_wp2
      go_ret
      exact ⟨rfl, H.out, Kp.refl _ _⟩
end
end Go.Proofs.YtnhnjdldgaaeoaaGreatDoor
