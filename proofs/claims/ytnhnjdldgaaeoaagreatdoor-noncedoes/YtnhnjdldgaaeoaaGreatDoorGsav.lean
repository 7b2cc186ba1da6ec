/-
  What the reference's Save does.
-/
import Derived.Test.YtnhnjdldgaaeoaaGreatDoorQcl
import Derived.Test.YtnhnjdldgaaeoaaGreatDoorKpu
namespace Go.Proofs.YtnhnjdldgaaeoaaGreatDoor
open Go Go.RowKit
set_option maxRecDepth 100000

theorem save_as (D : Dk) (first size : Nat) (t : List UInt8) : saveP D first size t = if 64 * size < t.length then (4, D) else if D.down then (12, D) else if 1099511627776 < slotN D first size then (3, D) else putP D first size (slotTo D first size) (slotN D first size) t := rfl
theorem chunks_drop (t : List UInt8) (j : Nat) (h : 64 * j < t.length) : chunks (t.drop (64 * j)) = (t.drop (64 * j)).take 64 :: chunks (t.drop (64 * (j + 1))) := by
  rw [chunks_cons _ (by simp; omega), List.drop_drop]
  congr 3
theorem chunks_done (t : List UInt8) (j : Nat) (h : t.length ≤ 64 * j) : chunks (t.drop (64 * j)) = [] := by
  rw [List.drop_eq_nil_of_le h]
  rfl
theorem slot_cat (n len : Nat) (z : ByteArray) (hz : z = ⟨(List.replicate 40 (0 : UInt8)).toArray⟩) : ((⟨(eightB n).toArray⟩ : ByteArray) ++ ⟨(eightB len).toArray⟩ ++ z ++ ⟨(eightB n).toArray⟩) = ⟨(slotB n len).toArray⟩ := by
  subst hz
  apply ByteArray.ext
  simp [slotB, ByteArray.data_append]
theorem ix1_is (first size j a0 : Nat) (ha : a0 = first + 2 + 1 * size) (hf : first ≤ 512) (hs : size ≤ 255) (hj : j ≤ 255) : IntKind.i64.wrap (IntKind.i64.wrap (IntKind.i64.wrap ((first : Int) + 2) + IntKind.i64.wrap (size : Int)) + (j : Int)) = ((a0 + j : Nat) : Int) := by
  rw [wrapI ((first : Int) + 2) (by omega) (by omega), wrapI (size : Int) (by omega) (by omega), wrapI ((first : Int) + 2 + size) (by omega) (by omega), wrapI _ (by omega) (by omega)]
  omega
theorem ix0_is (first size j a0 : Nat) (ha : a0 = first + 2 + 0 * size) (hf : first ≤ 512) (_hs : size ≤ 255) (hj : j ≤ 255) : IntKind.i64.wrap (IntKind.i64.wrap (IntKind.i64.wrap ((first : Int) + 2) + IntKind.i64.wrap 0) + (j : Int)) = ((a0 + j : Nat) : Int) := by
  rw [wrapI ((first : Int) + 2) (by omega) (by omega), wrapI 0 (by omega) (by omega), wrapI ((first : Int) + 2 + 0) (by omega) (by omega), wrapI _ (by omega) (by omega)]
  omega

section
variable {w w' : World} {y : Nat} {r : Rx} {first size : Nat} {D : Dk}
set_option maxHeartbeats 8000000 in
theorem rsave_A (h : RcAt w y r first size) (hr : RefAt w r D) (hroom : first + 2 + 2 * size ≤ D.S.length) (t : List UInt8) (ht : t.length ≤ 64 * size) (hdn : D.down = false) (nn : Nat) (hN : nn ≤ 1099511627776) (hc1 : (sayN size (secB D.S (first + 1))).1 ≤ (sayN size (secB D.S first)).1) (hc2 : 0 < (sayN size (secB D.S first)).1) (hc3 : nn = (sayN size (secB D.S first)).1 + 1) :
    Calls Tryz.prog 16 #[.pointer (some ⟨y, 0, none⟩), .string ⟨t.toArray⟩] w fun e w' =>
      e = .returned (.int .i64 (putP D first size 1 nn t).1) ∧ RefAt w' r (putP D first size 1 nn t).2 ∧ Kp [r.x, r.gL, r.gO] w w' := by
  have hts : (⟨t.toArray⟩ : ByteArray).size = t.length := rfl
  have c0 := h.c0
  have c2 := h.c2
  have c3 := hr.c3
  rw [hdn] at c3
  have hf := h.fst
  have hsz := h.sz
  have hlen := hr.len
  have HS0 := hid (fun W hb => rsays_any (h.stays (w' := W) hb) (hr.below hb) 0 (by omega))
  have HS1 := hid (fun W hb => rsays_any (h.stays (w' := W) hb) (hr.below hb) 1 (by omega))
  simp only [Nat.add_zero] at HS0
  have HRb : Hid (∀ W, Below w.heap.size w W → RefAt W r D) := fun W hb => hr.below hb
  have HQ : Hid (∀ W, Kp [r.x, r.gL, r.gO] w W → W.cell? ⟨y, 0, none⟩ = some (.pointer (some ⟨r.x, 0, none⟩)) ∧ W.cell? ⟨y, 1, none⟩ = some (.int .i64 first) ∧ W.cell? ⟨y, 2, none⟩ = some (.int .i64 size)) := fun W hk => ⟨(h.next hr hk).c0, (h.next hr hk).c1, (h.next hr hk).c2⟩
  have x0 := say_le size (secB D.S first)
  have x1 := say_le size (secB D.S (first + 1))
  obtain ⟨R, hR⟩ : ∃ R, R = putP D first size 1 nn t := ⟨_, rfl⟩
  rw [← hR]
  obtain ⟨a0, ha0⟩ : ∃ a0, a0 = first + 2 + 1 * size := ⟨_, rfl⟩
  unfold putP saveEnd at hR
  rw [← ha0] at hR
  have HR := hid hR
  have HA0 := hid ha0
  have hab : a0 ≤ 769 := by rw [ha0]; omega
  clear h hr hR ha0
  generalize sayN size (secB D.S first) = X at *
  generalize sayN size (secB D.S (first + 1)) = Y at *
  obtain ⟨xn, xl⟩ := X
  obtain ⟨yn, yl⟩ := Y
  simp only at HS0 HS1 x0 x1 hc1 hc2 hc3
  obtain ⟨P, hP⟩ : ∃ P, P = putsL D a0 (chunks t) := ⟨_, rfl⟩
  rw [← hP] at HR
  have HP0 : Hid (P = putsL D (a0 + 0) (chunks (t.drop (64 * 0)))) := by show _ = _; rw [hP]; simp
  clear hP
  subst hc3
  have dnn : decide ((1099511627776 : Int) < (xn : Int) + 1) = false := decide_eq_false (by omega)
  have htl : t.length ≤ 16320 := by omega
  have dbig : decide ((64 : Int) * (size : Int) < (t.length : Int)) = false := by simp; omega
  go_enter Tryz.func16, Tryz.ntmps16
  go_wp2_with fail
  refine (HS0.out _ (Below.refl _ _)).mono ?_
  rintro e w1 ⟨rfl, hb1⟩
  have HB1 := hid hb1
  clear hb1
  go_wp2_with fail
  refine (HS1.out _ HB1.out).mono ?_
  rintro e w2 ⟨rfl, hb2⟩
  have HB2 : Hid (Below w.heap.size w w2) := HB1.out.trans (hb2.mono HB1.out.size)
  have HRf2 := hid (HRb.out _ HB2.out)
  have HK2 : Hid (Kp [r.x, r.gL, r.gO] w w2) := Kp.of HB2.out
  clear hb2 HB1 HB2 HS0 HS1 HRb
  go_wp2
  go_loopw [11] (fun k w' => ∃ (j : Nat) (D' : Dk), k = .int .i64 j ∧ j ≤ 255 ∧ Hid (P = putsL D' (a0 + j) (chunks (t.drop (64 * j)))) ∧ Hid (RefAt w' r D') ∧ Hid (Kp [r.x, r.gL, r.gO] w w')) (fun k _ => 256 - (intOf k).toNat)
  case atStart => exact ⟨0, D, rfl, by omega, HP0, HRf2, HK2⟩
  case round =>
    clear HRf2 HK2 HP0
    obtain ⟨j, D', rfl, hj, HP, HRf, HK⟩ := hrel
    obtain ⟨p0, p1, p2⟩ := HQ.out _ HK.out
    by_cases hlt : 64 * j < t.length
    · have e1 : decide ((64 : Int) * (j : Int) < (t.length : Int)) = true := by simp; omega
      have HPa := hid (fun W => part_any t j hlt (by omega) W)
      rw [chunks_drop t j hlt, putsL] at HP
      have HWr : Hid (∀ (ix : Int), ix = ((a0 + j : Nat) : Int) → ∀ W, RefAt W r D' → Calls Tryz.prog 38 #[.pointer (some ⟨r.x, 0, none⟩), .int .i64 ix, .string ⟨((t.drop (64 * j)).take 64).toArray⟩] W fun e w' =>
          e = .returned (.int .i64 (writeE D' ((a0 + j : Nat) : Int) ((t.drop (64 * j)).take 64))) ∧ RefAt w' r (writeD D' ((a0 + j : Nat) : Int) ((t.drop (64 * j)).take 64)) ∧ Kp [r.x, r.gL, r.gO] W w') := by
        rintro ix rfl W hW
        exact rwrite_any hW _ _
      generalize writeE D' ((a0 + j : Nat) : Int) ((t.drop (64 * j)).take 64) = eE at *
      generalize writeD D' ((a0 + j : Nat) : Int) ((t.drop (64 * j)).take 64) = D2 at *
      generalize (t.drop (64 * j)).take 64 = ch at *
      have HQa := hid (HQ.out _ HK.out)
      have HQb := hid (HQ.out _ HK.out.drew)
      go_wp2_with fail
      have HRfd : Hid (RefAt wr.drew r D') := HRf.out.kept (X := []) ((Kp.refl _ _).drew) (by simp) (by simp) (by simp)
      have HIX := hid (ix1_is first size j a0 HA0.out hf hsz.2 hj)
      go_region_held3 (fun W => W.cell? ⟨y, 0, none⟩ = some (.pointer (some ⟨r.x, 0, none⟩)) ∧ W.cell? ⟨y, 1, none⟩ = some (.int .i64 first) ∧ W.cell? ⟨y, 2, none⟩ = some (.int .i64 size)) (with_reducible first | exact HQ.out _ k4 | exact HQb.out | exact HQa.out) (first | (go_at_call 39; refine (HPa.out _).mono ?_; rintro e W ⟨rfl, hW⟩; subst W) | (go_at_call 38; refine (HWr.out _ HIX.out _ HRfd.out).mono ?_; rintro e W4 ⟨rfl, h4, kk4⟩; have HR4 := hid h4; have k4 : Kp [r.x, r.gL, r.gO] w W4 := HK.out.drew.trans kk4; clear h4 kk4))
      have HK4 := hid k4
      clear k4 HQa HQb HWr HPa HRf HRfd HK HIX
      by_cases hE : eE = 0
      · rw [if_pos hE] at HP
        subst hE
        go_wp2
        go_roundw
        case rel => exact ⟨j + 1, D2, by go_num, by omega, HP, HR4, HK4⟩
        case measure => simp [intOf]; omega
      · rw [if_neg hE] at HP
        rw [HP.out, if_neg hE] at HR
        have hb : (eE != 0) = true := by simpa using hE
        go_wp2
        go_ret
        exact ⟨by rw [HR.out]; rfl, by rw [HR.out]; exact HR4.out, HK4.out⟩
    · have e1 : decide ((64 : Int) * (j : Int) < (t.length : Int)) = false := by simp; omega
      rw [chunks_done t j (by omega), putsL] at HP
      rw [HP.out] at HR
      simp only [if_true] at HR
      have HSy := hid (rsync_any HRf.out)
      generalize syncE D' = e2 at *
      generalize syncD D' = D3 at *
      go_wp2_with fail
      refine HSy.out.mono ?_
      rintro e w5 ⟨rfl, h5, k5⟩
      have HK5 := hid (HK.out.trans k5)
      have HR5 := hid h5
      clear h5 k5 HSy HK HRf HP p0 p1 p2
      by_cases hE2 : e2 = 0
      · rw [if_pos hE2] at HR
        subst hE2
        go_wp2_with fail
        refine (rfill_any [] (by simp) _).mono ?_
        rintro e w6 ⟨rfl, hb6⟩
        have HK6 : Hid (Kp [r.x, r.gL, r.gO] w w6) := HK5.out.trans (Kp.of hb6)
        have HR6 := hid (HR5.out.below hb6)
        have HQ6 : Hid (∀ W, Below w6.heap.size w6 W → W.cell? ⟨y, 0, none⟩ = some (.pointer (some ⟨r.x, 0, none⟩)) ∧ W.cell? ⟨y, 1, none⟩ = some (.int .i64 first) ∧ W.cell? ⟨y, 2, none⟩ = some (.int .i64 size)) := fun W hb => HQ.out _ (HK6.out.trans (Kp.of hb))
        clear hb6 HK5 HR5
        have hfs : (⟨(fillB []).toArray⟩ : ByteArray).size = 64 := rfl
        have hfx : (⟨(fillB []).toArray⟩ : ByteArray).extract 0 40 = ⟨(List.replicate 40 (0 : UInt8)).toArray⟩ := by rw [ext_take]; rfl
        generalize fillB [] = FB at *
        obtain ⟨E8, hE8⟩ : ∃ E8 : Int → List UInt8, E8 = fun v => eightB v.toNat := ⟨_, rfl⟩
        have HE8 : Hid (∀ v : Int, 0 ≤ v → v < 9223372036854775808 → ∀ W, Calls Tryz.prog 41 #[.int .i64 v] W fun e w' => e = .returned (.string ⟨(E8 v).toArray⟩) ∧ Below W.heap.size W w') := by
          intro v h0 h1 W
          obtain ⟨m, rfl⟩ : ∃ m : Nat, v = m := ⟨v.toNat, by omega⟩
          rw [hE8]
          simp only [Int.toNat_natCast]
          exact eight_any m (by omega) W
        have HU : Hid ((⟨(E8 ((xn : Int) + 1)).toArray⟩ : ByteArray) ++ ⟨(E8 (t.length : Int)).toArray⟩ ++ (⟨FB.toArray⟩ : ByteArray).extract 0 40 ++ ⟨(E8 ((xn : Int) + 1)).toArray⟩ = ⟨(slotB (xn + 1) t.length).toArray⟩) := by
          have h1 : E8 ((xn : Int) + 1) = eightB (xn + 1) := by rw [hE8]; show eightB (Int.toNat ((xn : Int) + 1)) = _; congr 1
          have h2 : E8 (t.length : Int) = eightB t.length := by rw [hE8]; rfl
          show _ = _
          rw [h1, h2]
          exact slot_cat _ _ _ hfx
        have HU2 : Hid ((⟨(E8 ((xn : Int) + 1)).toArray⟩ : ByteArray) ++ ⟨(E8 (t.length : Int)).toArray⟩ ++ ⟨(List.replicate 40 (0 : UInt8)).toArray⟩ ++ ⟨(E8 ((xn : Int) + 1)).toArray⟩ = ⟨(slotB (xn + 1) t.length).toArray⟩) := by
          show _ = _
          rw [← hfx]
          exact HU.out
        have HWr : Hid (∀ (ix : Int) (u : ByteArray), ix = (first : Int) + 1 → u = ⟨(slotB (xn + 1) t.length).toArray⟩ → ∀ W, RefAt W r D3 → Calls Tryz.prog 38 #[.pointer (some ⟨r.x, 0, none⟩), .int .i64 ix, .string u] W fun e w' =>
            e = .returned (.int .i64 (writeE D3 ((first + 1 : Nat) : Int) (slotB (xn + 1) t.length))) ∧ RefAt w' r (writeD D3 ((first + 1 : Nat) : Int) (slotB (xn + 1) t.length)) ∧ Kp [r.x, r.gL, r.gO] W w') := by
          rintro ix u rfl rfl W hW
          have ei : ((first + 1 : Nat) : Int) = (first : Int) + 1 := by omega
          rw [ei]
          exact rwrite_any hW _ _
        have HI1 : Hid (IntKind.i64.wrap ((first : Int) + 1) = (first : Int) + 1) := wrapI _ (by omega) (by omega)
        have HI2 : Hid (IntKind.i64.wrap (first : Int) = (first : Int)) := wrapI _ (by omega) (by omega)
        generalize writeE D3 ((first + 1 : Nat) : Int) (slotB (xn + 1) t.length) = e3 at *
        generalize writeD D3 ((first + 1 : Nat) : Int) (slotB (xn + 1) t.length) = D4 at *
        generalize slotB (xn + 1) t.length = sb at *
        have hz1 : (⟨(E8 ((xn : Int) + 1)).toArray⟩ : ByteArray).size = 8 := by rw [hE8]; exact eightB_len _
        have hz2 : (⟨(E8 (t.length : Int)).toArray⟩ : ByteArray).size = 8 := by rw [hE8]; exact eightB_len _
        have hz3 : ((⟨FB.toArray⟩ : ByteArray).extract 0 40).size = 40 := by rw [hfx]; rfl
        have hz4 : ((⟨(E8 ((xn : Int) + 1)).toArray⟩ : ByteArray) ++ ⟨(E8 (t.length : Int)).toArray⟩).size = 16 := by rw [ByteArray.size_append, hz1, hz2]
        have hz5 : ((⟨(E8 ((xn : Int) + 1)).toArray⟩ : ByteArray) ++ ⟨(E8 (t.length : Int)).toArray⟩ ++ (⟨FB.toArray⟩ : ByteArray).extract 0 40).size = 56 := by rw [ByteArray.size_append, hz4, hz3]
        clear hE8 hfx
        have kb : Below w6.heap.size w6 w6.drew := (Below.refl _ _).drew
        have HQa := hid (HQ6.out _ (Below.refl _ _))
        go_wp2_with fail
        go_region_held3 (fun W => W.cell? ⟨y, 0, none⟩ = some (.pointer (some ⟨r.x, 0, none⟩)) ∧ W.cell? ⟨y, 1, none⟩ = some (.int .i64 first) ∧ W.cell? ⟨y, 2, none⟩ = some (.int .i64 size)) (with_reducible first | exact HQ.out _ k7 | exact HQ6.out _ kb | exact HQa.out) (first | (go_at_call 41; refine (HE8.out _ (by omega) (by omega) _).mono ?_; rintro e W5 ⟨rfl, hb5⟩; replace kb : Below w6.heap.size w6 W5 := kb.trans (hb5.mono kb.size); clear hb5) | (go_at_call 38; refine (HWr.out _ _ (by first | exact HI1.out | (rw [HI2.out]; simp)) (by first | exact HU.out | exact HU2.out) _ (HR6.out.below kb)).mono ?_; rintro e W7 ⟨rfl, h7, kk7⟩; have HR7 := hid h7; have k7 : Kp [r.x, r.gL, r.gO] w W7 := (HK6.out.trans (Kp.of kb)).trans kk7; clear h7 kk7))
        have HK7 := hid k7
        obtain ⟨p0, p1, p2⟩ := HQ.out _ k7
        have HSy := hid (rsync_any HR7.out)
        clear k7 kb HQa HQ6 HWr HU HU2 HI1 HI2 HE8 HR6 HK6 hfs hz1 hz2 hz3 hz4 hz5
        by_cases hE3 : e3 = 0
        · rw [if_pos hE3] at HR
          subst hE3
          go_wp2_with fail
          refine HSy.out.mono ?_
          rintro e w8 ⟨rfl, h8, k8⟩
          have HK8 := hid (HK7.out.trans k8)
          have HR8 := hid h8
          clear h8 k8
          go_wp2
          go_ret
          exact ⟨by rw [HR.out]; rfl, by rw [HR.out]; exact HR8.out, HK8.out⟩
        · rw [if_neg hE3] at HR
          have hb : (e3 != 0) = true := by simpa using hE3
          go_wp2
          go_ret
          exact ⟨by rw [HR.out]; rfl, by rw [HR.out]; exact HR7.out, HK7.out⟩
      · rw [if_neg hE2] at HR
        have hb : (e2 != 0) = true := by simpa using hE2
        go_wp2
        go_ret
        exact ⟨by rw [HR.out]; rfl, by rw [HR.out]; exact HR5.out, HK5.out⟩
end
end Go.Proofs.YtnhnjdldgaaeoaaGreatDoor

/-
  What the reference's Save does.
-/
namespace Go.Proofs.YtnhnjdldgaaeoaaGreatDoor
open Go Go.RowKit
set_option maxRecDepth 100000

section
variable {w w' : World} {y : Nat} {r : Rx} {first size : Nat} {D : Dk}
set_option maxHeartbeats 8000000 in
theorem rsave_B (h : RcAt w y r first size) (hr : RefAt w r D) (hroom : first + 2 + 2 * size ≤ D.S.length) (t : List UInt8) (ht : t.length ≤ 64 * size) (hdn : D.down = false) (nn : Nat) (hN : nn ≤ 1099511627776) (hc1 : (sayN size (secB D.S first)).1 < (sayN size (secB D.S (first + 1))).1) (hc3 : nn = (sayN size (secB D.S (first + 1))).1 + 1) :
    Calls Tryz.prog 16 #[.pointer (some ⟨y, 0, none⟩), .string ⟨t.toArray⟩] w fun e w' =>
      e = .returned (.int .i64 (putP D first size 0 nn t).1) ∧ RefAt w' r (putP D first size 0 nn t).2 ∧ Kp [r.x, r.gL, r.gO] w w' := by
  have hts : (⟨t.toArray⟩ : ByteArray).size = t.length := rfl
  have c0 := h.c0
  have c2 := h.c2
  have c3 := hr.c3
  rw [hdn] at c3
  have hf := h.fst
  have hsz := h.sz
  have hlen := hr.len
  have HS0 := hid (fun W hb => rsays_any (h.stays (w' := W) hb) (hr.below hb) 0 (by omega))
  have HS1 := hid (fun W hb => rsays_any (h.stays (w' := W) hb) (hr.below hb) 1 (by omega))
  simp only [Nat.add_zero] at HS0
  have HRb : Hid (∀ W, Below w.heap.size w W → RefAt W r D) := fun W hb => hr.below hb
  have HQ : Hid (∀ W, Kp [r.x, r.gL, r.gO] w W → W.cell? ⟨y, 0, none⟩ = some (.pointer (some ⟨r.x, 0, none⟩)) ∧ W.cell? ⟨y, 1, none⟩ = some (.int .i64 first) ∧ W.cell? ⟨y, 2, none⟩ = some (.int .i64 size)) := fun W hk => ⟨(h.next hr hk).c0, (h.next hr hk).c1, (h.next hr hk).c2⟩
  have x0 := say_le size (secB D.S first)
  have x1 := say_le size (secB D.S (first + 1))
  obtain ⟨R, hR⟩ : ∃ R, R = putP D first size 0 nn t := ⟨_, rfl⟩
  rw [← hR]
  obtain ⟨a0, ha0⟩ : ∃ a0, a0 = first + 2 + 0 * size := ⟨_, rfl⟩
  unfold putP saveEnd at hR
  rw [← ha0] at hR
  have HR := hid hR
  have HA0 := hid ha0
  have hab : a0 ≤ 769 := by rw [ha0]; omega
  clear h hr hR ha0
  generalize sayN size (secB D.S first) = X at *
  generalize sayN size (secB D.S (first + 1)) = Y at *
  obtain ⟨xn, xl⟩ := X
  obtain ⟨yn, yl⟩ := Y
  simp only at HS0 HS1 x0 x1 hc1 hc3
  obtain ⟨P, hP⟩ : ∃ P, P = putsL D a0 (chunks t) := ⟨_, rfl⟩
  rw [← hP] at HR
  have HP0 : Hid (P = putsL D (a0 + 0) (chunks (t.drop (64 * 0)))) := by show _ = _; rw [hP]; simp
  clear hP
  subst hc3
  have dnn : decide ((1099511627776 : Int) < (yn : Int) + 1) = false := decide_eq_false (by omega)
  have htl : t.length ≤ 16320 := by omega
  have dbig : decide ((64 : Int) * (size : Int) < (t.length : Int)) = false := by simp; omega
  go_enter Tryz.func16, Tryz.ntmps16
  go_wp2_with fail
  refine (HS0.out _ (Below.refl _ _)).mono ?_
  rintro e w1 ⟨rfl, hb1⟩
  have HB1 := hid hb1
  clear hb1
  go_wp2_with fail
  refine (HS1.out _ HB1.out).mono ?_
  rintro e w2 ⟨rfl, hb2⟩
  have HB2 : Hid (Below w.heap.size w w2) := HB1.out.trans (hb2.mono HB1.out.size)
  have HRf2 := hid (HRb.out _ HB2.out)
  have HK2 : Hid (Kp [r.x, r.gL, r.gO] w w2) := Kp.of HB2.out
  clear hb2 HB1 HB2 HS0 HS1 HRb
  go_wp2
  go_loopw [11] (fun k w' => ∃ (j : Nat) (D' : Dk), k = .int .i64 j ∧ j ≤ 255 ∧ Hid (P = putsL D' (a0 + j) (chunks (t.drop (64 * j)))) ∧ Hid (RefAt w' r D') ∧ Hid (Kp [r.x, r.gL, r.gO] w w')) (fun k _ => 256 - (intOf k).toNat)
  case atStart => exact ⟨0, D, rfl, by omega, HP0, HRf2, HK2⟩
  case round =>
    clear HRf2 HK2 HP0
    obtain ⟨j, D', rfl, hj, HP, HRf, HK⟩ := hrel
    obtain ⟨p0, p1, p2⟩ := HQ.out _ HK.out
    by_cases hlt : 64 * j < t.length
    · have e1 : decide ((64 : Int) * (j : Int) < (t.length : Int)) = true := by simp; omega
      have HPa := hid (fun W => part_any t j hlt (by omega) W)
      rw [chunks_drop t j hlt, putsL] at HP
      have HWr : Hid (∀ (ix : Int), ix = ((a0 + j : Nat) : Int) → ∀ W, RefAt W r D' → Calls Tryz.prog 38 #[.pointer (some ⟨r.x, 0, none⟩), .int .i64 ix, .string ⟨((t.drop (64 * j)).take 64).toArray⟩] W fun e w' =>
          e = .returned (.int .i64 (writeE D' ((a0 + j : Nat) : Int) ((t.drop (64 * j)).take 64))) ∧ RefAt w' r (writeD D' ((a0 + j : Nat) : Int) ((t.drop (64 * j)).take 64)) ∧ Kp [r.x, r.gL, r.gO] W w') := by
        rintro ix rfl W hW
        exact rwrite_any hW _ _
      generalize writeE D' ((a0 + j : Nat) : Int) ((t.drop (64 * j)).take 64) = eE at *
      generalize writeD D' ((a0 + j : Nat) : Int) ((t.drop (64 * j)).take 64) = D2 at *
      generalize (t.drop (64 * j)).take 64 = ch at *
      have HQa := hid (HQ.out _ HK.out)
      have HQb := hid (HQ.out _ HK.out.drew)
      go_wp2_with fail
      have HRfd : Hid (RefAt wr.drew r D') := HRf.out.kept (X := []) ((Kp.refl _ _).drew) (by simp) (by simp) (by simp)
      have HIX := hid (ix0_is first size j a0 HA0.out hf hsz.2 hj)
      go_region_held3 (fun W => W.cell? ⟨y, 0, none⟩ = some (.pointer (some ⟨r.x, 0, none⟩)) ∧ W.cell? ⟨y, 1, none⟩ = some (.int .i64 first) ∧ W.cell? ⟨y, 2, none⟩ = some (.int .i64 size)) (with_reducible first | exact HQ.out _ k4 | exact HQb.out | exact HQa.out) (first | (go_at_call 39; refine (HPa.out _).mono ?_; rintro e W ⟨rfl, hW⟩; subst W) | (go_at_call 38; refine (HWr.out _ HIX.out _ HRfd.out).mono ?_; rintro e W4 ⟨rfl, h4, kk4⟩; have HR4 := hid h4; have k4 : Kp [r.x, r.gL, r.gO] w W4 := HK.out.drew.trans kk4; clear h4 kk4))
      have HK4 := hid k4
      clear k4 HQa HQb HWr HPa HRf HRfd HK HIX
      by_cases hE : eE = 0
      · rw [if_pos hE] at HP
        subst hE
        go_wp2
        go_roundw
        case rel => exact ⟨j + 1, D2, by go_num, by omega, HP, HR4, HK4⟩
        case measure => simp [intOf]; omega
      · rw [if_neg hE] at HP
        rw [HP.out, if_neg hE] at HR
        have hb : (eE != 0) = true := by simpa using hE
        go_wp2
        go_ret
        exact ⟨by rw [HR.out]; rfl, by rw [HR.out]; exact HR4.out, HK4.out⟩
    · have e1 : decide ((64 : Int) * (j : Int) < (t.length : Int)) = false := by simp; omega
      rw [chunks_done t j (by omega), putsL] at HP
      rw [HP.out] at HR
      simp only [if_true] at HR
      have HSy := hid (rsync_any HRf.out)
      generalize syncE D' = e2 at *
      generalize syncD D' = D3 at *
      go_wp2_with fail
      refine HSy.out.mono ?_
      rintro e w5 ⟨rfl, h5, k5⟩
      have HK5 := hid (HK.out.trans k5)
      have HR5 := hid h5
      clear h5 k5 HSy HK HRf HP p0 p1 p2
      by_cases hE2 : e2 = 0
      · rw [if_pos hE2] at HR
        subst hE2
        go_wp2_with fail
        refine (rfill_any [] (by simp) _).mono ?_
        rintro e w6 ⟨rfl, hb6⟩
        have HK6 : Hid (Kp [r.x, r.gL, r.gO] w w6) := HK5.out.trans (Kp.of hb6)
        have HR6 := hid (HR5.out.below hb6)
        have HQ6 : Hid (∀ W, Below w6.heap.size w6 W → W.cell? ⟨y, 0, none⟩ = some (.pointer (some ⟨r.x, 0, none⟩)) ∧ W.cell? ⟨y, 1, none⟩ = some (.int .i64 first) ∧ W.cell? ⟨y, 2, none⟩ = some (.int .i64 size)) := fun W hb => HQ.out _ (HK6.out.trans (Kp.of hb))
        clear hb6 HK5 HR5
        have hfs : (⟨(fillB []).toArray⟩ : ByteArray).size = 64 := rfl
        have hfx : (⟨(fillB []).toArray⟩ : ByteArray).extract 0 40 = ⟨(List.replicate 40 (0 : UInt8)).toArray⟩ := by rw [ext_take]; rfl
        generalize fillB [] = FB at *
        obtain ⟨E8, hE8⟩ : ∃ E8 : Int → List UInt8, E8 = fun v => eightB v.toNat := ⟨_, rfl⟩
        have HE8 : Hid (∀ v : Int, 0 ≤ v → v < 9223372036854775808 → ∀ W, Calls Tryz.prog 41 #[.int .i64 v] W fun e w' => e = .returned (.string ⟨(E8 v).toArray⟩) ∧ Below W.heap.size W w') := by
          intro v h0 h1 W
          obtain ⟨m, rfl⟩ : ∃ m : Nat, v = m := ⟨v.toNat, by omega⟩
          rw [hE8]
          simp only [Int.toNat_natCast]
          exact eight_any m (by omega) W
        have HU : Hid ((⟨(E8 ((yn : Int) + 1)).toArray⟩ : ByteArray) ++ ⟨(E8 (t.length : Int)).toArray⟩ ++ (⟨FB.toArray⟩ : ByteArray).extract 0 40 ++ ⟨(E8 ((yn : Int) + 1)).toArray⟩ = ⟨(slotB (yn + 1) t.length).toArray⟩) := by
          have h1 : E8 ((yn : Int) + 1) = eightB (yn + 1) := by rw [hE8]; show eightB (Int.toNat ((yn : Int) + 1)) = _; congr 1
          have h2 : E8 (t.length : Int) = eightB t.length := by rw [hE8]; rfl
          show _ = _
          rw [h1, h2]
          exact slot_cat _ _ _ hfx
        have HU2 : Hid ((⟨(E8 ((yn : Int) + 1)).toArray⟩ : ByteArray) ++ ⟨(E8 (t.length : Int)).toArray⟩ ++ ⟨(List.replicate 40 (0 : UInt8)).toArray⟩ ++ ⟨(E8 ((yn : Int) + 1)).toArray⟩ = ⟨(slotB (yn + 1) t.length).toArray⟩) := by
          show _ = _
          rw [← hfx]
          exact HU.out
        have HWr : Hid (∀ (ix : Int) (u : ByteArray), ix = (first : Int) + 0 → u = ⟨(slotB (yn + 1) t.length).toArray⟩ → ∀ W, RefAt W r D3 → Calls Tryz.prog 38 #[.pointer (some ⟨r.x, 0, none⟩), .int .i64 ix, .string u] W fun e w' =>
            e = .returned (.int .i64 (writeE D3 ((first + 0 : Nat) : Int) (slotB (yn + 1) t.length))) ∧ RefAt w' r (writeD D3 ((first + 0 : Nat) : Int) (slotB (yn + 1) t.length)) ∧ Kp [r.x, r.gL, r.gO] W w') := by
          rintro ix u rfl rfl W hW
          have ei : ((first + 0 : Nat) : Int) = (first : Int) + 0 := by omega
          rw [ei]
          exact rwrite_any hW _ _
        have HI1 : Hid (IntKind.i64.wrap ((first : Int) + 0) = (first : Int) + 0) := wrapI _ (by omega) (by omega)
        have HI2 : Hid (IntKind.i64.wrap (first : Int) = (first : Int)) := wrapI _ (by omega) (by omega)
        generalize writeE D3 ((first + 0 : Nat) : Int) (slotB (yn + 1) t.length) = e3 at *
        generalize writeD D3 ((first + 0 : Nat) : Int) (slotB (yn + 1) t.length) = D4 at *
        generalize slotB (yn + 1) t.length = sb at *
        have hz1 : (⟨(E8 ((yn : Int) + 1)).toArray⟩ : ByteArray).size = 8 := by rw [hE8]; exact eightB_len _
        have hz2 : (⟨(E8 (t.length : Int)).toArray⟩ : ByteArray).size = 8 := by rw [hE8]; exact eightB_len _
        have hz3 : ((⟨FB.toArray⟩ : ByteArray).extract 0 40).size = 40 := by rw [hfx]; rfl
        have hz4 : ((⟨(E8 ((yn : Int) + 1)).toArray⟩ : ByteArray) ++ ⟨(E8 (t.length : Int)).toArray⟩).size = 16 := by rw [ByteArray.size_append, hz1, hz2]
        have hz5 : ((⟨(E8 ((yn : Int) + 1)).toArray⟩ : ByteArray) ++ ⟨(E8 (t.length : Int)).toArray⟩ ++ (⟨FB.toArray⟩ : ByteArray).extract 0 40).size = 56 := by rw [ByteArray.size_append, hz4, hz3]
        clear hE8 hfx
        have kb : Below w6.heap.size w6 w6.drew := (Below.refl _ _).drew
        have HQa := hid (HQ6.out _ (Below.refl _ _))
        go_wp2_with fail
        go_region_held3 (fun W => W.cell? ⟨y, 0, none⟩ = some (.pointer (some ⟨r.x, 0, none⟩)) ∧ W.cell? ⟨y, 1, none⟩ = some (.int .i64 first) ∧ W.cell? ⟨y, 2, none⟩ = some (.int .i64 size)) (with_reducible first | exact HQ.out _ k7 | exact HQ6.out _ kb | exact HQa.out) (first | (go_at_call 41; refine (HE8.out _ (by omega) (by omega) _).mono ?_; rintro e W5 ⟨rfl, hb5⟩; replace kb : Below w6.heap.size w6 W5 := kb.trans (hb5.mono kb.size); clear hb5) | (go_at_call 38; refine (HWr.out _ _ (by first | exact HI1.out | (rw [HI2.out]; simp)) (by first | exact HU.out | exact HU2.out) _ (HR6.out.below kb)).mono ?_; rintro e W7 ⟨rfl, h7, kk7⟩; have HR7 := hid h7; have k7 : Kp [r.x, r.gL, r.gO] w W7 := (HK6.out.trans (Kp.of kb)).trans kk7; clear h7 kk7))
        have HK7 := hid k7
        obtain ⟨p0, p1, p2⟩ := HQ.out _ k7
        have HSy := hid (rsync_any HR7.out)
        clear k7 kb HQa HQ6 HWr HU HU2 HI1 HI2 HE8 HR6 HK6 hfs hz1 hz2 hz3 hz4 hz5
        by_cases hE3 : e3 = 0
        · rw [if_pos hE3] at HR
          subst hE3
          go_wp2_with fail
          refine HSy.out.mono ?_
          rintro e w8 ⟨rfl, h8, k8⟩
          have HK8 := hid (HK7.out.trans k8)
          have HR8 := hid h8
          clear h8 k8
          go_wp2
          go_ret
          exact ⟨by rw [HR.out]; rfl, by rw [HR.out]; exact HR8.out, HK8.out⟩
        · rw [if_neg hE3] at HR
          have hb : (e3 != 0) = true := by simpa using hE3
          go_wp2
          go_ret
          exact ⟨by rw [HR.out]; rfl, by rw [HR.out]; exact HR7.out, HK7.out⟩
      · rw [if_neg hE2] at HR
        have hb : (e2 != 0) = true := by simpa using hE2
        go_wp2
        go_ret
        exact ⟨by rw [HR.out]; rfl, by rw [HR.out]; exact HR5.out, HK5.out⟩
end
end Go.Proofs.YtnhnjdldgaaeoaaGreatDoor

/-
  What the reference's Save does.
-/
namespace Go.Proofs.YtnhnjdldgaaeoaaGreatDoor
open Go Go.RowKit
set_option maxRecDepth 100000

section
variable {w w' : World} {y : Nat} {r : Rx} {first size : Nat} {D : Dk}
set_option maxHeartbeats 8000000 in
theorem rsave_C (h : RcAt w y r first size) (hr : RefAt w r D) (hroom : first + 2 + 2 * size ≤ D.S.length) (t : List UInt8) (ht : t.length ≤ 64 * size) (hdn : D.down = false) (nn : Nat) (hN : nn ≤ 1099511627776) (hc1 : (sayN size (secB D.S first)).1 = 0) (hc2 : (sayN size (secB D.S (first + 1))).1 = 0) (hc3 : nn = 1) :
    Calls Tryz.prog 16 #[.pointer (some ⟨y, 0, none⟩), .string ⟨t.toArray⟩] w fun e w' =>
      e = .returned (.int .i64 (putP D first size 0 nn t).1) ∧ RefAt w' r (putP D first size 0 nn t).2 ∧ Kp [r.x, r.gL, r.gO] w w' := by
  have hts : (⟨t.toArray⟩ : ByteArray).size = t.length := rfl
  have c0 := h.c0
  have c2 := h.c2
  have c3 := hr.c3
  rw [hdn] at c3
  have hf := h.fst
  have hsz := h.sz
  have hlen := hr.len
  have HS0 := hid (fun W hb => rsays_any (h.stays (w' := W) hb) (hr.below hb) 0 (by omega))
  have HS1 := hid (fun W hb => rsays_any (h.stays (w' := W) hb) (hr.below hb) 1 (by omega))
  simp only [Nat.add_zero] at HS0
  have HRb : Hid (∀ W, Below w.heap.size w W → RefAt W r D) := fun W hb => hr.below hb
  have HQ : Hid (∀ W, Kp [r.x, r.gL, r.gO] w W → W.cell? ⟨y, 0, none⟩ = some (.pointer (some ⟨r.x, 0, none⟩)) ∧ W.cell? ⟨y, 1, none⟩ = some (.int .i64 first) ∧ W.cell? ⟨y, 2, none⟩ = some (.int .i64 size)) := fun W hk => ⟨(h.next hr hk).c0, (h.next hr hk).c1, (h.next hr hk).c2⟩
  have x0 := say_le size (secB D.S first)
  have x1 := say_le size (secB D.S (first + 1))
  obtain ⟨R, hR⟩ : ∃ R, R = putP D first size 0 nn t := ⟨_, rfl⟩
  rw [← hR]
  obtain ⟨a0, ha0⟩ : ∃ a0, a0 = first + 2 + 0 * size := ⟨_, rfl⟩
  unfold putP saveEnd at hR
  rw [← ha0] at hR
  have HR := hid hR
  have HA0 := hid ha0
  have hab : a0 ≤ 769 := by rw [ha0]; omega
  clear h hr hR ha0
  generalize sayN size (secB D.S first) = X at *
  generalize sayN size (secB D.S (first + 1)) = Y at *
  obtain ⟨xn, xl⟩ := X
  obtain ⟨yn, yl⟩ := Y
  simp only at HS0 HS1 x0 x1 hc1 hc2 hc3
  obtain ⟨P, hP⟩ : ∃ P, P = putsL D a0 (chunks t) := ⟨_, rfl⟩
  rw [← hP] at HR
  have HP0 : Hid (P = putsL D (a0 + 0) (chunks (t.drop (64 * 0)))) := by show _ = _; rw [hP]; simp
  clear hP
  subst hc1 hc2 hc3
  have htl : t.length ≤ 16320 := by omega
  have dbig : decide ((64 : Int) * (size : Int) < (t.length : Int)) = false := by simp; omega
  go_enter Tryz.func16, Tryz.ntmps16
  go_wp2_with fail
  refine (HS0.out _ (Below.refl _ _)).mono ?_
  rintro e w1 ⟨rfl, hb1⟩
  have HB1 := hid hb1
  clear hb1
  go_wp2_with fail
  refine (HS1.out _ HB1.out).mono ?_
  rintro e w2 ⟨rfl, hb2⟩
  have HB2 : Hid (Below w.heap.size w w2) := HB1.out.trans (hb2.mono HB1.out.size)
  have HRf2 := hid (HRb.out _ HB2.out)
  have HK2 : Hid (Kp [r.x, r.gL, r.gO] w w2) := Kp.of HB2.out
  clear hb2 HB1 HB2 HS0 HS1 HRb
  go_wp2
  go_loopw [11] (fun k w' => ∃ (j : Nat) (D' : Dk), k = .int .i64 j ∧ j ≤ 255 ∧ Hid (P = putsL D' (a0 + j) (chunks (t.drop (64 * j)))) ∧ Hid (RefAt w' r D') ∧ Hid (Kp [r.x, r.gL, r.gO] w w')) (fun k _ => 256 - (intOf k).toNat)
  case atStart => exact ⟨0, D, rfl, by omega, HP0, HRf2, HK2⟩
  case round =>
    clear HRf2 HK2 HP0
    obtain ⟨j, D', rfl, hj, HP, HRf, HK⟩ := hrel
    obtain ⟨p0, p1, p2⟩ := HQ.out _ HK.out
    by_cases hlt : 64 * j < t.length
    · have e1 : decide ((64 : Int) * (j : Int) < (t.length : Int)) = true := by simp; omega
      have HPa := hid (fun W => part_any t j hlt (by omega) W)
      rw [chunks_drop t j hlt, putsL] at HP
      have HWr : Hid (∀ (ix : Int), ix = ((a0 + j : Nat) : Int) → ∀ W, RefAt W r D' → Calls Tryz.prog 38 #[.pointer (some ⟨r.x, 0, none⟩), .int .i64 ix, .string ⟨((t.drop (64 * j)).take 64).toArray⟩] W fun e w' =>
          e = .returned (.int .i64 (writeE D' ((a0 + j : Nat) : Int) ((t.drop (64 * j)).take 64))) ∧ RefAt w' r (writeD D' ((a0 + j : Nat) : Int) ((t.drop (64 * j)).take 64)) ∧ Kp [r.x, r.gL, r.gO] W w') := by
        rintro ix rfl W hW
        exact rwrite_any hW _ _
      generalize writeE D' ((a0 + j : Nat) : Int) ((t.drop (64 * j)).take 64) = eE at *
      generalize writeD D' ((a0 + j : Nat) : Int) ((t.drop (64 * j)).take 64) = D2 at *
      generalize (t.drop (64 * j)).take 64 = ch at *
      have HQa := hid (HQ.out _ HK.out)
      have HQb := hid (HQ.out _ HK.out.drew)
      go_wp2_with fail
      have HRfd : Hid (RefAt wr.drew r D') := HRf.out.kept (X := []) ((Kp.refl _ _).drew) (by simp) (by simp) (by simp)
      have HIX := hid (ix0_is first size j a0 HA0.out hf hsz.2 hj)
      go_region_held3 (fun W => W.cell? ⟨y, 0, none⟩ = some (.pointer (some ⟨r.x, 0, none⟩)) ∧ W.cell? ⟨y, 1, none⟩ = some (.int .i64 first) ∧ W.cell? ⟨y, 2, none⟩ = some (.int .i64 size)) (with_reducible first | exact HQ.out _ k4 | exact HQb.out | exact HQa.out) (first | (go_at_call 39; refine (HPa.out _).mono ?_; rintro e W ⟨rfl, hW⟩; subst W) | (go_at_call 38; refine (HWr.out _ HIX.out _ HRfd.out).mono ?_; rintro e W4 ⟨rfl, h4, kk4⟩; have HR4 := hid h4; have k4 : Kp [r.x, r.gL, r.gO] w W4 := HK.out.drew.trans kk4; clear h4 kk4))
      have HK4 := hid k4
      clear k4 HQa HQb HWr HPa HRf HRfd HK HIX
      by_cases hE : eE = 0
      · rw [if_pos hE] at HP
        subst hE
        go_wp2
        go_roundw
        case rel => exact ⟨j + 1, D2, by go_num, by omega, HP, HR4, HK4⟩
        case measure => simp [intOf]; omega
      · rw [if_neg hE] at HP
        rw [HP.out, if_neg hE] at HR
        have hb : (eE != 0) = true := by simpa using hE
        go_wp2
        go_ret
        exact ⟨by rw [HR.out]; rfl, by rw [HR.out]; exact HR4.out, HK4.out⟩
    · have e1 : decide ((64 : Int) * (j : Int) < (t.length : Int)) = false := by simp; omega
      rw [chunks_done t j (by omega), putsL] at HP
      rw [HP.out] at HR
      simp only [if_true] at HR
      have HSy := hid (rsync_any HRf.out)
      generalize syncE D' = e2 at *
      generalize syncD D' = D3 at *
      go_wp2_with fail
      refine HSy.out.mono ?_
      rintro e w5 ⟨rfl, h5, k5⟩
      have HK5 := hid (HK.out.trans k5)
      have HR5 := hid h5
      clear h5 k5 HSy HK HRf HP p0 p1 p2
      by_cases hE2 : e2 = 0
      · rw [if_pos hE2] at HR
        subst hE2
        go_wp2_with fail
        refine (rfill_any [] (by simp) _).mono ?_
        rintro e w6 ⟨rfl, hb6⟩
        have HK6 : Hid (Kp [r.x, r.gL, r.gO] w w6) := HK5.out.trans (Kp.of hb6)
        have HR6 := hid (HR5.out.below hb6)
        have HQ6 : Hid (∀ W, Below w6.heap.size w6 W → W.cell? ⟨y, 0, none⟩ = some (.pointer (some ⟨r.x, 0, none⟩)) ∧ W.cell? ⟨y, 1, none⟩ = some (.int .i64 first) ∧ W.cell? ⟨y, 2, none⟩ = some (.int .i64 size)) := fun W hb => HQ.out _ (HK6.out.trans (Kp.of hb))
        clear hb6 HK5 HR5
        have hfs : (⟨(fillB []).toArray⟩ : ByteArray).size = 64 := rfl
        have hfx : (⟨(fillB []).toArray⟩ : ByteArray).extract 0 40 = ⟨(List.replicate 40 (0 : UInt8)).toArray⟩ := by rw [ext_take]; rfl
        generalize fillB [] = FB at *
        obtain ⟨E8, hE8⟩ : ∃ E8 : Int → List UInt8, E8 = fun v => eightB v.toNat := ⟨_, rfl⟩
        have HE8 : Hid (∀ v : Int, 0 ≤ v → v < 9223372036854775808 → ∀ W, Calls Tryz.prog 41 #[.int .i64 v] W fun e w' => e = .returned (.string ⟨(E8 v).toArray⟩) ∧ Below W.heap.size W w') := by
          intro v h0 h1 W
          obtain ⟨m, rfl⟩ : ∃ m : Nat, v = m := ⟨v.toNat, by omega⟩
          rw [hE8]
          simp only [Int.toNat_natCast]
          exact eight_any m (by omega) W
        have HU : Hid ((⟨(E8 (1)).toArray⟩ : ByteArray) ++ ⟨(E8 (t.length : Int)).toArray⟩ ++ (⟨FB.toArray⟩ : ByteArray).extract 0 40 ++ ⟨(E8 (1)).toArray⟩ = ⟨(slotB (1) t.length).toArray⟩) := by
          have h1 : E8 (1) = eightB (1) := by rw [hE8]; show eightB (Int.toNat (1)) = _; congr 1
          have h2 : E8 (t.length : Int) = eightB t.length := by rw [hE8]; rfl
          show _ = _
          rw [h1, h2]
          exact slot_cat _ _ _ hfx
        have HU2 : Hid ((⟨(E8 (1)).toArray⟩ : ByteArray) ++ ⟨(E8 (t.length : Int)).toArray⟩ ++ ⟨(List.replicate 40 (0 : UInt8)).toArray⟩ ++ ⟨(E8 (1)).toArray⟩ = ⟨(slotB (1) t.length).toArray⟩) := by
          show _ = _
          rw [← hfx]
          exact HU.out
        have HWr : Hid (∀ (ix : Int) (u : ByteArray), ix = (first : Int) + 0 → u = ⟨(slotB (1) t.length).toArray⟩ → ∀ W, RefAt W r D3 → Calls Tryz.prog 38 #[.pointer (some ⟨r.x, 0, none⟩), .int .i64 ix, .string u] W fun e w' =>
            e = .returned (.int .i64 (writeE D3 ((first + 0 : Nat) : Int) (slotB (1) t.length))) ∧ RefAt w' r (writeD D3 ((first + 0 : Nat) : Int) (slotB (1) t.length)) ∧ Kp [r.x, r.gL, r.gO] W w') := by
          rintro ix u rfl rfl W hW
          have ei : ((first + 0 : Nat) : Int) = (first : Int) + 0 := by omega
          rw [ei]
          exact rwrite_any hW _ _
        have HI1 : Hid (IntKind.i64.wrap ((first : Int) + 0) = (first : Int) + 0) := wrapI _ (by omega) (by omega)
        have HI2 : Hid (IntKind.i64.wrap (first : Int) = (first : Int)) := wrapI _ (by omega) (by omega)
        generalize writeE D3 ((first + 0 : Nat) : Int) (slotB (1) t.length) = e3 at *
        generalize writeD D3 ((first + 0 : Nat) : Int) (slotB (1) t.length) = D4 at *
        generalize slotB (1) t.length = sb at *
        have hz1 : (⟨(E8 (1)).toArray⟩ : ByteArray).size = 8 := by rw [hE8]; exact eightB_len _
        have hz2 : (⟨(E8 (t.length : Int)).toArray⟩ : ByteArray).size = 8 := by rw [hE8]; exact eightB_len _
        have hz3 : ((⟨FB.toArray⟩ : ByteArray).extract 0 40).size = 40 := by rw [hfx]; rfl
        have hz4 : ((⟨(E8 (1)).toArray⟩ : ByteArray) ++ ⟨(E8 (t.length : Int)).toArray⟩).size = 16 := by rw [ByteArray.size_append, hz1, hz2]
        have hz5 : ((⟨(E8 (1)).toArray⟩ : ByteArray) ++ ⟨(E8 (t.length : Int)).toArray⟩ ++ (⟨FB.toArray⟩ : ByteArray).extract 0 40).size = 56 := by rw [ByteArray.size_append, hz4, hz3]
        clear hE8 hfx
        have kb : Below w6.heap.size w6 w6.drew := (Below.refl _ _).drew
        have HQa := hid (HQ6.out _ (Below.refl _ _))
        go_wp2_with fail
        go_region_held3 (fun W => W.cell? ⟨y, 0, none⟩ = some (.pointer (some ⟨r.x, 0, none⟩)) ∧ W.cell? ⟨y, 1, none⟩ = some (.int .i64 first) ∧ W.cell? ⟨y, 2, none⟩ = some (.int .i64 size)) (with_reducible first | exact HQ.out _ k7 | exact HQ6.out _ kb | exact HQa.out) (first | (go_at_call 41; refine (HE8.out _ (by omega) (by omega) _).mono ?_; rintro e W5 ⟨rfl, hb5⟩; replace kb : Below w6.heap.size w6 W5 := kb.trans (hb5.mono kb.size); clear hb5) | (go_at_call 38; refine (HWr.out _ _ (by first | exact HI1.out | (rw [HI2.out]; simp)) (by first | exact HU.out | exact HU2.out) _ (HR6.out.below kb)).mono ?_; rintro e W7 ⟨rfl, h7, kk7⟩; have HR7 := hid h7; have k7 : Kp [r.x, r.gL, r.gO] w W7 := (HK6.out.trans (Kp.of kb)).trans kk7; clear h7 kk7))
        have HK7 := hid k7
        obtain ⟨p0, p1, p2⟩ := HQ.out _ k7
        have HSy := hid (rsync_any HR7.out)
        clear k7 kb HQa HQ6 HWr HU HU2 HI1 HI2 HE8 HR6 HK6 hfs hz1 hz2 hz3 hz4 hz5
        by_cases hE3 : e3 = 0
        · rw [if_pos hE3] at HR
          subst hE3
          go_wp2_with fail
          refine HSy.out.mono ?_
          rintro e w8 ⟨rfl, h8, k8⟩
          have HK8 := hid (HK7.out.trans k8)
          have HR8 := hid h8
          clear h8 k8
          go_wp2
          go_ret
          exact ⟨by rw [HR.out]; rfl, by rw [HR.out]; exact HR8.out, HK8.out⟩
        · rw [if_neg hE3] at HR
          have hb : (e3 != 0) = true := by simpa using hE3
          go_wp2
          go_ret
          exact ⟨by rw [HR.out]; rfl, by rw [HR.out]; exact HR7.out, HK7.out⟩
      · rw [if_neg hE2] at HR
        have hb : (e2 != 0) = true := by simpa using hE2
        go_wp2
        go_ret
        exact ⟨by rw [HR.out]; rfl, by rw [HR.out]; exact HR5.out, HK5.out⟩
end
end Go.Proofs.YtnhnjdldgaaeoaaGreatDoor

/-
  What the reference's Save does, whole.
-/
namespace Go.Proofs.YtnhnjdldgaaeoaaGreatDoor
open Go Go.RowKit
set_option maxRecDepth 100000

section
variable {w w' : World} {y : Nat} {r : Rx} {first size : Nat} {D : Dk}
set_option maxHeartbeats 4000000 in
theorem rsave_range (h : RcAt w y r first size) (hr : RefAt w r D) (hroom : first + 2 + 2 * size ≤ D.S.length) (t : List UInt8) (ht : t.length ≤ 64 * size) (hdn : D.down = false) (hN : 1099511627776 < slotN D first size) :
    Calls Tryz.prog 16 #[.pointer (some ⟨y, 0, none⟩), .string ⟨t.toArray⟩] w fun e w' => e = .returned (.int .i64 3) ∧ RefAt w' r D ∧ Kp [r.x, r.gL, r.gO] w w' := by
  have hts : (⟨t.toArray⟩ : ByteArray).size = t.length := rfl
  have c0 := h.c0
  have c2 := h.c2
  have c3 := hr.c3
  rw [hdn] at c3
  have hf := h.fst
  have hsz := h.sz
  have hlen := hr.len
  have HS0 := hid (fun W hb => rsays_any (h.stays (w' := W) hb) (hr.below hb) 0 (by omega))
  have HS1 := hid (fun W hb => rsays_any (h.stays (w' := W) hb) (hr.below hb) 1 (by omega))
  simp only [Nat.add_zero] at HS0
  have HRb : Hid (∀ W, Below w.heap.size w W → RefAt W r D) := fun W hb => hr.below hb
  have x0 := say_le size (secB D.S first)
  have x1 := say_le size (secB D.S (first + 1))
  unfold slotN at hN
  clear h hr
  generalize sayN size (secB D.S first) = X at *
  generalize sayN size (secB D.S (first + 1)) = Y at *
  obtain ⟨xn, xl⟩ := X
  obtain ⟨yn, yl⟩ := Y
  simp only at HS0 HS1 x0 x1 hN
  have dbig : decide ((64 : Int) * (size : Int) < (t.length : Int)) = false := by simp; omega
  by_cases hc : yn ≤ xn
  · have hx0 : 0 < xn := by omega
    have dnn : decide ((1099511627776 : Int) < (xn : Int) + 1) = true := decide_eq_true (by omega)
    clear hN
    go_enter Tryz.func16, Tryz.ntmps16
    go_wp2_with fail
    refine (HS0.out _ (Below.refl _ _)).mono ?_
    rintro e w1 ⟨rfl, hb1⟩
    have HB1 := hid hb1
    clear hb1
    go_wp2_with fail
    refine (HS1.out _ HB1.out).mono ?_
    rintro e w2 ⟨rfl, hb2⟩
    have HB2 : Hid (Below w.heap.size w w2) := HB1.out.trans (hb2.mono HB1.out.size)
    clear hb2 HB1
    go_wp2
    go_ret
    exact ⟨rfl, HRb.out _ HB2.out, Kp.of HB2.out⟩
  · have hxy : xn < yn := by omega
    have dnn : decide ((1099511627776 : Int) < (yn : Int) + 1) = true := decide_eq_true (by omega)
    clear hN hc
    go_enter Tryz.func16, Tryz.ntmps16
    go_wp2_with fail
    refine (HS0.out _ (Below.refl _ _)).mono ?_
    rintro e w1 ⟨rfl, hb1⟩
    have HB1 := hid hb1
    clear hb1
    go_wp2_with fail
    refine (HS1.out _ HB1.out).mono ?_
    rintro e w2 ⟨rfl, hb2⟩
    have HB2 : Hid (Below w.heap.size w w2) := HB1.out.trans (hb2.mono HB1.out.size)
    clear hb2 HB1
    go_wp2
    go_ret
    exact ⟨rfl, HRb.out _ HB2.out, Kp.of HB2.out⟩

theorem rsave_any (h : RcAt w y r first size) (hr : RefAt w r D) (hroom : first + 2 + 2 * size ≤ D.S.length) (t : List UInt8) :
    Calls Tryz.prog 16 #[.pointer (some ⟨y, 0, none⟩), .string ⟨t.toArray⟩] w fun e w' =>
      e = .returned (.int .i64 (saveP D first size t).1) ∧ RefAt w' r (saveP D first size t).2 ∧ Kp [r.x, r.gL, r.gO] w w' := by
  rw [save_as]
  by_cases hbig : 64 * size < t.length
  · rw [if_pos hbig]
    have hts : (⟨t.toArray⟩ : ByteArray).size = t.length := rfl
    have c2 := h.c2
    have hsz := h.sz
    have HR := hid hr
    have dbig : decide ((64 : Int) * (size : Int) < (t.length : Int)) = true := by simp; omega
    clear h hr
    go_enter Tryz.func16, Tryz.ntmps16
    go_wp2
    go_ret
    exact ⟨rfl, HR.out, Kp.refl _ _⟩
  · rw [if_neg hbig]
    cases hdn : D.down with
    | true =>
      simp only [if_true]
      have hts : (⟨t.toArray⟩ : ByteArray).size = t.length := rfl
      have c0 := h.c0
      have c2 := h.c2
      have c3 := hr.c3
      rw [hdn] at c3
      have hsz := h.sz
      have HR := hid hr
      have dbig : decide ((64 : Int) * (size : Int) < (t.length : Int)) = false := by simp; omega
      clear h hr
      go_enter Tryz.func16, Tryz.ntmps16
      go_wp2
      go_ret
      exact ⟨rfl, HR.out, Kp.refl _ _⟩
    | false =>
      simp only [Bool.false_eq_true, if_false]
      by_cases hN : 1099511627776 < slotN D first size
      · rw [if_pos hN]
        exact rsave_range h hr hroom t (by omega) hdn hN
      · rw [if_neg hN]
        by_cases hA : (sayN size (secB D.S (first + 1))).1 ≤ (sayN size (secB D.S first)).1 ∧ 0 < (sayN size (secB D.S first)).1
        · have e1 : slotTo D first size = 1 := by unfold slotTo; rw [if_pos hA]
          rw [e1]
          exact rsave_A h hr hroom t (by omega) hdn _ (by omega) hA.1 hA.2 (by unfold slotN; rw [Nat.max_eq_left hA.1])
        · have e1 : slotTo D first size = 0 := by unfold slotTo; rw [if_neg hA]
          rw [e1]
          by_cases hB : (sayN size (secB D.S first)).1 < (sayN size (secB D.S (first + 1))).1
          · exact rsave_B h hr hroom t (by omega) hdn _ (by omega) hB (by unfold slotN; rw [Nat.max_eq_right (by omega)])
          · have hx : (sayN size (secB D.S first)).1 = 0 := by omega
            have hy : (sayN size (secB D.S (first + 1))).1 = 0 := by omega
            exact rsave_C h hr hroom t (by omega) hdn _ (by omega) hx hy (by unfold slotN; rw [hx, hy]; rfl)
end
end Go.Proofs.YtnhnjdldgaaeoaaGreatDoor
