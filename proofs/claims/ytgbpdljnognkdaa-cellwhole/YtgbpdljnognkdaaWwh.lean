/-
  CellWhole answers true: behind a crash at any place, torn in any way, the text is the last one or the next one, whole.
-/
import Derived.Test.YtgbpdljnognkdaaWsv
namespace Go.Proofs.Ytgbpdljnognkdaa
open Go Go.RowKit
set_option maxRecDepth 100000

structure Sw (w : World) (x : Cx) (d g : Nat) (D : Dk) (n : Nat) (t : List UInt8) : Prop where
  cell : CellAt w x d 3 8
  disk : DiskAt w d g D
  inv : CInv D 3 8 n t
  up : D.down = false
  zero : n = 0 → t = []
theorem Sw.stays {w w' : World} {x : Cx} {d g : Nat} {D : Dk} {n : Nat} {t : List UInt8} (h : Sw w x d g D n t) (hb : Below w.heap.size w w') : Sw w' x d g D n t :=
  ⟨h.cell.stays hb, h.disk.kept (X := []) (Kp.of hb) (by simp) (by simp), h.inv, h.up, h.zero⟩
theorem Sw.armed {w w' : World} {x : Cx} {d g : Nat} {D D2 : Dk} {n : Nat} {t : List UInt8} (h : Sw w x d g D n t) (hk : Kp [d, g] w w') (hd : DiskAt w' d g D2) (hS : D2.S = D.S) (hu : D2.down = false) : Sw w' x d g D2 n t :=
  ⟨h.cell.next h.disk hk, hd, h.inv.congr (by rw [hS]; exact h.inv.ok) (by rw [hS]) (fun i _ _ => by rw [hS]), hu, h.zero⟩
theorem arm_up {D : Dk} (n : Int) (h : D.down = false) : (armD D n).S = D.S ∧ (armD D n).down = false := by
  unfold armD
  rw [h]
  by_cases hn : n < 1
  · simp [hn, h]
  · simp [hn]

theorem save_two {D : Dk} {first size n : Nat} {t0 t : List UInt8} (h : CInv D first size n t0) (hd : D.down = false) (ht : t.length ≤ 64 * size) (hn : n + 1 ≤ 1099511627776) :
    (∃ D2, saveP D first size t = (0, D2) ∧ CInv D2 first size (n + 1) t ∧ D2.down = false ∧ D2.S.length = D.S.length) ∨
    (∃ D', saveP D first size t = (12, D') ∧ D'.S.length = D.S.length ∧ ∀ ks, loadP (crashD D' ks) first size = loadR n t0 ∨ loadP (crashD D' ks) first size = (t, n + 1, 0)) := by
  rcases save_cases h hd ht hn with ⟨a, e, -⟩ | ⟨D', e, -, -, -, e2, e3⟩
  · exact .inl ⟨_, e, h.saved ht hn a false, rfl, by show ((slotS D first size n t).map setS).length = _; rw [List.length_map, slotS_len]⟩
  · exact .inr ⟨D', e, e2, e3⟩

set_option maxHeartbeats 8000000 in
theorem whole_walk (w : World) (a : Option Addr) (len cap : Nat) (hT : TextsAt w a len) (am : Nat) (ham : am < 256) (v : Value) (ks : List Int) (hI : IntsAt w v ks) : Calls Try.prog 4 #[.slice a len cap, .int .u8 am, v] w fun e w' => e = .returned (.bool true) ∧ Below w.heap.size w w' := by
  have HT := hid hT
  have HI := hid hI
  have HN := hid (new_ok w 40 (by omega) (by omega))
  have HC := hid (CInv.new 40 3 8 (by omega) (by omega))
  obtain ⟨hu1, hu2, hu3⟩ := newD_up 40
  clear hT hI
  generalize newD 40 = D0 at *
  go_enter Try.func4, Try.ntmps4
  go_wp2_with fail
  refine HN.out.mono ?_
  rintro e w1 ⟨d, g, rfl, hd1, hb1, hg1, hg2⟩
  have HB1 := hid hb1
  have HO := hid (open_ok hd1 3 8 (by omega) (by omega) (by omega) hu1)
  have HD1 := hid hd1
  have HG : Hid (∀ y ∈ [d, g], w.heap.size ≤ y) := by
    intro y hy
    simp only [List.mem_cons, List.not_mem_nil, or_false] at hy
    rcases hy with rfl | rfl
    · exact hg1
    · exact hg2
  clear hd1 hb1 hg1 hg2 HN
  go_wp2_with fail
  refine HO.out.mono ?_
  rintro e w2 ⟨x, rfl, hc2, hb2, -⟩
  have HB2 : Hid (Below w.heap.size w w2) := HB1.out.trans (hb2.mono HB1.out.size)
  have hd2 := HD1.out.kept (X := []) (Kp.of hb2) (by simp) (by simp)
  have HS2 : Hid (Sw w2 x d g D0 0 []) := ⟨hc2, hd2, HC.out, hu1, fun _ => rfl⟩
  have HA := hid (awake_any w2)
  clear hc2 hb2 hd2 HO HB1 HD1 HC
  go_wp2_with fail
  refine HA.out.mono ?_
  rintro e w3 ⟨rfl, hb3⟩
  have HB3 : Hid (Below w.heap.size w w3) := HB2.out.trans (hb3.mono HB2.out.size)
  have HS3 := hid (HS2.out.stays hb3)
  clear hb3 HA HB2 HS2
  by_cases h0 : am = 0
  · subst h0
    have HLn0 := hid hu3
    clear hu1 hu2 hu3
    go_wp2
    go_loopw [11, 12, 13, 14] (fun s nx m i w' => ∃ (j n : Nat) (D : Dk) (t : List UInt8), j ≤ len ∧ j ≤ 12 ∧ n ≤ j ∧ s = .string ⟨t.toArray⟩ ∧ nx = .string ⟨t.toArray⟩ ∧ m = .int .i64 n ∧ i = .int .i64 j ∧ Hid (Sw w' x d g D n t) ∧ Hid (D.S.length = 40) ∧ Hid (Below w.heap.size w w')) (fun _ _ _ i _ => 12 - (intOf i).toNat)
    case atStart => exact ⟨0, 0, D0, [], by omega, by omega, by omega, rfl, rfl, rfl, rfl, HS3, HLn0, HB3⟩
    case round =>
      clear HS3 HB3 HLn0
      obtain ⟨j, n, D, t, hj, hj12, hn, rfl, rfl, rfl, rfl, HS, HLn, HB⟩ := hrel
      by_cases hlt : j < len
      · have e1 : decide ((j : Int) < (len : Int)) = true := by simpa using hlt
        have e2 : decide (j < len) = true := by simpa using hlt
        by_cases h12 : j < 12
        · have e3 : decide ((j : Int) < 12) = true := by simp; omega
          obtain ⟨b, off, tt, rfl, hc⟩ := HT.out j hlt
          have HCl : Hid (∀ V, Below w.heap.size w V → V.cell? ⟨b, off + j, none⟩ = some (.string ⟨tt.toArray⟩)) := fun V hb => cell_kept hc hb
          have q0 := HCl.out _ HB.out
          clear hc
          have HSv := hid (save_any HS.out.cell HS.out.disk (by have := HLn.out; omega) tt)
          by_cases hbig : 512 < tt.length
          · rw [save_big (by omega)] at HSv
            go_wp2_with fail
            refine HSv.out.mono ?_
            rintro e w4 ⟨rfl, hd4, k4⟩
            have HB4 : Hid (Below w.heap.size w w4) := HB.out.trans (k4.below HG.out HB.out.size)
            have HS4 : Hid (Sw w4 x d g D n t) := ⟨HS.out.cell.next HS.out.disk k4, hd4, HS.out.inv, HS.out.up, HS.out.zero⟩
            clear hd4 k4 HSv HS HB q0 HCl
            go_wp2
            go_roundw
            case rel => exact ⟨j + 1, n, D, t, by omega, by omega, by omega, rfl, rfl, rfl, by go_num, HS4, HLn, HB4⟩
            case measure => simp [intOf]; omega
          · rcases save_two HS.out.inv HS.out.up (t := tt) (by omega) (by omega) with ⟨D2, es, hiv, hup, hl2⟩ | ⟨D', es, hld, hmay⟩
            · rw [es] at HSv
              have HIv := hid hiv
              have HLn2 := hid (hl2.trans HLn.out)
              go_wp2_with fail
              refine HSv.out.mono ?_
              rintro e w4 ⟨rfl, hd4, k4⟩
              have HB4 : Hid (Below w.heap.size w w4) := HB.out.trans (k4.below HG.out HB.out.size)
              have HS4 : Hid (Sw w4 x d g D2 (n + 1) tt) := ⟨HS.out.cell.next HS.out.disk k4, hd4, HIv.out, hup, fun h => by omega⟩
              have q4 := HCl.out _ HB4.out
              clear hd4 k4 HSv HS HB q0 HCl HIv es HLn hiv hup hl2
              go_wp2
              go_roundw
              case rel => exact ⟨j + 1, n + 1, D2, tt, by omega, by omega, by omega, rfl, rfl, by go_num, by go_num, HS4, HLn2, HB4⟩
              case measure => simp [intOf]; omega
            · rw [es] at HSv
              have HMB := hid (hmay ks)
              go_wp2_with fail
              refine HSv.out.mono ?_
              rintro e w4 ⟨rfl, hd4, k4⟩
              have HB4 : Hid (Below w.heap.size w w4) := HB.out.trans (k4.below HG.out HB.out.size)
              have HDd := hid hd4
              have HLn := hid (hld.trans HLn.out)
              have q4 := HCl.out _ HB4.out
              clear hd4 k4 HSv HS HB q0 HCl es hmay hld
              have HCr := hid (crash_any HDd.out v ks (HI.out.kept HB4.out))
              go_wp2_with fail
              refine HCr.out.mono ?_
              rintro e w7 ⟨rfl, hd7, k7⟩
              have HB7 : Hid (Below w.heap.size w w7) := HB4.out.trans (k7.below HG.out HB4.out.size)
              have hlc : (crashD D' ks).S.length = D'.S.length := tearAll_len _ _
              have HO7 := hid (open_ok hd7 3 8 (by rw [hlc]; have := HLn.out; omega) (by omega) (by omega) rfl)
              have HD7 := hid hd7
              clear hd7 k7 HCr
              go_wp2_with fail
              refine HO7.out.mono ?_
              rintro e w8 ⟨x8, rfl, hc8, hb8, -⟩
              have HB8 : Hid (Below w.heap.size w w8) := HB7.out.trans (hb8.mono HB7.out.size)
              have HLo := hid (load_any hc8 (HD7.out.kept (X := []) (Kp.of hb8) (by simp) (by simp)) (by rw [hlc]; have := HLn.out; omega))
              clear hc8 hb8 HO7 HD7 HB7 hlc
              generalize loadP (crashD D' ks) 3 8 = LP at *
              rcases HMB.out with hLP | hLP
              · unfold loadR at hLP
                by_cases h0 : n = 0
                · rw [if_pos h0] at hLP
                  subst hLP
                  clear HMB
                  have hn0 : ((n : Int) == 0) = true := by simp [h0]
                  go_wp2_with fail
                  refine HLo.out.mono ?_
                  rintro e w9 ⟨rfl, hb9⟩
                  have HB9 : Hid (Below w.heap.size w w9) := HB8.out.trans (hb9.mono HB8.out.size)
                  clear hb9 HLo
                  go_wp2
                  go_ret
                  exact ⟨rfl, HB9.out⟩
                · rw [if_neg h0] at hLP
                  subst hLP
                  clear HMB
                  have hpos : decide ((0 : Int) < (n : Int)) = true := by simp; omega
                  go_wp2_with fail
                  refine HLo.out.mono ?_
                  rintro e w9 ⟨rfl, hb9⟩
                  have HB9 : Hid (Below w.heap.size w w9) := HB8.out.trans (hb9.mono HB8.out.size)
                  clear hb9 HLo
                  go_wp2
                  go_ret
                  exact ⟨rfl, HB9.out⟩
              · subst hLP
                clear HMB
                have hne : (((n + 1 : Nat) : Int) == (n : Int)) = false := by simp; omega
                have hne2 : (((n : Int) + 1) == (n : Int)) = false := by simp; omega
                by_cases htt : tt = t
                · subst htt
                  go_wp2_with fail
                  refine HLo.out.mono ?_
                  rintro e w9 ⟨rfl, hb9⟩
                  have HB9 : Hid (Below w.heap.size w w9) := HB8.out.trans (hb9.mono HB8.out.size)
                  clear hb9 HLo
                  go_wp2
                  go_ret
                  exact ⟨rfl, HB9.out⟩
                · have hbn : ¬ ((⟨tt.toArray⟩ : ByteArray) = ⟨t.toArray⟩) := fun e => htt (by have h9 := congrArg (fun b => b.data.toList) e; simpa using h9)
                  go_wp2_with fail
                  refine HLo.out.mono ?_
                  rintro e w9 ⟨rfl, hb9⟩
                  have HB9 : Hid (Below w.heap.size w w9) := HB8.out.trans (hb9.mono HB8.out.size)
                  clear hb9 HLo
                  go_wp2
                  go_ret
                  exact ⟨rfl, HB9.out⟩
        · have e3 : decide ((j : Int) < 12) = false := by simp; omega
          have HMB := hid ((HS.out.inv.crash ks).load rfl)
          have HDk := hid HS.out.disk
          clear HS
          have HCr := hid (crash_any HDk.out v ks (HI.out.kept HB.out))
          go_wp2_with fail
          refine HCr.out.mono ?_
          rintro e w7 ⟨rfl, hd7, k7⟩
          have HB7 : Hid (Below w.heap.size w w7) := HB.out.trans (k7.below HG.out HB.out.size)
          have hlc : (crashD D ks).S.length = D.S.length := tearAll_len _ _
          have HO7 := hid (open_ok hd7 3 8 (by rw [hlc]; have := HLn.out; omega) (by omega) (by omega) rfl)
          have HD7 := hid hd7
          clear hd7 k7 HCr
          go_wp2_with fail
          refine HO7.out.mono ?_
          rintro e w8 ⟨x8, rfl, hc8, hb8, -⟩
          have HB8 : Hid (Below w.heap.size w w8) := HB7.out.trans (hb8.mono HB7.out.size)
          have HLo := hid (load_any hc8 (HD7.out.kept (X := []) (Kp.of hb8) (by simp) (by simp)) (by rw [hlc]; have := HLn.out; omega))
          clear hc8 hb8 HO7 HD7 HB7 hlc
          generalize loadP (crashD D ks) 3 8 = LP at *
          have hLP := HMB.out
          unfold loadR at hLP
          by_cases h0 : n = 0
          · rw [if_pos h0] at hLP
            subst hLP
            clear HMB
            have hn0 : ((n : Int) == 0) = true := by simp [h0]
            go_wp2_with fail
            refine HLo.out.mono ?_
            rintro e w9 ⟨rfl, hb9⟩
            have HB9 : Hid (Below w.heap.size w w9) := HB8.out.trans (hb9.mono HB8.out.size)
            clear hb9 HLo
            go_wp2
            go_ret
            exact ⟨rfl, HB9.out⟩
          · rw [if_neg h0] at hLP
            subst hLP
            clear HMB
            have hpos : decide ((0 : Int) < (n : Int)) = true := by simp; omega
            go_wp2_with fail
            refine HLo.out.mono ?_
            rintro e w9 ⟨rfl, hb9⟩
            have HB9 : Hid (Below w.heap.size w w9) := HB8.out.trans (hb9.mono HB8.out.size)
            clear hb9 HLo
            go_wp2
            go_ret
            exact ⟨rfl, HB9.out⟩
      · have e1 : decide ((j : Int) < (len : Int)) = false := by simpa using hlt
        have e2 : decide (j < len) = false := by simpa using hlt
        have HMB := hid ((HS.out.inv.crash ks).load rfl)
        have HDk := hid HS.out.disk
        clear HS
        have HCr := hid (crash_any HDk.out v ks (HI.out.kept HB.out))
        go_wp2_with fail
        refine HCr.out.mono ?_
        rintro e w7 ⟨rfl, hd7, k7⟩
        have HB7 : Hid (Below w.heap.size w w7) := HB.out.trans (k7.below HG.out HB.out.size)
        have hlc : (crashD D ks).S.length = D.S.length := tearAll_len _ _
        have HO7 := hid (open_ok hd7 3 8 (by rw [hlc]; have := HLn.out; omega) (by omega) (by omega) rfl)
        have HD7 := hid hd7
        clear hd7 k7 HCr
        go_wp2_with fail
        refine HO7.out.mono ?_
        rintro e w8 ⟨x8, rfl, hc8, hb8, -⟩
        have HB8 : Hid (Below w.heap.size w w8) := HB7.out.trans (hb8.mono HB7.out.size)
        have HLo := hid (load_any hc8 (HD7.out.kept (X := []) (Kp.of hb8) (by simp) (by simp)) (by rw [hlc]; have := HLn.out; omega))
        clear hc8 hb8 HO7 HD7 HB7 hlc
        generalize loadP (crashD D ks) 3 8 = LP at *
        have hLP := HMB.out
        unfold loadR at hLP
        by_cases h0 : n = 0
        · rw [if_pos h0] at hLP
          subst hLP
          clear HMB
          have hn0 : ((n : Int) == 0) = true := by simp [h0]
          go_wp2_with fail
          refine HLo.out.mono ?_
          rintro e w9 ⟨rfl, hb9⟩
          have HB9 : Hid (Below w.heap.size w w9) := HB8.out.trans (hb9.mono HB8.out.size)
          clear hb9 HLo
          go_wp2
          go_ret
          exact ⟨rfl, HB9.out⟩
        · rw [if_neg h0] at hLP
          subst hLP
          clear HMB
          have hpos : decide ((0 : Int) < (n : Int)) = true := by simp; omega
          go_wp2_with fail
          refine HLo.out.mono ?_
          rintro e w9 ⟨rfl, hb9⟩
          have HB9 : Hid (Below w.heap.size w w9) := HB8.out.trans (hb9.mono HB8.out.size)
          clear hb9 HLo
          go_wp2
          go_ret
          exact ⟨rfl, HB9.out⟩
  · have d0 : decide ((0 : Int) < (am : Int)) = true := by simp; omega
    have HAm := hid (arm_any HS3.out.disk am (by omega))
    obtain ⟨as1, as2⟩ := arm_up (D := D0) am hu1
    have HLn0 : Hid ((armD D0 am).S.length = 40) := by show _ = _; rw [as1]; exact hu3
    go_wp2_with fail
    refine HAm.out.mono ?_
    rintro e w5 ⟨rfl, hd5, k5⟩
    have k5' : Kp [d, g] w3 w5 := k5.drop (by simp)
    have HB5 : Hid (Below w.heap.size w w5) := HB3.out.trans (k5'.below HG.out HB3.out.size)
    have HS5 := hid (HS3.out.armed k5' hd5 as1 as2)
    clear hd5 k5 k5' HAm HS3 HB3 hu1 hu2 hu3 as1 as2
    generalize armD D0 am = D1 at *
    go_wp2
    go_loopw [11, 12, 13, 14] (fun s nx m i w' => ∃ (j n : Nat) (D : Dk) (t : List UInt8), j ≤ len ∧ j ≤ 12 ∧ n ≤ j ∧ s = .string ⟨t.toArray⟩ ∧ nx = .string ⟨t.toArray⟩ ∧ m = .int .i64 n ∧ i = .int .i64 j ∧ Hid (Sw w' x d g D n t) ∧ Hid (D.S.length = 40) ∧ Hid (Below w.heap.size w w')) (fun _ _ _ i _ => 12 - (intOf i).toNat)
    case atStart => exact ⟨0, 0, D1, [], by omega, by omega, by omega, rfl, rfl, rfl, rfl, HS5, HLn0, HB5⟩
    case round =>
      clear HS5 HB5 HLn0
      obtain ⟨j, n, D, t, hj, hj12, hn, rfl, rfl, rfl, rfl, HS, HLn, HB⟩ := hrel
      by_cases hlt : j < len
      · have e1 : decide ((j : Int) < (len : Int)) = true := by simpa using hlt
        have e2 : decide (j < len) = true := by simpa using hlt
        by_cases h12 : j < 12
        · have e3 : decide ((j : Int) < 12) = true := by simp; omega
          obtain ⟨b, off, tt, rfl, hc⟩ := HT.out j hlt
          have HCl : Hid (∀ V, Below w.heap.size w V → V.cell? ⟨b, off + j, none⟩ = some (.string ⟨tt.toArray⟩)) := fun V hb => cell_kept hc hb
          have q0 := HCl.out _ HB.out
          clear hc
          have HSv := hid (save_any HS.out.cell HS.out.disk (by have := HLn.out; omega) tt)
          by_cases hbig : 512 < tt.length
          · rw [save_big (by omega)] at HSv
            go_wp2_with fail
            refine HSv.out.mono ?_
            rintro e w4 ⟨rfl, hd4, k4⟩
            have HB4 : Hid (Below w.heap.size w w4) := HB.out.trans (k4.below HG.out HB.out.size)
            have HS4 : Hid (Sw w4 x d g D n t) := ⟨HS.out.cell.next HS.out.disk k4, hd4, HS.out.inv, HS.out.up, HS.out.zero⟩
            clear hd4 k4 HSv HS HB q0 HCl
            go_wp2
            go_roundw
            case rel => exact ⟨j + 1, n, D, t, by omega, by omega, by omega, rfl, rfl, rfl, by go_num, HS4, HLn, HB4⟩
            case measure => simp [intOf]; omega
          · rcases save_two HS.out.inv HS.out.up (t := tt) (by omega) (by omega) with ⟨D2, es, hiv, hup, hl2⟩ | ⟨D', es, hld, hmay⟩
            · rw [es] at HSv
              have HIv := hid hiv
              have HLn2 := hid (hl2.trans HLn.out)
              go_wp2_with fail
              refine HSv.out.mono ?_
              rintro e w4 ⟨rfl, hd4, k4⟩
              have HB4 : Hid (Below w.heap.size w w4) := HB.out.trans (k4.below HG.out HB.out.size)
              have HS4 : Hid (Sw w4 x d g D2 (n + 1) tt) := ⟨HS.out.cell.next HS.out.disk k4, hd4, HIv.out, hup, fun h => by omega⟩
              have q4 := HCl.out _ HB4.out
              clear hd4 k4 HSv HS HB q0 HCl HIv es HLn hiv hup hl2
              go_wp2
              go_roundw
              case rel => exact ⟨j + 1, n + 1, D2, tt, by omega, by omega, by omega, rfl, rfl, by go_num, by go_num, HS4, HLn2, HB4⟩
              case measure => simp [intOf]; omega
            · rw [es] at HSv
              have HMB := hid (hmay ks)
              go_wp2_with fail
              refine HSv.out.mono ?_
              rintro e w4 ⟨rfl, hd4, k4⟩
              have HB4 : Hid (Below w.heap.size w w4) := HB.out.trans (k4.below HG.out HB.out.size)
              have HDd := hid hd4
              have HLn := hid (hld.trans HLn.out)
              have q4 := HCl.out _ HB4.out
              clear hd4 k4 HSv HS HB q0 HCl es hmay hld
              have HCr := hid (crash_any HDd.out v ks (HI.out.kept HB4.out))
              go_wp2_with fail
              refine HCr.out.mono ?_
              rintro e w7 ⟨rfl, hd7, k7⟩
              have HB7 : Hid (Below w.heap.size w w7) := HB4.out.trans (k7.below HG.out HB4.out.size)
              have hlc : (crashD D' ks).S.length = D'.S.length := tearAll_len _ _
              have HO7 := hid (open_ok hd7 3 8 (by rw [hlc]; have := HLn.out; omega) (by omega) (by omega) rfl)
              have HD7 := hid hd7
              clear hd7 k7 HCr
              go_wp2_with fail
              refine HO7.out.mono ?_
              rintro e w8 ⟨x8, rfl, hc8, hb8, -⟩
              have HB8 : Hid (Below w.heap.size w w8) := HB7.out.trans (hb8.mono HB7.out.size)
              have HLo := hid (load_any hc8 (HD7.out.kept (X := []) (Kp.of hb8) (by simp) (by simp)) (by rw [hlc]; have := HLn.out; omega))
              clear hc8 hb8 HO7 HD7 HB7 hlc
              generalize loadP (crashD D' ks) 3 8 = LP at *
              rcases HMB.out with hLP | hLP
              · unfold loadR at hLP
                by_cases h0 : n = 0
                · rw [if_pos h0] at hLP
                  subst hLP
                  clear HMB
                  have hn0 : ((n : Int) == 0) = true := by simp [h0]
                  go_wp2_with fail
                  refine HLo.out.mono ?_
                  rintro e w9 ⟨rfl, hb9⟩
                  have HB9 : Hid (Below w.heap.size w w9) := HB8.out.trans (hb9.mono HB8.out.size)
                  clear hb9 HLo
                  go_wp2
                  go_ret
                  exact ⟨rfl, HB9.out⟩
                · rw [if_neg h0] at hLP
                  subst hLP
                  clear HMB
                  have hpos : decide ((0 : Int) < (n : Int)) = true := by simp; omega
                  go_wp2_with fail
                  refine HLo.out.mono ?_
                  rintro e w9 ⟨rfl, hb9⟩
                  have HB9 : Hid (Below w.heap.size w w9) := HB8.out.trans (hb9.mono HB8.out.size)
                  clear hb9 HLo
                  go_wp2
                  go_ret
                  exact ⟨rfl, HB9.out⟩
              · subst hLP
                clear HMB
                have hne : (((n + 1 : Nat) : Int) == (n : Int)) = false := by simp; omega
                have hne2 : (((n : Int) + 1) == (n : Int)) = false := by simp; omega
                by_cases htt : tt = t
                · subst htt
                  go_wp2_with fail
                  refine HLo.out.mono ?_
                  rintro e w9 ⟨rfl, hb9⟩
                  have HB9 : Hid (Below w.heap.size w w9) := HB8.out.trans (hb9.mono HB8.out.size)
                  clear hb9 HLo
                  go_wp2
                  go_ret
                  exact ⟨rfl, HB9.out⟩
                · have hbn : ¬ ((⟨tt.toArray⟩ : ByteArray) = ⟨t.toArray⟩) := fun e => htt (by have h9 := congrArg (fun b => b.data.toList) e; simpa using h9)
                  go_wp2_with fail
                  refine HLo.out.mono ?_
                  rintro e w9 ⟨rfl, hb9⟩
                  have HB9 : Hid (Below w.heap.size w w9) := HB8.out.trans (hb9.mono HB8.out.size)
                  clear hb9 HLo
                  go_wp2
                  go_ret
                  exact ⟨rfl, HB9.out⟩
        · have e3 : decide ((j : Int) < 12) = false := by simp; omega
          have HMB := hid ((HS.out.inv.crash ks).load rfl)
          have HDk := hid HS.out.disk
          clear HS
          have HCr := hid (crash_any HDk.out v ks (HI.out.kept HB.out))
          go_wp2_with fail
          refine HCr.out.mono ?_
          rintro e w7 ⟨rfl, hd7, k7⟩
          have HB7 : Hid (Below w.heap.size w w7) := HB.out.trans (k7.below HG.out HB.out.size)
          have hlc : (crashD D ks).S.length = D.S.length := tearAll_len _ _
          have HO7 := hid (open_ok hd7 3 8 (by rw [hlc]; have := HLn.out; omega) (by omega) (by omega) rfl)
          have HD7 := hid hd7
          clear hd7 k7 HCr
          go_wp2_with fail
          refine HO7.out.mono ?_
          rintro e w8 ⟨x8, rfl, hc8, hb8, -⟩
          have HB8 : Hid (Below w.heap.size w w8) := HB7.out.trans (hb8.mono HB7.out.size)
          have HLo := hid (load_any hc8 (HD7.out.kept (X := []) (Kp.of hb8) (by simp) (by simp)) (by rw [hlc]; have := HLn.out; omega))
          clear hc8 hb8 HO7 HD7 HB7 hlc
          generalize loadP (crashD D ks) 3 8 = LP at *
          have hLP := HMB.out
          unfold loadR at hLP
          by_cases h0 : n = 0
          · rw [if_pos h0] at hLP
            subst hLP
            clear HMB
            have hn0 : ((n : Int) == 0) = true := by simp [h0]
            go_wp2_with fail
            refine HLo.out.mono ?_
            rintro e w9 ⟨rfl, hb9⟩
            have HB9 : Hid (Below w.heap.size w w9) := HB8.out.trans (hb9.mono HB8.out.size)
            clear hb9 HLo
            go_wp2
            go_ret
            exact ⟨rfl, HB9.out⟩
          · rw [if_neg h0] at hLP
            subst hLP
            clear HMB
            have hpos : decide ((0 : Int) < (n : Int)) = true := by simp; omega
            go_wp2_with fail
            refine HLo.out.mono ?_
            rintro e w9 ⟨rfl, hb9⟩
            have HB9 : Hid (Below w.heap.size w w9) := HB8.out.trans (hb9.mono HB8.out.size)
            clear hb9 HLo
            go_wp2
            go_ret
            exact ⟨rfl, HB9.out⟩
      · have e1 : decide ((j : Int) < (len : Int)) = false := by simpa using hlt
        have e2 : decide (j < len) = false := by simpa using hlt
        have HMB := hid ((HS.out.inv.crash ks).load rfl)
        have HDk := hid HS.out.disk
        clear HS
        have HCr := hid (crash_any HDk.out v ks (HI.out.kept HB.out))
        go_wp2_with fail
        refine HCr.out.mono ?_
        rintro e w7 ⟨rfl, hd7, k7⟩
        have HB7 : Hid (Below w.heap.size w w7) := HB.out.trans (k7.below HG.out HB.out.size)
        have hlc : (crashD D ks).S.length = D.S.length := tearAll_len _ _
        have HO7 := hid (open_ok hd7 3 8 (by rw [hlc]; have := HLn.out; omega) (by omega) (by omega) rfl)
        have HD7 := hid hd7
        clear hd7 k7 HCr
        go_wp2_with fail
        refine HO7.out.mono ?_
        rintro e w8 ⟨x8, rfl, hc8, hb8, -⟩
        have HB8 : Hid (Below w.heap.size w w8) := HB7.out.trans (hb8.mono HB7.out.size)
        have HLo := hid (load_any hc8 (HD7.out.kept (X := []) (Kp.of hb8) (by simp) (by simp)) (by rw [hlc]; have := HLn.out; omega))
        clear hc8 hb8 HO7 HD7 HB7 hlc
        generalize loadP (crashD D ks) 3 8 = LP at *
        have hLP := HMB.out
        unfold loadR at hLP
        by_cases h0 : n = 0
        · rw [if_pos h0] at hLP
          subst hLP
          clear HMB
          have hn0 : ((n : Int) == 0) = true := by simp [h0]
          go_wp2_with fail
          refine HLo.out.mono ?_
          rintro e w9 ⟨rfl, hb9⟩
          have HB9 : Hid (Below w.heap.size w w9) := HB8.out.trans (hb9.mono HB8.out.size)
          clear hb9 HLo
          go_wp2
          go_ret
          exact ⟨rfl, HB9.out⟩
        · rw [if_neg h0] at hLP
          subst hLP
          clear HMB
          have hpos : decide ((0 : Int) < (n : Int)) = true := by simp; omega
          go_wp2_with fail
          refine HLo.out.mono ?_
          rintro e w9 ⟨rfl, hb9⟩
          have HB9 : Hid (Below w.heap.size w w9) := HB8.out.trans (hb9.mono HB8.out.size)
          clear hb9 HLo
          go_wp2
          go_ret
          exact ⟨rfl, HB9.out⟩
end Go.Proofs.Ytgbpdljnognkdaa
