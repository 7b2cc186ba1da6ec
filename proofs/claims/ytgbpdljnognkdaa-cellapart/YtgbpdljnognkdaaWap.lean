/-
  CellApart answers true: two cells on one disk do not touch each other.
-/
import Derived.Test.YtgbpdljnognkdaaWsv
namespace Go.Proofs.Ytgbpdljnognkdaa
open Go Go.RowKit
set_option maxRecDepth 100000

/-- Two cells on one disk, and what they have. -/
structure Two (w : World) (x y : Cx) (d g : Nat) (D : Dk) (n : Nat) (u : List UInt8) (m : Nat) (v : List UInt8) : Prop where
  ca : CellAt w x d 0 3
  cb : CellAt w y d 8 5
  disk : DiskAt w d g D
  ia : CInv D 0 3 n u
  ib : CInv D 8 5 m v
  up : D.down = false
  calm : D.armed = 0
  za : n = 0 → u = []
  zb : m = 0 → v = []
theorem Two.len {w : World} {x y : Cx} {d g : Nat} {D : Dk} {n : Nat} {u : List UInt8} {m : Nat} {v : List UInt8} (h : Two w x y d g D n u m v) : 20 ≤ D.S.length := h.ib.len
theorem Two.stays {w w' : World} {x y : Cx} {d g : Nat} {D : Dk} {n : Nat} {u : List UInt8} {m : Nat} {v : List UInt8} (h : Two w x y d g D n u m v) (hb : Below w.heap.size w w') : Two w' x y d g D n u m v :=
  ⟨h.ca.stays hb, h.cb.stays hb, h.disk.kept (X := []) (Kp.of hb) (by simp) (by simp), h.ia, h.ib, h.up, h.calm, h.za, h.zb⟩
theorem load_txt {n : Nat} {t : List UInt8} (h : n = 0 → t = []) : (loadR n t).1 = t := by
  unfold loadR
  by_cases h0 : n = 0
  · rw [if_pos h0, h h0]
  · rw [if_neg h0]

set_option maxHeartbeats 8000000 in
theorem apart_walk (w : World) (a : Option Addr) (len cap : Nat) (hT : TextsAt w a len) (a2 : Option Addr) (len2 cap2 : Nat) (hT2 : TextsAt w a2 len2) : Calls Try.prog 6 #[.slice a len cap, .slice a2 len2 cap2] w fun e w' => e = .returned (.bool true) ∧ Below w.heap.size w w' := by
  have HT := hid hT
  have HT2 := hid hT2
  have HN := hid (new_ok w 40 (by omega) (by omega))
  have HCa := hid (CInv.new 40 0 3 (by omega) (by omega))
  have HCb := hid (CInv.new 40 8 5 (by omega) (by omega))
  obtain ⟨hu1, hu2, hu3⟩ := newD_up 40
  clear hT hT2
  generalize newD 40 = D0 at *
  go_enter Try.func6, Try.ntmps6
  go_wp2_with fail
  refine HN.out.mono ?_
  rintro e w1 ⟨d, g, rfl, hd1, hb1, hg1, hg2⟩
  have HB1 := hid hb1
  have HO := hid (open_ok hd1 0 3 (by omega) (by omega) (by omega) hu1)
  have HD1 := hid hd1
  have HG : Hid (∀ y ∈ [d, g], w.heap.size ≤ y) := by
    intro y hy
    simp only [List.mem_cons, List.not_mem_nil, or_false] at hy
    rcases hy with rfl | rfl
    · exact hg1
    · exact hg2
  clear hd1 hb1 hg1 hg2 HN
  go_wp2_with fail
  refine HO.out.mono ?_
  rintro e w2 ⟨x, rfl, hc2, hb2, -⟩
  have HB2 : Hid (Below w.heap.size w w2) := HB1.out.trans (hb2.mono HB1.out.size)
  have hd2 := HD1.out.kept (X := []) (Kp.of hb2) (by simp) (by simp)
  have HC2 := hid hc2
  have HD2 := hid hd2
  have HO2 := hid (open_ok hd2 8 5 (by omega) (by omega) (by omega) hu1)
  clear hc2 hb2 hd2 HO HB1 HD1
  go_wp2_with fail
  refine HO2.out.mono ?_
  rintro e w2b ⟨y, rfl, hc2b, hb2b, -⟩
  have HB2b : Hid (Below w.heap.size w w2b) := HB2.out.trans (hb2b.mono HB2.out.size)
  have HTw : Hid (Two w2b x y d g D0 0 [] 0 []) := ⟨HC2.out.stays hb2b, hc2b, HD2.out.kept (X := []) (Kp.of hb2b) (by simp) (by simp), HCa.out, HCb.out, hu1, hu2, fun _ => rfl, fun _ => rfl⟩
  have HA := hid (awake_any w2b)
  clear hc2b hb2b HB2 HC2 HD2 HO2 HCa HCb hu1 hu2 hu3
  go_wp2_with fail
  refine HA.out.mono ?_
  rintro e w3 ⟨rfl, hb3⟩
  have HB3 : Hid (Below w.heap.size w w3) := HB2b.out.trans (hb3.mono HB2b.out.size)
  have HS3 := hid (HTw.out.stays hb3)
  clear hb3 HA HB2b HTw
  go_wp2
  go_loopw [11, 12, 13] (fun s t i w' => ∃ (j n m : Nat) (D : Dk) (u v : List UInt8), j ≤ 12 ∧ n ≤ j ∧ m ≤ j ∧ s = .string ⟨u.toArray⟩ ∧ t = .string ⟨v.toArray⟩ ∧ i = .int .i64 j ∧ Hid (Two w' x y d g D n u m v) ∧ Hid (Below w.heap.size w w')) (fun _ _ i _ => 12 - (intOf i).toNat)
  case atStart => exact ⟨0, 0, 0, D0, [], [], by omega, by omega, by omega, rfl, rfl, rfl, HS3, HB3⟩
  case round =>
    clear HS3 HB3
    obtain ⟨j, n, m, D, u, v, hj12, hn, hm, rfl, rfl, rfl, HS, HB⟩ := hrel
    by_cases h12 : j < 12
    · have e3 : decide ((j : Int) < 12) = true := by simp; omega
      by_cases hl1 : j < len
      · have e1 : decide ((j : Int) < (len : Int)) = true := by simpa using hl1
        have e2 : decide (j < len) = true := by simpa using hl1
        obtain ⟨b, off, t, rfl, hc⟩ := HT.out j hl1
        have HCl : Hid (∀ V, Below w.heap.size w V → V.cell? ⟨b, off + j, none⟩ = some (.string ⟨t.toArray⟩)) := fun V hb => cell_kept hc hb
        have q0 := HCl.out _ HB.out
        clear hc
        have HSv := hid (save_any HS.out.ca HS.out.disk (by have := HS.out.len; omega) t)
        by_cases hbig : 192 < t.length
        · rw [save_big (by omega)] at HSv
          go_wp2_with fail
          refine HSv.out.mono ?_
          rintro e w4 ⟨rfl, hd4, k4⟩
          have HBS4 : Hid (Below w.heap.size w w4) := HB.out.trans (k4.below HG.out HB.out.size)
          have HS4 : Hid (Two w4 x y d g D n u m v) := ⟨HS.out.ca.next HS.out.disk k4, HS.out.cb.next HS.out.disk k4, hd4, HS.out.ia, HS.out.ib, HS.out.up, HS.out.calm, HS.out.za, HS.out.zb⟩
          clear hd4 k4 HSv HS HB q0 HCl
          by_cases hl2 : j < len2
          · have e4 : decide ((j : Int) < (len2 : Int)) = true := by simpa using hl2
            have e5 : decide (j < len2) = true := by simpa using hl2
            obtain ⟨b2, off2, t2, rfl, hc2⟩ := HT2.out j hl2
            have HCl2 : Hid (∀ V, Below w.heap.size w V → V.cell? ⟨b2, off2 + j, none⟩ = some (.string ⟨t2.toArray⟩)) := fun V hb => cell_kept hc2 hb
            have q5 := HCl2.out _ HBS4.out
            clear hc2
            have HSw := hid (save_any HS4.out.cb HS4.out.disk (by have := HS4.out.len; omega) t2)
            by_cases hbg2 : 320 < t2.length
            · rw [save_big (by omega)] at HSw
              go_wp2_with fail
              refine HSw.out.mono ?_
              rintro e w6 ⟨rfl, hd6, k6⟩
              have HBS6 : Hid (Below w.heap.size w w6) := HBS4.out.trans (k6.below HG.out HBS4.out.size)
              have HS6 : Hid (Two w6 x y d g D n u m v) := ⟨HS4.out.ca.next HS4.out.disk k6, HS4.out.cb.next HS4.out.disk k6, hd6, HS4.out.ia, HS4.out.ib, HS4.out.up, HS4.out.calm, HS4.out.za, HS4.out.zb⟩
              clear hd6 k6 HSw HS4 HBS4 q5 HCl2
              have HLa := hid (load_any HS6.out.ca HS6.out.disk (by have := HS6.out.len; omega))
              rw [HS6.out.ia.load HS6.out.up] at HLa
              have ela := load_txt HS6.out.za
              have elb := load_txt HS6.out.zb
              rw [ela] at HLa
              go_wp2_with fail
              refine HLa.out.mono ?_
              rintro e w8 ⟨rfl, hb8⟩
              have HB8 : Hid (Below w.heap.size w w8) := HBS6.out.trans (hb8.mono HBS6.out.size)
              have HS8 := hid (HS6.out.stays hb8)
              clear hb8 HLa HS6 HBS6
              have HLb := hid (load_any HS8.out.cb HS8.out.disk (by have := HS8.out.len; omega))
              rw [HS8.out.ib.load HS8.out.up, elb] at HLb
              go_wp2_with fail
              refine HLb.out.mono ?_
              rintro e w9 ⟨rfl, hb9⟩
              have HB9 : Hid (Below w.heap.size w w9) := HB8.out.trans (hb9.mono HB8.out.size)
              have HS9 := hid (HS8.out.stays hb9)
              clear hb9 HLb HS8 HB8
              go_wp2
              go_roundw
              case rel => exact ⟨j + 1, n, m, D, u, v, by omega, by omega, by omega, rfl, rfl, by go_num, HS9, HB9⟩
              case measure => simp [intOf]; omega
            · obtain ⟨D2, es2, cb2, ca2, up2, calm2, -⟩ := save_other HS4.out.ib HS4.out.ia HS4.out.up HS4.out.calm (t := t2) (by omega) (by omega) (by omega)
              rw [es2] at HSw
              go_wp2_with fail
              refine HSw.out.mono ?_
              rintro e w6 ⟨rfl, hd6, k6⟩
              have HBS6 : Hid (Below w.heap.size w w6) := HBS4.out.trans (k6.below HG.out HBS4.out.size)
              have HS6 : Hid (Two w6 x y d g D2 n u (m + 1) t2) := ⟨HS4.out.ca.next HS4.out.disk k6, HS4.out.cb.next HS4.out.disk k6, hd6, ca2, cb2, up2, calm2, HS4.out.za, fun h => by omega⟩
              have q6 := HCl2.out _ HBS6.out
              clear hd6 k6 HSw HS4 HBS4 q5 HCl2 es2 cb2 ca2 up2 calm2
              have HLa := hid (load_any HS6.out.ca HS6.out.disk (by have := HS6.out.len; omega))
              rw [HS6.out.ia.load HS6.out.up] at HLa
              have ela := load_txt HS6.out.za
              have elb := load_txt HS6.out.zb
              rw [ela] at HLa
              go_wp2_with fail
              refine HLa.out.mono ?_
              rintro e w8 ⟨rfl, hb8⟩
              have HB8 : Hid (Below w.heap.size w w8) := HBS6.out.trans (hb8.mono HBS6.out.size)
              have HS8 := hid (HS6.out.stays hb8)
              clear hb8 HLa HS6 HBS6
              have HLb := hid (load_any HS8.out.cb HS8.out.disk (by have := HS8.out.len; omega))
              rw [HS8.out.ib.load HS8.out.up, elb] at HLb
              go_wp2_with fail
              refine HLb.out.mono ?_
              rintro e w9 ⟨rfl, hb9⟩
              have HB9 : Hid (Below w.heap.size w w9) := HB8.out.trans (hb9.mono HB8.out.size)
              have HS9 := hid (HS8.out.stays hb9)
              clear hb9 HLb HS8 HB8
              go_wp2
              go_roundw
              case rel => exact ⟨j + 1, n, m + 1, D2, u, t2, by omega, by omega, by omega, rfl, rfl, by go_num, HS9, HB9⟩
              case measure => simp [intOf]; omega
          · have e4 : decide ((j : Int) < (len2 : Int)) = false := by simpa using hl2
            have e5 : decide (j < len2) = false := by simpa using hl2
            have HLa := hid (load_any HS4.out.ca HS4.out.disk (by have := HS4.out.len; omega))
            rw [HS4.out.ia.load HS4.out.up] at HLa
            have ela := load_txt HS4.out.za
            have elb := load_txt HS4.out.zb
            rw [ela] at HLa
            go_wp2_with fail
            refine HLa.out.mono ?_
            rintro e w8 ⟨rfl, hb8⟩
            have HB8 : Hid (Below w.heap.size w w8) := HBS4.out.trans (hb8.mono HBS4.out.size)
            have HS8 := hid (HS4.out.stays hb8)
            clear hb8 HLa HS4 HBS4
            have HLb := hid (load_any HS8.out.cb HS8.out.disk (by have := HS8.out.len; omega))
            rw [HS8.out.ib.load HS8.out.up, elb] at HLb
            go_wp2_with fail
            refine HLb.out.mono ?_
            rintro e w9 ⟨rfl, hb9⟩
            have HB9 : Hid (Below w.heap.size w w9) := HB8.out.trans (hb9.mono HB8.out.size)
            have HS9 := hid (HS8.out.stays hb9)
            clear hb9 HLb HS8 HB8
            go_wp2
            go_roundw
            case rel => exact ⟨j + 1, n, m, D, u, v, by omega, by omega, by omega, rfl, rfl, by go_num, HS9, HB9⟩
            case measure => simp [intOf]; omega
        · obtain ⟨D1, es1, ca1, cb1, up1, calm1, -⟩ := save_other HS.out.ia HS.out.ib HS.out.up HS.out.calm (t := t) (by omega) (by omega) (by omega)
          rw [es1] at HSv
          go_wp2_with fail
          refine HSv.out.mono ?_
          rintro e w4 ⟨rfl, hd4, k4⟩
          have HBS4 : Hid (Below w.heap.size w w4) := HB.out.trans (k4.below HG.out HB.out.size)
          have HS4 : Hid (Two w4 x y d g D1 (n + 1) t m v) := ⟨HS.out.ca.next HS.out.disk k4, HS.out.cb.next HS.out.disk k4, hd4, ca1, cb1, up1, calm1, fun h => by omega, HS.out.zb⟩
          have q4 := HCl.out _ HBS4.out
          clear hd4 k4 HSv HS HB q0 HCl es1 ca1 cb1 up1 calm1
          by_cases hl2 : j < len2
          · have e4 : decide ((j : Int) < (len2 : Int)) = true := by simpa using hl2
            have e5 : decide (j < len2) = true := by simpa using hl2
            obtain ⟨b2, off2, t2, rfl, hc2⟩ := HT2.out j hl2
            have HCl2 : Hid (∀ V, Below w.heap.size w V → V.cell? ⟨b2, off2 + j, none⟩ = some (.string ⟨t2.toArray⟩)) := fun V hb => cell_kept hc2 hb
            have q5 := HCl2.out _ HBS4.out
            clear hc2
            have HSw := hid (save_any HS4.out.cb HS4.out.disk (by have := HS4.out.len; omega) t2)
            by_cases hbg2 : 320 < t2.length
            · rw [save_big (by omega)] at HSw
              go_wp2_with fail
              refine HSw.out.mono ?_
              rintro e w6 ⟨rfl, hd6, k6⟩
              have HBS6 : Hid (Below w.heap.size w w6) := HBS4.out.trans (k6.below HG.out HBS4.out.size)
              have HS6 : Hid (Two w6 x y d g D1 (n + 1) t m v) := ⟨HS4.out.ca.next HS4.out.disk k6, HS4.out.cb.next HS4.out.disk k6, hd6, HS4.out.ia, HS4.out.ib, HS4.out.up, HS4.out.calm, HS4.out.za, HS4.out.zb⟩
              clear hd6 k6 HSw HS4 HBS4 q5 HCl2
              have HLa := hid (load_any HS6.out.ca HS6.out.disk (by have := HS6.out.len; omega))
              rw [HS6.out.ia.load HS6.out.up] at HLa
              have ela := load_txt HS6.out.za
              have elb := load_txt HS6.out.zb
              rw [ela] at HLa
              go_wp2_with fail
              refine HLa.out.mono ?_
              rintro e w8 ⟨rfl, hb8⟩
              have HB8 : Hid (Below w.heap.size w w8) := HBS6.out.trans (hb8.mono HBS6.out.size)
              have HS8 := hid (HS6.out.stays hb8)
              clear hb8 HLa HS6 HBS6
              have HLb := hid (load_any HS8.out.cb HS8.out.disk (by have := HS8.out.len; omega))
              rw [HS8.out.ib.load HS8.out.up, elb] at HLb
              go_wp2_with fail
              refine HLb.out.mono ?_
              rintro e w9 ⟨rfl, hb9⟩
              have HB9 : Hid (Below w.heap.size w w9) := HB8.out.trans (hb9.mono HB8.out.size)
              have HS9 := hid (HS8.out.stays hb9)
              clear hb9 HLb HS8 HB8
              go_wp2
              go_roundw
              case rel => exact ⟨j + 1, (n + 1), m, D1, t, v, by omega, by omega, by omega, rfl, rfl, by go_num, HS9, HB9⟩
              case measure => simp [intOf]; omega
            · obtain ⟨D2, es2, cb2, ca2, up2, calm2, -⟩ := save_other HS4.out.ib HS4.out.ia HS4.out.up HS4.out.calm (t := t2) (by omega) (by omega) (by omega)
              rw [es2] at HSw
              go_wp2_with fail
              refine HSw.out.mono ?_
              rintro e w6 ⟨rfl, hd6, k6⟩
              have HBS6 : Hid (Below w.heap.size w w6) := HBS4.out.trans (k6.below HG.out HBS4.out.size)
              have HS6 : Hid (Two w6 x y d g D2 (n + 1) t (m + 1) t2) := ⟨HS4.out.ca.next HS4.out.disk k6, HS4.out.cb.next HS4.out.disk k6, hd6, ca2, cb2, up2, calm2, HS4.out.za, fun h => by omega⟩
              have q6 := HCl2.out _ HBS6.out
              clear hd6 k6 HSw HS4 HBS4 q5 HCl2 es2 cb2 ca2 up2 calm2
              have HLa := hid (load_any HS6.out.ca HS6.out.disk (by have := HS6.out.len; omega))
              rw [HS6.out.ia.load HS6.out.up] at HLa
              have ela := load_txt HS6.out.za
              have elb := load_txt HS6.out.zb
              rw [ela] at HLa
              go_wp2_with fail
              refine HLa.out.mono ?_
              rintro e w8 ⟨rfl, hb8⟩
              have HB8 : Hid (Below w.heap.size w w8) := HBS6.out.trans (hb8.mono HBS6.out.size)
              have HS8 := hid (HS6.out.stays hb8)
              clear hb8 HLa HS6 HBS6
              have HLb := hid (load_any HS8.out.cb HS8.out.disk (by have := HS8.out.len; omega))
              rw [HS8.out.ib.load HS8.out.up, elb] at HLb
              go_wp2_with fail
              refine HLb.out.mono ?_
              rintro e w9 ⟨rfl, hb9⟩
              have HB9 : Hid (Below w.heap.size w w9) := HB8.out.trans (hb9.mono HB8.out.size)
              have HS9 := hid (HS8.out.stays hb9)
              clear hb9 HLb HS8 HB8
              go_wp2
              go_roundw
              case rel => exact ⟨j + 1, (n + 1), m + 1, D2, t, t2, by omega, by omega, by omega, rfl, rfl, by go_num, HS9, HB9⟩
              case measure => simp [intOf]; omega
          · have e4 : decide ((j : Int) < (len2 : Int)) = false := by simpa using hl2
            have e5 : decide (j < len2) = false := by simpa using hl2
            have HLa := hid (load_any HS4.out.ca HS4.out.disk (by have := HS4.out.len; omega))
            rw [HS4.out.ia.load HS4.out.up] at HLa
            have ela := load_txt HS4.out.za
            have elb := load_txt HS4.out.zb
            rw [ela] at HLa
            go_wp2_with fail
            refine HLa.out.mono ?_
            rintro e w8 ⟨rfl, hb8⟩
            have HB8 : Hid (Below w.heap.size w w8) := HBS4.out.trans (hb8.mono HBS4.out.size)
            have HS8 := hid (HS4.out.stays hb8)
            clear hb8 HLa HS4 HBS4
            have HLb := hid (load_any HS8.out.cb HS8.out.disk (by have := HS8.out.len; omega))
            rw [HS8.out.ib.load HS8.out.up, elb] at HLb
            go_wp2_with fail
            refine HLb.out.mono ?_
            rintro e w9 ⟨rfl, hb9⟩
            have HB9 : Hid (Below w.heap.size w w9) := HB8.out.trans (hb9.mono HB8.out.size)
            have HS9 := hid (HS8.out.stays hb9)
            clear hb9 HLb HS8 HB8
            go_wp2
            go_roundw
            case rel => exact ⟨j + 1, (n + 1), m, D1, t, v, by omega, by omega, by omega, rfl, rfl, by go_num, HS9, HB9⟩
            case measure => simp [intOf]; omega
      · have e1 : decide ((j : Int) < (len : Int)) = false := by simpa using hl1
        have e2 : decide (j < len) = false := by simpa using hl1
        have HS4 := HS
        have HBS4 := HB
        clear HS HB
        by_cases hl2 : j < len2
        · have e4 : decide ((j : Int) < (len2 : Int)) = true := by simpa using hl2
          have e5 : decide (j < len2) = true := by simpa using hl2
          obtain ⟨b2, off2, t2, rfl, hc2⟩ := HT2.out j hl2
          have HCl2 : Hid (∀ V, Below w.heap.size w V → V.cell? ⟨b2, off2 + j, none⟩ = some (.string ⟨t2.toArray⟩)) := fun V hb => cell_kept hc2 hb
          have q5 := HCl2.out _ HBS4.out
          clear hc2
          have HSw := hid (save_any HS4.out.cb HS4.out.disk (by have := HS4.out.len; omega) t2)
          by_cases hbg2 : 320 < t2.length
          · rw [save_big (by omega)] at HSw
            go_wp2_with fail
            refine HSw.out.mono ?_
            rintro e w6 ⟨rfl, hd6, k6⟩
            have HBS6 : Hid (Below w.heap.size w w6) := HBS4.out.trans (k6.below HG.out HBS4.out.size)
            have HS6 : Hid (Two w6 x y d g D n u m v) := ⟨HS4.out.ca.next HS4.out.disk k6, HS4.out.cb.next HS4.out.disk k6, hd6, HS4.out.ia, HS4.out.ib, HS4.out.up, HS4.out.calm, HS4.out.za, HS4.out.zb⟩
            clear hd6 k6 HSw HS4 HBS4 q5 HCl2
            have HLa := hid (load_any HS6.out.ca HS6.out.disk (by have := HS6.out.len; omega))
            rw [HS6.out.ia.load HS6.out.up] at HLa
            have ela := load_txt HS6.out.za
            have elb := load_txt HS6.out.zb
            rw [ela] at HLa
            go_wp2_with fail
            refine HLa.out.mono ?_
            rintro e w8 ⟨rfl, hb8⟩
            have HB8 : Hid (Below w.heap.size w w8) := HBS6.out.trans (hb8.mono HBS6.out.size)
            have HS8 := hid (HS6.out.stays hb8)
            clear hb8 HLa HS6 HBS6
            have HLb := hid (load_any HS8.out.cb HS8.out.disk (by have := HS8.out.len; omega))
            rw [HS8.out.ib.load HS8.out.up, elb] at HLb
            go_wp2_with fail
            refine HLb.out.mono ?_
            rintro e w9 ⟨rfl, hb9⟩
            have HB9 : Hid (Below w.heap.size w w9) := HB8.out.trans (hb9.mono HB8.out.size)
            have HS9 := hid (HS8.out.stays hb9)
            clear hb9 HLb HS8 HB8
            go_wp2
            go_roundw
            case rel => exact ⟨j + 1, n, m, D, u, v, by omega, by omega, by omega, rfl, rfl, by go_num, HS9, HB9⟩
            case measure => simp [intOf]; omega
          · obtain ⟨D2, es2, cb2, ca2, up2, calm2, -⟩ := save_other HS4.out.ib HS4.out.ia HS4.out.up HS4.out.calm (t := t2) (by omega) (by omega) (by omega)
            rw [es2] at HSw
            go_wp2_with fail
            refine HSw.out.mono ?_
            rintro e w6 ⟨rfl, hd6, k6⟩
            have HBS6 : Hid (Below w.heap.size w w6) := HBS4.out.trans (k6.below HG.out HBS4.out.size)
            have HS6 : Hid (Two w6 x y d g D2 n u (m + 1) t2) := ⟨HS4.out.ca.next HS4.out.disk k6, HS4.out.cb.next HS4.out.disk k6, hd6, ca2, cb2, up2, calm2, HS4.out.za, fun h => by omega⟩
            have q6 := HCl2.out _ HBS6.out
            clear hd6 k6 HSw HS4 HBS4 q5 HCl2 es2 cb2 ca2 up2 calm2
            have HLa := hid (load_any HS6.out.ca HS6.out.disk (by have := HS6.out.len; omega))
            rw [HS6.out.ia.load HS6.out.up] at HLa
            have ela := load_txt HS6.out.za
            have elb := load_txt HS6.out.zb
            rw [ela] at HLa
            go_wp2_with fail
            refine HLa.out.mono ?_
            rintro e w8 ⟨rfl, hb8⟩
            have HB8 : Hid (Below w.heap.size w w8) := HBS6.out.trans (hb8.mono HBS6.out.size)
            have HS8 := hid (HS6.out.stays hb8)
            clear hb8 HLa HS6 HBS6
            have HLb := hid (load_any HS8.out.cb HS8.out.disk (by have := HS8.out.len; omega))
            rw [HS8.out.ib.load HS8.out.up, elb] at HLb
            go_wp2_with fail
            refine HLb.out.mono ?_
            rintro e w9 ⟨rfl, hb9⟩
            have HB9 : Hid (Below w.heap.size w w9) := HB8.out.trans (hb9.mono HB8.out.size)
            have HS9 := hid (HS8.out.stays hb9)
            clear hb9 HLb HS8 HB8
            go_wp2
            go_roundw
            case rel => exact ⟨j + 1, n, m + 1, D2, u, t2, by omega, by omega, by omega, rfl, rfl, by go_num, HS9, HB9⟩
            case measure => simp [intOf]; omega
        · have e4 : decide ((j : Int) < (len2 : Int)) = false := by simpa using hl2
          have e5 : decide (j < len2) = false := by simpa using hl2
          have HLa := hid (load_any HS4.out.ca HS4.out.disk (by have := HS4.out.len; omega))
          rw [HS4.out.ia.load HS4.out.up] at HLa
          have ela := load_txt HS4.out.za
          have elb := load_txt HS4.out.zb
          rw [ela] at HLa
          go_wp2_with fail
          refine HLa.out.mono ?_
          rintro e w8 ⟨rfl, hb8⟩
          have HB8 : Hid (Below w.heap.size w w8) := HBS4.out.trans (hb8.mono HBS4.out.size)
          have HS8 := hid (HS4.out.stays hb8)
          clear hb8 HLa HS4 HBS4
          have HLb := hid (load_any HS8.out.cb HS8.out.disk (by have := HS8.out.len; omega))
          rw [HS8.out.ib.load HS8.out.up, elb] at HLb
          go_wp2_with fail
          refine HLb.out.mono ?_
          rintro e w9 ⟨rfl, hb9⟩
          have HB9 : Hid (Below w.heap.size w w9) := HB8.out.trans (hb9.mono HB8.out.size)
          have HS9 := hid (HS8.out.stays hb9)
          clear hb9 HLb HS8 HB8
          go_wp2
          go_roundw
          case rel => exact ⟨j + 1, n, m, D, u, v, by omega, by omega, by omega, rfl, rfl, by go_num, HS9, HB9⟩
          case measure => simp [intOf]; omega
    · have e3 : decide ((j : Int) < 12) = false := by simp; omega
      go_wp2
      go_ret
      exact ⟨rfl, HB.out⟩
end Go.Proofs.Ytgbpdljnognkdaa
