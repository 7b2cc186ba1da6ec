/-
  CellSaves answers true: what is saved is there, behind a crash too.
-/
import Derived.Test.YtgbpdljnognkdaaCcr
namespace Go.Proofs.Ytgbpdljnognkdaa
open Go Go.RowKit
set_option maxRecDepth 100000

/-- The list of texts at a has so many texts that can be read. -/
def TextsAt (W : World) (a : Option Addr) (len : Nat) : Prop := ∀ j, j < len → ∃ b off, ∃ t : List UInt8, a = some ⟨b, off, none⟩ ∧ W.cell? ⟨b, off + j, none⟩ = some (.string ⟨t.toArray⟩)
theorem TextsAt.kept {w w' : World} {a : Option Addr} {len : Nat} (h : TextsAt w a len) (hb : Below w.heap.size w w') : TextsAt w' a len := by
  intro j hj
  obtain ⟨b, off, t, ha, hc⟩ := h j hj
  refine ⟨b, off, t, ha, ?_⟩
  rw [← hc]
  simp only [World.cell?, hb.block b (World.block_lt_of_cell? _ _ hc)]

theorem cell_kept {w V : World} {b o : Nat} {v : Value} (hc : w.cell? ⟨b, o, none⟩ = some v) (hb : Below w.heap.size w V) : V.cell? ⟨b, o, none⟩ = some v := by
  rw [← hc]
  simp only [World.cell?, hb.block b (World.block_lt_of_cell? _ _ hc)]
/-- A cell, its disk and what it has. -/
structure St (w : World) (x : Cx) (d g : Nat) (D : Dk) (first size n : Nat) (t : List UInt8) : Prop where
  cell : CellAt w x d first size
  disk : DiskAt w d g D
  inv : CInv D first size n t
  up : D.down = false
  calm : D.armed = 0

set_option maxHeartbeats 4000000 in
theorem saves_walk (w : World) (a : Option Addr) (len cap : Nat) (hT : TextsAt w a len) (v : Value) (ks : List Int) (hI : IntsAt w v ks) : Calls Try.prog 5 #[.slice a len cap, v] w fun e w' => e = .returned (.bool true) ∧ Below w.heap.size w w' := by
  have HT := hid hT
  have HI := hid hI
  have HN := hid (new_ok w 40 (by omega) (by omega))
  have hC := CInv.new 40 0 4 (by omega) (by omega)
  obtain ⟨hu1, hu2, hu3⟩ := newD_up 40
  have HC := hid hC
  clear hT hI hC
  generalize newD 40 = D0 at *
  go_enter Try.func5, Try.ntmps5
  go_wp2_with fail
  refine HN.out.mono ?_
  rintro e w1 ⟨d, g, rfl, hd1, hb1, hg1, hg2⟩
  have HB1 := hid hb1
  have HO := hid (open_ok hd1 0 4 (by omega) (by omega) (by omega) hu1)
  have HD1 := hid hd1
  have HG : Hid (∀ y ∈ [d, g], w.heap.size ≤ y) := by
    intro y hy
    simp only [List.mem_cons, List.not_mem_nil, or_false] at hy
    rcases hy with rfl | rfl
    · exact hg1
    · exact hg2
  clear hd1 hb1 hg1 hg2 HN
  go_wp2_with fail
  refine HO.out.mono ?_
  rintro e w2 ⟨x, rfl, hc2, hb2, -⟩
  have HB2 : Hid (Below w.heap.size w w2) := HB1.out.trans (hb2.mono HB1.out.size)
  have hd2 := HD1.out.kept (X := []) (Kp.of hb2) (by simp) (by simp)
  have HC2 := hid hc2
  have HD2 := hid hd2
  have HA := hid (awake_any w2)
  clear hc2 hb2 hd2 HO HB1 HD1
  go_wp2_with fail
  refine HA.out.mono ?_
  rintro e w3 ⟨rfl, hb3⟩
  have HB3 : Hid (Below w.heap.size w w3) := HB2.out.trans (hb3.mono HB2.out.size)
  have HS3 : Hid (St w3 x d g D0 0 4 0 []) := ⟨HC2.out.stays hb3, HD2.out.kept (X := []) (Kp.of hb3) (by simp) (by simp), HC.out, hu1, hu2⟩
  clear hb3 HA HB2 HC2 HD2 HC hu1 hu2 hu3
  go_wp2
  go_loopw [9, 10] (fun m i w' => ∃ (j n : Nat) (D : Dk) (t : List UInt8), j ≤ len ∧ j ≤ 12 ∧ n ≤ j ∧ m = .int .i64 n ∧ i = .int .i64 j ∧ Hid (St w' x d g D 0 4 n t) ∧ Hid (Below w.heap.size w w')) (fun _ i _ => 12 - (intOf i).toNat)
  case atStart => exact ⟨0, 0, D0, [], by omega, by omega, by omega, rfl, rfl, HS3, HB3⟩
  case round =>
    clear HS3 HB3
    obtain ⟨j, n, D, t0, hj, hj12, hn, rfl, rfl, HS, HB⟩ := hrel
    by_cases hlt : j < len
    · have e1 : decide ((j : Int) < (len : Int)) = true := by simpa using hlt
      have e2 : decide (j < len) = true := by simpa using hlt
      by_cases h12 : j < 12
      · have e3 : decide ((j : Int) < 12) = true := by simp; omega
        obtain ⟨b, off, t, rfl, hc⟩ := HT.out j hlt
        have HCl : Hid (∀ V, Below w.heap.size w V → V.cell? ⟨b, off + j, none⟩ = some (.string ⟨t.toArray⟩)) := fun V hb => cell_kept hc hb
        have q0 := HCl.out _ HB.out
        clear hc
        have HSv := hid (save_any HS.out.cell HS.out.disk (by have := HS.out.inv.len; omega) t)
        have hlen : (⟨t.toArray⟩ : ByteArray).size = t.length := rfl
        by_cases hbig : 256 < t.length
        · have hb2 : decide ((256 : Int) < (t.length : Int)) = true := by simp; omega
          rw [save_big (by omega)] at HSv
          go_wp2_with fail
          refine HSv.out.mono ?_
          rintro e w4 ⟨rfl, hd4, k4⟩
          have HB4 : Hid (Below w.heap.size w w4) := HB.out.trans (k4.below HG.out HB.out.size)
          have HS4 : Hid (St w4 x d g D 0 4 n t0) := ⟨HS.out.cell.next HS.out.disk k4, hd4, HS.out.inv, HS.out.up, HS.out.calm⟩
          have q4 := HCl.out _ HB4.out
          clear hd4 k4 HSv HS HB q0 HCl
          go_wp2
          go_roundw
          case rel => exact ⟨j + 1, n, D, t0, by omega, by omega, by omega, rfl, by go_num, HS4, HB4⟩
          case measure => simp [intOf]; omega
        · have hb2 : decide ((256 : Int) < (t.length : Int)) = false := by simp; omega
          obtain ⟨D', es, ci, up, calm, -⟩ := save_calm HS.out.inv HS.out.up HS.out.calm (t := t) (by omega) (by omega)
          rw [es] at HSv
          have HCi := hid (ci.crash ks)
          have HLP := hid ((ci.crash ks).load rfl)
          go_wp2_with fail
          refine HSv.out.mono ?_
          rintro e w4 ⟨rfl, hd4, k4⟩
          have HB4 : Hid (Below w.heap.size w w4) := HB.out.trans (k4.below HG.out HB.out.size)
          have HC4 := hid (HS.out.cell.next HS.out.disk k4)
          have q4 := HCl.out _ HB4.out
          have HD4 := hid hd4
          have HCr := hid (crash_any hd4 v ks (HI.out.kept HB4.out))
          clear hd4 k4 HSv HS HB q0 ci es up calm
          go_wp2_with fail
          refine HCr.out.mono ?_
          rintro e w5 ⟨rfl, hd5, k5⟩
          have HB5 : Hid (Below w.heap.size w w5) := HB4.out.trans (k5.below HG.out HB4.out.size)
          have HS5 : Hid (St w5 x d g (crashD D' ks) 0 4 (n + 1) t) := ⟨HC4.out.next HD4.out k5, hd5, HCi.out, rfl, rfl⟩
          have HLo := hid (load_any HS5.out.cell HS5.out.disk HCi.out.len)
          rw [HLP.out] at HLo
          have el : loadR (n + 1) t = (t, n + 1, 0) := by unfold loadR; rw [if_neg (by omega)]
          rw [el] at HLo
          clear hd5 k5 HCr HC4 HD4 HB4 q4 HCi HLP el
          go_wp2_with fail
          refine HLo.out.mono ?_
          rintro e w6 ⟨rfl, hb6⟩
          have HB6 : Hid (Below w.heap.size w w6) := HB5.out.trans (hb6.mono HB5.out.size)
          have HS6 : Hid (St w6 x d g (crashD D' ks) 0 4 (n + 1) t) := ⟨HS5.out.cell.stays hb6, HS5.out.disk.kept (X := []) (Kp.of hb6) (by simp) (by simp), HS5.out.inv, rfl, rfl⟩
          have q6 := HCl.out _ HB6.out
          clear hb6 HLo HS5 HB5 HCl
          go_wp2
          go_roundw
          case rel => exact ⟨j + 1, n + 1, crashD D' ks, t, by omega, by omega, by omega, by go_num, by go_num, HS6, HB6⟩
          case measure => simp [intOf]; omega
      · have e3 : decide ((j : Int) < 12) = false := by simp; omega
        go_wp2
        go_ret
        exact ⟨rfl, HB.out⟩
    · have e1 : decide ((j : Int) < (len : Int)) = false := by simpa using hlt
      have e2 : decide (j < len) = false := by simpa using hlt
      go_wp2
      go_ret
      exact ⟨rfl, HB.out⟩
end Go.Proofs.Ytgbpdljnognkdaa
