/-
  What veil.Veil answers, for every key, number and text.
-/
import Derived.Test.YtfkfjopjnfeahaaDoorVrow
namespace Go.Proofs.YtfkfjopjnfeahaaDoor
open Go Go.RowKit
set_option maxRecDepth 100000

theorem veil_bad (k t : List UInt8) (n : Int) (h : rErr n t.length ≠ 0) (w : World) :
    Calls Tryd.prog 9 #[.string ⟨k.toArray⟩, .int .i64 n, .string ⟨t.toArray⟩] w fun e w' => e = .returned (.tuple #[.string ⟨#[]⟩, .int .i64 (rErr n t.length : Nat)]) ∧ w' = w := by
  have HR := hid (row_bad k n t.length h w)
  have hs : (⟨t.toArray⟩ : ByteArray).size = t.length := rfl
  generalize rErr n t.length = r at *
  have hr : (((r : Nat) : Int) != 0) = true := by simp; omega
  have hr2 : (((r : Nat) : Int) == 0) = false := by simp; omega
  go_enter Tryd.func9, Tryd.ntmps9
  go_wp2_with (first | (go_at_call 12; refine Calls.mono HR.out ?_; rintro e W ⟨rfl, rfl⟩))
  go_ret2
  exact ⟨rfl, rfl⟩

theorem make_bytes (n : Nat) (hn : n ≤ 16384) (W : World) : (Instr.makeSlice 36 (.int .i64 (n : Int)) (.int .i64 (n : Int))).run Tryd.prog W = .ok (.slice (some ⟨W.heap.size, 0, none⟩) n n) (W.alloc (.cells ((List.replicate n 0).map cb).toArray 5)) := by
  obtain ⟨i, hi, hz0, hz1, hz2⟩ := info_parts infoByte
  have h := run_make (P := Tryd.prog) W 36 5 i (.int .u8 0) Tryd.underlying36 hi hz0 .i64 .i64 n n (by omega) (by omega) (by rw [hz2]; omega) (by omega)
  rw [h, hz1]
  have e : madeCells (Value.int .u8 0).cells n = ((List.replicate n (0 : UInt8)).map cb).toArray := by
    apply Array.toList_inj.1
    have e1 : (madeCells #[.int .u8 0] n).toList = List.replicate n (.int .u8 0) := toList_madeCells_one _ _
    have e2 : (Value.int .u8 0).cells = #[.int .u8 0] := rfl
    rw [e2, e1, List.map_replicate]
    rfl
  simp only [Int.toNat_natCast, Nat.mul_one, e]

theorem byte_at (y : List UInt8) (j : Nat) (h : j < y.length) : ((⟨y.toArray⟩ : ByteArray)[j]'(by show j < y.length; exact h)).toNat = (y.getD j 0).toNat := by
  rw [List.getD_eq_getElem?_getD, List.getElem?_eq_getElem h]; rfl

set_option maxHeartbeats 2000000 in
theorem veil_ok (k : List UInt8) (hk : k.length ≤ 140737488355100) (n : Int) (h0 : 0 ≤ n) (h1 : n ≤ 1099511627776) (t : List UInt8) (ht : t.length ≤ 16384) (w : World) (hK : Ktab w) (hT : Lay.Tabs w) :
    Calls Tryd.prog 9 #[.string ⟨k.toArray⟩, .int .i64 n, .string ⟨t.toArray⟩] w fun e w' => e = .returned (.tuple #[.string ⟨(veilB k n t).toArray⟩, .int .i64 0]) ∧ Below w.heap.size w w' := by
  have HR := hid (row_ok k hk n h0 h1 t.length ht w hK hT)
  have hs : (⟨t.toArray⟩ : ByteArray).size = t.length := rfl
  have hRl := rowB_len k n t.length
  have hVl := veilB_len k n t
  have HVA : Hid (∀ j, j < t.length → (veilB k n t).getD j 0 = t.getD j 0 ^^^ (rowB k n t.length).getD j 0) := fun j hj => zip_at t (rowB k n t.length) j hj (by rw [hRl]; exact hj)
  generalize rowB k n t.length = R at *
  generalize veilB k n t = V at *
  have hsR : (⟨R.toArray⟩ : ByteArray).size = t.length := hRl
  have hmk := make_bytes t.length ht
  have HF0 : Hid (((List.replicate t.length 0).map cb).toArray = ((fillTo V 0).map cb).toArray) := by show _ = _; rw [fillTo_zero, hVl]
  have HFE : Hid (fillTo V t.length = V) := by show _ = _; rw [← hVl, fillTo_end]
  have HFL := hid (fun j => fillTo_len V j)
  have HFS := hid (fun j h => fillTo_step V j h)
  generalize ((List.replicate t.length (0 : UInt8)).map cb).toArray = Z at *
  clear hK hT hk
  go_enter Tryd.func9, Tryd.ntmps9
  go_wp2_with (first | (go_at_call 12; refine Calls.mono HR.out ?_))
  rintro e w1 ⟨rfl, hb1⟩
  have HB1 := hid hb1
  have HR0 : Hid ((w1.alloc (.cells Z 5)).heap[w1.heap.size]? = some (.cells Z 5)) := top_row w1 _
  have HW0 : Hid (Below w1.heap.size w1 (w1.alloc (.cells Z 5))) := below_a1 w1 _
  clear hb1 HR
  go_wp2
  generalize w1.alloc (.cells Z 5) = w2 at *
  clear hmk
  go_loopw [28] (fun i w' => ∃ (j : Nat) (D : Array Value), j ≤ t.length ∧ i = .int .i64 j ∧ Hid (D = ((fillTo V j).map cb).toArray) ∧ Hid (w'.heap[w1.heap.size]? = some (.cells D 5)) ∧ Hid (Below w1.heap.size w1 w')) (fun i _ => t.length - (intOf i).toNat)
  case atStart => exact ⟨0, _, by omega, rfl, HF0, HR0, HW0⟩
  case round =>
    clear HF0 HR0 HW0
    obtain ⟨j, D, hj, rfl, HD, HH, HB⟩ := hrel
    by_cases hlt : j < t.length
    · have hDs : Hid (j < D.size) := by show _ < _; rw [HD.out]; simp [HFL.out j, hVl]; exact hlt
      have hc : wr.cell? ⟨w1.heap.size, j, none⟩ = some (D[j]'hDs.out) := by rw [cell_of_row _ _ _ _ _ _ HH.out, Array.getElem?_eq_getElem hDs.out]
      have hf : wr.frozen? ⟨w1.heap.size, j, none⟩ = false := frozen_of_row _ _ _ _ _ HH.out
      have HS : Hid (D.setIfInBounds j (.int .u8 (bv (V.getD j 0))) = ((fillTo V (j + 1)).map cb).toArray) := by
        show _ = _
        rw [cb_set _ D HD.out, HFS.out j (by rw [hVl]; exact hlt)]
      have hq1 := byte_at t j hlt
      have hq2 := byte_at R j (by rw [hRl]; exact hlt)
      have hx : bits .xor .u8 ((t.getD j 0).toNat : Int) ((R.getD j 0).toNat : Int) = bv (V.getD j 0) := by rw [HVA.out j hlt]; exact bv_xor (t.getD j 0) (R.getD j 0)
      have hj0 : (0 : Int) ≤ (j : Int) := Int.natCast_nonneg _
      have hj1 : (j : Int) < (t.length : Int) := by omega
      generalize V.getD j 0 = z at *
      generalize t.getD j 0 = a at *
      generalize R.getD j 0 = b at *
      generalize D[j]'hDs.out = dj at *
      clear hDs HD
      go_upto_region 8 with fail
      go_region
      go_wp2
      go_roundw
      case rel => exact ⟨j + 1, _, by omega, by go_num, HS, heap_setCell_same _ _ _ _ _ _ HH.out, (below_setCell HB.out ⟨w1.heap.size, j, none⟩ _ (Nat.le_refl _)).drew⟩
      case measure => simp [intOf]; omega
    · obtain rfl : j = t.length := by omega
      have HV : (convert 36 9 (.slice (some ⟨w1.heap.size, 0, none⟩) t.length t.length)).run Tryd.prog wr = .ok (.string ⟨V.toArray⟩) wr :=
        conv_row wr w1.heap.size t.length V t.length hVl.symm 5 (by have h := HD.out; rw [HFE.out] at h; rw [← h]; exact HH.out)
      have HBe : Hid (Below w.heap.size w wr) := HB1.out.trans (HB.out.mono HB1.out.size)
      clear HD HH HB
      go_wp2
      go_ret2
      exact ⟨rfl, HBe.out⟩

theorem veil_any (k : List UInt8) (hk : k.length ≤ 140737488355100) (n : Int) (t : List UInt8) (w : World) (hK : Ktab w) (hT : Lay.Tabs w) :
    Calls Tryd.prog 9 #[.string ⟨k.toArray⟩, .int .i64 n, .string ⟨t.toArray⟩] w fun e w' => e = .returned (.tuple #[.string ⟨(vOut k n t).toArray⟩, .int .i64 (rErr n t.length : Nat)]) ∧ Below w.heap.size w w' := by
  by_cases h : rErr n t.length = 0
  · obtain ⟨a, b, c, d⟩ := (rErr_ok n t.length).1 h
    rw [vOut, if_pos h, h]
    exact veil_ok k hk n a b t (by omega) w hK hT
  · rw [vOut, if_neg h]
    refine (veil_bad k t n h w).mono ?_
    rintro e w' ⟨rfl, rfl⟩
    exact ⟨rfl, Below.refl _ _⟩

end Go.Proofs.YtfkfjopjnfeahaaDoor
