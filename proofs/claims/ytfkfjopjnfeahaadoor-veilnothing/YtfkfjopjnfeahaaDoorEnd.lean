/-
  What sum.ending answers, for every number of bytes below 2^60.
-/
import Derived.Test.YtfkfjopjnfeahaaDoorBow
namespace Go.Proofs.YtfkfjopjnfeahaaDoor
open Go Go.RowKit
set_option maxRecDepth 100000

theorem byteOf_int (x p : Int) (h0 : 0 ≤ p) (h1 : p < 8) (w : World) :
    Calls Tryd.prog 44 #[.int .u64 x, .int .i64 p] w fun e w' => e = .returned (.int .u8 (x / 2 ^ (8 * p.toNat) % 256)) ∧ w' = w := by
  have h := byteOf_any x p.toNat (by omega) w
  rw [show (p.toNat : Int) = p by omega] at h
  exact h

theorem bv_ofNat (n : Nat) : bv (UInt8.ofNat n) = (n : Int) % 256 := by
  unfold bv
  rw [UInt8.toNat_ofNat']
  omega

theorem nbyte_bv (n i : Nat) : ((n : Int) / 2 ^ (8 * (7 - i)) % 256) = bv (nbyte n i) := by
  unfold nbyte
  rw [bv_ofNat]
  simp

/-- The row as it is made, its first byte written. -/
def made (z : Nat) : Array Value := (madeCells #[.int .u8 0] (z + 9)).setIfInBounds 0 (.int .u8 128)
theorem made_brow (W : World) (base z : Nat) (hb : base ≤ W.heap.size) (hz : z < 64) :
    brow (W.alloc (.cells (made z) 5)) base (.slice (some ⟨W.heap.size, 0, none⟩) (z + 1) (z + 9)) (128 :: List.replicate z 0) := by
  refine .inr ⟨W.heap.size, z + 9, made z, (0, 0), by simp, hb, top_row W _, fun j _ h => by simp at h, by simp, ?_, ?_, ?_⟩
  · simp [made, size_madeCells]
  · unfold maxLen; omega
  · have e : (madeCells #[.int .u8 0] (z + 9)).toList = List.replicate (z + 9) (.int .u8 0) := toList_madeCells_one _ _
    unfold made
    rw [Array.toList_setIfInBounds, e, List.replicate_succ]
    simp [cb, bv]

set_option maxHeartbeats 1000000 in
theorem ending_any (n : Nat) (hn : n < 1152921504606846976) (w : World) :
    Calls Tryd.prog 43 #[.int .i64 n] w fun e w' => e = .returned (.string ⟨(tail n).toArray⟩) ∧ Below w.heap.size w w' := by
  obtain ⟨i, hi, hz0, hz1, hz2⟩ := info_parts infoByte
  obtain ⟨z, hz⟩ : ∃ z, z = (119 - n % 64) % 64 := ⟨_, rfl⟩
  have hz64 : z < 64 := by omega
  have hzi : ((119 : Int) - (n : Int) % 64) % 64 = (z : Int) := by omega
  have HT : Hid (tail n = (128 :: List.replicate z 0) ++ nbytes (n * 8) 8) := by show _ = _; unfold tail; rw [← hz]; rfl
  have HM : Hid (∀ W : World, (Instr.makeSlice 36 (.int .i64 (1 + z)) (.int .i64 (1 + z + 8))).run Tryd.prog W = .ok (.slice (some ⟨W.heap.size, 0, none⟩) (z + 1) (z + 9)) (W.alloc (.cells (madeCells #[.int .u8 0] (z + 9)) 5))) := by
    intro W
    have := run_make (P := Tryd.prog) W 36 5 i (.int .u8 0) Tryd.underlying36 hi hz0 .i64 .i64 (1 + z) (1 + z + 8) (by omega) (by omega) (by rw [hz2]; omega) (by omega)
    rw [this, hz1]
    rw [show ((1 : Int) + z).toNat = z + 1 by omega, show ((1 : Int) + z + 8).toNat = z + 9 by omega]
    simp [Value.cells]
  obtain ⟨C, hC⟩ : ∃ C, C = madeCells #[.int .u8 0] (z + 9) := ⟨_, rfl⟩
  have hM := HM.out
  rw [← hC] at hM
  have hCs : C.size = z + 9 := by rw [hC, size_madeCells]
  have hC0 : C[0]? = some (.int .u8 0) := by
    rw [hC, ← Array.getElem?_toList, toList_madeCells_one, List.replicate_succ]; rfl
  have HR : Hid (brow (w.alloc (.cells (C.setIfInBounds 0 (.int .u8 128)) 5)) w.heap.size (.slice (some ⟨w.heap.size, 0, none⟩) (z + 1) (z + 9)) ((128 :: List.replicate z 0) ++ nbytes (n * 8) 0)) := by
    show brow _ _ _ _
    rw [hC]
    rw [show nbytes (n * 8) 0 = [] from rfl, List.append_nil]
    exact made_brow w w.heap.size z (Nat.le_refl _) hz64
  clear hz hC HM hi hz0 hz1 hz2
  go_enter Tryd.func43, Tryd.ntmps43
  go_wp2
  simp only [hzi]
  clear hM hzi
  go_loopw [4, 18] (fun v i w' => ∃ k : Nat, k ≤ 8 ∧ i = .int .i64 k ∧ Hid (brow w' w.heap.size v ((128 :: List.replicate z 0) ++ nbytes (n * 8) k)) ∧ Hid (Below w.heap.size w w')) (fun _ i _ => 8 - (intOf i).toNat)
  case atStart => exact ⟨0, by omega, rfl, HR, below_a1 w _⟩
  case round =>
    obtain ⟨k, hk, rfl, HI, HB⟩ := hrel
    clear HR
    have hsz := HB.out.size
    by_cases hlt : k < 8
    · have hby : ∀ W, Calls Tryd.prog 44 #[.int .u64 (n * 8), .int .i64 (7 - (k : Int))] W fun e w' => e = .returned (.int .u8 (bv (nbyte (n * 8) k))) ∧ w' = W := by
        intro W
        have h := byteOf_int (n * 8) (7 - (k : Int)) (by omega) (by omega) W
        rw [show ((7 : Int) - k).toNat = 7 - k by omega, show ((n : Int) * 8) = ((n * 8 : Nat) : Int) by simp, nbyte_bv] at h
        simpa using h
      have HY : Hid _ := hby
      clear hby
      generalize hcc : nbyte (n * 8) k = c at *
      have HS : Hid (nbytes (n * 8) (k + 1) = nbytes (n * 8) k ++ [c]) := by show _ = _; rw [nbytes, hcc]
      clear hcc
      have hln : (nbytes (n * 8) k).length = k := nbytes_len _ _
      go_wp2_with (first | (go_at_call 44; refine (HY.out _).mono ?_; rintro e w1 ⟨rfl, rfl⟩) | (at_builtin; refine wpList_app rfl _ _ rfl w.heap.size w.heap.size _ _ _ [c] rfl rfl (brow_below HI.out (below_a1 _ _) (Nat.le_refl _)) (brow_one _ _ c hsz) (Or.inr (by simp)) ?c1 ?c2 ?_))
      case c1 => simp; omega
      case c2 => simp; omega
      intro v' w3 hown hgr
      have HI3 : Hid (brow w3 w.heap.size v' ((128 :: List.replicate z 0) ++ nbytes (n * 8) (k + 1))) := by
        show brow _ _ _ _
        rw [HS.out]
        simpa using hown
      have HB3 : Hid (Below w.heap.size w w3) := (below_more HB.out _ (Nat.le_refl _)).grown hgr (by simp; omega) (brow_own HI.out)
      clear hown hgr HI HB
      go_wp2
      go_roundw
      case rel => exact ⟨k + 1, by omega, by go_num, HI3, HB3⟩
      case measure => simp [intOf]; omega
    · have e8 : k = 8 := by omega
      have HE : Hid (brow wr w.heap.size u4 (tail n)) := by have h := HI.out; rw [e8] at h; show brow _ _ _ _; rw [HT.out]; exact h
      have hcv := conv_brow HE.out
      go_wp2
      go_ret
      exact ⟨rfl, HB.out⟩
end Go.Proofs.YtfkfjopjnfeahaaDoor
