/-
  What bits.RotateLeft32, sum.rot, sum.byteOf and the reference's turn and word answer, for every word.
-/
import Derived.Test.YtfkfjopjnfeahaaDoorPlainb
import Derived.Test.YtfkfjopjnfeahaaDoorProg
import Derived.Below
import Derived.BigQuiet
namespace Go.Proofs.YtfkfjopjnfeahaaDoor
open Go Go.RowKit
set_option maxRecDepth 100000

theorem and31 (n : Nat) (h0 : 1 ≤ n) (h1 : n ≤ 31) : bits .and .u64 (IntKind.u64.wrap (-(n : Int))) 31 = ((32 - n : Nat) : Int) := by
  have e : IntKind.u64.wrap (-(n : Int)) = ((18446744073709551616 - n : Nat) : Int) := by rw [IntKind.wrap_u64]; omega
  rw [e, show (31 : Int) = ((31 : Nat) : Int) from rfl, u64_and_nat _ _ (by omega) (by omega), nat_mask5]
  omega

set_option maxHeartbeats 400000 in
theorem rotl (x : W32) (n : Nat) (h0 : 1 ≤ n) (h1 : n ≤ 31) (w : World) :
    Calls Tryd.prog 54 #[.int .u32 (wv x), .int .i64 (-(n : Int))] w fun e w' => e = .returned (.int .u32 (wv (rotr x n))) ∧ w' = w := by
  have hand := and31 n h0 h1
  go_enter Tryd.func54, Tryd.ntmps54
  go_wp2
  go_ret
  refine ⟨?_, rfl⟩
  show Ending.returned (.int .u32 (bits BinOp.or IntKind.u32 (wv x * 2 ^ (32 - n) % 4294967296) (wv x / 2 ^ (32 - (32 - n))))) = _
  rw [wv_shl', wv_shr, wv_or, BitVec.or_comm, show 32 - (32 - n) = n by omega]
  rfl

theorem rot_any (x : W32) (n : Int) (h0 : 1 ≤ n) (h1 : n ≤ 31) (w : World) :
    Calls Tryd.prog 49 #[.int .u32 (wv x), .int .i64 n] w fun e w' => e = .returned (.int .u32 (wv (rotr x n.toNat))) ∧ w' = w := by
  have H := fun w => rotl x n.toNat (by omega) (by omega) w
  rw [show -(n.toNat : Int) = -n by omega] at H
  go_enter Tryd.func49, Tryd.ntmps49
  go_wp2_with (go_at_call 54; refine (H _).mono ?_)
  rintro e w1 ⟨rfl, rfl⟩
  go_wp2
  go_ret
  exact ⟨rfl, rfl⟩

theorem turn_any (x : W32) (n : Int) (h0 : 1 ≤ n) (h1 : n ≤ 31) (w : World) :
    Calls Tryd.prog 46 #[.int .u32 (wv x), .int .u32 n] w fun e w' => e = .returned (.int .u32 (wv (rotr x n.toNat))) ∧ w' = w := by
  go_enter Tryd.func46, Tryd.ntmps46
  go_wp2
  go_ret
  refine ⟨?_, rfl⟩
  show Ending.returned (.int .u32 (bits BinOp.or IntKind.u32 (wv x / 2 ^ n.toNat) (wv x * 2 ^ (32 - n).toNat % 4294967296))) = _
  rw [wv_shl', wv_shr, wv_or, show (32 - n).toNat = 32 - n.toNat by omega]
  rfl

theorem byteOf_any (x : Int) (n : Nat) (hn : n < 8) (w : World) :
    Calls Tryd.prog 44 #[.int .u64 x, .int .i64 n] w fun e w' => e = .returned (.int .u8 (x / 2 ^ (8 * n) % 256)) ∧ w' = w := by
  go_enter Tryd.func44, Tryd.ntmps44
  go_wp2
  go_ret
  exact ⟨rfl, rfl⟩


theorem word_num (a b c d : UInt8) : ((bv a * 16777216 + bv b * 65536) % 4294967296 + bv c * 256) % 4294967296 + bv d = bv a * 16777216 + bv b * 65536 + bv c * 256 + bv d := by
  have := bv_range a; have := bv_range b; have := bv_range c; have := bv_range d
  omega

theorem word_any (b : List UInt8) (g o cap i : Nat) (hi : i < 16) (w : World) (H : ∀ j, j < 64 → w.cell? ⟨g, o + j, none⟩ = some (cb (b.getD j 0))) :
    Calls Tryd.prog 45 #[.slice (some ⟨g, o, none⟩) 64 cap, .int .i64 ((4 * i : Nat) : Int)] w fun e w' => e = .returned (.int .u32 (wv (wrd b i))) ∧ ∃ n, w' = w.drewN n := by
  have h0 := H (4 * i) (by omega)
  have h1 := H (4 * i + 1) (by omega)
  have h2 := H (4 * i + 2) (by omega)
  have h3 := H (4 * i + 3) (by omega)
  clear H
  unfold cb at h0 h1 h2 h3
  have r0 := bv_range (b.getD (4 * i) 0)
  have r1 := bv_range (b.getD (4 * i + 1) 0)
  have r2 := bv_range (b.getD (4 * i + 2) 0)
  have r3 := bv_range (b.getD (4 * i + 3) 0)
  have hv : wv (wrd b i) = bv (b.getD (4 * i) 0) * 16777216 + bv (b.getD (4 * i + 1) 0) * 65536 + bv (b.getD (4 * i + 2) 0) * 256 + bv (b.getD (4 * i + 3) 0) := by
    unfold wrd wv
    rw [BitVec.toNat_ofNat]
    unfold bv at *
    omega
  rw [hv]
  clear hv
  generalize bv (b.getD (4 * i) 0) = c0 at *
  generalize bv (b.getD (4 * i + 1) 0) = c1 at *
  generalize bv (b.getD (4 * i + 2) 0) = c2 at *
  generalize bv (b.getD (4 * i + 3) 0) = c3 at *
  go_enter Tryd.func45, Tryd.ntmps45
  go_wp2
  go_quiet (fail)
  go_wp2
  go_ret
  exact ⟨rfl, _, rfl⟩

end Go.Proofs.YtfkfjopjnfeahaaDoor
