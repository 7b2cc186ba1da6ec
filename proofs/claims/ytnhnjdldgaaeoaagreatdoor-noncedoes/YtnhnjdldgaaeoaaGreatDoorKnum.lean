/-
  What cell's number answers.
-/
import Derived.Test.YtnhnjdldgaaeoaaGreatDoorCnum
import Derived.Test.YtnhnjdldgaaeoaaGreatDoorDsk
import Derived.Laws.BitsAllLaws
namespace Go.Proofs.YtnhnjdldgaaeoaaGreatDoor
open Go Go.RowKit
set_option maxRecDepth 100000

theorem getD_byte (y : List UInt8) (j : Nat) (h : j < (⟨y.toArray⟩ : ByteArray).size) : ((⟨y.toArray⟩ : ByteArray)[j]'h).toNat = (y.getD j 0).toNat := by
  have h' : j < y.length := h
  show (y.toArray[j]).toNat = _
  simp [List.getD, h']
theorem take_snoc (s : List UInt8) (j : Nat) (h : j < s.length) : s.take (j + 1) = s.take j ++ [s.getD j 0] := by
  rw [List.take_succ_eq_append_getElem h]
  simp [List.getD, h]

theorem wrapU (n : Nat) (h : n < 18446744073709551616) : IntKind.u64.wrap (n : Int) = (n : Int) := by
  have e : (n : Int) % 2 ^ 64 = n := Int.emod_eq_of_lt (by omega) (by omega)
  simp [IntKind.wrap, IntKind.bits, IntKind.signed]
  omega
theorem join_byte (a : Nat) (c : UInt8) (h : a < 72057594037927936) : bits .or .u64 (IntKind.u64.wrap ((a : Int) * 256)) (IntKind.u64.wrap (c.toNat : Int)) = ((a * 256 + c.toNat : Nat) : Int) := by
  have hc := c.toNat_lt
  have e1 : ((a : Int) * 256) = ((a * 256 : Nat) : Int) := by omega
  rw [e1, wrapU _ (by omega), wrapU _ (by omega), u64_or_nat _ _ (by omega) (by omega)]
  congr 1
  have h9 := Nat.two_pow_add_eq_or_of_lt (i := 8) (b := c.toNat) (by omega) a
  rw [Nat.mul_comm a 256]
  exact h9.symm

set_option maxHeartbeats 1000000 in
theorem number_any (s : List UInt8) (hs : 8 ≤ s.length) (w : World) : Calls Tryz.prog 47 #[.string ⟨s.toArray⟩] w fun e w' => e = .returned (.int .u64 (valB (s.take 8) : Nat)) ∧ w' = w := by
  have hss : (⟨s.toArray⟩ : ByteArray).size = s.length := rfl
  go_enter Tryz.func47, Tryz.ntmps47
  go_wp2
  go_loopw [3, 5] (fun v i w' => ∃ j : Nat, j ≤ 8 ∧ i = .int .i64 j ∧ v = .int .u64 (valB (s.take j) : Nat) ∧ w' = w) (fun _ i _ => 8 - (intOf i).toNat)
  case atStart => exact ⟨0, by omega, rfl, by simp [valB], rfl⟩
  case round =>
    obtain ⟨j, hj, rfl, rfl, hw⟩ := hrel
    subst wr
    by_cases hlt : j < 8
    · have d1 : decide ((j : Int) < 8) = true := by simp; omega
      have hjs : j < s.length := by omega
      have hst := take_snoc s j hjs
      have hlt56 : valB (s.take j) < 72057594037927936 := by
        have h9 := valB_lt (s.take j)
        have h8 : (s.take j).length ≤ 7 := by rw [List.length_take]; omega
        have h7 : 256 ^ (s.take j).length ≤ 256 ^ 7 := Nat.pow_le_pow_right (by omega) h8
        omega
      have hv : bits BinOp.or IntKind.u64 (IntKind.u64.wrap ((valB (s.take j) : Int) * 256)) (IntKind.u64.wrap ((((⟨s.toArray⟩ : ByteArray)[j]'(by rw [hss]; exact hjs)).toNat : Nat) : Int)) = ((valB (s.take (j + 1)) : Nat) : Int) := by
        rw [join_byte _ _ hlt56, hst, valB_snoc, getD_byte]
      clear hst hlt56
      go_wp2
      exact ⟨⟨j + 1, by omega, by go_num, rfl, trivial⟩, by simp [intOf]; omega⟩
    · obtain rfl : j = 8 := by omega
      go_wp2
      go_ret
      exact ⟨rfl, rfl⟩
end Go.Proofs.YtnhnjdldgaaeoaaGreatDoor
