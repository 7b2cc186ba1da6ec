/-
  What the reference's Eight, number and part answer.
-/
import Derived.Test.YtnhnjdldgaaeoaaGreatDoorRcr
import Derived.Test.YtnhnjdldgaaeoaaGreatDoorKcl
namespace Go.Proofs.YtnhnjdldgaaeoaaGreatDoor
open Go Go.RowKit
set_option maxRecDepth 100000

theorem eightR_cons (j n : Nat) : eightR (j + 1) n = UInt8.ofNat (n / 256 ^ j) :: eightR j n := by
  induction j generalizing n with
  | zero => simp [eightR]
  | succ j ih =>
    rw [eightR, ih, Nat.div_div_eq_div_mul, ← Nat.pow_succ']
    rfl
theorem brow_nil (w : World) (base : Nat) : brow w base (.slice none 0 0) [] := .inl ⟨rfl, rfl⟩
theorem bv_mod (m : Nat) : IntKind.u8.wrap ((m : Int) % 256) = bv (UInt8.ofNat m) := by
  rw [wrapB]
  simp only [bv, UInt8.toNat_ofNat']
  omega

set_option maxHeartbeats 2000000 in
theorem eight_any (n : Nat) (hn : n < 9223372036854775808) (w : World) : Calls Tryz.prog 41 #[.int .i64 n] w fun e w' => e = .returned (.string ⟨(eightB n).toArray⟩) ∧ Below w.heap.size w w' := by
  have HE : Hid (eightB n = eightR 8 n) := show _ = _ from rfl
  have HC := hid (fun j => eightR_cons j n)
  have HL := hid (fun j => eightR_len j n)
  have HZ : Hid (eightR 0 n = []) := show _ = _ from rfl
  generalize eightB n = F at *
  go_enter Tryz.func41, Tryz.ntmps41
  go_wp2
  go_loopw [0, 3, 4] (fun m b i w' => ∃ j : Nat, j ≤ 8 ∧ m = .int .i64 (n / 256 ^ j : Nat) ∧ i = .int .i64 j ∧ Hid (brow w' w.heap.size b (eightR j n)) ∧ Hid (Below w.heap.size w w')) (fun _ _ i _ => 8 - (intOf i).toNat)
  case atStart => exact ⟨0, by omega, by simp, rfl, brow_nil _ _, Below.refl _ _⟩
  case round =>
    obtain ⟨j, hj, rfl, rfl, HI, HB⟩ := hrel
    rename_i b
    have hsz : w.heap.size ≤ wr.heap.size := HB.out.size
    by_cases hlt : j < 8
    · have hq : n / 256 ^ j ≤ n := Nat.div_le_self _ _
      have hnx : n / 256 ^ j / 256 = n / 256 ^ (j + 1) := by rw [Nat.div_div_eq_div_mul, Nat.pow_succ]
      have hcons := hid (HC.out j)
      have hl := hid (HL.out j)
      generalize hm : n / 256 ^ j = m at *
      generalize hm2 : n / 256 ^ (j + 1) = m2 at *
      have hbv := bv_mod m
      generalize eightR j n = A at *
      generalize hA2 : eightR (j + 1) n = A2 at *
      go_wp2_with (first | (at_builtin; refine wpList_app rfl _ _ rfl w.heap.size w.heap.size _ _ [UInt8.ofNat m] A rfl rfl (brow_lit _ _ _ _ rfl hsz) (brow_below HI.out (below_a1 _ _) (Nat.le_refl _)) (Or.inl (show Value.slice (some ⟨wr.heap.size, 0, none⟩) 1 1 ≠ Value.slice none 0 0 from by simp)) ?c1 ?c2 ?_))
      case c1 => rw [hl.out]; simp; omega
      case c2 => simp; omega
      intro v3 w3 hr3 hg3
      have HB3 : Hid (Below w.heap.size w w3) := (HB.out.alloc hsz _).grown hg3 (by simp; omega) (brow_own (brow_lit wr w.heap.size (UInt8.ofNat m) _ rfl hsz))
      have HR3 : Hid (brow w3 w.heap.size v3 A2) := by
        rw [hcons.out]
        exact hr3
      clear hr3 hg3 HI HB
      go_wp2
      go_roundw
      case rel => exact ⟨j + 1, by omega, by rw [hm2, ← hnx]; simp, by go_num, by rw [hA2]; exact HR3, HB3⟩
      case measure => simp [intOf]; omega
    · obtain rfl : j = 8 := by omega
      have HV := conv_brow HI.out
      rw [← HE.out] at HV
      go_wp2
      go_ret
      exact ⟨rfl, HB.out⟩

theorem valB_take_lt (s : List UInt8) (j : Nat) (h : j ≤ 7) : valB (s.take j) < 72057594037927936 := by
  have h9 := valB_lt (s.take j)
  have h8 : (s.take j).length ≤ 7 := by rw [List.length_take]; omega
  have h7 : 256 ^ (s.take j).length ≤ 256 ^ 7 := Nat.pow_le_pow_right (by omega) h8
  omega
theorem getD_byteI (y : List UInt8) (j : Nat) (h : j < (⟨y.toArray⟩ : ByteArray).size) : ((((⟨y.toArray⟩ : ByteArray)[j]'h).toNat : Nat) : Int) = ((y.getD j 0).toNat : Int) := by rw [getD_byte]

set_option maxHeartbeats 1000000 in
theorem rnumber_any (s : List UInt8) (hs : s.length = 8) (w : World) : Calls Tryz.prog 58 #[.string ⟨s.toArray⟩] w fun e w' => e = .returned (.int .i64 (numI s)) ∧ w' = w := by
  have hss0 : (⟨s.toArray⟩ : ByteArray).size = 8 := hs
  have hby0 := fun (j : Nat) (h : j < (⟨s.toArray⟩ : ByteArray).size) => getD_byteI s j h
  generalize (⟨s.toArray⟩ : ByteArray) = B at *
  have hB0 := hby0 0 (by omega)
  have hss := hss0
  by_cases hc : 127 < (s.getD 0 0).toNat
  · have e : numI s = -1 := by unfold numI; rw [if_pos hc]
    rw [e]
    have hcI : decide ((127 : Int) < (((B[0]'(by omega)).toNat : Nat) : Int)) = true := by rw [hB0]; exact decide_eq_true (by omega)
    clear e hc hB0 hby0
    go_enter Tryz.func58, Tryz.ntmps58
    go_wp2
    go_ret
    exact ⟨rfl, rfl⟩
  · have e : numI s = (valB s : Nat) := by unfold numI; rw [if_neg hc]
    have hmax : valB s < 9223372036854775808 := by
      rcases num_cases s hs with ⟨-, h⟩ | ⟨h, -⟩
      · exact h
      · rw [e] at h; omega
    rw [e]
    have hcI : decide ((127 : Int) < (((B[0]'(by omega)).toNat : Nat) : Int)) = false := by rw [hB0]; exact decide_eq_false (by omega)
    have ht8 : s.take 8 = s := List.take_of_length_le (by omega)
    have HBy := hid hby0
    clear e hc hB0 hby0
    go_enter Tryz.func58, Tryz.ntmps58
    go_wp2
    clear hcI
    go_loopw [3, 4] (fun v i w' => ∃ j : Nat, j ≤ 8 ∧ i = .int .i64 j ∧ v = .int .i64 (valB (s.take j) : Nat) ∧ w' = w) (fun _ i _ => 8 - (intOf i).toNat)
    case atStart => exact ⟨0, by omega, rfl, by simp [valB], rfl⟩
    case round =>
      obtain ⟨j, hj, rfl, rfl, hw⟩ := hrel
      subst wr
      by_cases hlt : j < 8
      · have d1 : decide ((j : Int) < 8) = true := by simp; omega
        have hjs : j < s.length := by omega
        have hst := valB_snoc (s.take j) (s.getD j 0)
        rw [← take_snoc s j hjs] at hst
        have hb1 := valB_take_lt s j (by omega)
        have hb2 : valB (s.take (j + 1)) < 9223372036854775808 := by
          by_cases h7 : j = 7
          · subst h7; rw [ht8]; exact hmax
          · have := valB_take_lt s (j + 1) (by omega); omega
        have hc8 := (s.getD j 0).toNat_lt
        have hbj := HBy.out j (by omega)
        generalize valB (s.take j) = X at *
        generalize hY : valB (s.take (j + 1)) = Y at *
        generalize (s.getD j 0).toNat = cc at *
        go_wp2
        go_roundw
        case rel => exact ⟨j + 1, by omega, by go_num, by rw [hY, hst]; simp, trivial⟩
        case measure => simp [intOf]; omega
      · obtain rfl : j = 8 := by omega
        rw [ht8]
        go_wp2
        go_ret
        exact ⟨rfl, rfl⟩
theorem ext_mid (l : List UInt8) (a b : Nat) : (⟨l.toArray⟩ : ByteArray).extract a b = ⟨((l.drop a).take (b - a)).toArray⟩ := by
  apply ByteArray.ext
  simp [ByteArray.data_extract]
theorem part_any (t : List UInt8) (i : Nat) (hi : 64 * i < t.length) (ht : t.length ≤ 100000) (w : World) : Calls Tryz.prog 39 #[.string ⟨t.toArray⟩, .int .i64 i] w fun e w' => e = .returned (.string ⟨((t.drop (64 * i)).take 64).toArray⟩) ∧ w' = w := by
  have hts : (⟨t.toArray⟩ : ByteArray).size = t.length := rfl
  by_cases h : 64 * i + 64 ≤ t.length
  · have hx : (⟨t.toArray⟩ : ByteArray).extract (64 * i) (64 * i + 64) = ⟨((t.drop (64 * i)).take 64).toArray⟩ := by
      rw [ext_mid]
      congr 2
      rw [Nat.add_sub_cancel_left]
    have hx2 : (64 * (i : Int) + 64).toNat = 64 * i + 64 := by omega
    go_enter Tryz.func39, Tryz.ntmps39
    go_wp2
    go_ret
    exact ⟨by show Ending.returned (Value.string (ByteArray.extract ⟨t.toArray⟩ (64 * i) (64 * i + 64))) = _; rw [hx], rfl⟩
  · have hx : (⟨t.toArray⟩ : ByteArray).extract (64 * i) t.length = ⟨((t.drop (64 * i)).take 64).toArray⟩ := by
      rw [ext_mid, List.take_of_length_le (by simp), List.take_of_length_le (by simp; omega)]
    go_enter Tryz.func39, Tryz.ntmps39
    go_wp2
    go_ret
    exact ⟨by show Ending.returned (Value.string (ByteArray.extract ⟨t.toArray⟩ (64 * i) t.length)) = _; rw [hx], rfl⟩
end Go.Proofs.YtnhnjdldgaaeoaaGreatDoor
