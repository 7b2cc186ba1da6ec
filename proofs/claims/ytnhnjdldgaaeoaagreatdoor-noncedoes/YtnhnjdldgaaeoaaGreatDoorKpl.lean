/-
  What cell's place and a claim's bytes do.
-/
import Derived.Test.YtnhnjdldgaaeoaaGreatDoorKnum
namespace Go.Proofs.YtnhnjdldgaaeoaaGreatDoor
open Go Go.RowKit
set_option maxRecDepth 100000

theorem eightR_getD (k n i : Nat) (h : i < k) : (eightR k n).getD i 0 = UInt8.ofNat (n / 256 ^ (k - 1 - i)) := by
  induction k generalizing n with
  | zero => omega
  | succ k ih =>
    rw [eightR]
    by_cases hi : i < k
    · have e : (eightR k (n / 256) ++ [UInt8.ofNat n]).getD i 0 = (eightR k (n / 256)).getD i 0 := by
        simp only [List.getD]
        rw [List.getElem?_append_left (by rw [eightR_len]; exact hi)]
      rw [e, ih _ hi, Nat.div_div_eq_div_mul, ← Nat.pow_succ']
      congr 3
      omega
    · have : i = k := by omega
      subst this
      have e : (eightR i (n / 256) ++ [UInt8.ofNat n]).getD i 0 = UInt8.ofNat n := by
        simp only [List.getD]
        rw [List.getElem?_append_right (by rw [eightR_len]; omega), eightR_len, Nat.sub_self]
        rfl
      rw [e]
      simp

/-- A row whose midst is being laid anew, from the left. -/
def midR (A E B C : List Value) (j : Nat) : List Value := A ++ (E.take j ++ B.drop j) ++ C
theorem midR_set (A E B C : List Value) (j : Nat) (v : Value) (hE : E[j]? = some v) (hB : B.length = E.length) : ((midR A E B C j).toArray.setIfInBounds (A.length + j) v) = (midR A E B C (j + 1)).toArray := by
  have hj : j < E.length := (List.getElem?_eq_some_iff.1 hE).1
  rw [List.setIfInBounds_toArray]
  congr 1
  unfold midR
  rw [List.append_assoc, List.set_append_right _ _ (by omega), Nat.add_sub_cancel_left]
  rw [List.append_assoc, List.append_assoc, List.set_append_right _ _ (by rw [List.length_take]; omega)]
  congr 1
  rw [List.length_take, Nat.min_eq_left (by omega), Nat.sub_self]
  have e1 : B.drop j = B[j] :: B.drop (j + 1) := List.drop_eq_getElem_cons (by omega)
  rw [e1]
  have e2 : E.take (j + 1) = E.take j ++ [v] := by
    rw [List.take_succ_eq_append_getElem hj]
    have := (List.getElem?_eq_some_iff.1 hE).2
    rw [this]
  rw [e2]
  generalize B[j] = x
  simp
theorem midR_get (A E B C : List Value) (j : Nat) (hj : j < B.length) (hB : B.length = E.length) : (midR A E B C j).toArray[A.length + j]? = some B[j] := by
  unfold midR
  rw [List.getElem?_toArray, List.append_assoc, List.getElem?_append_right (by omega), Nat.add_sub_cancel_left, List.append_assoc, List.getElem?_append_right (by rw [List.length_take]; omega)]
  rw [List.length_take, Nat.min_eq_left (by omega), Nat.sub_self, List.drop_eq_getElem_cons hj]
  rfl
def byteI (n k : Nat) : Int := (n / 256 ^ k % 256 : Nat)
theorem eight_cell (n j : Nat) (h : j < 8) : ((eightB n).map cb)[j]? = some (.int .u8 (byteI n (7 - j))) := by
  rw [cb_at _ _ (by rw [eightB_len]; exact h), eightB, eightR_getD 8 n j h]
  simp only [bv, byteI, UInt8.toNat_ofNat']

theorem wrapB (x : Int) : IntKind.u8.wrap x = x % 256 := by simp [IntKind.wrap, IntKind.bits, IntKind.signed]
theorem byte7 (n : Nat) (h : n < 9223372036854775808) : (n : Int) / 72057594037927936 = byteI n 7 := by simp [byteI]; omega
theorem byte6 (n : Nat) : IntKind.u8.wrap ((n : Int) / 281474976710656) = byteI n 6 := by rw [wrapB]; simp [byteI]
theorem byte5 (n : Nat) : IntKind.u8.wrap ((n : Int) / 1099511627776) = byteI n 5 := by rw [wrapB]; simp [byteI]
theorem byte4 (n : Nat) : IntKind.u8.wrap ((n : Int) / 4294967296) = byteI n 4 := by rw [wrapB]; simp [byteI]
theorem byte3 (n : Nat) : IntKind.u8.wrap ((n : Int) / 16777216) = byteI n 3 := by rw [wrapB]; simp [byteI]
theorem byte2 (n : Nat) : IntKind.u8.wrap ((n : Int) / 65536) = byteI n 2 := by rw [wrapB]; simp [byteI]
theorem byte1 (n : Nat) : IntKind.u8.wrap ((n : Int) / 256) = byteI n 1 := by rw [wrapB]; simp [byteI]
theorem byte0 (n : Nat) : IntKind.u8.wrap (n : Int) = byteI n 0 := by rw [wrapB]; simp [byteI]

set_option maxHeartbeats 1000000 in
theorem place_any (w : World) (g off : Nat) (A B C : List Value) (t : TypeId) (n len cap : Nat) (hn : n < 9223372036854775808) (hlen : 8 ≤ len) (hB : B.length = 8) (ho : off = A.length) (hr : w.heap[g]? = some (.cells (A ++ B ++ C).toArray t)) :
    Calls Tryz.prog 72 #[.slice (some ⟨g, off, none⟩) len cap, .int .i64 n] w fun e w' => e = .returned (.tuple #[]) ∧ w'.heap[g]? = some (.cells (A ++ (eightB n).map cb ++ C).toArray t) ∧ Kp [g] w w' := by
  subst ho
  have HE := hid (eight_cell n)
  have hEl : ((eightB n).map cb).length = 8 := by simp [eightB_len]
  have HR : Hid (w.heap[g]? = some (.cells (midR A ((eightB n).map cb) B C 0).toArray t)) := by show _ = _; rw [hr]; simp [midR]
  have HF : Hid (midR A ((eightB n).map cb) B C 8 = A ++ (eightB n).map cb ++ C) := by
    show _ = _
    unfold midR
    rw [List.take_of_length_le (by omega), List.drop_eq_nil_of_le (by omega), List.append_nil]
  generalize (eightB n).map cb = E at *
  have HK := hid (Kp.refl [g] w)
  clear hr
  go_enter Tryz.func72, Tryz.ntmps72
  go_wp2
  go_loopw [5] (fun i w' => ∃ j : Nat, j ≤ 8 ∧ i = .int .i64 j ∧ Hid (w'.heap[g]? = some (.cells (midR A E B C j).toArray t)) ∧ Hid (Kp [g] w w')) (fun i _ => 8 - (intOf i).toNat)
  case atStart => exact ⟨0, by omega, rfl, HR, HK⟩
  case round =>
    clear HR HK
    obtain ⟨j, hj, rfl, HR, HK⟩ := hrel
    by_cases hlt : j < 8
    · have hc : wr.cell? ⟨g, A.length + j, none⟩ = some (B[j]'(by omega)) := by rw [cell_of_row _ _ _ _ _ _ HR.out]; exact midR_get A E B C j (by omega) (by omega)
      have hfz : wr.frozen? ⟨g, A.length + j, none⟩ = false := by simp [World.frozen?, HR.out]
      have hs := heap_setCell_same wr g (A.length + j) _ t (.int .u8 (byteI n (7 - j))) HR.out
      have hs2 := midR_set A E B C j _ (HE.out j hlt) (by omega)
      have HS : Hid (∀ X : Int, X = byteI n (7 - j) → Hid ((wr.setCell ⟨g, A.length + j, none⟩ (.int .u8 X)).heap[g]? = some (.cells (midR A E B C (j + 1)).toArray t)) ∧ Hid (Kp [g] w (wr.setCell ⟨g, A.length + j, none⟩ (.int .u8 X)))) := by
        rintro X rfl
        refine ⟨?_, HK.out.setCell _ _ (.inl (by simp))⟩
        show _ = _
        rw [hs]
        simpa using hs2
      clear hs hs2
      rcases (by omega : j = 0 ∨ j = 1 ∨ j = 2 ∨ j = 3 ∨ j = 4 ∨ j = 5 ∨ j = 6 ∨ j = 7) with rfl | rfl | rfl | rfl | rfl | rfl | rfl | rfl
      all_goals
        try simp only [Nat.add_zero] at hc hfz
        go_wp2
        go_roundw
        case rel => exact ⟨_, by decide, rfl, (HS.out _ (by first | exact byte7 n hn | exact byte6 n | exact byte5 n | exact byte4 n | exact byte3 n | exact byte2 n | exact byte1 n | exact byte0 n)).1, (HS.out _ (by first | exact byte7 n hn | exact byte6 n | exact byte5 n | exact byte4 n | exact byte3 n | exact byte2 n | exact byte1 n | exact byte0 n)).2⟩
        case measure => simp [intOf]
    · obtain rfl : j = 8 := by omega
      go_wp2
      go_end0
      exact ⟨rfl, by rw [← HF.out]; exact HR.out, HK.out⟩
end Go.Proofs.YtnhnjdldgaaeoaaGreatDoor
