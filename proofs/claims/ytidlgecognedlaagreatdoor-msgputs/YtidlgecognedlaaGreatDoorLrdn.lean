/-
  What lay.ReadNumber answers, at every place of every text.
-/
import Derived.Test.YtidlgecognedlaaGreatDoorLnum
import Derived.Test.YtidlgecognedlaaGreatDoorLpl
namespace Go.Proofs.YtidlgecognedlaaGreatDoor.Lay
open Go.RowKit Go.Joins
set_option maxRecDepth 100000

set_option maxHeartbeats 400000 in
theorem place_yes (s : ByteArray) (p : Nat) (h : p ≤ s.size) (w : World) :
    Calls Tryz.prog 142 #[.string s, .int .i64 p] w fun e w' => e = .returned (.bool true) ∧ w' = w := by
  have h1 : decide ((p : Int) ≤ (s.size : Int)) = true := by simp; omega
  go_enter Tryz.func142, Tryz.ntmps142
  go_wp2
  go_ret
  exact ⟨rfl, rfl⟩

set_option maxHeartbeats 400000 in
theorem place_no (s : ByteArray) (p : Int) (h : p < 0 ∨ (s.size : Int) < p) (w : World) :
    Calls Tryz.prog 142 #[.string s, .int .i64 p] w fun e w' => e = .returned (.bool false) ∧ w' = w := by
  by_cases h0 : 0 ≤ p
  · have h1 : decide (p ≤ (s.size : Int)) = false := by simp; omega
    have h2 : decide (0 ≤ p) = true := by simp; omega
    go_enter Tryz.func142, Tryz.ntmps142
    go_wp2
    go_ret
    exact ⟨rfl, rfl⟩
  · have h2 : decide (0 ≤ p) = false := by simp; omega
    go_enter Tryz.func142, Tryz.ntmps142
    go_wp2
    go_ret
    exact ⟨rfl, rfl⟩

theorem byte_at (s : ByteArray) (i : Nat) (h : i < s.size) : s.data.toList.getD i 0 = s[i] := by
  have h' : i < s.data.toList.length := by simpa using h
  rw [List.getD, List.getElem?_eq_getElem h']
  rfl
theorem byte_drop (s : ByteArray) (p k : Nat) (h : p + k < s.size) : (s.data.toList.drop p).getD k 0 = s[p + k] := by
  rw [← byte_at s (p + k) h]; simp [List.getD]

/-- The place behind the digits, or 0 beside an error. -/
def eodTo (p : Nat) (r : List UInt8) (stop : UInt8) : Nat := if eodErr r stop = 0 then p + digRun r else 0
theorem eodTo_err {p : Nat} {r : List UInt8} {c : UInt8} {n : Nat} (h : eodErr r c = n) (hn : n ≠ 0) : eodTo p r c = 0 := by unfold eodTo; rw [if_neg (by omega)]
theorem eodTo_ok {p : Nat} {r : List UInt8} {c : UInt8} (h : eodErr r c = 0) : eodTo p r c = p + digRun r := by unfold eodTo; rw [if_pos h]

theorem ret_two {a b a' b' : Int} (h1 : a = a') (h2 : b = b') : Ending.returned (.tuple #[.int .i64 a, .int .i64 b]) = .returned (.tuple #[.int .i64 a', .int .i64 b']) := by rw [h1, h2]

set_option maxHeartbeats 1000000 in
theorem eod_any (s : ByteArray) (p : Nat) (h : p ≤ s.size) (c : UInt8) (hs : s.size ≤ maxLen) (w : World) (r : List UInt8) (HR : Hid (s.data.toList.drop p = r)) :
    Calls Tryz.prog 144 #[.string s, .int .i64 p, .int .u8 c.toNat] w fun e w' => e = .returned (.tuple #[.int .i64 (eodTo p r c), .int .i64 (eodErr r c)]) ∧ w' = w := by
  unfold maxLen at hs
  have hl := digRun_le r
  have hl2 : r.length = s.size - p := by rw [← HR.out]; simp
  have HD := digRun_at r
  have HS := digRun_stop r
  go_enter Tryz.func144, Tryz.ntmps144
  go_wp2
  go_loop [8] (fun i => ∃ k : Nat, k ≤ digRun r ∧ i = .int .i64 ((p + k : Nat) : Int)) (fun i => s.size - (intOf i).toNat)
  case atStart => exact ⟨0, Nat.zero_le _, rfl⟩
  case round =>
    obtain ⟨k, hk, rfl⟩ := hrel
    by_cases hlt : k < digRun r
    · have hd := HD k hlt
      have hps : p + k < s.size := by omega
      rw [← HR.out, byte_drop s p k hps] at hd
      simp only [isDig, Bool.and_eq_true, decide_eq_true_eq] at hd
      obtain ⟨hd1, hd2⟩ := hd
      clear HD HS
      go_wp2
      go_round
      case rel => exact ⟨k + 1, by omega, by go_num⟩
      case measure => simp [intOf]; omega
    · have hke : k = digRun r := by omega
      subst hke
      clear HD
      by_cases hend : digRun r = r.length
      · have hps : p + digRun r = s.size := by omega
        have HE : Hid (eodErr r c = 5) := by show _ = _; unfold eodErr; rw [if_pos hend]
        have hq : (((p : Int) + (digRun r : Int)) == (s.size : Int)) = true := by rw [beq_iff_eq]; omega
        have hq2 : ¬ ((p : Int) + (digRun r : Int)) < (s.size : Int) := by omega
        clear HS
        go_wp2
        go_ret2
        exact ⟨ret_two (by rw [eodTo_err HE.out (by decide)]; rfl) (by rw [HE.out]; rfl), rfl⟩
      · have hps : p + digRun r < s.size := by omega
        have hst := HS (by omega)
        have hgd : r.getD (digRun r) 0 = s[p + digRun r] := by have := byte_drop s p (digRun r) hps; rw [HR.out] at this; exact this
        have hp : p < s.size := by omega
        rw [hgd] at hst
        have hg0 : r.getD 0 0 = s[p] := by have := byte_drop s p 0 (by omega); rw [HR.out] at this; exact this
        have HE : Hid (eodErr r c = if digRun r = 0 ∨ s[p + digRun r] ≠ c ∨ (1 < digRun r ∧ s[p] = 48) then 6 else 0) := by show _ = _; unfold eodErr; rw [if_neg hend, hgd, hg0]
        clear HS hgd hg0
        have hq : (((p : Int) + (digRun r : Int)) == (s.size : Int)) = false := by rw [beq_eq_false_iff_ne]; omega
        have hnd : ((s[p + digRun r].toNat : Int) < 48) ∨ (57 < (s[p + digRun r].toNat : Int)) := by
          simp only [isDig, Bool.and_eq_false_iff, decide_eq_false_iff_not] at hst; omega
        clear hst
        by_cases h0 : digRun r = 0
        · have HE6 : Hid (eodErr r c = 6) := by show _ = _; rw [HE.out, if_pos (Or.inl h0)]
          have hb : (((p : Int) + (digRun r : Int)) == (p : Int)) = true := by rw [beq_iff_eq]; omega
          have hb1 : ¬ 1 < (p : Int) + (digRun r : Int) - (p : Int) := by omega
          clear HE h0
          rcases hnd with hnd | hnd
          all_goals
            go_wp2
            go_ret2
            exact ⟨ret_two (by rw [eodTo_err HE6.out (by decide)]; rfl) (by rw [HE6.out]; rfl), rfl⟩
        · have hb : (((p : Int) + (digRun r : Int)) == (p : Int)) = false := by rw [beq_eq_false_iff_ne]; omega
          by_cases hc : s[p + digRun r] = c
          · have hcb : ((s[p + digRun r].toNat : Int) != (c.toNat : Int)) = false := by rw [hc]; simp
            by_cases h1 : 1 < digRun r
            · have hb1 : 1 < (p : Int) + (digRun r : Int) - (p : Int) := by omega
              by_cases hz : s[p] = 48
              · have HE6 : Hid (eodErr r c = 6) := by show _ = _; rw [HE.out, if_pos (Or.inr (Or.inr ⟨h1, hz⟩))]
                have hzb : ((s[p].toNat : Int) == 48) = true := by rw [beq_iff_eq, hz]; rfl
                clear HE h0 hc hz
                rcases hnd with hnd | hnd
                all_goals
                  go_wp2
                  go_ret2
                  exact ⟨ret_two (by rw [eodTo_err HE6.out (by decide)]; rfl) (by rw [HE6.out]; rfl), rfl⟩
              · have HE0 : Hid (eodErr r c = 0) := by show _ = _; rw [HE.out, if_neg]; exact fun h' => h'.elim h0 (fun h' => h'.elim (fun h' => h' hc) (fun h' => hz h'.2))
                have hzb : ((s[p].toNat : Int) == 48) = false := by
                  rw [beq_eq_false_iff_ne]; intro h'; apply hz; apply UInt8.toNat_inj.1; show _ = 48; omega
                clear HE h0 hc hz
                rcases hnd with hnd | hnd
                all_goals
                  go_wp2
                  go_ret2
                  exact ⟨ret_two (by rw [eodTo_ok HE0.out]; omega) (by rw [HE0.out]; rfl), rfl⟩
            · have hb1 : ¬ 1 < (p : Int) + (digRun r : Int) - (p : Int) := by omega
              have HE0 : Hid (eodErr r c = 0) := by show _ = _; rw [HE.out, if_neg]; exact fun h' => h'.elim h0 (fun h' => h'.elim (fun h' => h' hc) (fun h' => h1 h'.1))
              clear HE h0 hc h1
              rcases hnd with hnd | hnd
              all_goals
                go_wp2
                go_ret2
                exact ⟨ret_two (by rw [eodTo_ok HE0.out]; omega) (by rw [HE0.out]; rfl), rfl⟩
          · have hcb : ((s[p + digRun r].toNat : Int) == (c.toNat : Int)) = false := by
              rw [beq_eq_false_iff_ne]; intro h'; apply hc; apply UInt8.toNat_inj.1; omega
            have hcn : ((s[p + digRun r].toNat : Int) != (c.toNat : Int)) = true := by rw [bne, hcb]; rfl
            have HE6 : Hid (eodErr r c = 6) := by show _ = _; rw [HE.out, if_pos (Or.inr (Or.inl hc))]
            clear HE h0 hc
            rcases hnd with hnd | hnd
            all_goals
              clear hcb
              by_cases h1 : 1 < (p : Int) + (digRun r : Int) - (p : Int)
              all_goals
                go_wp2
                all_goals
                  go_ret2
                  exact ⟨ret_two (by rw [eodTo_err HE6.out (by decide)]; rfl) (by rw [HE6.out]; rfl), rfl⟩
end Go.Proofs.YtidlgecognedlaaGreatDoor.Lay
