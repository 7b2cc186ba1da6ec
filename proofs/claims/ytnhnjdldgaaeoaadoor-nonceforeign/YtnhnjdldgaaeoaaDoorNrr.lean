/-
  What the reference's ReadNumber answers at place 0.
-/
import Derived.Test.YtnhnjdldgaaeoaaDoorNrd
import Derived.Test.YtnhnjdldgaaeoaaDoorLrdm
namespace Go.Proofs.YtnhnjdldgaaeoaaDoor
open Go Go.RowKit
set_option maxRecDepth 100000

/-- The place behind the digits that stand from a place on. -/
theorem refEnd_any (s : ByteArray) (p : Nat) (h : p ≤ s.size) (hs : s.size ≤ maxLen) (w : World) (r : List UInt8) (HR : Hid (s.data.toList.drop p = r)) (v : Int) (hv : v = p) :
    Calls Tryd.prog 32 #[.string s, .int .i64 v] w fun e w' => e = .returned (.int .i64 ((p + digRun r : Nat) : Int)) ∧ w' = w := by
  subst hv
  unfold maxLen at hs
  have hl := digRun_le r
  have hl2 : r.length = s.size - p := by rw [← HR.out]; simp
  have HD := digRun_at r
  have HS := digRun_stop r
  go_enter Tryd.func32, Tryd.ntmps32
  go_wp2
  go_loop [1] (fun i => ∃ k : Nat, k ≤ digRun r ∧ i = .int .i64 ((p + k : Nat) : Int)) (fun i => s.size - (intOf i).toNat)
  case atStart => exact ⟨0, Nat.zero_le _, rfl⟩
  case round =>
    obtain ⟨k, hk, rfl⟩ := hrel
    by_cases hlt : k < digRun r
    · have hd := HD k hlt
      have hps : p + k < s.size := by omega
      rw [← HR.out, Lay.byte_drop s p k hps] at hd
      simp only [isDig, Bool.and_eq_true, decide_eq_true_eq] at hd
      obtain ⟨hd1, hd2⟩ := hd
      clear HD HS
      go_wp2
      go_round
      case rel => exact ⟨k + 1, by omega, by go_num⟩
      case measure => simp [intOf]; omega
    · have hke : k = digRun r := by omega
      subst hke
      clear HD
      by_cases hend : digRun r = r.length
      · have hps : p + digRun r = s.size := by omega
        have hq2 : ¬ ((p : Int) + (digRun r : Int)) < (s.size : Int) := by omega
        clear HS
        go_wp2
        go_ret
        exact ⟨by simp, rfl⟩
      · have hps : p + digRun r < s.size := by omega
        have hst := HS (by omega)
        have hgd : r.getD (digRun r) 0 = s[p + digRun r] := by have := Lay.byte_drop s p (digRun r) hps; rw [HR.out] at this; exact this
        rw [hgd] at hst
        have hnd : ((s[p + digRun r].toNat : Int) < 48) ∨ (57 < (s[p + digRun r].toNat : Int)) := by
          simp only [isDig, Bool.and_eq_false_iff, decide_eq_false_iff_not] at hst; omega
        clear hst HS hgd
        rcases hnd with hnd | hnd
        all_goals
          go_wp2
          go_ret
          exact ⟨by simp, rfl⟩

/-- What is wrong with digits. -/
theorem refBad_any (s : ByteArray) (p : Nat) (h : p ≤ s.size) (c : UInt8) (hs : s.size ≤ maxLen) (w : World) (r : List UInt8) (HR : Hid (s.data.toList.drop p = r)) (v u : Int) (hv : v = p) (hu : u = ((p + digRun r : Nat) : Int)) :
    Calls Tryd.prog 33 #[.string s, .int .i64 v, .int .i64 u, .int .u8 c.toNat] w fun e w' => e = .returned (.int .i64 (eodErr r c)) ∧ w' = w := by
  subst hv hu
  unfold maxLen at hs
  have hl := digRun_le r
  have hl2 : r.length = s.size - p := by rw [← HR.out]; simp
  by_cases hend : digRun r = r.length
  · have hps : p + digRun r = s.size := by omega
    have HE : eodErr r c = 5 := by unfold eodErr; rw [if_pos hend]
    rw [HE, hps]
    go_enter Tryd.func33, Tryd.ntmps33
    go_wp2
    go_ret
    exact ⟨rfl, rfl⟩
  · have hps : p + digRun r < s.size := by omega
    have hp : p < s.size := by omega
    have hgd : r.getD (digRun r) 0 = s[p + digRun r] := by have := Lay.byte_drop s p (digRun r) hps; rw [HR.out] at this; exact this
    have hg0 : r.getD 0 0 = s[p] := by have := Lay.byte_drop s p 0 (by omega); rw [HR.out] at this; exact this
    have HE : Hid (eodErr r c = if digRun r = 0 ∨ s[p + digRun r] ≠ c ∨ (1 < digRun r ∧ s[p] = 48) then 6 else 0) := by show _ = _; unfold eodErr; rw [if_neg hend, hgd, hg0]
    have q0 : decide (((p + digRun r : Nat) : Int) < (s.size : Int)) = true := by simp; omega
    have q1 : decide ((s.size : Int) ≤ ((p + digRun r : Nat) : Int)) = false := by simp; omega
    clear hgd hg0
    by_cases h0 : digRun r = 0
    · have HE6 : eodErr r c = 6 := by rw [HE.out, if_pos (Or.inl h0)]
      rw [HE6]
      have hb : (((p + digRun r : Nat) : Int) == (p : Int)) = true := by rw [beq_iff_eq]; omega
      clear HE h0
      generalize p + digRun r = q at *
      go_enter Tryd.func33, Tryd.ntmps33
      go_wp2
      go_ret
      exact ⟨rfl, rfl⟩
    · have hb : (((p + digRun r : Nat) : Int) == (p : Int)) = false := by rw [beq_eq_false_iff_ne]; omega
      by_cases hc : s[p + digRun r] = c
      · have hcb : ((s[p + digRun r].toNat : Int) != (c.toNat : Int)) = false := by rw [hc]; simp
        by_cases h1 : 1 < digRun r
        · have hb1 : decide ((p : Int) + 1 < ((p + digRun r : Nat) : Int)) = true := by simp; omega
          by_cases hz : s[p] = 48
          · have HE6 : eodErr r c = 6 := by rw [HE.out, if_pos (Or.inr (Or.inr ⟨h1, hz⟩))]
            rw [HE6]
            have hzb : ((s[p].toNat : Int) == 48) = true := by rw [beq_iff_eq, hz]; rfl
            clear HE h0 hc hz
            generalize p + digRun r = q at *
            go_enter Tryd.func33, Tryd.ntmps33
            go_wp2
            go_ret
            exact ⟨rfl, rfl⟩
          · have HE0 : eodErr r c = 0 := by rw [HE.out, if_neg]; exact fun h' => h'.elim h0 (fun h' => h'.elim (fun h' => h' hc) (fun h' => hz h'.2))
            rw [HE0]
            have hzb : ((s[p].toNat : Int) == 48) = false := by
              rw [beq_eq_false_iff_ne]; intro h'; apply hz; apply UInt8.toNat_inj.1; show _ = 48; omega
            clear HE h0 hc hz
            generalize p + digRun r = q at *
            go_enter Tryd.func33, Tryd.ntmps33
            go_wp2
            go_ret
            exact ⟨rfl, rfl⟩
        · have hb1 : decide ((p : Int) + 1 < ((p + digRun r : Nat) : Int)) = false := by simp; omega
          have HE0 : eodErr r c = 0 := by rw [HE.out, if_neg]; exact fun h' => h'.elim h0 (fun h' => h'.elim (fun h' => h' hc) (fun h' => h1 h'.1))
          rw [HE0]
          clear HE h0 hc
          generalize p + digRun r = q at *
          go_enter Tryd.func33, Tryd.ntmps33
          go_wp2
          go_ret
          exact ⟨rfl, rfl⟩
      · have hcn : ((s[p + digRun r].toNat : Int) != (c.toNat : Int)) = true := by
          rw [bne_iff_ne]; intro h'; apply hc; apply UInt8.toNat_inj.1; omega
        have HE6 : eodErr r c = 6 := by rw [HE.out, if_pos (Or.inr (Or.inl hc))]
        rw [HE6]
        clear HE h0 hc
        generalize p + digRun r = q at *
        go_enter Tryd.func33, Tryd.ntmps33
        go_wp2
        go_ret
        exact ⟨rfl, rfl⟩
end Go.Proofs.YtnhnjdldgaaeoaaDoor
