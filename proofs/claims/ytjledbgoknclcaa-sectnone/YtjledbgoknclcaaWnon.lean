/-
  SectNone: a nil disk has nothing.
-/
import Derived.Test.YtjledbgoknclcaaWmd
namespace Go.Proofs.Ytjledbgoknclcaa
open Go Go.RowKit
set_option maxRecDepth 100000

set_option maxHeartbeats 2000000 in
theorem none_walk (w : World) (k i : Int) (t : List UInt8) (v : Value) (ks : List Int) (hI : IntsAt w v ks) (n : Int) :
    Calls Try.prog 7 #[.agg #[.int .i64 k, .int .i64 i, .string ⟨t.toArray⟩, v], .int .i64 n] w fun e w' => e = .returned (.bool true) ∧ Below w.heap.size w w' := by
  obtain ⟨ao, cap, rfl, -⟩ := hI
  have HQ : Hid (∀ W, Below (w.heap.size + 1) (w.alloc (.cells #[.int .i64 k, .int .i64 i, .string ⟨t.toArray⟩, .slice ao ks.length cap] 44)) W → W.cell? ⟨w.heap.size, 1, none⟩ = some (.int .i64 i) ∧ W.cell? ⟨w.heap.size, 2, none⟩ = some (.string ⟨t.toArray⟩) ∧ W.cell? ⟨w.heap.size, 3, none⟩ = some (.slice ao ks.length cap)) := by
    intro W hW
    have h9 := (hW.block w.heap.size (by omega)).trans (top_row w _)
    exact ⟨by rw [cell_of_row _ _ _ _ _ _ h9]; rfl, by rw [cell_of_row _ _ _ _ _ _ h9]; rfl, by rw [cell_of_row _ _ _ _ _ _ h9]; rfl⟩
  have HB0 : Hid (Below w.heap.size w (w.alloc (.cells #[.int .i64 k, .int .i64 i, .string ⟨t.toArray⟩, .slice ao ks.length cap] 44))) := below_a1 w _
  have hs0 : Hid ((w.alloc (.cells #[.int .i64 k, .int .i64 i, .string ⟨t.toArray⟩, .slice ao ks.length cap] 44)).heap.size = w.heap.size + 1) := show _ = _ by simp
  generalize ks.length = kl at *
  have HAW := hid awake_any
  by_cases hn : 1 ≤ n ∧ n ≤ 512
  · obtain ⟨m, rfl⟩ : ∃ m : Nat, n = m := ⟨n.toNat, by omega⟩
    have HN := hid (fun W => new_ok W m (by omega) (by omega))
    have d1 : decide (1 ≤ (m : Int)) = true := by simp; omega
    have d2 : decide ((m : Int) ≤ 512) = true := by simp; omega
    clear hn
    go_enter Try.func7, Try.ntmps7
    go_wp2_with (first | (go_at_call 10; refine (read_nil _ _).mono ?_; rintro e w1 ⟨rfl, hw1⟩; subst w1))
    refine (HN.out _).mono ?_
    rintro e w2 ⟨d, g, rfl, -, hb2, -, -⟩
    have HB2 := hid hb2
    clear hb2
    go_wp2_with fail
    refine (HAW.out _).mono ?_
    rintro e w3 ⟨rfl, hb3⟩
    have HB3 : Hid (Below (w.heap.size + 1) (w.alloc (.cells #[.int .i64 k, .int .i64 i, .string ⟨t.toArray⟩, .slice ao kl cap] 44)) w3) := by
      have h9 := hs0.out
      have h8 := HB2.out
      rw [h9] at h8
      exact h8.trans (hb3.mono (by have := h8.size; omega))
    have HBw : Hid (Below w.heap.size w w3) := HB0.out.trans (HB3.out.mono (by omega))
    obtain ⟨q1, q2, q3⟩ := HQ.out _ HB3.out
    clear hb3 HB2 HB3 HB0 HQ
    go_wp2_with (first | (go_at_call 18; refine (write_nil _ _ _).mono ?_; rintro e w1 ⟨rfl, hw1⟩; subst w1) | (go_at_call 22; refine (sync_nil _).mono ?_; rintro e w1 ⟨rfl, hw1⟩; subst w1) | (go_at_call 21; refine (arm_nil _ _).mono ?_; rintro e w1 ⟨rfl, hw1⟩; subst w1) | (go_at_call 17; refine (crash_nil _ _).mono ?_; rintro e w1 ⟨rfl, hw1⟩; subst w1) | (go_at_call 13; refine (sectors_nil _).mono ?_; rintro e w1 ⟨rfl, hw1⟩; subst w1) | (go_at_call 15; refine (loose_nil _).mono ?_; rintro e w1 ⟨rfl, hw1⟩; subst w1) | (go_at_call 12; refine (down_nil _).mono ?_; rintro e w1 ⟨rfl, hw1⟩; subst w1))
    go_ret
    exact ⟨rfl, HBw.out⟩
  · have HN := hid (fun W => new_bad W n (by omega))
    by_cases hn1 : 1 ≤ n
    · have d1 : decide (1 ≤ n) = true := by simpa using hn1
      have d2 : decide (n ≤ 512) = false := by simp; omega
      clear hn hn1
      go_enter Try.func7, Try.ntmps7
      go_wp2_with (first | (go_at_call 10; refine (read_nil _ _).mono ?_; rintro e w1 ⟨rfl, hw1⟩; subst w1))
      refine (HN.out _).mono ?_
      rintro e w2 ⟨rfl, hw2⟩
      subst w2
      go_wp2_with fail
      refine (HAW.out _).mono ?_
      rintro e w3 ⟨rfl, hb3⟩
      have HB3 : Hid (Below (w.heap.size + 1) (w.alloc (.cells #[.int .i64 k, .int .i64 i, .string ⟨t.toArray⟩, .slice ao kl cap] 44)) w3) := by
        have h9 := hs0.out
        rw [h9] at hb3
        exact hb3
      have HBw : Hid (Below w.heap.size w w3) := HB0.out.trans (HB3.out.mono (by omega))
      obtain ⟨q1, q2, q3⟩ := HQ.out _ HB3.out
      clear hb3 HB3 HB0 HQ
      go_wp2_with (first | (go_at_call 18; refine (write_nil _ _ _).mono ?_; rintro e w1 ⟨rfl, hw1⟩; subst w1) | (go_at_call 22; refine (sync_nil _).mono ?_; rintro e w1 ⟨rfl, hw1⟩; subst w1) | (go_at_call 21; refine (arm_nil _ _).mono ?_; rintro e w1 ⟨rfl, hw1⟩; subst w1) | (go_at_call 17; refine (crash_nil _ _).mono ?_; rintro e w1 ⟨rfl, hw1⟩; subst w1) | (go_at_call 13; refine (sectors_nil _).mono ?_; rintro e w1 ⟨rfl, hw1⟩; subst w1) | (go_at_call 15; refine (loose_nil _).mono ?_; rintro e w1 ⟨rfl, hw1⟩; subst w1) | (go_at_call 12; refine (down_nil _).mono ?_; rintro e w1 ⟨rfl, hw1⟩; subst w1))
      go_ret
      exact ⟨rfl, HBw.out⟩
    · have d1 : decide (1 ≤ n) = false := by simpa using hn1
      clear hn hn1
      go_enter Try.func7, Try.ntmps7
      go_wp2_with (first | (go_at_call 10; refine (read_nil _ _).mono ?_; rintro e w1 ⟨rfl, hw1⟩; subst w1))
      refine (HN.out _).mono ?_
      rintro e w2 ⟨rfl, hw2⟩
      subst w2
      go_wp2_with fail
      refine (HAW.out _).mono ?_
      rintro e w3 ⟨rfl, hb3⟩
      have HB3 : Hid (Below (w.heap.size + 1) (w.alloc (.cells #[.int .i64 k, .int .i64 i, .string ⟨t.toArray⟩, .slice ao kl cap] 44)) w3) := by
        have h9 := hs0.out
        rw [h9] at hb3
        exact hb3
      have HBw : Hid (Below w.heap.size w w3) := HB0.out.trans (HB3.out.mono (by omega))
      obtain ⟨q1, q2, q3⟩ := HQ.out _ HB3.out
      clear hb3 HB3 HB0 HQ
      go_wp2_with (first | (go_at_call 18; refine (write_nil _ _ _).mono ?_; rintro e w1 ⟨rfl, hw1⟩; subst w1) | (go_at_call 22; refine (sync_nil _).mono ?_; rintro e w1 ⟨rfl, hw1⟩; subst w1) | (go_at_call 21; refine (arm_nil _ _).mono ?_; rintro e w1 ⟨rfl, hw1⟩; subst w1) | (go_at_call 17; refine (crash_nil _ _).mono ?_; rintro e w1 ⟨rfl, hw1⟩; subst w1) | (go_at_call 13; refine (sectors_nil _).mono ?_; rintro e w1 ⟨rfl, hw1⟩; subst w1) | (go_at_call 15; refine (loose_nil _).mono ?_; rintro e w1 ⟨rfl, hw1⟩; subst w1) | (go_at_call 12; refine (down_nil _).mono ?_; rintro e w1 ⟨rfl, hw1⟩; subst w1))
      go_ret
      exact ⟨rfl, HBw.out⟩
end Go.Proofs.Ytjledbgoknclcaa
