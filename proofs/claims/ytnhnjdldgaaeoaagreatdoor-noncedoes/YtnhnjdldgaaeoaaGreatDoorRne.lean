/-
  What the reference's New makes: the walk.
-/
import Derived.Test.YtnhnjdldgaaeoaaGreatDoorRnw
namespace Go.Proofs.YtnhnjdldgaaeoaaGreatDoor
open Go Go.RowKit
set_option maxRecDepth 100000

theorem rnew_bad (w : World) (n : Int) (h : n < 1 ∨ 512 < n) : Calls Tryz.prog 5 #[.int .i64 n] w fun e w' => e = .returned (.tuple #[.pointer none, .int .i64 2]) ∧ w' = w := by
  by_cases h1 : n < 1
  · have d1 : decide (n < 1) = true := by simpa using h1
    go_enter Tryz.func5, Tryz.ntmps5
    go_wp2
    go_ret2
    exact ⟨rfl, rfl⟩
  · have d1 : decide (n < 1) = false := by simpa using h1
    have d2 : decide (512 < n) = true := by simp; omega
    go_enter Tryz.func5, Tryz.ntmps5
    go_wp2
    go_ret2
    exact ⟨rfl, rfl⟩

theorem NI.atL {w W W' : World} {x a b : Nat} {vL vO u : Value} (h : NI w W x vL vO a b) (hg : (W.alloc (.cells #[u] 9)).grownBy W' vL.ownBlock) : W'.cell? ⟨x, 0, none⟩ = some vL ∧ W'.frozen? ⟨x, 0, none⟩ = false := by
  have hxl := row_lt h.obj
  have hxr : W'.heap[x]? = some (.cells #[vL, vO, .int .i64 0, .bool false] 64) := by
    rw [hg.block x (by simp; omega) (Ne.symm (own_ne h.obj h.L)), heap_old1 _ _ _ hxl]; exact h.obj
  exact ⟨by rw [cell_of_row _ _ _ _ _ _ hxr]; rfl, by simp [World.frozen?, hxr]⟩
theorem NI.atO {w W W' : World} {x a b : Nat} {vL vO u : Value} (h : NI w W x vL vO a b) (hg : (W.alloc (.cells #[u] 9)).grownBy W' vO.ownBlock) : W'.cell? ⟨x, 1, none⟩ = some vO ∧ W'.frozen? ⟨x, 1, none⟩ = false := by
  have hxl := row_lt h.obj
  have hxr : W'.heap[x]? = some (.cells #[vL, vO, .int .i64 0, .bool false] 64) := by
    rw [hg.block x (by simp; omega) (Ne.symm (own_ne h.obj h.O)), heap_old1 _ _ _ hxl]; exact h.obj
  exact ⟨by rw [cell_of_row _ _ _ _ _ _ hxr]; rfl, by simp [World.frozen?, hxr]⟩

set_option maxHeartbeats 4000000 in
theorem rnew_ok (w : World) (n : Nat) (h1 : 1 ≤ n) (h2 : n ≤ 512) : Calls Tryz.prog 5 #[.int .i64 (n : Int)] w fun e w' => ∃ r : Rx, e = .returned (.tuple #[.pointer (some ⟨r.x, 0, none⟩), .int .i64 0]) ∧ RefAt w' r (newD n) ∧ Below w.heap.size w w' ∧ w.heap.size ≤ r.x ∧ w.heap.size ≤ r.gL ∧ w.heap.size ≤ r.gO := by
  have d1 : decide ((n : Int) < 1) = false := by simp; omega
  have d2 : decide ((512 : Int) < (n : Int)) = false := by simp; omega
  have HF : Hid (∀ W, Calls Tryz.prog 23 #[.string ⟨#[]⟩] W fun e w' => e = .returned (.string ⟨zer.toArray⟩) ∧ Below W.heap.size W w') := fun W => rfill_any [] (by decide) W
  have HI0 : Hid (∃ vL vO, NI w (w.alloc (.cells #[.slice none 0 0, .slice none 0 0, .int .i64 0, .bool false] 64)) w.heap.size vL vO 0 0) :=
    ⟨.slice none 0 0, .slice none 0 0, ⟨top_row w _, World.ownsRow_nil _ _ _ _, World.ownsRow_nil _ _ _ _, fun g e _ => by simp [Value.ownBlock] at e, below_a1 w _, Nat.le_refl _⟩⟩
  go_enter Tryz.func5, Tryz.ntmps5
  go_wp2
  go_loopw [5] (fun i w' => ∃ k : Nat, k ≤ n ∧ i = .int .i64 k ∧ Hid (∃ vL vO, NI w w' w.heap.size vL vO k k)) (fun i _ => n - (intOf i).toNat)
  case atStart => exact ⟨0, by omega, rfl, HI0⟩
  case round =>
    clear HI0
    obtain ⟨k, hk, rfl, HR⟩ := hrel
    obtain ⟨vL, vO, hI⟩ := HR.out
    have HI := hid hI
    by_cases hlt : k < n
    · have d3 : decide ((k : Int) < (n : Int)) = true := by simpa using hlt
      have HQ : Hid (∀ W, Below wr.heap.size wr W → W.cell? ⟨w.heap.size, 0, none⟩ = some vL) := by
        intro W hb
        rw [cell_of_row _ _ _ _ _ _ (HI.out.keep hb).obj]; rfl
      have q1 := HQ.out wr (Below.refl _ _)
      clear hI HR
      go_wp2_with fail
      go_region_law (first | (refine step_push _ (by rfl) (.tmp 23) (.tmp 25) 62 9 (by rfl) _ 16 Tryz.underlying62 info9 rfl (by omega) w.heap.size vL (tx zer) k (List.replicate k (tx zer)) (by rfl) (by rfl) (HI.out.keep HBa).L rfl (by omega) (Nat.le_trans HI.out.bel.size HBa.size) ?_; intro v3 W3 hr3 hg3 hat3; have HN3 := hid ((HI.out.keep HBa).pushL hr3 hg3 hat3); obtain ⟨q3, q4⟩ := (HI.out.keep HBa).atL hg3; obtain ⟨ao3, cap3, hv3⟩ := own_form hr3; subst hv3; clear hr3 hg3 hat3) | (go_simp; go_at_call 23; refine (HF.out _).mono ?_; rintro e W2 ⟨rfl, hb⟩; have HBa : Below wr.heap.size wr W2 := (Below.refl _ _).drew.trans hb; clear hb; have q2 := HQ.out _ HBa; have q2b := HQ.out _ (below_more HBa (.cells #[.string ⟨zer.toArray⟩] 9) (Nat.le_refl _))))
      all_goals
        obtain ⟨vL2, hvL2⟩ : ∃ v, v = Value.slice ao3 (k + 1) cap3 := ⟨_, rfl⟩
        rw [← hvL2] at HN3 ⊢
        clear hvL2
        generalize W3.setCell ⟨w.heap.size, 0, none⟩ vL2 = W4 at *
        have q5 : W4.cell? ⟨w.heap.size, 1, none⟩ = some vO := by rw [cell_of_row _ _ _ _ _ _ HN3.out.obj]; rfl
        have hsz4 : w.heap.size ≤ W4.heap.size := HN3.out.bel.size
        clear q3 q4 HI HQ q1
        go_wp2_with (first | (at_builtin; refine wpList_push (W := W4) rfl (.tmp 33) (.tmp 34) 62 9 rfl _ 16 Tryz.underlying62 info9 rfl (by omega) w.heap.size vO (tx []) k (List.replicate k (tx [])) rfl rfl HN3.out.O rfl (by omega) hsz4 ?_; intro v5 W5 hr5 hg5 hat5; have HN5 := hid (HN3.out.pushO hr5 hg5 hat5); obtain ⟨q6, q7⟩ := HN3.out.atO hg5; obtain ⟨ao5, cap5, hv5⟩ := own_form hr5; subst hv5; clear hr5 hg5 hat5))
        go_roundw
        case rel => exact ⟨k + 1, by omega, by go_num, ⟨_, _, HN5.out⟩⟩
        case measure => simp [intOf]; omega
    · obtain rfl : k = n := by omega
      obtain ⟨r, hx, hra, hg1, hg2⟩ := HI.out.done h1 h2
      have HRA := hid hra
      have HX := hid hx
      have HG1 := hid hg1
      have HG2 := hid hg2
      have HBL := hid HI.out.bel
      clear hra hx hg1 hg2 hI HR HI
      go_wp2
      go_ret2
      exact ⟨r, by rw [HX.out]; rfl, HRA.out, HBL.out, by rw [HX.out]; exact Nat.le_refl _, HG1.out, HG2.out⟩
end Go.Proofs.YtnhnjdldgaaeoaaGreatDoor
