/-
  What New makes.
-/
import Derived.Test.YtnhnjdldgaaeoaaGreatDoorDop
namespace Go.Proofs.YtnhnjdldgaaeoaaGreatDoor
open Go Go.RowKit
set_option maxRecDepth 100000

def newD (n : Nat) : Dk := ⟨List.replicate n sec0, 0, false⟩
theorem rep_at {α β : Type} (f : α → List β) (x : α) (m : Nat) (hm : (f x).length = m) : ∀ (n i : Nat), i < n * m → ((List.replicate n x).flatMap f)[i]? = (f x)[i % m]? := by
  intro n
  induction n with
  | zero => intro i hi; simp at hi
  | succ n ih =>
    intro i hi
    rw [List.replicate_succ, List.flatMap_cons]
    by_cases h : i < m
    · rw [List.getElem?_append_left (by omega), Nat.mod_eq_of_lt h]
    · rw [List.getElem?_append_right (by omega), hm, ih (i - m) (by rw [Nat.succ_mul] at hi; omega)]
      congr 1
      exact (Nat.mod_eq_sub_mod (by omega)).symm
theorem made_rep (n : Nat) : madeCells (secC sec0).toArray (n * 129) = (flatS (List.replicate n sec0)).toArray := by
  have hok : AllOk (List.replicate n sec0) := fun s hs => by rw [(List.mem_replicate.1 hs).2]; exact sec0_ok
  have hl := secC_len sec0_ok
  apply Array.ext_getElem?
  intro i
  by_cases hi : i < n * 129
  · have e : (flatS (List.replicate n sec0)).toArray[i]? = (secC sec0)[i % 129]? := by
      rw [← rep_at secC sec0 129 hl n i hi]
      simp [flatS]
    rw [e]
    have hm : i % 129 < 129 := Nat.mod_lt _ (by omega)
    simp [madeCells, hi, hl, hm]
  · rw [Array.getElem?_eq_none (by simp [madeCells]; omega), Array.getElem?_eq_none (by simp [flatS_len hok]; omega)]

theorem info60 : (Tryz.prog.info? 107).map (fun i => (i.zero, i.size, i.bytes)) = some (some (.agg (secC sec0).toArray), 129, 129) := by kernel_rfl

theorem new_ok (w : World) (n : Nat) (h1 : 1 ≤ n) (h2 : n ≤ 512) : Calls Tryz.prog 4 #[.int .i64 (n : Int)] w fun e w' => ∃ d g, e = .returned (.tuple #[.pointer (some ⟨d, 0, none⟩), .int .i64 0]) ∧ DiskAt w' d g (newD n) ∧ Below w.heap.size w w' ∧ w.heap.size ≤ d ∧ w.heap.size ≤ g := by
  obtain ⟨i, hi, hz0, hz1, hz2⟩ := info_parts info60
  have hmk := run_make (P := Tryz.prog) w 59 107 i _ Tryz.underlying59 hi hz0 .i64 .i64 (n : Int) (n : Int) (by omega) (by omega) (by rw [hz2]; omega) (by omega)
  have hR : madeCells ((Value.agg (secC sec0).toArray).cells) ((n : Int).toNat * i.size) = (flatS (List.replicate n sec0)).toArray := by
    rw [hz1]
    exact made_rep n
  rw [hR] at hmk
  simp only [Int.toNat_natCast] at hmk
  have hok : Hid (AllOk (List.replicate n sec0)) := fun s hs => by rw [(List.mem_replicate.1 hs).2]; exact sec0_ok
  have hlen : Hid ((List.replicate n sec0).length = n) := show _ = _ by simp
  clear hR hz0 hz1 hz2 hi i
  have d1 : decide ((n : Int) < 1) = false := by simp; omega
  have d2 : decide ((512 : Int) < (n : Int)) = false := by simp; omega
  obtain ⟨R, hR⟩ : ∃ R, R = (flatS (List.replicate n sec0)).toArray := ⟨_, rfl⟩
  rw [← hR] at hmk
  have HR := hid hR
  clear hR
  go_enter Tryz.func4, Tryz.ntmps4
  go_wp2
  go_ret2
  refine ⟨w.heap.size + 1, w.heap.size, ?_, ⟨?_, ?_, hok.out, ?_, ?_⟩, ?_, by omega, by omega⟩
  · rfl
  · show _ = some (Obj.cells #[.slice (some ⟨w.heap.size, 0, none⟩) (List.replicate n sec0).length (List.replicate n sec0).length, .int .i64 0, .bool false] 61 (0, 0))
    rw [hlen.out]
    exact heap_alloc2_new w _ _
  · show _ = some (Obj.cells (flatS (List.replicate n sec0)).toArray 107 (0, 0))
    rw [← HR.out]
    exact heap_alloc2_old w _ _
  · show 1 ≤ (List.replicate n sec0).length ∧ (List.replicate n sec0).length ≤ 512
    rw [hlen.out]; omega
  · show 0 < 9223372036854775808
    omega
  · exact below_more (below_a1 w _) _ (Nat.le_refl _)
theorem new_bad (w : World) (n : Int) (h : n < 1 ∨ 512 < n) : Calls Tryz.prog 4 #[.int .i64 n] w fun e w' => e = .returned (.tuple #[.pointer none, .int .i64 2]) ∧ w' = w := by
  by_cases h1 : n < 1
  · have d1 : decide (n < 1) = true := by simpa using h1
    go_enter Tryz.func4, Tryz.ntmps4
    go_wp2
    go_ret2
    exact ⟨rfl, rfl⟩
  · have d1 : decide (n < 1) = false := by simpa using h1
    have d2 : decide (512 < n) = true := by simp; omega
    go_enter Tryz.func4, Tryz.ntmps4
    go_wp2
    go_ret2
    exact ⟨rfl, rfl⟩
end Go.Proofs.YtnhnjdldgaaeoaaGreatDoor
