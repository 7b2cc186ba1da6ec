/-
  R01.Ints: are two lists of numbers the same?
-/
import Derived.Test.YtkjgiidmajjonaaPrn
namespace Go.Proofs.Ytkjgiidmajjonaa.Kn
open Go Go.RowKit
set_option maxRecDepth 100000

set_option maxHeartbeats 2000000 in
theorem rints_any {w : World} {u v : Value} {xs ys : List Int} (hu : IntsAt w u xs) (hv : IntsAt w v ys) (hx : xs.length ≤ 9223372036854775807) :
    Calls Try.prog 21 #[u, v] w fun e w' => e = .returned (.bool (xs == ys)) ∧ Below w.heap.size w w' := by
  obtain ⟨a, c1, rfl, ha⟩ := hu
  obtain ⟨b, c2, rfl, hb⟩ := hv
  have HB0 := hid (Below.refl w.heap.size w)
  by_cases hl : xs.length = ys.length
  · have HE := hid (list_eq_of (0 : Int) xs ys hl)
    have HN := hid (fun j => list_ne_at (0 : Int) xs ys j)
    have HA := hid ha
    have HBb := hid hb
    have dl : ((xs.length : Int) != (ys.length : Int)) = false := by simp; omega
    have dl' : (xs.length != ys.length) = false := by simp; omega
    have HL := hid hl
    clear ha hb hl
    go_enter Try.func21, Try.ntmps21
    go_wp2
    go_loopw [5] (fun i w' => ∃ j : Nat, j ≤ xs.length ∧ i = .int .i64 j ∧ Hid (∀ k, k < j → xs.getD k 0 = ys.getD k 0) ∧ Hid (Below w.heap.size w w')) (fun i _ => xs.length - (intOf i).toNat)
    case atStart => exact ⟨0, by omega, rfl, fun k hk => absurd hk (Nat.not_lt_zero k), HB0.out⟩
    case round =>
      obtain ⟨j, hj, rfl, HQ, HB⟩ := hrel
      by_cases hlt : j < xs.length
      · have d1 : decide ((j : Int) < (xs.length : Int)) = true := decide_eq_true (by omega)
        have d1' : decide (j < xs.length) = true := decide_eq_true hlt
        have hly : j < ys.length := by have := HL.out; omega
        obtain ⟨ba, oa, rfl, hca⟩ := HA.out (fun e => by rw [e] at hlt; exact absurd hlt (Nat.not_lt_zero j))
        obtain ⟨bb, ob, rfl, hcb⟩ := HBb.out (fun e => by rw [e] at hly; exact absurd hly (Nat.not_lt_zero j))
        have ca : wr.cell? ⟨ba, oa + j, none⟩ = some (.int .i64 (xs.getD j 0)) := (HB.out.cell (p := ⟨ba, oa + j, none⟩) (World.block_lt_of_cell? w _ (hca j hlt))).trans (hca j hlt)
        have cb' : wr.cell? ⟨bb, ob + j, none⟩ = some (.int .i64 (ys.getD j 0)) := (HB.out.cell (p := ⟨bb, ob + j, none⟩) (World.block_lt_of_cell? w _ (hcb j hly))).trans (hcb j hly)
        by_cases he : xs.getD j 0 = ys.getD j 0
        · have HQ' : Hid (∀ k, k < j + 1 → xs.getD k 0 = ys.getD k 0) := fun k hk => by
            by_cases e : k = j
            · rw [e]; exact he
            · exact HQ.out k (by omega)
          rw [← he] at cb'
          generalize xs.getD j 0 = x at *
          clear he hca hcb HQ HE HN HA HBb
          have HBd := hid HB.out.drew
          go_wp2
          go_region
          all_goals (go_wp2; exact ⟨⟨j + 1, by omega, by go_num, HQ'.out, HBd.out⟩, by simp [intOf]; omega⟩)
        · have HP := hid (HN.out j he)
          generalize xs.getD j 0 = x at *
          generalize ys.getD j 0 = y at *
          have dx : (x != y) = true := by simpa using he
          clear he hca hcb HQ HE HN HA HBb
          have HBd := hid HB.out.drew
          go_wp2
          go_region
          all_goals (go_wp2; go_ret; exact ⟨by rw [HP.out]; rfl, HBd.out⟩)
      · obtain rfl : j = xs.length := by omega
        have HP : Hid ((xs == ys) = true) := by show _ = _; rw [HE.out HQ.out]; simp
        clear HE HQ HN HA HBb
        go_wp2
        go_ret
        exact ⟨by rw [HP.out]; rfl, HB.out⟩
  · rw [list_ne_len xs ys hl]
    have dl : ((xs.length : Int) != (ys.length : Int)) = true := by simp; omega
    have dl' : (xs.length != ys.length) = true := by simp; omega
    clear ha hb hl
    go_enter Try.func21, Try.ntmps21
    go_wp2
    go_ret
    exact ⟨rfl, HB0.out⟩
end Go.Proofs.Ytkjgiidmajjonaa.Kn
