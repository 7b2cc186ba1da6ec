/-
  What a claim's bytes answers.
-/
import Derived.Test.YtnhnjdldgaaeoaaGreatDoorKpl
import Derived.Test.YtnhnjdldgaaeoaaGreatDoorDop
import Derived.Deep.RegionHeld3
import Derived.Deep.CutBlock
namespace Go.Proofs.YtnhnjdldgaaeoaaGreatDoor
open Go Go.RowKit
set_option maxRecDepth 100000

theorem zero84 : (Tryz.prog.info? 104).map (·.zero) = some (some (.agg zC.toArray)) := by kernel_rfl
def zV (k : Nat) : List Value := List.replicate k (.int .u8 0)
theorem zC_is : zC = zV 64 := by simp [zC, zV, zer, cb, bv]
theorem zV_len (k : Nat) : (zV k).length = k := by simp [zV]
theorem zV_add (a b : Nat) : zV a ++ zV b = zV (a + b) := by simp [zV]
theorem slot_cells (n len : Nat) : (slotB n len).map cb = (eightB n).map cb ++ ((eightB len).map cb ++ (zV 40 ++ (eightB n).map cb)) := by
  have e : (List.replicate 40 (0 : UInt8)).map cb = zV 40 := by simp [zV, cb, bv]
  simp only [slotB, List.map_append, e]
theorem conv77 {w : World} {g : Nat} {t : TypeId} (l : List UInt8) (hl : l.length = 64) (hr : w.heap[g]? = some (.cells (l.map cb).toArray t)) : (convert 97 9 (.slice (some ⟨g, 0, none⟩) 64 64)).run Tryz.prog w = .ok (.string ⟨l.toArray⟩) w := by
  have h := conv_seg (w := w) (g := g) (off := 0) l (fun j v hv => by rw [Nat.zero_add, cell_of_row _ _ _ _ _ _ hr, List.getElem?_toArray]; exact hv)
  rw [hl] at h
  exact h

set_option maxHeartbeats 2000000 in
theorem bytes_any (n len : Nat) (hn : n < 9223372036854775808) (hl : len < 9223372036854775808) (w : World) : Calls Tryz.prog 57 #[.agg #[.int .i64 n, .int .i64 len]] w fun e w' => e = .returned (.string ⟨(slotB n len).toArray⟩) ∧ Below w.heap.size w w' := by
  have HP := hid (fun W off A B C m k cap hm hk hB ho hr => place_any W (w.heap.size + 1) off A B C 104 m k cap hm hk hB ho hr)
  have HS := hid (slot_cells n len)
  have HC := hid (fun W hr => conv77 (w := W) (g := w.heap.size + 1) (t := 104) (slotB n len) (slotB_len n len) hr)
  have he1 : ((eightB n).map cb).length = 8 := by simp [eightB_len]
  have he2 : ((eightB len).map cb).length = 8 := by simp [eightB_len]
  generalize slotB n len = F at *
  generalize hE1 : (eightB n).map cb = E1 at *
  generalize hE2 : (eightB len).map cb = E2 at *
  generalize hw1 : w.alloc (.cells #[.int .i64 n, .int .i64 len] 86) = w1
  have hs1 : w1.heap.size = w.heap.size + 1 := by subst hw1; simp
  have HQ1 : Hid (w1.heap[w.heap.size]? = some (.cells #[.int .i64 n, .int .i64 len] 86)) := by subst hw1; exact top_row _ _
  have HB1 : Hid (Below w.heap.size w w1) := by subst hw1; exact below_a1 _ _
  generalize hw2 : w1.alloc (.cells zC.toArray 104) = w2
  have HQ2 : Hid (∀ W, Kp [w.heap.size + 1] w2 W → W.cell? ⟨w.heap.size, 0, none⟩ = some (.int .i64 n) ∧ W.cell? ⟨w.heap.size, 1, none⟩ = some (.int .i64 len)) := by
    intro W hk
    have h1 : W.heap[w.heap.size]? = some (.cells #[.int .i64 n, .int .i64 len] 86) := hk.row (by subst hw2; rw [heap_old1 _ _ _ (by omega)]; exact HQ1.out) (by simp)
    rw [cell_of_row _ _ _ _ _ _ h1, cell_of_row _ _ _ _ _ _ h1]
    exact ⟨rfl, rfl⟩
  have HR2 : Hid (w2.heap[w.heap.size + 1]? = some (.cells ([] ++ zV 8 ++ zV 56).toArray 104)) := by
    subst hw2
    show _ = _
    rw [← hs1, top_row, zC_is]
    simp [zV_add]
  have HB2 : Hid (Below w.heap.size w w2) := by subst hw2; exact below_more HB1.out _ (by omega)
  clear HB1
  have HZ := zero84
  have hez : zV 56 = zV 8 ++ zV 48 := by rw [zV_add]
  have hez2 : zV 48 = zV 40 ++ zV 8 := by rw [zV_add]
  have hz8 := zV_len 8
  have hz40 := zV_len 40
  have HQa := hid (HQ2.out _ (Kp.refl _ _))
  have HQb := hid (HQ2.out _ (Kp.refl _ _).drew)
  have HB3 : Hid (∀ W, Kp [w.heap.size + 1] w2 W → Below w.heap.size w W) := by
    intro W hk
    have h9 : w.heap.size ≤ w2.heap.size := HB2.out.size
    exact HB2.out.trans (hk.below (by simp) h9)
  go_enter Tryz.func57, Tryz.ntmps57
  go_upto_region 2 with (refine wpList_alloc_row rfl 104 rfl _ HZ ?_)
  rw [hw2]
  rw [hs1]
  clear hw1 hw2 HQ1 hs1
  go_region_held3 (fun W => W.cell? ⟨w.heap.size, 0, none⟩ = some (.int .i64 n)) (with_reducible first | exact (HQ2.out _ k3).1 | exact HQb.out.1 | exact HQa.out.1)
    (first | (go_at_call 72; refine (HP.out w2.drew 0 [] (zV 8) (zV 56) n 64 64 hn (by omega) hz8 rfl HR2.out).mono ?_; rintro e W3 ⟨rfl, hr3, kk⟩; have k3 : Kp [w.heap.size + 1] w2 W3 := (Kp.refl _ _).drew.trans kk; clear kk))
  have HR3 : Hid (W3.heap[w.heap.size + 1]? = some (.cells (E1 ++ zV 8 ++ zV 48).toArray 104)) := by show _ = _; rw [hr3, hez]; simp [hE1]
  have HK3 := hid k3
  clear hr3 HR2
  have HQa := hid (HQ2.out _ k3)
  have HQb := hid (HQ2.out _ k3.drew)
  clear k3
  go_wp2_with fail
  go_region_held3 (fun W => W.cell? ⟨w.heap.size, 1, none⟩ = some (.int .i64 len)) (with_reducible first | exact (HQ2.out _ k4).2 | exact HQb.out.2 | exact HQa.out.2)
    (first | (go_at_call 72; refine (HP.out W3.drew 8 E1 (zV 8) (zV 48) len 56 56 hl (by omega) hz8 he1.symm HR3.out).mono ?_; rintro e W4 ⟨rfl, hr4, kk⟩; have k4 : Kp [w.heap.size + 1] w2 W4 := HK3.out.drew.trans kk; clear kk))
  have HR4 : Hid (W4.heap[w.heap.size + 1]? = some (.cells ((E1 ++ E2 ++ zV 40) ++ zV 8 ++ []).toArray 104)) := by show _ = _; rw [hr4, hez2]; simp [hE2]
  have HK4 := hid k4
  clear hr4 HR3
  have HQa := hid (HQ2.out _ k4)
  have HQb := hid (HQ2.out _ k4.drew)
  clear k4
  go_wp2_with fail
  have h56 : 56 = (E1 ++ E2 ++ zV 40).length := by simp [he1, he2, hz40]
  go_region_held3 (fun W => W.cell? ⟨w.heap.size, 0, none⟩ = some (.int .i64 n)) (with_reducible first | exact (HQ2.out _ k5).1 | exact HQb.out.1 | exact HQa.out.1)
    (first | (go_at_call 72; refine (HP.out W4.drew 56 (E1 ++ E2 ++ zV 40) (zV 8) [] n 8 8 hn (by omega) hz8 h56 HR4.out).mono ?_; rintro e W5 ⟨rfl, hr5, kk⟩; have k5 : Kp [w.heap.size + 1] w2 W5 := HK4.out.drew.trans kk; clear kk))
  have hcv := HC.out W5 (by rw [hr5, HS.out]; simp [hE1])
  have HB5 := hid (HB3.out _ k5)
  clear hr5 k5
  go_wp2
  go_ret
  exact ⟨rfl, HB5.out⟩
end Go.Proofs.YtnhnjdldgaaeoaaGreatDoor
