/-
  What veil.blocksFor, the function that veil.blocksOf makes, and veil.blocksOf answer.
-/
import Derived.Test.YtfkfjopjnfeahaaDoorVpl
import Derived.Deep.RegionHeld3
namespace Go.Proofs.YtfkfjopjnfeahaaDoor
open Go Go.RowKit
set_option maxRecDepth 100000

theorem below_allocV {w w' : World} (h : Below w.heap.size w w') (o : Obj) : Below w.heap.size w (w'.alloc o) := h.alloc h.size o

theorem blocksFor_any (n : Nat) (h : n ≤ 16384) (w : World) : Calls Tryd.prog 16 #[.int .i64 (n : Int)] w fun e w' => e = .returned (.int .i64 (((n + 31) / 32 : Nat) : Int)) ∧ w' = w := by
  have hq : ((n : Int) + 31).tdiv 32 = (((n + 31) / 32 : Nat) : Int) := by
    rw [Int.tdiv_eq_ediv_of_nonneg (by omega)]; omega
  go_enter Tryd.func16, Tryd.ntmps16
  go_wp2
  go_ret
  refine ⟨?_, rfl⟩
  congr 2
  first | exact hq | (rw [← hq]; congr 1; omega) | (simp; omega)

set_option maxHeartbeats 1000000 in
theorem block_any (k : List UInt8) (hk : k.length ≤ 140737488355100) (n : Int) (h0 : -9223372036854775808 ≤ n) (h1 : n ≤ 9223372036854775807) (i : Nat) (hi : i ≤ 100000) (p q : Nat) (w : World) (hK : Ktab w) (hT : Lay.Tabs w)
    (hp : w.heap[p]? = some (.cells #[.string ⟨k.toArray⟩] 9)) (hq : w.heap[q]? = some (.cells #[.string ⟨(numB n).toArray⟩] 9)) :
    Calls Tryd.prog 22 #[.int .i64 (i : Int), .pointer (some ⟨p, 0, none⟩), .pointer (some ⟨q, 0, none⟩)] w fun e w' => e = .returned (.string ⟨(blkB k n i).toArray⟩) ∧ Below w.heap.size w w' := by
  have HN : Hid (∀ W, Lay.Tabs W → Calls Tryd.prog 21 #[.int .i64 (i : Int)] W fun e w' => e = .returned (.string ⟨(numB (i : Int)).toArray⟩) ∧ Below W.heap.size W w') := fun W h => Lay.number_any (i : Int) (by omega) (by omega) W h
  have hl1 := numB_len n h0 h1
  have hl2 := numB_len (i : Int) (by omega) (by omega)
  have HTG : Hid (∀ W, Ktab W → Calls Tryd.prog 24 #[.string ⟨k.toArray⟩, .slice (some ⟨W.heap.size, 0, none⟩) 2 2] (W.alloc (.cells #[.string ⟨(numB n).toArray⟩, .string ⟨(numB (i : Int)).toArray⟩] 9)) fun e w' => e = .returned (.agg ((blkB k n i).map cb).toArray) ∧ Below W.heap.size W w') :=
    fun W kk => tag_two k (numB n) (numB (i : Int)) hk (by omega) (by omega) W kk
  have HBY := hid (fun W => bytes_any (blkB k n i) (blkB_len k n i) W)
  have HH : Hid (∀ W, Below w.heap.size w W → W.cell? ⟨p, 0, none⟩ = some (.string ⟨k.toArray⟩) ∧ W.cell? ⟨q, 0, none⟩ = some (.string ⟨(numB n).toArray⟩)) := by
    intro W hb
    exact ⟨by rw [cell_of_row _ _ _ _ _ _ (row_kept hp hb)]; rfl, by rw [cell_of_row _ _ _ _ _ _ (row_kept hq hb)]; rfl⟩
  have HK1 := hid hK
  have HT1 := hid hT
  generalize ((blkB k n i).map cb).toArray = X at *
  generalize blkB k n i = Z at *
  generalize numB n = A at *
  generalize numB (i : Int) = B at *
  clear hl1 hl2 hp hq hK hT hk
  go_enter Tryd.func22, Tryd.ntmps22
  go_upto_region 1 with fail
  go_region_held3 (fun W => W.cell? ⟨p, 0, none⟩ = some (.string ⟨k.toArray⟩) ∧ W.cell? ⟨q, 0, none⟩ = some (.string ⟨A.toArray⟩))
    (with_reducible first | exact HH.out _ HBc | exact HH.out _ HBb | exact HH.out _ (below_allocV HBa _) | exact HH.out _ HBa | exact HH.out _ (Below.refl _ _).drew | exact HH.out _ (Below.refl _ _))
    (first | (go_at_call 21; refine (HN.out _ (HT1.out.stays (Below.refl _ _).drew)).mono ?_; rintro e W1 ⟨rfl, hb⟩; have HBa : Below w.heap.size w W1 := (Below.refl _ _).drew.trans hb; clear hb) | (go_at_call 24; refine (HTG.out W1 (HK1.out.stays HBa HK1.out.pos)).mono ?_; rintro e W2 ⟨rfl, hb⟩; have HBb : Below w.heap.size w W2 := HBa.trans (hb.mono HBa.size); clear hb) | (go_at_call 23; refine (HBY.out W2).mono ?_; rintro e W3 ⟨rfl, hb⟩; have HBc : Below w.heap.size w W3 := HBb.trans (hb.mono HBb.size); clear hb))
  go_wp2
  go_ret
  exact ⟨rfl, HBc⟩

set_option maxHeartbeats 1000000 in
theorem blocksOf_any (k : List UInt8) (n : Int) (h0 : -9223372036854775808 ≤ n) (h1 : n ≤ 9223372036854775807) (w : World) (hT : Lay.Tabs w) :
    Calls Tryd.prog 15 #[.string ⟨k.toArray⟩, .int .i64 n] w fun e w' => ∃ p q, e = .returned (.func (.func 22) #[] #[.pointer (some ⟨p, 0, none⟩), .pointer (some ⟨q, 0, none⟩)]) ∧ w'.heap[p]? = some (.cells #[.string ⟨k.toArray⟩] 9) ∧ w'.heap[q]? = some (.cells #[.string ⟨(numB n).toArray⟩] 9) ∧ Below w.heap.size w w' := by
  have HN : Hid (∀ W, Lay.Tabs W → Calls Tryd.prog 21 #[.int .i64 n] W fun e w' => e = .returned (.string ⟨(numB n).toArray⟩) ∧ Below W.heap.size W w') := fun W h => Lay.number_any n h0 h1 W h
  generalize numB n = A at *
  have HT1 : Hid (Lay.Tabs (w.alloc (.cells #[.string ⟨k.toArray⟩] 9))) := hT.stays (below_a1 w _)
  have hr0 := hid (top_row w (.cells #[.string ⟨k.toArray⟩] 9))
  have hb0 := hid (below_a1 w (.cells #[.string ⟨k.toArray⟩] 9))
  go_enter Tryd.func15, Tryd.ntmps15
  go_wp2_with (first | (go_at_call 21; refine (HN.out _ HT1.out).mono ?_))
  rintro e w1 ⟨rfl, hb1⟩
  have HB1 : Hid (Below w.heap.size w w1) := hb0.out.trans (hb1.mono hb0.out.size)
  have hr1 := hid (row_kept hr0.out hb1)
  clear hb1 hb0 hr0
  go_wp2
  go_ret
  exact ⟨_, _, rfl, row_kept hr1.out (below_a1 w1 _), top_row w1 _, below_more HB1.out _ (Nat.le_refl _)⟩

end Go.Proofs.YtfkfjopjnfeahaaDoor
