/-
  What the law MacLong answers where the key is longer than a block.
-/
import Derived.Test.YthpannpadmeknaaDoorMawk
namespace Go.Proofs.YthpannpadmeknaaDoor
open Go Go.RowKit
set_option maxRecDepth 100000

theorem kcut_short (k : List UInt8) (h : k.length ≤ 64) : kcut k = k := if_neg (by omega)
theorem kcut_long (k : List UInt8) (h : 64 < k.length) : kcut k = sha k := if_pos h
theorem kblk_sha (k : List UInt8) (h : 64 < k.length) : kblk (sha k) = kblk k := by
  unfold kblk
  rw [kcut_long k h, kcut_short (sha k) (by rw [sha_len]; omega)]
theorem kblk_zeros (k : List UInt8) (j : Nat) (h : k.length + j ≤ 64) : kblk (k ++ List.replicate j 0) = kblk k := by
  unfold kblk
  rw [kcut_short k (by omega), kcut_short (k ++ List.replicate j 0) (by rw [List.length_append, List.length_replicate]; exact h), List.length_append, List.length_replicate, List.append_assoc, List.replicate_append_replicate]
  congr 2
  omega
theorem hmac_blk (k k' t : List UInt8) (h : kblk k' = kblk k) : hmac k' t = hmac k t := by unfold hmac padB; rw [h]

set_option maxHeartbeats 2000000 in
theorem macLong_long (k t : List UInt8) (n : Nat) (hlt : 64 < (k.take 1500).length) (w : World) (hK : Ktab w) (hT : Lay.Tabs w) :
    Calls Tryd.prog 5 #[.string ⟨k.toArray⟩, .string ⟨t.toArray⟩, .int .u8 n] w fun e w' => e = .returned (.bool true) ∧ Below w.heap.size w w' := by
  have HFk := hid (few_any k)
  have HFt := hid (few_any t)
  have hkl := few_len k
  have htl := few_len t
  generalize k.take 1500 = x at *
  generalize t.take 1500 = y at *
  have HKb : Hid (∀ V, Below w.heap.size w V → Ktab V) := fun V h => hK.stays h hK.pos
  have HTb : Hid (∀ V, Below w.heap.size w V → Lay.Tabs V) := fun V h => hT.stays h
  have HA := hid (fun W a b => awake_any W a b)
  have HT1 := hid (fun W a => tag_one x y (by omega) (by omega) W a)
  have HS := hid (fun W => rsum_any x (by omega) W)
  have HBY := hid (fun W => rbytes_any (sha x) (sha_len x) W)
  have HT2 := hid (fun W a => tag_one (sha x) y (by rw [sha_len]; omega) (by omega) W a)
  rw [hmac_blk x (sha x) y (kblk_sha x hlt)] at HT2
  have HE := same25 (hmac x y) (hmac_len _ _)
  have HB0 : Hid (Below w.heap.size w w) := Below.refl _ _
  have hsx : (⟨x.toArray⟩ : ByteArray).size = x.length := rfl
  generalize ((hmac x y).map cb).toArray = X at *
  generalize ((sha x).map cb).toArray = X2 at *
  generalize sha x = M at *
  clear hK hT hkl htl
  go_enter Tryd.func5, Tryd.ntmps5
  go_wp2_with (first | (go_at_call 8; first | (refine (HFk.out _).mono ?_; rintro e W ⟨rfl, rfl⟩) | (refine (HFt.out _).mono ?_; rintro e W ⟨rfl, rfl⟩)) | (go_at_call 9; refine (HA.out _ (HKb.out _ HB0.out) (HTb.out _ HB0.out)).mono ?_))
  rintro e w1 ⟨rfl, hb1⟩
  have HB1 : Hid (Below _ _ w1) := hb1
  clear hb1 HA
  go_wp2_with (first | (go_at_call 10; refine (HT1.out w1 (HKb.out _ HB1.out)).mono ?_))
  rintro e w2 ⟨rfl, hb2⟩
  have HB2 := hid (HB1.out.trans (hb2.mono HB1.out.size))
  clear hb2 HB1
  go_wp2_with (first | (go_at_call 15; refine (HS.out w2).mono ?_))
  rintro e w3 ⟨rfl, hb3⟩
  have HB3 := hid (HB2.out.trans (hb3.mono HB2.out.size))
  clear hb3 HB2
  go_wp2_with (first | (go_at_call 14; refine (HBY.out w3).mono ?_))
  rintro e w4 ⟨rfl, hb4⟩
  have HB4 := hid (HB3.out.trans (hb4.mono HB3.out.size))
  clear hb4 HB3
  go_wp2_with (first | (go_at_call 10; refine (HT2.out w4 (HKb.out _ HB4.out)).mono ?_))
  rintro e w5 ⟨rfl, hb5⟩
  have HB5 := hid (HB4.out.trans (hb5.mono HB4.out.size))
  clear hb5 HB4
  go_wp2
  go_ret
  exact ⟨rfl, HB5.out⟩

end Go.Proofs.YthpannpadmeknaaDoor
