/-
  What the law MacLong answers at every input.
-/
import Derived.Test.YthpannpadmeknaaDoorWlongl
namespace Go.Proofs.YthpannpadmeknaaDoor
open Go Go.RowKit
set_option maxRecDepth 100000

set_option maxHeartbeats 4000000 in
theorem macLong_short (k t : List UInt8) (n : Nat) (hn : n < 256) (hlt : (k.take 1500).length ≤ 64) (w : World) (hK : Ktab w) (hT : Lay.Tabs w) :
    Calls Tryd.prog 5 #[.string ⟨k.toArray⟩, .string ⟨t.toArray⟩, .int .u8 n] w fun e w' => e = .returned (.bool true) ∧ Below w.heap.size w w' := by
  have HFk := hid (few_any k)
  have HFt := hid (few_any t)
  have htl := few_len t
  generalize k.take 1500 = x at *
  generalize t.take 1500 = y at *
  have HKb : Hid (∀ V, Below w.heap.size w V → Ktab V) := fun V h => hK.stays h hK.pos
  have HTb : Hid (∀ V, Below w.heap.size w V → Lay.Tabs V) := fun V h => hT.stays h
  have HA := hid (fun W a b => awake_any W a b)
  have HT1 := hid (fun W a => tag_one x y (by omega) (by omega) W a)
  have HT2 : Hid (∀ j, x.length + j ≤ 64 → ∀ W, Ktab W → Calls Tryd.prog 10 #[.string ⟨(x ++ List.replicate j 0).toArray⟩, .slice (some ⟨W.heap.size, 0, none⟩) 1 1] (W.alloc (.cells #[.string ⟨y.toArray⟩] 9)) fun e w' => e = .returned (.agg ((hmac x y).map cb).toArray) ∧ Below W.heap.size W w') := by
    intro j hj W a
    have h := tag_one (x ++ List.replicate j 0) y (by rw [List.length_append, List.length_replicate]; omega) (by omega) W a
    rw [hmac_blk x _ y (kblk_zeros x j hj)] at h
    exact h
  have HE := same25 (hmac x y) (hmac_len _ _)
  have hsx : (⟨x.toArray⟩ : ByteArray).size = x.length := rfl
  obtain ⟨m, hm⟩ : ∃ m, m = n % 65 := ⟨_, rfl⟩
  have hm65 : m < 65 := by omega
  have hmi : ((n : Int) % 65) = (m : Int) := by omega
  generalize ((hmac x y).map cb).toArray = X at *
  obtain ⟨g0, cap0, W1, hcv, hr1, hb1⟩ := conv_bytes w w.heap.size x (Nat.le_refl _) (by omega)
  have HR1 : Hid (brow W1 w.heap.size (.slice (some ⟨g0, 0, none⟩) x.length cap0) (x ++ List.replicate 0 0)) := by show brow _ _ _ _; simpa using hr1
  have HB1 := hid hb1
  clear hr1 hb1 hK hT htl hm
  go_enter Tryd.func5, Tryd.ntmps5
  go_wp2_with (first | (go_at_call 8; first | (refine (HFk.out _).mono ?_; rintro e W ⟨rfl, rfl⟩) | (refine (HFt.out _).mono ?_; rintro e W ⟨rfl, rfl⟩)))
  go_loopw [7] (fun v w' => ∃ (g cap j : Nat), v = .slice (some ⟨g, 0, none⟩) (x.length + j) cap ∧ x.length + j ≤ 64 ∧ Hid (brow w' W.heap.size (.slice (some ⟨g, 0, none⟩) (x.length + j) cap) (x ++ List.replicate j 0)) ∧ Hid (Below W.heap.size W w')) (fun v _ => 100 - sliceLen v)
  case atStart => exact ⟨g0, cap0, 0, rfl, by omega, HR1, HB1⟩
  case round =>
    clear HR1 HB1 hcv
    obtain ⟨g, cap, j, rfl, hj, HR, HB⟩ := hrel
    have hsz : W.heap.size ≤ wr.heap.size := HB.out.size
    by_cases hlt2 : x.length + j < m
    · have HS : Hid ((x ++ List.replicate j 0) ++ [0] = x ++ List.replicate (j + 1) 0) := by
        show _ = _
        rw [List.append_assoc, ← List.replicate_succ']
      have HLL : Hid ((x ++ List.replicate j 0).length = x.length + j) := by show _ = _; simp
      generalize hLd : x ++ List.replicate j 0 = L at *
      clear hLd
      go_wp2_with (first | (at_builtin; refine wpList_app rfl _ _ rfl W.heap.size W.heap.size _ _ L [0] rfl rfl (brow_below HR.out (below_a1 _ _) (Nat.le_refl _)) (brow_lit _ _ 0 _ rfl hsz) (Or.inr (by simp)) ?c1 ?c2 ?_))
      case c1 => rw [HLL.out]; simp; omega
      case c2 => simp; omega
      intro v3 w3 hr3 hg3
      have HB3 : Hid (Below W.heap.size W w3) := (HB.out.alloc hsz _).grown hg3 (by simp; omega) (brow_own HR.out)
      rw [HS.out] at hr3
      obtain ⟨g3, cap3, hv3, -, -⟩ := brow_form hr3 (by simp)
      have hle : (x ++ List.replicate (j + 1) 0).length = x.length + (j + 1) := by simp
      rw [hle] at hv3
      subst v3
      have HR3 := hid hr3
      clear hr3 hg3 hle HR HB
      go_wp2
      go_roundw
      case rel => exact ⟨g3, cap3, j + 1, rfl, by omega, HR3, HB3⟩
      case measure => simp [sliceLen]; omega
    · have HT3 := hid (HT2.out j hj)
      generalize hLd : x ++ List.replicate j 0 = L at *
      clear hLd HT2
      go_wp2_with (first | (go_at_call 9; refine (HA.out _ (HKb.out _ HB.out) (HTb.out _ HB.out)).mono ?_))
      rintro e w1 ⟨rfl, hb1⟩
      have HB1 := hid (HB.out.trans (hb1.mono HB.out.size))
      have HV : (convert 34 9 (.slice (some ⟨g, 0, none⟩) (x.length + j) cap)).run Tryd.prog w1 = .ok (.string ⟨L.toArray⟩) w1 := conv_brow (brow_below HR.out hb1 (Nat.le_refl _))
      clear hb1 HA HR
      go_wp2_with (first | (go_at_call 10; refine (HT3.out w1 (HKb.out _ HB1.out)).mono ?_))
      rintro e w2 ⟨rfl, hb2⟩
      have HB2 := hid (HB1.out.trans (hb2.mono HB1.out.size))
      clear hb2 HB1 HV
      go_wp2_with (first | (go_at_call 10; refine (HT1.out w2 (HKb.out _ HB2.out)).mono ?_))
      rintro e w3 ⟨rfl, hb3⟩
      have HB3 := hid (HB2.out.trans (hb3.mono HB2.out.size))
      clear hb3 HB2
      go_wp2
      go_ret
      exact ⟨rfl, HB3.out⟩

theorem macLong_any (k t : List UInt8) (n : Nat) (hn : n < 256) (w : World) (hK : Ktab w) (hT : Lay.Tabs w) :
    Calls Tryd.prog 5 #[.string ⟨k.toArray⟩, .string ⟨t.toArray⟩, .int .u8 n] w fun e w' => e = .returned (.bool true) ∧ Below w.heap.size w w' := by
  by_cases h : 64 < (k.take 1500).length
  · exact macLong_long k t n h w hK hT
  · exact macLong_short k t n hn (by omega) w hK hT

end Go.Proofs.YthpannpadmeknaaDoor
