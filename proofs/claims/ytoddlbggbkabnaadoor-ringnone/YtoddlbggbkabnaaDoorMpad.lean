/-
  What the reference's pad answers: the key's block, turned.
-/
import Derived.Test.YtoddlbggbkabnaaDoorMtag
namespace Go.Proofs.YtoddlbggbkabnaaDoor
open Go Go.RowKit
set_option maxRecDepth 100000

theorem kblk_at (k : List UInt8) (j : Nat) (h : j < (kcut k).length) : (kblk k).getD j 0 = (kcut k).getD j 0 := by
  unfold kblk
  rw [List.getD_eq_getElem?_getD, List.getElem?_append_left h, List.getD_eq_getElem?_getD]
theorem kblk_zero (k : List UInt8) (j : Nat) (h : (kcut k).length ≤ j) : (kblk k).getD j 0 = 0 := by
  unfold kblk
  rw [List.getD_eq_getElem?_getD, List.getElem?_append_right h]
  by_cases hh : j - (kcut k).length < 64 - (kcut k).length
  · rw [List.getElem?_replicate_of_lt hh]; rfl
  · rw [List.getElem?_eq_none (by rw [List.length_replicate]; omega)]; rfl
theorem take_map_step (b : List UInt8) (x : UInt8) (j : Nat) (h : j < b.length) : (b.take j).map (· ^^^ x) ++ [b.getD j 0 ^^^ x] = (b.take (j + 1)).map (· ^^^ x) := by
  rw [List.take_add_one, List.getD_eq_getElem?_getD, List.getElem?_eq_getElem h]
  simp only [Option.toList_some, List.map_append, List.map_cons, List.map_nil, Option.getD_some]
theorem bv_zero : bv 0 = 0 := rfl
theorem zero_xor8 (x : UInt8) : (0 : UInt8) ^^^ x = x := by simp

set_option maxHeartbeats 2000000 in
theorem pad_any (k : List UInt8) (hk : k.length ≤ 140737488355228) (x : UInt8) (w : World) : Calls Tryd.prog 40 #[.string ⟨k.toArray⟩, .int .u8 (bv x)] w fun e w' => e = .returned (.string ⟨(padB k x).toArray⟩) ∧ Below w.heap.size w w' := by
  have hs0 : (⟨k.toArray⟩ : ByteArray).size = k.length := rfl
  have hcl := hid (kcut_len k)
  have hbl := hid (kblk_len k)
  have HA := hid (kblk_at k)
  have HZ := hid (kblk_zero k)
  have HE : Hid (Unit → padB k x = ((kblk k).take 64).map (· ^^^ x)) := fun _ => by rw [List.take_of_length_le (by rw [hbl.out]; omega)]; rfl
  generalize padB k x = PB at *
  by_cases hlt : 64 < k.length
  · have hkc : Hid (kcut k = sha k) := if_pos hlt
    have HS := hid (fun W => rsum_any k hk W)
    have HB := hid (fun W => rbytes_any (sha k) (sha_len k) W)
    rw [hkc.out] at hcl HA HZ
    generalize ((sha k).map cb).toArray = X at *
    generalize kblk k = b at *
    generalize sha k = y at *
    clear hkc
    go_enter Tryd.func40, Tryd.ntmps40
    go_wp2_with (first | (go_at_call 39; refine (HS.out _).mono ?_))
    rintro e w1 ⟨rfl, hb1⟩
    have HB1 := hid hb1
    clear hb1 HS
    go_wp2_with (first | (go_at_call 32; refine (HB.out _).mono ?_))
    rintro e w2 ⟨rfl, hb2⟩
    have HB2 : Hid (Below w.heap.size w w2) := HB1.out.trans (hb2.mono HB1.out.size)
    clear hb2 HB HB1 hs0
    have hsy : (⟨y.toArray⟩ : ByteArray).size = y.length := rfl
    have hy64 := hcl.out
    have HE0 : Hid (brow w2 w2.heap.size (.slice none 0 0) ((b.take 0).map (· ^^^ x))) := Or.inl ⟨rfl, rfl⟩
    go_wp2
    go_loopw [5, 6] (fun v i w' => ∃ j : Nat, j ≤ 64 ∧ i = .int .i64 j ∧ Hid (brow w' w2.heap.size v ((b.take j).map (· ^^^ x))) ∧ Hid (Below w2.heap.size w2 w')) (fun _ i _ => 64 - (intOf i).toNat)
    case atStart => exact ⟨0, by omega, rfl, HE0, Below.refl _ _⟩
    case round =>
      clear HE0
      obtain ⟨j, hj, rfl, HR, HBr⟩ := hrel
      have hsz : w2.heap.size ≤ wr.heap.size := HBr.out.size
      by_cases hlt2 : j < 64
      · have HST := hid (take_map_step b x j (by rw [hbl.out]; exact hlt2))
        have HL : Hid (((b.take j).map (· ^^^ x)).length = j) := by show _ = _; rw [List.length_map, List.length_take, hbl.out]; omega
        generalize (b.take j).map (· ^^^ x) = L at *
        by_cases hin : j < y.length
        · have hby := hid (HA.out j hin)
          have hq : ((⟨y.toArray⟩ : ByteArray)[j]'(by show j < y.length; exact hin)).toNat = (y.getD j 0).toNat := by
            rw [List.getD_eq_getElem?_getD, List.getElem?_eq_getElem hin]; rfl
          have hx : bits .xor .u8 ((y.getD j 0).toNat : Int) (bv x) = bv (y.getD j 0 ^^^ x) := bv_xor (y.getD j 0) x
          rw [hby.out] at HST
          generalize y.getD j 0 ^^^ x = z at *
          generalize y.getD j 0 = c at *
          go_wp2_with (first | (at_builtin; refine wpList_app rfl _ _ rfl w2.heap.size w2.heap.size _ _ L [z] rfl rfl (brow_below HR.out (below_a1 _ _) (Nat.le_refl _)) (brow_lit _ _ z _ rfl hsz) (Or.inr (by simp)) ?c1 ?c2 ?_))
          case c1 => rw [HL.out]; simp; omega
          case c2 => simp; omega
          intro v3 w3 hr3 hg3
          have HB3 : Hid (Below w2.heap.size w2 w3) := (HBr.out.alloc hsz _).grown hg3 (by simp; omega) (brow_own HR.out)
          rw [HST.out] at hr3
          have HR3 := hid hr3
          clear hr3 hg3 HR HBr HST
          go_wp2
          go_roundw
          case rel => exact ⟨j + 1, by omega, by go_num, HR3, HB3⟩
          case measure => simp [intOf]; omega
        · have hby := hid (HZ.out j (by omega))
          have hx : bits .xor .u8 0 (bv x) = bv x := by have h := bv_xor 0 x; rw [zero_xor8] at h; exact h
          rw [hby.out, zero_xor8] at HST
          go_wp2_with (first | (at_builtin; refine wpList_app rfl _ _ rfl w2.heap.size w2.heap.size _ _ L [x] rfl rfl (brow_below HR.out (below_a1 _ _) (Nat.le_refl _)) (brow_lit _ _ x _ rfl hsz) (Or.inr (by simp)) ?c1 ?c2 ?_))
          case c1 => rw [HL.out]; simp; omega
          case c2 => simp; omega
          intro v3 w3 hr3 hg3
          have HB3 : Hid (Below w2.heap.size w2 w3) := (HBr.out.alloc hsz _).grown hg3 (by simp; omega) (brow_own HR.out)
          rw [HST.out] at hr3
          have HR3 := hid hr3
          clear hr3 hg3 HR HBr HST
          go_wp2
          go_roundw
          case rel => exact ⟨j + 1, by omega, by go_num, HR3, HB3⟩
          case measure => simp [intOf]; omega
      · obtain rfl : j = 64 := by omega
        have HV : (convert 77 9 u5).run Tryd.prog wr = .ok (.string ⟨PB.toArray⟩) wr := by
          have h := conv_brow HR.out
          rw [← HE.out ()] at h
          exact h
        have HBe : Hid (Below w.heap.size w wr) := HB2.out.trans (HBr.out.mono HB2.out.size)
        clear HR HBr
        go_wp2
        go_ret
        exact ⟨rfl, HBe.out⟩
  · have hkc : Hid (kcut k = k) := if_neg hlt
    rw [hkc.out] at hcl HA HZ
    generalize kblk k = b at *
    have HB2 : Hid (Below w.heap.size w w) := Below.refl _ _
    have hk64 : k.length ≤ 64 := hcl.out
    clear hkc hlt
    go_enter Tryd.func40, Tryd.ntmps40
    go_upto_region 3 with fail
    have hy64 := hcl.out
    have HE0 : Hid (brow w w.heap.size (.slice none 0 0) ((b.take 0).map (· ^^^ x))) := Or.inl ⟨rfl, rfl⟩
    go_wp2
    go_loopw [5, 6] (fun v i w' => ∃ j : Nat, j ≤ 64 ∧ i = .int .i64 j ∧ Hid (brow w' w.heap.size v ((b.take j).map (· ^^^ x))) ∧ Hid (Below w.heap.size w w')) (fun _ i _ => 64 - (intOf i).toNat)
    case atStart => exact ⟨0, by omega, rfl, HE0, Below.refl _ _⟩
    case round =>
      clear HE0
      obtain ⟨j, hj, rfl, HR, HBr⟩ := hrel
      have hsz : w.heap.size ≤ wr.heap.size := HBr.out.size
      by_cases hlt2 : j < 64
      · have HST := hid (take_map_step b x j (by rw [hbl.out]; exact hlt2))
        have HL : Hid (((b.take j).map (· ^^^ x)).length = j) := by show _ = _; rw [List.length_map, List.length_take, hbl.out]; omega
        generalize (b.take j).map (· ^^^ x) = L at *
        by_cases hin : j < k.length
        · have hby := hid (HA.out j hin)
          have hq : ((⟨k.toArray⟩ : ByteArray)[j]'(by show j < k.length; exact hin)).toNat = (k.getD j 0).toNat := by
            rw [List.getD_eq_getElem?_getD, List.getElem?_eq_getElem hin]; rfl
          have hx : bits .xor .u8 ((k.getD j 0).toNat : Int) (bv x) = bv (k.getD j 0 ^^^ x) := bv_xor (k.getD j 0) x
          rw [hby.out] at HST
          generalize k.getD j 0 ^^^ x = z at *
          generalize k.getD j 0 = c at *
          go_wp2_with (first | (at_builtin; refine wpList_app rfl _ _ rfl w.heap.size w.heap.size _ _ L [z] rfl rfl (brow_below HR.out (below_a1 _ _) (Nat.le_refl _)) (brow_lit _ _ z _ rfl hsz) (Or.inr (by simp)) ?c1 ?c2 ?_))
          case c1 => rw [HL.out]; simp; omega
          case c2 => simp; omega
          intro v3 w3 hr3 hg3
          have HB3 : Hid (Below w.heap.size w w3) := (HBr.out.alloc hsz _).grown hg3 (by simp; omega) (brow_own HR.out)
          rw [HST.out] at hr3
          have HR3 := hid hr3
          clear hr3 hg3 HR HBr HST
          go_wp2
          go_roundw
          case rel => exact ⟨j + 1, by omega, by go_num, HR3, HB3⟩
          case measure => simp [intOf]; omega
        · have hby := hid (HZ.out j (by omega))
          have hx : bits .xor .u8 0 (bv x) = bv x := by have h := bv_xor 0 x; rw [zero_xor8] at h; exact h
          rw [hby.out, zero_xor8] at HST
          go_wp2_with (first | (at_builtin; refine wpList_app rfl _ _ rfl w.heap.size w.heap.size _ _ L [x] rfl rfl (brow_below HR.out (below_a1 _ _) (Nat.le_refl _)) (brow_lit _ _ x _ rfl hsz) (Or.inr (by simp)) ?c1 ?c2 ?_))
          case c1 => rw [HL.out]; simp; omega
          case c2 => simp; omega
          intro v3 w3 hr3 hg3
          have HB3 : Hid (Below w.heap.size w w3) := (HBr.out.alloc hsz _).grown hg3 (by simp; omega) (brow_own HR.out)
          rw [HST.out] at hr3
          have HR3 := hid hr3
          clear hr3 hg3 HR HBr HST
          go_wp2
          go_roundw
          case rel => exact ⟨j + 1, by omega, by go_num, HR3, HB3⟩
          case measure => simp [intOf]; omega
      · obtain rfl : j = 64 := by omega
        have HV : (convert 77 9 u5).run Tryd.prog wr = .ok (.string ⟨PB.toArray⟩) wr := by
          have h := conv_brow HR.out
          rw [← HE.out ()] at h
          exact h
        have HBe : Hid (Below w.heap.size w wr) := HB2.out.trans (HBr.out.mono HB2.out.size)
        clear HR HBr
        go_wp2
        go_ret
        exact ⟨rfl, HBe.out⟩

end Go.Proofs.YtoddlbggbkabnaaDoor
