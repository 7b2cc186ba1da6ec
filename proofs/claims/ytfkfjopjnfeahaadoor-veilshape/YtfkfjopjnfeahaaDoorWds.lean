/-
  What sum.wordsOf answers, for every block.
-/
import Derived.Test.YtfkfjopjnfeahaaDoorWrd
import Derived.Test.YtfkfjopjnfeahaaDoorRowl
import Derived.Deep.CutRange
import Derived.Deep.RegionWith
namespace Go.Proofs.YtfkfjopjnfeahaaDoor
open Go Go.RowKit
set_option maxRecDepth 100000

def zw64 : Array Value := ((List.replicate 64 0).map cw).toArray
theorem zero52 : (Tryd.prog.info? 82).map (·.zero) = some (some (.agg zw64)) := by kernel_rfl
theorem size52 : (Tryd.prog.info? 82).map (·.size) = some 64 := by kernel_rfl
theorem size43 : (Tryd.prog.info? 71).map (·.size) = some 64 := by kernel_rfl

theorem size5 : (Tryd.prog.info? 5).map (·.size) = some 1 := by kernel_rfl
theorem size38 : (Tryd.prog.info? 67).map (·.size) = some 1 := by kernel_rfl

set_option maxHeartbeats 400000 in
theorem wordsOf_any (b : List UInt8) (hb : b.length = 64) (w : World) :
    Calls Tryd.prog 48 #[.agg (b.map cb).toArray] w fun e w' => e = .returned (.agg ((sched b 48).map cw).toArray) ∧ Below w.heap.size w w' := by
  have HZ := zero52
  have HZ0 : Hid (zw64 = ((w1 b 0).map cw).toArray) := show zw64 = _ from rfl
  have HBL : (b.map cb).length = 64 := by simpa using hb
  have HB : Hid (∀ k, k < 64 → (b.map cb)[k]? = some (.int .u8 (bv (b.getD k 0)))) := fun k hk => cb_at b k (by omega)
  have hZs : Hid (zw64.size = 64) := show zw64.size = 64 from rfl
  generalize b.map cb = B at *
  generalize zw64 = Z at *
  have HI : Hid ((Tryd.prog.info? 71).map (·.size) = some B.length) := by show _ = _; rw [HBL]; exact size43
  have HC : Hid (∀ j v, B[j]? = some v → (((w.alloc (.cells B.toArray 71)).alloc (.cells Z 82)).alloc (.cells Z 82)).cell? ⟨w.heap.size, 0 + j, none⟩ = some v) := by
    intro j v hv
    rw [cell_of_row _ _ _ _ _ _ (three_low w _ _ _)]
    simpa using hv
  go_enter Tryd.func48, Tryd.ntmps48
  go_wp2_with (first | (refine wpList_alloc_row rfl 82 rfl Z HZ ?_) | (refine wpList_load_seg rfl 71 _ rfl w.heap.size 0 rfl B _ HC.out Tryd.underlying71 rfl HI.out ?_))
  go_loopw [12] (fun i w' => ∃ (k : Nat) (C : Array Value), k ≤ 64 ∧ i = .int .i64 k ∧ Hid (C = ((w1 b k).map cw).toArray) ∧ w' = ((w.alloc (.cells B.toArray 71)).alloc (.cells Z 82)).alloc (.cells C 82)) (fun i _ => 64 - (intOf i).toNat)
  case atStart => exact ⟨0, Z, by omega, rfl, HZ0, rfl⟩
  case round =>
    obtain ⟨k, C, hk, rfl, HD, hw⟩ := hrel
    subst wr
    clear HC HZ0
    have hsz := cw_size _ C HD.out 64 (w1_len b k)
    by_cases hlt : k < 64
    · have hB := HB.out k hlt
      have hC := cw_at _ C HD.out (k / 4) (by rw [w1_len]; omega)
      have HS := cw_set _ C HD.out (k / 4) ((w1 b k).getD (k / 4) 0 <<< 8 ||| BitVec.ofNat 32 (b.getD k 0).toNat)
      have HS' : Hid (C.setIfInBounds (k / 4) (.int .u32 (wv ((w1 b k).getD (k / 4) 0 <<< 8 ||| BitVec.ofNat 32 (b.getD k 0).toNat))) = ((w1 b (k + 1)).map cw).toArray) := HS
      clear HS
      generalize (w1 b k).getD (k / 4) 0 = x at *
      generalize b.getD k 0 = c at *
      have hix := fun W => run_index_cell (P := Tryd.prog) W 71 5 64 _ B.toArray k _ Tryd.underlying71 Tryd.underlying5 rfl size5 hlt (by simpa using hB)
      have hor := wv_byte x c
      have hbm : bv c % 4294967296 = bv c := by have := bv_range c; omega
      go_wp2
      go_roundw
      case rel => exact ⟨k + 1, _, by omega, by go_num, HS', rfl⟩
      case measure => simp [intOf]; omega
    · have e64 : k = 64 := by omega
      have HD' : Hid (C = ((wq b 0).map cw).toArray) := by have h := HD.out; subst e64; rw [w1_end] at h; exact h
      clear HD e64
      go_wp2
      go_loopw [6] (fun i w' => ∃ (t n : Nat) (C : Array Value), t ≤ 48 ∧ i = .int .i64 ((t + 16 : Nat) : Int) ∧ Hid (C = ((wq b t).map cw).toArray) ∧ w' = (((w.alloc (.cells B.toArray 71)).alloc (.cells Z 82)).alloc (.cells C 82)).drewN n) (fun i _ => 64 - (intOf i).toNat)
      case atStart => exact ⟨0, 0, C, by omega, rfl, HD', rfl⟩
      case round =>
        clear HD' hsz hlt C HB HBL HI
        obtain ⟨t, n, C, ht, rfl, HD, hw⟩ := hrel
        subst wr
        have hsz := cw_size _ C HD.out 64 (wq_len b t ht)
        by_cases hlt : t < 48
        · have h1 := cw_at _ C HD.out (t + 1) (by rw [wq_len b t ht]; omega)
          have h14 := cw_at _ C HD.out (t + 14) (by rw [wq_len b t ht]; omega)
          have h9 := cw_at _ C HD.out (t + 9) (by rw [wq_len b t ht]; omega)
          have h16 := cw_at _ C HD.out (t + 16) (by rw [wq_len b t ht]; omega)
          have h0 := cw_at _ C HD.out t (by rw [wq_len b t ht]; omega)
          have HS := cw_set _ C HD.out (t + 16) (sig1 ((wq b t).getD (t + 14) 0) + (wq b t).getD (t + 9) 0 + sig0 ((wq b t).getD (t + 1) 0) + (wq b t).getD t 0)
          rw [wq_step b t hlt] at HS
          unfold sig0 sig1 at HS
          have HS' : Hid _ := HS
          clear HS
          generalize (wq b t).getD (t + 1) 0 = x1 at *
          generalize (wq b t).getD (t + 14) 0 = x14 at *
          generalize (wq b t).getD (t + 9) 0 = x9 at *
          generalize (wq b t).getD t 0 = x0 at *
          go_upto_region 10 with fail
          go_quiet (fail)
          have hxor := wv_xor
          have hs3 : ∀ y, bits .xor .u32 (wv y) (wv x1 / 8) = wv (y ^^^ x1 >>> 3) := fun y => by rw [← wv_xor, ← wv_shr x1 3]; rfl
          have hs10 : ∀ y, bits .xor .u32 (wv y) (wv x14 / 1024) = wv (y ^^^ x14 >>> 10) := fun y => by rw [← wv_xor, ← wv_shr x14 10]; rfl
          go_upto_region 13 with (first | (go_at_call 49; refine (rot_any _ _ (by decide) (by decide) _).mono ?_; rintro e w1 ⟨rfl, rfl⟩))
          have hadd := wv_add'
          go_region
          go_wp2
          go_roundw
          case rel => exact ⟨t + 1, n + nq + 1, _, by omega, by go_num, HS', setCell_top _ _ _ _ _ _ _ (by simp)⟩
          case measure => simp [intOf]; omega
        · have e48 : t = 48 := by omega
          have HE : Hid (C = ((sched b 48).map cw).toArray) := by have h := HD.out; subst e48; rw [wq_end] at h; exact h
          have h3 : Hid (((((w.alloc (.cells B.toArray 71)).alloc (.cells Z 82)).alloc (.cells C 82)).drewN n).heap[w.heap.size + 1 + 1]? = some (.cells C 82)) := three_top w _ _ _
          have h2 : Hid (((((w.alloc (.cells B.toArray 71)).alloc (.cells Z 82)).alloc (.cells C 82)).drewN n).heap[w.heap.size + 1]? = some (.cells Z 82)) := three_mid w _ _ _
          have HC : Hid (∀ j v, C.toList[j]? = some v → ((((w.alloc (.cells B.toArray 71)).alloc (.cells Z 82)).alloc (.cells C 82)).drewN n).cell? ⟨w.heap.size + 1 + 1, 0 + j, none⟩ = some v) := by
            intro j v hv
            rw [cell_of_row _ _ _ _ _ _ h3.out]
            simpa using hv
          have HI : Hid ((Tryd.prog.info? 82).map (·.size) = some C.toList.length) := by show _ = _; rw [Array.length_toList, hsz]; exact size52
          have HF : Hid (0 + C.toList.length ≤ Z.size) := by show _ ≤ _; rw [Array.length_toList, hsz, hZs.out]; omega
          have H1 : Hid (∀ v ∈ C.toList, v.oneCell' = true) := by
            have h := HE.out
            show ∀ v ∈ C.toList, _
            rw [h]; simpa using one_cw (sched b 48)
          clear HD e48
          go_wp2_with (first | (refine wpList_load_seg rfl 82 _ rfl (w.heap.size + 1 + 1) 0 rfl C.toList _ HC.out Tryd.underlying82 rfl HI.out ?_) | (refine wpList_store_seg rfl 82 _ _ rfl rfl (w.heap.size + 1) 0 rfl C.toList rfl Z 82 h2.out HF.out H1.out HI.out ?_))
          have HR : Hid ((List.take 0 Z.toList ++ C.toList ++ List.drop (0 + C.toList.length) Z.toList).toArray = C) := by
            have h64 : Z.toList.length ≤ 0 + C.toList.length := by rw [Array.length_toList, Array.length_toList, hsz, hZs.out]; omega
            show _ = _
            rw [List.drop_eq_nil_of_le h64]; simp
          refine bodyPost_ret_by (results_cell_row (fn := Tryd.f48) (p := 2) (ty := 82) (by kernel_rfl) _ _ (w.heap.size + 1) 82 C (0, 0) _ rfl (by rw [HR.out]; exact setRow_heap _ _ _ _ _ _ h2.out) Tryd.underlying82 rfl (by rw [hsz]; exact size52)) rfl ?_
          refine ⟨by rw [HE.out], ?_⟩
          exact below_setRow (below_three w _ _ _ n) _ _ (by omega)
end Go.Proofs.YtfkfjopjnfeahaaDoor
