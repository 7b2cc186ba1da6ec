/-
  What the reference's Byte answers at place 0.
-/
import Derived.Test.YtfkfjopjnfeahaaDoorXrow
namespace Go.Proofs.YtfkfjopjnfeahaaDoor
open Go Go.RowKit
set_option maxRecDepth 100000

set_option maxHeartbeats 1000000 in
theorem xbyte_first (k : List UInt8) (hk : k.length ≤ 140737488355228) (n : Int) (h0 : -9223372036854775808 ≤ n) (h1 : n ≤ 9223372036854775807) (w : World) :
    Calls Tryd.prog 14 #[.string ⟨k.toArray⟩, .int .i64 n, .int .i64 0] w fun e w' => e = .returned (.int .u8 (bv ((blkB k n 0).getD 0 0))) ∧ Below w.heap.size w w' := by
  have HN : Hid (∀ W, Calls Tryd.prog 20 #[.int .i64 n] W fun e w' => e = .returned (.string ⟨(numB n).toArray⟩) ∧ Below W.heap.size W w') := fun W => Lay.refNumber_any n h0 h1 W
  have HN2 : Hid (∀ W, Calls Tryd.prog 20 #[.int .i64 0] W fun e w' => e = .returned (.string ⟨(numB 0).toArray⟩) ∧ Below W.heap.size W w') := fun W => Lay.refNumber_any 0 (by omega) (by omega) W
  have HTG : Hid (∀ W, Calls Tryd.prog 19 #[.string ⟨k.toArray⟩, .string ⟨(numB n ++ numB 0).toArray⟩] W fun e w' => e = .returned (.agg ((blkB k n 0).map cb).toArray) ∧ Below W.heap.size W w') := fun W => rtag_blk k hk n h0 h1 0 (by omega) W
  have hl1 := numB_len n h0 h1
  have hl2 := numB_len 0 (by omega) (by omega)
  have hbl := blkB_len k n 0
  generalize blkB k n 0 = y at *
  generalize numB n = A at *
  generalize numB 0 = B at *
  have hsA : (⟨A.toArray⟩ : ByteArray).size = A.length := rfl
  have hsB : (⟨B.toArray⟩ : ByteArray).size = B.length := rfl
  have hbA : (A.length : Int) ≤ 22 := by omega
  have hbB : (B.length : Int) ≤ 22 := by omega
  have happ : (⟨A.toArray⟩ : ByteArray) ++ (⟨B.toArray⟩ : ByteArray) = ⟨(A ++ B).toArray⟩ := ByteArray.mk_append_mk A B
  have HZ := zero25
  have hZs : Hid (zb32.size = 32) := show zb32.size = 32 from rfl
  have H1 := hid (one_cb y)
  have hSl : Hid ((y.map cb).length = 32) := by show List.length _ = _; rw [List.length_map]; exact hbl
  have HI : Hid ((Tryd.prog.info? 51).map (·.size) = some (y.map cb).length) := by show _ = _; rw [hSl.out]; exact size25
  have HF : Hid ((y.map cb).length = zb32.size) := by show _ = _; rw [hSl.out, hZs.out]
  have HC : Hid ((y.map cb)[0]? = some (.int .u8 (bv (y.getD 0 0)))) := cb_at y 0 (by omega)
  generalize y.map cb = S at *
  generalize y.getD 0 0 = z at *
  generalize zb32 = Z at *
  clear hk
  go_enter Tryd.func14, Tryd.ntmps14
  go_wp2_with (first | (go_at_call 20; refine (HN.out _).mono ?_))
  rintro e w1 ⟨rfl, hb1⟩
  have HB1 := hid hb1
  clear hb1 HN
  go_wp2_with (first | (go_at_call 20; refine (HN2.out _).mono ?_))
  rintro e w2 ⟨rfl, hb2⟩
  have HB2 : Hid (Below w.heap.size w w2) := HB1.out.trans (hb2.mono HB1.out.size)
  clear hb2 HB1 HN2
  go_wp2_with (first | (go_at_call 19; refine (HTG.out _).mono ?_))
  rintro e w3 ⟨rfl, hb3⟩
  have HB3 : Hid (Below w.heap.size w w3) := HB2.out.trans (hb3.mono HB2.out.size)
  clear hb3 HB2 HTG
  have hc : (w3.alloc (.cells S.toArray 51)).cell? ⟨w3.heap.size, 0, none⟩ = some (.int .u8 (bv z)) := by rw [cell_of_row _ _ _ _ _ _ (top_row w3 _)]; simpa using HC.out
  have HB4 : Hid (Below w.heap.size w (w3.alloc (.cells S.toArray 51))) := below_more HB3.out _ (Nat.le_refl _)
  go_upto_region 2 with (first | (refine wpList_alloc_row rfl 51 rfl Z HZ ?_) | (refine wpList_store_top rfl 51 _ _ rfl rfl w3.heap.size rfl S rfl Z 51 rfl HF.out H1.out HI.out ?_))
  generalize w3.alloc (.cells S.toArray 51) = w4 at *
  go_wp2
  go_ret
  exact ⟨rfl, HB4.out⟩

end Go.Proofs.YtfkfjopjnfeahaaDoor
