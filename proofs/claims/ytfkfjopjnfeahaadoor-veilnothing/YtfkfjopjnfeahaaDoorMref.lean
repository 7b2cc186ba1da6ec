/-
  What the reference's Tag, mac.Make and the reference's Make answer.
-/
import Derived.Test.YtfkfjopjnfeahaaDoorMpad
import Derived.Test.YtfkfjopjnfeahaaDoorLtxt
namespace Go.Proofs.YtfkfjopjnfeahaaDoor
open Go Go.RowKit
set_option maxRecDepth 100000

set_option maxHeartbeats 2000000 in
theorem rtag_any (k : List UInt8) (hk : k.length ≤ 140737488355228) (t : List UInt8) (ht : t.length ≤ 140737488355100) (w : World) :
    Calls Tryd.prog 19 #[.string ⟨k.toArray⟩, .string ⟨t.toArray⟩] w fun e w' => e = .returned (.agg ((hmac k t).map cb).toArray) ∧ Below w.heap.size w w' := by
  have HZ := zero25
  have hZs : Hid (zb32.size = 32) := show zb32.size = 32 from rfl
  have hP54 := padB_len k 54
  have hP92 := padB_len k 92
  have HP54 : Hid (∀ W, Calls Tryd.prog 28 #[.string ⟨k.toArray⟩, .int .u8 54] W fun e w' => e = .returned (.string ⟨(padB k 54).toArray⟩) ∧ Below W.heap.size W w') := fun W => pad_any k hk 54 W
  have HP92 : Hid (∀ W, Calls Tryd.prog 28 #[.string ⟨k.toArray⟩, .int .u8 92] W fun e w' => e = .returned (.string ⟨(padB k 92).toArray⟩) ∧ Below W.heap.size W w') := fun W => pad_any k hk 92 W
  have HR1 : Hid (∀ W, Calls Tryd.prog 27 #[.string ⟨(padB k 54 ++ t).toArray⟩] W fun e w' => e = .returned (.agg ((sha (padB k 54 ++ t)).map cb).toArray) ∧ Below W.heap.size W w') := fun W => rsum_any _ (by rw [List.length_append, hP54]; omega) W
  have hI32 := sha_len (padB k 54 ++ t)
  have HBY := hid (fun W => rbytes_any (sha (padB k 54 ++ t)) (sha_len _) W)
  have HR2 : Hid (∀ W, Calls Tryd.prog 27 #[.string ⟨(padB k 92 ++ sha (padB k 54 ++ t)).toArray⟩] W fun e w' => e = .returned (.agg ((hmac k t).map cb).toArray) ∧ Below W.heap.size W w') := fun W => rsum_any _ (by rw [List.length_append, hP92, hI32]; omega) W
  have H1 := hid (one_cb (hmac k t))
  have hSl : Hid (((hmac k t).map cb).length = 32) := by show List.length _ = _; rw [List.length_map]; exact hmac_len _ _
  have HI : Hid ((Tryd.prog.info? 51).map (·.size) = some ((hmac k t).map cb).length) := by show _ = _; rw [hSl.out]; exact size25
  generalize hS : (hmac k t).map cb = S at *
  clear hS hk
  generalize ((sha (padB k 54 ++ t)).map cb).toArray = X at *
  generalize sha (padB k 54 ++ t) = I at *
  generalize padB k 54 = P at *
  generalize padB k 92 = Q at *
  generalize zb32 = Z at *
  have hsP : (⟨P.toArray⟩ : ByteArray).size = 64 := hP54
  have hsQ : (⟨Q.toArray⟩ : ByteArray).size = 64 := hP92
  have hsI : (⟨I.toArray⟩ : ByteArray).size = 32 := hI32
  have hst : (⟨t.toArray⟩ : ByteArray).size = t.length := rfl
  have hbt : (t.length : Int) ≤ 140737488355100 := by omega
  have happ1 : (⟨P.toArray⟩ : ByteArray) ++ (⟨t.toArray⟩ : ByteArray) = ⟨(P ++ t).toArray⟩ := ByteArray.mk_append_mk P t
  have happ2 : (⟨Q.toArray⟩ : ByteArray) ++ (⟨I.toArray⟩ : ByteArray) = ⟨(Q ++ I).toArray⟩ := ByteArray.mk_append_mk Q I
  have HF : Hid (0 + S.length ≤ Z.size) := by show _ ≤ _; rw [hSl.out, hZs.out]; omega
  clear hP92 hI32 hP54
  have hb0 : Hid (Below w.heap.size w (w.alloc (.cells Z 51))) := below_a1 w _
  have hr0 : Hid ((w.alloc (.cells Z 51)).heap[w.heap.size]? = some (.cells Z 51)) := top_row w _
  go_enter Tryd.func19, Tryd.ntmps19
  go_upto_region 1 with (first | (refine wpList_alloc_row rfl 51 rfl Z HZ ?_))
  generalize w.alloc (.cells Z 51) = w1 at *
  go_wp2_with (first | (go_at_call 28; refine (HP54.out _).mono ?_))
  rintro e w2 ⟨rfl, hb2⟩
  have hB2 : Hid (Below w.heap.size w w2) := hb0.out.trans (hb2.mono hb0.out.size)
  have hR2 := hid (row_kept hr0.out hb2)
  clear hb2 hb0 hr0
  go_wp2_with (first | (go_at_call 27; refine (HR1.out _).mono ?_))
  rintro e w3 ⟨rfl, hb3⟩
  have hB3 : Hid (Below w.heap.size w w3) := hB2.out.trans (hb3.mono hB2.out.size)
  have hR3 := hid (row_kept hR2.out hb3)
  clear hb3 hB2 hR2
  go_wp2_with (first | (go_at_call 26; refine (HBY.out _).mono ?_))
  rintro e w4 ⟨rfl, hb4⟩
  have hB4 : Hid (Below w.heap.size w w4) := hB3.out.trans (hb4.mono hB3.out.size)
  have hR4 := hid (row_kept hR3.out hb4)
  clear hb4 hB3 hR3
  go_wp2_with (first | (go_at_call 28; refine (HP92.out _).mono ?_))
  rintro e w5 ⟨rfl, hb5⟩
  have hB5 : Hid (Below w.heap.size w w5) := hB4.out.trans (hb5.mono hB4.out.size)
  have hR5 := hid (row_kept hR4.out hb5)
  clear hb5 hB4 hR4
  go_wp2_with (first | (go_at_call 27; refine (HR2.out _).mono ?_))
  rintro e w6 ⟨rfl, hb6⟩
  have hB6 : Hid (Below w.heap.size w w6) := hB5.out.trans (hb6.mono hB5.out.size)
  have hR6 := hid (row_kept hR5.out hb6)
  clear hb6 hB5 hR5
  go_wp2_with (first | (refine wpList_store_seg rfl 51 _ _ rfl rfl w.heap.size 0 rfl S rfl Z 51 hR6.out HF.out H1.out HI.out ?_))
  have HRR : Hid ((List.take 0 Z.toList ++ S ++ List.drop (0 + S.length) Z.toList).toArray = S.toArray) := by
    have h64 : Z.toList.length ≤ 0 + S.length := by rw [Array.length_toList, hSl.out, hZs.out]; omega
    show _ = _
    rw [List.drop_eq_nil_of_le h64]; simp
  refine bodyPost_ret_by (results_cell_row (fn := Tryd.f19) (p := 4) (ty := 51) (by kernel_rfl) _ _ w.heap.size 51 S.toArray (0, 0) _ rfl (by rw [HRR.out]; exact setRow_heap _ _ _ _ _ _ hR6.out) Tryd.underlying51 rfl (by rw [List.size_toArray, hSl.out]; exact size25)) rfl ?_
  exact ⟨rfl, below_setRow hB6.out _ _ (by omega)⟩

theorem texts_two (W : World) (A B : List UInt8) : TextsAt (W.alloc (.cells #[.string ⟨A.toArray⟩, .string ⟨B.toArray⟩] 9)) (some ⟨W.heap.size, 0, none⟩) 2 [⟨A.toArray⟩, ⟨B.toArray⟩] := by
  refine ⟨rfl, fun j hj => ⟨W.heap.size, 0, rfl, by simp, ?_⟩⟩
  rw [cell_of_row _ _ _ _ _ _ (top_row W _)]
  rcases j with _ | _ | j
  · rfl
  · rfl
  · omega
theorem texts_one (W : World) (A : List UInt8) : TextsAt (W.alloc (.cells #[.string ⟨A.toArray⟩] 9)) (some ⟨W.heap.size, 0, none⟩) 1 [⟨A.toArray⟩] := by
  refine ⟨rfl, fun j hj => ⟨W.heap.size, 0, rfl, by simp, ?_⟩⟩
  rw [cell_of_row _ _ _ _ _ _ (top_row W _)]
  rcases j with _ | j
  · rfl
  · omega
theorem joined_two (A B : List UInt8) : joined [⟨A.toArray⟩, ⟨B.toArray⟩] = A ++ B := by simp [joined]
theorem joined_one (A : List UInt8) : joined [⟨A.toArray⟩] = A := by simp [joined]

/-- The key that a key makes. -/
def makeB (k l : List UInt8) (n : Int) : List UInt8 := hmac k (Lay.textB l ++ (Lib.itoa n ++ [59]))
theorem makeB_len (k l : List UInt8) (n : Int) : (makeB k l n).length = 32 := hmac_len _ _

end Go.Proofs.YtfkfjopjnfeahaaDoor
