/-
  What the reference's Tag, mac.Make and the reference's Make answer.
-/
import Derived.Test.YtoddlbggbkabnaaDoorMpad
import Derived.Test.YtoddlbggbkabnaaDoorLtxt
namespace Go.Proofs.YtoddlbggbkabnaaDoor
open Go Go.RowKit
set_option maxRecDepth 100000

set_option maxHeartbeats 2000000 in
theorem rtag_any (k : List UInt8) (hk : k.length ≤ 140737488355228) (t : List UInt8) (ht : t.length ≤ 140737488355100) (w : World) :
    Calls Tryd.prog 28 #[.string ⟨k.toArray⟩, .string ⟨t.toArray⟩] w fun e w' => e = .returned (.agg ((hmac k t).map cb).toArray) ∧ Below w.heap.size w w' := by
  have HZ := zero25
  have hZs : Hid (zb32.size = 32) := show zb32.size = 32 from rfl
  have hP54 := padB_len k 54
  have hP92 := padB_len k 92
  have HP54 : Hid (∀ W, Calls Tryd.prog 40 #[.string ⟨k.toArray⟩, .int .u8 54] W fun e w' => e = .returned (.string ⟨(padB k 54).toArray⟩) ∧ Below W.heap.size W w') := fun W => pad_any k hk 54 W
  have HP92 : Hid (∀ W, Calls Tryd.prog 40 #[.string ⟨k.toArray⟩, .int .u8 92] W fun e w' => e = .returned (.string ⟨(padB k 92).toArray⟩) ∧ Below W.heap.size W w') := fun W => pad_any k hk 92 W
  have HR1 : Hid (∀ W, Calls Tryd.prog 39 #[.string ⟨(padB k 54 ++ t).toArray⟩] W fun e w' => e = .returned (.agg ((sha (padB k 54 ++ t)).map cb).toArray) ∧ Below W.heap.size W w') := fun W => rsum_any _ (by rw [List.length_append, hP54]; omega) W
  have hI32 := sha_len (padB k 54 ++ t)
  have HBY := hid (fun W => rbytes_any (sha (padB k 54 ++ t)) (sha_len _) W)
  have HR2 : Hid (∀ W, Calls Tryd.prog 39 #[.string ⟨(padB k 92 ++ sha (padB k 54 ++ t)).toArray⟩] W fun e w' => e = .returned (.agg ((hmac k t).map cb).toArray) ∧ Below W.heap.size W w') := fun W => rsum_any _ (by rw [List.length_append, hP92, hI32]; omega) W
  have H1 := hid (one_cb (hmac k t))
  have hSl : Hid (((hmac k t).map cb).length = 32) := by show List.length _ = _; rw [List.length_map]; exact hmac_len _ _
  have HI : Hid ((Tryd.prog.info? 34).map (·.size) = some ((hmac k t).map cb).length) := by show _ = _; rw [hSl.out]; exact size25
  generalize hS : (hmac k t).map cb = S at *
  clear hS hk
  generalize ((sha (padB k 54 ++ t)).map cb).toArray = X at *
  generalize sha (padB k 54 ++ t) = I at *
  generalize padB k 54 = P at *
  generalize padB k 92 = Q at *
  generalize zb32 = Z at *
  have hsP : (⟨P.toArray⟩ : ByteArray).size = 64 := hP54
  have hsQ : (⟨Q.toArray⟩ : ByteArray).size = 64 := hP92
  have hsI : (⟨I.toArray⟩ : ByteArray).size = 32 := hI32
  have hst : (⟨t.toArray⟩ : ByteArray).size = t.length := rfl
  have hbt : (t.length : Int) ≤ 140737488355100 := by omega
  have happ1 : (⟨P.toArray⟩ : ByteArray) ++ (⟨t.toArray⟩ : ByteArray) = ⟨(P ++ t).toArray⟩ := ByteArray.mk_append_mk P t
  have happ2 : (⟨Q.toArray⟩ : ByteArray) ++ (⟨I.toArray⟩ : ByteArray) = ⟨(Q ++ I).toArray⟩ := ByteArray.mk_append_mk Q I
  have HF : Hid (0 + S.length ≤ Z.size) := by show _ ≤ _; rw [hSl.out, hZs.out]; omega
  clear hP92 hI32 hP54
  have hb0 : Hid (Below w.heap.size w (w.alloc (.cells Z 34))) := below_a1 w _
  have hr0 : Hid ((w.alloc (.cells Z 34)).heap[w.heap.size]? = some (.cells Z 34)) := top_row w _
  go_enter Tryd.func28, Tryd.ntmps28
  go_upto_region 1 with (first | (refine wpList_alloc_row rfl 34 rfl Z HZ ?_))
  generalize w.alloc (.cells Z 34) = w1 at *
  go_wp2_with (first | (go_at_call 40; refine (HP54.out _).mono ?_))
  rintro e w2 ⟨rfl, hb2⟩
  have hB2 : Hid (Below w.heap.size w w2) := hb0.out.trans (hb2.mono hb0.out.size)
  have hR2 := hid (row_kept hr0.out hb2)
  clear hb2 hb0 hr0
  go_wp2_with (first | (go_at_call 39; refine (HR1.out _).mono ?_))
  rintro e w3 ⟨rfl, hb3⟩
  have hB3 : Hid (Below w.heap.size w w3) := hB2.out.trans (hb3.mono hB2.out.size)
  have hR3 := hid (row_kept hR2.out hb3)
  clear hb3 hB2 hR2
  go_wp2_with (first | (go_at_call 32; refine (HBY.out _).mono ?_))
  rintro e w4 ⟨rfl, hb4⟩
  have hB4 : Hid (Below w.heap.size w w4) := hB3.out.trans (hb4.mono hB3.out.size)
  have hR4 := hid (row_kept hR3.out hb4)
  clear hb4 hB3 hR3
  go_wp2_with (first | (go_at_call 40; refine (HP92.out _).mono ?_))
  rintro e w5 ⟨rfl, hb5⟩
  have hB5 : Hid (Below w.heap.size w w5) := hB4.out.trans (hb5.mono hB4.out.size)
  have hR5 := hid (row_kept hR4.out hb5)
  clear hb5 hB4 hR4
  go_wp2_with (first | (go_at_call 39; refine (HR2.out _).mono ?_))
  rintro e w6 ⟨rfl, hb6⟩
  have hB6 : Hid (Below w.heap.size w w6) := hB5.out.trans (hb6.mono hB5.out.size)
  have hR6 := hid (row_kept hR5.out hb6)
  clear hb6 hB5 hR5
  go_wp2_with (first | (refine wpList_store_seg rfl 34 _ _ rfl rfl w.heap.size 0 rfl S rfl Z 34 hR6.out HF.out H1.out HI.out ?_))
  have HRR : Hid ((List.take 0 Z.toList ++ S ++ List.drop (0 + S.length) Z.toList).toArray = S.toArray) := by
    have h64 : Z.toList.length ≤ 0 + S.length := by rw [Array.length_toList, hSl.out, hZs.out]; omega
    show _ = _
    rw [List.drop_eq_nil_of_le h64]; simp
  refine bodyPost_ret_by (results_cell_row (fn := Tryd.f28) (p := 4) (ty := 34) (by kernel_rfl) _ _ w.heap.size 34 S.toArray (0, 0) _ rfl (by rw [HRR.out]; exact setRow_heap _ _ _ _ _ _ hR6.out) Tryd.underlying34 rfl (by rw [List.size_toArray, hSl.out]; exact size25)) rfl ?_
  exact ⟨rfl, below_setRow hB6.out _ _ (by omega)⟩

theorem texts_two (W : World) (A B : List UInt8) : TextsAt (W.alloc (.cells #[.string ⟨A.toArray⟩, .string ⟨B.toArray⟩] 9)) (some ⟨W.heap.size, 0, none⟩) 2 [⟨A.toArray⟩, ⟨B.toArray⟩] := by
  refine ⟨rfl, fun j hj => ⟨W.heap.size, 0, rfl, by simp, ?_⟩⟩
  rw [cell_of_row _ _ _ _ _ _ (top_row W _)]
  rcases j with _ | _ | j
  · rfl
  · rfl
  · omega
theorem texts_one (W : World) (A : List UInt8) : TextsAt (W.alloc (.cells #[.string ⟨A.toArray⟩] 9)) (some ⟨W.heap.size, 0, none⟩) 1 [⟨A.toArray⟩] := by
  refine ⟨rfl, fun j hj => ⟨W.heap.size, 0, rfl, by simp, ?_⟩⟩
  rw [cell_of_row _ _ _ _ _ _ (top_row W _)]
  rcases j with _ | j
  · rfl
  · omega
theorem joined_two (A B : List UInt8) : joined [⟨A.toArray⟩, ⟨B.toArray⟩] = A ++ B := by simp [joined]
theorem joined_one (A : List UInt8) : joined [⟨A.toArray⟩] = A := by simp [joined]

/-- The key that a key makes. -/
def makeB (k l : List UInt8) (n : Int) : List UInt8 := hmac k (Lay.textB l ++ (Lib.itoa n ++ [59]))
theorem makeB_len (k l : List UInt8) (n : Int) : (makeB k l n).length = 32 := hmac_len _ _

set_option maxHeartbeats 2000000 in
theorem make_ok (k : List UInt8) (hk : k.length ≤ 140737488355228) (l : List UInt8) (hl : l.length ≤ 16384) (n : Int) (h0 : -9223372036854775808 ≤ n) (h1 : n ≤ 9223372036854775807) (w : World) (hK : Ktab w) (hT : Lay.Tabs w) :
    Calls Tryd.prog 24 #[.string ⟨k.toArray⟩, .string ⟨l.toArray⟩, .int .i64 n] w fun e w' => e = .returned (.string ⟨(makeB k l n).toArray⟩) ∧ Below w.heap.size w w' := by
  have HT : Hid (Calls Tryd.prog 33 #[.string ⟨l.toArray⟩] w fun e w' => e = .returned (.tuple #[.string ⟨(Lay.textB l).toArray⟩, .int .i64 0]) ∧ Below w.heap.size w w') := by
    have h := Lay.text_ok ⟨l.toArray⟩ hl w hT
    exact h
  have HN := hid (fun W h => Lay.number_any n h0 h1 W h)
  have htl := hid (Lay.textB_len l hl)
  have hnl : Hid ((Lib.itoa n ++ [59]).length ≤ 22) := by show _ ≤ _; rw [List.length_append]; have := Lay.itoa_len n h0 h1; simp; omega
  have HKb : Hid (∀ V, Below w.heap.size w V → Ktab V) := fun V h => hK.stays h hK.pos
  have HTb : Hid (∀ V, Below w.heap.size w V → Lay.Tabs V) := fun V h => hT.stays h
  have HTG : Hid (∀ W, Ktab W → Calls Tryd.prog 35 #[.string ⟨k.toArray⟩, .slice (some ⟨W.heap.size, 0, none⟩) 2 2] (W.alloc (.cells #[.string ⟨(Lay.textB l).toArray⟩, .string ⟨(Lib.itoa n ++ [59]).toArray⟩] 9)) fun e w' => e = .returned (.agg ((makeB k l n).map cb).toArray) ∧ Below (W.alloc (.cells #[.string ⟨(Lay.textB l).toArray⟩, .string ⟨(Lib.itoa n ++ [59]).toArray⟩] 9)).heap.size (W.alloc (.cells #[.string ⟨(Lay.textB l).toArray⟩, .string ⟨(Lib.itoa n ++ [59]).toArray⟩] 9)) w') := by
    intro W kk
    have h := tag_any k (by omega) (some ⟨W.heap.size, 0, none⟩) 2 2 _ _ (kk.stays (below_a1 W _) kk.pos) (texts_two W (Lay.textB l) (Lib.itoa n ++ [59])) (by rw [joined_two, List.length_append]; have := htl.out; have := hnl.out; omega) (by omega)
    rw [joined_two] at h
    exact h
  have HBY := hid (fun W => bytes_any (makeB k l n) (makeB_len k l n) W)
  generalize ((makeB k l n).map cb).toArray = X at *
  generalize makeB k l n = M at *
  generalize Lay.textB l = A at *
  generalize Lib.itoa n ++ [59] = B at *
  clear hK hT htl hnl hl hk
  go_enter Tryd.func24, Tryd.ntmps24
  go_wp2_with (first | (go_at_call 33; refine Calls.mono HT.out ?_))
  rintro e w1 ⟨rfl, hb1⟩
  have hB1 := hid hb1
  clear hb1 HT
  go_wp2_with (first | (go_at_call 36; refine (HN.out _ (HTb.out _ hB1.out)).mono ?_))
  rintro e w2 ⟨rfl, hb2⟩
  have hB2 : Hid (Below w.heap.size w w2) := hB1.out.trans (hb2.mono hB1.out.size)
  clear hb2 hB1
  go_wp2_with (first | (go_at_call 35; refine (HTG.out w2 (HKb.out _ hB2.out)).mono ?_))
  rintro e w3 ⟨rfl, hb3⟩
  have hB3 : Hid (Below w.heap.size w w3) := (below_more hB2.out _ (Nat.le_refl _)).trans (hb3.mono (below_more hB2.out _ (Nat.le_refl _)).size)
  clear hb3 hB2
  go_wp2_with (first | (go_at_call 34; refine (HBY.out _).mono ?_))
  rintro e w4 ⟨rfl, hb4⟩
  have hB4 : Hid (Below w.heap.size w w4) := hB3.out.trans (hb4.mono hB3.out.size)
  clear hb4 hB3
  go_wp2
  go_ret
  exact ⟨rfl, hB4.out⟩

theorem make_big (k l : List UInt8) (hl : 16384 < l.length) (n : Int) (w : World) :
    Calls Tryd.prog 24 #[.string ⟨k.toArray⟩, .string ⟨l.toArray⟩, .int .i64 n] w fun e w' => e = .returned (.string ⟨#[]⟩) ∧ w' = w := by
  have HT : Hid (Calls Tryd.prog 33 #[.string ⟨l.toArray⟩] w fun e w' => e = .returned (.tuple #[.string ⟨#[]⟩, .int .i64 4]) ∧ w' = w) := Lay.text_big ⟨l.toArray⟩ hl w
  go_enter Tryd.func24, Tryd.ntmps24
  go_wp2_with (first | (go_at_call 33; refine Calls.mono HT.out ?_; rintro e w1 ⟨rfl, rfl⟩))
  go_ret
  exact ⟨rfl, rfl⟩

set_option maxHeartbeats 2000000 in
theorem rmake_ok (k : List UInt8) (hk : k.length ≤ 140737488355228) (l : List UInt8) (hl : l.length ≤ 16384) (n : Int) (h0 : -9223372036854775808 ≤ n) (h1 : n ≤ 9223372036854775807) (w : World) :
    Calls Tryd.prog 23 #[.string ⟨k.toArray⟩, .string ⟨l.toArray⟩, .int .i64 n] w fun e w' => e = .returned (.string ⟨(makeB k l n).toArray⟩) ∧ Below w.heap.size w w' := by
  have HT : Hid (Calls Tryd.prog 31 #[.string ⟨l.toArray⟩] w fun e w' => e = .returned (.tuple #[.string ⟨(Lay.textB l).toArray⟩, .int .i64 0]) ∧ Below w.heap.size w w') := Lay.refText_ok ⟨l.toArray⟩ hl w
  have HN := hid (fun W => Lay.refNumber_any n h0 h1 W)
  have htl := hid (Lay.textB_len l hl)
  have hnl : Hid ((Lib.itoa n ++ [59]).length ≤ 22) := by show _ ≤ _; rw [List.length_append]; have := Lay.itoa_len n h0 h1; simp; omega
  have HTG : Hid (∀ W, Calls Tryd.prog 28 #[.string ⟨k.toArray⟩, .string ⟨(Lay.textB l ++ (Lib.itoa n ++ [59])).toArray⟩] W fun e w' => e = .returned (.agg ((makeB k l n).map cb).toArray) ∧ Below W.heap.size W w') := fun W =>
    rtag_any k hk _ (by rw [List.length_append]; have := htl.out; have := hnl.out; omega) W
  have HBY := hid (fun W => rbytes_any (makeB k l n) (makeB_len k l n) W)
  generalize ((makeB k l n).map cb).toArray = X at *
  generalize makeB k l n = M at *
  generalize Lay.textB l = A at *
  generalize Lib.itoa n ++ [59] = B at *
  have hsA : (⟨A.toArray⟩ : ByteArray).size = A.length := rfl
  have hsB : (⟨B.toArray⟩ : ByteArray).size = B.length := rfl
  have hbA : (A.length : Int) ≤ 16410 := by have := htl.out; omega
  have hbB : (B.length : Int) ≤ 22 := by have := hnl.out; omega
  have happ : (⟨A.toArray⟩ : ByteArray) ++ (⟨B.toArray⟩ : ByteArray) = ⟨(A ++ B).toArray⟩ := ByteArray.mk_append_mk A B
  clear htl hnl hl hk
  go_enter Tryd.func23, Tryd.ntmps23
  go_wp2_with (first | (go_at_call 31; refine Calls.mono HT.out ?_))
  rintro e w1 ⟨rfl, hb1⟩
  have hB1 := hid hb1
  clear hb1 HT
  go_wp2_with (first | (go_at_call 29; refine (HN.out _).mono ?_))
  rintro e w2 ⟨rfl, hb2⟩
  have hB2 : Hid (Below w.heap.size w w2) := hB1.out.trans (hb2.mono hB1.out.size)
  clear hb2 hB1
  go_wp2_with (first | (go_at_call 28; refine (HTG.out w2).mono ?_))
  rintro e w3 ⟨rfl, hb3⟩
  have hB3 : Hid (Below w.heap.size w w3) := hB2.out.trans (hb3.mono hB2.out.size)
  clear hb3 hB2
  go_wp2_with (first | (go_at_call 32; refine (HBY.out _).mono ?_))
  rintro e w4 ⟨rfl, hb4⟩
  have hB4 : Hid (Below w.heap.size w w4) := hB3.out.trans (hb4.mono hB3.out.size)
  clear hb4 hB3
  go_wp2
  go_ret
  exact ⟨rfl, hB4.out⟩

theorem rmake_big (k l : List UInt8) (hl : 16384 < l.length) (n : Int) (w : World) :
    Calls Tryd.prog 23 #[.string ⟨k.toArray⟩, .string ⟨l.toArray⟩, .int .i64 n] w fun e w' => e = .returned (.string ⟨#[]⟩) ∧ w' = w := by
  have HT : Hid (Calls Tryd.prog 31 #[.string ⟨l.toArray⟩] w fun e w' => e = .returned (.tuple #[.string ⟨#[]⟩, .int .i64 4]) ∧ w' = w) := Lay.refText_big ⟨l.toArray⟩ hl w
  go_enter Tryd.func23, Tryd.ntmps23
  go_wp2_with (first | (go_at_call 31; refine Calls.mono HT.out ?_; rintro e w1 ⟨rfl, rfl⟩))
  go_ret
  exact ⟨rfl, rfl⟩

end Go.Proofs.YtoddlbggbkabnaaDoor
