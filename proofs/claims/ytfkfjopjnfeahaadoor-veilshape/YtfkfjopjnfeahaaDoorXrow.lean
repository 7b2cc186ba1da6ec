/-
  What the reference's Row and Byte answer.
-/
import Derived.Test.YtfkfjopjnfeahaaDoorVpl
namespace Go.Proofs.YtfkfjopjnfeahaaDoor
open Go Go.RowKit
set_option maxRecDepth 100000

theorem brow_far {w : World} {base g : Nat} {v : Value} {l : List UInt8} {S : Array Value} {t : TypeId} (h : brow w base v l) (hg : w.heap[g]? = some (.cells S t)) (ht : t ≠ 5) : v.ownBlock ≠ some g := by
  intro hk
  rcases h with ⟨rfl, _⟩ | ⟨g', cap, cur, fz, rfl, h1, h2, h3⟩
  · simp [Value.ownBlock] at hk
  · simp [Value.ownBlock] at hk
    subst hk
    rw [hg] at h2
    injection h2 with h2
    injection h2 with _ h2
    exact ht h2

set_option maxHeartbeats 1000000 in
theorem xrow_bad (k : List UInt8) (n m : Int) (h : rErr n m ≠ 0) (w : World) :
    Calls Tryd.prog 13 #[.string ⟨k.toArray⟩, .int .i64 n, .int .i64 m] w fun e w' => e = .returned (.tuple #[.string ⟨#[]⟩, .int .i64 (rErr n m : Nat)]) ∧ w' = w := by
  by_cases hn : n < 0
  · have hr : rErr n m = 3 := by unfold rErr; rw [if_pos (Or.inl hn)]
    have d1 : decide (n < 0) = true := by simp [hn]
    rw [hr]
    clear h hr
    go_enter Tryd.func13, Tryd.ntmps13
    go_wp2
    go_ret2
    exact ⟨rfl, rfl⟩
  · have d1 : decide (n < 0) = false := decide_eq_false (by omega)
    by_cases hn2 : 1099511627776 < n
    · have hr : rErr n m = 3 := by unfold rErr; rw [if_pos (Or.inr hn2)]
      have d2 : decide (1099511627776 < n) = true := by simp [hn2]
      rw [hr]
      clear h hr hn
      go_enter Tryd.func13, Tryd.ntmps13
      go_wp2
      go_ret2
      exact ⟨rfl, rfl⟩
    · have d2 : decide (1099511627776 < n) = false := decide_eq_false (by omega)
      have hnn : ¬ (n < 0 ∨ 1099511627776 < n) := by omega
      by_cases hm : m < 0
      · have hr : rErr n m = 2 := by unfold rErr; rw [if_neg hnn, if_pos hm]
        have d3 : decide (m < 0) = true := by simp [hm]
        rw [hr]
        clear h hr hn hn2 hnn
        go_enter Tryd.func13, Tryd.ntmps13
        go_wp2
        go_ret2
        exact ⟨rfl, rfl⟩
      · have d3 : decide (m < 0) = false := decide_eq_false (by omega)
        by_cases hm2 : 16384 < m
        · have hr : rErr n m = 4 := by unfold rErr; rw [if_neg hnn, if_neg hm, if_pos hm2]
          have d4 : decide (16384 < m) = true := by simp [hm2]
          rw [hr]
          clear h hr hn hn2 hnn hm
          go_enter Tryd.func13, Tryd.ntmps13
          go_wp2
          go_ret2
          exact ⟨rfl, rfl⟩
        · exact absurd (by unfold rErr; rw [if_neg hnn, if_neg hm, if_neg hm2]) h

/-- What the reference's Tag of a number's and a place's bytes answers. -/
theorem rtag_blk (k : List UInt8) (hk : k.length ≤ 140737488355228) (n : Int) (h0 : -9223372036854775808 ≤ n) (h1 : n ≤ 9223372036854775807) (i : Nat) (hi : i ≤ 100000) (W : World) :
    Calls Tryd.prog 19 #[.string ⟨k.toArray⟩, .string ⟨(numB n ++ numB (i : Int)).toArray⟩] W fun e w' => e = .returned (.agg ((blkB k n i).map cb).toArray) ∧ Below W.heap.size W w' :=
  rtag_any k hk _ (by rw [List.length_append]; have := numB_len n h0 h1; have := numB_len (i : Int) (by omega) (by omega); omega) W

set_option maxHeartbeats 4000000 in
theorem xrow_ok (k : List UInt8) (hk : k.length ≤ 140737488355228) (n : Int) (h0 : 0 ≤ n) (h1 : n ≤ 1099511627776) (m : Nat) (hm : m ≤ 16384) (w : World) :
    Calls Tryd.prog 13 #[.string ⟨k.toArray⟩, .int .i64 n, .int .i64 (m : Int)] w fun e w' => e = .returned (.tuple #[.string ⟨(rowB k n m).toArray⟩, .int .i64 0]) ∧ Below w.heap.size w w' := by
  have d1 : decide (n < 0) = false := decide_eq_false (by omega)
  have d2 : decide (1099511627776 < n) = false := decide_eq_false (by omega)
  have d3 : decide ((m : Int) < 0) = false := decide_eq_false (by omega)
  have d4 : decide (16384 < (m : Int)) = false := decide_eq_false (by omega)
  have HN : Hid (∀ W, Calls Tryd.prog 20 #[.int .i64 n] W fun e w' => e = .returned (.string ⟨(numB n).toArray⟩) ∧ Below W.heap.size W w') := fun W => Lay.refNumber_any n (by omega) (by omega) W
  have HN2 : Hid (∀ i : Nat, i ≤ 100000 → ∀ W, Calls Tryd.prog 20 #[.int .i64 (i : Int)] W fun e w' => e = .returned (.string ⟨(numB (i : Int)).toArray⟩) ∧ Below W.heap.size W w') := fun i hi W => Lay.refNumber_any (i : Int) (by omega) (by omega) W
  have HTG := hid (fun i hi W => rtag_blk k hk n (by omega) (by omega) i hi W)
  have hl1 := numB_len n (by omega) (by omega)
  have hl2 := hid (fun (i : Nat) (hi : i ≤ 100000) => numB_len (i : Int) (by omega) (by omega))
  have hbl := hid (fun j => blkB_len k n j)
  have HLN := hid (fun j => rowsTo_len (blkB k n) (blkB_len k n) j)
  have HRE : Hid (∀ j, m ≤ 32 * j → (rowsTo (blkB k n) j).take m = rowB k n m) := fun j hj => rowOf_at _ (blkB_len k n) j m hj
  have HST := hid (fun j a b c d e => rowOf_step (blkB k n) (blkB_len k n) j m a b c d e)
  have HZ0 : Hid ((rowsTo (blkB k n) 0).take m = []) := by show List.take m [] = []; simp
  have HTK : Hid (∀ j, 32 * j < m → (rowsTo (blkB k n) j).take m = rowsTo (blkB k n) j) := fun j hj => List.take_of_length_le (by rw [HLN.out]; omega)
  generalize rowB k n m = R at *
  generalize blkB k n = bl at *
  generalize numB n = A at *
  have hsA : (⟨A.toArray⟩ : ByteArray).size = A.length := rfl
  have hbA : (A.length : Int) ≤ 22 := by omega
  have HZ := zero25
  have hZs : Hid (zb32.size = 32) := show zb32.size = 32 from rfl
  generalize zb32 = Z at *
  clear hk
  have HE0 : Hid (brow w w.heap.size (.slice none 0 0) ((rowsTo bl 0).take m)) := Or.inl ⟨rfl, HZ0.out⟩
  go_enter Tryd.func13, Tryd.ntmps13
  go_wp2
  go_loopw [8, 9] (fun v i w' => ∃ j I : Nat, I = 32 * j ∧ I < m + 32 ∧ i = .int .i64 I ∧ Hid (brow w' w.heap.size v ((rowsTo bl j).take m)) ∧ Hid (Below w.heap.size w w')) (fun _ i _ => m + 32 - (intOf i).toNat)
  case atStart => exact ⟨0, 0, by omega, by omega, rfl, HE0, Below.refl _ _⟩
  case round =>
    clear HE0 HZ0
    obtain ⟨j, I, hI, hIm, rfl, HR, HB⟩ := hrel
    by_cases hlt : I < m
    · have hlt' : (I : Int) < (m : Int) := by omega
      have hq : (I : Int) / 32 = (j : Int) := by omega
      have HNj := hid (HN2.out j (by omega))
      have HTj := hid (HTG.out j (by omega))
      have hlj := hl2.out j (by omega)
      have hbj := hbl.out j
      have HR1 : Hid (brow wr w.heap.size u8 (rowsTo bl j)) := by have h := HR.out; rw [HTK.out j (by omega)] at h; exact h
      have hLj := HLN.out j
      have HSj := hid (HST.out j)
      generalize rowsTo bl j = L0 at *
      generalize bl j = y at *
      generalize numB (j : Int) = B at *
      have hsB : (⟨B.toArray⟩ : ByteArray).size = B.length := rfl
      have hbB : (B.length : Int) ≤ 22 := by omega
      have happ : (⟨A.toArray⟩ : ByteArray) ++ (⟨B.toArray⟩ : ByteArray) = ⟨(A ++ B).toArray⟩ := ByteArray.mk_append_mk A B
      have H1 := hid (one_cb y)
      have hSl : Hid ((y.map cb).length = 32) := by show List.length _ = _; rw [List.length_map]; exact hbj
      have HI : Hid ((Tryd.prog.info? 51).map (·.size) = some (y.map cb).length) := by show _ = _; rw [hSl.out]; exact size25
      have HF : Hid ((y.map cb).length = Z.size) := by show _ = _; rw [hSl.out, hZs.out]
      have HC : Hid (∀ r, r < 32 → (y.map cb).toArray[r]? = some (.int .u8 (bv (y.getD r 0)))) := fun r hr => by simpa using cb_at y r (by omega)
      generalize y.map cb = S at *
      clear HR
      go_wp2_with (first | (go_at_call 20; refine (HN.out _).mono ?_))
      rintro e w1 ⟨rfl, hb1⟩
      have HB1 : Hid (Below w.heap.size w w1) := HB.out.trans (hb1.mono HB.out.size)
      have HR2 := hid (brow_below HR1.out hb1 (Nat.le_refl _))
      clear hb1 HB HR1
      go_wp2_with (first | (go_at_call 20; refine (HNj.out _).mono ?_))
      rintro e w2 ⟨rfl, hb2⟩
      have HB2 : Hid (Below w.heap.size w w2) := HB1.out.trans (hb2.mono HB1.out.size)
      have HR3 := hid (brow_below HR2.out hb2 (Nat.le_refl _))
      clear hb2 HB1 HR2
      go_wp2_with (first | (go_at_call 19; refine (HTj.out _).mono ?_))
      rintro e w3 ⟨rfl, hb3⟩
      have HB3 : Hid (Below w.heap.size w (w3.alloc (.cells S.toArray 51))) := below_more (HB2.out.trans (hb3.mono HB2.out.size)) _ (Nat.le_refl _)
      have HR4 : Hid (brow (w3.alloc (.cells S.toArray 51)) w.heap.size u8 (L0 ++ y.take 0)) := by
        show brow _ _ _ _
        rw [List.take_zero, List.append_nil]
        exact brow_below (brow_below HR3.out hb3 (Nat.le_refl _)) (below_a1 w3 _) (Nat.le_refl _)
      have HD4 : Hid ((w3.alloc (.cells S.toArray 51)).heap[w3.heap.size]? = some (.cells S.toArray 51)) := top_row w3 _
      clear hb3 HB2 HR3 HNj HTj
      go_upto_region 12 with (first | (refine wpList_alloc_row rfl 51 rfl Z HZ ?_) | (refine wpList_store_top rfl 51 _ _ rfl rfl w3.heap.size rfl S rfl Z 51 rfl HF.out H1.out HI.out ?_))
      generalize w3.alloc (.cells S.toArray 51) = w4 at *
      generalize w3.heap.size = g at *
      clear HZ H1 HI HF
      go_wp2
      go_loopw [8, 11] (fun v i w' => ∃ r : Nat, r ≤ 32 ∧ I + r ≤ m ∧ i = .int .i64 r ∧ Hid (brow w' w.heap.size v (L0 ++ y.take r)) ∧ Hid (w'.heap[g]? = some (.cells S.toArray 51)) ∧ Hid (Below w.heap.size w w')) (fun _ i _ => 32 - (intOf i).toNat)
      case atStart => exact ⟨0, by omega, by omega, rfl, HR4, HD4, HB3⟩
      case round =>
        clear HR4 HD4 HB3
        obtain ⟨r, hr, hrm, rfl, HR, HD, HB⟩ := hrel
        by_cases hr32 : r < 32
        · have c1 : decide ((r : Int) < 32) = true := decide_eq_true (by omega)
          by_cases hrI : I + r < m
          · have c2 : decide ((I : Int) + (r : Int) < (m : Int)) = true := decide_eq_true (by omega)
            have hsz : w.heap.size ≤ wr.heap.size := HB.out.size
            have hc : wr.cell? ⟨g, r, none⟩ = some (.int .u8 (bv (y.getD r 0))) := by rw [cell_of_row _ _ _ _ _ _ HD.out]; exact HC.out r hr32
            have HS : Hid ((L0 ++ y.take r) ++ [y.getD r 0] = L0 ++ y.take (r + 1)) := by
              show _ = _
              rw [List.append_assoc, List.take_add_one, List.getD_eq_getElem?_getD, List.getElem?_eq_getElem (by omega)]; rfl
            have HL : Hid ((L0 ++ y.take r).length = I + r) := by show _ = _; rw [List.length_append, List.length_take, hLj]; omega
            have hfar := hid (brow_far HR.out HD.out (by decide))
            have hgl := hid (row_lt HD.out)
            generalize y.getD r 0 = c at *
            generalize hLL : L0 ++ y.take r = L at *
            clear hLL
            go_wp2_with (first | (at_builtin; refine wpList_app rfl _ _ rfl w.heap.size w.heap.size _ _ L [c] rfl rfl (brow_below HR.out (below_a1 _ _) (Nat.le_refl _)) (brow_lit _ _ c _ rfl hsz) (Or.inr (by simp)) ?c1 ?c2 ?_))
            case c1 => rw [HL.out]; simp; omega
            case c2 => simp; omega
            intro v3 w5 hr5 hg5
            have HB5 : Hid (Below w.heap.size w w5) := (HB.out.alloc hsz _).grown hg5 (by simp; omega) (brow_own HR.out)
            rw [HS.out] at hr5
            have HR5 := hid hr5
            have HD5 : Hid (w5.heap[g]? = some (.cells S.toArray 51)) := by
              have h1 := hg5.block g (by have := hgl.out; simp; omega) (fun e => hfar.out e.symm)
              rw [heap_old1 wr _ g hgl.out] at h1
              exact h1.trans HD.out
            clear hr5 hg5 HR HB HD hfar hgl
            go_wp2
            go_roundw
            case rel => exact ⟨r + 1, by omega, by omega, by go_num, HR5, HD5, HB5⟩
            case measure => simp [intOf]; omega
          · have c2 : decide ((I : Int) + (r : Int) < (m : Int)) = false := decide_eq_false (by omega)
            have HRn : Hid (brow wr w.heap.size u8 ((rowsTo bl (j + 1)).take m)) := by
              have h := HR.out
              rw [HSj.out r (by omega) (by omega) (by omega) (by omega)] at h
              exact h
            clear HR HD
            go_wp2
            go_roundw
            case rel => exact ⟨j + 1, I + 32, by omega, by omega, by go_num, HRn, HB⟩
            case measure => simp [intOf]; omega
        · have c1 : decide ((r : Int) < 32) = false := decide_eq_false (by omega)
          have HRn : Hid (brow wr w.heap.size u8 ((rowsTo bl (j + 1)).take m)) := by
            have h := HR.out
            rw [HSj.out r (by omega) (by omega) (by omega) (by omega)] at h
            exact h
          clear HR HD
          go_wp2
          go_roundw
          case rel => exact ⟨j + 1, I + 32, by omega, by omega, by go_num, HRn, HB⟩
          case measure => simp [intOf]; omega
    · have hlt' : decide ((I : Int) < (m : Int)) = false := decide_eq_false (by omega)
      have HV : (convert 36 9 u8).run Tryd.prog wr = .ok (.string ⟨R.toArray⟩) wr := by
        have h := conv_brow HR.out
        rw [HRE.out j (by omega)] at h
        exact h
      clear HR
      go_wp2
      go_ret2
      exact ⟨rfl, HB.out⟩

theorem xrow_any (k : List UInt8) (hk : k.length ≤ 140737488355228) (n m : Int) (w : World) :
    Calls Tryd.prog 13 #[.string ⟨k.toArray⟩, .int .i64 n, .int .i64 m] w fun e w' => e = .returned (.tuple #[.string ⟨(rOut k n m).toArray⟩, .int .i64 (rErr n m : Nat)]) ∧ Below w.heap.size w w' := by
  by_cases h : rErr n m = 0
  · obtain ⟨a, b, c, d⟩ := (rErr_ok n m).1 h
    obtain ⟨M, rfl⟩ : ∃ M : Nat, m = M := ⟨m.toNat, by omega⟩
    rw [rOut, if_pos h, h]
    exact xrow_ok k hk n a b M (by omega) w
  · rw [rOut, if_neg h]
    refine (xrow_bad k n m h w).mono ?_
    rintro e w' ⟨rfl, rfl⟩
    exact ⟨rfl, Below.refl _ _⟩

end Go.Proofs.YtfkfjopjnfeahaaDoor
