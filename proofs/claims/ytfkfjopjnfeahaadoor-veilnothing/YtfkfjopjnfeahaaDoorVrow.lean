/-
  What veil.Row answers, for every key, number and length.
-/
import Derived.Test.YtfkfjopjnfeahaaDoorVblk
import Derived.Test.YtfkfjopjnfeahaaDoorVbld
namespace Go.Proofs.YtfkfjopjnfeahaaDoor
open Go Go.RowKit
set_option maxRecDepth 100000

theorem atF_below {w w' : World} {T e B b : Nat} {p : Value} {bs : List Value} (h : Lib.BuilderAtF T e B b p bs w) (hb : Below w.heap.size w w') : Lib.BuilderAtF T e B b p bs w' := by
  obtain ⟨hB, v, hbk, hown, hne⟩ := h
  exact ⟨hB, v, by rw [hb.block b (Array.getElem?_eq_some_iff.1 hbk).1]; exact hbk, ownsF_below hown hb, hne⟩
theorem isF_below {w w' : World} {T e B b : Nat} {bs : List Value} (h : Lib.IsBuilderF T e B b bs w) (hb : Below w.heap.size w w') : Lib.IsBuilderF T e B b bs w' :=
  h.elim (fun x => .inl (atF_below x hb)) (fun x => .inr (atF_below x hb))

set_option maxHeartbeats 1000000 in
theorem row_bad (k : List UInt8) (n m : Int) (h : rErr n m ≠ 0) (w : World) :
    Calls Tryd.prog 12 #[.string ⟨k.toArray⟩, .int .i64 n, .int .i64 m] w fun e w' => e = .returned (.tuple #[.string ⟨#[]⟩, .int .i64 (rErr n m : Nat)]) ∧ w' = w := by
  by_cases hn : n < 0
  · have hr : rErr n m = 3 := by unfold rErr; rw [if_pos (Or.inl hn)]
    have d1 : decide (n < 0) = true := by simp [hn]
    rw [hr]
    clear h hr
    go_enter Tryd.func12, Tryd.ntmps12
    go_wp2
    go_ret2
    exact ⟨rfl, rfl⟩
  · have d1 : decide (n < 0) = false := decide_eq_false (by omega)
    by_cases hn2 : 1099511627776 < n
    · have hr : rErr n m = 3 := by unfold rErr; rw [if_pos (Or.inr hn2)]
      have d2 : decide (1099511627776 < n) = true := by simp [hn2]
      rw [hr]
      clear h hr hn
      go_enter Tryd.func12, Tryd.ntmps12
      go_wp2
      go_ret2
      exact ⟨rfl, rfl⟩
    · have d2 : decide (1099511627776 < n) = false := decide_eq_false (by omega)
      have hnn : ¬ (n < 0 ∨ 1099511627776 < n) := by omega
      by_cases hm : m < 0
      · have hr : rErr n m = 2 := by unfold rErr; rw [if_neg hnn, if_pos hm]
        have d3 : decide (m < 0) = true := by simp [hm]
        rw [hr]
        clear h hr hn hn2 hnn
        go_enter Tryd.func12, Tryd.ntmps12
        go_wp2
        go_ret2
        exact ⟨rfl, rfl⟩
      · have d3 : decide (m < 0) = false := decide_eq_false (by omega)
        by_cases hm2 : 16384 < m
        · have hr : rErr n m = 4 := by unfold rErr; rw [if_neg hnn, if_neg hm, if_pos hm2]
          have d4 : decide (16384 < m) = true := by simp [hm2]
          rw [hr]
          clear h hr hn hn2 hnn hm
          go_enter Tryd.func12, Tryd.ntmps12
          go_wp2
          go_ret2
          exact ⟨rfl, rfl⟩
        · exact absurd (by unfold rErr; rw [if_neg hnn, if_neg hm, if_neg hm2]) h

set_option maxHeartbeats 2000000 in
theorem row_ok (k : List UInt8) (hk : k.length ≤ 140737488355100) (n : Int) (h0 : 0 ≤ n) (h1 : n ≤ 1099511627776) (m : Nat) (hm : m ≤ 16384) (w : World) (hK : Ktab w) (hT : Lay.Tabs w) :
    Calls Tryd.prog 12 #[.string ⟨k.toArray⟩, .int .i64 n, .int .i64 (m : Int)] w fun e w' => e = .returned (.tuple #[.string ⟨(rowB k n m).toArray⟩, .int .i64 0]) ∧ Below w.heap.size w w' := by
  have d1 : decide (n < 0) = false := decide_eq_false (by omega)
  have d2 : decide (1099511627776 < n) = false := decide_eq_false (by omega)
  have d3 : decide ((m : Int) < 0) = false := decide_eq_false (by omega)
  have d4 : decide (16384 < (m : Int)) = false := decide_eq_false (by omega)
  have HO := hid (blocksOf_any k n (by omega) (by omega) w hT)
  have HBL := hid (fun i hi p q W a b c d => block_any k hk n (by omega) (by omega) i hi p q W a b c d)
  obtain ⟨J, hJ⟩ : ∃ J, J = (m + 31) / 32 := ⟨_, rfl⟩
  have HFO : Hid (∀ W, Calls Tryd.prog 16 #[.int .i64 (m : Int)] W fun e w' => e = .returned (.int .i64 (J : Int)) ∧ w' = W) := fun W => by rw [hJ]; exact blocksFor_any m hm W
  have hJ1 : J ≤ 512 := by omega
  have hJ2 : m ≤ 32 * J := by omega
  have HLN := hid (fun j => rowsTo_len (blkB k n) (blkB_len k n) j)
  have hbl := hid (fun j => blkB_len k n j)
  have HRE : Hid ((rowsTo (blkB k n) J).take m = rowB k n m) := by show _ = _; rw [hJ]; rfl
  have HST : Hid (∀ j, rowsTo (blkB k n) (j + 1) = rowsTo (blkB k n) j ++ blkB k n j) := fun j => rfl
  have HKb : Hid (∀ V, Below w.heap.size w V → Ktab V) := fun V h => hK.stays h hK.pos
  have HTb : Hid (∀ V, Below w.heap.size w V → Lay.Tabs V) := fun V h => hT.stays h
  have HZ0 : Hid (rowsTo (blkB k n) 0 = []) := rfl
  generalize rowB k n m = R at *
  generalize blkB k n = bl at *
  generalize hnb : numB n = nb at *
  clear hJ hK hT hk hnb
  go_enter Tryd.func12, Tryd.ntmps12
  go_wp2_with (first | (go_at_call 15; refine Calls.mono HO.out ?_))
  rintro e w1 ⟨p, q, rfl, hp, hq, hb1⟩
  have hP := hid hp
  have hQ := hid hq
  have HB1 := hid hb1
  have HF : Hid (Lib.IsBuilderF 43 5 w1.heap.size w1.heap.size (Lib.byteCells (rowsTo bl 0)) (w1.alloc (.cells #[.pointer none, .slice none 0 0] 43))) := Lib.IsBuilderF.of (Lib.fresh_isBuilder 43 5 w1)
  have HB2 : Hid (Below w1.heap.size w1 (w1.alloc (.cells #[.pointer none, .slice none 0 0] 43))) := below_a1 w1 _
  clear hp hq hb1 HO
  go_wp2_with (first | (go_at_call 16; refine (HFO.out _).mono ?_; rintro e W ⟨rfl, rfl⟩))
  generalize w1.alloc (.cells #[.pointer none, .slice none 0 0] 43) = w2 at *
  go_loopw [26] (fun i w' => ∃ j : Nat, j ≤ J ∧ i = .int .i64 j ∧ Hid (Lib.IsBuilderF 43 5 w1.heap.size w1.heap.size (Lib.byteCells (rowsTo bl j)) w') ∧ Hid (Below w1.heap.size w1 w')) (fun i _ => J - (intOf i).toNat)
  case atStart => exact ⟨0, by omega, rfl, HF, HB2⟩
  case round =>
    clear HF HB2
    obtain ⟨j, hj, rfl, HI, HB⟩ := hrel
    have HBw : Hid (Below w.heap.size w wr) := HB1.out.trans (HB.out.mono HB1.out.size)
    by_cases hlt : j < J
    · have HC := hid (HBL.out j (by omega) p q wr (HKb.out _ HBw.out) (HTb.out _ HBw.out) (row_kept hP.out HB.out) (row_kept hQ.out HB.out))
      have hbj := hbl.out j
      have hln := hid (HLN.out j)
      have hst := hid (HST.out j)
      generalize bl j = y at *
      have hsy : (⟨y.toArray⟩ : ByteArray).size = 32 := hbj
      go_wp2_with (first | (go_at_call 22; refine Calls.mono HC.out ?_))
      rintro e w3 ⟨rfl, hb3⟩
      have HI3 := hid (isF_below HI.out hb3)
      have HB3 : Hid (Below w1.heap.size w1 w3) := HB.out.trans (hb3.mono HB.out.size)
      have hsz3 : w1.heap.size ≤ w3.heap.size := HB3.out.size
      clear hb3 HI HB HBw HC
      go_wp2_with (first | (go_at_call 17; refine (write_string w1.heap.size w1.heap.size _ _ _ HI3.out (by rw [hsy]; simp [Lib.byteCells]; have := hln.out; omega) hsz3).mono ?_))
      rintro e w4 ⟨rfl, h4, hb4, -⟩
      have H4 : Hid (Lib.IsBuilderF 43 5 w1.heap.size w1.heap.size (Lib.byteCells (rowsTo bl (j + 1))) w4) := by
        refine Or.inr ?_
        rw [hst.out]
        simpa [Lib.byteCells, Lib.strCells] using h4
      have HB4 : Hid (Below w1.heap.size w1 w4) := HB3.out.trans hb4
      clear h4 hb4 HI3 HB3 hsz3
      go_wp2
      go_roundw
      case rel => exact ⟨j + 1, by omega, by go_num, H4, HB4⟩
      case measure => simp [intOf]; omega
    · obtain rfl : j = J := by omega
      have hsz : w1.heap.size ≤ wr.heap.size := HB.out.size
      have hln := HLN.out j
      have hx : Hid ((⟨(rowsTo bl j).toArray⟩ : ByteArray).extract 0 m = ⟨R.toArray⟩) := by show _ = _; rw [cut_take, HRE.out]
      have HSS := hid (Tryd.Builder_String_any_k w1.heap.size w1.heap.size (rowsTo bl j) wr HI.out hsz)
      have hsl : (⟨(rowsTo bl j).toArray⟩ : ByteArray).size = 32 * j := hln
      generalize rowsTo bl j = y at *
      clear HI hln
      go_wp2_with (first | (go_at_call 18; refine Calls.mono HSS.out ?_))
      rintro e w3 ⟨rfl, -, hb3, -⟩
      have HB3 : Hid (Below w.heap.size w w3) := HB1.out.trans ((HB.out.trans hb3).mono HB1.out.size)
      clear hb3 HB HBw HSS
      go_wp2
      go_ret2
      exact ⟨by rw [hx.out]; rfl, HB3.out⟩

theorem row_any (k : List UInt8) (hk : k.length ≤ 140737488355100) (n m : Int) (w : World) (hK : Ktab w) (hT : Lay.Tabs w) :
    Calls Tryd.prog 12 #[.string ⟨k.toArray⟩, .int .i64 n, .int .i64 m] w fun e w' => e = .returned (.tuple #[.string ⟨(rOut k n m).toArray⟩, .int .i64 (rErr n m : Nat)]) ∧ Below w.heap.size w w' := by
  by_cases h : rErr n m = 0
  · obtain ⟨a, b, c, d⟩ := (rErr_ok n m).1 h
    obtain ⟨M, rfl⟩ : ∃ M : Nat, m = M := ⟨m.toNat, by omega⟩
    rw [rOut, if_pos h, h]
    exact row_ok k hk n a b M (by omega) w hK hT
  · rw [rOut, if_neg h]
    refine (row_bad k n m h w).mono ?_
    rintro e w' ⟨rfl, rfl⟩
    exact ⟨rfl, Below.refl _ _⟩

end Go.Proofs.YtfkfjopjnfeahaaDoor
