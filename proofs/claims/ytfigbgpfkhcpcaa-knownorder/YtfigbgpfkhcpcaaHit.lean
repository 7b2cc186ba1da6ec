/-
  What hist.operations makes is an iterator that hands out a history's operations, one behind the other, as long as they are wanted.
-/
import Derived.Test.YtfigbgpfkhcpcaaHcn
import Derived.OwnWalkIn
import Derived.TacticsInMore
import Derived.LoopNIn
import Derived.LoopIn
import Derived.Shelf.Abstract
import Derived.Shelf.RegionOpen
namespace Go.Proofs.Ytfigbgpfkhcpcaa.Hist
open Go Go.RowKit Go.Shelf
set_option maxRecDepth 100000
attribute [local go_sem] Oper.semAt_some

theorem run_equalIn_func_nil {P : Program} (w : World) (d : Nat) (t : TypeId) (ps rs : Array TypeId) (va : Bool) (f : Fn) (x y : Array Value) (h : P.underlying t = some (.func ps rs va)) :
    (Op.equalIn (d + 1) t (.func f x y) .nilFunc).run P w = .ok false w := by
  simp [Op.equalIn, run_underlying h]
theorem run_equal_func_nil {P : Program} (w : World) (t : TypeId) (ps rs : Array TypeId) (va : Bool) (f : Fn) (x y : Array Value) (h : P.underlying t = some (.func ps rs va)) :
    (Op.equal t (.func f x y) .nilFunc).run P w = .ok false w := run_equalIn_func_nil w 9999 t ps rs va f x y h
theorem run_eql_func_nil {P : Program} (w : World) (t : TypeId) (ps rs : Array TypeId) (va : Bool) (f : Fn) (x y : Array Value) (h : P.underlying t = some (.func ps rs va)) :
    (binOp .eql t (.func f x y) .nilFunc).run P w = .ok (.bool false) w := by
  simp only [binOp]
  simp [run_equal_func_nil w t ps rs va f x y h]

set_option maxHeartbeats 2000000 in
theorem ops_seq (n : Nat) (h : List UInt8) (hl : h.length < 9223372036854775807) (bh : Nat) (w : World) (hw : bh < w.heap.size) (hh : w.heap[bh]? = some (.cells #[.string ⟨h.toArray⟩] 9)) :
    SeqB Fence.wide n Try.prog 47 #[.pointer (some ⟨bh, 0, none⟩)] (opsA h) bh w := by
  intro l J Jx W hW hJ hY h0
  have hhW : W.heap[bh]? = some (.cells #[.string ⟨h.toArray⟩] 9) := (hW.block bh hw).trans hh
  have hwW : w.heap.size ≤ W.heap.size := hW.size
  have HC := hid (counter_any h W)
  have c0 : W.cell? ⟨bh, 0, none⟩ = some (.string ⟨h.toArray⟩) := by rw [cell_of_row _ _ _ _ _ _ hhW]; rfl
  have hss : (⟨h.toArray⟩ : ByteArray).size = h.length := rfl
  have hef := fun f x y (V : World) => run_eql_func_nil (P := Try.prog) V 70 _ _ _ f x y Try.underlying70
  have HH := hid hhW
  have HY := hid hY
  have HJ := hid hJ
  have HJ0 := hid h0
  rw [opsA_len] at *
  clear hW hh hhW hY hJ h0
  refine callsIn_of_wp Try.func47 rfl trivial ?_ rfl
  simp only [Try.ntmps47, List.size_toArray, List.length_cons, List.length_nil, Nat.reduceAdd, Nat.reduceSub, Array.replicate_succ, Array.replicate_zero, List.push_toArray, List.append_toArray, List.nil_append, List.cons_append]
  gi_wp2_with (refine ⟨trivial, (fun hq => absurd hq (by decide)), ?_⟩; gi_at_call 48; refine (callsIn_wide.2 HC.out).mono ?_; rintro e w1 ⟨b1, b2, rfl, hb1, hb2, hbl, hg1, hg2, hne⟩; have HB1 := hid hb1; have HB2 := hid hb2; have HBL := hid hbl; have c1 : w1.cell? ⟨bh, 0, none⟩ = some (.string ⟨h.toArray⟩) := (hbl.cell (p := ⟨bh, 0, none⟩) (by show bh < _; omega)).trans c0; clear hb1 hb2 hbl)
  gi_loopw [11] (fun i wr => ∃ k : Nat, k ≤ h.length ∧ i = .int .i64 k ∧ Hid (J k wr) ∧ Hid (wr.heap[bh]? = some (.cells #[.string ⟨h.toArray⟩] 9)) ∧ Hid (wr.heap[b1]? = some (.cells #[.string ⟨h.toArray⟩] 9)) ∧ Hid (wr.heap[b2]? = some (.cells (cntsL h k).toArray 76)) ∧ Hid (W.heap.size ≤ wr.heap.size)) (fun i _ => h.length - (intOf i).toNat)
  case atStart => exact ⟨0, Nat.zero_le _, rfl, HJ.out _ _ _ HJ0.out HBL.out, (HBL.out.block bh (by omega)).trans HH.out, HB1.out, HB2.out, HBL.out.size⟩
  case round =>
    obtain ⟨k, hk, rfl, hj, r0, r1, r2, hz⟩ := hrel
    by_cases hlt : k < h.length
    · have HK := hid (counter1_any r1.out r2.out hlt hl)
      have hx := opsA_get hlt
      obtain ⟨p, q, hop⟩ : ∃ p q : Int, opA h k = #[.int .i64 p, .int .i64 q] := ⟨_, _, rfl⟩
      rw [hop] at HK hx
      have HYk := hid (fun V hv => HY.out k _ V hx hv)
      clear hop hx
      gi_wp2_with (refine ⟨trivial, (fun hq => absurd hq (by decide)), ?_⟩; gi_at_call 50; refine (callsIn_wide.2 HK.out).mono ?_; rintro e w2 ⟨rfl, hc2, hbut⟩; have HC2 := hid hc2; have HU := hid hbut; have HJ2 := hid (HJ.out _ _ _ hj.out (hbut.below hg2 hz.out)); clear hc2 hbut; obtain ⟨fn, tmps, assign, body, hy, hR⟩ := HYk.out w2 HJ2.out)
      refine ⟨(fun hq => absurd hq (by decide)), hR.mono ?_⟩
      rintro e W3 (⟨rfl, hJ3, hk3⟩ | ⟨rfl, hJx3⟩)
      · have HJ3 := hid hJ3
        have HK3 := hid hk3
        clear hJ3 hk3 hR hy
        gi_wp2
        go_roundw
        case rel =>
          have hlt2 : ∀ i, i < wr.heap.size → i < w2.heap.size := fun i hi => Nat.lt_of_lt_of_le hi HU.out.size
          have hbne : bh ≠ b2 := by omega
          refine ⟨k + 1, by omega, by go_num, HJ3.out, HK3.out.row ((HU.out.block bh (Array.getElem?_eq_some_iff.1 r0.out).1 hbne).trans r0.out) (Nat.le_refl _), HK3.out.row ((HU.out.block b1 (Array.getElem?_eq_some_iff.1 r1.out).1 hne).trans r1.out) (by omega), HK3.out.row HC2.out (by omega), Nat.le_trans hz.out (Nat.le_trans HU.out.size HK3.out.size)⟩
        case measure => simp [intOf]; omega
      · gi_wp2
        refine bodyPost_ret (results_none rfl _ _ _) rfl ?_
        exact ⟨⟨_, rfl⟩, .inr ⟨k, hlt, hJx3⟩⟩
    · obtain rfl : k = h.length := by omega
      gi_wp2
      go_end0
      exact ⟨⟨_, rfl⟩, .inl hj.out⟩
end Go.Proofs.Ytfigbgpfkhcpcaa.Hist
