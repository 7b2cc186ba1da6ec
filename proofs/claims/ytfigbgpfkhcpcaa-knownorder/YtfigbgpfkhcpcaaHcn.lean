/-
  The function that counts: what hist.counter makes, and what it answers.
-/
import Derived.Test.YtfigbgpfkhcpcaaHpl
import Derived.Test.YtfigbgpfkhcpcaaHrf
import Derived.Test.YtfigbgpfkhcpcaaChecked
import Derived.Laws.Rows
import Derived.Laws.EntriesVeiled
import Derived.Laws.AppendOwn
import Derived.BigQuiet
import Derived.Sort.Grow
namespace Go.Proofs.Ytfigbgpfkhcpcaa.Hist
open Go Go.RowKit
set_option maxRecDepth 100000

/-- Nothing but the block b has changed of what there was. -/
structure But (b : Nat) (w w' : World) : Prop where
  os : w'.os = w.os
  tape : w'.tape = w.tape
  output : w'.output = w.output
  size : w.heap.size ≤ w'.heap.size
  block : ∀ k, k < w.heap.size → k ≠ b → w'.heap[k]? = w.heap[k]?
theorem But.below {b n : Nat} {w w' : World} (h : But b w w') (h1 : n ≤ b) (h2 : n ≤ w.heap.size) : Below n w w' :=
  ⟨h.os, h.tape, h.output, h.size, fun k hk => h.block k (by omega) (by omega)⟩
theorem heap_setCell_at (w : World) (g i : Nat) (cur : Array Value) (t : TypeId) (v : Value) (h : w.heap[g]? = some (.cells cur t)) : (w.setCell ⟨g, i, none⟩ v).heap[g]? = some (.cells (cur.setIfInBounds i v) t) := heap_setCell_same w g i cur t v h
theorem but_setCell (w : World) (b i : Nat) (v : Value) : But b w (w.setCell ⟨b, i, none⟩ v) :=
  ⟨rfl, rfl, rfl, by simp [World.setCell], fun k _ hk => heap_setCell_other w ⟨b, i, none⟩ k v hk⟩
theorem But.drew {b : Nat} {w w' : World} (h : But b w w') : But b w w'.drew := ⟨h.os, h.tape, h.output, h.size, h.block⟩
theorem getD_byte (y : List UInt8) (j : Nat) (h : j < (⟨y.toArray⟩ : ByteArray).size) : ((⟨y.toArray⟩ : ByteArray)[j]'h).toNat = (y.getD j 0).toNat := by
  have h' : j < y.length := h
  show (y.toArray[j]).toNat = _
  simp [List.getD, h']

section
variable {w : World} {bh bc k : Nat} {h : List UInt8}
set_option maxHeartbeats 2000000 in
theorem counter1_any (hh : w.heap[bh]? = some (.cells #[.string ⟨h.toArray⟩] 9)) (hc : w.heap[bc]? = some (.cells (cntsL h k).toArray 76)) (hk : k < h.length) (hl : h.length < 9223372036854775807) :
    Calls Try.prog 50 #[.int .i64 k, .pointer (some ⟨bh, 0, none⟩), .pointer (some ⟨bc, 0, none⟩)] w fun e w' =>
      e = .returned (.tuple (opA h k)) ∧ w'.heap[bc]? = some (.cells (cntsL h (k + 1)).toArray 76) ∧ But bc w w' := by
  have hss : (⟨h.toArray⟩ : ByteArray).size = h.length := rfl
  have c0 : w.cell? ⟨bh, 0, none⟩ = some (.string ⟨h.toArray⟩) := by rw [cell_of_row _ _ _ _ _ _ hh]; rfl
  have hq : ((⟨h.toArray⟩ : ByteArray)[k]'(by rw [hss]; exact hk)).toNat = (h.getD k 0).toNat := getD_byte h k _
  obtain ⟨c, hcd⟩ : ∃ c, h.getD k 0 = c := ⟨_, rfl⟩
  have hc256 : c.toNat < 256 := c.toNat_lt
  have hn : cnt (h.take k) (bv c) ≤ h.length := Nat.le_trans (cnt_take_le h k _) (cnt_le h _)
  obtain ⟨n, hnd⟩ : ∃ n, cnt (h.take k) (bv c) = n := ⟨_, rfl⟩
  have c1 : w.cell? ⟨bc, c.toNat, none⟩ = some (.int .i64 n) := by
    rw [cell_of_row _ _ _ _ _ _ hc, List.getElem?_toArray, cntsL_at h k _ hc256]
    show some (Value.int .i64 (cnt (h.take k) (bv c))) = _
    rw [hnd]
  have f1 : w.frozen? ⟨bc, c.toNat, none⟩ = false := by simp [World.frozen?, hc]
  have hst : (cntsL h k).toArray.setIfInBounds c.toNat (.int .i64 ((n : Int) + 1)) = (cntsL h (k + 1)).toArray := by
    rw [← cntsL_step h k hk, hcd, hnd]; simp
  have hop : opA h k = #[.int .i64 (c.toNat : Int), .int .i64 ((n : Int) + 1)] := by
    unfold opA
    rw [cnt_step h k hk, hcd, hnd, if_pos rfl]
    rfl
  have HC : Hid (w.heap[bc]? = some (.cells (cntsL h k).toArray 76)) := hc
  have HS := hid hst
  rw [hcd] at hq
  rw [hop]
  rw [hnd] at hn
  clear hc hst hop hcd hnd hh
  go_enter Try.func50, Try.ntmps50
  go_wp2
  have HW1 := hid (but_setCell w bc c.toNat (.int .i64 ((n : Int) + 1)))
  have HR1 : Hid ((w.setCell ⟨bc, c.toNat, none⟩ (.int .i64 ((n : Int) + 1))).heap[bc]? = some (.cells (cntsL h (k + 1)).toArray 76)) := by
    show _ = _
    rw [heap_setCell_at w bc c.toNat _ _ _ HC.out, HS.out]
  have c2 : (w.setCell ⟨bc, c.toNat, none⟩ (.int .i64 ((n : Int) + 1))).cell? ⟨bc, c.toNat, none⟩ = some (.int .i64 ((n : Int) + 1)) := World.cell?_setCell_same' _ _ _ (by rw [c1]; rfl)
  generalize w.setCell ⟨bc, c.toNat, none⟩ (.int .i64 ((n : Int) + 1)) = w1 at *
  clear HC HS c0 c1 f1 hq
  have ecv : IntKind.i64.wrap (c.toNat : Int) = (c.toNat : Int) := by rw [IntKind.wrap_i64]; omega
  go_region
  all_goals (go_wp2; go_ret2; exact ⟨rfl, HR1.out, HW1.out.drew⟩)
end

theorem wpList_alloc_row {P : Program} {ops : Array Oper} {rest : List Oper} {o : Oper} {a : Act} {w : World} {Q : Exit → Act → World → Prop} (hgd : o.guard = none) (ty : TypeId) (ho : o.op = .alloc ty)
    (z : Array Value) (hi : (P.info? ty).map (·.zero) = some (some (.agg z)))
    (h : wpList P ops Q rest (a.put o.dst (.pointer (some ⟨w.heap.size, 0, none⟩))) (w.alloc (.cells z ty))) : wpList P ops Q (o :: rest) a w := by
  refine wpList_plain hgd fun K hK => ?_
  have h' := hK _ _ h
  cases hq : P.info? ty with
  | none => simp [hq] at hi
  | some i =>
    have hz : i.zero = some (.agg z) := by simpa [hq] using hi
    unfold Oper.wp execOp
    simp [ho, Instr.alloc, zeroValue, typeInfo, hq, hz, newVar, newRow, newObj, Sem.run_bind, Value.cells]
    exact h'
theorem zero256 : (Try.prog.info? 76).map (·.zero) = some (some (.agg (List.replicate 256 (.int .i64 0)).toArray)) := by kernel_rfl

set_option maxHeartbeats 2000000 in
theorem counter_any (h : List UInt8) (w : World) : Calls Try.prog 48 #[.string ⟨h.toArray⟩] w fun e w' =>
    ∃ bh bc, e = .returned (.func (.func 50) #[] #[.pointer (some ⟨bh, 0, none⟩), .pointer (some ⟨bc, 0, none⟩)]) ∧ w'.heap[bh]? = some (.cells #[.string ⟨h.toArray⟩] 9) ∧ w'.heap[bc]? = some (.cells (cntsL h 0).toArray 76) ∧
      Below w.heap.size w w' ∧ w.heap.size ≤ bh ∧ w.heap.size ≤ bc ∧ bh ≠ bc := by
  obtain ⟨Z, hZ⟩ : ∃ Z : Array Value, (List.replicate 256 (Value.int .i64 0)).toArray = Z := ⟨_, rfl⟩
  have hz := zero256
  rw [hZ] at hz
  rw [cntsL_zero, hZ]
  have HZ := hid hz
  clear hz hZ
  go_enter Try.func48, Try.ntmps48
  go_wp2_with (refine wpList_alloc_row rfl 76 rfl Z HZ.out ?_)
  go_ret
  refine ⟨w.heap.size, w.heap.size + 1, rfl, ?_, ?_, ?_, Nat.le_refl _, by omega, by omega⟩
  · exact heap_alloc2_old w _ _
  · exact heap_alloc2_new w _ _
  · exact ((Below.refl _ w).alloc (Nat.le_refl _) _).alloc (by simp) _

set_option maxHeartbeats 2000000 in
theorem operations_any (h : List UInt8) (w : World) : Calls Try.prog 44 #[.string ⟨h.toArray⟩] w fun e w' =>
    e = .returned (.func (.func 47) #[] #[.pointer (some ⟨w.heap.size, 0, none⟩)]) ∧ w' = w.alloc (.cells #[.string ⟨h.toArray⟩] 9) := by
  go_enter Try.func44, Try.ntmps44
  go_wp2
  go_ret
  exact ⟨rfl, rfl⟩
end Go.Proofs.Ytfigbgpfkhcpcaa.Hist
