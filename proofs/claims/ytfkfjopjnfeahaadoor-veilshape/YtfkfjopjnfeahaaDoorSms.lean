/-
  What sum.New, (*sum.Sum256).Len, (*sum.Sum256).Sum and sum.Sum answer.
-/
import Derived.Test.YtfkfjopjnfeahaaDoorAdd
import Derived.Test.YtfkfjopjnfeahaaDoorEnd
namespace Go.Proofs.YtfkfjopjnfeahaaDoor
open Go Go.RowKit
set_option maxRecDepth 100000

def newRow256 : Array Value := (objL ini (List.replicate 64 0) 0).toArray

theorem wpList_build {P : Program} {ops : Array Oper} {rest : List Oper} {o : Oper} {a : Act} {w : World} {Q : Exit → Act → World → Prop} (hgd : o.guard = none) (ty : TypeId) (parts : List (Nat × Operand)) (ho : o.op = .build ty parts.toArray)
    (vs : List (Nat × Value)) (hv : (parts.map fun p => (p.1, a.eval p.2)) = vs) (v : Value) (hr : (Instr.build ty vs.toArray).run P w = .ok v w)
    (h : wpList P ops Q rest (a.put o.dst v) w) : wpList P ops Q (o :: rest) a w := by
  refine wpList_plain hgd fun K hK => ?_
  have h' := hK _ _ h
  subst hv
  unfold Oper.wp execOp
  simp only [ho, List.map_toArray, Sem.run_bind, hr, Result.andThen_ok, Sem.run_pure]
  exact h'

theorem build45 (w : World) : (Instr.build 75 #[(0, .agg #[.int .u32 1779033703, .int .u32 3144134277, .int .u32 1013904242, .int .u32 2773480762, .int .u32 1359893119, .int .u32 2600822924, .int .u32 528734635, .int .u32 1541459225])]).run Tryd.prog w = .ok (.agg newRow256) w := by kernel_rfl

theorem new_any (w : World) : Calls Tryd.prog 32 #[] w fun e w' => e = .returned (.pointer (some ⟨w.heap.size, 0, none⟩)) ∧ w' = w.alloc (.cells newRow256 75) := by
  go_enter Tryd.func32, Tryd.ntmps32
  go_wp2_with (first | (refine wpList_build rfl 75 [(0, Operand.tmp 1)] rfl [(0, .agg #[.int .u32 1779033703, .int .u32 3144134277, .int .u32 1013904242, .int .u32 2773480762, .int .u32 1359893119, .int .u32 2600822924, .int .u32 528734635, .int .u32 1541459225])] rfl (.agg newRow256) (build45 _) ?_))
  go_ret
  exact ⟨rfl, rfl⟩

theorem new_has (w : World) : Has (w.alloc (.cells newRow256 75)) w.heap.size [] := ⟨ini, List.replicate 64 0, inv_new _ (by simp), top_row w _⟩

theorem add_nil (s : ByteArray) (w : World) : Calls Tryd.prog 33 #[.pointer none, .string s] w fun e w' => e = .returned (.bool false) ∧ w' = w := by
  go_enter Tryd.func33, Tryd.ntmps33
  go_wp2
  go_ret
  exact ⟨rfl, rfl⟩

def zb32 : Array Value := ((List.replicate 32 0).map cb).toArray
def z256 : Array Value := ((List.replicate 8 0).map cw ++ ((List.replicate 64 0).map cb ++ [Value.int .i64 0])).toArray
theorem zero25 : (Tryd.prog.info? 51).map (·.zero) = some (some (.agg zb32)) := by kernel_rfl
theorem zero45 : (Tryd.prog.info? 75).map (·.zero) = some (some (.agg z256)) := by kernel_rfl
theorem size25 : (Tryd.prog.info? 51).map (·.size) = some 32 := by kernel_rfl
theorem size45 : (Tryd.prog.info? 75).map (·.size) = some 73 := by kernel_rfl
theorem one_obj (st : S8) (rest : List UInt8) (n : Nat) : ∀ v ∈ objL st rest n, v.oneCell' = true := by
  intro v hv
  unfold objL at hv
  rcases List.mem_append.1 hv with h | h
  · exact one_cw _ v h
  · rcases List.mem_append.1 h with h | h
    · exact one_cb _ v h
    · simp at h; subst h; rfl

def digTo (s : S8) (k : Nat) : List UInt8 := digOf s k ++ List.replicate (32 - k) 0
theorem digTo_len (s : S8) (k : Nat) (h : k ≤ 32) : (digTo s k).length = 32 := by unfold digTo; rw [List.length_append, digOf_len, List.length_replicate]; omega
theorem digTo_step (s : S8) (k : Nat) (h : k < 32) : (digTo s k).set k (wbyte (s.list.getD (k / 4) 0) (k % 4)) = digTo s (k + 1) := by
  unfold digTo
  have e : List.replicate (32 - k) (0 : UInt8) = 0 :: List.replicate (32 - (k + 1)) 0 := by rw [← List.replicate_succ]; congr 1; omega
  have hl := digOf_len s k
  rw [e]
  conv => lhs; arg 2; rw [← hl]
  rw [set_mid, digOf]
  simp
theorem digTo_end (s : S8) : digTo s 32 = dig s := by simp [digTo, dig]
theorem cb_set (l : List UInt8) (C : Array Value) (h : C = (l.map cb).toArray) (i : Nat) (x : UInt8) : C.setIfInBounds i (.int .u8 (bv x)) = ((l.set i x).map cb).toArray := by
  subst h
  simp [cb, List.map_set]
theorem wbyte_bv (x : W32) (j : Nat) : wv x / 2 ^ (8 * (3 - j)) % 256 = bv (wbyte x j) := by
  unfold wbyte wv
  rw [bv_ofNat]
  simp

theorem build25 (w : World) : (Instr.build 51 #[]).run Tryd.prog w = .ok (.agg zb32) w := by kernel_rfl

end Go.Proofs.YtfkfjopjnfeahaaDoor
