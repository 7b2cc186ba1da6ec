/-
  Single operations of a region that draws its order: texts that are joined, lists of numbers, arguments of calls; fields' places.
-/
import Derived.Test.YtidlgecognedlaaGreatDoorGea
import Derived.Test.YtidlgecognedlaaGreatDoorJow
import Derived.Test.YtidlgecognedlaaGreatDoorJnb
import Derived.Laws.Concat
import Derived.Test.YtidlgecognedlaaGreatDoorJrz
import Derived.Test.YtidlgecognedlaaGreatDoorJlw
import Derived.Lib.ItoaNum
import Derived.Lib.SmallJoins
import Derived.Test.YtidlgecognedlaaGreatDoorLnum
namespace Go.Proofs.YtidlgecognedlaaGreatDoor.Ms
open Go Go.RowKit
set_option maxRecDepth 100000

theorem args1 {x c : Value} (h : x = c) : [x].toArray = #[c] := by rw [h]
theorem args2 {x c y d : Value} (h : x = c) (k : y = d) : [x, y].toArray = #[c, d] := by rw [h, k]
theorem args3 {x c y d z e : Value} (h : x = c) (k : y = d) (l : z = e) : [x, y, z].toArray = #[c, d, e] := by rw [h, k, l]
theorem args4 {x c y d z e u f : Value} (h : x = c) (k : y = d) (l : z = e) (m : u = f) : [x, y, z, u].toArray = #[c, d, e, f] := by rw [h, k, l, m]
/-- A list of numbers, whatever comes behind. -/
def vI (ks : List Int) : Value → World → Prop := fun v w => IntsAt w v ks
theorem mono_vI (ks : List Int) : Mono (vI ks) := fun _ _ _ h hb => h.kept hb
theorem ints_of (w : World) (ks : List Int) (k : Nat) (hk : ks.length = k) : IntsAt (w.alloc (.cells (ks.map nu).toArray 3)) (.slice (some ⟨w.heap.size, 0, none⟩) k k) ks := by
  subst hk
  refine ⟨_, _, rfl, fun _ => ⟨w.heap.size, 0, rfl, fun j hj => ?_⟩⟩
  rw [cell_of_row _ _ _ _ _ _ (top_obj w _), Nat.zero_add, List.getElem?_toArray]
  simp [List.getD, hj]
section
variable {P : Program} {w : World} {o : Oper} {a : Act} {Q : Exit → Act → World → Prop} {K : Act → World → Prop}
theorem op_addS (x y : Operand) (T R : TypeId) (s t : List UInt8) (ho : o.op = .binOp .add T x y R) (hx : a.eval x = st s) (hy : a.eval y = st t) (hl : s.length + t.length ≤ 9223372036854775807) (h : K (a.put o.dst (st (s ++ t))) w) : o.wp P a w K Q := by
  have e := run_string_add_sum (P := P) w ⟨s.toArray⟩ ⟨t.toArray⟩ (by show s.length + t.length ≤ _; exact hl)
  rw [str_app] at e
  unfold Oper.wp execOp
  simp [ho, hx, hy, eqGuard, binOp, e]
  exact h
theorem op_bs2 (t : TypeId) (y0 y1 : Tmp) (ho : o.op = .buildSlice t 2 #[(0, .tmp y0), (1, .tmp y1)]) (ht : Tryz.prog.underlying t = some (.slice 3)) (bytes : Nat) (hinfo : (Tryz.prog.info? 3).map (fun i => (i.zero, i.size, i.bytes)) = some (some (nu 0), 1, bytes))
    (n0 n1 : Int) (h0 : a.tmps.getD y0 undef = nu n0) (h1 : a.tmps.getD y1 undef = nu n1)
    (h : K (a.put o.dst (.slice (some ⟨w.heap.size, 0, none⟩) 2 2)) (w.alloc (.cells ([n0, n1].map nu).toArray 3))) : o.wp Tryz.prog a w K Q := by
  obtain ⟨i, hi, hz0, hz1, hz2⟩ := info_parts hinfo
  have hfill := Great.fill_whole (s := 1) (by decide) [nu n0, nu n1] ((Array.range (2 * 1)).map ((nu 0).cells[· % (nu 0).cells.size]!)) (by simp [Value.cells]) (by simp)
  have e1 : ([nu n0, nu n1].flatMap fun v => v.cells.toList).toArray = ([n0, n1].map nu).toArray := by simp [Value.cells]
  rw [e1] at hfill
  have ey0 : a.eval (.tmp y0) = nu n0 := h0
  have ey1 : a.eval (.tmp y1) = nu n1 := h1
  refine wp_buildSlice t 3 2 _ ho _ i (nu 0) ht hi hz0 (by rw [hz1]; omega) (by rw [hz1]; omega) (by rw [hz1]; simpa [ey0, ey1] using hfill) h
theorem op_bs3 (t : TypeId) (y0 y1 y2 : Tmp) (ho : o.op = .buildSlice t 3 #[(0, .tmp y0), (1, .tmp y1), (2, .tmp y2)]) (ht : Tryz.prog.underlying t = some (.slice 3)) (bytes : Nat) (hinfo : (Tryz.prog.info? 3).map (fun i => (i.zero, i.size, i.bytes)) = some (some (nu 0), 1, bytes))
    (n0 n1 n2 : Int) (h0 : a.tmps.getD y0 undef = nu n0) (h1 : a.tmps.getD y1 undef = nu n1) (h2 : a.tmps.getD y2 undef = nu n2)
    (h : K (a.put o.dst (.slice (some ⟨w.heap.size, 0, none⟩) 3 3)) (w.alloc (.cells ([n0, n1, n2].map nu).toArray 3))) : o.wp Tryz.prog a w K Q := by
  obtain ⟨i, hi, hz0, hz1, hz2⟩ := info_parts hinfo
  have hfill := Great.fill_whole (s := 1) (by decide) [nu n0, nu n1, nu n2] ((Array.range (3 * 1)).map ((nu 0).cells[· % (nu 0).cells.size]!)) (by simp [Value.cells]) (by simp)
  have e1 : ([nu n0, nu n1, nu n2].flatMap fun v => v.cells.toList).toArray = ([n0, n1, n2].map nu).toArray := by simp [Value.cells]
  rw [e1] at hfill
  have ey0 : a.eval (.tmp y0) = nu n0 := h0
  have ey1 : a.eval (.tmp y1) = nu n1 := h1
  have ey2 : a.eval (.tmp y2) = nu n2 := h2
  refine wp_buildSlice t 3 3 _ ho _ i (nu 0) ht hi hz0 (by rw [hz1]; omega) (by rw [hz1]; omega) (by rw [hz1]; simpa [ey0, ey1, ey2] using hfill) h
theorem op_bs4 (t : TypeId) (y0 y1 y2 y3 : Tmp) (ho : o.op = .buildSlice t 4 #[(0, .tmp y0), (1, .tmp y1), (2, .tmp y2), (3, .tmp y3)]) (ht : Tryz.prog.underlying t = some (.slice 3)) (bytes : Nat) (hinfo : (Tryz.prog.info? 3).map (fun i => (i.zero, i.size, i.bytes)) = some (some (nu 0), 1, bytes))
    (n0 n1 n2 n3 : Int) (h0 : a.tmps.getD y0 undef = nu n0) (h1 : a.tmps.getD y1 undef = nu n1) (h2 : a.tmps.getD y2 undef = nu n2) (h3 : a.tmps.getD y3 undef = nu n3)
    (h : K (a.put o.dst (.slice (some ⟨w.heap.size, 0, none⟩) 4 4)) (w.alloc (.cells ([n0, n1, n2, n3].map nu).toArray 3))) : o.wp Tryz.prog a w K Q := by
  obtain ⟨i, hi, hz0, hz1, hz2⟩ := info_parts hinfo
  have hfill := Great.fill_whole (s := 1) (by decide) [nu n0, nu n1, nu n2, nu n3] ((Array.range (4 * 1)).map ((nu 0).cells[· % (nu 0).cells.size]!)) (by simp [Value.cells]) (by simp)
  have e1 : ([nu n0, nu n1, nu n2, nu n3].flatMap fun v => v.cells.toList).toArray = ([n0, n1, n2, n3].map nu).toArray := by simp [Value.cells]
  rw [e1] at hfill
  have ey0 : a.eval (.tmp y0) = nu n0 := h0
  have ey1 : a.eval (.tmp y1) = nu n1 := h1
  have ey2 : a.eval (.tmp y2) = nu n2 := h2
  have ey3 : a.eval (.tmp y3) = nu n3 := h3
  refine wp_buildSlice t 3 4 _ ho _ i (nu 0) ht hi hz0 (by rw [hz1]; omega) (by rw [hz1]; omega) (by rw [hz1]; simpa [ey0, ey1, ey2, ey3] using hfill) h
end
/-- What the slots hold: those of S something of its own, the others one value each. -/
def vG (S : List Nat) (sp : Nat → Value → World → Prop) (cs : List Value) (i : Nat) (v : Value) (w : World) : Prop := if i ∈ S then sp i v w else v = cs.getD i undef
section
variable {S : List Nat} {sp : Nat → Value → World → Prop} {cs : List Value} {i : Nat} {v : Value} {w : World}
theorem vG_c (h : vG S sp cs i v w) (hi : i ∉ S) : v = cs.getD i undef := by
  unfold vG at h
  rwa [if_neg hi] at h
theorem vG_s (h : vG S sp cs i v w) (hi : i ∈ S) : sp i v w := by
  unfold vG at h
  rwa [if_pos hi] at h
theorem mkC (hi : i ∉ S) (h : v = cs.getD i undef) : vG S sp cs i v w := by
  unfold vG
  rwa [if_neg hi]
theorem mkS (hi : i ∈ S) (h : sp i v w) : vG S sp cs i v w := by
  unfold vG
  rwa [if_pos hi]
theorem vG_mono (hsp : ∀ i v w w', sp i v w → Below w.heap.size w w' → sp i v w') : ∀ i v w w', vG S sp cs i v w → Below w.heap.size w w' → vG S sp cs i v w' := by
  intro i v w w' h hb
  unfold vG at h ⊢
  by_cases hi : i ∈ S
  · rw [if_pos hi] at h ⊢
    exact hsp i v w w' h hb
  · rw [if_neg hi] at h ⊢
    exact h
end
/-- The frame behind a region, slot by slot. -/
theorem frame_lit {ops : Array Oper} {a a0 : Act} {N n : Nat} {d0 : Tmp} {c0 : Value} (S : List Nat) (cs : List Value) (hs : a.tmps.size = N) (hn : n + 1 = ops.size) (hk : ∀ t, keepOk ops n t = true → a.tmps.getD t undef = a0.tmps.getD t undef)
    (hv : ∀ i d, i < n → i ∉ S → dstOf ops i = some d → a.tmps.getD d undef = cs.getD i undef) :
    (a.put (some d0) c0).tmps = ((List.range N).map fun t => if t = d0 then c0 else match (List.range n).find? (fun i => dstOf ops i == some t) with
      | some i => if i ∈ S then a.tmps.getD t undef else cs.getD i undef
      | none => a0.tmps.getD t undef).toArray := by
  apply Array.ext
  · simp [Act.put, hs]
  · intro t h1 h2
    have ht : t < N := by simpa using h2
    have e1 : (a.put (some d0) c0).tmps[t] = (a.put (some d0) c0).tmps.getD t undef := by simp [h1]
    rw [e1, List.getElem_toArray, List.getElem_map, List.getElem_range]
    by_cases hd : t = d0
    · subst hd
      rw [if_pos rfl, put_eq _ _ _ (by rw [hs]; exact ht)]
    · rw [if_neg hd, put_ne _ _ _ _ (Ne.symm hd)]
      cases hf : (List.range n).find? (fun i => dstOf ops i == some t) with
      | some i =>
        have h3 := List.find?_some hf
        have h4 := List.mem_range.1 (List.mem_of_find?_eq_some hf)
        simp only
        by_cases hi : i ∈ S
        · rw [if_pos hi]
        · rw [if_neg hi]
          exact hv i t h4 hi (by simpa using h3)
      | none =>
        simp only
        refine hk t ?_
        unfold keepOk
        rw [List.all_eq_true]
        intro j hj
        have hj' := List.mem_range.1 hj
        cases ho : ops[j]? with
        | none => rfl
        | some oj =>
          simp only
          by_cases hjn : j = n
          · subst hjn
            simp
          · have h5 := List.find?_eq_none.1 hf j (List.mem_range.2 (by omega))
            have h6 : dstOf ops j = oj.dst := by unfold dstOf; rw [ho]; rfl
            rw [h6] at h5
            simp only [Bool.or_eq_true]
            left
            simpa using h5
theorem info3 : (Tryz.prog.info? 3).map (fun i => (i.zero, i.size, i.bytes)) = some (some (nu 0), 1, 8) := by kernel_rfl
theorem fq25_0 (g off : Nat) (w : World) : (Instr.fieldAt 25 (.pointer (some ⟨g, off, none⟩)) 0).run Tryz.prog w = .ok (.pointer (some ⟨g, off + 0, none⟩)) w := by kernel_rfl
theorem fq25_1 (g off : Nat) (w : World) : (Instr.fieldAt 25 (.pointer (some ⟨g, off, none⟩)) 1).run Tryz.prog w = .ok (.pointer (some ⟨g, off + 1, none⟩)) w := by kernel_rfl
theorem fq25_2 (g off : Nat) (w : World) : (Instr.fieldAt 25 (.pointer (some ⟨g, off, none⟩)) 2).run Tryz.prog w = .ok (.pointer (some ⟨g, off + 2, none⟩)) w := by kernel_rfl
theorem fq25_3 (g off : Nat) (w : World) : (Instr.fieldAt 25 (.pointer (some ⟨g, off, none⟩)) 3).run Tryz.prog w = .ok (.pointer (some ⟨g, off + 3, none⟩)) w := by kernel_rfl
theorem fq25_4 (g off : Nat) (w : World) : (Instr.fieldAt 25 (.pointer (some ⟨g, off, none⟩)) 4).run Tryz.prog w = .ok (.pointer (some ⟨g, off + 4, none⟩)) w := by kernel_rfl
theorem fq25_5 (g off : Nat) (w : World) : (Instr.fieldAt 25 (.pointer (some ⟨g, off, none⟩)) 5).run Tryz.prog w = .ok (.pointer (some ⟨g, off + 36, none⟩)) w := by kernel_rfl
theorem fq28_0 (g off : Nat) (w : World) : (Instr.fieldAt 28 (.pointer (some ⟨g, off, none⟩)) 0).run Tryz.prog w = .ok (.pointer (some ⟨g, off + 0, none⟩)) w := by kernel_rfl
theorem fq28_1 (g off : Nat) (w : World) : (Instr.fieldAt 28 (.pointer (some ⟨g, off, none⟩)) 1).run Tryz.prog w = .ok (.pointer (some ⟨g, off + 1, none⟩)) w := by kernel_rfl
theorem fq28_2 (g off : Nat) (w : World) : (Instr.fieldAt 28 (.pointer (some ⟨g, off, none⟩)) 2).run Tryz.prog w = .ok (.pointer (some ⟨g, off + 2, none⟩)) w := by kernel_rfl
theorem fq28_3 (g off : Nat) (w : World) : (Instr.fieldAt 28 (.pointer (some ⟨g, off, none⟩)) 3).run Tryz.prog w = .ok (.pointer (some ⟨g, off + 3, none⟩)) w := by kernel_rfl
theorem fq28_4 (g off : Nat) (w : World) : (Instr.fieldAt 28 (.pointer (some ⟨g, off, none⟩)) 4).run Tryz.prog w = .ok (.pointer (some ⟨g, off + 35, none⟩)) w := by kernel_rfl
theorem fq28_5 (g off : Nat) (w : World) : (Instr.fieldAt 28 (.pointer (some ⟨g, off, none⟩)) 5).run Tryz.prog w = .ok (.pointer (some ⟨g, off + 36, none⟩)) w := by kernel_rfl
theorem fq28_6 (g off : Nat) (w : World) : (Instr.fieldAt 28 (.pointer (some ⟨g, off, none⟩)) 6).run Tryz.prog w = .ok (.pointer (some ⟨g, off + 37, none⟩)) w := by kernel_rfl
theorem fq28_7 (g off : Nat) (w : World) : (Instr.fieldAt 28 (.pointer (some ⟨g, off, none⟩)) 7).run Tryz.prog w = .ok (.pointer (some ⟨g, off + 38, none⟩)) w := by kernel_rfl
theorem fq28_8 (g off : Nat) (w : World) : (Instr.fieldAt 28 (.pointer (some ⟨g, off, none⟩)) 8).run Tryz.prog w = .ok (.pointer (some ⟨g, off + 70, none⟩)) w := by kernel_rfl
theorem fq28_9 (g off : Nat) (w : World) : (Instr.fieldAt 28 (.pointer (some ⟨g, off, none⟩)) 9).run Tryz.prog w = .ok (.pointer (some ⟨g, off + 71, none⟩)) w := by kernel_rfl
theorem fq30_0 (g off : Nat) (w : World) : (Instr.fieldAt 30 (.pointer (some ⟨g, off, none⟩)) 0).run Tryz.prog w = .ok (.pointer (some ⟨g, off + 0, none⟩)) w := by kernel_rfl
theorem fq30_1 (g off : Nat) (w : World) : (Instr.fieldAt 30 (.pointer (some ⟨g, off, none⟩)) 1).run Tryz.prog w = .ok (.pointer (some ⟨g, off + 1, none⟩)) w := by kernel_rfl
theorem fq30_2 (g off : Nat) (w : World) : (Instr.fieldAt 30 (.pointer (some ⟨g, off, none⟩)) 2).run Tryz.prog w = .ok (.pointer (some ⟨g, off + 2, none⟩)) w := by kernel_rfl
theorem fq30_3 (g off : Nat) (w : World) : (Instr.fieldAt 30 (.pointer (some ⟨g, off, none⟩)) 3).run Tryz.prog w = .ok (.pointer (some ⟨g, off + 3, none⟩)) w := by kernel_rfl
theorem fq33_0 (g off : Nat) (w : World) : (Instr.fieldAt 33 (.pointer (some ⟨g, off, none⟩)) 0).run Tryz.prog w = .ok (.pointer (some ⟨g, off + 0, none⟩)) w := by kernel_rfl
theorem fq33_1 (g off : Nat) (w : World) : (Instr.fieldAt 33 (.pointer (some ⟨g, off, none⟩)) 1).run Tryz.prog w = .ok (.pointer (some ⟨g, off + 1, none⟩)) w := by kernel_rfl
theorem fq33_2 (g off : Nat) (w : World) : (Instr.fieldAt 33 (.pointer (some ⟨g, off, none⟩)) 2).run Tryz.prog w = .ok (.pointer (some ⟨g, off + 2, none⟩)) w := by kernel_rfl
theorem fq33_3 (g off : Nat) (w : World) : (Instr.fieldAt 33 (.pointer (some ⟨g, off, none⟩)) 3).run Tryz.prog w = .ok (.pointer (some ⟨g, off + 70, none⟩)) w := by kernel_rfl
theorem fq33_4 (g off : Nat) (w : World) : (Instr.fieldAt 33 (.pointer (some ⟨g, off, none⟩)) 4).run Tryz.prog w = .ok (.pointer (some ⟨g, off + 173, none⟩)) w := by kernel_rfl
theorem fq33_5 (g off : Nat) (w : World) : (Instr.fieldAt 33 (.pointer (some ⟨g, off, none⟩)) 5).run Tryz.prog w = .ok (.pointer (some ⟨g, off + 174, none⟩)) w := by kernel_rfl
theorem fq33_6 (g off : Nat) (w : World) : (Instr.fieldAt 33 (.pointer (some ⟨g, off, none⟩)) 6).run Tryz.prog w = .ok (.pointer (some ⟨g, off + 175, none⟩)) w := by kernel_rfl
theorem fq33_7 (g off : Nat) (w : World) : (Instr.fieldAt 33 (.pointer (some ⟨g, off, none⟩)) 7).run Tryz.prog w = .ok (.pointer (some ⟨g, off + 207, none⟩)) w := by kernel_rfl
theorem fq33_8 (g off : Nat) (w : World) : (Instr.fieldAt 33 (.pointer (some ⟨g, off, none⟩)) 8).run Tryz.prog w = .ok (.pointer (some ⟨g, off + 239, none⟩)) w := by kernel_rfl
theorem fq33_9 (g off : Nat) (w : World) : (Instr.fieldAt 33 (.pointer (some ⟨g, off, none⟩)) 9).run Tryz.prog w = .ok (.pointer (some ⟨g, off + 274, none⟩)) w := by kernel_rfl
theorem fq113_0 (g off : Nat) (w : World) : (Instr.fieldAt 113 (.pointer (some ⟨g, off, none⟩)) 0).run Tryz.prog w = .ok (.pointer (some ⟨g, off + 0, none⟩)) w := by kernel_rfl
theorem fq113_1 (g off : Nat) (w : World) : (Instr.fieldAt 113 (.pointer (some ⟨g, off, none⟩)) 1).run Tryz.prog w = .ok (.pointer (some ⟨g, off + 1, none⟩)) w := by kernel_rfl
theorem fq113_2 (g off : Nat) (w : World) : (Instr.fieldAt 113 (.pointer (some ⟨g, off, none⟩)) 2).run Tryz.prog w = .ok (.pointer (some ⟨g, off + 2, none⟩)) w := by kernel_rfl
theorem fq113_3 (g off : Nat) (w : World) : (Instr.fieldAt 113 (.pointer (some ⟨g, off, none⟩)) 3).run Tryz.prog w = .ok (.pointer (some ⟨g, off + 3, none⟩)) w := by kernel_rfl
theorem fq113_4 (g off : Nat) (w : World) : (Instr.fieldAt 113 (.pointer (some ⟨g, off, none⟩)) 4).run Tryz.prog w = .ok (.pointer (some ⟨g, off + 4, none⟩)) w := by kernel_rfl
theorem fq113_5 (g off : Nat) (w : World) : (Instr.fieldAt 113 (.pointer (some ⟨g, off, none⟩)) 5).run Tryz.prog w = .ok (.pointer (some ⟨g, off + 36, none⟩)) w := by kernel_rfl
theorem fq70_0 (g off : Nat) (w : World) : (Instr.fieldAt 70 (.pointer (some ⟨g, off, none⟩)) 0).run Tryz.prog w = .ok (.pointer (some ⟨g, off + 0, none⟩)) w := by kernel_rfl
theorem fq70_1 (g off : Nat) (w : World) : (Instr.fieldAt 70 (.pointer (some ⟨g, off, none⟩)) 1).run Tryz.prog w = .ok (.pointer (some ⟨g, off + 1, none⟩)) w := by kernel_rfl
theorem fq70_2 (g off : Nat) (w : World) : (Instr.fieldAt 70 (.pointer (some ⟨g, off, none⟩)) 2).run Tryz.prog w = .ok (.pointer (some ⟨g, off + 2, none⟩)) w := by kernel_rfl
theorem fq70_3 (g off : Nat) (w : World) : (Instr.fieldAt 70 (.pointer (some ⟨g, off, none⟩)) 3).run Tryz.prog w = .ok (.pointer (some ⟨g, off + 3, none⟩)) w := by kernel_rfl
theorem fq70_4 (g off : Nat) (w : World) : (Instr.fieldAt 70 (.pointer (some ⟨g, off, none⟩)) 4).run Tryz.prog w = .ok (.pointer (some ⟨g, off + 4, none⟩)) w := by kernel_rfl
theorem fq70_5 (g off : Nat) (w : World) : (Instr.fieldAt 70 (.pointer (some ⟨g, off, none⟩)) 5).run Tryz.prog w = .ok (.pointer (some ⟨g, off + 5, none⟩)) w := by kernel_rfl
theorem fq70_6 (g off : Nat) (w : World) : (Instr.fieldAt 70 (.pointer (some ⟨g, off, none⟩)) 6).run Tryz.prog w = .ok (.pointer (some ⟨g, off + 6, none⟩)) w := by kernel_rfl
theorem fq70_7 (g off : Nat) (w : World) : (Instr.fieldAt 70 (.pointer (some ⟨g, off, none⟩)) 7).run Tryz.prog w = .ok (.pointer (some ⟨g, off + 38, none⟩)) w := by kernel_rfl
theorem fq48_0 (g off : Nat) (w : World) : (Instr.fieldAt 48 (.pointer (some ⟨g, off, none⟩)) 0).run Tryz.prog w = .ok (.pointer (some ⟨g, off + 0, none⟩)) w := by kernel_rfl
theorem fq48_1 (g off : Nat) (w : World) : (Instr.fieldAt 48 (.pointer (some ⟨g, off, none⟩)) 1).run Tryz.prog w = .ok (.pointer (some ⟨g, off + 1, none⟩)) w := by kernel_rfl
theorem fq48_2 (g off : Nat) (w : World) : (Instr.fieldAt 48 (.pointer (some ⟨g, off, none⟩)) 2).run Tryz.prog w = .ok (.pointer (some ⟨g, off + 2, none⟩)) w := by kernel_rfl
theorem fq48_3 (g off : Nat) (w : World) : (Instr.fieldAt 48 (.pointer (some ⟨g, off, none⟩)) 3).run Tryz.prog w = .ok (.pointer (some ⟨g, off + 70, none⟩)) w := by kernel_rfl
theorem fq48_4 (g off : Nat) (w : World) : (Instr.fieldAt 48 (.pointer (some ⟨g, off, none⟩)) 4).run Tryz.prog w = .ok (.pointer (some ⟨g, off + 71, none⟩)) w := by kernel_rfl
theorem cq_Ints (args : Array Value) (w : World) : (callFunc 53 args).run Tryz.prog w = .ok (.enter 53 args) w := by kernel_rfl
theorem cq_Text (args : Array Value) (w : World) : (callFunc 54 args).run Tryz.prog w = .ok (.enter 54 args) w := by kernel_rfl
theorem cq_Dig (args : Array Value) (w : World) : (callFunc 55 args).run Tryz.prog w = .ok (.enter 55 args) w := by kernel_rfl
theorem cq_Number (args : Array Value) (w : World) : (callFunc 57 args).run Tryz.prog w = .ok (.enter 57 args) w := by kernel_rfl
theorem cq_answer (args : Array Value) (w : World) : (callFunc 56 args).run Tryz.prog w = .ok (.enter 56 args) w := by kernel_rfl
end Go.Proofs.YtidlgecognedlaaGreatDoor.Ms

/-
  A message's bytes as the reference has them: in plain words. No program plays a part.
-/
namespace Go.Proofs.YtidlgecognedlaaGreatDoor.Ms
open Go
set_option maxRecDepth 100000

def ansBq (x : Rep) : List UInt8 := (((intsB [x.number, x.last] ++ txtB x.view) ++ txtB x.commit) ++ numB (x.pend.length : Int)) ++ (x.pend.map layPen).flatten
def ansT (x : Rep) : List UInt8 := ((((ansBq x ++ numB x.vnum) ++ txtB x.value) ++ txtB x.data) ++ txtB x.seen) ++ txtB x.stag
def headB (m : Msg) : List UInt8 := intsB [m.kind, m.client]
/-- The reference's bytes of a message that may be. -/
def layR (m : Msg) : List UInt8 :=
  if m.kind = 1 then (((headB m ++ intsB [m.sub.number, m.sub.kind, m.sub.target]) ++ txtB m.sub.value) ++ txtB m.sub.asked) ++ txtB m.sub.data
  else if m.kind = 2 then [50, 59] ++ ansT m.rep
  else if m.kind = 3 then (headB m ++ txtB m.view) ++ txtB m.tag
  else if m.kind = 4 ∨ m.kind = 6 then ((numB m.kind ++ intsB [m.blob.owner, m.blob.number]) ++ txtB m.blob.cipher) ++ txtB m.blob.tag
  else if m.kind = 5 ∨ m.kind = 7 ∨ m.kind = 8 then ((headB m ++ [40]) ++ intsB m.nums) ++ [41]
  else if m.kind = 10 then (((headB m ++ numB m.who) ++ txtB m.view) ++ txtB m.tag) ++ txtB m.own
  else if m.kind = 11 then headB m ++ txtB m.own
  else headB m
theorem dec_one (d : Nat) (h : d < 10) : Lib.decDigits d = [UInt8.ofNat (48 + d)] := by rw [Lib.decDigits, dif_pos h]
theorem numB_two : numB 2 = [50, 59] := by
  unfold numB Lib.itoa
  rw [if_neg (by decide)]
  have e : (2 : Int).toNat = 2 := rfl
  rw [e, dec_one 2 (by decide)]
  rfl
theorem layT_short {s : List UInt8} (h : s.length ≤ 16384) : layT s = txtB s := by unfold layT; rw [if_neg (by omega)]
theorem layNs_short {l : List Int} (h : l.length ≤ 512) : layNs l = 40 :: (intsB l ++ [41]) := by unfold layNs; rw [if_neg (by omega)]
theorem lay_put {m : Msg} (hw : m.Wf) (h : mayB m = true) : layR m = putM m := by
  obtain ⟨hk, hf⟩ := may_fits hw h
  have ht : ∀ f ∈ fieldsM m.kind, okVal (f.get m) := fun f hm => (hf f hm).2
  unfold putM layR headB
  rcases fields_cases m.kind with ⟨k, e⟩ | ⟨k, e⟩ | ⟨k, e⟩ | ⟨k, e⟩ | ⟨k, e⟩ | ⟨k, e⟩ | ⟨k, e⟩ | ⟨k, e⟩ | ⟨k, e⟩ <;> rw [e] at ht ⊢
  · rw [if_pos k]
    have t1 : m.sub.value.length ≤ 16384 := ht fSValue (by simp [subFs])
    simp [subFs, putAll, fClient, fSNumber, fSKind, fSTarget, fSValue, fSAsked, fSData, layVal, layBase, layT_short t1, intsB]
  · rw [if_neg (by omega), if_pos k, k, numB_two]
    have t1 : m.rep.view.length ≤ 16384 := ht fRView (by simp [repFs])
    have t2 : m.rep.value.length ≤ 16384 := ht fRValue (by simp [repFs])
    have t3 : m.rep.seen.length ≤ 16384 := ht fRSeen (by simp [repFs])
    simp [repFs, putAll, fRNumber, fRLast, fRView, fRCommit, fRPend, fRVnum, fRValue, fRData, fRSeen, fRTag, layVal, layBase, layT_short t1, layT_short t2, layT_short t3, intsB, ansT, ansBq]
  · rw [if_neg (by omega), if_neg (by omega), if_pos k]
    have t1 : m.view.length ≤ 16384 := ht fView (by simp [comFs])
    simp [comFs, putAll, fClient, fView, fTag, layVal, layBase, layT_short t1, intsB]
  · rw [if_neg (by omega), if_neg (by omega), if_neg (by omega), if_pos k]
    have t1 : m.blob.cipher.length ≤ 16384 := ht fBCipher (by simp [bloFs])
    simp [bloFs, putAll, fBOwner, fBNumber, fBCipher, fBTag, layVal, layBase, layT_short t1, intsB]
  · rw [if_neg (by omega), if_neg (by omega), if_neg (by omega), if_neg (by omega), if_pos k]
    have t1 : m.nums.length ≤ 512 := (ht fNums (by simp [lstFs])).1
    simp [lstFs, putAll, fClient, fNums, layVal, layBase, layNs_short t1, intsB]
  · rw [if_neg (by omega), if_neg (by omega), if_neg (by omega), if_neg (by omega), if_neg (by omega), if_neg (by omega), if_neg (by omega)]
    simp [proFs, putAll, fClient, layVal, layBase, intsB]
  · rw [if_neg (by omega), if_neg (by omega), if_neg (by omega), if_neg (by omega), if_neg (by omega), if_pos k]
    have t1 : m.view.length ≤ 16384 := ht fView (by simp [verFs])
    simp [verFs, putAll, fClient, fBy, fView, fTag, fOwn, layVal, layBase, layT_short t1, intsB]
  · rw [if_neg (by omega), if_neg (by omega), if_neg (by omega), if_neg (by omega), if_neg (by omega), if_neg (by omega), if_pos k]
    simp [alaFs, putAll, fClient, fOwn, layVal, layBase, intsB]
  · omega
end Go.Proofs.YtidlgecognedlaaGreatDoor.Ms

/-
  What the reference lays of texts, digests and numbers (R10.Text, Dig, Ints, Numbered, Asked), given what R01.Digits, R01.Number and R02.Bytes answer.
-/
namespace Go.Proofs.YtidlgecognedlaaGreatDoor.Ms
open Go Go.RowKit
set_option maxRecDepth 100000

/-- What R01.Digits, R01.Number and R02.Bytes answer. -/
def DigOk : Prop := ∀ (u : Nat), u ≤ 9223372036854775807 → ∀ (w : World), Calls Tryz.prog 100 #[.int .i64 u] w fun e w' => e = .returned (.string ⟨(Lib.decDigits u).toArray⟩) ∧ Below w.heap.size w w'
def NumOk : Prop := ∀ (n : Int), -9223372036854775808 ≤ n → n ≤ 9223372036854775807 → ∀ (w : World), Calls Tryz.prog 57 #[.int .i64 n] w fun e w' => e = .returned (.string ⟨(Lib.itoa n ++ [59]).toArray⟩) ∧ Below w.heap.size w w'
def BytOk : Prop := ∀ (l : List UInt8), l.length = 32 → ∀ (w : World), Calls Tryz.prog 51 #[.agg (dg l).toArray] w fun e w' => e = .returned (.string ⟨l.toArray⟩) ∧ Below w.heap.size w w'

set_option maxHeartbeats 2000000 in
theorem rtext_any (hD : DigOk) (s : List UInt8) (hs : s.length ≤ 1000000000) (w : World) : Calls Tryz.prog 54 #[.string ⟨s.toArray⟩] w fun e w' => e = .returned (.string ⟨(txtB s).toArray⟩) ∧ Below w.heap.size w w' := by
  have HD := hid (hD s.length (by omega) w)
  have hl := dec_len s.length (by omega)
  have hss : (⟨s.toArray⟩ : ByteArray).size = s.length := rfl
  unfold txtB
  generalize Lib.decDigits s.length = d at *
  have e1 := str_app d [58]
  have e2 := str_app (d ++ [58]) s
  have hds : (⟨d.toArray⟩ : ByteArray).size = d.length := rfl
  have hds2 : (⟨(d ++ [58]).toArray⟩ : ByteArray).size = d.length + 1 := by show (d ++ [58]).length = _; simp
  clear hD
  go_enter Tryz.func54, Tryz.ntmps54
  go_wp2_with fail
  refine HD.out.mono ?_
  rintro e w1 ⟨rfl, hb⟩
  have HB := hid hb
  clear hb
  go_wp2
  go_ret
  exact ⟨(by show Ending.returned (Value.string ⟨(d ++ 58 :: s).toArray⟩) = _; simp), HB.out⟩

set_option maxHeartbeats 2000000 in
theorem rdig_any (hD : DigOk) (hY : BytOk) (d : List UInt8) (hd : d.length = 32) (w : World) : Calls Tryz.prog 55 #[.agg (dg d).toArray] w fun e w' => e = .returned (.string ⟨(txtB d).toArray⟩) ∧ Below w.heap.size w w' := by
  have HB0 := hid (below_a1 w (.cells (dg d).toArray 23))
  have r0 := top_obj w (.cells (dg d).toArray 23)
  have S0 := hid (row_seg (off := 0) (A := []) (cs := dg d) (C := []) r0 (by simp) rfl)
  have Z0 : (Tryz.prog.info? 23).map (·.size) = some (dg d).length := by rw [dg_len, hd]; exact sizeDig
  have HY := hid (fun W => hY d hd W)
  have HT := hid (fun W => rtext_any hD d (by omega) W)
  generalize txtB d = t at *
  generalize dg d = D at *
  clear hD hY hd r0
  go_enter Tryz.func55, Tryz.ntmps55
  go_upto_region 1 with fail
  generalize w.alloc (.cells D.toArray 23) = W0 at *
  go_wp2_with (first | ((with_reducible refine wl_load 23 (.tmp 1) ?_ w.heap.size 0 ?_ ?_ D _ S0.out Tryz.underlying23 ?_ Z0 ?_); exact rfl; exact rfl; exact rfl; exact rfl))
  refine (HY.out _).mono ?_
  rintro e w1 ⟨rfl, hb⟩
  have HB1 := hid (below_two HB0.out hb)
  clear hb
  go_wp2_with fail
  refine (HT.out _).mono ?_
  rintro e w2 ⟨rfl, hb⟩
  have HB2 := hid (below_two HB1.out hb)
  clear hb
  go_wp2
  go_ret
  exact ⟨rfl, HB2.out⟩

set_option maxHeartbeats 2000000 in
theorem rnints_any (hN : NumOk) {w : World} {v : Value} {ks : List Int} (hv : IntsAt w v ks) (hk : ∀ n ∈ ks, I64 n) (hl : ks.length ≤ 1000000) : Calls Tryz.prog 53 #[v] w fun e w' => e = .returned (.string ⟨(intsB ks).toArray⟩) ∧ Below w.heap.size w w' := by
  have HV := hid hv
  obtain ⟨a, cap, rfl, -⟩ := hv
  have HN := hid hN
  have HK := hid hk
  have HB0 := hid (Below.refl w.heap.size w)
  clear hk hN
  go_enter Tryz.func53, Tryz.ntmps53
  go_wp2
  go_loopw [3, 4] (fun o i w' => ∃ j : Nat, j ≤ ks.length ∧ i = .int .i64 j ∧ o = .string ⟨(intsB (ks.take j)).toArray⟩ ∧ Hid (Below w.heap.size w w')) (fun _ i _ => ks.length - (intOf i).toNat)
  case atStart => exact ⟨0, by omega, rfl, rfl, HB0.out⟩
  case round =>
    obtain ⟨j, hj, rfl, rfl, HB⟩ := hrel
    by_cases hlt : j < ks.length
    · have d1 : decide ((j : Int) < (ks.length : Int)) = true := decide_eq_true (by omega)
      have d1' : decide (j < ks.length) = true := decide_eq_true hlt
      obtain ⟨a', c', e', hc⟩ := HV.out.kept HB.out
      cases e'
      obtain ⟨b, off, rfl, hcc⟩ := hc (fun e => by rw [e] at hlt; exact absurd hlt (Nat.not_lt_zero j))
      have cj : wr.cell? ⟨b, off + j, none⟩ = some (.int .i64 (ks.getD j 0)) := hcc j hlt
      have hmem : ks.getD j 0 ∈ ks := by simp [List.getD, hlt]
      have h64 := HK.out _ hmem
      have HNj := hid (fun W => HN.out (ks.getD j 0) h64.1 h64.2 W)
      have hn22 := numB_len _ h64
      have hol := intsB_len (ks.take j) (fun n hn => HK.out n (List.mem_of_mem_take hn))
      rw [List.length_take] at hol
      have HS := hid (intsB_snoc ks j hlt)
      have happ := str_app (intsB (ks.take j)) (numB (ks.getD j 0))
      have hnb : Lib.itoa (ks.getD j 0) ++ [59] = numB (ks.getD j 0) := rfl
      rw [hnb] at HNj
      generalize numB (ks.getD j 0) = nb at *
      generalize ks.getD j 0 = x at *
      generalize intsB (ks.take j) = o at *
      have hs1 : (⟨nb.toArray⟩ : ByteArray).size = nb.length := rfl
      have hs2 : (⟨o.toArray⟩ : ByteArray).size = o.length := rfl
      have ho2 : o.length ≤ 22000000 := by omega
      clear hc hcc hmem h64 HK HN hnb hol
      go_wp2_with fail
      refine (HNj.out _).mono ?_
      rintro e w1 ⟨rfl, hb⟩
      have HB1 := hid (below_two HB.out hb)
      clear hb
      go_wp2
      exact ⟨⟨j + 1, by omega, by go_num, by rw [HS.out], HB1.out⟩, by simp [intOf]; omega⟩
    · obtain rfl : j = ks.length := by omega
      have HT : Hid (intsB (ks.take ks.length) = intsB ks) := by show _ = _; rw [List.take_length]
      clear HN HK
      go_wp2
      go_ret
      exact ⟨by rw [← HT.out]; rfl, HB.out⟩

/-- What is tagged of a number and a text: texts that are too long as if they were empty. -/
def numberedB (n : Int) (s : List UInt8) : List UInt8 := numB n ++ txtB (if 16384 < s.length then [] else s)
theorem ints_new (w : World) (ks : List Int) (k : Nat) (hk : ks.length = k) : IntsAt (w.alloc (.cells (ks.map nu).toArray 3)) (.slice (some ⟨w.heap.size, 0, none⟩) k k) ks := by
  subst hk
  refine ⟨_, _, rfl, fun _ => ⟨w.heap.size, 0, rfl, fun j hj => ?_⟩⟩
  rw [cell_of_row _ _ _ _ _ _ (top_obj w _), Nat.zero_add, List.getElem?_toArray]
  simp [List.getD, hj]
end Go.Proofs.YtidlgecognedlaaGreatDoor.Ms

/-
  What the reference's Number answers, for every int.
-/
namespace Go.Proofs.YtidlgecognedlaaGreatDoor.Lay
open Go.RowKit Go.Joins
set_option maxRecDepth 100000

set_option maxHeartbeats 400000 in
theorem refNumber_neg2 (u : Nat) (h0 : 10 ≤ u) (h1 : u ≤ 9223372036854775808) (w : World) :
    Calls Tryz.prog 57 #[.int .i64 (-(u : Int))] w fun e w' => e = .returned (.string ⟨(Lib.itoa (-(u : Int)) ++ [59]).toArray⟩) ∧ Below w.heap.size w w' := by
  have hi : Lib.itoa (-(u : Int)) = 45 :: (Lib.decDigits (u / 10) ++ Lib.decDigits (u % 10)) := by
    unfold Lib.itoa
    rw [if_pos (by omega), Int.natAbs_neg, Int.natAbs_natCast, Lib.decDigits, dif_neg (by omega), Lib.decDigits_one (Nat.mod_lt u (by decide))]
  rw [hi]
  have hl : (Lib.decDigits (u / 10)).length ≤ 20 := by rw [Lib.decDigits_length]; exact nDigits_le20 _ (by omega)
  have hl' : (Lib.decDigits (u % 10)).length ≤ 20 := by rw [Lib.decDigits_length]; exact nDigits_le20 _ (by omega)
  clear hi
  have hq : ((-(u : Int)).tdiv 10 == 0) = false := by rw [tdiv_neg, beq_eq_false_iff_ne]; omega
  have hn : -(u : Int) < 0 := by omega
  go_enter Tryz.func57, Tryz.ntmps57
  go_wp2_with fail
  refine (digits_int _ (u / 10) (by omega) (by omega) _).mono ?_
  rintro e w1 ⟨rfl, hb⟩
  go_wp2_with fail
  refine (digits_int _ (u % 10) (by omega) (by omega) _).mono ?_
  rintro e w2 ⟨rfl, hb2⟩
  go_wp2
  go_ret
  refine ⟨congrArg (fun s => Ending.returned (Value.string s)) ?_, below_two hb hb2⟩
  rw [bcat [45] (Lib.decDigits (u / 10)) _ rfl, bcat ([45] ++ Lib.decDigits (u / 10)) (Lib.decDigits (u % 10)) _ rfl, bcat ([45] ++ Lib.decDigits (u / 10) ++ Lib.decDigits (u % 10)) [59] _ rfl]
  simp

theorem refNumber_any (n : Int) (h0 : -9223372036854775808 ≤ n) (h1 : n ≤ 9223372036854775807) (w : World) :
    Calls Tryz.prog 57 #[.int .i64 n] w fun e w' => e = .returned (.string ⟨(Lib.itoa n ++ [59]).toArray⟩) ∧ Below w.heap.size w w' := by
  by_cases hn : 0 ≤ n
  · exact refNumber_pos n hn h1 w
  · obtain ⟨u, rfl⟩ : ∃ u : Nat, n = -(u : Int) := ⟨n.natAbs, by omega⟩
    by_cases h10 : u < 10
    · exact refNumber_neg1 u (by omega) h10 w
    · exact refNumber_neg2 u (by omega) (by omega) w
end Go.Proofs.YtidlgecognedlaaGreatDoor.Lay
