/-
  Lists of fields in memory, and what the operations that make them owe, in whatever order they come.
-/
import Derived.Test.YtidlgecognedlaaGreatDoorJmk
import Derived.Test.YtidlgecognedlaaGreatDoorJor
import Derived.Great.BuildSlice
namespace Go.Proofs.YtidlgecognedlaaGreatDoor.Ms
open Go Go.RowKit
set_option maxRecDepth 100000

/-- A value that is a field. -/
def IsF (k : Slot) (g o : Nat) (v : Value) (w : World) : Prop := ∃ b, v = .agg (fieldV k b).toArray ∧ FieldAt w k g o b
/-- A list of fields, at their places of the block g. -/
def FieldsAt (w : World) (v : Value) (g : Nat) (fs : List (Slot × Nat)) : Prop :=
  ∃ (a : Option Addr) (bs : List Bx), v = .slice a fs.length fs.length ∧ bs.length = fs.length ∧
    (fs ≠ [] → ∃ row, a = some ⟨row, 0, none⟩ ∧ w.heap[row]? = some (.cells ((fs.zip bs).map fun q => fieldV q.1.1 q.2).flatten.toArray 147)) ∧
    ∀ j, j < fs.length → FieldAt w (fs.getD j (.num, 0)).1 g (fs.getD j (.num, 0)).2 (bs.getD j ⟨0, 0, 0⟩)
/-- The fields' sorts and places, base ahead. -/
def spots {α : Type} (base : Nat) (fs : List (Fl α)) : List (Slot × Nat) := fs.map fun f => (f.slot, base + f.off)
theorem FieldsAt.stays {w w' : World} {v : Value} {g : Nat} {fs : List (Slot × Nat)} (h : FieldsAt w v g fs) (hb : Below w.heap.size w w') : FieldsAt w' v g fs := by
  obtain ⟨a, bs, h1, h2, h3, h4⟩ := h
  refine ⟨a, bs, h1, h2, fun hne => ?_, fun j hj => (h4 j hj).stays hb⟩
  obtain ⟨row, h5, h6⟩ := h3 hne
  exact ⟨row, h5, row_kept h6 hb⟩
theorem IsF.stays {w w' : World} {v : Value} {k : Slot} {g o : Nat} (h : IsF k g o v w) (hb : Below w.heap.size w w') : IsF k g o v w' := by
  obtain ⟨b, h1, h2⟩ := h
  exact ⟨b, h1, h2.stays hb⟩
/-- What is known of a value, whatever comes behind. -/
def Mono (p : Value → World → Prop) : Prop := ∀ v w w', p v w → Below w.heap.size w w' → p v w'
def vc (c : Value) : Value → World → Prop := fun v _ => v = c
theorem mono_vc (c : Value) : Mono (vc c) := fun _ _ _ h _ => h
theorem mono_isF (k : Slot) (g o : Nat) : Mono (IsF k g o) := fun _ _ _ h hb => h.stays hb
def vF (g : Nat) (fs : List (Slot × Nat)) : Value → World → Prop := fun v w => FieldsAt w v g fs
theorem mono_vF (g : Nat) (fs : List (Slot × Nat)) : Mono (vF g fs) := fun _ _ _ h hb => h.stays hb
def valOf (vs : List (Value → World → Prop)) (i : Nat) : Value → World → Prop := vs.getD i (fun _ _ => True)
theorem mono_of {vs : List (Value → World → Prop)} (h : ∀ p ∈ vs, Mono p) : ∀ i v w w', valOf vs i v w → Below w.heap.size w w' → valOf vs i v w' := by
  intro i v w w' hv hb
  unfold valOf at *
  by_cases hi : i < vs.length
  · have e : vs.getD i (fun _ _ => True) = vs[i] := by simp [List.getD, hi]
    rw [e] at hv ⊢
    exact h _ (List.getElem_mem hi) v w w' hv hb
  · have e : vs.getD i (fun _ _ => True) = fun _ _ => True := by simp [List.getD, hi]
    rw [e]
    trivial

section
variable {P : Program} {ops : Array Oper} {Q : Exit → Act → World → Prop} {vs : List (Value → World → Prop)} {keep : List Tmp} {a0 : Act} {w0 : World} {i : Nat} {o : Oper}
theorem ow_move (t : Tmp) (c : Value) (ho : o.op = .move (.tmp t)) (ht : keep.contains t = true) (hc : a0.tmps.getD t undef = c) (hv : valOf vs i = vc c) : Owes P ops Q (valOf vs) keep a0 w0 i o := by
  intro a w hB hK hD
  have h1 : a.eval (.tmp t) = c := (hK t (by simpa using ht)).trans hc
  unfold Oper.wp execOp
  simp only [ho, Sem.run_pure, Oper.upon]
  exact ⟨_, rfl, by rw [hv]; exact h1, Below.refl _ _⟩
theorem ow_nil (t : Tmp) (j : Nat) (g off : Nat) (ho : o.op = .nilCheck (.tmp t)) (ha : (o.after.any fun e => Region.binds .any e && e.on == j) = true) (hd : (ops[j]?).bind (·.dst) = some t) (hj : valOf vs j = vc (ptr g off)) (hv : valOf vs i = vc (ptr g off)) : Owes P ops Q (valOf vs) keep a0 w0 i o := by
  intro a w hB hK hD
  have h1 := hD j t ha hd
  rw [hj] at h1
  have h2 : a.eval (.tmp t) = ptr g off := h1
  unfold Oper.wp execOp
  simp only [ho, h2, Sem.run_pure, Oper.upon]
  exact ⟨_, rfl, by rw [hv]; rfl, Below.refl _ _⟩
theorem ow_fa (t : Tmp) (j : Nat) (T : TypeId) (k g off d : Nat) (ho : o.op = .fieldAddr T (.tmp t) k) (hr : ∀ w, (Instr.fieldAt T (ptr g off) k).run P w = .ok (ptr g (off + d)) w)
    (ha : (o.after.any fun e => Region.binds .any e && e.on == j) = true) (hd : (ops[j]?).bind (·.dst) = some t) (hj : valOf vs j = vc (ptr g off)) (hv : valOf vs i = vc (ptr g (off + d))) : Owes P ops Q (valOf vs) keep a0 w0 i o := by
  intro a w hB hK hD
  have h1 := hD j t ha hd
  rw [hj] at h1
  have h2 : a.eval (.tmp t) = ptr g off := h1
  unfold Oper.wp execOp
  simp only [ho, h2, Sem.run_bind, hr, Result.andThen_ok, Sem.run_pure, Oper.upon]
  exact ⟨_, rfl, by rw [hv]; rfl, Below.refl _ _⟩
theorem ow_mk (t : Tmp) (j : Nat) (f : FuncId) (ts : Array TypeId) (k : Slot) (g off : Nat) (ho : o.op = .call { callee := .value (.func f), args := #[.tmp t], argTypes := ts }) (hc : ∀ args w, (callFunc f args).run P w = .ok (.enter f args) w)
    (hm : ∀ w, Calls P f #[ptr g off] w fun e w' => ∃ b, e = .returned (.agg (fieldV k b).toArray) ∧ FieldAt w' k g off b ∧ Below w.heap.size w w')
    (ha : (o.after.any fun e => Region.binds .any e && e.on == j) = true) (hd : (ops[j]?).bind (·.dst) = some t) (hj : valOf vs j = vc (ptr g off)) (hv : valOf vs i = IsF k g off) : Owes P ops Q (valOf vs) keep a0 w0 i o := by
  intro a w hB hK hD
  have h1 := hD j t ha hd
  rw [hj] at h1
  have h2 : a.eval (.tmp t) = ptr g off := h1
  unfold Oper.wp execOp
  have e : (do let d ← resolve a.eval { callee := .value (.func f), args := #[.tmp t], argTypes := ts } o.type; invoke d.target d.args : Sem Next).run P w = .ok (.enter f #[ptr g off]) w := by
    have h4 : a.tmps.getD t undef = ptr g off := h1
    have h3 : a.tmps[t]?.getD undef = ptr g off := by simpa using h4
    simp [resolve, Deferred.ofValue, invoke, hc, Act.eval, h3]
  simp only [ho]
  rw [e]
  simp only [Oper.upon]
  refine (hm w).mono ?_
  rintro e w' ⟨b, rfl, hF, hb⟩
  exact ⟨_, rfl, by rw [hv]; exact ⟨b, rfl, hF⟩, hb⟩
theorem ow_assign (t : Tmp) (j : Nat) (g : Nat) (fs : List (Slot × Nat)) (ho : o.op = .assign (.tmp t)) (ha : (o.after.any fun e => Region.binds .any e && e.on == j) = true) (hd : (ops[j]?).bind (·.dst) = some t) (hj : valOf vs j = vF g fs) (hv : valOf vs i = vF g fs) : Owes P ops Q (valOf vs) keep a0 w0 i o := by
  intro a w hB hK hD
  have h1 := hD j t ha hd
  rw [hj] at h1
  unfold Oper.wp execOp
  simp only [ho, Sem.run_pure, Oper.upon]
  exact ⟨_, rfl, by rw [hv]; exact h1, Below.refl _ _⟩
theorem run_fld {P : Program} {w : World} {c : Nat} {k : Slot} {b : Bx} (hrow : w.heap[c]? = some (.cells (fieldV k b).toArray 147)) (d : TypeDesc) (hu : P.underlying 147 = some d) (hd : (match d with | .struct _ | .array _ _ => true | _ => false) = true) (hi : (P.info? 147).map (·.size) = some 3) :
    (Instr.loadAt 147 (ptr c 0)).run P w = .ok (.agg (fieldV k b).toArray) w := by
  have hl : (loadCells ⟨c, 0, none⟩ 3).run P w = .ok (fieldV k b).toArray w :=
    run_loadCells_list (P := P) w ⟨c, 0, none⟩ (fieldV k b) (fun j v hv => by rw [add_none]; exact row_seg (off := 0) (A := []) (C := []) hrow (by simp) rfl j v hv)
  cases hq : P.info? 147 with
  | none => simp [hq] at hi
  | some i =>
    have hs : i.size = 3 := by simpa [hq] using hi
    have hagg : (isAgg 147).run P w = .ok true w := by
      unfold isAgg
      rw [Sem.run_bind, run_underlying hu w]
      cases d <;> simp_all
    simp [Instr.loadAt, Instr.sureAddr, Sem.run_bind, loadVar, hagg, sizeOf, typeInfo, hq, hs, hl]
theorem ow_ld (t : Tmp) (c : Nat) (k : Slot) (g o1 : Nat) (b : Bx) (ho : o.op = .load 147 (.tmp t)) (ht : keep.contains t = true) (hc : a0.tmps.getD t undef = ptr c 0) (hrow : w0.heap[c]? = some (.cells (fieldV k b).toArray 147)) (hF : FieldAt w0 k g o1 b)
    (d : TypeDesc) (hu : P.underlying 147 = some d) (hd : (match d with | .struct _ | .array _ _ => true | _ => false) = true) (hi : (P.info? 147).map (·.size) = some 3) (hv : valOf vs i = IsF k g o1) : Owes P ops Q (valOf vs) keep a0 w0 i o := by
  intro a w hB hK hD
  have h1 : a.eval (.tmp t) = ptr c 0 := (hK t (by simpa using ht)).trans hc
  unfold Oper.wp execOp
  simp only [ho, h1, Sem.run_bind, run_fld (row_kept hrow hB) d hu hd hi, Result.andThen_ok, Sem.run_pure, Oper.upon]
  exact ⟨_, rfl, by rw [hv]; exact ⟨b, rfl, hF.stays hB⟩, Below.refl _ _⟩
/-- The cells of a list of fields. -/
theorem ow_bs (T e : TypeId) (n : Nat) (parts : Array (Nat × Operand)) (g : Nat) (fs : List (Slot × Nat)) (src : List (Nat × Tmp)) (ho : o.op = .buildSlice T n parts) (hT : P.underlying T = some (.slice e)) (he : e = 147) (hs : (P.info? e).map (·.size) = some 3) (hz : ((P.info? e).bind (·.zero)).map (·.cells.size) = some 3)
    (hn : fs.length = n) (h0 : 0 < n) (h1 : n ≤ 100) (hsrc : src.length = n) (hp : parts.toList = src.zipIdx.map fun q => (q.2, Operand.tmp q.1.2))
    (ha : (src.all fun q => (o.after.any fun e => Region.binds .any e && e.on == q.1) && ((ops[q.1]?).bind (·.dst) == some q.2)) = true)
    (hj : ∀ j, j < n → valOf vs (src.getD j (0, 0)).1 = IsF (fs.getD j (.num, 0)).1 g (fs.getD j (.num, 0)).2) (hv : valOf vs i = vF g fs) : Owes P ops Q (valOf vs) keep a0 w0 i o := by
  intro a w hB hK hD
  have hall : ∀ j, j < n → IsF (fs.getD j (.num, 0)).1 g (fs.getD j (.num, 0)).2 (a.tmps.getD (src.getD j (0, 0)).2 undef) w := by
    intro j hjn
    have hm : src.getD j (0, 0) ∈ src := by
      have e : src.getD j (0, 0) = src[j] := by simp [List.getD, hsrc, hjn]
      rw [e]; exact List.getElem_mem _
    rw [List.all_eq_true] at ha
    have hq := ha _ hm
    simp only [Bool.and_eq_true, beq_iff_eq] at hq
    obtain ⟨q1, q2⟩ := hq
    have h := hD _ _ q1 q2
    rw [hj j hjn] at h
    exact h
  obtain ⟨bs, hbl, hbs⟩ : ∃ bs : List Bx, bs.length = n ∧ ∀ j, j < n → a.tmps.getD (src.getD j (0, 0)).2 undef = .agg (fieldV (fs.getD j (.num, 0)).1 (bs.getD j ⟨0, 0, 0⟩)).toArray ∧ FieldAt w (fs.getD j (.num, 0)).1 g (fs.getD j (.num, 0)).2 (bs.getD j ⟨0, 0, 0⟩) := by
    have hex : ∀ m, m ≤ n → ∃ bs : List Bx, bs.length = m ∧ ∀ j, j < m → a.tmps.getD (src.getD j (0, 0)).2 undef = .agg (fieldV (fs.getD j (.num, 0)).1 (bs.getD j ⟨0, 0, 0⟩)).toArray ∧ FieldAt w (fs.getD j (.num, 0)).1 g (fs.getD j (.num, 0)).2 (bs.getD j ⟨0, 0, 0⟩) := by
      intro m
      induction m with
      | zero => exact fun _ => ⟨[], rfl, fun j hj => absurd hj (Nat.not_lt_zero j)⟩
      | succ m ih =>
        intro hm
        obtain ⟨bs, hl, hb⟩ := ih (by omega)
        obtain ⟨b, hb1, hb2⟩ := hall m (by omega)
        refine ⟨bs ++ [b], by simp [hl], fun j hjm => ?_⟩
        by_cases e : j = m
        · subst e
          have : (bs ++ [b]).getD j ⟨0, 0, 0⟩ = b := by simp [List.getD, ← hl]
          rw [this]
          exact ⟨hb1, hb2⟩
        · have hlt : j < bs.length := by omega
          have : (bs ++ [b]).getD j ⟨0, 0, 0⟩ = bs.getD j ⟨0, 0, 0⟩ := by simp [List.getD, List.getElem?_append_left hlt]
          rw [this]
          exact hb j (by omega)
    exact hex n (Nat.le_refl _)
  subst he
  cases hie : P.info? 147 with
  | none => simp [hie] at hs
  | some ie =>
    simp only [hie, Option.map_some, Option.some.injEq, Option.bind_some] at hs hz
    cases hzz : ie.zero with
    | none => rw [hzz] at hz; cases hz
    | some z =>
      rw [hzz] at hz
      have hz3 : z.cells.size = 3 := by simpa using hz
      have hvals : (parts.map fun (i, x) => (i, a.eval x)).toList = (((fs.zip bs).map fun q => Value.agg (fieldV q.1.1 q.2).toArray).zipIdx 0).map fun x => (x.2, x.1) := by
        rw [Array.toList_map, hp, List.map_map]
        apply List.ext_getElem
        · simp [hsrc, hn, hbl]
        · intro j h1 h2
          simp only [List.getElem_map, List.getElem_zipIdx, Function.comp, Nat.zero_add, List.getElem_zip]
          have hjn : j < n := by simpa [hsrc] using h1
          obtain ⟨h3, -⟩ := hbs j hjn
          have e1 : src.getD j (0, 0) = src[j] := by simp [List.getD, hsrc, hjn]
          have e2 : fs.getD j (.num, 0) = fs[j] := by simp [List.getD, hn, hjn]
          have e3 : bs.getD j ⟨0, 0, 0⟩ = bs[j] := by simp [List.getD, hbl, hjn]
          rw [e1, e2, e3] at h3
          show (j, a.tmps.getD src[j].2 undef) = _
          rw [h3]
      have hcl : ∀ v ∈ (fs.zip bs).map fun q => Value.agg (fieldV q.1.1 q.2).toArray, v.cells.size = 3 := by
        intro v hv
        obtain ⟨q, -, rfl⟩ := List.mem_map.1 hv
        rfl
      have hfill := Great.fill_whole (s := 3) (by omega) ((fs.zip bs).map fun q => Value.agg (fieldV q.1.1 q.2).toArray) ((Array.range (n * 3)).map (z.cells[· % z.cells.size]!)) hcl (by simp [hn, hbl])
      rw [← hvals] at hfill
      refine wp_buildSlice T 147 n parts ho _ ie z hT hie hzz (by rw [hs]; omega) (by rw [hs]; omega) (by rw [hs]; exact hfill) ?_
      refine ⟨_, rfl, ?_, below_a1 _ _⟩
      rw [hv]
      refine ⟨some ⟨w.heap.size, 0, none⟩, bs, by rw [hn], hbl.trans hn.symm, fun _ => ⟨w.heap.size, rfl, ?_⟩, fun j hjn => ((hbs j (by omega)).2).stays (below_a1 _ _)⟩
      rw [top_obj, List.flatMap_map]
      have e : (fs.zip bs).flatMap (fun q => (Value.agg (fieldV q.1.1 q.2).toArray).cells.toList) = ((fs.zip bs).map fun q => fieldV q.1.1 q.2).flatten := by
        rw [List.flatMap_def]
        rfl
      rw [e]
end
theorem infoFld : ((Tryz.prog.info? 147).bind (·.zero)).map (·.cells.size) = some 3 := by kernel_rfl
theorem callMk (args : Array Value) (w : World) : (callFunc 91 args).run Tryz.prog w = .ok (.enter 91 args) w := by kernel_rfl
end Go.Proofs.YtidlgecognedlaaGreatDoor.Ms
