/-
  What awake and light of the laws answer.
-/
import Derived.Test.YtoddlbggbkabnaaDoorRchk
namespace Go.Proofs.YtoddlbggbkabnaaDoor
open Go Go.RowKit
set_option maxRecDepth 100000

section
variable {P : Program} {ops : Array Oper} {rest : List Oper} {o : Oper} {a : Act} {w : World} {Q : Exit → Act → World → Prop}
theorem wpList_wanted (hw : Region.wanted o (yielded ops a.tmps) = true) (h : ∀ K : Act → World → Prop, (∀ a w, wpList P ops Q rest a w → K a w) → o.wp P a w K Q) : wpList P ops Q (o :: rest) a w :=
  wpList_step fun K hK => by rw [if_pos hw]; exact h K hK
theorem wpList_load_seg_g (hw : Region.wanted o (yielded ops a.tmps) = true) (ty : TypeId) (x : Operand) (ho : o.op = .load ty x)
    (g off : Nat) (hx : a.eval x = .pointer (some ⟨g, off, none⟩)) (cs : List Value) (d : TypeDesc) (hc : ∀ j v, cs[j]? = some v → w.cell? ⟨g, off + j, none⟩ = some v)
    (hu : P.underlying ty = some d) (hd : (match d with | .struct _ | .array _ _ => true | _ => false) = true) (hi : (P.info? ty).map (·.size) = some cs.length)
    (h : wpList P ops Q rest (a.put o.dst (.agg cs.toArray)) w) : wpList P ops Q (o :: rest) a w := by
  refine wpList_wanted hw fun K hK => ?_
  have h' := hK _ _ h
  have hl : (loadCells ⟨g, off, none⟩ cs.length).run P w = .ok cs.toArray w :=
    run_loadCells_list (P := P) w ⟨g, off, none⟩ cs (fun j v hv => by rw [add_none]; exact hc j v hv)
  cases hq : P.info? ty with
  | none => simp [hq] at hi
  | some i =>
    have hs : i.size = cs.length := by simpa [hq] using hi
    have hagg : (isAgg ty).run P w = .ok true w := by
      unfold isAgg
      rw [Sem.run_bind, run_underlying hu w]
      cases d <;> simp_all
    unfold Oper.wp execOp
    simp [ho, hx, Instr.loadAt, Instr.sureAddr, Sem.run_bind, loadVar, hagg, sizeOf, typeInfo, hq, hs, hl]
    exact h'
theorem wpList_build_g (hw : Region.wanted o (yielded ops a.tmps) = true) (ty : TypeId) (parts : List (Nat × Operand)) (ho : o.op = .build ty parts.toArray)
    (vs : List (Nat × Value)) (hv : (parts.map fun p => (p.1, a.eval p.2)) = vs) (v : Value) (hr : (Instr.build ty vs.toArray).run P w = .ok v w)
    (h : wpList P ops Q rest (a.put o.dst v) w) : wpList P ops Q (o :: rest) a w := by
  refine wpList_wanted hw fun K hK => ?_
  have h' := hK _ _ h
  subst hv
  unfold Oper.wp execOp
  simp [ho, hr]
  exact h'
end
theorem seg_of_row {w : World} {g : Nat} {cs : List Value} {t : TypeId} (h : w.heap[g]? = some (.cells cs.toArray t)) : ∀ j v, cs[j]? = some v → w.cell? ⟨g, 0 + j, none⟩ = some v := by
  intro i v hv
  rw [cell_of_row _ _ _ _ _ _ h]
  simpa using hv

section
variable {w : World} {p h g b n : Nat} {s : List UInt8} {L : List Ent}
theorem tag_c (r : RingAt w p h g b s n L) (hn : n ≤ 8) (c d : Int) (t : List UInt8) (hm : May n (c, d, t)) (hr : L.length < 1000000) (hK : Ktab w) (hT : Lay.Tabs w) :
    Calls Tryd.prog 12 #[.pointer (some ⟨p, 0, none⟩), .int .i64 c, .int .i64 d, .string ⟨t.toArray⟩] w fun e w' => e = .returned (.tuple #[.agg ((tagB s (c, d, t)).map cb).toArray, .int .i64 0]) ∧ RingAt w' p h g b s n (noteL L (c, d, t)) ∧ Touch b w w' := by
  obtain ⟨h0, h1, h2, h3, h4⟩ := hm
  simp only at h0 h1 h2 h3 h4
  obtain ⟨i, rfl⟩ : ∃ i : Nat, c = (i : Int) := ⟨c.toNat, by omega⟩
  exact ringTag_ok r i d t hn (by omega) h2 h3 h4 hr hK hT
theorem check_c (r : RingAt w p h g b s n L) (c d : Int) (t D : List UInt8) (hD : D.length = 32) (hm : May n (c, d, t)) (hK : Ktab w) (hT : Lay.Tabs w) :
    Calls Tryd.prog 14 #[.pointer (some ⟨p, 0, none⟩), .int .i64 c, .int .i64 d, .string ⟨t.toArray⟩, .agg (D.map cb).toArray] w fun e w' => e = .returned (.bool (decide (tagB s (c, d, t) = D))) ∧ Below w.heap.size w w' := by
  obtain ⟨h0, h1, h2, h3, h4⟩ := hm
  simp only at h0 h1 h2 h3 h4
  obtain ⟨i, rfl⟩ : ∃ i : Nat, c = (i : Int) := ⟨c.toNat, by omega⟩
  exact check_yes r i d t D hD (by omega) h2 h3 h4 hK hT
theorem check_own (r : RingAt w p h g b s n L) (c d : Int) (t D : List UInt8) (hD : D = tagB s (c, d, t)) (hm : May n (c, d, t)) (hK : Ktab w) (hT : Lay.Tabs w) :
    Calls Tryd.prog 14 #[.pointer (some ⟨p, 0, none⟩), .int .i64 c, .int .i64 d, .string ⟨t.toArray⟩, .agg (D.map cb).toArray] w fun e w' => e = .returned (.bool true) ∧ Below w.heap.size w w' := by
  have h := check_c r c d t D (by rw [hD]; exact tagB_len _ _) hm hK hT
  rw [decide_eq_true hD.symm] at h
  exact h
end

/-- Is a text not too long to be tagged often? -/
def lightB (t : List UInt8) : Bool := decide (t.length < 500) || decide (16384 < t.length)
theorem light_any (c d : Int) (t : List UInt8) (w : World) : Calls Tryd.prog 11 #[.agg #[.int .i64 c, .int .i64 d, .string ⟨t.toArray⟩]] w fun e w' => e = .returned (.bool (lightB t)) ∧ Below w.heap.size w w' := by
  have hs : (⟨t.toArray⟩ : ByteArray).size = t.length := rfl
  have hq := top_row w (.cells #[.int .i64 c, .int .i64 d, .string ⟨t.toArray⟩] 62)
  by_cases h1 : t.length < 500
  · have hL : Hid (lightB t = true) := by show _ = _; unfold lightB; rw [decide_eq_true h1]; rfl
    have d1 : decide ((t.length : Int) < 500) = true := by simp; omega
    go_enter Tryd.func11, Tryd.ntmps11
    go_wp2
    go_ret
    exact ⟨by rw [hL.out]; rfl, below_a1 w _⟩
  · have d1 : decide ((t.length : Int) < 500) = false := by simp; omega
    by_cases h2 : 16384 < t.length
    · have hL : Hid (lightB t = true) := by show _ = _; unfold lightB; rw [decide_eq_true h2]; simp
      have d2 : decide ((16384 : Int) < (t.length : Int)) = true := by simp; omega
      go_enter Tryd.func11, Tryd.ntmps11
      go_wp2
      go_ret
      exact ⟨by rw [hL.out]; rfl, below_a1 w _⟩
    · have hL : Hid (lightB t = false) := by show _ = _; unfold lightB; rw [decide_eq_false h1, decide_eq_false h2]; rfl
      have d2 : decide ((16384 : Int) < (t.length : Int)) = false := by simp; omega
      go_enter Tryd.func11, Tryd.ntmps11
      go_wp2
      go_ret
      exact ⟨by rw [hL.out]; rfl, below_a1 w _⟩

end Go.Proofs.YtoddlbggbkabnaaDoor
