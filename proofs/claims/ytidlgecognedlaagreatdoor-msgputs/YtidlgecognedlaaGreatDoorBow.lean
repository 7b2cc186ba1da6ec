/-
  Rows of bytes that a call has made: what append, a conversion and a store do with them.
-/
import Derived.Test.YtidlgecognedlaaGreatDoorBas
import Derived.Test.YtidlgecognedlaaGreatDoorRowl
import Derived.Test.YtidlgecognedlaaGreatDoorChecked
import Derived.Laws.AppendOwn
import Derived.Laws.MakeOwn
import Derived.Laws.IdiomStrings
import Derived.Lib.ConvBytes
import Derived.Sort.Grow
namespace Go.Proofs.YtidlgecognedlaaGreatDoor
open Go Go.RowKit
set_option maxRecDepth 100000

theorem infoByte : (Tryz.prog.info? 5).map (fun i => (i.zero, i.size, i.bytes)) = some (some (.int .u8 0), 1, 1) := by kernel_rfl
theorem info_parts {t : TypeId} {z : Value} {s b : Nat} (h : (Tryz.prog.info? t).map (fun i => (i.zero, i.size, i.bytes)) = some (some z, s, b)) :
    ∃ i, Tryz.prog.info? t = some i ∧ i.zero = some z ∧ i.size = s ∧ i.bytes = b := by
  cases hq : Tryz.prog.info? t with
  | none => simp [hq] at h
  | some i =>
    simp [hq] at h
    exact ⟨i, rfl, h.1, h.2.1, h.2.2⟩

/-- No cell of the row is marked. -/
def loose (fz : Nat × Nat) (n : Nat) : Prop := ∀ j, j < n → ¬ (fz.1 ≤ j ∧ j < fz.2)

def brow (w : World) (base : Nat) (v : Value) (l : List UInt8) : Prop :=
  (v = .slice none 0 0 ∧ l = []) ∨
  ∃ g cap cur fz, v = .slice (some ⟨g, 0, none⟩) l.length cap ∧ base ≤ g ∧ w.heap[g]? = some (.cells cur 5 fz) ∧ loose fz cur.size ∧ l.length ≤ cap ∧ cur.size = cap ∧ cap ≤ maxLen ∧ cur.toList.take l.length = l.map cb

theorem run_storeCells_loose {P : Program} (g o : Nat) (t : TypeId) (fz : Nat × Nat) : ∀ (vs : List Value) (i : Nat) (cur : Array Value) (w : World), w.heap[g]? = some (.cells cur t fz) → loose fz cur.size → o + i + vs.length ≤ cur.size → (∀ v ∈ vs, v.oneCell' = true) →
    (storeCells ⟨g, o, none⟩ vs i).run P w = .ok () (w.setRow g (cur.toList.take (o + i) ++ vs ++ cur.toList.drop (o + i + vs.length)).toArray)
  | [], i, cur, w, hg, _, _, _ => by
    simp only [storeCells, List.append_nil, List.length_nil, Nat.add_zero, List.take_append_drop, Array.toArray_toList]
    rw [setRow_self w g cur t fz hg]
    rfl
  | v :: rest, i, cur, w, hg, hz, hl, h1 => by
    have hi : o + i < cur.size := by simp at hl; omega
    have hcell : w.cell? ⟨g, o + i, none⟩ = some cur[o + i] := by simp [World.cell?, hg, hi]
    have hfro : w.frozen? ⟨g, o + i, none⟩ = false := by
      have := hz (o + i) hi
      simp only [World.frozen?, hg]
      rw [Bool.eq_false_iff]
      intro hx
      simp at hx
      exact this hx
    have hst : (store ((⟨g, o, none⟩ : Addr).add i) v).run P w = .ok () (w.setRow g (cur.setIfInBounds (o + i) v)) := by
      rw [add_none, run_store P w _ v _ (h1 v (by simp)), hcell]
      simp [hfro, setCell_eq_setRow w g (o + i) cur t fz v hg]
    have ih := run_storeCells_loose (P := P) g o t fz rest (i + 1) (cur.setIfInBounds (o + i) v) (w.setRow g (cur.setIfInBounds (o + i) v)) (setRow_heap w g cur _ t _ hg) (by simpa using hz) (by simp at hl ⊢; omega) (fun x hx => h1 x (by simp [hx]))
    simp only [storeCells, Sem.run_bind, hst, Result.andThen_ok, ih, setRow_setRow]
    congr 3
    have e := list_seg_step cur.toList (o + i) v rest (by simp at hl ⊢; omega)
    simpa [Array.toList_setIfInBounds, Nat.add_assoc] using e

theorem brow_below {w w' : World} {base B : Nat} {v : Value} {l : List UInt8} (h : brow w base v l) (hb : Below B w w') (hB : w.heap.size ≤ B) : brow w' base v l := by
  rcases h with h | ⟨g, cap, cur, fz, rfl, h1, h2, h3⟩
  · exact .inl h
  · exact .inr ⟨g, cap, cur, fz, rfl, h1, by rw [hb.block g (by have := (Array.getElem?_eq_some_iff.1 h2).1; omega)]; exact h2, h3⟩
theorem brow_own {w : World} {base : Nat} {v : Value} {l : List UInt8} (h : brow w base v l) : ∀ k, v.ownBlock = some k → base ≤ k := by
  intro k hk
  rcases h with ⟨rfl, _⟩ | ⟨g, cap, cur, fz, rfl, h1, h2, h3⟩
  · simp [Value.ownBlock] at hk
  · simp [Value.ownBlock] at hk; omega
theorem brow_cells {w : World} {base g cap n : Nat} {l : List UInt8} (h : brow w base (.slice (some ⟨g, 0, none⟩) n cap) l) : n = l.length ∧ ∀ j, j < l.length → w.cell? ⟨g, j, none⟩ = some (cb (l.getD j 0)) := by
  rcases h with ⟨h, _⟩ | ⟨g', cap', cur, fz, h, h1, h2, h3, h4, h5, h6, h7⟩
  · simp at h
  · simp at h
    obtain ⟨rfl, rfl, rfl⟩ := h
    refine ⟨rfl, fun j hj => ?_⟩
    rw [cell_of_row _ _ _ _ _ _ h2, ← Array.getElem?_toList]
    have e : (cur.toList.take l.length)[j]? = (l.map cb)[j]? := by rw [h7]
    rw [List.getElem?_take, if_pos hj] at e
    rw [e, cb_at l j hj]
    rfl
theorem brow_form {w : World} {base : Nat} {v : Value} {l : List UInt8} (h : brow w base v l) (hne : l ≠ []) : ∃ g cap, v = .slice (some ⟨g, 0, none⟩) l.length cap ∧ base ≤ g ∧ g < w.heap.size := by
  rcases h with ⟨_, h⟩ | ⟨g, cap, cur, fz, h, h1, h2, h3⟩
  · exact absurd h hne
  · exact ⟨g, cap, h, h1, (Array.getElem?_eq_some_iff.1 h2).1⟩

theorem top_row (W : World) (o : Obj) : (W.alloc o).heap[W.heap.size]? = some o := by show (W.heap.push o)[W.heap.size]? = _; simp

/-- A literal's row. -/
theorem brow_one (W : World) (base : Nat) (c : UInt8) (hb : base ≤ W.heap.size) : brow (W.alloc (.cells #[.int .u8 (bv c)] 5)) base (.slice (some ⟨W.heap.size, 0, none⟩) 1 1) [c] := by
  refine .inr ⟨W.heap.size, 1, #[.int .u8 (bv c)], (0, 0), rfl, hb, ?_, ?_, by simp, rfl, by decide, rfl⟩
  · show (W.heap.push _)[W.heap.size]? = _; simp
  · intro j _ h; simp at h

theorem run_app {w : World} (base b2 : Nat) (ty : TypeId) (v u : Value) (l l2 : List UInt8) (h : brow w base v l) (hs : brow w b2 u l2) (hnn : v ≠ .slice none 0 0 ∨ l2 ≠ []) (hlen : l.length + l2.length ≤ 140737488355328) (hbase : base ≤ w.heap.size) :
    ∃ v' w', (Builtin.append_ #[118, 118] ty #[v, u]).run Tryz.prog w = .ok v' w' ∧ brow w' base v' (l ++ l2) ∧ w.grownBy w' v.ownBlock := by
  obtain ⟨i, hi, hz0, hz1, hz2⟩ := info_parts infoByte
  have hf : (Builtin.firstCells i.size l2.length u).run Tryz.prog w = .ok (l2.map cb).toArray w := by
    rcases hs with ⟨rfl, rfl⟩ | ⟨g, cap, cur, fz, rfl, h1, h2, h3, h4, h5, h6, h7⟩
    · rfl
    · refine run_firstCells_some w i.size l2.length _ _ _ (l2.map cb) (by rw [hz1]; simp) (fun j x hj => ?_)
      rw [add_none, Nat.zero_add, cell_of_row _ _ _ _ _ _ h2, ← Array.getElem?_toList]
      have hj2 : j < l2.length := by have := (List.getElem?_eq_some_iff.1 hj).1; simpa using this
      have e : (cur.toList.take l2.length)[j]? = (l2.map cb)[j]? := by rw [h7]
      rw [List.getElem?_take, if_pos hj2] at e
      rw [e, hj]
  have hlo : (Builtin.lenOf u).run Tryz.prog w = .ok l2.length w := by
    rcases hs with ⟨rfl, rfl⟩ | ⟨g, cap, cur, fz, rfl, h1⟩
    · rfl
    · rfl
  rcases h with ⟨rfl, rfl⟩ | ⟨g, cap, cur, fz, rfl, h1, h2, h3, h4, h5, h6, h7⟩
  · have hne : l2 ≠ [] := by simpa using hnn
    rcases hs with ⟨rfl, rfl⟩ | ⟨g, cap, cur, fz, rfl, h1, h2, h3, h4, h5, h6, h7⟩
    · exact absurd rfl hne
    · have hn : ∀ j x, (l2.map cb)[j]? = some x → w.cell? ((⟨g, 0, none⟩ : Addr).add j) = some x := by
        intro j x hj
        rw [add_none, Nat.zero_add, cell_of_row _ _ _ _ _ _ h2, ← Array.getElem?_toList]
        have hj2 : j < l2.length := by have := (List.getElem?_eq_some_iff.1 hj).1; simpa using this
        have e : (cur.toList.take l2.length)[j]? = (l2.map cb)[j]? := by rw [h7]
        rw [List.getElem?_take, if_pos hj2] at e
        rw [e, hj]
      obtain ⟨v', w', r1, r2, r3, -⟩ := run_append_own (P := Tryz.prog) w base 118 ty 5 i (.int .u8 0) 1 1 Tryz.underlying118 hi hz0 hz1 hz2 rfl (by decide) (.slice none 0 0) 0 [] (World.ownsRow_nil w base 5 1) ⟨g, 0, none⟩ l2.length cap (l2.map cb) (by simp) hn (one_cb l2) (by unfold maxLen; simp at hlen; omega) (by simp at hlen; omega) hbase
      refine ⟨v', w', r1, ?_, r3⟩
      rcases r2.2 with ⟨_, h0⟩ | ⟨g', cap', cur', q1, q2, q3, q4, q5, q6, q7⟩
      · exact absurd (List.length_eq_zero_iff.1 (by omega)) hne
      · refine .inr ⟨g', cap', cur', (0, 0), by rw [q1]; simp, q2, q3, fun j _ h => by simp at h, by simpa using q4, by rw [q6]; omega, q5, ?_⟩
        simpa using q7
  · by_cases hroom : l.length + l2.length ≤ cap
    · have hst := run_storeCells_loose (P := Tryz.prog) g l.length 5 fz (l2.map cb) 0 cur w h2 h3 (by simp; omega) (one_cb l2)
      simp only [Nat.add_zero, List.length_map] at hst
      have hr : (Builtin.append_ #[118, 118] ty #[.slice (some ⟨g, 0, none⟩) l.length cap, u]).run Tryz.prog w = .ok (.slice (some ⟨g, 0, none⟩) (l.length + l2.length) cap) (w.setRow g (cur.toList.take l.length ++ l2.map cb ++ cur.toList.drop (l.length + l2.length)).toArray) := by
        simp only [hz1] at hf
        simp [Builtin.append_, run_underlying Tryz.underlying118, sizeOf, typeInfo, hi, hz1, hlo, hf, hroom, add_none, hst]
      refine ⟨_, _, hr, .inr ⟨g, cap, _, fz, by simp, h1, setRow_heap w g cur _ 5 fz h2, ?_, by simpa using hroom, ?_, h6, ?_⟩, ⟨rfl, rfl, rfl, by simp, fun k _ hk => setRow_other w g k _ (fun e => hk (by simp [Value.ownBlock, e]))⟩⟩
      · have e : (cur.toList.take l.length ++ l2.map cb ++ cur.toList.drop (l.length + l2.length)).toArray.size = cur.size := by simp; omega
        rw [e]; exact h3
      · simp; omega
      · rw [h7]
        have e2 : (l.map cb ++ l2.map cb).length = (l ++ l2).length := by simp
        rw [← e2, List.map_append]
        exact List.take_left
    · have hl2 : l2 ≠ [] := by intro h; subst h; simp at hroom; omega
      rcases hs with ⟨rfl, rfl⟩ | ⟨g2, cap2, cur2, fz2, rfl, k1, k2, k3, k4, k5, k6, k7⟩
      · exact absurd rfl hl2
      · have hn : ∀ j x, (l2.map cb)[j]? = some x → w.cell? ((⟨g2, 0, none⟩ : Addr).add j) = some x := by
          intro j x hj
          rw [add_none, Nat.zero_add, cell_of_row _ _ _ _ _ _ k2, ← Array.getElem?_toList]
          have hj2 : j < l2.length := by have := (List.getElem?_eq_some_iff.1 hj).1; simpa using this
          have e : (cur2.toList.take l2.length)[j]? = (l2.map cb)[j]? := by rw [k7]
          rw [List.getElem?_take, if_pos hj2] at e
          rw [e, hj]
        have ho : ∀ j x, (l.map cb)[j]? = some x → w.cell? ((⟨g, 0, none⟩ : Addr).add j) = some x := by
          intro j x hj
          rw [add_none, Nat.zero_add, cell_of_row _ _ _ _ _ _ h2, ← Array.getElem?_toList]
          have hj2 : j < l.length := by have := (List.getElem?_eq_some_iff.1 hj).1; simpa using this
          have e : (cur.toList.take l.length)[j]? = (l.map cb)[j]? := by rw [h7]
          rw [List.getElem?_take, if_pos hj2] at e
          rw [e, hj]
        have hr := run_append_grow (P := Tryz.prog) w 118 ty 5 i (.int .u8 0) Tryz.underlying118 hi hz0 ⟨g, 0, none⟩ l.length cap (l.map cb) (by rw [hz1]; simp) ho ⟨g2, 0, none⟩ l2.length cap2 (l2.map cb) (by rw [hz1]; simp) hn (by omega) (by omega) (by rw [hz2]; exact growslice_fits (by omega) (by omega))
        have hge := grownCap_ge w (l.length + l2.length) cap 5
        have hcm2 : grownCap w (l.length + l2.length) cap 5 ≤ maxLen := grownCap_le_maxLen w (l.length + l2.length) cap 5 (by unfold maxLen; omega)
        refine ⟨_, _, hr, .inr ⟨w.heap.size, _, _, (0, 0), by simp, hbase, top_row w.drew _, fun j _ h => by simp at h, by simpa using hge, ?_, hcm2, ?_⟩, ⟨rfl, rfl, rfl, by simp, fun k hk _ => heap_old1 w.drew _ k hk⟩⟩
        · have hzz : (Value.int IntKind.u8 0).cells.size = 1 := rfl
          simp only [Array.size_append, List.size_toArray, size_zeroCells, hzz, List.length_map]
          omega
        · have e2 : (l ++ l2).length = (l.map cb ++ l2.map cb).length := by simp
          simp only [Array.toList_append, List.append_assoc]
          rw [e2, ← List.append_assoc, List.map_append]
          exact List.take_left

theorem wpList_app {w : World} {ops : Array Oper} {rest : List Oper} {o : Oper} {a : Act} {Q : Exit → Act → World → Prop} (hgd : o.guard = none) (sl x : Operand)
    (ho : o.op = .call { callee := .builtin .append, args := #[sl, x], argTypes := #[118, 118] })
    (base b2 : Nat) (v u : Value) (l l2 : List UInt8) (hs : a.eval sl = v) (hx : a.eval x = u) (hown : brow w base v l) (hsrc : brow w b2 u l2) (hnn : v ≠ .slice none 0 0 ∨ l2 ≠ []) (hlen : l.length + l2.length ≤ 140737488355328) (hbase : base ≤ w.heap.size)
    (h : ∀ v' w', brow w' base v' (l ++ l2) → w.grownBy w' v.ownBlock → wpList Tryz.prog ops Q rest (a.put o.dst v') w') : wpList Tryz.prog ops Q (o :: rest) a w := by
  refine wpList_plain hgd fun K hK => ?_
  obtain ⟨v', w', hr, h2, h3⟩ := run_app base b2 o.type v u l l2 hown hsrc hnn hlen hbase
  unfold Oper.wp execOp
  simp only [ho, resolve, invoke, builtin, Sem.run_bind, Sem.run_pure, Result.andThen_ok, List.map_toArray, List.map_cons, List.map_nil, hs, hx, hr]
  exact hK _ _ (h v' w' h2 h3)

theorem conv_brow {w : World} {base : Nat} {v : Value} {l : List UInt8} (h : brow w base v l) : (convert 118 9 v).run Tryz.prog w = .ok (.string ⟨l.toArray⟩) w := by
  rcases h with ⟨rfl, rfl⟩ | ⟨g, cap, cur, fz, rfl, h1, h2, h3, h4, h5, h6, h7⟩
  · simp [convert, run_underlying Tryz.underlying118, run_underlying Tryz.underlying9, run_underlying Tryz.underlying5]
    rfl
  · refine run_convert_bytes_back w 118 9 5 ⟨g, 0, none⟩ cap l Tryz.underlying118 Tryz.underlying5 Tryz.underlying9 (fun j hj => ?_)
    have := (brow_cells (w := w) (base := base) (g := g) (cap := cap) (n := l.length) (l := l) (.inr ⟨g, cap, cur, fz, rfl, h1, h2, h3, h4, h5, h6, h7⟩)).2 j hj
    rw [add_none, Nat.zero_add, this]
    simp [cb, bv, List.getD, hj]
end Go.Proofs.YtidlgecognedlaaGreatDoor
