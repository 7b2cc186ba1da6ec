/-
  Laws that the laws' walks share: cutting a string, '==' on digests, tags of one and of two texts, rows of strings, whole rows read where the order is drawn.
-/
import Derived.Test.YtoddlbggbkabnaaDoorMdig
import Derived.Lib.SmallJoins
import Derived.Lib.FrozenHead2
import Derived.Deep.QuietTactic
import Derived.BigQuiet
import Derived.Lib.QuietBelow
namespace Go.Proofs.YtoddlbggbkabnaaDoor
open Go Go.RowKit Go.Joins
set_option maxRecDepth 100000

theorem cut_take (y : List UInt8) (t : Nat) : (⟨y.toArray⟩ : ByteArray).extract 0 t = ⟨(y.take t).toArray⟩ := by
  have h : ((⟨y.toArray⟩ : ByteArray).extract 0 t).data = (y.take t).toArray := by
    rw [ByteArray.data_extract]
    apply Array.toList_inj.1
    simp
  cases hh : (⟨y.toArray⟩ : ByteArray).extract 0 t with
  | mk d => rw [hh] at h; simp only at h; rw [h]

theorem equal25 (x y : List UInt8) (hx : x.length = 32) (hy : y.length = 32) (w : World) : (Op.equalIn 10000 34 (.agg (x.map cb).toArray) (.agg (y.map cb).toArray)).run Tryd.prog w = .ok (decide (x = y)) w :=
  run_equal_bytes (P := Tryd.prog) w 34 5 32 .u8 Tryd.underlying34 Tryd.underlying5 size5 x y hx hy
theorem same25 (l : List UInt8) (hl : l.length = 32) (w : World) : (Op.equalIn 10000 34 (.agg (l.map cb).toArray) (.agg (l.map cb).toArray)).run Tryd.prog w = .ok true w := by
  rw [equal25 l l hl hl]; simp

/-- A tag of two texts that lie in a new row. -/
theorem tag_two (k A B : List UInt8) (hk : k.length ≤ 140737488355100) (hA : A.length ≤ 70000000000000) (hB : B.length ≤ 70000000000000) (W : World) (kk : Ktab W) :
    Calls Tryd.prog 35 #[.string ⟨k.toArray⟩, .slice (some ⟨W.heap.size, 0, none⟩) 2 2] (W.alloc (.cells #[.string ⟨A.toArray⟩, .string ⟨B.toArray⟩] 9)) fun e w' => e = .returned (.agg ((hmac k (A ++ B)).map cb).toArray) ∧ Below W.heap.size W w' := by
  have h := tag_any k (by omega) (some ⟨W.heap.size, 0, none⟩) 2 2 _ _ (kk.stays (below_a1 W _) kk.pos) (texts_two W A B) (by rw [joined_two, List.length_append]; omega) (by omega)
  rw [joined_two] at h
  refine h.mono ?_
  rintro e w' ⟨rfl, hb⟩
  exact ⟨rfl, (below_a1 W _).trans (hb.mono (by simp))⟩
theorem tag_one (k A : List UInt8) (hk : k.length ≤ 140737488355100) (hA : A.length ≤ 70000000000000) (W : World) (kk : Ktab W) :
    Calls Tryd.prog 35 #[.string ⟨k.toArray⟩, .slice (some ⟨W.heap.size, 0, none⟩) 1 1] (W.alloc (.cells #[.string ⟨A.toArray⟩] 9)) fun e w' => e = .returned (.agg ((hmac k A).map cb).toArray) ∧ Below W.heap.size W w' := by
  have h := tag_any k (by omega) (some ⟨W.heap.size, 0, none⟩) 1 1 _ _ (kk.stays (below_a1 W _) kk.pos) (texts_one W A) (by rw [joined_one]; omega) (by omega)
  rw [joined_one] at h
  refine h.mono ?_
  rintro e w' ⟨rfl, hb⟩
  exact ⟨rfl, (below_a1 W _).trans (hb.mono (by simp))⟩

theorem infoStr : (Tryd.prog.info? 9).map (fun i => (i.zero, i.size, i.bytes)) = some (some (.string ⟨#[]⟩), 1, 16) := by kernel_rfl
def txtCells (zs : List (List UInt8)) : List Value := zs.map fun l => Value.string ⟨l.toArray⟩
def mkB (l : List UInt8) : ByteArray := ⟨l.toArray⟩
theorem ownsF_below {w w' : World} {B e s n : Nat} {v : Value} {xs : List Value} (h : w.ownsRowF B e s v n xs) (hb : Below w.heap.size w w') : w'.ownsRowF B e s v n xs := by
  refine ⟨h.1, ?_⟩
  rcases h.2 with hn | ⟨g, cap, cur, fz, rfl, hB, hg, rest⟩
  · exact .inl hn
  · exact .inr ⟨g, cap, cur, fz, rfl, hB, by rw [hb.block g (Array.getElem?_eq_some_iff.1 hg).1]; exact hg, rest⟩
theorem rowF_form {w : World} {B e s n : Nat} {v : Value} {xs : List Value} (h : w.ownsRowF B e s v n xs) : ∃ ao cap, v = .slice ao n cap := by
  rcases h.2 with ⟨rfl, rfl⟩ | ⟨g, cap, cur, fz, rfl, -⟩
  · exact ⟨none, 0, rfl⟩
  · exact ⟨_, _, rfl⟩
theorem ownsF_cell {w : World} {B e n : Nat} {ao : Option Addr} {cp : Nat} {xs : List Value} (h : w.ownsRowF B e 1 (.slice ao n cp) n xs) (j : Nat) (hj : j < n) (v : Value) (hv : xs[j]? = some v) : ∃ b off, ao = some ⟨b, off, none⟩ ∧ b < w.heap.size ∧ w.cell? ⟨b, off + j, none⟩ = some v := by
  rcases h.2 with ⟨_, h0⟩ | ⟨g, cap, cur, fz, hv', hB, hg, -, -, -, hcs, htake⟩
  · omega
  · injection hv' with h1 h2 h3
    subst h1
    refine ⟨g, 0, rfl, (Array.getElem?_eq_some_iff.1 hg).1, ?_⟩
    rw [← htake, List.getElem?_take, if_pos (by omega)] at hv
    rw [Nat.zero_add, cell_of_block hg, ← Array.getElem?_toList]
    exact hv

theorem texts_of_own {w : World} {B : Nat} {ao : Option Addr} {cp : Nat} {xs : List (List UInt8)} (h : w.ownsRowF B 9 1 (.slice ao xs.length cp) xs.length (txtCells xs)) : TextsAt w ao xs.length (xs.map mkB) :=
  ⟨by simp, fun j hj => ownsF_cell h j hj _ (by simp [txtCells, List.getD, hj, mkB])⟩
theorem joined_mkB (xs : List (List UInt8)) : joined (xs.map mkB) = xs.flatten := by
  unfold joined
  rw [List.map_map]
  have h : ((fun x : ByteArray => x.data.toList) ∘ mkB) = id := by funext l; simp [mkB]
  rw [h, List.map_id]

theorem wpQuiet_load_seg {P : Program} {ops : Array Oper} {C : World → Prop} {Q : Act → Prop} {a : Act} {o : Oper} {rest : List Oper} (hw : Region.wanted o (yielded ops a.tmps) = true) (ty : TypeId) (x : Operand) (ho : o.op = .load ty x)
    (g : Nat) (hx : a.eval x = .pointer (some ⟨g, 0, none⟩)) (cs : List Value) (d : TypeDesc) (hc : ∀ w, C w → ∀ j v, cs[j]? = some v → w.cell? ⟨g, 0 + j, none⟩ = some v)
    (hu : P.underlying ty = some d) (hd : (match d with | .struct _ | .array _ _ => true | _ => false) = true) (hi : (P.info? ty).map (·.size) = some cs.length)
    (h : wpQuiet P ops C Q rest (a.put o.dst (.agg cs.toArray))) : wpQuiet P ops C Q (o :: rest) a := by
  unfold wpQuiet
  rw [if_pos hw]
  refine ⟨.agg cs.toArray, fun w hC => ?_, h⟩
  have hl : (loadCells ⟨g, 0, none⟩ cs.length).run P w = .ok cs.toArray w :=
    run_loadCells_list (P := P) w ⟨g, 0, none⟩ cs (fun j v hv => by rw [add_none]; exact hc w hC j v hv)
  cases hq : P.info? ty with
  | none => simp [hq] at hi
  | some i =>
    have hs : i.size = cs.length := by simpa [hq] using hi
    have hagg : (isAgg ty).run P w = .ok true w := by
      unfold isAgg
      rw [Sem.run_bind, run_underlying hu w]
      cases d <;> simp_all
    unfold Oper.quietAt execOp
    simp [ho, hx, Instr.loadAt, Instr.sureAddr, Sem.run_bind, loadVar, hagg, sizeOf, typeInfo, hq, hs, hl, Oper.quietUpon]

theorem cells_regrown (W : World) (g : Nat) (cs : List Value) (t : TypeId) (h : W.heap[g]? = some (.cells cs.toArray t)) : ∀ w', (∃ p : Regrown, w' = Sort.grow (redrawn W p.d) p.os) → ∀ j v, cs[j]? = some v → w'.cell? ⟨g, 0 + j, none⟩ = some v := by
  rintro w' ⟨p, rfl⟩ j v hv
  refine cell_regrown ?_ _ _
  rw [cell_of_row _ _ _ _ _ _ h]
  simpa using hv

theorem same25l (w : World) : (Op.equalIn 10000 34 (.agg ((List.replicate 32 (0 : UInt8)).map cb).toArray) (.agg #[.int .u8 0, .int .u8 0, .int .u8 0, .int .u8 0, .int .u8 0, .int .u8 0, .int .u8 0, .int .u8 0, .int .u8 0, .int .u8 0, .int .u8 0, .int .u8 0, .int .u8 0, .int .u8 0, .int .u8 0, .int .u8 0, .int .u8 0, .int .u8 0, .int .u8 0, .int .u8 0, .int .u8 0, .int .u8 0, .int .u8 0, .int .u8 0, .int .u8 0, .int .u8 0, .int .u8 0, .int .u8 0, .int .u8 0, .int .u8 0, .int .u8 0, .int .u8 0])).run Tryd.prog w = .ok true w := by
  have h := equal25 (List.replicate 32 0) (List.replicate 32 0) (by simp) (by simp) w
  have h' : (Op.equalIn 10000 34 (.agg ((List.replicate 32 (0 : UInt8)).map cb).toArray) (.agg #[.int .u8 0, .int .u8 0, .int .u8 0, .int .u8 0, .int .u8 0, .int .u8 0, .int .u8 0, .int .u8 0, .int .u8 0, .int .u8 0, .int .u8 0, .int .u8 0, .int .u8 0, .int .u8 0, .int .u8 0, .int .u8 0, .int .u8 0, .int .u8 0, .int .u8 0, .int .u8 0, .int .u8 0, .int .u8 0, .int .u8 0, .int .u8 0, .int .u8 0, .int .u8 0, .int .u8 0, .int .u8 0, .int .u8 0, .int .u8 0, .int .u8 0, .int .u8 0])).run Tryd.prog w = .ok (decide (List.replicate 32 (0 : UInt8) = List.replicate 32 0)) w := h
  rw [h']; simp

end Go.Proofs.YtoddlbggbkabnaaDoor
