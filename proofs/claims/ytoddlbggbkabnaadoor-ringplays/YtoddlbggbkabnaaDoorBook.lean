/-
  A ring's book: a map by structs that are compared, told by the list of what stands in it.
-/
import Derived.Test.YtoddlbggbkabnaaDoorAdd
import Derived.Test.YtoddlbggbkabnaaDoorBow
import Derived.Maps.OwnSet
import Derived.DeepKeys4
namespace Go.Proofs.YtoddlbggbkabnaaDoor
open Go Go.RowKit
open Go.WideElems (Fit rd rd_mk rd_key)
open Go.MapKept (stamped_push stamped_empty)
open Go.ChangeMaps (setBlock)
set_option maxRecDepth 100000

/-- What is tagged: the client, the domain, the text. -/
abbrev Ent := Int × Int × List UInt8
def entV (x : Ent) : Value := .agg #[.int .i64 x.1, .int .i64 x.2.1, .string ⟨x.2.2.toArray⟩]
def EntWf (x : Ent) : Prop := (Lit.int .i64 x.1).wf = true ∧ (Lit.int .i64 x.2.1).wf = true ∧ x.2.2.length ≤ maxLen

theorem entV_inj {x y : Ent} (h : entV x = entV y) : x = y := by
  obtain ⟨a, b, c⟩ := x
  obtain ⟨a', b', c'⟩ := y
  unfold entV at h
  simp only [Value.agg.injEq, Array.mk.injEq, List.cons.injEq, Value.int.injEq, true_and, Value.string.injEq, ByteArray.mk.injEq, and_true] at h
  obtain ⟨rfl, rfl, h⟩ := h
  have h' : c = c' := h
  rw [h']

theorem laidOutE : laidOutB Tryd.prog = true := by kernel_rfl
theorem rowE : (62 : TypeId) < Tryd.prog.types.size := of_decide_eq_true (by kernel_rfl)
theorem wideE : (match Tryd.prog.underlying 62 with | some (.array _ _) | some (.struct _) => true | _ => false) = true := by kernel_rfl
theorem keyTypeE : Tryd.prog.keyType 62 = true := by kernel_rfl
theorem cellsE : Tryd.prog.cellsOf 62 = 3 := by kernel_rfl
theorem keyedE : Maps.Keyed Tryd.prog 62 := Maps.Keyed.of_law (deep_law_laid laidOutE (m := 3) (by omega) rowE (by kernel_rfl) wideE)
theorem zeroU (w : World) : (zeroValue 73).run Tryd.prog w = .ok (.agg #[]) w := by kernel_rfl
theorem typesE : ∃ n, Tryd.prog.types.size + 1 = n + 2 := ⟨Tryd.prog.types.size - 1, by have h : 62 < Tryd.prog.types.size := rowE; omega⟩
theorem c3 : Tryd.prog.cellsOf 3 = 1 := by kernel_rfl
theorem c9 : Tryd.prog.cellsOf 9 = 1 := by kernel_rfl

theorem keyE {x : Ent} (h : EntWf x) : ∃ l, keyOf Tryd.prog 62 (entV x) = some l := by
  obtain ⟨n, hn⟩ := typesE
  obtain ⟨h1, h2, h3⟩ := h
  have h3' : (⟨x.2.2.toArray⟩ : ByteArray).size ≤ maxLen := h3
  unfold keyOf
  rw [Tryd.underlying62]
  simp only [keyTypeE, Bool.true_and, hn]
  have hf : (entV x).formed Tryd.prog 62 = true := by simp [entV, Value.formed, Tryd.underlying62, cellsE]
  rw [hf]
  simp [entV, Value.cells, Program.keyLits, Tryd.underlying62, Tryd.underlying3, Tryd.underlying9, cellsE, c3, c9, h1, h2, h3']

/-- Block b is a book that has just these. -/
def Book (w : World) (b : Nat) (L : List Ent) : Prop :=
  ∃ es clock, w.heap[b]? = some (.map es clock) ∧ Fit Tryd.prog 62 (unitElem (H := Unit)) es clock ∧ es.toList.map (·.key) = L.map entV

theorem book_new (w : World) : Book (w.alloc (.map #[] 0)) w.heap.size [] := ⟨#[], 0, top_row w _, ⟨by simp, stamped_empty 0, by simp⟩, rfl⟩
theorem Book.lt {w : World} {b : Nat} {L : List Ent} (h : Book w b L) : b < w.heap.size := by
  obtain ⟨es, clock, hb, _⟩ := h
  exact (Array.getElem?_eq_some_iff.1 hb).1
theorem Book.at {w w' : World} {b : Nat} {L : List Ent} (h : Book w b L) (e : w'.heap[b]? = w.heap[b]?) : Book w' b L := by
  obtain ⟨es, clock, hb, r⟩ := h
  exact ⟨es, clock, e.trans hb, r⟩
theorem Book.kept {w w' : World} {b : Nat} {L : List Ent} (h : Book w b L) (hb : Below w.heap.size w w') : Book w' b L := h.at (hb.block b h.lt)
theorem Book.ne {w : World} {b p : Nat} {L : List Ent} {cs : Array Value} {t : TypeId} {f : Nat × Nat} (h : Book w b L) (hp : w.heap[p]? = some (.cells cs t f)) : p ≠ b := by
  obtain ⟨es, clock, hb, _⟩ := h
  intro e
  subst e
  rw [hb] at hp
  cases hp

theorem book_look {w : World} {b : Nat} {L : List Ent} (h : Book w b L) {x : Ent} (hx : EntWf x) :
    (Instr.lookup 58 (.map (some b)) (entV x) true).run Tryd.prog w = .ok (.tuple #[.agg #[], .bool (decide (x ∈ L))]) w := by
  obtain ⟨es, clock, hb, F, hk⟩ := h
  obtain ⟨l, hl⟩ := keyE hx
  rcases Maps.fit_look true keyedE Tryd.underlying58 (zeroU w) hb F hl with ⟨hrun, hne, _⟩ | ⟨e0, y, hm, he, hrun, hv, _⟩
  · have hn : x ∉ L := fun hm => by
      have : entV x ∈ es.toList.map (·.key) := by rw [hk]; exact List.mem_map.2 ⟨x, hm, rfl⟩
      obtain ⟨e, he, hee⟩ := List.mem_map.1 this
      exact hne e he hee
    rw [hrun, decide_eq_false hn]; rfl
  · have hn : x ∈ L := by
      have : entV x ∈ L.map entV := by rw [← hk]; exact List.mem_map.2 ⟨e0, hm, he⟩
      obtain ⟨y, hy, hyy⟩ := List.mem_map.1 this
      rw [← entV_inj hyy]; exact hy
    obtain ⟨hv1, _⟩ := unitElem_inv hv
    rw [hrun, decide_eq_true hn, hv1]; rfl

theorem book_len {w : World} {b : Nat} {L : List Ent} (h : Book w b L) (ty : TypeId) : (Builtin.len_ #[58] ty #[.map (some b)]).run Tryd.prog w = .ok (.int .i64 L.length) w := by
  obtain ⟨es, clock, hb, F, hk⟩ := h
  have e1 : es.size = L.length := by have := congrArg List.length hk; simpa using this
  rw [← e1]
  simp [Builtin.len_, run_underlying Tryd.underlying58, MapKept.run_getObj_map hb, goInt, Result.andThen]

theorem touch_setBlock (w : World) (b : Nat) (o : Obj) : Touch b w (setBlock w b o) :=
  ⟨rfl, rfl, rfl, by simp [setBlock], fun k hk hp => by unfold setBlock; show (w.heap.setIfInBounds b o)[k]? = _; rw [Array.getElem?_setIfInBounds_ne (Ne.symm hp)]⟩

theorem book_put {w : World} {b : Nat} {L : List Ent} (h : Book w b L) {x : Ent} (hx : EntWf x) (hn : x ∉ L) (hr : L.length < 1000000) :
    ∃ w', (Instr.mapUpdate 58 (.map (some b)) (entV x) (.agg #[])).run Tryd.prog w = .ok () w' ∧ Book w' b (L ++ [x]) ∧ Touch b w w' := by
  obtain ⟨es, clock, hb, F, hk⟩ := h
  obtain ⟨l, hl⟩ := keyE hx
  have e1 : es.size = L.length := by have := congrArg List.length hk; simpa using this
  have hkeys : ∀ e ∈ es.toList, ∃ l, keyOf Tryd.prog 62 e.key = some l := fun e he => by
    obtain ⟨y, hy⟩ := F.reads e he
    exact ⟨_, rd_key hy⟩
  rcases keyedE.find w hl es.toList hkeys with ⟨h1, h2⟩ | ⟨j, e0, h1, h2, h3⟩
  · refine ⟨setBlock w b (.map (es.push ⟨entV x, .agg #[], clock⟩) (clock + 1)), ?_, ⟨_, _, ChangeMaps.heap_setBlock_same hb _, ⟨by simp [maxLen]; omega, stamped_push F.stamped h2, ?_⟩, ?_⟩, touch_setBlock _ _ _⟩
    · simp [Instr.mapUpdate, run_underlying Tryd.underlying58, MapKept.run_getObj_map hb, keyedE.check w false hl, h1, MapKept.run_setObj_map _ hb, Result.andThen, setBlock]
    · intro e he
      simp only [Array.toList_push, List.mem_append, List.mem_singleton] at he
      rcases he with he | rfl
      · exact F.reads e he
      · exact ⟨_, rd_mk hl unitElem_mk⟩
    · simp [hk]
  · exfalso
    apply hn
    have : entV x ∈ L.map entV := by rw [← hk]; exact List.mem_map.2 ⟨e0, List.mem_of_getElem? h2, h3⟩
    obtain ⟨y, hy, hyy⟩ := List.mem_map.1 this
    rw [← entV_inj hyy]; exact hy

end Go.Proofs.YtoddlbggbkabnaaDoor
