/-
  A ring's book: a map by structs that are compared, told by the list of what stands in it.
-/
import Derived.Test.YtmfpmajkjhmliaaGreatDoorG18
import Derived.Test.YtmfpmajkjhmliaaGreatDoorG04
import Derived.Test.YtmfpmajkjhmliaaGreatDoorG17
import Derived.Maps.OwnSet
import Derived.DeepKeys4
import Derived.Test.YtmfpmajkjhmliaaGreatDoorG21
import Derived.Deep.RegionHeld3
import Derived.WalkKit
import Derived.WalkSpells
import Derived.StillTactics
import Derived.Laws.Pointers
namespace Go.Proofs.YtmfpmajkjhmliaaGreatDoor
open Go Go.RowKit
open Go.WideElems (Fit rd rd_mk rd_key)
open Go.MapKept (stamped_push stamped_empty)
open Go.ChangeMaps (setBlock)
set_option maxRecDepth 100000
abbrev Ent := Int × Int × List UInt8
def entV (x : Ent) : Value := .agg #[.int .i64 x.1, .int .i64 x.2.1, .string ⟨x.2.2.toArray⟩]
def EntWf (x : Ent) : Prop := (Lit.int .i64 x.1).wf = true ∧ (Lit.int .i64 x.2.1).wf = true ∧ x.2.2.length ≤ maxLen
theorem entV_inj {x y : Ent} (h : entV x = entV y) : x = y := by
  obtain ⟨a, b, c⟩ := x
  obtain ⟨a', b', c'⟩ := y
  unfold entV at h
  simp only [Value.agg.injEq, Array.mk.injEq, List.cons.injEq, Value.int.injEq, true_and, Value.string.injEq, ByteArray.mk.injEq, and_true] at h
  obtain ⟨rfl, rfl, h⟩ := h
  have h' : c = c' := h
  rw [h']
theorem laidOutE : laidOutB Tryz.prog = true := by kernel_rfl
theorem rowE : (166 : TypeId) < Tryz.prog.types.size := of_decide_eq_true (by kernel_rfl)
theorem wideE : (match Tryz.prog.underlying 166 with | some (.array _ _) | some (.struct _) => true | _ => false) = true := by kernel_rfl
theorem keyTypeE : Tryz.prog.keyType 166 = true := by kernel_rfl
theorem cellsE : Tryz.prog.cellsOf 166 = 3 := by kernel_rfl
theorem keyedE : Maps.Keyed Tryz.prog 166 := Maps.Keyed.of_law (deep_law_laid laidOutE (m := 3) (by omega) rowE (by kernel_rfl) wideE)
theorem zeroU (w : World) : (zeroValue 209).run Tryz.prog w = .ok (.agg #[]) w := by kernel_rfl
theorem typesE : ∃ n, Tryz.prog.types.size + 1 = n + 2 := ⟨Tryz.prog.types.size - 1, by have h : 166 < Tryz.prog.types.size := rowE; omega⟩
theorem c3 : Tryz.prog.cellsOf 3 = 1 := by kernel_rfl
theorem c9 : Tryz.prog.cellsOf 9 = 1 := by kernel_rfl
theorem keyE {x : Ent} (h : EntWf x) : ∃ l, keyOf Tryz.prog 166 (entV x) = some l := by
  obtain ⟨n, hn⟩ := typesE
  obtain ⟨h1, h2, h3⟩ := h
  have h3' : (⟨x.2.2.toArray⟩ : ByteArray).size ≤ maxLen := h3
  unfold keyOf
  rw [Tryz.underlying166]
  simp only [keyTypeE, Bool.true_and, hn]
  have hf : (entV x).formed Tryz.prog 166 = true := by simp [entV, Value.formed, Tryz.underlying166, cellsE]
  rw [hf]
  simp [entV, Value.cells, Program.keyLits, Tryz.underlying166, Tryz.underlying3, Tryz.underlying9, cellsE, c3, c9, h1, h2, h3']
def Book (w : World) (b : Nat) (L : List Ent) : Prop :=
  ∃ es clock, w.heap[b]? = some (.map es clock) ∧ Fit Tryz.prog 166 (unitElem (H := Unit)) es clock ∧ es.toList.map (·.key) = L.map entV
theorem book_new (w : World) : Book (w.alloc (.map #[] 0)) w.heap.size [] := ⟨#[], 0, top_row w _, ⟨by simp, stamped_empty 0, by simp⟩, rfl⟩
theorem Book.lt {w : World} {b : Nat} {L : List Ent} (h : Book w b L) : b < w.heap.size := by
  obtain ⟨es, clock, hb, _⟩ := h
  exact (Array.getElem?_eq_some_iff.1 hb).1
theorem Book.at {w w' : World} {b : Nat} {L : List Ent} (h : Book w b L) (e : w'.heap[b]? = w.heap[b]?) : Book w' b L := by
  obtain ⟨es, clock, hb, r⟩ := h
  exact ⟨es, clock, e.trans hb, r⟩
theorem Book.kept {w w' : World} {b : Nat} {L : List Ent} (h : Book w b L) (hb : Below w.heap.size w w') : Book w' b L := h.at (hb.block b h.lt)
theorem Book.ne {w : World} {b p : Nat} {L : List Ent} {cs : Array Value} {t : TypeId} {f : Nat × Nat} (h : Book w b L) (hp : w.heap[p]? = some (.cells cs t f)) : p ≠ b := by
  obtain ⟨es, clock, hb, _⟩ := h
  intro e
  subst e
  rw [hb] at hp
  cases hp
theorem book_look {w : World} {b : Nat} {L : List Ent} (h : Book w b L) {x : Ent} (hx : EntWf x) :
    (Instr.lookup 103 (.map (some b)) (entV x) true).run Tryz.prog w = .ok (.tuple #[.agg #[], .bool (decide (x ∈ L))]) w := by
  obtain ⟨es, clock, hb, F, hk⟩ := h
  obtain ⟨l, hl⟩ := keyE hx
  rcases Maps.fit_look true keyedE Tryz.underlying103 (zeroU w) hb F hl with ⟨hrun, hne, _⟩ | ⟨e0, y, hm, he, hrun, hv, _⟩
  · have hn : x ∉ L := fun hm => by
      have : entV x ∈ es.toList.map (·.key) := by rw [hk]; exact List.mem_map.2 ⟨x, hm, rfl⟩
      obtain ⟨e, he, hee⟩ := List.mem_map.1 this
      exact hne e he hee
    rw [hrun, decide_eq_false hn]; rfl
  · have hn : x ∈ L := by
      have : entV x ∈ L.map entV := by rw [← hk]; exact List.mem_map.2 ⟨e0, hm, he⟩
      obtain ⟨y, hy, hyy⟩ := List.mem_map.1 this
      rw [← entV_inj hyy]; exact hy
    obtain ⟨hv1, _⟩ := unitElem_inv hv
    rw [hrun, decide_eq_true hn, hv1]; rfl
theorem touch_setBlock (w : World) (b : Nat) (o : Obj) : Touch b w (setBlock w b o) :=
  ⟨rfl, rfl, rfl, by simp [setBlock], fun k hk hp => by unfold setBlock; show (w.heap.setIfInBounds b o)[k]? = _; rw [Array.getElem?_setIfInBounds_ne (Ne.symm hp)]⟩
open Go Go.RowKit
set_option maxRecDepth 100000
def keyB (s : List UInt8) (c : Int) : List UInt8 := makeB s [99, 108, 105, 101, 110, 116] c
def secB (s : List UInt8) : List UInt8 := makeB s [115, 101, 99, 114, 101, 116] 0
def tagB (s : List UInt8) (x : Ent) : List UInt8 := hmac (keyB s x.1) ((Lib.itoa x.2.1 ++ [59]) ++ x.2.2)
theorem keyB_len (s : List UInt8) (c : Int) : (keyB s c).length = 32 := makeB_len _ _ _
theorem tagB_len (s : List UInt8) (x : Ent) : (tagB s x).length = 32 := hmac_len _ _
abbrev May (n : Nat) (x : Ent) : Prop := 0 ≤ x.1 ∧ x.1 < n ∧ 1 ≤ x.2.1 ∧ x.2.1 ≤ 6 ∧ x.2.2.length ≤ 16384
theorem May.wf {n : Nat} {x : Ent} (h : May n x) (hn : n ≤ 8) : EntWf x := by
  obtain ⟨h0, h1, h2, h3, h4⟩ := h
  refine ⟨WalkArith.wf_i64 (by omega), WalkArith.wf_i64 (by omega), by unfold maxLen; omega⟩
def keyRow (s : List UInt8) (n : Nat) : List Value := (List.range n).map fun (i : Nat) => Value.string ⟨(keyB s i).toArray⟩
structure RingAt (w : World) (p h g b : Nat) (s : List UInt8) (n : Nat) (L : List Ent) : Prop where
  obj : w.heap[p]? = some (.cells #[.int .i64 n, .string ⟨(secB s).toArray⟩, .func (.func 90) #[] #[.pointer (some ⟨h, 0, none⟩)], .map (some b)] 105)
  var : w.heap[h]? = some (.cells #[.slice (some ⟨g, 0, none⟩) n n] 46)
  keys : w.heap[g]? = some (.cells (keyRow s n).toArray 9)
  book : Book w b L
theorem RingAt.kept {w w' : World} {p h g b n : Nat} {s : List UInt8} {L : List Ent} (r : RingAt w p h g b s n L) (hb : Below w.heap.size w w') : RingAt w' p h g b s n L :=
  ⟨row_kept r.obj hb, row_kept r.var hb, row_kept r.keys hb, r.book.kept hb⟩
theorem RingAt.grown {w w' : World} {p h g b n : Nat} {s : List UInt8} {L L' : List Ent} (r : RingAt w p h g b s n L) (hq : Book w' b L') (ht : Touch b w w') : RingAt w' p h g b s n L' :=
  ⟨row_touch r.obj ht (r.book.ne r.obj), row_touch r.var ht (r.book.ne r.var), row_touch r.keys ht (r.book.ne r.keys), hq⟩
theorem keyRow_at (s : List UInt8) (n i : Nat) (h : i < n) : (keyRow s n)[i]? = some (.string ⟨(keyB s i).toArray⟩) := by
  unfold keyRow
  rw [List.getElem?_map, List.getElem?_range h]; rfl
theorem RingAt.key {w : World} {p h g b n : Nat} {s : List UInt8} {L : List Ent} (r : RingAt w p h g b s n L) (i : Nat) (hi : i < n) : w.cell? ⟨g, i, none⟩ = some (.string ⟨(keyB s i).toArray⟩) := by
  rw [cell_of_row _ _ _ _ _ _ r.keys, List.getElem?_toArray, keyRow_at s n i hi]
theorem RingAt.c0 {w : World} {p h g b n : Nat} {s : List UInt8} {L : List Ent} (r : RingAt w p h g b s n L) : w.cell? ⟨p, 0, none⟩ = some (.int .i64 n) := by rw [cell_of_row _ _ _ _ _ _ r.obj]; rfl
theorem RingAt.c2 {w : World} {p h g b n : Nat} {s : List UInt8} {L : List Ent} (r : RingAt w p h g b s n L) : w.cell? ⟨p, 2, none⟩ = some (.func (.func 90) #[] #[.pointer (some ⟨h, 0, none⟩)]) := by rw [cell_of_row _ _ _ _ _ _ r.obj]; rfl
theorem RingAt.c3 {w : World} {p h g b n : Nat} {s : List UInt8} {L : List Ent} (r : RingAt w p h g b s n L) : w.cell? ⟨p, 3, none⟩ = some (.map (some b)) := by rw [cell_of_row _ _ _ _ _ _ r.obj]; rfl
theorem RingAt.v0 {w : World} {p h g b n : Nat} {s : List UInt8} {L : List Ent} (r : RingAt w p h g b s n L) : w.cell? ⟨h, 0, none⟩ = some (.slice (some ⟨g, 0, none⟩) n n) := by rw [cell_of_row _ _ _ _ _ _ r.var]; rfl
section
variable {w : World} {p h g b n : Nat} {s : List UInt8} {L : List Ent}
theorem clients_any (r : RingAt w p h g b s n L) : Calls Tryz.prog 106 #[.pointer (some ⟨p, 0, none⟩)] w fun e w' => e = .returned (.int .i64 n) ∧ w' = w := by
  have hc := r.c0
  clear r
  go_enter Tryz.func106, Tryz.ntmps106
  go_wp2
  go_ret
  exact ⟨rfl, rfl⟩
end
end Go.Proofs.YtmfpmajkjhmliaaGreatDoor
