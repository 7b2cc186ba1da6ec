/-
  A ring in memory: its own cells, the clients' keys that its function holds, its book. Its looks.
-/
import Derived.Test.YtoddlbggbkabnaaDoorMgen
import Derived.Test.YtoddlbggbkabnaaDoorBook
import Derived.Deep.RegionHeld3
import Derived.WalkKit
import Derived.WalkSpells
import Derived.StillTactics
import Derived.Laws.Pointers
namespace Go.Proofs.YtoddlbggbkabnaaDoor
open Go Go.RowKit
set_option maxRecDepth 100000

def keyB (s : List UInt8) (c : Int) : List UInt8 := makeB s [99, 108, 105, 101, 110, 116] c
def secB (s : List UInt8) : List UInt8 := makeB s [115, 101, 99, 114, 101, 116] 0
/-- A client's tag. -/
def tagB (s : List UInt8) (x : Ent) : List UInt8 := hmac (keyB s x.1) ((Lib.itoa x.2.1 ++ [59]) ++ x.2.2)
theorem keyB_len (s : List UInt8) (c : Int) : (keyB s c).length = 32 := makeB_len _ _ _
theorem secB_len (s : List UInt8) : (secB s).length = 32 := makeB_len _ _ _
theorem tagB_len (s : List UInt8) (x : Ent) : (tagB s x).length = 32 := hmac_len _ _
/-- May it be tagged? -/
abbrev May (n : Nat) (x : Ent) : Prop := 0 ≤ x.1 ∧ x.1 < n ∧ 1 ≤ x.2.1 ∧ x.2.1 ≤ 6 ∧ x.2.2.length ≤ 16384
theorem May.wf {n : Nat} {x : Ent} (h : May n x) (hn : n ≤ 8) : EntWf x := by
  obtain ⟨h0, h1, h2, h3, h4⟩ := h
  refine ⟨WalkArith.wf_i64 (by omega), WalkArith.wf_i64 (by omega), by unfold maxLen; omega⟩

def keyRow (s : List UInt8) (n : Nat) : List Value := (List.range n).map fun (i : Nat) => Value.string ⟨(keyB s i).toArray⟩

structure RingAt (w : World) (p h g b : Nat) (s : List UInt8) (n : Nat) (L : List Ent) : Prop where
  obj : w.heap[p]? = some (.cells #[.int .i64 n, .string ⟨(secB s).toArray⟩, .func (.func 37) #[] #[.pointer (some ⟨h, 0, none⟩)], .map (some b)] 60)
  var : w.heap[h]? = some (.cells #[.slice (some ⟨g, 0, none⟩) n n] 71)
  keys : w.heap[g]? = some (.cells (keyRow s n).toArray 9)
  book : Book w b L

theorem RingAt.kept {w w' : World} {p h g b n : Nat} {s : List UInt8} {L : List Ent} (r : RingAt w p h g b s n L) (hb : Below w.heap.size w w') : RingAt w' p h g b s n L :=
  ⟨row_kept r.obj hb, row_kept r.var hb, row_kept r.keys hb, r.book.kept hb⟩
/-- Another ring's book has grown. -/
theorem RingAt.other {w w' : World} {p h g b n q : Nat} {s : List UInt8} {L L' : List Ent} (r : RingAt w p h g b s n L) (hq : Book w q L') (hne : b ≠ q) (ht : Touch q w w') : RingAt w' p h g b s n L :=
  ⟨row_touch r.obj ht (hq.ne r.obj), row_touch r.var ht (hq.ne r.var), row_touch r.keys ht (hq.ne r.keys), r.book.at (ht.block b r.book.lt hne)⟩
/-- Its own book has grown. -/
theorem RingAt.grown {w w' : World} {p h g b n : Nat} {s : List UInt8} {L L' : List Ent} (r : RingAt w p h g b s n L) (hq : Book w' b L') (ht : Touch b w w') : RingAt w' p h g b s n L' :=
  ⟨row_touch r.obj ht (r.book.ne r.obj), row_touch r.var ht (r.book.ne r.var), row_touch r.keys ht (r.book.ne r.keys), hq⟩
theorem keyRow_at (s : List UInt8) (n i : Nat) (h : i < n) : (keyRow s n)[i]? = some (.string ⟨(keyB s i).toArray⟩) := by
  unfold keyRow
  rw [List.getElem?_map, List.getElem?_range h]; rfl
theorem RingAt.key {w : World} {p h g b n : Nat} {s : List UInt8} {L : List Ent} (r : RingAt w p h g b s n L) (i : Nat) (hi : i < n) : w.cell? ⟨g, i, none⟩ = some (.string ⟨(keyB s i).toArray⟩) := by
  rw [cell_of_row _ _ _ _ _ _ r.keys, List.getElem?_toArray, keyRow_at s n i hi]
theorem RingAt.c0 {w : World} {p h g b n : Nat} {s : List UInt8} {L : List Ent} (r : RingAt w p h g b s n L) : w.cell? ⟨p, 0, none⟩ = some (.int .i64 n) := by rw [cell_of_row _ _ _ _ _ _ r.obj]; rfl
theorem RingAt.c1 {w : World} {p h g b n : Nat} {s : List UInt8} {L : List Ent} (r : RingAt w p h g b s n L) : w.cell? ⟨p, 1, none⟩ = some (.string ⟨(secB s).toArray⟩) := by rw [cell_of_row _ _ _ _ _ _ r.obj]; rfl
theorem RingAt.c2 {w : World} {p h g b n : Nat} {s : List UInt8} {L : List Ent} (r : RingAt w p h g b s n L) : w.cell? ⟨p, 2, none⟩ = some (.func (.func 37) #[] #[.pointer (some ⟨h, 0, none⟩)]) := by rw [cell_of_row _ _ _ _ _ _ r.obj]; rfl
theorem RingAt.c3 {w : World} {p h g b n : Nat} {s : List UInt8} {L : List Ent} (r : RingAt w p h g b s n L) : w.cell? ⟨p, 3, none⟩ = some (.map (some b)) := by rw [cell_of_row _ _ _ _ _ _ r.obj]; rfl
theorem RingAt.v0 {w : World} {p h g b n : Nat} {s : List UInt8} {L : List Ent} (r : RingAt w p h g b s n L) : w.cell? ⟨h, 0, none⟩ = some (.slice (some ⟨g, 0, none⟩) n n) := by rw [cell_of_row _ _ _ _ _ _ r.var]; rfl

section
variable {w : World} {p h g b n : Nat} {s : List UInt8} {L : List Ent}

theorem clients_any (r : RingAt w p h g b s n L) : Calls Tryd.prog 21 #[.pointer (some ⟨p, 0, none⟩)] w fun e w' => e = .returned (.int .i64 n) ∧ w' = w := by
  have hc := r.c0
  clear r
  go_enter Tryd.func21, Tryd.ntmps21
  go_wp2
  go_ret
  exact ⟨rfl, rfl⟩
theorem clients_nil (w : World) : Calls Tryd.prog 21 #[.pointer none] w fun e w' => e = .returned (.int .i64 0) ∧ w' = w := by
  go_enter Tryd.func21, Tryd.ntmps21
  go_wp2
  go_ret
  exact ⟨rfl, rfl⟩
theorem rlen_any (r : RingAt w p h g b s n L) : Calls Tryd.prog 20 #[.pointer (some ⟨p, 0, none⟩)] w fun e w' => e = .returned (.int .i64 L.length) ∧ w' = w := by
  have hc := r.c3
  have hl := book_len r.book
  clear r
  go_enter Tryd.func20, Tryd.ntmps20
  go_wp2
  go_ret
  exact ⟨rfl, rfl⟩
theorem rlen_nil (w : World) : Calls Tryd.prog 20 #[.pointer none] w fun e w' => e = .returned (.int .i64 0) ∧ w' = w := by
  go_enter Tryd.func20, Tryd.ntmps20
  go_wp2
  go_ret
  exact ⟨rfl, rfl⟩
theorem secret_any (r : RingAt w p h g b s n L) : Calls Tryd.prog 22 #[.pointer (some ⟨p, 0, none⟩)] w fun e w' => e = .returned (.string ⟨(secB s).toArray⟩) ∧ w' = w := by
  have hc := r.c1
  generalize secB s = l at *
  clear r
  go_enter Tryd.func22, Tryd.ntmps22
  go_wp2
  go_ret
  exact ⟨rfl, rfl⟩
theorem secret_nil (w : World) : Calls Tryd.prog 22 #[.pointer none] w fun e w' => e = .returned (.string ⟨#[]⟩) ∧ w' = w := by
  go_enter Tryd.func22, Tryd.ntmps22
  go_wp2
  go_ret
  exact ⟨rfl, rfl⟩
end

end Go.Proofs.YtoddlbggbkabnaaDoor
