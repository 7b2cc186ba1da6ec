/-
  A store of blobs in memory; what its functions that change nothing answer.
-/
import Derived.Test.YtjpclmkkccffhaaBmp
import Derived.Test.YtjpclmkkccffhaaBrg
import Derived.DeepKeys4
import Derived.Lib.SmallJoins
namespace Go.Proofs.Ytjpclmkkccffhaa.Bl
open Go Go.RowKit Go.Maps
set_option maxRecDepth 100000

def I64 (n : Int) : Prop := -9223372036854775808 ≤ n ∧ n < 9223372036854775808
theorem I64.wf {n : Int} (h : I64 n) : (Lit.int .i64 n).wf = true := WalkArith.wf_i64 ⟨h.1, by have := h.2; omega⟩
/-- The key of a place. -/
abbrev pk (o n : Int) : Value := .agg #[nu o, nu n]
theorem pk_inj {o n o' n' : Int} (h : pk o n = pk o' n') : o = o' ∧ n = n' := by simpa [pk] using h
theorem laidOut : laidOutB Try.prog = true := by kernel_rfl
theorem rowPl : (57 : TypeId) < Try.prog.types.size := of_decide_eq_true (by kernel_rfl)
theorem widePl : (match Try.prog.underlying 57 with | some (.array _ _) | some (.struct _) => true | _ => false) = true := by kernel_rfl
theorem lawPl : Keyed Try.prog 57 := Keyed.of_law (deep_law_laid laidOut (m := 2) (by omega) rowPl (by kernel_rfl) widePl)
theorem keyTypePl : Try.prog.keyType 57 = true := by kernel_rfl
theorem cellsPl : Try.prog.cellsOf 57 = 2 := by kernel_rfl
theorem cellsIn : Try.prog.cellsOf 3 = 1 := by kernel_rfl
theorem lits_int (d : Nat) (n : Int) (h : I64 n) : Try.prog.keyLits (d + 1) 3 [nu n] = some [.int .i64 n] := by
  unfold Program.keyLits
  rw [Try.underlying3]
  simp [h.wf]
theorem key_pk (o n : Int) (ho : I64 o) (hn : I64 n) : ∃ l, keyOf Try.prog 57 (pk o n) = some l := by
  have hs : Try.prog.types.size + 1 = (Try.prog.types.size - 1) + 1 + 1 := by
    have := of_decide_eq_true (show decide (0 < Try.prog.types.size) = true by kernel_rfl)
    omega
  refine ⟨.string (keyBytes [.int .i64 o, .int .i64 n]), ?_⟩
  unfold keyOf
  rw [Try.underlying57]
  simp only [keyTypePl, Value.formed, Try.underlying57, cellsPl]
  rw [hs]
  unfold Program.keyLits
  rw [Try.underlying57]
  simp [cellsPl, cellsIn, Value.cells, lits_int _ _ ho, lits_int _ _ hn]

def kvB (b : Blo) : Value × Value := (pk b.owner b.number, .agg (bloC b).toArray)
theorem may_i64 {b : Blo} (h : mayB b = true) : I64 b.owner ∧ I64 b.number := by
  have := (mayB_iff b).1 h
  unfold I64
  omega
/-- The store in block s, its map in block m: what it has. -/
structure StAt (w : World) (s m : Nat) (L : List Blo) : Prop where
  obj : w.heap[s]? = some (.cells #[.map (some m)] 61)
  map : MapAt w m (L.map kvB)
  inv : Inv L
section
variable {w w' : World} {s m : Nat} {L : List Blo}
theorem StAt.ne (h : StAt w s m L) : s ≠ m := by
  intro e
  obtain ⟨es, clock, h1, -⟩ := h.map
  rw [← e, h.obj] at h1
  cases h1
theorem StAt.cell (h : StAt w s m L) : w.cell? ⟨s, 0, none⟩ = some (.map (some m)) := by rw [cell_of_row _ _ _ _ _ _ h.obj]; rfl
theorem StAt.kp {X : List Nat} (h : StAt w s m L) (hk : Kp X w w') (h1 : s ∉ X) (h2 : m ∉ X) : StAt w' s m L :=
  ⟨hk.row h.obj h1, h.map.same (hk.block m h.map.lt h2), h.inv⟩
theorem StAt.kept (h : StAt w s m L) (hb : Below w.heap.size w w') : StAt w' s m L := h.kp (X := []) (Kp.of hb) (by simp) (by simp)
theorem StAt.drew (h : StAt w s m L) : StAt w.drew s m L := ⟨h.obj, h.map.same rfl, h.inv⟩
theorem keysL (h : Inv L) : ∀ p ∈ L.map kvB, ∃ l, keyOf Try.prog 57 p.1 = some l := by
  intro p hp
  obtain ⟨b, hb, rfl⟩ := List.mem_map.1 hp
  have := may_i64 (h.ok b hb).1
  exact key_pk _ _ this.1 this.2
/-- Looked up: the one that is hit. -/
theorem find_of (h : Inv L) {o n : Int} {x : Blo} (hx : x ∈ L) (h1 : x.owner = o ∧ x.number = n) : L.find? (hitB o n) = some x := by
  have ha := h.apart
  clear h
  induction L with
  | nil => cases hx
  | cons b L ih =>
    rw [List.find?_cons]
    rw [List.pairwise_cons] at ha
    rcases List.mem_cons.1 hx with rfl | hx
    · rw [(hitB_iff o n x).2 h1]
    · have : hitB o n b = false := by
        cases e : hitB o n b
        · rfl
        · have := (hitB_iff o n b).1 e
          exact absurd ⟨this.1.trans h1.1.symm, this.2.trans h1.2.symm⟩ (ha.1 x hx)
      rw [this]
      exact ih hx ha.2
theorem find_no {o n : Int} (h : ∀ p ∈ L.map kvB, p.1 ≠ pk o n) : L.find? (hitB o n) = none := by
  rw [List.find?_eq_none]
  intro b hb e
  have := (hitB_iff o n b).1 e
  refine h (kvB b) (List.mem_map.2 ⟨b, hb, rfl⟩) ?_
  show pk b.owner b.number = _
  rw [this.1, this.2]
theorem find_yes (h : Inv L) {o n : Int} {p : Value × Value} (hp : p ∈ L.map kvB) (h1 : p.1 = pk o n) : ∃ x, x ∈ L ∧ L.find? (hitB o n) = some x ∧ p.2 = .agg (bloC x).toArray := by
  obtain ⟨b, hb, rfl⟩ := List.mem_map.1 hp
  exact ⟨b, hb, find_of h hb (pk_inj h1), rfl⟩

theorem run_equalIn_map_nil {P : Program} (w : World) (d : Nat) (t k e : TypeId) (b : Nat) (h : P.underlying t = some (.map k e)) : (Op.equalIn (d + 1) t (.map (some b)) (.map none)).run P w = .ok false w := by
  simp [Op.equalIn, run_underlying h]
theorem run_equal_map_nil {P : Program} (w : World) (t k e : TypeId) (b : Nat) (h : P.underlying t = some (.map k e)) : (Op.equal t (.map (some b)) (.map none)).run P w = .ok false w := run_equalIn_map_nil w 9999 t k e b h
theorem run_neq_map_nil {P : Program} (w : World) (t k e : TypeId) (b : Nat) (h : P.underlying t = some (.map k e)) : (binOp .neq t (.map (some b)) (.map none)).run P w = .ok (.bool true) w := by
  simp only [binOp]
  simp [run_equal_map_nil w t k e b h]
theorem made_any (h : StAt w s m L) : Calls Try.prog 21 #[ptr s 0] w fun e w' => e = .returned (.bool true) ∧ w' = w := by
  have c0 := h.cell
  have hq := fun w => run_neq_map_nil (P := Try.prog) w 59 _ _ m Try.underlying59
  clear h
  go_enter Try.func21, Try.ntmps21
  go_wp2
  go_ret
  exact ⟨rfl, rfl⟩
theorem made_nil (w : World) : Calls Try.prog 21 #[.pointer none] w fun e w' => e = .returned (.bool false) ∧ w' = w := by
  go_enter Try.func21, Try.ntmps21
  go_wp2
  go_ret
  exact ⟨rfl, rfl⟩
end
theorem new_any (w : World) : Calls Try.prog 15 #[] w fun e w' => e = .returned (ptr (w.heap.size + 1) 0) ∧ StAt w' (w.heap.size + 1) w.heap.size [] ∧ Below w.heap.size w w' := by
  have hmm := @run_makeMap Try.prog
  go_enter Try.func15, Try.ntmps15
  go_wp2
  go_ret
  refine ⟨by simp, ⟨?_, ?_, inv_nil⟩, (below_a1 w _).alloc (by simp) _⟩
  · have := top_obj (w.alloc (.map #[] 0)) (.cells #[.map (some w.heap.size)] 61)
    simpa using this
  · exact (MapAt.new w).same (heap_old1 _ _ _ (by simp))
end Go.Proofs.Ytjpclmkkccffhaa.Bl
