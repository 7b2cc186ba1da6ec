/-
  '==' of whole aggregates, asked where the order is drawn.
-/
import Derived.Test.YtekfcbedlokidaaGreatDoorH21
import Derived.Test.YtekfcbedlokidaaGreatDoorH22
import Derived.Test.YtekfcbedlokidaaGreatDoorH23
import Derived.Deep.AppendLies
import Derived.Deep.RegionLaw
namespace Go.Proofs.YtekfcbedlokidaaGreatDoor
open Go Go.RowKit
set_option maxRecDepth 100000
theorem wpQuiet_eql {P : Program} {ops : Array Oper} {C : World → Prop} {Q : Act → Prop} {a : Act} {o : Oper} {rest : List Oper} (hw : Region.wanted o (yielded ops a.tmps) = true) (ty rt : TypeId) (x y : Operand) (ho : o.op = .binOp .eql ty x y rt)
    (X Y : Array Value) (hx : a.eval x = .agg X) (hy : a.eval y = .agg Y) (hgt : P.eqGuardType P.depth ty = false) (B : Bool) (he : ∀ w, (Op.equalIn 10000 ty (.agg X) (.agg Y)).run P w = .ok B w)
    (h : wpQuiet P ops C Q rest (a.put o.dst (.bool B))) : wpQuiet P ops C Q (o :: rest) a := by
  unfold wpQuiet
  rw [if_pos hw]
  refine ⟨.bool B, fun w hC => ?_, h⟩
  have hq : ∀ w, (Op.equal ty (.agg X) (.agg Y)).run P w = .ok B w := he
  unfold Oper.quietAt execOp
  simp [ho, hx, hy, eqGuard, binOp, Sem.run_bind, hgt, hq, Oper.quietUpon]
theorem guard32 : Tryz.prog.eqGuardType Tryz.prog.depth 166 = false := by kernel_rfl
open Go Go.RowKit
set_option maxRecDepth 100000
def entL (e : Ent) : List Value := [.int .i64 e.1, .int .i64 e.2.1, .string ⟨e.2.2.toArray⟩]
def flat (L : List Ent) : List Value := L.flatMap entL
theorem flat_len (L : List Ent) : (flat L).length = 3 * L.length := by
  induction L with
  | nil => rfl
  | cons e L ih => unfold flat at *; rw [List.flatMap_cons, List.length_append, ih]; simp [entL]; omega
theorem flat_snoc (L : List Ent) (e : Ent) : flat (L ++ [e]) = flat L ++ entL e := by unfold flat; rw [List.flatMap_append]; simp
theorem flat_at (L : List Ent) (e0 : Ent) (j k : Nat) (hj : j < L.length) (hk : k < 3) : (flat L)[j * 3 + k]? = (entL (L.getD j e0))[k]? := by
  induction L generalizing j with
  | nil => simp at hj
  | cons e L ih =>
    unfold flat
    rw [List.flatMap_cons]
    cases j with
    | zero => rw [List.getElem?_append_left (by simp [entL]; omega)]; simp
    | succ j =>
      have h := ih j (by simpa using hj)
      unfold flat at h
      rw [List.getElem?_append_right (by simp [entL]; omega)]
      have e1 : (j + 1) * 3 + k - (entL e).length = j * 3 + k := by simp [entL]; omega
      rw [e1, h]; simp
def Lines (w : World) (v : Value) (L : List Ent) : Prop :=
  (v = .slice none 0 0 ∧ L = []) ∨ ∃ g cap cur, v = .slice (some ⟨g, 0, none⟩) L.length cap ∧ w.heap[g]? = some (.cells cur 166) ∧ cur.toList.take (3 * L.length) = flat L
theorem Lines.kept {w w' : World} {v : Value} {L : List Ent} (h : Lines w v L) (hb : Below w.heap.size w w') : Lines w' v L := by
  rcases h with h | ⟨g, cap, cur, hv, hg, ht⟩
  · exact .inl h
  · exact .inr ⟨g, cap, cur, hv, row_kept hg hb, ht⟩
theorem Lines.touch {w w' : World} {v : Value} {L : List Ent} {q : Nat} (h : Lines w v L) (ht : Touch q w w') (hq : ∀ cur, w.heap[q]? ≠ some (.cells cur 166)) : Lines w' v L := by
  rcases h with h | ⟨g, cap, cur, hv, hg, hc⟩
  · exact .inl h
  · exact .inr ⟨g, cap, cur, hv, row_touch hg ht (fun e => by subst e; exact hq cur hg), hc⟩
theorem Lines.form {w : World} {v : Value} {L : List Ent} (h : Lines w v L) : ∃ ao cap, v = .slice ao L.length cap := by
  rcases h with ⟨hv, rfl⟩ | ⟨g, cap, cur, hv, -, -⟩
  · exact ⟨none, 0, hv⟩
  · exact ⟨_, _, hv⟩
theorem Lines.at {w : World} {ao : Option Addr} {n cap : Nat} {L : List Ent} (h : Lines w (.slice ao n cap) L) (e0 : Ent) (j : Nat) (hj : j < L.length) :
    ∃ g, ao = some ⟨g, 0, none⟩ ∧ w.cell? ⟨g, j * 3, none⟩ = some (.int .i64 (L.getD j e0).1) ∧ w.cell? ⟨g, j * 3 + 1, none⟩ = some (.int .i64 (L.getD j e0).2.1) ∧ w.cell? ⟨g, j * 3 + 2, none⟩ = some (.string ⟨(L.getD j e0).2.2.toArray⟩) := by
  rcases h with ⟨hv, rfl⟩ | ⟨g, cap', cur, hv, hg, ht⟩
  · simp at hj
  · injection hv with h1 h2 h3
    have key : ∀ k, k < 3 → w.cell? ⟨g, j * 3 + k, none⟩ = (entL (L.getD j e0))[k]? := fun k hk => by
      rw [cell_of_row _ _ _ _ _ _ hg, ← flat_at L e0 j k hj hk, ← ht, List.getElem?_take, if_pos (by omega), Array.getElem?_toList]
    exact ⟨g, h1, key 0 (by omega), key 1 (by omega), key 2 (by omega)⟩
structure RefAt (w : World) (x : Nat) (s : List UInt8) (n : Nat) (v : Value) (L : List Ent) : Prop where
  obj : w.heap[x]? = some (.cells #[.string ⟨s.toArray⟩, .int .i64 n, v] 91)
  book : Lines w v L
section
variable {w w' : World} {x n : Nat} {s : List UInt8} {v : Value} {L : List Ent}
theorem RefAt.kept (r : RefAt w x s n v L) (hb : Below w.heap.size w w') : RefAt w' x s n v L := ⟨row_kept r.obj hb, r.book.kept hb⟩
theorem RefAt.other {q : Nat} {L' : List Ent} (r : RefAt w x s n v L) (hq : Book w q L') (ht : Touch q w w') : RefAt w' x s n v L :=
  ⟨row_touch r.obj ht (hq.ne r.obj), r.book.touch ht (fun _ hc => hq.ne hc rfl)⟩
theorem RefAt.c0 (r : RefAt w x s n v L) : w.cell? ⟨x, 0, none⟩ = some (.string ⟨s.toArray⟩) := by rw [cell_of_row _ _ _ _ _ _ r.obj]; rfl
theorem RefAt.c1 (r : RefAt w x s n v L) : w.cell? ⟨x, 1, none⟩ = some (.int .i64 n) := by rw [cell_of_row _ _ _ _ _ _ r.obj]; rfl
theorem RefAt.c2 (r : RefAt w x s n v L) : w.cell? ⟨x, 2, none⟩ = some v := by rw [cell_of_row _ _ _ _ _ _ r.obj]; rfl
theorem rnew_ok (s : List UInt8) (hs : s.length ≤ 64) (n : Nat) (h2 : 2 ≤ n) (h8 : n ≤ 8) (w : World) :
    Calls Tryz.prog 9 #[.string ⟨s.toArray⟩, .int .i64 (n : Int)] w fun e w' => ∃ x, e = .returned (.tuple #[.pointer (some ⟨x, 0, none⟩), .int .i64 0]) ∧ RefAt w' x s n (.slice none 0 0) [] ∧ Below w.heap.size w w' ∧ w.heap.size ≤ x := by
  have hsz : (⟨s.toArray⟩ : ByteArray).size = s.length := rfl
  have d2 : decide ((n : Int) < 2) = false := by simp; omega
  have d8 : decide ((8 : Int) < (n : Int)) = false := by simp; omega
  have d64 : decide ((64 : Int) < (s.length : Int)) = false := by simp; omega
  go_enter Tryz.func9, Tryz.ntmps9
  go_wp2
  go_ret2
  exact ⟨w.heap.size, rfl, ⟨top_row w _, .inl ⟨rfl, rfl⟩⟩, below_a1 w _, Nat.le_refl _⟩
set_option maxHeartbeats 4000000 in
theorem rmay_any (r : RefAt w x s n v L) (c d : Int) (t : List UInt8) (B : Bool) (hB : B = decide (May n (c, d, t))) :
    Calls Tryz.prog 120 #[.pointer (some ⟨x, 0, none⟩), .agg #[.int .i64 c, .int .i64 d, .string ⟨t.toArray⟩]] w fun e w' => e = .returned (.bool B) ∧ Below w.heap.size w w' := by
  have hw := may_ways n c d t B hB
  have hs : (⟨t.toArray⟩ : ByteArray).size = t.length := rfl
  clear hB
  have HB0 : Hid (Below w.heap.size w (w.alloc (.cells #[.int .i64 c, .int .i64 d, .string ⟨t.toArray⟩] 166))) := below_a1 w _
  have hq := top_row w (.cells #[.int .i64 c, .int .i64 d, .string ⟨t.toArray⟩] 166)
  have hq0 : (w.alloc (.cells #[.int .i64 c, .int .i64 d, .string ⟨t.toArray⟩] 166)).cell? ⟨w.heap.size, 0, none⟩ = some (.int .i64 c) := by rw [cell_of_row _ _ _ _ _ _ hq]; rfl
  have hq1 : (w.alloc (.cells #[.int .i64 c, .int .i64 d, .string ⟨t.toArray⟩] 166)).cell? ⟨w.heap.size, 1, none⟩ = some (.int .i64 d) := by rw [cell_of_row _ _ _ _ _ _ hq]; rfl
  have hq2 : (w.alloc (.cells #[.int .i64 c, .int .i64 d, .string ⟨t.toArray⟩] 166)).cell? ⟨w.heap.size, 2, none⟩ = some (.string ⟨t.toArray⟩) := by rw [cell_of_row _ _ _ _ _ _ hq]; rfl
  have hx1 := (r.kept HB0.out).c1
  clear hq r
  go_enter Tryz.func120, Tryz.ntmps120
  go_upto_region 1 with fail
  generalize w.alloc (.cells #[.int .i64 c, .int .i64 d, .string ⟨t.toArray⟩] 166) = w0 at *
  rcases hw with ⟨a1, a2, rfl⟩ | ⟨a1, a2, a3, rfl⟩ | ⟨a1, a2, a3, rfl⟩ | ⟨a1, a2, a3, rfl⟩ | ⟨a1, a2, a3, a4, rfl⟩ | ⟨a1, a2, a3, a4, rfl⟩ | ⟨a1, a2, a3, rfl⟩ | ⟨a1, a2, a3, a4, rfl⟩ | ⟨a1, a2, a3, a4, a5, rfl⟩ | ⟨a1, a2, a3, a4, a5, rfl⟩
  all_goals go_quiet (fail)
  all_goals go_wp2
  all_goals go_ret
  all_goals exact ⟨rfl, below_drawn HB0.out _⟩
end
open Go Go.RowKit
set_option maxRecDepth 100000
theorem infoLine : (Tryz.prog.info? 166).map (fun i => (i.zero, i.size, i.bytes)) = some (some (.agg #[.int .i64 0, .int .i64 0, .string ⟨#[]⟩]), 3, 32) := by kernel_rfl
def Row (w : World) (B : Nat) (v : Value) (n : Nat) (L : List Ent) : Prop := w.ownsRow B 166 3 v n (flat L)
theorem Row.lines {w : World} {B n : Nat} {g cap : Nat} {L : List Ent} (h : Row w B (.slice (some ⟨g, 0, none⟩) n cap) n L) (hn : n = L.length) : Lines w (.slice (some ⟨g, 0, none⟩) n cap) L := by
  subst hn
  rcases h.2 with ⟨hv, _⟩ | ⟨g', cap', cur, hv, hb, hg, h1, h2, h3, h4⟩
  · cases hv
  · injection hv with e1 e2 e3
    injection e1 with e1
    injection e1 with e1
    subst e1 e3
    exact .inr ⟨_, _, cur, rfl, hg, by rw [← h4, Nat.mul_comm]⟩
theorem Row.alloc {w : World} {B n : Nat} {v : Value} {L : List Ent} (h : Row w B v n L) (o : Obj) : Row (w.alloc o) B v n L := World.ownsRow.alloc h o
theorem flat_one (L : List Ent) : ∀ u ∈ flat L, u.oneCell' = true := by
  intro u hu
  obtain ⟨e, _, he⟩ := List.mem_flatMap.1 hu
  simp only [entL, List.mem_cons, List.not_mem_nil, or_false] at he
  rcases he with rfl | rfl | rfl <;> rfl
theorem run_app0 (W : World) (ty : TypeId) (ga : Nat) (ao : Option Addr) (cap : Nat) : (Builtin.append_ #[89, 89] ty #[.slice (some ⟨ga, 0, none⟩) 0 0, .slice ao 0 cap]).run Tryz.prog W = .ok (.slice (some ⟨ga, 0, none⟩) 0 0) W := by
  obtain ⟨i0, hi, hz0, hz1, hz2⟩ := info_parts infoLine
  have h0 : ∀ a' : Addr, (storeCells a' []).run Tryz.prog W = .ok () W := fun a' => rfl
  cases ao with
  | none => simp [Builtin.append_, run_underlying Tryz.underlying89, sizeOf, typeInfo, hi, Builtin.lenOf, Builtin.firstCells, Result.andThen, h0]
  | some b =>
    have hl : (loadCells b 0).run Tryz.prog W = .ok #[] W := run_loadCells_list (P := Tryz.prog) W b [] (fun j v hv => by simp at hv)
    simp [Builtin.append_, run_underlying Tryz.underlying89, sizeOf, typeInfo, hi, Builtin.lenOf, Builtin.firstCells, Result.andThen, h0, hl]
section
variable {ops : Array Oper} {o : Oper} {a : Act} {K : Act → World → Prop} {Q : Exit → Act → World → Prop} {E : Prop}
theorem step_app1 (W : World) (hgd : o.guard = none) (s x : Operand) (ho : o.op = .call { callee := .builtin .append, args := #[s, x], argTypes := #[89, 89] }) (ga : Nat) (hs : a.eval s = .slice (some ⟨ga, 0, none⟩) 0 0) (v : Value) (hx : a.eval x = v)
    (L : List Ent) (B : Nat) (hl : L.length ≤ 1000) (hv : Lines W v L) (hga : W.heap[ga]? = some (.cells #[] 166)) (hB : B ≤ ga)
    (h : ∀ g1 cap1 W', Row W' B (.slice (some ⟨g1, 0, none⟩) L.length cap1) L.length L → Below B W W' → (∀ k o, k ≠ ga → W.heap[k]? = some o → W'.heap[k]? = some o) → K (a.put o.dst (.slice (some ⟨g1, 0, none⟩) L.length cap1)) W') :
    if Region.wanted o (yielded ops a.tmps) = true then Oper.wp Tryz.prog o a W K Q else E := by
  obtain ⟨i0, hi, hz0, hz1, hz2⟩ := info_parts infoLine
  have hlt : ga < W.heap.size := row_lt hga
  have hown : W.ownsRow B 166 3 (.slice (some ⟨ga, 0, none⟩) 0 0) 0 [] := ⟨rfl, .inr ⟨ga, 0, #[], rfl, hB, hga, Nat.le_refl _, by unfold maxLen; omega, rfl, rfl⟩⟩
  by_cases hL : L = []
  · subst hL
    obtain ⟨ao, cap, rfl⟩ := hv.form
    have hw : Region.wanted o (yielded ops a.tmps) = true := by simp [Region.wanted, hgd]
    rw [if_pos hw]
    have hr := run_app0 W o.type ga ao cap
    unfold Oper.wp execOp
    simp only [ho, resolve, invoke, builtin, Sem.run_bind, Sem.run_pure, Result.andThen_ok, List.map_toArray, List.map_cons, List.map_nil, hs, hx]
    have hr' : (Builtin.append_ #[89, 89] o.type #[.slice (some ⟨ga, 0, none⟩) 0 0, .slice ao ([] : List Ent).length cap]).run Tryz.prog W = .ok (.slice (some ⟨ga, 0, none⟩) 0 0) W := hr
    rw [hr']
    exact h ga 0 W hown (Below.refl _ _) (fun _ _ _ hk => hk)
  · rcases hv with ⟨_, h0⟩ | ⟨g, cap, cur, hv, hg, ht⟩
    · exact absurd h0 hL
    · subst hv
      have hpos : 0 < L.length := List.length_pos_iff.2 hL
      refine step_append_lies W hgd s x 89 ho B 166 i0 _ 3 32 Tryz.underlying89 hi hz0 hz1 hz2 rfl (by omega) _ 0 [] hs hown ⟨g, 0, none⟩ L.length cap (flat L) hx (by rw [flat_len]; omega) ?_ (flat_one L) hpos (by unfold maxLen; omega) (by omega) (by omega) _ rfl ?_
      · intro j u hu
        have hj : j < 3 * L.length := by rw [← flat_len]; exact (List.getElem?_eq_some_iff.1 hu).1
        rw [add_none, Nat.zero_add, cell_of_row _ _ _ _ _ _ hg, ← Array.getElem?_toList]
        rw [← ht, List.getElem?_take, if_pos hj] at hu
        exact hu
      · intro g1 cap1 W' hown1 hgr hat hlt1
        rw [Nat.zero_add] at hown1 ⊢
        refine h g1 cap1 W' hown1 ((Below.refl _ _).grown hgr (by omega) (fun k hk => by simp [Value.ownBlock] at hk; omega)) (fun k o hk hko => ?_)
        rw [hgr.block k (row_lt hko) (by simp [Value.ownBlock]; omega)]
        exact hko
theorem step_app2 (W : World) (hgd : o.guard = none) (s x : Operand) (ho : o.op = .call { callee := .builtin .append, args := #[s, x], argTypes := #[89, 89] }) (g1 n cap1 : Nat) (hs : a.eval s = .slice (some ⟨g1, 0, none⟩) n cap1) (k : Nat) (hx : a.eval x = .slice (some ⟨k, 0, none⟩) 1 1)
    (L : List Ent) (B : Nat) (c d : Int) (t : List UInt8) (hl : n ≤ 1000) (hBW : B ≤ W.heap.size) (hrow : Row W B (.slice (some ⟨g1, 0, none⟩) n cap1) n L) (hk : W.heap[k]? = some (.cells #[.int .i64 c, .int .i64 d, .string ⟨t.toArray⟩] 166))
    (h : ∀ g2 cap2 W', Row W' B (.slice (some ⟨g2, 0, none⟩) (n + 1) cap2) (n + 1) (L ++ [(c, d, t)]) → Below B W W' → K (a.put o.dst (.slice (some ⟨g2, 0, none⟩) (n + 1) cap2)) W') :
    if Region.wanted o (yielded ops a.tmps) = true then Oper.wp Tryz.prog o a W K Q else E := by
  obtain ⟨i0, hi, hz0, hz1, hz2⟩ := info_parts infoLine
  have hgB : B ≤ g1 := by
    rcases hrow.2 with ⟨hv, _⟩ | ⟨g', cap', cur, hv, hb, _⟩
    · cases hv
    · injection hv with e1
      injection e1 with e1
      injection e1 with e1
      omega
  refine step_append_lies W hgd s x 89 ho B 166 i0 _ 3 32 Tryz.underlying89 hi hz0 hz1 hz2 rfl (by omega) _ n (flat L) hs hrow ⟨k, 0, none⟩ 1 1 [.int .i64 c, .int .i64 d, .string ⟨t.toArray⟩] hx rfl (World.news_of_block (cs := #[.int .i64 c, .int .i64 d, .string ⟨t.toArray⟩]) hk) (by simp [Value.oneCell']) (by omega) (by unfold maxLen; omega) (by omega) hBW _ rfl ?_
  intro g2 cap2 W' hown2 hgr hat hlt2
  refine h g2 cap2 W' ?_ ((Below.refl _ _).grown hgr hBW (fun k hk => by simp [Value.ownBlock] at hk; omega))
  unfold Row
  rw [flat_snoc]
  exact hown2
end
open Go Go.RowKit
set_option maxRecDepth 100000
section
variable {w : World} {x n : Nat} {s : List UInt8} {v : Value} {L : List Ent}
set_option maxHeartbeats 4000000 in
theorem of_any (r : RefAt w x s n v L) (hs : s.length ≤ 64) (c d : Int) (t : List UInt8) (hc : -9223372036854775808 ≤ c ∧ c ≤ 9223372036854775807) (hd : -9223372036854775808 ≤ d ∧ d ≤ 9223372036854775807) (ht : t.length ≤ 140737488351232) :
    Calls Tryz.prog 122 #[.pointer (some ⟨x, 0, none⟩), .agg #[.int .i64 c, .int .i64 d, .string ⟨t.toArray⟩]] w fun e w' => e = .returned (.agg ((tagB s (c, d, t)).map cb).toArray) ∧ Below w.heap.size w w' := by
  have HZ := zero25
  have hZs : Hid (zb32.size = 32) := show zb32.size = 32 from rfl
  have HRN := hid (fun W => Lay.refNumber_any d hd.1 hd.2 W)
  have HRM : Hid (∀ W, Calls Tryz.prog 142 #[.string ⟨s.toArray⟩, .string ⟨#[99, 108, 105, 101, 110, 116]⟩, .int .i64 c] W fun e w' => e = .returned (.string ⟨(keyB s c).toArray⟩) ∧ Below W.heap.size W w') := fun W => rmake_ok s (by omega) [99, 108, 105, 101, 110, 116] (by decide) c hc.1 hc.2 W
  have hil : (Lib.itoa d ++ [59]).length ≤ 22 := by rw [List.length_append]; have := Lay.itoa_len d hd.1 hd.2; simp; omega
  have hkl := keyB_len s c
  have HTG : Hid (∀ W, Calls Tryz.prog 141 #[.string ⟨(keyB s c).toArray⟩, .string ⟨((Lib.itoa d ++ [59]) ++ t).toArray⟩] W fun e w' => e = .returned (.agg ((tagB s (c, d, t)).map cb).toArray) ∧ Below W.heap.size W w') :=
    fun W => rtag_any (keyB s c) (by omega) ((Lib.itoa d ++ [59]) ++ t) (by rw [List.length_append]; omega) W
  have H1 := one_cb (tagB s (c, d, t))
  have hSl : ((tagB s (c, d, t)).map cb).length = 32 := by rw [List.length_map]; exact tagB_len _ _
  have hIn : (Tryz.prog.info? 23).map (·.size) = some ((tagB s (c, d, t)).map cb).length := by rw [hSl]; exact size25
  have hUn := Tryz.underlying23
  have hq0 := top_row w (.cells #[.int .i64 c, .int .i64 d, .string ⟨t.toArray⟩] 166)
  have hb0 := below_a1 w (.cells #[.int .i64 c, .int .i64 d, .string ⟨t.toArray⟩] 166)
  generalize hS : (tagB s (c, d, t)).map cb = S at *
  have HSe : Hid (Unit → S = (tagB s (c, d, t)).map cb) := fun _ => hS.symm
  clear hS
  generalize zb32 = Z at *
  have HB1 : Hid (Below w.heap.size w ((w.alloc (.cells #[.int .i64 c, .int .i64 d, .string ⟨t.toArray⟩] 166)).alloc (.cells Z 23))) := below_more hb0 _ (Nat.le_refl _)
  have hq1 : Hid (((w.alloc (.cells #[.int .i64 c, .int .i64 d, .string ⟨t.toArray⟩] 166)).alloc (.cells Z 23)).heap[w.heap.size]? = some (.cells #[.int .i64 c, .int .i64 d, .string ⟨t.toArray⟩] 166)) := row_kept hq0 (below_a1 _ _)
  have hr1 : Hid (((w.alloc (.cells #[.int .i64 c, .int .i64 d, .string ⟨t.toArray⟩] 166)).alloc (.cells Z 23)).heap[w.heap.size + 1]? = some (.cells Z 23)) := heap_alloc2_new w _ _
  have HR1 := hid (r.kept HB1.out)
  have hx1 : x ≠ w.heap.size + 1 := by have := row_lt r.obj; omega
  clear r hq0 hb0
  go_enter Tryz.func122, Tryz.ntmps122
  go_upto_region 1 with (first | (refine wpList_alloc_row rfl 23 rfl Z HZ ?_))
  generalize (w.alloc (.cells #[.int .i64 c, .int .i64 d, .string ⟨t.toArray⟩] 166)).alloc (.cells Z 23) = w1 at *
  have HH : Hid (∀ W, Below w1.heap.size w1 W → W.cell? ⟨x, 0, none⟩ = some (.string ⟨s.toArray⟩) ∧ W.cell? ⟨w.heap.size, 0, none⟩ = some (.int .i64 c) ∧ W.cell? ⟨w.heap.size, 1, none⟩ = some (.int .i64 d) ∧ W.cell? ⟨w.heap.size, 2, none⟩ = some (.string ⟨t.toArray⟩) ∧ W.there (w.heap.size + 1) 0 32) := by
    intro W hb
    have hq' := row_kept hq1.out hb
    refine ⟨(HR1.out.kept hb).c0, ?_, ?_, ?_, there_of_row (row_kept hr1.out hb) 32 (by rw [hZs.out]; omega)⟩
    · rw [cell_of_row _ _ _ _ _ _ hq']; rfl
    · rw [cell_of_row _ _ _ _ _ _ hq']; rfl
    · rw [cell_of_row _ _ _ _ _ _ hq']; rfl
  have HH2 : Hid (∀ W, Below w1.heap.size w1 W → (W.setCells (w.heap.size + 1) 0 S).cell? ⟨x, 0, none⟩ = some (.string ⟨s.toArray⟩) ∧ (W.setCells (w.heap.size + 1) 0 S).cell? ⟨w.heap.size, 0, none⟩ = some (.int .i64 c) ∧ (W.setCells (w.heap.size + 1) 0 S).cell? ⟨w.heap.size, 1, none⟩ = some (.int .i64 d) ∧ (W.setCells (w.heap.size + 1) 0 S).cell? ⟨w.heap.size, 2, none⟩ = some (.string ⟨t.toArray⟩) ∧ (W.setCells (w.heap.size + 1) 0 S).there (w.heap.size + 1) 0 32) := by
    intro W hb
    obtain ⟨e1, e3, e4, e5, e6⟩ := HH.out W hb
    refine ⟨?_, ?_, ?_, ?_, World.there_setCells e6 _ _ _⟩
    · rw [cell_setCells_far _ _ _ _ _ hx1]; exact e1
    · rw [cell_setCells_far _ _ _ _ _ (by show w.heap.size ≠ _; omega)]; exact e3
    · rw [cell_setCells_far _ _ _ _ _ (by show w.heap.size ≠ _; omega)]; exact e4
    · rw [cell_setCells_far _ _ _ _ _ (by show w.heap.size ≠ _; omega)]; exact e5
  generalize keyB s c = ky at *
  generalize Lib.itoa d ++ [59] = dd at *
  have hsd : (⟨dd.toArray⟩ : ByteArray).size = dd.length := rfl
  have hst : (⟨t.toArray⟩ : ByteArray).size = t.length := rfl
  have hbd : (dd.length : Int) ≤ 22 := by omega
  have hbt : (t.length : Int) ≤ 140737488351232 := by omega
  have happ : (⟨dd.toArray⟩ : ByteArray) ++ (⟨t.toArray⟩ : ByteArray) = ⟨(dd ++ t).toArray⟩ := ByteArray.mk_append_mk dd t
  have hadd : ∀ W, (Op.stringOp .add ⟨dd.toArray⟩ ⟨t.toArray⟩).run Tryz.prog W = .ok (.string ⟨(dd ++ t).toArray⟩) W := fun W => by
    have hh := run_string_add_sum (P := Tryz.prog) W ⟨dd.toArray⟩ ⟨t.toArray⟩ (by rw [hsd, hst]; omega)
    rw [happ] at hh
    exact hh
  have hsum : ((dd.length + t.length : Nat) : Int) ≤ 9223372036854775807 := by omega
  have hsum2 : (dd.length : Int) + (t.length : Int) ≤ 9223372036854775807 := by omega
  clear HR1 HZ hx1 hil hkl hc hd hq1
  go_region_held3 (fun W => W.cell? ⟨x, 0, none⟩ = some (.string ⟨s.toArray⟩) ∧ W.cell? ⟨w.heap.size, 0, none⟩ = some (.int .i64 c) ∧ W.cell? ⟨w.heap.size, 1, none⟩ = some (.int .i64 d) ∧ W.cell? ⟨w.heap.size, 2, none⟩ = some (.string ⟨t.toArray⟩) ∧ W.there (w.heap.size + 1) 0 32)
    (with_reducible first | exact HH2.out _ HBc | exact HH.out _ HBc | exact HH.out _ HBb | exact HH.out _ HBa | exact HH.out _ (Below.refl _ _).drew | exact HH.out _ (Below.refl _ _))
    (first | (go_at_call 142; refine (HRM.out _).mono ?_; rintro e W ⟨rfl, hb⟩; (first | (have HBb := HBa.trans (hb.mono HBa.size)) | (have HBa : Below w1.heap.size w1 _ := (Below.refl _ _).drew.trans hb)); clear hb) | (go_at_call 100; refine (HRN.out _).mono ?_; rintro e W ⟨rfl, hb⟩; (first | (have HBb := HBa.trans (hb.mono HBa.size)) | (have HBa : Below w1.heap.size w1 _ := (Below.refl _ _).drew.trans hb)); clear hb) | (go_at_call 141; refine (HTG.out _).mono ?_; rintro e W3 ⟨rfl, hb⟩; have HBc : Below w1.heap.size w1 W3 := HBb.trans (hb.mono HBb.size); clear hb))
  have HF : Hid ((W3.setCells (w.heap.size + 1) 0 S).heap[w.heap.size + 1]? = some (.cells S.toArray 23)) := row_setCells S _ W3 Z 23 (row_kept hr1.out HBc) (by rw [hSl, hZs.out])
  go_wp2
  refine bodyPost_ret_by (results_cell_row (fn := Tryz.f122) (p := 4) (ty := 23) (by kernel_rfl) _ _ (w.heap.size + 1) 23 S.toArray (0, 0) _ rfl HF.out Tryz.underlying23 rfl (by rw [List.size_toArray, hSl]; exact size25)) rfl ?_
  exact ⟨by rw [HSe.out ()], below_setCells _ (by omega) S 0 W3 (HB1.out.trans (HBc.mono HB1.out.size))⟩
end
open Go Go.RowKit
set_option maxRecDepth 100000
theorem rowL : (166 : TypeId) < Tryz.prog.types.size := of_decide_eq_true (by kernel_rfl)
theorem wideL : (match Tryz.prog.underlying 166 with | some (.array _ _) | some (.struct _) => true | _ => false) = true := by kernel_rfl
theorem keyTypeL : Tryz.prog.keyType 166 = true := by kernel_rfl
theorem cellsL : Tryz.prog.cellsOf 166 = 3 := by kernel_rfl
theorem keyedL : Maps.Keyed Tryz.prog 166 := Maps.Keyed.of_law (deep_law_laid laidOutE (m := 3) (by omega) rowL (by kernel_rfl) wideL)
theorem keyL {x : Ent} (h : EntWf x) : ∃ l, keyOf Tryz.prog 166 (entV x) = some l := by
  obtain ⟨n, hn⟩ := typesE
  obtain ⟨h1, h2, h3⟩ := h
  have h3' : (⟨x.2.2.toArray⟩ : ByteArray).size ≤ maxLen := h3
  unfold keyOf
  rw [Tryz.underlying166]
  simp only [keyTypeL, Bool.true_and, hn]
  have hf : (entV x).formed Tryz.prog 166 = true := by simp [entV, Value.formed, Tryz.underlying166, cellsL]
  rw [hf]
  simp [entV, Value.cells, Program.keyLits, Tryz.underlying166, Tryz.underlying3, Tryz.underlying9, cellsL, c3, c9, h1, h2, h3']
theorem equal32 (x y : Ent) (hx : EntWf x) (hy : EntWf y) (w : World) : (Op.equalIn 10000 166 (entV x) (entV y)).run Tryz.prog w = .ok (decide (x = y)) w := by
  obtain ⟨lx, hlx⟩ := keyL hx
  obtain ⟨ly, hly⟩ := keyL hy
  obtain ⟨r, hr, hiff⟩ := run_equal_deep (P := Tryz.prog) w (m := 3) (by omega) (by kernel_rfl) wideL hlx hly
  have e : r = decide (x = y) := by
    by_cases hxy : x = y
    · subst hxy
      rw [decide_eq_true rfl]
      exact hiff.2 (Option.some.inj (hlx.symm.trans hly))
    · rw [decide_eq_false hxy]
      cases r with
      | false => rfl
      | true =>
        exfalso
        apply hxy
        have e := hiff.1 rfl
        subst e
        exact entV_inj (keyedL.inj hlx hly)
  rw [← e]
  exact hr
open Go Go.RowKit
set_option maxRecDepth 100000
section
variable {w : World} {x n : Nat} {s : List UInt8} {v : Value} {L : List Ent}
set_option maxHeartbeats 4000000 in
theorem rmade_any (r : RefAt w x s n v L) (c d : Int) (t : List UInt8) (hx : EntWf (c, d, t)) (hL : ∀ e ∈ L, EntWf e) (hl : L.length ≤ 1000) :
    Calls Tryz.prog 121 #[.pointer (some ⟨x, 0, none⟩), .agg #[.int .i64 c, .int .i64 d, .string ⟨t.toArray⟩]] w fun e w' => e = .returned (.bool (decide ((c, d, t) ∈ L))) ∧ Below w.heap.size w w' := by
  obtain ⟨ao, cap, rfl⟩ := r.book.form
  have HB0 : Hid (Below w.heap.size w (w.alloc (.cells #[.int .i64 c, .int .i64 d, .string ⟨t.toArray⟩] 166))) := below_a1 w _
  have hq := hid (top_row w (.cells #[.int .i64 c, .int .i64 d, .string ⟨t.toArray⟩] 166))
  have R0 := hid (r.kept HB0.out)
  obtain ⟨B, hB⟩ : ∃ B, B = decide ((c, d, t) ∈ L) := ⟨_, rfl⟩
  rw [← hB]
  have HBe := hid hB
  clear r hB
  go_enter Tryz.func121, Tryz.ntmps121
  go_upto_region 1 with fail
  generalize w.alloc (.cells #[.int .i64 c, .int .i64 d, .string ⟨t.toArray⟩] 166) = w0 at *
  go_wp2
  go_loopw [5] (fun i w' => ∃ j : Nat, j ≤ L.length ∧ i = .int .i64 j ∧ Hid (∀ k, k < j → L.getD k (c, d, t) ≠ (c, d, t)) ∧ Hid (Below w0.heap.size w0 w')) (fun i _ => L.length - (intOf i).toNat)
  case atStart => exact ⟨0, by omega, rfl, fun k hk => absurd hk (by omega), Below.refl _ _⟩
  case round =>
    obtain ⟨j, hj, rfl, HN, HBr⟩ := hrel
    have Rr := hid (R0.out.kept HBr.out)
    have hqr := hid (row_kept hq.out HBr.out)
    by_cases hlt : j < L.length
    · obtain ⟨g, hao, e0, e1, e2⟩ := Rr.out.book.at (c, d, t) j hlt
      subst hao
      have hm : L.getD j (c, d, t) ∈ L := by rw [List.getD_eq_getElem?_getD, List.getElem?_eq_getElem hlt]; exact List.getElem_mem hlt
      have HE := fun W => equal32 (L.getD j (c, d, t)) (c, d, t) (hL _ hm) hx W
      obtain ⟨y, hy⟩ : ∃ y, y = L.getD j (c, d, t) := ⟨_, rfl⟩
      rw [← hy] at e0 e1 e2 HE
      have HY := hid hy
      clear hy hm
      obtain ⟨yc, yd, yt⟩ := y
      have hx2 := Rr.out.c2
      have HE32 : ∀ W, (Op.equalIn 10000 166 (.agg #[.int .i64 yc, .int .i64 yd, .string ⟨yt.toArray⟩]) (.agg #[.int .i64 c, .int .i64 d, .string ⟨t.toArray⟩])).run Tryz.prog W = .ok (decide ((yc, yd, yt) = (c, d, t))) W := HE
      clear HE
      have hj0 : (0 : Int) ≤ (j : Int) := Int.natCast_nonneg _
      have hj1 : (j : Int) < (L.length : Int) := by omega
      go_upto_region 4 with fail
      have f0 : ∀ dd os, (Sort.grow (redrawn wr dd) os).cell? ⟨g, j * 3, none⟩ = some (.int .i64 yc) := fun dd os => cell_regrown e0 _ _
      have f1 : ∀ dd os, (Sort.grow (redrawn wr dd) os).cell? ⟨g, j * 3 + 1, none⟩ = some (.int .i64 yd) := fun dd os => cell_regrown e1 _ _
      have f2 : ∀ dd os, (Sort.grow (redrawn wr dd) os).cell? ⟨g, j * 3 + 2, none⟩ = some (.string ⟨yt.toArray⟩) := fun dd os => cell_regrown e2 _ _
      have f3 : ∀ dd os, (Sort.grow (redrawn wr dd) os).cell? ⟨x, 2, none⟩ = some (.slice (some ⟨g, 0, none⟩) L.length cap) := fun dd os => cell_regrown hx2 _ _
      have f4 : ∀ dd os, (Sort.grow (redrawn wr dd) os).cell? ⟨w.heap.size, 0, none⟩ = some (.int .i64 c) := fun dd os => cell_regrown (by rw [cell_of_row _ _ _ _ _ _ hqr.out]; rfl) _ _
      have f5 : ∀ dd os, (Sort.grow (redrawn wr dd) os).cell? ⟨w.heap.size, 1, none⟩ = some (.int .i64 d) := fun dd os => cell_regrown (by rw [cell_of_row _ _ _ _ _ _ hqr.out]; rfl) _ _
      have f6 : ∀ dd os, (Sort.grow (redrawn wr dd) os).cell? ⟨w.heap.size, 2, none⟩ = some (.string ⟨t.toArray⟩) := fun dd os => cell_regrown (by rw [cell_of_row _ _ _ _ _ _ hqr.out]; rfl) _ _
      refine wp_region_quiet_below (by kernel_rfl) (by kernel_rfl) ?_
      iterate 8 (first | go_big_quiet_step (fail) | quiet_step (fail))
      refine wpQuiet_eql rfl 166 166 _ _ rfl #[.int .i64 yc, .int .i64 yd, .string ⟨yt.toArray⟩] #[.int .i64 c, .int .i64 d, .string ⟨t.toArray⟩] rfl rfl guard32 _ HE32 ?_
      simp only [Act.put, List.setIfInBounds_toArray, List.set_cons_zero, List.set_cons_succ]
      refine wpQuiet_nil ?_
      intro _ hw'
      obtain ⟨⟨dq, osq⟩, hw''⟩ := hw'
      subst hw''
      have HBf : Hid (Below w0.heap.size w0 (Sort.grow (redrawn wr dq) osq)) := HBr.out.trans ((below_regrown wr dq osq).mono HBr.out.size)
      clear f0 f1 f2 f3 f4 f5 f6 HE32 e0 e1 e2
      generalize Sort.grow (redrawn wr dq) osq = wz at *
      by_cases heq : (yc, yd, yt) = (c, d, t)
      · have hd1 : decide ((yc, yd, yt) = (c, d, t)) = true := decide_eq_true heq
        have HBt : Hid (B = true) := by
          show B = true
          rw [HBe.out]
          refine decide_eq_true ?_
          have := HY.out
          rw [← heq, this, List.getD_eq_getElem?_getD, List.getElem?_eq_getElem hlt]
          exact List.getElem_mem hlt
        rw [hd1]
        clear heq hd1
        go_wp2
        go_ret
        exact ⟨by rw [HBt.out]; rfl, HB0.out.trans (HBf.out.mono HB0.out.size)⟩
      · have hd1 : decide ((yc, yd, yt) = (c, d, t)) = false := decide_eq_false heq
        have HN' : Hid (∀ k, k < j + 1 → L.getD k (c, d, t) ≠ (c, d, t)) := fun k hk => by
          by_cases e : k = j
          · subst e; rw [← HY.out]; exact heq
          · exact HN.out k (by omega)
        rw [hd1]
        clear heq hd1
        go_wp2
        go_roundw
        case rel => exact ⟨j + 1, by omega, by go_num, HN', HBf⟩
        case measure => simp [intOf]; omega
    · obtain rfl : j = L.length := by omega
      have HBf : Hid (B = false) := by
        show B = false
        rw [HBe.out]
        refine decide_eq_false fun hm => ?_
        obtain ⟨k, hk, hke⟩ := List.getElem_of_mem hm
        exact HN.out k hk (by rw [List.getD_eq_getElem?_getD, List.getElem?_eq_getElem hk]; exact hke)
      have hx2 := Rr.out.c2
      go_wp2
      go_ret
      exact ⟨by rw [HBf.out]; rfl, HB0.out.trans (HBr.out.mono HB0.out.size)⟩
end
end Go.Proofs.YtekfcbedlokidaaGreatDoor
