/-
  Maps in memory, entry by entry: what a look, a store at a new key, a deletion, a count and a range over them do. No program plays a part.
-/
import Derived.Test.YtjpclmkkccffhaaBlw
import Derived.Maps.Keyed
import Derived.Maps.OwnOps
import Derived.Maps.OwnSet
import Derived.Maps.RangeRun
import Derived.Maps.RangeWalk
namespace Go.Proofs.Ytjpclmkkccffhaa.Bl
open Go Go.RowKit Go.Maps
open Go.ChangeMaps (setBlock)
set_option maxRecDepth 100000

def kv (e : MapEntry) : Value × Value := (e.key, e.val)
/-- A map in memory: its entries in order. -/
def MapAt (w : World) (b : Nat) (M : List (Value × Value)) : Prop :=
  ∃ es clock, w.heap[b]? = some (.map es clock) ∧ es.toList.map kv = M ∧ (∀ e ∈ es.toList, e.born < clock) ∧ (es.toList.map (·.born)).Nodup
theorem MapAt.same {w w' : World} {b : Nat} {M : List (Value × Value)} (h : MapAt w b M) (hk : w'.heap[b]? = w.heap[b]?) : MapAt w' b M := by
  obtain ⟨es, clock, h1, h2⟩ := h
  exact ⟨es, clock, hk.trans h1, h2⟩
theorem MapAt.lt {w : World} {b : Nat} {M : List (Value × Value)} (h : MapAt w b M) : b < w.heap.size := by
  obtain ⟨es, clock, h1, -⟩ := h
  exact row_lt h1
theorem MapAt.new (w : World) : MapAt (w.alloc (.map #[] 0)) w.heap.size [] := ⟨#[], 0, top_obj w _, rfl, by simp, by simp⟩
theorem heap_setB {w : World} {b : Nat} {o : Obj} (o' : Obj) (h : w.heap[b]? = some o) : (setBlock w b o').heap[b]? = some o' ∧ ∀ k, k ≠ b → (setBlock w b o').heap[k]? = w.heap[k]? := by
  have hb := row_lt h
  refine ⟨by simp [setBlock, hb], fun k hk => ?_⟩
  have hk' : b ≠ k := fun e => hk e.symm
  simp [setBlock, hk']
theorem kp_setB {w : World} {b : Nat} {o : Obj} (o' : Obj) (h : w.heap[b]? = some o) : Kp [b] w (setBlock w b o') :=
  ⟨rfl, rfl, rfl, by simp [setBlock], fun k _ hx => (heap_setB o' h).2 k (fun e => hx (by simp [e]))⟩

section
variable {P : Program} {w : World} {t k e : TypeId} {b : Nat} {M : List (Value × Value)}
theorem keys_of {es : Array MapEntry} (hM : es.toList.map kv = M) (hks : ∀ p ∈ M, ∃ l, keyOf P k p.1 = some l) : ∀ x ∈ es.toList, ∃ l, keyOf P k x.key = some l := by
  intro x hx
  exact hks (kv x) (by rw [← hM]; exact List.mem_map.2 ⟨x, hx, rfl⟩)
theorem map_lookup (h : MapAt w b M) (K : Keyed P k) (ht : P.underlying t = some (.map k e)) {z : Value} (hz : (zeroValue e).run P w = .ok z w) (hks : ∀ p ∈ M, ∃ l, keyOf P k p.1 = some l) {x : Value} {lx : Lit} (hx : keyOf P k x = some lx) :
    ((∀ p ∈ M, p.1 ≠ x) ∧ (Instr.lookup t (.map (some b)) x true).run P w = .ok (.tuple #[z, .bool false]) w) ∨
    ∃ p, p ∈ M ∧ p.1 = x ∧ (Instr.lookup t (.map (some b)) x true).run P w = .ok (.tuple #[p.2, .bool true]) w := by
  obtain ⟨es, clock, hb, hM, hs, hn⟩ := h
  rcases K.find w hx es.toList (keys_of hM hks) with ⟨h1, h2⟩ | ⟨j, e0, h1, h2, h3⟩
  · refine Or.inl ⟨fun p hp => ?_, by simp [Instr.lookup, run_underlying ht, MapKept.run_getObj_map hb, K.check w _ hx, h1, hz, Result.andThen]⟩
    rw [← hM] at hp
    obtain ⟨y, hy, rfl⟩ := List.mem_map.1 hp
    exact h2 y hy
  · refine Or.inr ⟨kv e0, by rw [← hM]; exact List.mem_map.2 ⟨e0, List.mem_of_getElem? h2, rfl⟩, h3, ?_⟩
    simp [Instr.lookup, run_underlying ht, MapKept.run_getObj_map hb, K.check w _ hx, h1, Result.andThen, kv]
theorem map_update (h : MapAt w b M) (K : Keyed P k) (ht : P.underlying t = some (.map k e)) (hks : ∀ p ∈ M, ∃ l, keyOf P k p.1 = some l) {x : Value} {lx : Lit} (hx : keyOf P k x = some lx) (hnew : ∀ p ∈ M, p.1 ≠ x) (v : Value) :
    ∃ w', (Instr.mapUpdate t (.map (some b)) x v).run P w = .ok () w' ∧ MapAt w' b (M ++ [(x, v)]) ∧ Kp [b] w w' := by
  obtain ⟨es, clock, hb, hM, hs, hn⟩ := h
  rcases K.find w hx es.toList (keys_of hM hks) with ⟨h1, h2⟩ | ⟨j, e0, h1, h2, h3⟩
  · refine ⟨setBlock w b (.map (es.push ⟨x, v, clock⟩) (clock + 1)), ?_, ⟨_, _, (heap_setB _ hb).1, ?_, ?_, ?_⟩, kp_setB _ hb⟩
    · simp [Instr.mapUpdate, run_underlying ht, MapKept.run_getObj_map hb, K.check w false hx, h1, MapKept.run_setObj_map _ hb, Result.andThen, setBlock]
    · rw [← hM]; simp [kv]
    · intro y hy
      simp only [Array.toList_push, List.mem_append, List.mem_singleton] at hy
      rcases hy with hy | rfl
      · have := hs y hy; omega
      · exact Nat.lt_succ_self _
    · simp only [Array.toList_push, List.map_append, List.map_cons, List.map_nil]
      rw [List.nodup_append]
      refine ⟨hn, by simp, fun a ha c hc => ?_⟩
      obtain ⟨y, hy, rfl⟩ := List.mem_map.1 ha
      rw [List.mem_singleton.1 hc]
      have := hs y hy
      omega
  · exact absurd h3 (hnew (kv e0) (by rw [← hM]; exact List.mem_map.2 ⟨e0, List.mem_of_getElem? h2, rfl⟩))
theorem map_delete (h : MapAt w b M) (K : Keyed P k) (ht : P.underlying t = some (.map k e)) (hks : ∀ p ∈ M, ∃ l, keyOf P k p.1 = some l) {x : Value} {lx : Lit} (hx : keyOf P k x = some lx) (ty : TypeId) :
    ∃ w', (Builtin.delete_ #[t, k] ty #[.map (some b), x]).run P w = .ok (.tuple #[]) w' ∧ Kp [b] w w' ∧ (((∀ p ∈ M, p.1 ≠ x) ∧ MapAt w' b M) ∨ ∃ j p, M[j]? = some p ∧ p.1 = x ∧ MapAt w' b (M.eraseIdx j)) := by
  obtain ⟨es, clock, hb, hM, hs, hn⟩ := h
  rcases K.find w hx es.toList (keys_of hM hks) with ⟨h1, h2⟩ | ⟨j, e0, h1, h2, h3⟩
  · refine ⟨setBlock w b (.map es clock), ?_, kp_setB _ hb, Or.inl ⟨fun p hp => ?_, _, _, (heap_setB _ hb).1, hM, hs, hn⟩⟩
    · simp [Builtin.delete_, run_underlying ht, MapKept.run_getObj_map hb, K.check w _ hx, h1, MapKept.run_setObj_map _ hb, Result.andThen, setBlock]
    · rw [← hM] at hp
      obtain ⟨y, hy, rfl⟩ := List.mem_map.1 hp
      exact h2 y hy
  · have hjl : j < es.toList.length := (List.getElem?_eq_some_iff.1 h2).1
    have hjs : j < es.size := by simpa using hjl
    have hsub : (es.eraseIdxIfInBounds j).toList = es.toList.eraseIdx j := by
      unfold Array.eraseIdxIfInBounds
      rw [dif_pos hjs]
      simp
    refine ⟨setBlock w b (.map (es.eraseIdxIfInBounds j) clock), ?_, kp_setB _ hb, Or.inr ⟨j, kv e0, ?_, h3, _, _, (heap_setB _ hb).1, ?_, ?_, ?_⟩⟩
    · simp [Builtin.delete_, run_underlying ht, MapKept.run_getObj_map hb, K.check w _ hx, h1, MapKept.run_setObj_map _ hb, Result.andThen, setBlock]
    · rw [← hM, List.getElem?_map, h2]; rfl
    · rw [hsub, Go.ChangeMaps.map_eraseIdx, hM]
    · intro y hy
      rw [hsub] at hy
      exact hs y ((List.eraseIdx_sublist _ _).subset hy)
    · rw [hsub]
      exact hn.sublist ((List.eraseIdx_sublist _ _).map _)
theorem map_len (h : MapAt w b M) (ht : P.underlying t = some (.map k e)) (ty : TypeId) : (Builtin.len_ #[t] ty #[.map (some b)]).run P w = .ok (.int .i64 (M.length : Nat)) w := by
  obtain ⟨es, clock, hb, hM, hs, hn⟩ := h
  have : M.length = es.size := by rw [← hM]; simp
  rw [this]
  simp [Builtin.len_, run_underlying ht, MapKept.run_getObj_map hb, goInt, Result.andThen]
end

/-- A range over a map: the iterator in block r; what has come, and what is still to come. -/
def RAt (w : World) (b r : Nat) (M dn left : List (Value × Value)) : Prop :=
  r ≠ b ∧ (dn ++ left).Perm M ∧ ∃ es clock seen since c0, w.heap[b]? = some (.map es clock) ∧ es.toList.map kv = M ∧ (∀ e ∈ es.toList, e.born < clock) ∧ (es.toList.map (·.born)).Nodup ∧
    w.heap[r]? = some (.mapIter (some b) since seen c0) ∧ (∀ x ∈ es.toList, x.born < since) ∧ since ≤ c0 ∧ since ≤ clock ∧ (leftOf es seen).toList.map kv = left
theorem RAt.map {w : World} {b r : Nat} {M dn left : List (Value × Value)} (h : RAt w b r M dn left) : MapAt w b M := by
  obtain ⟨-, -, es, clock, seen, since, c0, h1, h2, h3, h4, -⟩ := h
  exact ⟨es, clock, h1, h2, h3, h4⟩
theorem RAt.same {w w' : World} {b r : Nat} {M dn left : List (Value × Value)} (h : RAt w b r M dn left) (hb : w'.heap[b]? = w.heap[b]?) (hr : w'.heap[r]? = w.heap[r]?) : RAt w' b r M dn left := by
  obtain ⟨h0, hp, es, clock, seen, since, c0, h1, h2, h3, h4, h5, h6⟩ := h
  exact ⟨h0, hp, es, clock, seen, since, c0, hb.trans h1, h2, h3, h4, hr.trans h5, h6⟩
theorem RAt.lt {w : World} {b r : Nat} {M dn left : List (Value × Value)} (h : RAt w b r M dn left) : b < w.heap.size ∧ r < w.heap.size := by
  obtain ⟨h0, hp, es, clock, seen, since, c0, h1, h2, h3, h4, h5, h6⟩ := h
  exact ⟨row_lt h1, row_lt h5⟩
theorem RAt.kept {w w' : World} {b r : Nat} {M dn left : List (Value × Value)} (h : RAt w b r M dn left) (hk : Below w.heap.size w w') : RAt w' b r M dn left := h.same (hk.block b h.lt.1) (hk.block r h.lt.2)
theorem left_push {es : Array MapEntry} {seen : Array Nat} {x : MapEntry} (hn : (es.toList.map (·.born)).Nodup) (hx : x ∈ (leftOf es seen).toList) : (x :: (leftOf es (seen.push x.born)).toList).Perm (leftOf es seen).toList := by
  have e1 : (leftOf es (seen.push x.born)).toList = (leftOf es seen).toList.filter (fun y => !(y.born == x.born)) := by
    unfold leftOf
    rw [Array.toList_filter, Array.toList_filter, List.filter_filter]
    refine List.filter_congr (fun y _ => ?_)
    rw [contains_push]
    cases seen.contains y.born <;> cases (y.born == x.born) <;> rfl
  have hn' : ((leftOf es seen).toList.map (·.born)).Nodup := by
    unfold leftOf
    rw [Array.toList_filter]
    exact hn.sublist (List.filter_sublist.map _)
  rw [e1]
  generalize (leftOf es seen).toList = l at hx hn'
  induction l with
  | nil => cases hx
  | cons y l ih =>
    rw [List.map_cons, List.nodup_cons] at hn'
    rw [List.filter_cons]
    by_cases e : y.born = x.born
    · have hyx : x = y := by
        rcases List.mem_cons.1 hx with h | h
        · exact h
        · exact absurd (by rw [e]; exact List.mem_map.2 ⟨x, h, rfl⟩) hn'.1
      subst hyx
      have hall : l.filter (fun y => !(y.born == x.born)) = l := by
        refine List.filter_eq_self.2 (fun z hz => ?_)
        have : z.born ≠ x.born := fun e => hn'.1 (by rw [← e]; exact List.mem_map.2 ⟨z, hz, rfl⟩)
        simp [this]
      simp [hall]
    · have hx' : x ∈ l := by
        rcases List.mem_cons.1 hx with h | h
        · exact absurd (by rw [h]) e
        · exact h
      simp only [e, Bool.not_eq_true', beq_eq_false_iff_ne, ne_eq, not_false_eq_true, if_true]
      exact (List.Perm.swap _ _ _).trans ((ih hx' hn'.2).cons y)
section
variable {P : Program} {w : World} {t k e : TypeId} {b r : Nat} {M dn left : List (Value × Value)}
theorem map_range (h : MapAt w b M) (ht : P.underlying t = some (.map k e)) :
    ∃ w', (Instr.range t (.map (some b))).run P w = .ok (ptr w.heap.size 0) w' ∧ RAt w' b w.heap.size M [] M ∧ Below w.heap.size w w' := by
  have hlt := h.lt
  obtain ⟨es, clock, hb, hM, hs, hn⟩ := h
  refine ⟨_, run_range_map w t k e b es clock ht hb, ⟨by omega, by simp, es, clock, #[], clock, clock, (heap_old1 w _ b hlt).trans hb, hM, hs, hn, top_obj w _, hs, Nat.le_refl _, Nat.le_refl _, ?_⟩, below_a1 w _⟩
  rw [← hM]
  simp only [leftOf, Array.toList_filter]
  rw [List.filter_eq_self.2 (fun x _ => by simp)]
theorem map_next (h : RAt w b r M dn left) (ty : TypeId) :
    (left = [] ∧ (Instr.next (ptr r 0) false ty).run P w = .ok (.tuple #[.bool false]) w) ∨
    ∃ p left' w', (p :: left').Perm left ∧ (Instr.next (ptr r 0) false ty).run P w = .ok (.tuple #[.bool true, p.1, p.2]) w' ∧ RAt w' b r M (dn ++ [p]) left' ∧ Kp [r] w w' ∧ w'.heap.size = w.heap.size ∧ (Instr.entry (ptr r 0)).run P w' = .ok (.tuple #[p.1, p.2]) w' := by
  obtain ⟨hne, hp, es, clock, seen, since, c0, hb, hM, hs, hn, hr, hold, hsc, hsk, hl⟩ := h
  rcases run_next_at (P := P) w ty r b since c0 seen es clock hr hb hold hsc with ⟨h0, hrun⟩ | ⟨x, hx, w1, hal, hrun⟩
  · refine Or.inl ⟨?_, hrun⟩
    have : leftOf es seen = #[] := Array.eq_empty_of_size_eq_zero h0
    rw [← hl, this]
    rfl
  · have hr1 : w1.heap[r]? = some (.mapIter (some b) since seen c0) := by rcases hal with rfl | rfl <;> exact hr
    have hb1 : w1.heap[b]? = some (.map es clock) := by rcases hal with rfl | rfl <;> exact hb
    have hset := heap_setB (.mapIter (some b) since (seen.push x.born) clock) hr1
    have hb' : (setBlock w1 r (.mapIter (some b) since (seen.push x.born) clock)).heap[b]? = some (.map es clock) := (hset.2 b (fun e1 => hne e1.symm)).trans hb1
    have hpp : (kv x :: (leftOf es (seen.push x.born)).toList.map kv).Perm left := by
      rw [← hl]
      exact (left_push hn hx).map kv
    refine Or.inr ⟨kv x, (leftOf es (seen.push x.born)).toList.map kv, _, hpp, hrun, ⟨hne, ?_, es, clock, seen.push x.born, since, clock, hb', hM, hs, hn, hset.1, hold, hsk, hsk, rfl⟩, ?_, ?_, ?_⟩
    · rw [List.append_assoc]
      exact ((List.Perm.refl dn).append hpp).trans hp
    · rcases hal with rfl | rfl
      · exact kp_setB _ hr1
      · have := kp_setB (.mapIter (some b) since (seen.push x.born) clock) hr1
        exact ⟨this.os, this.tape, this.output, this.size, this.block⟩
    · rcases hal with rfl | rfl <;> simp [setBlock]
    · exact run_entry_at _ r b since seen es clock x hset.1 hb' (mem_left hx).1 hn
end

/-! ### At the operations -/
section
variable {P : Program} {w : World} {ops : Array Oper} {rest : List Oper} {o : Oper} {a : Act} {Q : Exit → Act → World → Prop} {t k e : TypeId} {b r : Nat} {M dn left : List (Value × Value)}
theorem wl_range (hg : o.guard = none) (m : Operand) (hop : o.op = Op.range t m) (ht : P.underlying t = some (.map k e)) (hm : a.eval m = .map (some b)) (h : MapAt w b M)
    (hK : ∀ w', RAt w' b w.heap.size M [] M → Below w.heap.size w w' → wpList P ops Q rest (a.put o.dst (ptr w.heap.size 0)) w') : wpList P ops Q (o :: rest) a w := by
  refine wpList_plain hg fun K' hK' => ?_
  obtain ⟨w', hrun, r1, r2⟩ := map_range h ht
  unfold Oper.wp
  simp [execOp, hop, hm, hrun, Result.andThen]
  exact hK' _ _ (hK w' r1 r2)
theorem wl_next (hg : o.guard = none) (it : Operand) (hop : o.op = Op.next it false) (hit : a.eval it = ptr r 0) (h : RAt w b r M dn left)
    (hDone : left = [] → wpList P ops Q rest (a.put o.dst (.tuple #[.bool false])) w)
    (hMore : ∀ kx vx left' w', ((kx, vx) :: left').Perm left → RAt w' b r M (dn ++ [(kx, vx)]) left' → Kp [r] w w' → w'.heap.size = w.heap.size → (Instr.entry (ptr r 0)).run P w' = .ok (.tuple #[kx, vx]) w' → wpList P ops Q rest (a.put o.dst (.tuple #[.bool true, kx, vx])) w') :
    wpList P ops Q (o :: rest) a w := by
  refine wpList_plain hg fun K' hK' => ?_
  unfold Oper.wp
  rcases map_next (P := P) h o.type with ⟨h0, hrun⟩ | ⟨⟨kx, vx⟩, left', w', hp, hrun, hr, hk, hs, he⟩
  · simp [execOp, hop, hit, hrun, Result.andThen]
    exact hK' _ _ (hDone h0)
  · simp [execOp, hop, hit, hrun, Result.andThen]
    exact hK' _ _ (hMore kx vx left' w' hp hr hk hs he)
theorem wl_delete (hg : o.guard = none) (m x : Operand) (hop : o.op = Op.call { callee := Callee.builtin Builtin.delete, args := #[m, x], argTypes := #[t, k] })
    (K : Keyed P k) (ht : P.underlying t = some (.map k e)) (hm : a.eval m = .map (some b)) (h : MapAt w b M) (hks : ∀ p ∈ M, ∃ l, keyOf P k p.1 = some l) (key : Value) (kl : Lit) (hx : a.eval x = key) (hkey : keyOf P k key = some kl)
    (hK : ∀ w', Kp [b] w w' → (((∀ p ∈ M, p.1 ≠ key) ∧ MapAt w' b M) ∨ ∃ j p, M[j]? = some p ∧ p.1 = key ∧ MapAt w' b (M.eraseIdx j)) → wpList P ops Q rest (a.put o.dst (.tuple #[])) w') :
    wpList P ops Q (o :: rest) a w := by
  refine wpList_plain hg fun K' hK' => ?_
  obtain ⟨w', hrun, r1, r2⟩ := map_delete h K ht hks hkey o.type
  unfold Oper.wp
  simp [execOp, hop, resolve, invoke, builtin, hm, hx, hrun, Result.andThen]
  exact hK' _ _ (hK w' r1 r2)
theorem wl_len (hg : o.guard = none) (m : Operand) (hop : o.op = Op.call { callee := Callee.builtin Builtin.len, args := #[m], argTypes := #[t] })
    (ht : P.underlying t = some (.map k e)) (hm : a.eval m = .map (some b)) (h : MapAt w b M)
    (hK : wpList P ops Q rest (a.put o.dst (.int .i64 (M.length : Nat))) w) : wpList P ops Q (o :: rest) a w := by
  refine wpList_plain hg fun K' hK' => ?_
  unfold Oper.wp
  simp [execOp, hop, resolve, invoke, builtin, hm, map_len h ht o.type, Result.andThen]
  exact hK' _ _ hK
theorem wl_lookup (hg : o.guard = none) (m x : Operand) (hop : o.op = Op.lookup t m x true)
    (K : Keyed P k) (ht : P.underlying t = some (.map k e)) {z : Value} (hz : (zeroValue e).run P w = .ok z w) (hm : a.eval m = .map (some b)) (h : MapAt w b M) (hks : ∀ p ∈ M, ∃ l, keyOf P k p.1 = some l) (key : Value) (kl : Lit) (hx : a.eval x = key) (hkey : keyOf P k key = some kl)
    (hNo : (∀ p ∈ M, p.1 ≠ key) → wpList P ops Q rest (a.put o.dst (.tuple #[z, .bool false])) w)
    (hYes : ∀ p, p ∈ M → p.1 = key → wpList P ops Q rest (a.put o.dst (.tuple #[p.2, .bool true])) w) :
    wpList P ops Q (o :: rest) a w := by
  refine wpList_plain hg fun K' hK' => ?_
  unfold Oper.wp
  rcases map_lookup h K ht hz hks hkey with ⟨h1, hrun⟩ | ⟨p, h1, h2, hrun⟩
  · simp [execOp, hop, hm, hx, hrun, Result.andThen]
    exact hK' _ _ (hNo h1)
  · simp [execOp, hop, hm, hx, hrun, Result.andThen]
    exact hK' _ _ (hYes p h1 h2)
end
end Go.Proofs.Ytjpclmkkccffhaa.Bl
