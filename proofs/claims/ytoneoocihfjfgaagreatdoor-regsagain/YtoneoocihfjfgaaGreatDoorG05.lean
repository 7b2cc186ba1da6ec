/-
  A message without what its kind has: what the reference answers (R10.bare).
-/
import Derived.Test.YtoneoocihfjfgaaGreatDoorJsm
import Derived.Test.YtoneoocihfjfgaaGreatDoorG02
namespace Go.Proofs.YtoneoocihfjfgaaGreatDoor.Ms
open Go Go.RowKit
set_option maxRecDepth 100000
theorem build_sub (W : World) : (Instr.build 34 #[]).run Tryz.prog W = .ok (.agg (subC zeroS).toArray) W := by kernel_rfl
theorem build_dig (W : World) : (Instr.build 32 #[]).run Tryz.prog W = .ok (.agg (dg zeroD).toArray) W := by kernel_rfl
theorem build_rep (W : World) : (Instr.build 45 #[]).run Tryz.prog W = .ok (.agg (repC zeroR (.slice none 0 0)).toArray) W := by kernel_rfl
theorem build_blo (W : World) : (Instr.build 73 #[]).run Tryz.prog W = .ok (.agg (bloC zeroB).toArray) W := by kernel_rfl
theorem zeroMsg : (Tryz.prog.info? 76).map (·.zero) = some (some (.agg (msgC (zeroM 0 0) (.slice none 0 0) (.slice none 0 0)).toArray)) := by kernel_rfl
theorem build_msg (W : World) (k c : Int) : (Instr.build 76 #[(0, nu k), (1, nu c)]).run Tryz.prog W = .ok (.agg (msgC (zeroM k c) (.slice none 0 0) (.slice none 0 0)).toArray) W := by kernel_rfl
structure But (b : Nat) (w w' : World) : Prop where
  os : w'.os = w.os
  tape : w'.tape = w.tape
  output : w'.output = w.output
  size : w'.heap.size = w.heap.size
  block : ∀ k, k ≠ b → w'.heap[k]? = w.heap[k]?
theorem But.below {b n : Nat} {a w w' : World} (h : But b w w') (h0 : Below n a w) (h1 : n ≤ b) : Below n a w' :=
  ⟨h.os.trans h0.os, h.tape.trans h0.tape, h.output.trans h0.output, by rw [h.size]; exact h0.size, fun k hk => (h.block k (by omega)).trans (h0.block k hk)⟩
theorem But.row {b k : Nat} {w w' : World} {o : Obj} (h : But b w w') (hr : w.heap[k]? = some o) (hk : k ≠ b) : w'.heap[k]? = some o := (h.block k hk).trans hr
theorem but_setRow (w : World) (g : Nat) (cs : Array Value) : But g w (w.setRow g cs) := ⟨rfl, rfl, rfl, by simp, fun k hk => setRow_other w g k cs hk⟩
theorem but_setCell (w : World) (b i : Nat) (v : Value) : But b w (w.setCell ⟨b, i, none⟩ v) := ⟨rfl, rfl, rfl, by simp [World.setCell], fun k hk => heap_setCell_other w ⟨b, i, none⟩ k v hk⟩
theorem row_set {w : World} {g off : Nat} {A C : List Value} {old v : Value} {t : TypeId} (h : w.heap[g]? = some (.cells (A ++ ([old] ++ C)).toArray t)) (hA : A.length = off) : (w.setCell ⟨g, off, none⟩ v).heap[g]? = some (.cells (A ++ ([v] ++ C)).toArray t) := by
  rw [heap_setCell_same w g off _ t v h]
  subst hA
  simp
section
variable {P : Program} {ops : Array Oper} {rest : List Oper} {o : Oper} {a : Act} {w : World} {Q : Exit → Act → World → Prop}
theorem wl_build (ty : TypeId) (ho : o.op = .build ty #[]) (hw : Region.wanted o (yielded ops a.tmps) = true) (z : Array Value) (hr : (Instr.build ty #[]).run P w = .ok (.agg z) w)
    (h : wpList P ops Q rest (a.put o.dst (.agg z)) w) : wpList P ops Q (o :: rest) a w := by
  refine BigFrame.wpList_want hw fun K hK => ?_
  have h' := hK _ _ h
  unfold Oper.wp execOp
  simp only [ho, List.map_toArray, List.map_nil, Sem.run_bind, hr, Result.andThen_ok, Sem.run_pure]
  exact h'
theorem wl_put (ty : TypeId) (x y : Operand) (ho : o.op = .store ty x y) (hn : o.dst = none) (g off : Nat) (hx : a.eval x = .pointer (some ⟨g, off, none⟩)) (hw : Region.wanted o (yielded ops a.tmps) = true)
    (A cs old C : List Value) (hy : a.eval y = .agg cs.toArray) (t : TypeId) (hg : w.heap[g]? = some (.cells (A ++ (old ++ C)).toArray t)) (hA : A.length = off) (hold : old.length = cs.length) (h1 : ∀ v ∈ cs, v.oneCell' = true) (hi : (P.info? ty).map (·.size) = some cs.length)
    (h : ∀ w1, w1.heap[g]? = some (.cells (A ++ (cs ++ C)).toArray t) → But g w w1 → wpList P ops Q rest a w1) : wpList P ops Q (o :: rest) a w :=
  wl_store ty x y ho hn g off hx hw A cs old C hy t hg hA hold h1 hi (h _ (setRow_heap w g _ _ t (0, 0) hg) (but_setRow w g _))
end
theorem results_row {P : Program} {fn : Func} {p : Tmp} {ty : TypeId} (h : fn.results = #[.cell p ty]) (tmps : Array Value) (w : World) (g : Nat) (t : TypeId) (cs : Array Value) (fr : Nat × Nat) (d : TypeDesc)
    (hp : tmps.getD p undef = .pointer (some ⟨g, 0, none⟩)) (hg : w.heap[g]? = some (.cells cs t fr))
    (hu : P.underlying ty = some d) (hd : (match d with | .struct _ | .array _ _ => true | _ => false) = true) (hi : (P.info? ty).map (·.size) = some cs.size) :
    (results fn tmps).run P w = .ok (.agg cs) w := by
  have hp' : tmps[p]?.getD undef = .pointer (some ⟨g, 0, none⟩) := by simpa using hp
  simp [results, h, hp', asAddr, run_loadVar_row w g t ty cs fr d hg hu hd hi]
theorem one_sub (x : Sub) : ∀ v ∈ subC x, v.oneCell' = true := by
  intro v hv
  simp only [subC, List.mem_append, List.mem_cons, List.not_mem_nil, or_false] at hv
  rcases hv with (rfl | rfl | rfl | rfl) | hv | hv
  · rfl
  · rfl
  · rfl
  · rfl
  · exact one_dg _ v hv
  · exact one_dg _ v hv
theorem one_blo (x : Blo) : ∀ v ∈ bloC x, v.oneCell' = true := by
  intro v hv
  simp only [bloC, List.mem_append, List.mem_cons, List.not_mem_nil, or_false] at hv
  rcases hv with (rfl | rfl | rfl) | hv
  · rfl
  · rfl
  · rfl
  · exact one_dg _ v hv
theorem one_rep (x : Rep) (vP : Value) (h : vP.oneCell' = true) : ∀ v ∈ repC x vP, v.oneCell' = true := by
  intro v hv
  simp only [repC, List.mem_append, List.mem_cons, List.not_mem_nil, or_false] at hv
  rcases hv with (rfl | rfl | rfl) | hv | (rfl | rfl | rfl) | hv | rfl | hv
  · rfl
  · rfl
  · rfl
  · exact one_dg _ v hv
  · exact h
  · rfl
  · rfl
  · exact one_dg _ v hv
  · rfl
  · exact one_dg _ v hv
theorem one_msg (m : Msg) (vP vN : Value) (hp : vP.oneCell' = true) (hn : vN.oneCell' = true) : ∀ v ∈ msgC m vP vN, v.oneCell' = true := by
  intro v hv
  simp only [msgC, List.mem_append, List.mem_cons, List.not_mem_nil, or_false] at hv
  rcases hv with (rfl | rfl) | hv | hv | (rfl | rfl) | hv | hv | hv | rfl
  · rfl
  · rfl
  · exact one_sub _ v hv
  · exact one_rep _ _ hp v hv
  · rfl
  · rfl
  · exact one_dg _ v hv
  · exact one_dg _ v hv
  · exact one_blo _ v hv
  · exact hn
theorem wfZeroS : zeroS.Wf := ⟨rfl, rfl⟩
theorem wfZeroR : zeroR.Wf := ⟨rfl, rfl, rfl, fun p hp => by cases hp⟩
theorem wfZeroB : zeroB.Wf := ⟨rfl⟩
def bareP (m : Msg) (vP : Value) : Value := if m.kind = 2 then .slice none 0 0 else vP
def bareN (m : Msg) (vN : Value) : Value := if m.kind = 5 ∨ m.kind = 7 ∨ m.kind = 8 then .slice none 0 0 else vN
open Go Go.RowKit
set_option maxRecDepth 100000
structure Kp (X : List Nat) (w w' : World) : Prop where
  os : w'.os = w.os
  tape : w'.tape = w.tape
  output : w'.output = w.output
  size : w.heap.size ≤ w'.heap.size
  block : ∀ k, k < w.heap.size → k ∉ X → w'.heap[k]? = w.heap[k]?
theorem heap_oldA (w : World) (o : Obj) (i : Nat) (h : i < w.heap.size) : (w.alloc o).heap[i]? = w.heap[i]? := by
  show (w.heap.push o)[i]? = w.heap[i]?
  rw [Array.getElem?_push, if_neg (Nat.ne_of_lt h)]
theorem Kp.refl (X : List Nat) (w : World) : Kp X w w := ⟨rfl, rfl, rfl, Nat.le_refl _, fun _ _ _ => rfl⟩
theorem Kp.trans {X : List Nat} {a b c : World} (h : Kp X a b) (k : Kp X b c) : Kp X a c :=
  ⟨k.os.trans h.os, k.tape.trans h.tape, k.output.trans h.output, Nat.le_trans h.size k.size, fun i hi hp => (k.block i (Nat.lt_of_lt_of_le hi h.size) hp).trans (h.block i hi hp)⟩
theorem Kp.drop {X Y : List Nat} {w w' : World} (h : Kp X w w') (hX : ∀ x ∈ X, x ∈ Y ∨ w.heap.size ≤ x) : Kp Y w w' :=
  ⟨h.os, h.tape, h.output, h.size, fun k hk hp => h.block k hk (fun hx => by rcases hX k hx with e | e; exact hp e; omega)⟩
theorem Kp.then {X Y : List Nat} {a b c : World} (h : Kp X a b) (k : Kp Y b c) (hY : ∀ x ∈ Y, x ∈ X ∨ a.heap.size ≤ x) : Kp X a c :=
  ⟨k.os.trans h.os, k.tape.trans h.tape, k.output.trans h.output, Nat.le_trans h.size k.size, fun i hi hp => (k.block i (Nat.lt_of_lt_of_le hi h.size) (fun hx => by rcases hY i hx with e | e; exact hp e; omega)).trans (h.block i hi hp)⟩
theorem Kp.of {X : List Nat} {w w' : World} (h : Below w.heap.size w w') : Kp X w w' := ⟨h.os, h.tape, h.output, h.size, fun k hk _ => h.block k hk⟩
theorem Kp.below {X : List Nat} {B : Nat} {w w' : World} (h : Kp X w w') (h1 : ∀ x ∈ X, B ≤ x) (h2 : B ≤ w.heap.size) : Below B w w' :=
  ⟨h.os, h.tape, h.output, h.size, fun k hk => h.block k (by omega) (fun hx => by have := h1 k hx; omega)⟩
theorem Kp.setRow {X : List Nat} {a w : World} (h : Kp X a w) (g : Nat) (cs : Array Value) (hg : g ∈ X ∨ a.heap.size ≤ g) : Kp X a (w.setRow g cs) := by
  refine ⟨h.os, h.tape, h.output, by simpa using h.size, fun k hk hx => ?_⟩
  rw [← h.block k hk hx]
  refine setRow_other w g k cs ?_
  rintro rfl
  rcases hg with e | e
  · exact hx e
  · omega
theorem Kp.but {X : List Nat} {a w w' : World} {b : Nat} (h : Kp X a w) (hb : But b w w') (hg : b ∈ X ∨ a.heap.size ≤ b) : Kp X a w' := by
  refine ⟨hb.os.trans h.os, hb.tape.trans h.tape, hb.output.trans h.output, by rw [hb.size]; exact h.size, fun k hk hx => ?_⟩
  rw [← h.block k hk hx]
  refine hb.block k ?_
  rintro rfl
  rcases hg with e | e
  · exact hx e
  · omega
theorem Kp.drewN {X : List Nat} {a w : World} (h : Kp X a w) (n : Nat) : Kp X a (w.drewN n) := ⟨h.os, h.tape, h.output, h.size, h.block⟩
theorem Kp.drew {X : List Nat} {a w : World} (h : Kp X a w) : Kp X a w.drew := ⟨h.os, h.tape, h.output, h.size, h.block⟩
theorem Kp.alloc {X : List Nat} {a w : World} (h : Kp X a w) (o : Obj) : Kp X a (w.alloc o) :=
  ⟨h.os, h.tape, h.output, by have := h.size; simp; omega, fun k hk hx => (heap_oldA w o k (by have := h.size; omega)).trans (h.block k hk hx)⟩
theorem row_ltA {w : World} {k : Nat} {o : Obj} (hr : w.heap[k]? = some o) : k < w.heap.size := (Array.getElem?_eq_some_iff.1 hr).1
theorem Kp.row {X : List Nat} {w w' : World} (h : Kp X w w') {k : Nat} {o : Obj} (hr : w.heap[k]? = some o) (hk : k ∉ X) : w'.heap[k]? = some o :=
  (h.block k (row_ltA hr) hk).trans hr
theorem Kp.grown {X : List Nat} {a w w' : World} {row : Option Nat} (h : Kp X a w) (hg : w.grownBy w' row) (hr : ∀ k, row = some k → k ∈ X ∨ a.heap.size ≤ k) : Kp X a w' :=
  ⟨hg.os.trans h.os, hg.tape.trans h.tape, hg.output.trans h.output, Nat.le_trans h.size hg.size, fun k hk hx => (hg.block k (by have := h.size; omega) (fun e => by rcases hr k e.symm with q | q; exact hx q; omega)).trans (h.block k hk hx)⟩
def flatQ (ps : List Pen) : List Value := ps.flatMap penC
theorem flatQ_len {ps : List Pen} (h : ∀ p ∈ ps, p.Wf) : (flatQ ps).length = ps.length * 68 := by
  induction ps with
  | nil => rfl
  | cons a l ih =>
    have := ih (fun p hp => h p (by simp [hp]))
    simp only [flatQ, List.flatMap_cons, List.length_append, penC_len (h a (by simp)), List.length_cons] at this ⊢
    omega
theorem one_flat (ps : List Pen) : ∀ v ∈ flatQ ps, v.oneCell' = true := by
  intro v hv
  simp only [flatQ, List.mem_flatMap] at hv
  obtain ⟨p, -, hp⟩ := hv
  exact one_pen p v hp
theorem flatQ_at {ps : List Pen} (h : ∀ p ∈ ps, p.Wf) : ∀ j, j < ps.length → ∀ i c, (penC (ps.getD j noPen))[i]? = some c → (flatQ ps)[j * 68 + i]? = some c := by
  induction ps with
  | nil => intro j hj; cases hj
  | cons a l ih =>
    intro j hj i c hc
    have ha := penC_len (h a (by simp))
    simp only [flatQ, List.flatMap_cons]
    cases j with
    | zero =>
      simp only [List.getD_cons_zero] at hc
      rw [Nat.zero_mul, Nat.zero_add, List.getElem?_append_left (List.getElem?_eq_some_iff.1 hc).1]
      exact hc
    | succ j =>
      simp only [List.getD_cons_succ] at hc
      rw [List.getElem?_append_right (by rw [ha]; omega), ha, show (j + 1) * 68 + i - 68 = j * 68 + i by omega]
      exact ih (fun p hp => h p (by simp [hp])) j (by simpa using hj) i c hc
def OwnP (w : World) (v : Value) (ps : List Pen) : Prop := w.ownsRow 0 66 68 v ps.length (flatQ ps)
theorem OwnP.nil (w : World) : OwnP w (.slice none 0 0) [] := World.ownsRow_nil w 0 _ _
theorem OwnP.kp {X : List Nat} {w w' : World} {v : Value} {ps : List Pen} (h : OwnP w v ps) (hk : Kp X w w') (hv : ∀ b, v.ownBlock = some b → b ∉ X) : OwnP w' v ps := by
  obtain ⟨h1, h2⟩ := h
  refine ⟨h1, ?_⟩
  rcases h2 with h2 | ⟨g, cap, cur, rfl, h3, h4, h5⟩
  · exact .inl h2
  · exact .inr ⟨g, cap, cur, rfl, h3, hk.row h4 (hv g rfl), h5⟩
theorem OwnP.kept {w w' : World} {v : Value} {ps : List Pen} (h : OwnP w v ps) (hb : Below w.heap.size w w') : OwnP w' v ps := h.kp (X := []) (Kp.of hb) (fun _ _ => by simp)
theorem OwnP.lt {w : World} {v : Value} {ps : List Pen} (h : OwnP w v ps) : ∀ b, v.ownBlock = some b → b < w.heap.size := fun b hb => (World.ownsRow.lt h b hb).2
theorem OwnP.one {w : World} {v : Value} {ps : List Pen} (h : OwnP w v ps) : v.oneCell' = true := by
  rcases h.2 with ⟨rfl, -⟩ | ⟨g, cap, cur, rfl, -⟩ <;> rfl
theorem OwnP.form {w : World} {v : Value} {ps : List Pen} (h : OwnP w v ps) : (v = .slice none 0 0 ∧ ps = []) ∨ ∃ g cap cur, v = .slice (some ⟨g, 0, none⟩) ps.length cap ∧ w.heap[g]? = some (.cells cur 66 (0, 0)) ∧ ps.length ≤ cap ∧ cap ≤ maxLen ∧ cur.size = cap * 68 ∧ cur.toList.take (ps.length * 68) = flatQ ps := by
  rcases h.2 with ⟨e, h0⟩ | ⟨g, cap, cur, e, -, h4⟩
  · exact .inl ⟨e, List.eq_nil_of_length_eq_zero h0⟩
  · exact .inr ⟨g, cap, cur, e, h4⟩
theorem OwnP.cell {w : World} {g n cap : Nat} {ps : List Pen} (h : OwnP w (.slice (some ⟨g, 0, none⟩) n cap) ps) : ∀ j u, (flatQ ps)[j]? = some u → w.cell? ⟨g, j, none⟩ = some u := by
  intro j u hj
  have := World.ownsRow.cells h (g := g) rfl j u hj
  rwa [add_none, Nat.zero_add] at this
theorem OwnP.pens {w : World} {v : Value} {ps : List Pen} (h : OwnP w v ps) (hw : ∀ p ∈ ps, p.Wf) : PensAt w v ps := by
  rcases h.form with ⟨rfl, rfl⟩ | ⟨g, cap, cur, rfl, h4, -⟩
  · exact PensAt.nil w
  · refine ⟨_, cap, rfl, fun _ => ⟨g, 0, rfl, fun j hj i c hc => ?_⟩⟩
    rw [Nat.zero_add]
    exact h.cell _ _ (flatQ_at hw j hj i c hc)
def regC (g : Reg) (v : Value) : List Value := subC g.asked ++ (repC g.ans v ++ ([st g.view] ++ dg g.tag))
def regsC : List Reg → List Value → List Value
  | g :: gs, v :: vs => regC g v ++ regsC gs vs
  | _, _ => []
def donC (v t : List UInt8) : List Value := [st v] ++ dg t
def tailC (R : Rs) (vP : Value) : List Value := donC R.long R.ltag ++ ([nu R.who] ++ [vP])
def rowR (R : Rs) (vs : List Value) (vP : Value) : List Value := [nu (R.n : Int)] ++ (regsC R.regs vs ++ tailC R vP)
theorem regC_len {g : Reg} (h : GOk g) (v : Value) : (regC g v).length = 204 := by
  simp [regC, subC_len h.asked, repC_len h.ans, dg_len, h.tag]
theorem regsC_len : ∀ (gs : List Reg) (vs : List Value), (∀ g ∈ gs, GOk g) → gs.length = vs.length → (regsC gs vs).length = gs.length * 204
  | [], [], _, _ => rfl
  | [], _ :: _, _, h => by simp at h
  | _ :: _, [], _, h => by simp at h
  | g :: gs, v :: vs, hg, h => by
    have := regsC_len gs vs (fun x hx => hg x (by simp [hx])) (by simpa using h)
    simp only [regsC, List.length_append, regC_len (hg g (by simp)), this, List.length_cons]
    omega
theorem regsC_split : ∀ (gs : List Reg) (vs : List Value) (c : Nat), c < gs.length → gs.length = vs.length →
    regsC gs vs = regsC (gs.take c) (vs.take c) ++ (regC (gs.getD c zeroG) (vs.getD c undef) ++ regsC (gs.drop (c + 1)) (vs.drop (c + 1)))
  | [], _, c, h, _ => by simp at h
  | _ :: _, [], _, _, h => by simp at h
  | g :: gs, v :: vs, 0, _, _ => by simp [regsC]
  | g :: gs, v :: vs, c + 1, hc, h => by
    have := regsC_split gs vs c (by simpa using hc) (by simpa using h)
    simp only [List.take_succ_cons, List.drop_succ_cons, List.getD_cons_succ, regsC, List.append_assoc]
    rw [this]
theorem take_set_lt {α : Type} (l : List α) (c : Nat) (a : α) : (l.set c a).take c = l.take c := by
  rw [List.take_set_of_le (Nat.le_refl c)]
theorem drop_set_lt {α : Type} (l : List α) (c : Nat) (a : α) : (l.set c a).drop (c + 1) = l.drop (c + 1) := by
  rw [List.drop_set_of_lt (by omega)]
theorem getD_set_same {α : Type} (l : List α) (c : Nat) (a d : α) (h : c < l.length) : (l.set c a).getD c d = a := by
  rw [List.getD_eq_getElem?_getD, List.getElem?_set_self h]
  rfl
theorem getD_set_other {α : Type} (l : List α) (c i : Nat) (a d : α) (h : i ≠ c) : (l.set c a).getD i d = l.getD i d := by
  rw [List.getD_eq_getElem?_getD, List.getD_eq_getElem?_getD, List.getElem?_set_ne (Ne.symm h)]
def preC (R : Rs) (vs : List Value) (c : Nat) : List Value := [nu (R.n : Int)] ++ regsC (R.regs.take c) (vs.take c)
def posC (R : Rs) (vs : List Value) (vP : Value) (c : Nat) : List Value := regsC (R.regs.drop (c + 1)) (vs.drop (c + 1)) ++ tailC R vP
theorem row_split {R : Rs} (h : RInv R) {vs : List Value} (hv : vs.length = 8) (vP : Value) {c : Nat} (hc : c < 8) :
    rowR R vs vP = preC R vs c ++ (regC (R.regs.getD c zeroG) (vs.getD c undef) ++ posC R vs vP c) ∧ (preC R vs c).length = 1 + c * 204 := by
  have hl := h.len
  constructor
  · unfold rowR preC posC
    rw [regsC_split R.regs vs c (by omega) (by omega)]
    simp only [List.append_assoc]
  · unfold preC
    rw [List.length_append, regsC_len _ _ (fun g hg => h.regs g (List.mem_of_mem_take hg)) (by simp; omega)]
    simp
    omega
theorem row_set_reg {R R' : Rs} (h : RInv R) {vs : List Value} (hv : vs.length = 8) (vP : Value) {c : Nat} (hc : c < 8) (g : Reg) (v : Value) (e1 : R'.n = R.n) (e2 : R'.regs = R.regs.set c g) (e3 : tailC R' vP = tailC R vP) :
    rowR R' (vs.set c v) vP = preC R vs c ++ (regC g v ++ posC R vs vP c) := by
  have hl := h.len
  unfold rowR preC posC
  rw [e1, e2, e3, regsC_split (R.regs.set c g) (vs.set c v) c (by simp; omega) (by simp; omega), take_set_lt, take_set_lt, drop_set_lt, drop_set_lt, getD_set_same _ _ _ _ (by omega), getD_set_same _ _ _ _ (by omega)]
  simp only [List.append_assoc]
theorem head_len {R : Rs} (h : RInv R) {vs : List Value} (hv : vs.length = 8) : ([nu (R.n : Int)] ++ regsC R.regs vs).length = 1633 := by
  have hl := h.len
  rw [List.length_append, regsC_len _ _ h.regs (by omega), hl]
  rfl
theorem row_tail (R : Rs) (vs : List Value) (vP : Value) : rowR R vs vP = ([nu (R.n : Int)] ++ regsC R.regs vs) ++ tailC R vP := by simp [rowR]
theorem donC_len {v t : List UInt8} (h : t.length = 32) : (donC v t).length = 33 := by simp [donC, dg_len, h]
theorem one_don (v t : List UInt8) : ∀ x ∈ donC v t, x.oneCell' = true := by
  intro x hx
  simp only [donC, List.mem_append, List.mem_cons, List.not_mem_nil, or_false] at hx
  rcases hx with rfl | hx
  · rfl
  · exact one_dg _ x hx
structure RA (w : World) (p : Nat) (q rs : List Nat) (R : Rs) (vs : List Value) (vP : Value) : Prop where
  inv : RInv R
  vlen : vs.length = 8
  row : w.heap[p]? = some (.cells (rowR R vs vP).toArray 63)
  reps : ∀ i, i < 8 → OwnP w (vs.getD i undef) (R.regs.getD i zeroG).ans.pend
  rblk : ∀ i, i < 8 → ∀ b, (vs.getD i undef).ownBlock = some b → b ∈ rs
  own : OwnP w vP R.pend
  blk : ∀ b, vP.ownBlock = some b → b ∈ q
  ne : p ∉ q ∧ p ∉ rs ∧ ∀ b ∈ q, b ∉ rs
  lt : ∀ b ∈ q ++ rs, b < w.heap.size
section
variable {w w' : World} {p : Nat} {q rs X : List Nat} {R : Rs} {vs : List Value} {vP : Value}
theorem RA.kp (h : RA w p q rs R vs vP) (hk : Kp X w w') (hX : ∀ b ∈ p :: (q ++ rs), b ∉ X) : RA w' p q rs R vs vP :=
  ⟨h.inv, h.vlen, hk.row h.row (hX p (by simp)), fun i hi => (h.reps i hi).kp hk (fun b hb => hX b (by simp [h.rblk i hi b hb])), h.rblk, h.own.kp hk (fun b hb => hX b (by simp [h.blk b hb])), h.blk, h.ne, fun b hb => Nat.lt_of_lt_of_le (h.lt b hb) hk.size⟩
theorem RA.kept (h : RA w p q rs R vs vP) (hb : Below w.heap.size w w') : RA w' p q rs R vs vP := h.kp (X := []) (Kp.of hb) (fun _ _ => by simp)
theorem RA.cn (h : RA w p q rs R vs vP) : w.cell? ⟨p, 0, none⟩ = some (nu (R.n : Int)) := row_cell (A := []) (C := regsC R.regs vs ++ tailC R vP) h.row (by simp [rowR]) rfl
theorem RA.tail_seg (h : RA w p q rs R vs vP) {A cs C : List Value} {k : Nat} (e : tailC R vP = A ++ (cs ++ C)) (hA : A.length = k) : ∀ j v, cs[j]? = some v → w.cell? ⟨p, 1633 + k + j, none⟩ = some v :=
  row_seg (A := ([nu (R.n : Int)] ++ regsC R.regs vs) ++ A) (cs := cs) (C := C) h.row (by rw [row_tail, e]; simp only [List.append_assoc]) (by rw [List.length_append, head_len h.inv h.vlen, hA])
theorem RA.long (h : RA w p q rs R vs vP) : w.cell? ⟨p, 1633, none⟩ = some (st R.long) := h.tail_seg (A := []) (cs := [st R.long]) (C := dg R.ltag ++ ([nu R.who] ++ [vP])) (k := 0) (by simp [tailC, donC]) rfl 0 _ rfl
theorem RA.ltag (h : RA w p q rs R vs vP) : ∀ j v, (dg R.ltag)[j]? = some v → w.cell? ⟨p, 1634 + j, none⟩ = some v := h.tail_seg (A := [st R.long]) (cs := dg R.ltag) (C := [nu R.who] ++ [vP]) (k := 1) (by simp [tailC, donC]) rfl
theorem RA.who (h : RA w p q rs R vs vP) : w.cell? ⟨p, 1666, none⟩ = some (nu R.who) := h.tail_seg (A := donC R.long R.ltag) (cs := [nu R.who]) (C := [vP]) (k := 33) (by simp [tailC]) (donC_len h.inv.ltag) 0 _ rfl
theorem RA.pnd (h : RA w p q rs R vs vP) : w.cell? ⟨p, 1667, none⟩ = some vP := h.tail_seg (A := donC R.long R.ltag ++ [nu R.who]) (cs := [vP]) (C := []) (k := 34) (by simp [tailC]) (by rw [List.length_append, donC_len h.inv.ltag]; rfl) 0 _ rfl
theorem RA.reg_seg (h : RA w p q rs R vs vP) {c : Nat} (hc : c < 8) {A cs C : List Value} {k : Nat} (e : regC (R.regs.getD c zeroG) (vs.getD c undef) = A ++ (cs ++ C)) (hA : A.length = k) : ∀ j v, cs[j]? = some v → w.cell? ⟨p, 1 + c * 204 + k + j, none⟩ = some v := by
  obtain ⟨e1, e2⟩ := row_split h.inv h.vlen vP hc
  exact row_seg (A := preC R vs c ++ A) (cs := cs) (C := C ++ posC R vs vP c) h.row (by rw [e1, e]; simp only [List.append_assoc]) (by rw [List.length_append, e2, hA])
theorem RA.asked (h : RA w p q rs R vs vP) {c : Nat} (hc : c < 8) : ∀ j v, (subC (R.regs.getD c zeroG).asked)[j]? = some v → w.cell? ⟨p, 1 + c * 204 + j, none⟩ = some v := h.reg_seg hc (A := []) (cs := subC (R.regs.getD c zeroG).asked) (k := 0) rfl rfl
theorem RA.anum (h : RA w p q rs R vs vP) {c : Nat} (hc : c < 8) : w.cell? ⟨p, 1 + c * 204, none⟩ = some (nu (R.regs.getD c zeroG).asked.number) := h.asked hc 0 _ rfl
theorem RA.aval (h : RA w p q rs R vs vP) {c : Nat} (hc : c < 8) : w.cell? ⟨p, 1 + c * 204 + 3, none⟩ = some (st (R.regs.getD c zeroG).asked.value) := h.asked hc 3 _ rfl
theorem RA.adata (h : RA w p q rs R vs vP) {c : Nat} (hc : c < 8) : ∀ j v, (dg (R.regs.getD c zeroG).asked.data)[j]? = some v → w.cell? ⟨p, 1 + c * 204 + 36 + j, none⟩ = some v := by
  have hg : GOk (R.regs.getD c zeroG) := h.inv.reg (c : Int)
  refine h.reg_seg hc (A := [nu (R.regs.getD c zeroG).asked.number, nu (R.regs.getD c zeroG).asked.kind, nu (R.regs.getD c zeroG).asked.target, st (R.regs.getD c zeroG).asked.value] ++ dg (R.regs.getD c zeroG).asked.asked) (C := repC (R.regs.getD c zeroG).ans (vs.getD c undef) ++ ([st (R.regs.getD c zeroG).view] ++ dg (R.regs.getD c zeroG).tag)) (k := 36) ?_ ?_
  · simp only [regC, subC, List.append_assoc]
  · rw [List.length_append, dg_len, hg.asked.asked]; rfl
theorem RA.ans (h : RA w p q rs R vs vP) {c : Nat} (hc : c < 8) : ∀ j v, (repC (R.regs.getD c zeroG).ans (vs.getD c undef))[j]? = some v → w.cell? ⟨p, 1 + c * 204 + 68 + j, none⟩ = some v :=
  h.reg_seg hc (A := subC (R.regs.getD c zeroG).asked) rfl (subC_len (h.inv.reg (c : Int)).asked)
theorem RA.view (h : RA w p q rs R vs vP) {c : Nat} (hc : c < 8) : w.cell? ⟨p, 1 + c * 204 + 171, none⟩ = some (st (R.regs.getD c zeroG).view) := by
  have hg : GOk (R.regs.getD c zeroG) := h.inv.reg (c : Int)
  refine h.reg_seg hc (A := subC (R.regs.getD c zeroG).asked ++ repC (R.regs.getD c zeroG).ans (vs.getD c undef)) (cs := [st (R.regs.getD c zeroG).view]) (C := dg (R.regs.getD c zeroG).tag) (k := 171) ?_ ?_ 0 _ rfl
  · simp only [regC, List.append_assoc]
  · rw [List.length_append, subC_len hg.asked, repC_len hg.ans]
theorem RA.tag (h : RA w p q rs R vs vP) {c : Nat} (hc : c < 8) : ∀ j v, (dg (R.regs.getD c zeroG).tag)[j]? = some v → w.cell? ⟨p, 1 + c * 204 + 172 + j, none⟩ = some v := by
  have hg : GOk (R.regs.getD c zeroG) := h.inv.reg (c : Int)
  refine h.reg_seg hc (A := subC (R.regs.getD c zeroG).asked ++ (repC (R.regs.getD c zeroG).ans (vs.getD c undef) ++ [st (R.regs.getD c zeroG).view])) (cs := dg (R.regs.getD c zeroG).tag) (C := []) (k := 172) ?_ ?_
  · simp only [regC, List.append_assoc, List.append_nil]
  · rw [List.length_append, List.length_append, subC_len hg.asked, repC_len hg.ans]; rfl
theorem RA.last (h : RA w p q rs R vs vP) {c : Nat} (hc : c < 8) : ∀ j v, (donC (R.regs.getD c zeroG).view (R.regs.getD c zeroG).tag)[j]? = some v → w.cell? ⟨p, 1 + c * 204 + 171 + j, none⟩ = some v := by
  have hg : GOk (R.regs.getD c zeroG) := h.inv.reg (c : Int)
  refine h.reg_seg hc (A := subC (R.regs.getD c zeroG).asked ++ repC (R.regs.getD c zeroG).ans (vs.getD c undef)) (cs := donC (R.regs.getD c zeroG).view (R.regs.getD c zeroG).tag) (C := []) (k := 171) ?_ ?_
  · simp only [regC, donC, List.append_assoc, List.append_nil]
  · rw [List.length_append, subC_len hg.asked, repC_len hg.ans]
end
def RX (w : World) (p : Nat) (F : List Nat) (R : Rs) : Prop := ∃ q rs vs vP, RA w p q rs R vs vP ∧ (∀ b ∈ p :: (q ++ rs), b ∈ F) ∧ ∀ b ∈ F, b < w.heap.size
theorem RX.kp {w w' : World} {p : Nat} {F X : List Nat} {R : Rs} (h : RX w p F R) (hk : Kp X w w') (hX : ∀ b ∈ F, b ∉ X) : RX w' p F R := by
  obtain ⟨q, rs, vs, vP, h1, h2, h3⟩ := h
  exact ⟨q, rs, vs, vP, h1.kp hk (fun b hb => hX b (h2 b hb)), h2, fun b hb => Nat.lt_of_lt_of_le (h3 b hb) hk.size⟩
theorem RX.kept {w w' : World} {p : Nat} {F : List Nat} {R : Rs} (h : RX w p F R) (hb : Below w.heap.size w w') : RX w' p F R := h.kp (X := []) (Kp.of hb) (fun _ _ => by simp)
theorem RX.inv {w : World} {p : Nat} {F : List Nat} {R : Rs} (h : RX w p F R) : RInv R := by
  obtain ⟨q, rs, vs, vP, h1, -⟩ := h
  exact h1.inv
end Go.Proofs.YtoneoocihfjfgaaGreatDoor.Ms
