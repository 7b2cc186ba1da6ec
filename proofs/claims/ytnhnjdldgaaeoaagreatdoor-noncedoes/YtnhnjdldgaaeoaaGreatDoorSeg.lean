/-
  One sector of a row of sectors: what fill and settle do with it.
-/
import Derived.Test.YtnhnjdldgaaeoaaGreatDoorSpl
import Derived.Test.YtnhnjdldgaaeoaaGreatDoorBow
import Derived.WalkKit
import Derived.WalkSpells
import Derived.StillTactics
import Derived.Laws.Pointers
namespace Go.Proofs.YtnhnjdldgaaeoaaGreatDoor
open Go Go.RowKit
set_option maxRecDepth 100000

theorem hid {p : Prop} (h : p) : Hid p := h

theorem wpList_build {P : Program} {ops : Array Oper} {rest : List Oper} {o : Oper} {a : Act} {w : World} {Q : Exit → Act → World → Prop} (hgd : o.guard = none) (ty : TypeId) (parts : List (Nat × Operand)) (ho : o.op = .build ty parts.toArray)
    (vs : List (Nat × Value)) (hv : (parts.map fun p => (p.1, a.eval p.2)) = vs) (v : Value) (hr : (Instr.build ty vs.toArray).run P w = .ok v w)
    (h : wpList P ops Q rest (a.put o.dst v) w) : wpList P ops Q (o :: rest) a w := by
  refine wpList_plain hgd fun K hK => ?_
  have h' := hK _ _ h
  subst hv
  unfold Oper.wp execOp
  simp only [ho, List.map_toArray, Sem.run_bind, hr, Result.andThen_ok, Sem.run_pure]
  exact h'

/-- A store of one cell into a row. -/
theorem wpList_store_cell {P : Program} {ops : Array Oper} {rest : List Oper} {o : Oper} {a : Act} {w : World} {Q : Exit → Act → World → Prop} (hgd : o.guard = none) (ty : TypeId) (x y : Operand) (hn : o.dst = none) (ho : o.op = .store ty x y)
    (g off : Nat) (hx : a.eval x = .pointer (some ⟨g, off, none⟩)) (v : Value) (hy : a.eval y = v) (cur : Array Value) (t : TypeId) (hg : w.heap[g]? = some (.cells cur t (0, 0)))
    (hfit : off + 1 ≤ cur.size) (h1 : v.oneCell' = true) (hc : v.cells = #[v]) (hi : (P.info? ty).map (·.size) = some 1)
    (h : wpList P ops Q rest a (w.setRow g (cur.toList.take off ++ [v] ++ cur.toList.drop (off + 1)).toArray)) : wpList P ops Q (o :: rest) a w := by
  refine wpList_plain hgd fun K hK => ?_
  have h' := hK _ _ h
  have hst := run_storeCells_at P g off t [v] 0 cur w hg (by simpa using hfit) (fun x hx => by simp at hx; subst hx; exact h1)
  cases hq : P.info? ty with
  | none => simp [hq] at hi
  | some i =>
    have hs : i.size = 1 := by simpa [hq] using hi
    unfold Oper.wp execOp
    simp [ho, hx, hy, Instr.storeAt, Instr.sureAddr, Sem.run_bind, storeVar, sizeOf, typeInfo, hq, hs, hst, hc]
    rw [List.append_assoc] at h'
    show K (a.put o.dst undef) _
    rw [hn]
    exact h'

theorem list_store {α : Type} (A B X C : List α) (h : X.length = B.length) : (A ++ B ++ C).take A.length ++ X ++ (A ++ B ++ C).drop (A.length + X.length) = A ++ X ++ C := by
  have e1 : (A ++ B ++ C).take A.length = A := by rw [List.append_assoc, List.take_left]
  have e2 : (A ++ B ++ C).drop (A.length + X.length) = C := by rw [h, ← List.length_append, List.drop_left]
  rw [e1, e2]
theorem row_store {α : Type} (off : Nat) (A B X C : List α) (n : Nat) (ho : off = A.length) (hn : n = X.length) (h : X.length = B.length) : (A ++ B ++ C).toArray.toList.take off ++ X ++ (A ++ B ++ C).toArray.toList.drop (off + n) = A ++ X ++ C := by
  subst ho hn; exact list_store A B X C h
theorem row_get {α : Type} (off : Nat) (A B C : List α) (ho : off = A.length) (j : Nat) (v : α) (hv : B[j]? = some v) : (A ++ B ++ C)[off + j]? = some v := by
  subst ho
  have hj := (List.getElem?_eq_some_iff.1 hv).1
  rw [List.append_assoc, List.getElem?_append_right (by omega), List.getElem?_append_left (by omega)]
  simpa using hv

theorem wpList_store_to {P : Program} {ops : Array Oper} {rest : List Oper} {o : Oper} {a : Act} {w : World} {Q : Exit → Act → World → Prop} (hgd : o.guard = none) (ty : TypeId) (x y : Operand) (hn : o.dst = none) (ho : o.op = .store ty x y)
    (g off : Nat) (hx : a.eval x = .pointer (some ⟨g, off, none⟩)) (cs : List Value) (hy : a.eval y = .agg cs.toArray) (cur : Array Value) (t : TypeId) (hg : w.heap[g]? = some (.cells cur t (0, 0)))
    (new : Array Value) (hnew : off + cs.length ≤ cur.size ∧ (cur.toList.take off ++ cs ++ cur.toList.drop (off + cs.length)).toArray = new) (h1 : ∀ v ∈ cs, v.oneCell' = true) (hi : (P.info? ty).map (·.size) = some cs.length)
    (h : wpList P ops Q rest a (w.setRow g new)) : wpList P ops Q (o :: rest) a w :=
  wpList_store_seg hgd ty x y hn ho g off hx cs hy cur t hg hnew.1 h1 hi (by rw [hnew.2]; exact h)
theorem wpList_put_to {P : Program} {ops : Array Oper} {rest : List Oper} {o : Oper} {a : Act} {w : World} {Q : Exit → Act → World → Prop} (hgd : o.guard = none) (ty : TypeId) (x y : Operand) (hn : o.dst = none) (ho : o.op = .store ty x y)
    (g off : Nat) (hx : a.eval x = .pointer (some ⟨g, off, none⟩)) (v : Value) (hy : a.eval y = v) (cur : Array Value) (t : TypeId) (hg : w.heap[g]? = some (.cells cur t (0, 0)))
    (new : Array Value) (hnew : off + 1 ≤ cur.size ∧ (cur.toList.take off ++ [v] ++ cur.toList.drop (off + 1)).toArray = new) (h1 : v.oneCell' = true) (hc : v.cells = #[v]) (hi : (P.info? ty).map (·.size) = some 1)
    (h : wpList P ops Q rest a (w.setRow g new)) : wpList P ops Q (o :: rest) a w :=
  wpList_store_cell hgd ty x y hn ho g off hx v hy cur t hg hnew.1 h1 hc hi (by rw [hnew.2]; exact h)
/-- A piece of a row is put in the place of another one. -/
theorem row_to (off : Nat) (A B X C : List Value) (cur new : Array Value) (hc : cur = (A ++ B ++ C).toArray) (hw : new = (A ++ X ++ C).toArray) (ho : off = A.length) (h : X.length = B.length) (n : Nat) (hn : n = X.length) :
    off + n ≤ cur.size ∧ (cur.toList.take off ++ X ++ cur.toList.drop (off + n)).toArray = new := by
  subst hc hw
  refine ⟨by subst ho hn; rw [h]; simp, ?_⟩
  rw [row_store off A B X C n ho hn h]

/-- copy of a string's first bytes into the midst of a row. -/
theorem run_copy_string {P : Program} (w : World) (dT sT ty elem : TypeId) (g o dLen dCap : Nat) (s : ByteArray) (cur : Array Value) (t : TypeId) (y : List UInt8) (n : Nat) (hs : s = ⟨y.toArray⟩) (hn : n = Nat.min y.length dLen)
    (hu : P.underlying dT = some (.slice elem)) (hz : (P.info? elem).map (·.size) = some 1) (hg : w.heap[g]? = some (.cells cur t (0, 0))) (hfit : o + n ≤ cur.size) :
    (Builtin.copy_ #[dT, sT] ty #[.slice (some ⟨g, o, none⟩) dLen dCap, .string s]).run P w =
      .ok (.int .i64 (n : Int)) (w.setRow g (cur.toList.take o ++ (y.take n).map cb ++ cur.toList.drop (o + ((y.take n).map cb).length)).toArray) := by
  have hn1 : n ≤ y.length := by rw [hn]; exact Nat.min_le_left _ _
  have hl : ((y.take n).map cb).length = n := by simp; omega
  have hst := run_storeCells_at P g o t ((y.take n).map cb) 0 cur w hg (by rw [hl]; simpa using hfit) (one_cb _)
  have hsz : s.size = y.length := by subst hs; rfl
  cases hq : P.info? elem with
  | none => simp [hq] at hz
  | some i =>
    have hi : i.size = 1 := by simpa [hq] using hz
    simp only [Nat.add_zero] at hst
    subst hs
    have hst' : (storeCells ⟨g, o, none⟩ (List.take n (List.map (fun b => Value.int IntKind.u8 (b.toNat : Int)) y))).run P w = .ok () (w.setRow g (cur.toList.take o ++ (y.take n).map cb ++ cur.toList.drop (o + ((y.take n).map cb).length)).toArray) := by
      rw [← List.map_take]
      exact hst
    simp [Builtin.copy_, run_underlying hu, Builtin.lenOf, Builtin.firstCells, sizeOf, typeInfo, hq, hsz, ← hn, hst', goInt]

def zC : List Value := zer.map cb
theorem build58 (w : World) : (Instr.build 105 #[]).run Tryz.prog w = .ok (.agg zC.toArray) w := by kernel_rfl
theorem size58 : (Tryz.prog.info? 105).map (·.size) = some 64 := by kernel_rfl
theorem size4 : (Tryz.prog.info? 4).map (·.size) = some 1 := by kernel_rfl
theorem zC_len : zC.length = 64 := by simp [zC, zer]

theorem settle_any (w : World) (g off : Nat) (A C : List Value) (s : Sec) (hs : SecOk s) (ho : off = A.length) (hr : w.heap[g]? = some (.cells (A ++ secC s ++ C).toArray 107)) :
    Calls Tryz.prog 53 #[.pointer (some ⟨g, off, none⟩)] w fun e w' => e = .returned (.tuple #[]) ∧ w' = w.setRow g (A ++ secC (setS s) ++ C).toArray := by
  obtain ⟨h1, h2⟩ := hs
  have hn : Hid ((s.now.map cb).length = 64) := by show _ = _; simp [h1]
  have hob : Hid (((oldB s).map cb).length = 64) := by show _ = _; simp [h2]
  have e1 : Hid (A ++ secC (setS s) ++ C = ((A ++ s.now.map cb) ++ zC) ++ [.bool false] ++ C) := by show _ = _; simp [secC, setS, oldB, zC]
  have e0 : A ++ secC s ++ C = (A ++ s.now.map cb) ++ (oldB s).map cb ++ ([.bool s.old.isSome] ++ C) := by simp [secC]
  rw [e0] at hr
  rw [e1.out]
  have H1 : Hid (∀ v ∈ zC, v.oneCell' = true) := one_cb _
  have hz := hid zC_len
  have HB := hid build58
  have HI : Hid ((Tryz.prog.info? 105).map (·.size) = some zC.length) := by show _ = _; rw [hz.out]; exact size58
  generalize s.now.map cb = Nw at *
  generalize (oldB s).map cb = Ow at *
  generalize s.old.isSome = b at *
  generalize zC = Z at *
  clear e0 e1 h1 h2
  have hof : off + 64 = (A ++ Nw).length := by rw [List.length_append, hn.out, ho]
  have hof2 : off + 128 = (A ++ Nw ++ Z).length := by rw [List.length_append, List.length_append, hn.out, hz.out, ho]
  have hzo : Z.length = Ow.length := by rw [hz.out, hob.out]
  obtain ⟨R0, q0⟩ : ∃ R, R = ((A ++ Nw) ++ Ow ++ ([Value.bool b] ++ C)).toArray := ⟨_, rfl⟩
  obtain ⟨R1, q1⟩ : ∃ R, R = ((A ++ Nw) ++ Z ++ ([Value.bool b] ++ C)).toArray := ⟨_, rfl⟩
  obtain ⟨R2, q2⟩ : ∃ R, R = ((A ++ Nw ++ Z) ++ [Value.bool false] ++ C).toArray := ⟨_, rfl⟩
  have hr0 : Hid (w.heap[g]? = some (.cells R0 107)) := by show _ = _; rw [q0]; exact hr
  have T1 := hid (row_to (off + 64) (A ++ Nw) Ow Z ([Value.bool b] ++ C) R0 R1 q0 q1 hof hzo _ rfl)
  have T2 := hid (row_to (off + 128) (A ++ Nw ++ Z) [Value.bool b] [Value.bool false] C R1 R2 (by rw [q1]; simp) q2 hof2 rfl 1 rfl)
  rw [← q2]
  clear hr q0 q1 q2 hof hof2 hzo ho hn hob
  go_enter Tryz.func53, Tryz.ntmps53
  go_wp2_with (first | (refine wpList_build rfl 105 [] rfl [] rfl (.agg Z.toArray) (HB.out _) ?_) | (refine wpList_store_to rfl 105 _ _ rfl rfl g (off + 64) rfl Z rfl R0 107 hr0.out R1 T1.out H1.out HI.out ?_) | (refine wpList_put_to rfl 4 _ _ rfl rfl g (off + 128) rfl (.bool false) rfl R1 107 (setRow_heap _ _ _ _ _ _ hr0.out) R2 T2.out rfl rfl size4 ?_))
  go_end0
  exact ⟨rfl, by rw [setRow_setRow]⟩

theorem size5 : (Tryz.prog.info? 5).map (·.size) = some 1 := by kernel_rfl
theorem row_cells {w : World} {g off : Nat} {R : Array Value} {t : TypeId} (hr : w.heap[g]? = some (.cells R t)) (A B C : List Value) (q : R = (A ++ B ++ C).toArray) (ho : off = A.length) : ∀ j v, B[j]? = some v → w.cell? ⟨g, off + j, none⟩ = some v := by
  intro j v hv
  rw [cell_of_row _ _ _ _ _ _ hr, q, List.getElem?_toArray]
  exact row_get off A B C ho j v hv

theorem fill_any (w : World) (g off : Nat) (A C : List Value) (s : Sec) (t : List UInt8) (hs : SecOk s) (ht : t.length ≤ 64) (ho : off = A.length) (hr : w.heap[g]? = some (.cells (A ++ secC s ++ C).toArray 107)) :
    Calls Tryz.prog 71 #[.pointer (some ⟨g, off, none⟩), .string ⟨t.toArray⟩] w fun e w' => e = .returned (.tuple #[]) ∧ w' = w.setRow g (A ++ secC (wrS s t) ++ C).toArray := by
  obtain ⟨h1, h2⟩ := hs
  have hn : ((s.now.map cb).length = 64) := by simp [h1]
  have hob : (((oldB s).map cb).length = 64) := by simp [h2]
  have hz := zC_len
  have e0 : A ++ secC s ++ C = A ++ (s.now.map cb) ++ ((oldB s).map cb ++ ([.bool s.old.isSome] ++ C)) := by simp [secC]
  rw [e0] at hr
  have H1z : Hid (∀ v ∈ zC, v.oneCell' = true) := one_cb _
  have H1n : Hid (∀ v ∈ s.now.map cb, v.oneCell' = true) := one_cb _
  have HB := hid build58
  have HIz : Hid ((Tryz.prog.info? 105).map (·.size) = some zC.length) := by show _ = _; rw [hz]; exact size58
  have HIn : Hid ((Tryz.prog.info? 105).map (·.size) = some (s.now.map cb).length) := by show _ = _; rw [hn]; exact size58
  have hts : (⟨t.toArray⟩ : ByteArray).size = t.length := rfl
  have htm : t.length = Nat.min t.length 64 := (Nat.min_eq_left ht).symm
  have ez : zC = (List.replicate t.length 0).map cb ++ (List.replicate (64 - t.length) 0).map cb := by
    unfold zC zer
    rw [← List.map_append, List.replicate_append_replicate]
    congr 2
    omega
  have htt : (t.take t.length).map cb = t.map cb := by rw [List.take_of_length_le (Nat.le_refl _)]
  cases hold : s.old with
  | some o =>
    have e1 : A ++ secC (wrS s t) ++ C = (A ++ t.map cb ++ ((List.replicate (64 - t.length) 0).map cb ++ ((oldB s).map cb ++ ([.bool true] ++ C)))) := by simp [secC, wrS, fillB, oldB, hold]
    rw [e1]
    rw [hold] at hr
    simp only [Option.isSome_some] at hr
    generalize s.now.map cb = Nw at *
    generalize (oldB s).map cb = Ow at *
    clear e0 e1 h1 h2 hold
    obtain ⟨R0, q0⟩ : ∃ R, R = (A ++ Nw ++ (Ow ++ ([Value.bool true] ++ C))).toArray := ⟨_, rfl⟩
    obtain ⟨R3, q3⟩ : ∃ R, R = (A ++ zC ++ (Ow ++ ([Value.bool true] ++ C))).toArray := ⟨_, rfl⟩
    obtain ⟨R4, q4⟩ : ∃ R, R = (A ++ t.map cb ++ ((List.replicate (64 - t.length) 0).map cb ++ (Ow ++ ([Value.bool true] ++ C)))).toArray := ⟨_, rfl⟩
    have hr0 : Hid (w.heap[g]? = some (.cells R0 107)) := by show _ = _; rw [q0]; exact hr
    have hr3 : Hid ((w.setRow g R3).heap[g]? = some (.cells R3 107)) := setRow_heap _ _ _ _ _ _ hr0.out
    have hld : w.cell? ⟨g, off + 128, none⟩ = some (.bool true) := by
      have h := row_cells hr0.out (A ++ Nw ++ Ow) [Value.bool true] C (by rw [q0]; simp) (show off + 128 = _ by simp [hn, hob, ho]) 0 (.bool true) rfl
      simpa using h
    have T3 := hid (row_to off A Nw zC (Ow ++ ([Value.bool true] ++ C)) R0 R3 q0 q3 ho (by rw [hz, hn]) _ rfl)
    have T4 := row_to off A ((List.replicate t.length 0).map cb) (t.map cb) ((List.replicate (64 - t.length) 0).map cb ++ (Ow ++ ([Value.bool true] ++ C))) R3 R4 (by rw [q3, ez]; simp only [List.append_assoc]) q4 ho (by simp) _ rfl
    have HCOPY : (Builtin.copy_ #[97, 9] 3 #[.slice (some ⟨g, off, none⟩) 64 64, .string ⟨t.toArray⟩]).run Tryz.prog (w.setRow g R3) = .ok (.int .i64 (t.length : Int)) (w.setRow g R4) := by
      have h := run_copy_string (P := Tryz.prog) (w.setRow g R3) 97 9 3 5 g off 64 64 ⟨t.toArray⟩ R3 107 t t.length rfl htm Tryz.underlying97 size5 hr3.out (by have := T4.1; rw [List.length_map] at this; exact this)
      have e := T4.2
      rw [← htt] at e
      rw [setRow_setRow] at h
      exact h.trans (by rw [← e])
    rw [← q4]
    clear hr q0 q3 q4 T4 ez htt htm hz hn hob ho
    generalize zC = Z at *
    go_enter Tryz.func71, Tryz.ntmps71
    go_wp2_with (first | (refine wpList_build rfl 105 [] rfl [] rfl (.agg Z.toArray) (HB.out _) ?_) | (refine wpList_store_to rfl 105 _ _ rfl rfl g off rfl Z rfl R0 107 hr0.out R3 T3.out H1z.out HIz.out ?_))
    go_end0
    exact ⟨rfl, rfl⟩
  | none =>
    have e1 : A ++ secC (wrS s t) ++ C = (A ++ t.map cb ++ ((List.replicate (64 - t.length) 0).map cb ++ (s.now.map cb ++ ([.bool true] ++ C)))) := by simp [secC, wrS, fillB, oldB, hold]
    rw [e1]
    rw [hold] at hr
    simp only [Option.isSome_none] at hr
    have huA := Tryz.underlying105
    generalize s.now.map cb = Nw at *
    generalize (oldB s).map cb = Ow at *
    clear e0 e1 h1 h2 hold
    obtain ⟨R0, q0⟩ : ∃ R, R = (A ++ Nw ++ (Ow ++ ([Value.bool false] ++ C))).toArray := ⟨_, rfl⟩
    obtain ⟨R1, q1⟩ : ∃ R, R = ((A ++ Nw) ++ Nw ++ ([Value.bool false] ++ C)).toArray := ⟨_, rfl⟩
    obtain ⟨R2, q2⟩ : ∃ R, R = ((A ++ Nw ++ Nw) ++ [Value.bool true] ++ C).toArray := ⟨_, rfl⟩
    obtain ⟨R3, q3⟩ : ∃ R, R = (A ++ zC ++ (Nw ++ ([Value.bool true] ++ C))).toArray := ⟨_, rfl⟩
    obtain ⟨R4, q4⟩ : ∃ R, R = (A ++ t.map cb ++ ((List.replicate (64 - t.length) 0).map cb ++ (Nw ++ ([Value.bool true] ++ C)))).toArray := ⟨_, rfl⟩
    have hr0 : Hid (w.heap[g]? = some (.cells R0 107)) := by show _ = _; rw [q0]; exact hr
    have hrn : Hid (∀ (W : World) (R R' : Array Value), W.heap[g]? = some (.cells R 107) → (W.setRow g R').heap[g]? = some (.cells R' 107)) := fun W R R' h => setRow_heap _ _ _ _ _ _ h
    have hr3 : Hid ((w.setRow g R3).heap[g]? = some (.cells R3 107)) := setRow_heap _ _ _ _ _ _ hr0.out
    have hld : w.cell? ⟨g, off + 128, none⟩ = some (.bool false) := by
      have h := row_cells hr0.out (A ++ Nw ++ Ow) [Value.bool false] C (by rw [q0]; simp) (show off + 128 = _ by simp [hn, hob, ho]) 0 (.bool false) rfl
      simpa using h
    have HC : Hid (∀ j v, Nw[j]? = some v → w.cell? ⟨g, off + j, none⟩ = some v) := row_cells hr0.out A Nw _ q0 ho
    have T1 := hid (row_to (off + 64) (A ++ Nw) Ow Nw ([Value.bool false] ++ C) R0 R1 (by rw [q0]; simp) q1 (by simp [hn, ho]) (by rw [hob, hn]) _ rfl)
    have T2 := hid (row_to (off + 128) (A ++ Nw ++ Nw) [Value.bool false] [Value.bool true] C R1 R2 (by rw [q1]; simp) q2 (by simp [hn, ho]) rfl 1 rfl)
    have T3 := hid (row_to off A Nw zC (Nw ++ ([Value.bool true] ++ C)) R2 R3 (by rw [q2]; simp) q3 ho (by rw [hz, hn]) _ rfl)
    have T4 := row_to off A ((List.replicate t.length 0).map cb) (t.map cb) ((List.replicate (64 - t.length) 0).map cb ++ (Nw ++ ([Value.bool true] ++ C))) R3 R4 (by rw [q3, ez]; simp only [List.append_assoc]) q4 ho (by simp) _ rfl
    have HCOPY : (Builtin.copy_ #[97, 9] 3 #[.slice (some ⟨g, off, none⟩) 64 64, .string ⟨t.toArray⟩]).run Tryz.prog (w.setRow g R3) = .ok (.int .i64 (t.length : Int)) (w.setRow g R4) := by
      have h := run_copy_string (P := Tryz.prog) (w.setRow g R3) 97 9 3 5 g off 64 64 ⟨t.toArray⟩ R3 107 t t.length rfl htm Tryz.underlying97 size5 hr3.out (by have := T4.1; rw [List.length_map] at this; exact this)
      have e := T4.2
      rw [← htt] at e
      rw [setRow_setRow] at h
      exact h.trans (by rw [← e])
    rw [← q4]
    clear hr q0 q1 q2 q3 q4 T4 ez htt htm hz hn hob ho
    generalize zC = Z at *
    go_enter Tryz.func71, Tryz.ntmps71
    go_wp2_with (first | (refine wpList_build rfl 105 [] rfl [] rfl (.agg Z.toArray) (HB.out _) ?_) | (refine wpList_load_seg rfl 105 _ rfl g off rfl Nw _ HC.out Tryz.underlying105 rfl HIn.out ?_) | (refine wpList_store_to rfl 105 _ _ rfl rfl g (off + 64) rfl Nw rfl R0 107 hr0.out R1 T1.out H1n.out HIn.out ?_) | (refine wpList_put_to rfl 4 _ _ rfl rfl g (off + 128) rfl (.bool true) rfl R1 107 (hrn.out _ _ _ hr0.out) R2 T2.out rfl rfl size4 ?_; simp only [setRow_setRow]) | (refine wpList_store_to rfl 105 _ _ rfl rfl g off rfl Z rfl R2 107 (hrn.out _ _ _ hr0.out) R3 T3.out H1z.out HIz.out ?_; simp only [setRow_setRow]))
    go_end0
    exact ⟨rfl, rfl⟩
end Go.Proofs.YtnhnjdldgaaeoaaGreatDoor
