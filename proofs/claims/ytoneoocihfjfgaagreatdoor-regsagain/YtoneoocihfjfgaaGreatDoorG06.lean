/-
  Registers: New, made, has, full, Number, View.
-/
import Derived.Test.YtoneoocihfjfgaaGreatDoorG05
import Derived.Test.YtoneoocihfjfgaaGreatDoorErg
namespace Go.Proofs.YtoneoocihfjfgaaGreatDoor.Ms
open Go Go.RowKit
set_option maxRecDepth 100000
theorem below_dn {B : Nat} {w w' : World} (h : Below B w w') (n : Nat) : Below B w (w'.drewN n) := ⟨h.os, h.tape, h.output, h.size, h.block⟩
section
variable {w : World} {p : Nat} {q rs : List Nat} {R : Rs} {vs : List Value} {vP : Value}
set_option maxHeartbeats 2000000 in
theorem made_any (h : RA w p q rs R vs vP) : Calls Tryz.prog 23 #[.pointer (some ⟨p, 0, none⟩)] w fun e w' => e = .returned (.bool true) ∧ w' = w := by
  have c0 := h.cn
  have hn := h.inv.n
  have h0 : decide (0 < R.n) = true := decide_eq_true (by omega)
  clear h hn
  go_enter Tryz.func23, Tryz.ntmps23
  go_wp2
  go_ret
  exact ⟨rfl, rfl⟩
set_option maxHeartbeats 2000000 in
theorem has_any (h : RA w p q rs R vs vP) (c : Int) : Calls Tryz.prog 24 #[.pointer (some ⟨p, 0, none⟩), nu c] w fun e w' => e = .returned (.bool (hasB R.n c)) ∧ w' = w := by
  have c0 := h.cn
  unfold hasB
  clear h
  by_cases h : 0 ≤ c
  · have d1 : decide (0 ≤ c) = true := decide_eq_true h
    rw [d1, Bool.true_and]
    clear h
    go_enter Tryz.func24, Tryz.ntmps24
    go_wp2
    go_ret
    exact ⟨rfl, rfl⟩
  · have d1 : decide (0 ≤ c) = false := decide_eq_false h
    rw [d1, Bool.false_and]
    clear h
    go_enter Tryz.func24, Tryz.ntmps24
    go_wp2
    go_ret
    exact ⟨rfl, rfl⟩
set_option maxHeartbeats 2000000 in
theorem num_reg (h : RA w p q rs R vs vP) (c : Int) : Calls Tryz.prog 17 #[.pointer (some ⟨p, 0, none⟩), nu c] w fun e w' => e = .returned (nu (numR R c)) ∧ w' = w := by
  have HM := hid (made_any h)
  have HH := hid (has_any h c)
  cases hb : hasB R.n c with
  | false =>
    have HN : Hid (numR R c = 0) := by show _ = _; unfold numR; rw [hb]; rfl
    rw [hb] at HH
    clear h hb
    go_enter Tryz.func17, Tryz.ntmps17
    go_wp2_with fail
    refine HM.out.mono ?_
    rintro e w1 ⟨rfl, hw1⟩
    subst w1
    go_wp2_with fail
    refine HH.out.mono ?_
    rintro e w1 ⟨rfl, hw1⟩
    subst w1
    go_wp2
    go_ret
    exact ⟨by rw [HN.out]; rfl, rfl⟩
  | true =>
    have HN : Hid (numR R c = (R.reg c).asked.number) := by show _ = _; unfold numR; rw [hb]; rfl
    rw [hb] at HH
    have hc := (hasB_iff R.n c).1 hb
    have hn := h.inv.n
    clear hb
    obtain ⟨k, rfl⟩ : ∃ k : Nat, c = (k : Int) := ⟨c.toNat, by omega⟩
    have hk : k < 8 := by omega
    have ca := h.anum hk
    rw [reg_nat] at HN
    clear h hc hn
    go_enter Tryz.func17, Tryz.ntmps17
    go_wp2_with fail
    refine HM.out.mono ?_
    rintro e w1 ⟨rfl, hw1⟩
    subst w1
    go_wp2_with fail
    refine HH.out.mono ?_
    rintro e w1 ⟨rfl, hw1⟩
    subst w1
    go_wp2
    go_ret
    exact ⟨by rw [HN.out]; rfl, rfl⟩
set_option maxHeartbeats 2000000 in
theorem view_reg (h : RA w p q rs R vs vP) (c : Int) : Calls Tryz.prog 20 #[.pointer (some ⟨p, 0, none⟩), nu c] w fun e w' => e = .returned (st (viewR R c)) ∧ w' = w := by
  have HM := hid (made_any h)
  have HH := hid (has_any h c)
  cases hb : hasB R.n c with
  | false =>
    have HN : Hid (viewR R c = []) := by show _ = _; unfold viewR; rw [hb]; rfl
    rw [hb] at HH
    clear h hb
    go_enter Tryz.func20, Tryz.ntmps20
    go_wp2_with fail
    refine HM.out.mono ?_
    rintro e w1 ⟨rfl, hw1⟩
    subst w1
    go_wp2_with fail
    refine HH.out.mono ?_
    rintro e w1 ⟨rfl, hw1⟩
    subst w1
    go_wp2
    go_ret
    exact ⟨by rw [HN.out]; rfl, rfl⟩
  | true =>
    have HN : Hid (viewR R c = (R.reg c).view) := by show _ = _; unfold viewR; rw [hb]; rfl
    rw [hb] at HH
    have hc := (hasB_iff R.n c).1 hb
    have hn := h.inv.n
    clear hb
    obtain ⟨k, rfl⟩ : ∃ k : Nat, c = (k : Int) := ⟨c.toNat, by omega⟩
    have hk : k < 8 := by omega
    have ca := h.view hk
    rw [reg_nat] at HN
    clear h hc hn
    go_enter Tryz.func20, Tryz.ntmps20
    go_wp2_with fail
    refine HM.out.mono ?_
    rintro e w1 ⟨rfl, hw1⟩
    subst w1
    go_wp2_with fail
    refine HH.out.mono ?_
    rintro e w1 ⟨rfl, hw1⟩
    subst w1
    go_wp2
    go_ret
    exact ⟨by rw [HN.out]; rfl, rfl⟩
theorem OwnP.len {w : World} {v : Value} {ps : List Pen} (h : OwnP w v ps) : ∃ a cap, v = .slice a ps.length cap := by
  rcases h.form with ⟨rfl, rfl⟩ | ⟨g, cap, cur, rfl, -⟩
  · exact ⟨_, _, rfl⟩
  · exact ⟨_, _, rfl⟩
set_option maxHeartbeats 4000000 in
theorem full_any (h : RA w p q rs R vs vP) : Calls Tryz.prog 27 #[.pointer (some ⟨p, 0, none⟩)] w fun e w' => e = .returned (.bool (fullB R)) ∧ Below w.heap.size w w' := by
  have c1 := h.long
  have c2 := h.pnd
  have hl := h.inv.long
  have hp := h.inv.plen
  obtain ⟨a, cap, rfl⟩ := h.own.len
  unfold fullB
  clear h
  generalize R.pend.length = m at *
  generalize R.long = L at *
  have hs : (⟨L.toArray⟩ : ByteArray).size = L.length := rfl
  generalize L.length = l at *
  cases d1 : decide (512 ≤ l + m) with
  | true =>
    have d1' : decide ((512 : Int) ≤ (l : Int) + (m : Int)) = true := by
      have := of_decide_eq_true d1
      exact decide_eq_true (by omega)
    rw [Bool.true_or]
    go_enter Tryz.func27, Tryz.ntmps27
    go_upto_region 1 with fail
    go_quiet (fail)
    go_wp2
    go_ret
    exact ⟨rfl, below_dn (Below.refl _ _) _⟩
  | false =>
    have d1' : decide ((512 : Int) ≤ (l : Int) + (m : Int)) = false := by
      have := of_decide_eq_false d1
      exact decide_eq_false (by omega)
    rw [Bool.false_or]
    have d2 : decide (8 ≤ m) = decide ((8 : Int) ≤ (m : Int)) := by
      by_cases h : 8 ≤ m
      · rw [decide_eq_true h, decide_eq_true (by omega)]
      · rw [decide_eq_false h, decide_eq_false (by omega)]
    rw [d2]
    clear d2
    go_enter Tryz.func27, Tryz.ntmps27
    go_upto_region 1 with fail
    go_quiet (fail)
    go_wp2
    go_ret
    exact ⟨rfl, below_dn (Below.refl _ _) _⟩
end
section
variable {P : Program} {ops : Array Oper} {rest : List Oper} {o : Oper} {a : Act} {w : World} {Q : Exit → Act → World → Prop}
theorem wl_buildL (ty : TypeId) (l : List (Nat × Operand)) (ho : o.op = .build ty l.toArray) (hw : Region.wanted o (yielded ops a.tmps) = true) (z : Array Value) (hr : (Instr.build ty (l.map fun x => (x.1, a.eval x.2)).toArray).run P w = .ok (.agg z) w)
    (h : wpList P ops Q rest (a.put o.dst (.agg z)) w) : wpList P ops Q (o :: rest) a w := by
  refine BigFrame.wpList_want hw fun K hK => ?_
  have h' := hK _ _ h
  unfold Oper.wp execOp
  simp only [ho, List.map_toArray, Sem.run_bind, hr, Result.andThen_ok, Sem.run_pure]
  exact h'
end
theorem new_cells (n : Nat) : (Tryz.zeroCells63.setIfInBounds 0 (nu (n : Int))).setIfInBounds 1666 (Value.int IntKind.i64 (-1)) = (rowR (newR n) (List.replicate 8 (.slice none 0 0)) (.slice none 0 0)).toArray := by kernel_rfl
theorem zero_one : ∀ i, i < 8 → (List.replicate 8 (Value.slice none 0 0)).getD i undef = .slice none 0 0 := by
  intro i hi
  rw [List.getD_eq_getElem?_getD, List.getElem?_replicate_of_lt hi]
  rfl
theorem zero_reg (n i : Nat) (hi : i < 8) : (newR n).regs.getD i zeroG = zeroG := by
  show (List.replicate 8 zeroG).getD i zeroG = zeroG
  rw [List.getD_eq_getElem?_getD, List.getElem?_replicate_of_lt hi]
  rfl
theorem new_row (W : World) (n : Nat) (hn : 2 ≤ n ∧ n ≤ 8) (w' : World) (hr : w'.heap[W.heap.size]? = some (.cells (rowR (newR n) (List.replicate 8 (.slice none 0 0)) (.slice none 0 0)).toArray 63)) : RA w' W.heap.size [] [] (newR n) (List.replicate 8 (.slice none 0 0)) (.slice none 0 0) := by
  refine ⟨RInv.new n hn, by simp, hr, fun i hi => ?_, fun i hi b hb => ?_, OwnP.nil _, (fun b hb => by cases hb), ⟨by simp, by simp, by simp⟩, by simp⟩
  · rw [zero_one i hi, zero_reg n i hi]
    exact OwnP.nil _
  · rw [zero_one i hi] at hb
    cases hb
set_option maxHeartbeats 4000000 in
theorem rnew_ok (w : World) (n : Nat) (hn : 2 ≤ n ∧ n ≤ 8) : Calls Tryz.prog 5 #[nu (n : Int)] w fun e w' => e = .returned (.tuple #[.pointer (some ⟨w.heap.size, 0, none⟩), nu 0]) ∧ RX w' w.heap.size [w.heap.size] (newR n) ∧ Below w.heap.size w w' := by
  have HB := hid (new_cells n)
  have HN := hid (fun W' hr => new_row w n hn W' hr)
  have d1 : decide ((n : Int) < 2) = false := decide_eq_false (by omega)
  have d2 : decide ((8 : Int) < (n : Int)) = false := decide_eq_false (by omega)
  have d3 : decide (n < 2) = false := decide_eq_false (by omega)
  have d4 : decide (8 < n) = false := decide_eq_false (by omega)
  clear hn
  obtain ⟨V, hV⟩ : ∃ V, V = rowR (newR n) (List.replicate 8 (.slice none 0 0)) (.slice none 0 0) := ⟨_, rfl⟩
  rw [← hV] at HB HN
  clear hV
  go_enter Tryz.func5, Tryz.ntmps5
  go_wp2
  go_ret2
  refine ⟨rfl, ⟨[], [], _, _, HN.out _ ?_, by simp, by simp⟩, below_a1 w _⟩
  rw [HB.out]
  exact top_obj w _
set_option maxHeartbeats 4000000 in
theorem rnew_bad (w : World) (n : Int) (hn : ¬ (2 ≤ n ∧ n ≤ 8)) : Calls Tryz.prog 5 #[nu n] w fun e w' => e = .returned (.tuple #[.pointer none, nu 2]) ∧ w' = w := by
  by_cases h2 : n < 2
  · have d1 : decide (n < 2) = true := decide_eq_true h2
    clear hn h2
    go_enter Tryz.func5, Tryz.ntmps5
    go_wp2
    go_ret2
    exact ⟨rfl, rfl⟩
  · have d1 : decide (n < 2) = false := decide_eq_false h2
    have d2 : decide (8 < n) = true := decide_eq_true (by omega)
    clear hn h2
    go_enter Tryz.func5, Tryz.ntmps5
    go_wp2
    go_ret2
    exact ⟨rfl, rfl⟩
open Go Go.RowKit
set_option maxRecDepth 100000
theorem infoPn : (Tryz.prog.info? 66).map (fun i => (i.zero, i.size, i.bytes)) = some (some (.agg (penC zeroP).toArray), 68, 96) := by kernel_rfl
theorem zeroP_cells : (Value.agg (penC zeroP).toArray).cells.size = 68 := by
  show (penC zeroP).toArray.size = 68
  rw [List.size_toArray]
  exact penC_len ⟨rfl, rfl⟩
theorem flat_app (a b : List Pen) : flatQ (a ++ b) = flatQ a ++ flatQ b := by simp [flatQ]
theorem run_app_pens {w : World} {v x : Value} {ps news : List Pen} (ty : TypeId) (h : OwnP w v ps) (hp : Pc w 68 x news.length (flatQ news)) (hl : ps.length + news.length ≤ 1000000) :
    ∃ v' w', (Builtin.append_ #[43, 43] ty #[v, x]).run Tryz.prog w = .ok v' w' ∧ OwnP w' v' (ps ++ news) ∧ w.grownBy w' v.ownBlock ∧ (v'.ownBlock = v.ownBlock ∨ v'.ownBlock = some w.heap.size) := by
  obtain ⟨v', w', h1, h2, h3, h4⟩ := run_append_pc (P := Tryz.prog) (w := w) 0 43 ty 66 _ 68 96 Tryz.underlying43 infoPn zeroP_cells (by decide) v x ps.length news.length (flatQ ps) (flatQ news) h hp (one_flat news) hl (by decide) (Nat.zero_le _)
  refine ⟨v', w', h1, ?_, h3, h4⟩
  unfold OwnP
  rw [List.length_append, flat_app]
  exact h2
theorem wl_app_pens {P : Program} {ops : Array Oper} {rest : List Oper} {o : Oper} {a : Act} {w : World} {Q : Exit → Act → World → Prop} (hg : o.guard = none) (s x : Operand) (ts : Array TypeId)
    (ho : o.op = .call { callee := .builtin .append, args := #[s, x], argTypes := ts }) (v u : Value) (hs : a.eval s = v) (hx : a.eval x = u) (v' : Value) (w' : World) (hr : (Builtin.append_ ts o.type #[v, u]).run P w = .ok v' w')
    (h : wpList P ops Q rest (a.put o.dst v') w') : wpList P ops Q (o :: rest) a w := by
  refine wpList_plain hg fun K hK => ?_
  have h' := hK _ _ h
  unfold Oper.wp execOp
  simp only [ho, resolve, invoke, builtin, Sem.run_bind, Sem.run_pure, Result.andThen_ok, List.map_toArray, List.map_cons, List.map_nil, hs, hx, hr]
  exact h'
theorem made_empty (w : World) : OwnP (w.alloc (.cells #[] 66)) (.slice (some ⟨w.heap.size, 0, none⟩) 0 0) [] := ⟨rfl, .inr ⟨w.heap.size, 0, #[], rfl, Nat.zero_le _, top_obj w _, Nat.le_refl _, Nat.zero_le _, rfl, rfl⟩⟩
theorem nil_is (W : World) : (binOp .eql 43 (.slice none 0 0) (.slice none 0 0)).run Tryz.prog W = .ok (.bool true) W := by kernel_rfl
theorem some_isnt (W : World) (a : Addr) (n c : Nat) : (binOp .eql 43 (.slice (some a) n c) (.slice none 0 0)).run Tryz.prog W = .ok (.bool false) W := by kernel_rfl
set_option maxHeartbeats 4000000 in
theorem clonep_any {w : World} {v : Value} {ps : List Pen} (h : OwnP w v ps) (hl : ps.length ≤ 1000) :
    Calls Tryz.prog 38 #[v] w fun e w' => ∃ v', e = .returned v' ∧ OwnP w' v' ps ∧ (∀ b, v'.ownBlock = some b → w.heap.size ≤ b) ∧ Below w.heap.size w w' := by
  rcases h.form with ⟨rfl, rfl⟩ | ⟨g, cap, cur, rfl, hg, -⟩
  · have hq := nil_is
    go_enter Tryz.func38, Tryz.ntmps38
    go_wp2
    go_ret
    exact ⟨_, rfl, OwnP.nil _, (fun b hb => by cases hb), Below.refl _ _⟩
  · have H0 := hid (made_empty w)
    have HP : Hid (Pc (w.alloc (.cells #[] 66)) 68 (.slice (some ⟨g, 0, none⟩) ps.length cap) ps.length (flatQ ps)) := own_pc (h.kept (below_a1 w _))
    have hb := below_a1 w (.cells #[] 66)
    obtain ⟨v', w', h1, h2, h3, h4⟩ := run_app_pens (ps := []) (news := ps) 43 H0.out HP.out (by simpa using Nat.le_trans hl (by decide))
    have HR := hid h1
    have HO : Hid (OwnP w' v' ps) := by show OwnP w' v' ps; simpa using h2
    have HB : Hid (Below w.heap.size w w') := (Kp.grown (X := []) (Kp.of hb) h3 (fun k hk => by
      cases hk
      exact Or.inr (Nat.le_refl _))).below (by simp) (Nat.le_refl _)
    have HV : Hid (∀ b, v'.ownBlock = some b → w.heap.size ≤ b) := by
      intro b hb'
      rcases h4 with e | e
      · rw [e] at hb'
        cases hb'
        exact Nat.le_refl _
      · rw [e] at hb'
        cases hb'
        simp
    clear h hl hg hb h1 h2 h3 h4 HP H0
    have hq := fun W => some_isnt W ⟨g, 0, none⟩ ps.length cap
    go_enter Tryz.func38, Tryz.ntmps38
    go_wp2_with (first
      | (at_builtin; refine wl_app_pens rfl _ _ _ rfl _ _ rfl rfl v' w' HR.out ?_))
    go_ret
    exact ⟨_, rfl, HO.out, HV.out, HB.out⟩
open Go Go.RowKit
set_option maxRecDepth 100000
theorem results_ct {P : Program} {fn : Func} {p u : Tmp} {ty : TypeId} (h : fn.results = #[.cell p ty, .tmp u]) (tmps : Array Value) (w : World) (g : Nat) (t : TypeId) (cs : Array Value) (fr : Nat × Nat) (d : TypeDesc)
    (hp : tmps.getD p undef = .pointer (some ⟨g, 0, none⟩)) (hg : w.heap[g]? = some (.cells cs t fr))
    (hu : P.underlying ty = some d) (hd : (match d with | .struct _ | .array _ _ => true | _ => false) = true) (hi : (P.info? ty).map (·.size) = some cs.size) :
    (results fn tmps).run P w = .ok (.tuple #[.agg cs, tmps.getD u undef]) w := by
  have hp' : tmps[p]?.getD undef = .pointer (some ⟨g, 0, none⟩) := by simpa using hp
  simp [results, h, hp', asAddr, run_loadVar_row w g t ty cs fr d hg hu hd hi]
theorem zeroRep : (Tryz.prog.info? 45).map (·.zero) = some (some (.agg (repC zeroR (.slice none 0 0)).toArray)) := by kernel_rfl
theorem rep_split (r : Rep) (v : Value) : repC r v = ([nu r.number, nu r.last, st r.view] ++ dg r.commit) ++ ([v] ++ ([nu r.vnum, st r.value] ++ (dg r.data ++ ([st r.seen] ++ dg r.stag)))) := by simp [repC]
theorem rep_pre {r : Rep} (h : r.Wf) : ([nu r.number, nu r.last, st r.view] ++ dg r.commit).length = 35 := by rw [List.length_append, dg_len, h.commit]; rfl
theorem size41 : (Tryz.prog.info? 43).map (·.size) = some 1 := by kernel_rfl
theorem row_nil {w : World} {g : Nat} {L : List Value} {t : TypeId} (h : w.heap[g]? = some (.cells L.toArray t)) : w.heap[g]? = some (.cells ([] ++ (L ++ [])).toArray t) := by simpa using h
set_option maxHeartbeats 4000000 in
theorem told_any {w : World} {p : Nat} {q rs : List Nat} {R : Rs} {vs : List Value} {vP : Value} (h : RA w p q rs R vs vP) {c : Nat} (hc : c < 8) :
    Calls Tryz.prog 30 #[.pointer (some ⟨p, 1 + c * 204, none⟩)] w fun e w' => ∃ v', e = .returned (.agg (repC (R.regs.getD c zeroG).ans v').toArray) ∧ OwnP w' v' (R.regs.getD c zeroG).ans.pend ∧ (∀ b, v'.ownBlock = some b → w.heap.size ≤ b) ∧ Below w.heap.size w w' := by
  have hg : GOk (R.regs.getD c zeroG) := h.inv.reg (c : Int)
  have HO := hid (h.reps c hc)
  generalize hY : (R.regs.getD c zeroG).ans = Y at *
  have hw : Y.Wf := by rw [← hY]; exact hg.ans
  have hl : Y.pend.length ≤ 8 := by rw [← hY]; exact hg.apend
  generalize hv0 : vs.getD c undef = v0 at *
  -- the worlds
  have B1 := hid (below_a1 w (.cells (repC zeroR (.slice none 0 0)).toArray 45))
  have T1 := hid (top_obj w (.cells (repC zeroR (.slice none 0 0)).toArray 45))
  have Z1 : (Tryz.prog.info? 45).map (·.size) = some (repC Y v0).length := by rw [repC_len hw]; exact sizeRep
  have l1 : (repC zeroR (.slice none 0 0)).length = (repC Y v0).length := by rw [repC_len hw, repC_len wfZeroR]
  have o1 := hid (one_rep Y v0 HO.out.one)
  have S1 : Hid (∀ j v, (repC Y v0)[j]? = some v → (w.alloc (.cells (repC zeroR (.slice none 0 0)).toArray 45)).cell? ⟨p, 1 + c * 204 + 68 + j, none⟩ = some v) := by
    have := (h.kept B1.out).ans hc
    rw [hY, hv0] at this
    exact this
  have HO1 := hid (HO.out.kept B1.out)
  have ZR := zeroRep
  clear h hg HO hY hv0
  go_enter Tryz.func30, Tryz.ntmps30
  go_upto_region 1 with (first | ((with_reducible refine wl_alloc 45 ?_ ?_ (repC zeroR (.slice none 0 0)).toArray ZR ?_); exact rfl; exact rfl))
  obtain ⟨Z, hZ⟩ : ∃ Z, Z = repC zeroR (.slice none 0 0) := ⟨_, rfl⟩
  rw [← hZ] at B1 T1 l1 S1 HO1 ZR ⊢
  clear hZ
  generalize w.alloc (.cells Z.toArray 45) = W1 at *
  have B2 := hid (below_a1 W1 (.cells (repC Y v0).toArray 45))
  have T2 := hid (top_obj W1 (.cells (repC Y v0).toArray 45))
  go_upto_region 2 with (first
    | ((with_reducible refine wl_load 45 (.tmp 6) ?_ p (1 + c * 204 + 68) ?_ ?_ (repC Y v0) _ S1.out Tryz.underlying45 ?_ Z1 ?_); exact rfl; exact rfl; exact rfl; exact rfl)
    | ((with_reducible refine wl_alloc 45 ?_ ?_ Z.toArray ZR ?_); exact rfl; exact rfl)
    | ((with_reducible refine wl_store_top 45 (.tmp 3) (.tmp 7) ?_ ?_ ?_ ?_ (repC Y v0) Z ?_ 45 l1 o1.out Z1 ?_); exact rfl; exact rfl; exact rfl; exact rfl; exact rfl))
  generalize hW2 : W1.alloc (.cells (repC Y v0).toArray 45) = W2 at *
  generalize hg2 : W1.heap.size = g2 at *
  have HO2 := hid (HO1.out.kept (by rw [hg2]; exact B2.out))
  have c2 : W2.cell? ⟨g2, 35, none⟩ = some v0 := row_cell (A := [nu Y.number, nu Y.last, st Y.view] ++ dg Y.commit) T2.out (rep_split Y v0) (rep_pre hw)
  have HC := hid (clonep_any HO2.out (by omega))
  have i1 : (Tryz.prog.info? 43).map (·.size) = some 1 := size41
  go_wp2_with (first
    | (go_at_call 38; refine HC.out.mono ?_; rintro e W3 ⟨v', rfl, ho3, hv3, hb3⟩; have T3 := hid (row_kept T2.out hb3); rw [rep_split Y v0] at T3; have HB3 := hid hb3; have HO3 := hid ho3; have HV3 := hid hv3; clear hb3 ho3 hv3)
    | ((with_reducible refine wl_put1 43 (.tmp 11) (.tmp 10) ?_ ?_ g2 35 ?_ ?_ ([nu Y.number, nu Y.last, st Y.view] ++ dg Y.commit) ([nu Y.vnum, st Y.value] ++ (dg Y.data ++ ([st Y.seen] ++ dg Y.stag))) v0 v' ?_ 45 T3.out (rep_pre hw) HO3.out.one i1 ?_); exact rfl; exact rfl; exact rfl; exact rfl; exact rfl; intro W4 hr4 hb4; rw [← rep_split Y v'] at hr4; have T4 := hid hr4; have U4 := hid hb4; have S4 := hid (row_seg (off := 0) (A := []) (cs := repC Y v') (C := []) T4.out (by simp) rfl); have Z4 : (Tryz.prog.info? 45).map (·.size) = some (repC Y v').length := (by rw [repC_len hw]; exact sizeRep); have l4 : Z.length = (repC Y v').length := (by rw [repC_len hw]; exact l1.trans (repC_len hw _)); have o4 := hid (one_rep Y v' HO3.out.one); have Q4 : Hid (W4.heap[w.heap.size]? = some (.cells ([] ++ (Z ++ [])).toArray 45)) := (row_nil (U4.out.row (row_kept (row_kept T1.out (by rw [hg2]; exact B2.out)) HB3.out) (by have := B1.out.size; have := row_ltA T1.out; omega))); clear hr4 hb4)
    | ((with_reducible refine wl_load 45 (.tmp 3) ?_ g2 0 ?_ ?_ (repC Y v') _ S4.out Tryz.underlying45 ?_ Z4 ?_); exact rfl; exact rfl; exact rfl; exact rfl)
    | ((with_reducible refine wl_put 45 (.tmp 2) (.tmp 12) ?_ ?_ w.heap.size 0 ?_ ?_ [] (repC Y v') Z [] ?_ 45 Q4.out rfl l4 o4.out Z4 ?_); exact rfl; exact rfl; exact rfl; exact rfl; exact rfl; intro W5 hr5 hb5))
  have hr6 : W5.heap[w.heap.size]? = some (.cells (repC Y v').toArray 45) := by simpa using hr5
  have hs2 : w.heap.size < g2 := by have := row_ltA T1.out; omega
  have HB2 : Hid (Below w.heap.size w W2) := below_two B1.out (by rw [hg2]; exact B2.out)
  have HW2 : w.heap.size < W2.heap.size := by have := row_ltA T2.out; omega
  have HB4 : Hid (Below w.heap.size w W4) := U4.out.below (below_two HB2.out HB3.out) (by omega)
  refine bodyPost_ret_by (results_row (fn := Tryz.f30) (p := 2) (ty := 45) (by kernel_rfl) _ _ w.heap.size 45 (repC Y v').toArray (0, 0) _ rfl hr6 Tryz.underlying45 rfl (by rw [List.size_toArray]; exact Z4)) rfl ?_
  have hgb : ∀ b, v'.ownBlock = some b → W2.heap.size ≤ b := HV3.out
  refine ⟨v', rfl, ?_, fun b hb => by have := hgb b hb; omega, hb5.below HB4.out (Nat.le_refl _)⟩
  have h4 : OwnP W4 v' Y.pend := HO3.out.kp (X := [g2]) ((Kp.refl _ _).but U4.out (Or.inl (by simp))) (fun b hb hx => by have := hgb b hb; have := row_ltA T2.out; simp at hx; omega)
  exact h4.kp (X := [w.heap.size]) ((Kp.refl _ _).but hb5 (Or.inl (by simp))) (fun b hb hx => by have := hgb b hb; simp at hx; omega)
open Go Go.RowKit Go.Sort
set_option maxRecDepth 100000
theorem guardSu : Tryz.prog.eqGuardType Tryz.prog.depth 34 = false := by kernel_rfl
def AgO (sm : Bool) (a Y : Rep) (E : Int) : Prop := Y = (if sm = true then a else zeroR) ∧ E = (if sm = true then 0 else 10)
set_option maxHeartbeats 4000000 in
theorem again_any {w : World} {p : Nat} {q rs : List Nat} {R : Rs} {vs : List Value} {vP : Value} (h : RA w p q rs R vs vP) {c : Nat} (hc : c < 8) {x : Sub} (hx : x.Wf) :
    Calls Tryz.prog 26 #[.pointer (some ⟨p, 1 + c * 204, none⟩), .agg (subC x).toArray] w fun e w' =>
      ∃ v' Y E, e = .returned (.tuple #[.agg (repC Y v').toArray, nu E]) ∧ AgO (sameS x (R.regs.getD c zeroG).asked) (R.regs.getD c zeroG).ans Y E ∧ OwnP w' v' Y.pend ∧ (∀ b, v'.ownBlock = some b → w.heap.size ≤ b) ∧ Below w.heap.size w w' := by
  have hg : GOk (R.regs.getD c zeroG) := h.inv.reg (c : Int)
  have B1 := hid (below_a1 w (.cells (subC x).toArray 34))
  have T1 := hid (top_obj w (.cells (subC x).toArray 34))
  have Zx : (Tryz.prog.info? 34).map (·.size) = some (subC x).length := by rw [subC_len hx]; exact sizeSub
  have Za : (Tryz.prog.info? 34).map (·.size) = some (subC (R.regs.getD c zeroG).asked).length := by rw [subC_len hg.asked]; exact sizeSub
  have EQ := fun W => equal_sub W _ _ hx hg.asked
  have HR := hid h
  have hYw := hg.ans
  clear h hx
  generalize hS : (R.regs.getD c zeroG).asked = S at *
  generalize hsm : sameS x S = sm at *
  obtain ⟨V, hV⟩ : ∃ V, V = subC x := ⟨_, rfl⟩
  rw [← hV] at B1 T1 Zx EQ ⊢
  clear hV
  have ZR := zeroRep
  have lz : (repC zeroR (.slice none 0 0)).length = 103 := repC_len wfZeroR _
  have IZ : (Tryz.prog.info? 45).map (·.size) = some (repC zeroR (.slice none 0 0)).length := by rw [lz]; exact sizeRep
  have OZ := hid (one_rep zeroR (.slice none 0 0) rfl)
  have HBd := hid build_rep
  go_enter Tryz.func26, Tryz.ntmps26
  generalize hZ : repC zeroR (.slice none 0 0) = Z at *
  go_upto_region 1 with (first | ((with_reducible refine wl_alloc 45 ?_ ?_ Z.toArray ZR ?_); exact rfl; exact rfl))
  have e1 : (w.alloc (.cells V.toArray 34)).heap.size = w.heap.size + 1 := by simp
  generalize w.alloc (.cells V.toArray 34) = W1 at *
  have B2 := hid (below_two B1.out (below_a1 W1 (.cells Z.toArray 45)))
  have T2 := hid (row_kept T1.out (below_a1 W1 (.cells Z.toArray 45)))
  have U2 := hid (top_obj W1 (.cells Z.toArray 45))
  rw [e1] at U2
  have hgs : w.heap.size < w.heap.size + 1 := Nat.lt_succ_self _
  generalize W1.alloc (.cells Z.toArray 45) = W2 at *
  clear e1
  generalize w.heap.size + 1 = g1 at *
  have H2 := hid (HR.out.kept B2.out)
  have SX := hid (fun w' (hw : ∃ p : Regrown, w' = Sort.grow (redrawn W2 p.d) p.os) => (by obtain ⟨p, rfl⟩ := hw; exact fun i c hi => cell_regrown (row_seg (off := 0) (A := []) (cs := V) (C := []) T2.out (by simp) rfl i c hi) _ _ : ∀ i c, V[i]? = some c → w'.cell? ⟨w.heap.size, 0 + i, none⟩ = some c))
  have SA := hid (fun w' (hw : ∃ p : Regrown, w' = Sort.grow (redrawn W2 p.d) p.os) => (by obtain ⟨p, rfl⟩ := hw; have := H2.out.asked hc; rw [hS] at this; exact fun i c hi => cell_regrown (this i c hi) _ _ : ∀ i v, (subC S)[i]? = some v → w'.cell? ⟨p, 1 + c * 204 + i, none⟩ = some v))
  clear T2
  refine wp_region_quiet_below (by kernel_rfl) (by kernel_rfl) ?_
  refine wq_load 34 (.tmp 3) rfl w.heap.size 0 rfl rfl V _ (fun w' hw' => SX.out w' hw') Tryz.underlying34 rfl Zx ?_
  simp only [Act.put, List.setIfInBounds_toArray, List.set_cons_zero, List.set_cons_succ]
  iterate 3 (first | go_big_quiet_step (fail) | quiet_step (fail))
  refine wq_load 34 (.tmp 9) rfl p (1 + c * 204) rfl rfl (subC S) _ (fun w' hw' => SA.out w' hw') Tryz.underlying34 rfl Za ?_
  simp only [Act.put, List.setIfInBounds_toArray, List.set_cons_zero, List.set_cons_succ]
  refine wq_neq rfl 34 34 (.tmp 6) (.tmp 10) rfl V.toArray (subC S).toArray rfl rfl guardSu sm EQ ?_
  simp only [Act.put, List.setIfInBounds_toArray, List.set_cons_zero, List.set_cons_succ]
  refine wpQuiet_nil ?_
  intro _ hw'
  obtain ⟨⟨dq, osq⟩, hw''⟩ := hw'
  subst hw''
  have B3 := hid (below_two B2.out (below_regrown W2 dq osq))
  have U3 := hid (row_kept U2.out (below_regrown W2 dq osq))
  have H3 := hid (H2.out.kept (below_regrown W2 dq osq))
  generalize Sort.grow (redrawn W2 dq) osq = W3 at *
  clear SX SA EQ U2 B2 H2 T1 B1
  cases sm with
  | false => as_aux_lemma =>
    have U3' := hid (row_nil U3.out)
    go_wp2_with (first | ((with_reducible refine wl_build 45 ?_ ?_ Z.toArray (HBd.out _) ?_); exact rfl; exact rfl) | ((with_reducible refine wl_put 45 (.tmp 4) (.tmp 12) ?_ ?_ g1 0 ?_ ?_ [] Z Z [] ?_ 45 U3'.out rfl rfl OZ.out IZ ?_); exact rfl; exact rfl; exact rfl; exact rfl; exact rfl; intro w4 hr4 hbut))
    have hr5 : w4.heap[g1]? = some (.cells Z.toArray 45) := by simpa using hr4
    refine bodyPost_ret_by (results_ct (fn := Tryz.f26) (p := 4) (u := 5) (ty := 45) (by kernel_rfl) _ _ g1 45 Z.toArray (0, 0) _ rfl hr5 Tryz.underlying45 rfl (by rw [List.size_toArray]; exact IZ)) rfl ?_
    exact ⟨.slice none 0 0, zeroR, 10, by rw [hZ]; rfl, ⟨rfl, rfl⟩, OwnP.nil _, (fun b hb => by cases hb), hbut.below B3.out (by omega)⟩
  | true => as_aux_lemma =>
    have HT := hid (told_any H3.out hc)
    generalize hYe : (R.regs.getD c zeroG).ans = Y at *
    go_wp2_with fail
    refine HT.out.mono ?_
    rintro e W4 ⟨v', rfl, ho, hv, hb⟩
    have HO := hid ho
    have HV := hid hv
    have B4 := hid (below_two B3.out hb)
    have U4 := hid (row_nil (row_kept U3.out hb))
    have s3 : g1 < W3.heap.size := row_ltA U3.out
    clear ho hv hb HT U3 H3
    have IY : (Tryz.prog.info? 45).map (·.size) = some (repC Y v').length := by rw [repC_len hYw]; exact sizeRep
    have lY : Z.length = (repC Y v').length := by rw [lz, repC_len hYw]
    have OY := hid (one_rep Y v' HO.out.one)
    go_wp2_with (first | ((with_reducible refine wl_put 45 (.tmp 4) (.tmp 14) ?_ ?_ g1 0 ?_ ?_ [] (repC Y v') Z [] ?_ 45 U4.out rfl lY OY.out IY ?_); exact rfl; exact rfl; exact rfl; exact rfl; exact rfl; intro w5 hr5 hbut))
    have hr6 : w5.heap[g1]? = some (.cells (repC Y v').toArray 45) := by simpa using hr5
    refine bodyPost_ret_by (results_ct (fn := Tryz.f26) (p := 4) (u := 5) (ty := 45) (by kernel_rfl) _ _ g1 45 (repC Y v').toArray (0, 0) _ rfl hr6 Tryz.underlying45 rfl (by rw [List.size_toArray]; exact IY)) rfl ?_
    have hvb : ∀ b, v'.ownBlock = some b → W3.heap.size ≤ b := HV.out
    have s4 := B3.out.size
    refine ⟨v', Y, 0, rfl, ⟨by rw [if_pos rfl]; exact hYe.symm, rfl⟩, ?_, fun b hb => by have := hvb b hb; omega, hbut.below B4.out (by omega)⟩
    exact HO.out.kp (X := [g1]) ((Kp.refl _ _).but hbut (Or.inl (by simp))) (fun b hb hx => by have := hvb b hb; simp at hx; omega)
end Go.Proofs.YtoneoocihfjfgaaGreatDoor.Ms
