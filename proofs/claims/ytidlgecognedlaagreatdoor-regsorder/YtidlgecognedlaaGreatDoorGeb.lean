/-
  Lists of what is pending: cloned (slices.Clone), appended to, cut; what a client was answered (told, again).
-/
import Derived.Test.YtidlgecognedlaaGreatDoorGea
import Derived.StillTailTactics
namespace Go.Proofs.YtidlgecognedlaaGreatDoor.Ms
open Go Go.RowKit
set_option maxRecDepth 100000

theorem infoPn : (Tryz.prog.info? 113).map (fun i => (i.zero, i.size, i.bytes)) = some (some (.agg (penC zeroP).toArray), 68, 96) := by kernel_rfl
theorem zeroP_cells : (Value.agg (penC zeroP).toArray).cells.size = 68 := by
  show (penC zeroP).toArray.size = 68
  rw [List.size_toArray]
  exact penC_len ⟨rfl, rfl⟩
theorem flat_app (a b : List Pen) : flatQ (a ++ b) = flatQ a ++ flatQ b := by simp [flatQ]
/-- A list grows by another one. -/
theorem run_app_pens {w : World} {v x : Value} {ps news : List Pen} (ty : TypeId) (h : OwnP w v ps) (hp : Pc w 68 x news.length (flatQ news)) (hl : ps.length + news.length ≤ 1000000) :
    ∃ v' w', (Builtin.append_ #[26, 26] ty #[v, x]).run Tryz.prog w = .ok v' w' ∧ OwnP w' v' (ps ++ news) ∧ w.grownBy w' v.ownBlock ∧ (v'.ownBlock = v.ownBlock ∨ v'.ownBlock = some w.heap.size) := by
  obtain ⟨v', w', h1, h2, h3, h4⟩ := run_append_pc (P := Tryz.prog) (w := w) 0 26 ty 113 _ 68 96 Tryz.underlying26 infoPn zeroP_cells (by decide) v x ps.length news.length (flatQ ps) (flatQ news) h hp (one_flat news) hl (by decide) (Nat.zero_le _)
  refine ⟨v', w', h1, ?_, h3, h4⟩
  unfold OwnP
  rw [List.length_append, flat_app]
  exact h2
theorem wl_app_pens {P : Program} {ops : Array Oper} {rest : List Oper} {o : Oper} {a : Act} {w : World} {Q : Exit → Act → World → Prop} (hg : o.guard = none) (s x : Operand) (ts : Array TypeId)
    (ho : o.op = .call { callee := .builtin .append, args := #[s, x], argTypes := ts }) (v u : Value) (hs : a.eval s = v) (hx : a.eval x = u) (v' : Value) (w' : World) (hr : (Builtin.append_ ts o.type #[v, u]).run P w = .ok v' w')
    (h : wpList P ops Q rest (a.put o.dst v') w') : wpList P ops Q (o :: rest) a w := by
  refine wpList_plain hg fun K hK => ?_
  have h' := hK _ _ h
  unfold Oper.wp execOp
  simp only [ho, resolve, invoke, builtin, Sem.run_bind, Sem.run_pure, Result.andThen_ok, List.map_toArray, List.map_cons, List.map_nil, hs, hx, hr]
  exact h'
theorem made_empty (w : World) : OwnP (w.alloc (.cells #[] 113)) (.slice (some ⟨w.heap.size, 0, none⟩) 0 0) [] := ⟨rfl, .inr ⟨w.heap.size, 0, #[], rfl, Nat.zero_le _, top_obj w _, Nat.le_refl _, Nat.zero_le _, rfl, rfl⟩⟩
theorem nil_is (W : World) : (binOp .eql 26 (.slice none 0 0) (.slice none 0 0)).run Tryz.prog W = .ok (.bool true) W := by kernel_rfl
theorem some_isnt (W : World) (a : Addr) (n c : Nat) : (binOp .eql 26 (.slice (some a) n c) (.slice none 0 0)).run Tryz.prog W = .ok (.bool false) W := by kernel_rfl
set_option maxHeartbeats 4000000 in
theorem clonep_any {w : World} {v : Value} {ps : List Pen} (h : OwnP w v ps) (hl : ps.length ≤ 1000) :
    Calls Tryz.prog 103 #[v] w fun e w' => ∃ v', e = .returned v' ∧ OwnP w' v' ps ∧ (∀ b, v'.ownBlock = some b → w.heap.size ≤ b) ∧ Below w.heap.size w w' := by
  rcases h.form with ⟨rfl, rfl⟩ | ⟨g, cap, cur, rfl, hg, -⟩
  · have hq := nil_is
    go_enter Tryz.func103, Tryz.ntmps103
    go_wp2
    go_ret
    exact ⟨_, rfl, OwnP.nil _, (fun b hb => by cases hb), Below.refl _ _⟩
  · have H0 := hid (made_empty w)
    have HP : Hid (Pc (w.alloc (.cells #[] 113)) 68 (.slice (some ⟨g, 0, none⟩) ps.length cap) ps.length (flatQ ps)) := own_pc (h.kept (below_a1 w _))
    have hb := below_a1 w (.cells #[] 113)
    obtain ⟨v', w', h1, h2, h3, h4⟩ := run_app_pens (ps := []) (news := ps) 26 H0.out HP.out (by simpa using Nat.le_trans hl (by decide))
    have HR := hid h1
    have HO : Hid (OwnP w' v' ps) := by show OwnP w' v' ps; simpa using h2
    have HB : Hid (Below w.heap.size w w') := (Kp.grown (X := []) (Kp.of hb) h3 (fun k hk => by
      cases hk
      exact Or.inr (Nat.le_refl _))).below (by simp) (Nat.le_refl _)
    have HV : Hid (∀ b, v'.ownBlock = some b → w.heap.size ≤ b) := by
      intro b hb'
      rcases h4 with e | e
      · rw [e] at hb'
        cases hb'
        exact Nat.le_refl _
      · rw [e] at hb'
        cases hb'
        simp
    clear h hl hg hb h1 h2 h3 h4 HP H0
    have hq := fun W => some_isnt W ⟨g, 0, none⟩ ps.length cap
    go_enter Tryz.func103, Tryz.ntmps103
    go_wp2_with (first
      | (at_builtin; refine wl_app_pens rfl _ _ _ rfl _ _ rfl rfl v' w' HR.out ?_))
    go_ret
    exact ⟨_, rfl, HO.out, HV.out, HB.out⟩
end Go.Proofs.YtidlgecognedlaaGreatDoor.Ms

/-
  What a client was answered last, told anew (told), and asked for again (again).
-/
namespace Go.Proofs.YtidlgecognedlaaGreatDoor.Ms
open Go Go.RowKit
set_option maxRecDepth 100000

theorem results_ct {P : Program} {fn : Func} {p u : Tmp} {ty : TypeId} (h : fn.results = #[.cell p ty, .tmp u]) (tmps : Array Value) (w : World) (g : Nat) (t : TypeId) (cs : Array Value) (fr : Nat × Nat) (d : TypeDesc)
    (hp : tmps.getD p undef = .pointer (some ⟨g, 0, none⟩)) (hg : w.heap[g]? = some (.cells cs t fr))
    (hu : P.underlying ty = some d) (hd : (match d with | .struct _ | .array _ _ => true | _ => false) = true) (hi : (P.info? ty).map (·.size) = some cs.size) :
    (results fn tmps).run P w = .ok (.tuple #[.agg cs, tmps.getD u undef]) w := by
  have hp' : tmps[p]?.getD undef = .pointer (some ⟨g, 0, none⟩) := by simpa using hp
  simp [results, h, hp', asAddr, run_loadVar_row w g t ty cs fr d hg hu hd hi]
theorem zeroRep : (Tryz.prog.info? 28).map (·.zero) = some (some (.agg (repC zeroR (.slice none 0 0)).toArray)) := by kernel_rfl
theorem rep_split (r : Rep) (v : Value) : repC r v = ([nu r.number, nu r.last, st r.view] ++ dg r.commit) ++ ([v] ++ ([nu r.vnum, st r.value] ++ (dg r.data ++ ([st r.seen] ++ dg r.stag)))) := by simp [repC]
theorem rep_pre {r : Rep} (h : r.Wf) : ([nu r.number, nu r.last, st r.view] ++ dg r.commit).length = 35 := by rw [List.length_append, dg_len, h.commit]; rfl
theorem size41 : (Tryz.prog.info? 26).map (·.size) = some 1 := by kernel_rfl
theorem row_nil {w : World} {g : Nat} {L : List Value} {t : TypeId} (h : w.heap[g]? = some (.cells L.toArray t)) : w.heap[g]? = some (.cells ([] ++ (L ++ [])).toArray t) := by simpa using h
set_option maxHeartbeats 4000000 in
theorem told_any {w : World} {p : Nat} {q rs : List Nat} {R : Rs} {vs : List Value} {vP : Value} (h : RA w p q rs R vs vP) {c : Nat} (hc : c < 8) :
    Calls Tryz.prog 68 #[.pointer (some ⟨p, 1 + c * 204, none⟩)] w fun e w' => ∃ v', e = .returned (.agg (repC (R.regs.getD c zeroG).ans v').toArray) ∧ OwnP w' v' (R.regs.getD c zeroG).ans.pend ∧ (∀ b, v'.ownBlock = some b → w.heap.size ≤ b) ∧ Below w.heap.size w w' := by
  have hg : GOk (R.regs.getD c zeroG) := h.inv.reg (c : Int)
  have HO := hid (h.reps c hc)
  generalize hY : (R.regs.getD c zeroG).ans = Y at *
  have hw : Y.Wf := by rw [← hY]; exact hg.ans
  have hl : Y.pend.length ≤ 8 := by rw [← hY]; exact hg.apend
  generalize hv0 : vs.getD c undef = v0 at *
  -- the worlds
  have B1 := hid (below_a1 w (.cells (repC zeroR (.slice none 0 0)).toArray 28))
  have T1 := hid (top_obj w (.cells (repC zeroR (.slice none 0 0)).toArray 28))
  have Z1 : (Tryz.prog.info? 28).map (·.size) = some (repC Y v0).length := by rw [repC_len hw]; exact sizeRep
  have l1 : (repC zeroR (.slice none 0 0)).length = (repC Y v0).length := by rw [repC_len hw, repC_len wfZeroR]
  have o1 := hid (one_rep Y v0 HO.out.one)
  have S1 : Hid (∀ j v, (repC Y v0)[j]? = some v → (w.alloc (.cells (repC zeroR (.slice none 0 0)).toArray 28)).cell? ⟨p, 1 + c * 204 + 68 + j, none⟩ = some v) := by
    have := (h.kept B1.out).ans hc
    rw [hY, hv0] at this
    exact this
  have HO1 := hid (HO.out.kept B1.out)
  have ZR := zeroRep
  clear h hg HO hY hv0
  go_enter Tryz.func68, Tryz.ntmps68
  go_upto_region 1 with (first | ((with_reducible refine wl_alloc 28 ?_ ?_ (repC zeroR (.slice none 0 0)).toArray ZR ?_); exact rfl; exact rfl))
  obtain ⟨Z, hZ⟩ : ∃ Z, Z = repC zeroR (.slice none 0 0) := ⟨_, rfl⟩
  rw [← hZ] at B1 T1 l1 S1 HO1 ZR ⊢
  clear hZ
  generalize w.alloc (.cells Z.toArray 28) = W1 at *
  have B2 := hid (below_a1 W1 (.cells (repC Y v0).toArray 28))
  have T2 := hid (top_obj W1 (.cells (repC Y v0).toArray 28))
  go_upto_region 2 with (first
    | ((with_reducible refine wl_load 28 (.tmp 6) ?_ p (1 + c * 204 + 68) ?_ ?_ (repC Y v0) _ S1.out Tryz.underlying28 ?_ Z1 ?_); exact rfl; exact rfl; exact rfl; exact rfl)
    | ((with_reducible refine wl_alloc 28 ?_ ?_ Z.toArray ZR ?_); exact rfl; exact rfl)
    | ((with_reducible refine wl_store_top 28 (.tmp 3) (.tmp 7) ?_ ?_ ?_ ?_ (repC Y v0) Z ?_ 28 l1 o1.out Z1 ?_); exact rfl; exact rfl; exact rfl; exact rfl; exact rfl))
  generalize hW2 : W1.alloc (.cells (repC Y v0).toArray 28) = W2 at *
  generalize hg2 : W1.heap.size = g2 at *
  have HO2 := hid (HO1.out.kept (by rw [hg2]; exact B2.out))
  have c2 : W2.cell? ⟨g2, 35, none⟩ = some v0 := row_cell (A := [nu Y.number, nu Y.last, st Y.view] ++ dg Y.commit) T2.out (rep_split Y v0) (rep_pre hw)
  have HC := hid (clonep_any HO2.out (by omega))
  have i1 : (Tryz.prog.info? 26).map (·.size) = some 1 := size41
  go_wp2_with (first
    | (go_at_call 103; refine HC.out.mono ?_; rintro e W3 ⟨v', rfl, ho3, hv3, hb3⟩; have T3 := hid (row_kept T2.out hb3); rw [rep_split Y v0] at T3; have HB3 := hid hb3; have HO3 := hid ho3; have HV3 := hid hv3; clear hb3 ho3 hv3)
    | ((with_reducible refine wl_put1 26 (.tmp 11) (.tmp 10) ?_ ?_ g2 35 ?_ ?_ ([nu Y.number, nu Y.last, st Y.view] ++ dg Y.commit) ([nu Y.vnum, st Y.value] ++ (dg Y.data ++ ([st Y.seen] ++ dg Y.stag))) v0 v' ?_ 28 T3.out (rep_pre hw) HO3.out.one i1 ?_); exact rfl; exact rfl; exact rfl; exact rfl; exact rfl; intro W4 hr4 hb4; rw [← rep_split Y v'] at hr4; have T4 := hid hr4; have U4 := hid hb4; have S4 := hid (row_seg (off := 0) (A := []) (cs := repC Y v') (C := []) T4.out (by simp) rfl); have Z4 : (Tryz.prog.info? 28).map (·.size) = some (repC Y v').length := (by rw [repC_len hw]; exact sizeRep); have l4 : Z.length = (repC Y v').length := (by rw [repC_len hw]; exact l1.trans (repC_len hw _)); have o4 := hid (one_rep Y v' HO3.out.one); have Q4 : Hid (W4.heap[w.heap.size]? = some (.cells ([] ++ (Z ++ [])).toArray 28)) := (row_nil (U4.out.row (row_kept (row_kept T1.out (by rw [hg2]; exact B2.out)) HB3.out) (by have := B1.out.size; have := row_ltA T1.out; omega))); clear hr4 hb4)
    | ((with_reducible refine wl_load 28 (.tmp 3) ?_ g2 0 ?_ ?_ (repC Y v') _ S4.out Tryz.underlying28 ?_ Z4 ?_); exact rfl; exact rfl; exact rfl; exact rfl)
    | ((with_reducible refine wl_put 28 (.tmp 2) (.tmp 12) ?_ ?_ w.heap.size 0 ?_ ?_ [] (repC Y v') Z [] ?_ 28 Q4.out rfl l4 o4.out Z4 ?_); exact rfl; exact rfl; exact rfl; exact rfl; exact rfl; intro W5 hr5 hb5))
  have hr6 : W5.heap[w.heap.size]? = some (.cells (repC Y v').toArray 28) := by simpa using hr5
  have hs2 : w.heap.size < g2 := by have := row_ltA T1.out; omega
  have HB2 : Hid (Below w.heap.size w W2) := below_two B1.out (by rw [hg2]; exact B2.out)
  have HW2 : w.heap.size < W2.heap.size := by have := row_ltA T2.out; omega
  have HB4 : Hid (Below w.heap.size w W4) := U4.out.below (below_two HB2.out HB3.out) (by omega)
  refine bodyPost_ret_by (results_row (fn := Tryz.f68) (p := 2) (ty := 28) (by kernel_rfl) _ _ w.heap.size 28 (repC Y v').toArray (0, 0) _ rfl hr6 Tryz.underlying28 rfl (by rw [List.size_toArray]; exact Z4)) rfl ?_
  have hgb : ∀ b, v'.ownBlock = some b → W2.heap.size ≤ b := HV3.out
  refine ⟨v', rfl, ?_, fun b hb => by have := hgb b hb; omega, hb5.below HB4.out (Nat.le_refl _)⟩
  have h4 : OwnP W4 v' Y.pend := HO3.out.kp (X := [g2]) ((Kp.refl _ _).but U4.out (Or.inl (by simp))) (fun b hb hx => by have := hgb b hb; have := row_ltA T2.out; simp at hx; omega)
  exact h4.kp (X := [w.heap.size]) ((Kp.refl _ _).but hb5 (Or.inl (by simp))) (fun b hb hx => by have := hgb b hb; simp at hx; omega)
end Go.Proofs.YtidlgecognedlaaGreatDoor.Ms

/-
  A submit that has the number of the last one (again).
-/
namespace Go.Proofs.YtidlgecognedlaaGreatDoor.Ms
open Go Go.RowKit Go.Sort
set_option maxRecDepth 100000

theorem guardSu : Tryz.prog.eqGuardType Tryz.prog.depth 25 = false := by kernel_rfl
/-- What is answered to a number that was asked for. -/
def AgO (sm : Bool) (a Y : Rep) (E : Int) : Prop := Y = (if sm = true then a else zeroR) ∧ E = (if sm = true then 0 else 10)
set_option maxHeartbeats 4000000 in
theorem again_any {w : World} {p : Nat} {q rs : List Nat} {R : Rs} {vs : List Value} {vP : Value} (h : RA w p q rs R vs vP) {c : Nat} (hc : c < 8) {x : Sub} (hx : x.Wf) :
    Calls Tryz.prog 64 #[.pointer (some ⟨p, 1 + c * 204, none⟩), .agg (subC x).toArray] w fun e w' =>
      ∃ v' Y E, e = .returned (.tuple #[.agg (repC Y v').toArray, nu E]) ∧ AgO (sameS x (R.regs.getD c zeroG).asked) (R.regs.getD c zeroG).ans Y E ∧ OwnP w' v' Y.pend ∧ (∀ b, v'.ownBlock = some b → w.heap.size ≤ b) ∧ Below w.heap.size w w' := by
  have hg : GOk (R.regs.getD c zeroG) := h.inv.reg (c : Int)
  have B1 := hid (below_a1 w (.cells (subC x).toArray 25))
  have T1 := hid (top_obj w (.cells (subC x).toArray 25))
  have Zx : (Tryz.prog.info? 25).map (·.size) = some (subC x).length := by rw [subC_len hx]; exact sizeSub
  have Za : (Tryz.prog.info? 25).map (·.size) = some (subC (R.regs.getD c zeroG).asked).length := by rw [subC_len hg.asked]; exact sizeSub
  have EQ := fun W => equal_sub W _ _ hx hg.asked
  have HR := hid h
  have hYw := hg.ans
  clear h hx
  generalize hS : (R.regs.getD c zeroG).asked = S at *
  generalize hsm : sameS x S = sm at *
  obtain ⟨V, hV⟩ : ∃ V, V = subC x := ⟨_, rfl⟩
  rw [← hV] at B1 T1 Zx EQ ⊢
  clear hV
  have ZR := zeroRep
  have lz : (repC zeroR (.slice none 0 0)).length = 103 := repC_len wfZeroR _
  have IZ : (Tryz.prog.info? 28).map (·.size) = some (repC zeroR (.slice none 0 0)).length := by rw [lz]; exact sizeRep
  have OZ := hid (one_rep zeroR (.slice none 0 0) rfl)
  have HBd := hid build_rep
  go_enter Tryz.func64, Tryz.ntmps64
  generalize hZ : repC zeroR (.slice none 0 0) = Z at *
  go_upto_region 1 with (first | ((with_reducible refine wl_alloc 28 ?_ ?_ Z.toArray ZR ?_); exact rfl; exact rfl))
  have e1 : (w.alloc (.cells V.toArray 25)).heap.size = w.heap.size + 1 := by simp
  generalize w.alloc (.cells V.toArray 25) = W1 at *
  have B2 := hid (below_two B1.out (below_a1 W1 (.cells Z.toArray 28)))
  have T2 := hid (row_kept T1.out (below_a1 W1 (.cells Z.toArray 28)))
  have U2 := hid (top_obj W1 (.cells Z.toArray 28))
  rw [e1] at U2
  have hgs : w.heap.size < w.heap.size + 1 := Nat.lt_succ_self _
  generalize W1.alloc (.cells Z.toArray 28) = W2 at *
  clear e1
  generalize w.heap.size + 1 = g1 at *
  have H2 := hid (HR.out.kept B2.out)
  have SX := hid (fun w' (hw : ∃ p : Regrown, w' = Sort.grow (redrawn W2 p.d) p.os) => (by obtain ⟨p, rfl⟩ := hw; exact fun i c hi => cell_regrown (row_seg (off := 0) (A := []) (cs := V) (C := []) T2.out (by simp) rfl i c hi) _ _ : ∀ i c, V[i]? = some c → w'.cell? ⟨w.heap.size, 0 + i, none⟩ = some c))
  have SA := hid (fun w' (hw : ∃ p : Regrown, w' = Sort.grow (redrawn W2 p.d) p.os) => (by obtain ⟨p, rfl⟩ := hw; have := H2.out.asked hc; rw [hS] at this; exact fun i c hi => cell_regrown (this i c hi) _ _ : ∀ i v, (subC S)[i]? = some v → w'.cell? ⟨p, 1 + c * 204 + i, none⟩ = some v))
  clear T2
  refine wp_region_quiet_below (by kernel_rfl) (by kernel_rfl) ?_
  refine wq_load 25 (.tmp 3) rfl w.heap.size 0 rfl rfl V _ (fun w' hw' => SX.out w' hw') Tryz.underlying25 rfl Zx ?_
  simp only [Act.put, List.setIfInBounds_toArray, List.set_cons_zero, List.set_cons_succ]
  iterate 3 (first | go_big_quiet_step (fail) | quiet_step (fail))
  refine wq_load 25 (.tmp 9) rfl p (1 + c * 204) rfl rfl (subC S) _ (fun w' hw' => SA.out w' hw') Tryz.underlying25 rfl Za ?_
  simp only [Act.put, List.setIfInBounds_toArray, List.set_cons_zero, List.set_cons_succ]
  refine wq_neq rfl 25 25 (.tmp 6) (.tmp 10) rfl V.toArray (subC S).toArray rfl rfl guardSu sm EQ ?_
  simp only [Act.put, List.setIfInBounds_toArray, List.set_cons_zero, List.set_cons_succ]
  refine wpQuiet_nil ?_
  intro _ hw'
  obtain ⟨⟨dq, osq⟩, hw''⟩ := hw'
  subst hw''
  have B3 := hid (below_two B2.out (below_regrown W2 dq osq))
  have U3 := hid (row_kept U2.out (below_regrown W2 dq osq))
  have H3 := hid (H2.out.kept (below_regrown W2 dq osq))
  generalize Sort.grow (redrawn W2 dq) osq = W3 at *
  clear SX SA EQ U2 B2 H2 T1 B1
  cases sm with
  | false => as_aux_lemma =>
    have U3' := hid (row_nil U3.out)
    go_wp2_with (first | ((with_reducible refine wl_build 28 ?_ ?_ Z.toArray (HBd.out _) ?_); exact rfl; exact rfl) | ((with_reducible refine wl_put 28 (.tmp 4) (.tmp 12) ?_ ?_ g1 0 ?_ ?_ [] Z Z [] ?_ 28 U3'.out rfl rfl OZ.out IZ ?_); exact rfl; exact rfl; exact rfl; exact rfl; exact rfl; intro w4 hr4 hbut))
    have hr5 : w4.heap[g1]? = some (.cells Z.toArray 28) := by simpa using hr4
    refine bodyPost_ret_by (results_ct (fn := Tryz.f64) (p := 4) (u := 5) (ty := 28) (by kernel_rfl) _ _ g1 28 Z.toArray (0, 0) _ rfl hr5 Tryz.underlying28 rfl (by rw [List.size_toArray]; exact IZ)) rfl ?_
    exact ⟨.slice none 0 0, zeroR, 10, by rw [hZ]; rfl, ⟨rfl, rfl⟩, OwnP.nil _, (fun b hb => by cases hb), hbut.below B3.out (by omega)⟩
  | true => as_aux_lemma =>
    have HT := hid (told_any H3.out hc)
    generalize hYe : (R.regs.getD c zeroG).ans = Y at *
    go_wp2_with fail
    refine HT.out.mono ?_
    rintro e W4 ⟨v', rfl, ho, hv, hb⟩
    have HO := hid ho
    have HV := hid hv
    have B4 := hid (below_two B3.out hb)
    have U4 := hid (row_nil (row_kept U3.out hb))
    have s3 : g1 < W3.heap.size := row_ltA U3.out
    clear ho hv hb HT U3 H3
    have IY : (Tryz.prog.info? 28).map (·.size) = some (repC Y v').length := by rw [repC_len hYw]; exact sizeRep
    have lY : Z.length = (repC Y v').length := by rw [lz, repC_len hYw]
    have OY := hid (one_rep Y v' HO.out.one)
    go_wp2_with (first | ((with_reducible refine wl_put 28 (.tmp 4) (.tmp 14) ?_ ?_ g1 0 ?_ ?_ [] (repC Y v') Z [] ?_ 28 U4.out rfl lY OY.out IY ?_); exact rfl; exact rfl; exact rfl; exact rfl; exact rfl; intro w5 hr5 hbut))
    have hr6 : w5.heap[g1]? = some (.cells (repC Y v').toArray 28) := by simpa using hr5
    refine bodyPost_ret_by (results_ct (fn := Tryz.f64) (p := 4) (u := 5) (ty := 28) (by kernel_rfl) _ _ g1 28 (repC Y v').toArray (0, 0) _ rfl hr6 Tryz.underlying28 rfl (by rw [List.size_toArray]; exact IY)) rfl ?_
    have hvb : ∀ b, v'.ownBlock = some b → W3.heap.size ≤ b := HV.out
    have s4 := B3.out.size
    refine ⟨v', Y, 0, rfl, ⟨by rw [if_pos rfl]; exact hYe.symm, rfl⟩, ?_, fun b hb => by have := hvb b hb; omega, hbut.below B4.out (by omega)⟩
    exact HO.out.kp (X := [g1]) ((Kp.refl _ _).but hbut (Or.inl (by simp))) (fun b hb hx => by have := hvb b hb; simp at hx; omega)
end Go.Proofs.YtidlgecognedlaaGreatDoor.Ms

/-
  One law for regions that draw their order and call, make and write memory; loads of whole structs in a region's still part. No program plays a part.
-/
namespace Go.Proofs.YtidlgecognedlaaGreatDoor.Ms
open Go Go.RowKit
set_option maxRecDepth 100000

section
variable {P : Program} {ops : Array Oper} {Q : Exit → Act → World → Prop} {N : Nat} {a0 : Act} {w0 : World}
/-- An operation that only answers. -/
def OweJ (P : Program) (ops : Array Oper) (Q : Exit → Act → World → Prop) (a0 : Act) (S : List Nat) (cs : List Value) (J : (Nat → Bool) → World → Prop) (i : Nat) (o : Oper) : Prop :=
  ∀ (L : Nat → Bool) (a : Act) (w : World), L i = false → (∀ j, waits o j = true → L j = true) → (∀ j oj, ops[j]? = some oj → waits oj i = true → L j = false) → J L w → Kpt ops a0 a i → Cst ops S cs a o → ∀ K : Act → World → Prop, K (a.put o.dst (cs.getD i undef)) w → o.wp P a w K Q
/-- An operation that makes or writes memory. -/
def OweW (P : Program) (ops : Array Oper) (Q : Exit → Act → World → Prop) (a0 : Act) (S : List Nat) (vs : (Nat → Bool) → Nat → Value → World → Prop) (cs : List Value) (J : (Nat → Bool) → World → Prop) (i : Nat) (o : Oper) : Prop :=
  ∀ (L : Nat → Bool) (a : Act) (w : World), L i = false → (∀ j, waits o j = true → L j = true) → (∀ j oj, ops[j]? = some oj → waits oj i = true → L j = false) → (∀ j oj, ops[j]? = some oj → L j = true → ∀ q, waits oj q = true → L q = true) → J L w → Kpt ops a0 a i → Cst ops S cs a o →
    (∀ j d, L j = true → j ∈ S → dstOf ops j = some d → vs L j (a.tmps.getD d undef) w) →
    o.wp P a w (fun a' w' => ∃ v, a' = a.put o.dst v ∧ (o.dst.isSome = true → vs (up L i) i v w') ∧ J (up L i) w' ∧ ∀ j d, L j = true → j ∈ S → dstOf ops j = some d → vs (up L i) j (a.tmps.getD d undef) w') Q
theorem wp_region_cj {id : Nat} (n : Nat) (S : List Nat) (vs : (Nat → Bool) → Nat → Value → World → Prop) (cs : List Value) (J : (Nat → Bool) → World → Prop) (hf : P.follows .mixedOrders = true) (hok : okMd ops N = true) (hlast : lastOk ops n = true) (hN : a0.tmps.size = N)
    (hJ0 : ∀ w1, Below w0.heap.size w0 w1 → J (fun _ => false) w1)
    (hJc : ∀ i, i ∉ S → i < n → ∀ L w, J L w → J (up L i) w)
    (hvs : ∀ i, i ∉ S → i < n → ∀ L j u w, vs L j u w → vs (up L i) j u w)
    (hc : ∀ i o, i < n → i ∉ S → ops[i]? = some o → OweJ P ops Q a0 S cs J i o)
    (hs : ∀ i o, i < n → i ∈ S → ops[i]? = some o → OweW P ops Q a0 S vs cs J i o)
    (hlo : ∀ L o a w, (∀ i, i < n → L i = true) → L n = false → ops[n]? = some o → J L w → a.tmps.size = N → a.defers = a0.defers → Kpt ops a0 a n → (∀ i d, i < n → i ∉ S → dstOf ops i = some d → a.tmps.getD d undef = cs.getD i undef) → (∀ i d, i < n → i ∈ S → dstOf ops i = some d → vs L i (a.tmps.getD d undef) w) → (∀ t, noneW ops t = true → a.tmps.getD t undef = a0.tmps.getD t undef) → o.wp P a w (Q .normal) Q) :
    (Code.region id ops true).wp P Q a0 w0 := by
  have hsz : n + 1 = ops.size ∧ ∀ i, i < n → ∀ o, ops[n]? = some o → waits o i = true ∨ ∃ j oj, waits o j = true ∧ ops[j]? = some oj ∧ waits oj i = true := by
    unfold lastOk at hlast
    rw [Bool.and_eq_true, decide_eq_true_eq, List.all_eq_true] at hlast
    refine ⟨hlast.1, fun i hi o ho => ?_⟩
    have h1 := hlast.2 i (List.mem_range.2 hi)
    rw [ho] at h1
    simp only [Bool.or_eq_true, List.any_eq_true, List.mem_range, Bool.and_eq_true] at h1
    rcases h1 with h1 | ⟨j, -, h1, h2⟩
    · exact Or.inl h1
    · cases hoj : ops[j]? with
      | none => rw [hoj] at h2; cases h2
      | some oj => rw [hoj] at h2; exact Or.inr ⟨j, oj, h1, hoj, h2⟩
  refine wp_region_inv (fun L a w => (L n = true → Q .normal a w ∧ ∀ i, i < ops.size → L i = true) ∧ (L n = false → Md ops N a0 (vS S vs cs) J L a w)) hf (okMd_at hok).1 (fun w1 hw1 => ⟨fun h => Bool.noConfusion h, fun _ => ⟨hN, rfl, fun _ _ => rfl, by simp, by simp, hJ0 w1 hw1⟩⟩) ?_ ?_
  · intro L a w i o ho hI hLi hw
    have hi : i < ops.size := (Array.getElem?_eq_some_iff.1 ho).1
    cases hLn : L n with
    | true =>
      rw [(hI.1 hLn).2 i hi] at hLi
      cases hLi
    | false =>
      have hm := hI.2 hLn
      by_cases hin : i = n
      · subst hin
        have hall : ∀ j, j < i → L j = true := by
          intro j hj
          rcases hsz.2 j hj o ho with h1 | ⟨k, ok, h1, h2, h3⟩
          · exact hw j h1
          · exact hm.clos k ok h2 (hw k h1) j h3
        refine Oper.wp_mono ?_ (hlo L o a w hall hLn ho hm.inv hm.size hm.defs (hm.keepAt hLi) (fun j d hj hjs hd => vS_c (hm.done j d (hall j hj) hd) hjs) (fun j d hj hjs hd => vS_s (hm.done j d (hall j hj) hd) hjs) (fun t ht => hm.kept t (fun j _ e => by
          unfold noneW at ht
          rw [List.all_eq_true] at ht
          have := ht j (List.mem_range.2 (dst_lt e))
          simp [e] at this)))
        intro a' w' hQ
        refine ⟨fun _ => ⟨hQ, fun j hj => ?_⟩, fun h => ?_⟩
        · unfold up
          split
          · rfl
          · exact hall j (by omega)
        · rw [up_self] at h
          cases h
      · have hil : i < n := by omega
        have hcst : Cst ops S cs a o := fun j d hj hjs hd => vS_c (hm.done j d (hw j hj) hd) hjs
        by_cases hiS : i ∈ S
        · refine Oper.wp_mono ?_ (hs i o hil hiS ho L a w hLi hw (hm.not hLi) hm.clos hm.inv (hm.keepAt hLi) hcst (fun j d hj hjs hd => vS_s (hm.done j d hj hd) hjs))
          rintro a' w' ⟨v, rfl, hv, hB, hmono⟩
          refine ⟨fun h => ?_, fun _ => hm.step hok ho hw (fun hd => ?_) hB (fun j d hj hd => ?_)⟩
          · rw [up_ne hin, hLn] at h
            cases h
          · unfold vS
            rw [if_pos hiS]
            exact hv hd
          · have h0 := hm.done j d hj hd
            unfold vS at h0 ⊢
            by_cases hjs : j ∈ S
            · rw [if_pos hjs]
              exact hmono j d hj hjs hd
            · rw [if_neg hjs] at h0 ⊢
              exact h0
        · refine hc i o hil hiS ho L a w hLi hw (hm.not hLi) hm.inv (hm.keepAt hLi) hcst _ ⟨fun h => ?_, fun _ => hm.step hok ho hw (fun _ => ?_) (hJc i hiS hil L w hm.inv) (fun j d hj hd => ?_)⟩
          · rw [up_ne hin, hLn] at h
            cases h
          · unfold vS
            rw [if_neg hiS]
          · have h0 := hm.done j d hj hd
            unfold vS at h0 ⊢
            by_cases hjs : j ∈ S
            · rw [if_pos hjs] at h0 ⊢
              exact hvs i hiS hil L j _ w h0
            · rw [if_neg hjs] at h0 ⊢
              exact h0
  · intro L a w hall hI
    exact (hI.1 (hall n (by omega))).1
end
section
variable {P : Program} {ops : Array Oper} {Q : Act → Prop} {a : Act} {o : Oper} {rest : List Oper} {w : World}
theorem ws_load (ty : TypeId) (x : Operand) (ho : o.op = .load ty x)
    (g off : Nat) (hx : a.eval x = .pointer (some ⟨g, off, none⟩)) (hw : Region.wanted o (yielded ops a.tmps) = true) (cs : List Value) (d : TypeDesc) (hc : ∀ j v, cs[j]? = some v → w.cell? ⟨g, off + j, none⟩ = some v)
    (hu : P.underlying ty = some d) (hd : (match d with | .struct _ | .array _ _ => true | _ => false) = true) (hi : (P.info? ty).map (·.size) = some cs.length)
    (h : wpStill P ops w Q rest (a.put o.dst (.agg cs.toArray))) : wpStill P ops w Q (o :: rest) a := by
  unfold wpStill
  rw [if_pos hw]
  have hl : (loadCells ⟨g, off, none⟩ cs.length).run P w = .ok cs.toArray w :=
    run_loadCells_list (P := P) w ⟨g, off, none⟩ cs (fun j v hv => by rw [add_none]; exact hc j v hv)
  cases hq : P.info? ty with
  | none => simp [hq] at hi
  | some i =>
    have hs : i.size = cs.length := by simpa [hq] using hi
    have hagg : (isAgg ty).run P w = .ok true w := by
      unfold isAgg
      rw [Sem.run_bind, run_underlying hu w]
      cases d <;> simp_all
    unfold Oper.still execOp
    simp [ho, hx, Instr.loadAt, Instr.sureAddr, Sem.run_bind, loadVar, hagg, sizeOf, typeInfo, hq, hs, hl, Oper.stillUpon]
    exact h
end
end Go.Proofs.YtidlgecognedlaaGreatDoor.Ms

/-
  What is pending, each with its client's Proof (proven).
-/
namespace Go.Proofs.YtidlgecognedlaaGreatDoor.Ms
open Go Go.RowKit
set_option maxRecDepth 100000

/-- What is pending, the first k with their Proofs. -/
def provK (R : Rs) (k : Nat) : List Pen := (provenL R).take k ++ R.pend.drop k
def provP (R : Rs) (p : Pen) : Pen := { p with proof := (R.reg p.client).tag }
def penH (p : Pen) : List Value := [nu p.client, nu p.number, nu p.kind, nu p.target] ++ dg p.asked
theorem pen_split (p : Pen) : penC p = penH p ++ dg p.proof := by simp [penC, penH]
theorem penH_len {p : Pen} (h : p.Wf) : (penH p).length = 36 := by rw [penH, List.length_append, dg_len, h.asked]; rfl
theorem flat_one (p : Pen) : flatQ [p] = penC p := by simp [flatQ]
theorem provK_zero (R : Rs) : provK R 0 = R.pend := by simp [provK]
theorem provK_end (R : Rs) : provK R R.pend.length = provenL R := by
  unfold provK
  rw [List.take_of_length_le (by rw [provenL_len]; exact Nat.le_refl _), List.drop_of_length_le (Nat.le_refl _), List.append_nil]
theorem provK_len (R : Rs) (k : Nat) (h : k ≤ R.pend.length) : (provK R k).length = R.pend.length := by simp [provK, provenL]; omega
theorem provK_at (R : Rs) (k : Nat) (h : k < R.pend.length) : provK R k = (provenL R).take k ++ ([R.pend[k]] ++ R.pend.drop (k + 1)) ∧ provK R (k + 1) = (provenL R).take k ++ ([provP R R.pend[k]] ++ R.pend.drop (k + 1)) := by
  constructor
  · unfold provK
    rw [List.singleton_append, ← List.drop_eq_getElem_cons h]
  · unfold provK
    have h' : k < (provenL R).length := by rw [provenL_len]; exact h
    rw [List.take_succ_eq_append_getElem h', List.append_assoc]
    congr 2
    simp [provenL, provP]
theorem provK_wf {R : Rs} (h : RInv R) (k : Nat) : ∀ p ∈ provK R k, p.Wf := by
  intro p hp
  rcases List.mem_append.1 hp with hp | hp
  · exact provenL_wf h p (List.mem_of_mem_take hp)
  · exact (h.pend p (List.mem_of_mem_drop hp)).wf
theorem ownP_of_row {w : World} {g n cap : Nat} {ps : List Pen} {rest : List Value} (hw : ∀ p ∈ ps, p.Wf) (hg : w.heap[g]? = some (.cells (flatQ ps ++ rest).toArray 113)) (hn : n = ps.length) (hc : ps.length ≤ cap) (hm : cap ≤ maxLen) (hs : (flatQ ps ++ rest).length = cap * 68) :
    OwnP w (.slice (some ⟨g, 0, none⟩) n cap) ps := by
  subst hn
  refine ⟨flatQ_len hw, .inr ⟨g, cap, _, rfl, Nat.zero_le _, hg, hc, hm, by simpa using hs, ?_⟩⟩
  show (flatQ ps ++ rest).take (ps.length * 68) = _
  rw [← flatQ_len hw, List.take_left]
theorem OwnP.row {w : World} {g n cap : Nat} {ps : List Pen} (h : OwnP w (.slice (some ⟨g, 0, none⟩) n cap) ps) : ∃ rest, w.heap[g]? = some (.cells (flatQ ps ++ rest).toArray 113) ∧ n = ps.length ∧ ps.length ≤ cap ∧ cap ≤ maxLen ∧ (flatQ ps ++ rest).length = cap * 68 := by
  rcases h.2 with ⟨e, -⟩ | ⟨g', cap', cur, e, -, h4, h5, h6, h7, h8⟩
  · cases e
  · cases e
    refine ⟨cur.toList.drop (ps.length * 68), ?_, rfl, h5, h6, ?_⟩
    · rw [← h8, List.take_append_drop]
      simpa using h4
    · rw [← h8, List.take_append_drop]
      simpa using h7
set_option maxHeartbeats 4000000 in
theorem proven_any {w : World} {p : Nat} {q rs : List Nat} {R : Rs} {vs : List Value} {vP : Value} (h : RA w p q rs R vs vP) :
    Calls Tryz.prog 102 #[.pointer (some ⟨p, 0, none⟩)] w fun e w' => ∃ v', e = .returned v' ∧ OwnP w' v' (provenL R) ∧ (∀ b, v'.ownBlock = some b → w.heap.size ≤ b) ∧ Below w.heap.size w w' := by
  have HR := hid h
  have cP := h.pnd
  have hl := h.inv.plen
  have HC := hid (clonep_any h.own (by omega))
  have HI := hid h.inv
  clear h
  go_enter Tryz.func102, Tryz.ntmps102
  go_upto_region 2 with (first | (go_at_call 103; refine HC.out.mono ?_; rintro e W1 ⟨v', rfl, ho, hv, hb⟩; have HO := hid ho; have HV := hid hv; have HB := hid hb; clear ho hv hb))
  clear cP HC
  rcases HO.out.form with ⟨e1, e2⟩ | ⟨g, cap, cur, e1, -⟩
  · subst e1
    have HP : Hid (provenL R = []) := by show _ = _; simp [provenL, e2]
    clear e2
    go_wp2
    go_loopw [12] (fun i wr => i = nu 0 ∧ wr = W1) (fun i _ => 0)
    case atStart => exact ⟨rfl, rfl⟩
    case round =>
      obtain ⟨rfl, hwr⟩ := hrel
      subst wr
      go_wp2
      go_ret
      exact ⟨_, rfl, by rw [HP.out]; exact OwnP.nil _, (fun b hb => by cases hb), HB.out⟩
  · subst e1
    obtain ⟨rest, hrow, -, hcap, hmx, hsz⟩ := HO.out.row
    have hg : w.heap.size ≤ g := HV.out g rfl
    have HF := hid (fun (W : World) (hr : W.heap[g]? = some (.cells (flatQ (provK R R.pend.length) ++ rest).toArray 113)) => (ownP_of_row (n := R.pend.length) (cap := cap) (provK_wf HI.out _) hr (provK_len R _ (Nat.le_refl _)).symm (by rw [provK_len R _ (Nat.le_refl _)]; exact hcap) hmx (by
      rw [← hsz, List.length_append, List.length_append, flatQ_len (provK_wf HI.out _), flatQ_len (fun p hp => (HI.out.pend p hp).wf), provK_len R _ (Nat.le_refl _)])))
    have HS : Hid (W1.heap[g]? = some (.cells (flatQ (provK R 0) ++ rest).toArray 113)) := by
      show _ = _
      rw [provK_zero]
      exact hrow
    have hgl : g < W1.heap.size := row_ltA hrow
    clear hrow hsz HO hcap hmx
    go_wp2
    go_loopw [12] (fun i wr => ∃ k : Nat, k ≤ R.pend.length ∧ i = nu k ∧ Hid (wr.heap[g]? = some (.cells (flatQ (provK R k) ++ rest).toArray 113)) ∧ Hid (Below w.heap.size w wr)) (fun i _ => R.pend.length - (intOf i).toNat)
    case atStart => exact ⟨0, by omega, rfl, HS.out, HB.out⟩
    case round =>
      obtain ⟨k, hk, rfl, HS, HBr⟩ := hrel
      by_cases hlt : k < R.pend.length
      · have d1 : decide ((k : Int) < (R.pend.length : Int)) = true := decide_eq_true (by omega)
        have d1' : decide (k < R.pend.length) = true := decide_eq_true hlt
        obtain ⟨e1, e2⟩ := provK_at R k hlt
        have hpk := HI.out.pend _ (List.getElem_mem hlt)
        have hn := HI.out.n
        have hRk := HR.out.kept HBr.out
        generalize hpen : R.pend[k] = pk at *
        obtain ⟨cl, hcl⟩ : ∃ cl : Nat, pk.client = (cl : Int) := ⟨pk.client.toNat, by have := hpk.cl; omega⟩
        have hcl8 : cl < 8 := by have := hpk.cl; omega
        have hTl : (dg (R.reg pk.client).tag).length = 32 := by rw [dg_len]; exact (HI.out.reg pk.client).tag
        have hPl : (dg pk.proof).length = 32 := by rw [dg_len]; exact hpk.wf.proof
        have hal : (flatQ ((provenL R).take k)).length = k * 68 := by
          rw [flatQ_len (fun p hp => provenL_wf HI.out p (List.mem_of_mem_take hp)), List.length_take, provenL_len]
          congr 1
          omega
        -- the row, before and behind
        have hrow : wr.heap[g]? = some (.cells ((flatQ ((provenL R).take k) ++ penH pk) ++ (dg pk.proof ++ (flatQ (R.pend.drop (k + 1)) ++ rest))).toArray 113) := by
          have := HS.out
          rw [e1, flat_app, flat_app, flat_one, pen_split] at this
          simpa only [List.append_assoc] using this
        have hnew : (flatQ ((provenL R).take k) ++ penH pk) ++ (dg (R.reg pk.client).tag ++ (flatQ (R.pend.drop (k + 1)) ++ rest)) = flatQ (provK R (k + 1)) ++ rest := by
          rw [e2, flat_app, flat_app, flat_one, pen_split]
          show _ = (flatQ ((provenL R).take k) ++ ((penH pk ++ dg (R.reg pk.client).tag) ++ flatQ (R.pend.drop (k + 1)))) ++ rest
          simp only [List.append_assoc]
        have hcc : wr.cell? ⟨g, k * 68, none⟩ = some (nu (cl : Int)) := by
          rw [← hcl]
          exact row_cell (A := flatQ ((provenL R).take k)) (C := [nu pk.number, nu pk.kind, nu pk.target] ++ dg pk.asked ++ (dg pk.proof ++ (flatQ (R.pend.drop (k + 1)) ++ rest))) hrow (by simp [penH]) hal
        have hAl : (flatQ ((provenL R).take k) ++ penH pk).length = k * 68 + 36 := by rw [List.length_append, hal, penH_len hpk.wf]
        have hT := hRk.tag hcl8
        have hTe : (R.regs.getD cl zeroG).tag = (R.reg pk.client).tag := by rw [hcl]; rfl
        rw [hTe] at hT
        have HT : Hid (∀ j v, (dg (R.reg pk.client).tag)[j]? = some v → (World.drew wr).cell? ⟨p, 1 + cl * 204 + 172 + j, none⟩ = some v) := hT
        have cD : (World.drew wr).cell? ⟨g, k * 68, none⟩ = some (nu (cl : Int)) := hcc
        have RD : Hid ((World.drew wr).heap[g]? = some (.cells ((flatQ ((provenL R).take k) ++ penH pk) ++ (dg pk.proof ++ (flatQ (R.pend.drop (k + 1)) ++ rest))).toArray 113)) := hrow
        have BD : Hid (Below w.heap.size w (World.drew wr)) := HBr.out.drew
        have OT := hid (one_dg (R.reg pk.client).tag)
        have ZT : (Tryz.prog.info? 23).map (·.size) = some (dg (R.reg pk.client).tag).length := by rw [hTl]; exact sizeDig
        have hTP : (dg pk.proof).length = (dg (R.reg pk.client).tag).length := by rw [hTl, hPl]
        clear hrow hcc hT hTe hpk e1 e2 hRk HS hpen hcl hTl hPl hal HBr HR
        generalize dg (R.reg pk.client).tag = T at *
        generalize dg pk.proof = PF at *
        generalize flatQ ((provenL R).take k) ++ penH pk = AA at *
        generalize flatQ (R.pend.drop (k + 1)) ++ rest = CC at *
        have hcl0 : (0 : Int) ≤ (cl : Int) := by omega
        have hclI : (cl : Int) < 8 := by omega
        go_wp2_with fail
        refine wp_region_still_tail 16 (by kernel_rfl) (by kernel_rfl) ?_
        simp only [List.take_succ_cons, List.take_zero, List.drop_succ_cons, List.drop_zero]
        change wpStill _ _ (World.drew wr) (fun a' => wpList _ _ _ _ a' (World.drew wr)) _ _
        generalize World.drew wr = wd at *
        iterate 13 still_step
        refine ws_load 23 (.tmp 27) rfl p (1 + cl * 204 + 172) rfl rfl T _ HT.out Tryz.underlying23 rfl ZT ?_
        simp only [Act.put, List.setIfInBounds_toArray, List.set_cons_zero, List.set_cons_succ]
        iterate 2 still_step
        refine wpStill_nil ?_
        go_wp2_with (first | ((with_reducible refine wl_put 23 (.tmp 30) (.tmp 28) ?_ ?_ g (k * 68 + 36) ?_ ?_ AA T PF CC ?_ 113 RD.out hAl hTP OT.out ZT ?_); exact rfl; exact rfl; exact rfl; exact rfl; exact rfl; intro W4 hr4 hb4; rw [hnew] at hr4; have R4 := hid hr4; have B4 := hid (hb4.below BD.out hg); clear hr4 hb4))
        exact ⟨⟨k + 1, by omega, by go_num, R4.out, B4.out⟩, by simp [intOf]; omega⟩
      · have e : k = R.pend.length := by omega
        subst e
        have HE := hid (HF.out _ HS.out)
        rw [provK_end] at HE
        clear HS HF HR HI
        go_wp2
        go_ret
        exact ⟨_, rfl, HE.out, (fun b hb => by cases hb; exact hg), HBr.out⟩
end Go.Proofs.YtidlgecognedlaaGreatDoor.Ms

/-
  Struct literals whose parts are whole rows of cells: replies, messages, what is pending, views with tags.
-/
namespace Go.Proofs.YtidlgecognedlaaGreatDoor.Ms
open Go Go.RowKit
set_option maxRecDepth 100000

theorem fill_fold (off : Nat) : ∀ (cs : List Value) (k : Nat) (A old C : List Value), A.length = off + k → old.length = cs.length →
    (cs.zipIdx k).foldl (fun (acc : Array Value) (x : Value × Nat) => acc.setIfInBounds (off + x.2) x.1) (A ++ (old ++ C)).toArray = (A ++ (cs ++ C)).toArray
  | [], k, A, old, C, _, h => by
    have : old = [] := List.eq_nil_of_length_eq_zero (by simpa using h)
    subst this
    rfl
  | c :: cs, k, A, [], C, _, h => by simp at h
  | c :: cs, k, A, o :: old, C, hA, h => by
    have ih := fill_fold off cs (k + 1) (A ++ [c]) old C (by simp [hA]; omega) (by simpa using h)
    rw [List.zipIdx_cons, List.foldl_cons]
    have e : ((A ++ (o :: old ++ C)).toArray).setIfInBounds (off + k) c = ((A ++ [c]) ++ (old ++ C)).toArray := by
      rw [← hA]
      simp
    simp only
    rw [e, ih]
    simp
theorem fill_step (place : Nat → Option (Nat × Nat)) (i off : Nat) (v : Value) (cs A old C : List Value) (rest : List (Nat × Value)) (hp : place i = some (off, cs.length)) (hv : v.cells = cs.toArray) (hA : A.length = off) (hold : old.length = cs.length) :
    Instr.fill place (A ++ (old ++ C)).toArray ((i, v) :: rest) = Instr.fill place (A ++ (cs ++ C)).toArray rest := by
  have hf := fill_fold off cs 0 A old C (by simpa using hA) hold
  conv => lhs; unfold Instr.fill
  rw [hp]
  simp only [hv]
  have hc : (cs.toArray.size ≠ cs.length || off + cs.toArray.size > (A ++ (old ++ C)).toArray.size) = false := by
    subst hA
    simp [hold]
  rw [if_neg (by rw [hc]; simp)]
  congr 1
  rw [← hf]
  simp
/-- A struct's cells, field by field. -/
def Fits (place : Nat → Option (Nat × Nat)) (segs : List (List Value)) : Prop := ∀ i s, segs[i]? = some s → place i = some ((segs.take i).flatten.length, s.length)
theorem flatten_split (segs : List (List Value)) (i : Nat) (hi : i < segs.length) : segs.flatten = (segs.take i).flatten ++ (segs[i] ++ (segs.drop (i + 1)).flatten) := by
  conv => lhs; rw [← List.take_append_drop i segs]
  rw [List.flatten_append, List.drop_eq_getElem_cons hi, List.flatten_cons]
theorem fits_set {place : Nat → Option (Nat × Nat)} {segs : List (List Value)} (h : Fits place segs) (i : Nat) (hi : i < segs.length) (cs : List Value) (hl : cs.length = (segs[i]).length) : Fits place (segs.set i cs) := by
  have hlen : ∀ j, ((segs.set i cs).take j).flatten.length = (segs.take j).flatten.length := by
    intro j
    simp only [List.length_flatten]
    congr 1
    apply List.ext_getElem?
    intro k
    simp only [List.getElem?_map, List.getElem?_take]
    split
    · rw [List.getElem?_set]
      split
      · rename_i e
        subst e
        simp [hi, hl]
      · rfl
    · rfl
  intro j s hs
  rw [hlen]
  rw [List.getElem?_set] at hs
  split at hs
  · rename_i e
    subst e
    cases hs
    rw [hl]
    exact h i _ (List.getElem?_eq_getElem hi)
  · exact h j s hs
theorem fill_all {place : Nat → Option (Nat × Nat)} : ∀ (parts : List (Nat × List Value × Value)) (segs : List (List Value)), Fits place segs → (∀ x ∈ parts, x.2.2.cells = x.2.1.toArray ∧ ∃ s, segs[x.1]? = some s ∧ x.2.1.length = s.length) →
    Instr.fill place segs.flatten.toArray (parts.map fun x => (x.1, x.2.2)) = some (parts.foldl (fun s x => s.set x.1 x.2.1) segs).flatten.toArray
  | [], segs, _, _ => rfl
  | (i, cs, v) :: parts, segs, hf, hp => by
    obtain ⟨hv, s, hs, hl⟩ := hp (i, cs, v) (by simp)
    obtain ⟨hi, hs'⟩ := List.getElem?_eq_some_iff.1 hs
    simp only at hv hl hs
    subst hs'
    have hset : (segs.set i cs).flatten = (segs.take i).flatten ++ (cs ++ (segs.drop (i + 1)).flatten) := by
      rw [flatten_split (segs.set i cs) i (by simpa using hi)]
      rw [List.take_set_of_le (Nat.le_refl i), List.drop_set_of_lt (by omega), List.getElem_set_self]
    rw [List.map_cons, flatten_split segs i hi]
    simp only
    rw [fill_step place i _ v cs _ _ _ _ (by rw [hl]; exact hf i _ hs) hv rfl hl.symm, ← hset, List.foldl_cons]
    exact fill_all parts (segs.set i cs) (fits_set hf i hi cs hl) (fun x hx => by
      obtain ⟨h1, s', h2, h3⟩ := hp x (by simp [hx])
      refine ⟨h1, ?_⟩
      rw [List.getElem?_set]
      split
      · rename_i e
        subst e
        rw [h2] at hs
        cases hs
        exact ⟨cs, by simp, by rw [h3, hl]⟩
      · exact ⟨s', h2, h3⟩)
theorem run_build_all {P : Program} {W : World} {t : TypeId} {fields : Array Field} {zs : List Value} (pl : List (Nat × Nat)) (hu : P.underlying t = some (.struct fields)) (hz : (P.info? t).map (·.zero) = some (some (.agg zs.toArray)))
    (hp : fields.toList.mapM (fun f => (P.info? f.type).map fun i => (f.offset, i.size)) = some pl) (segs : List (List Value)) (hs : segs.flatten = zs) (hf : Fits (pl.toArray[·]?) segs) (parts : List (Nat × List Value × Value))
    (hx : ∀ x ∈ parts, x.2.2.cells = x.2.1.toArray ∧ ∃ s, segs[x.1]? = some s ∧ x.2.1.length = s.length) (out : List Value) (ho : (parts.foldl (fun s x => s.set x.1 x.2.1) segs).flatten = out) :
    (Instr.build t (parts.map fun x => (x.1, x.2.2)).toArray).run P W = .ok (.agg out.toArray) W := by
  have h := fill_all (place := (pl.toArray[·]?)) parts segs hf hx
  rw [hs, ho] at h
  refine run_build W t _ _ ?_
  cases hq : P.info? t with
  | none => simp [hq] at hz
  | some i =>
    have hz' : i.zero = some (.agg zs.toArray) := by simpa [hq] using hz
    unfold Program.built
    rw [hq, hu]
    simp only [hz', hp]
    exact h
/-- Fields of so many cells each, one behind the other. -/
theorem fits_of (segs : List (List Value)) (pl : List (Nat × Nat)) (h : (List.range segs.length).all (fun i => decide (pl[i]? = some ((segs.take i).flatten.length, (segs.getD i []).length))) = true) : Fits (pl.toArray[·]?) segs := by
  intro i s hs
  obtain ⟨hi, rfl⟩ := List.getElem?_eq_some_iff.1 hs
  rw [List.all_eq_true] at h
  have := of_decide_eq_true (h i (List.mem_range.2 hi))
  rw [List.getD_eq_getElem?_getD, List.getElem?_eq_getElem hi] at this
  simpa using this
def repS : List (List Value) := [[nu 0], [nu 0], [st []], dg zeroD, [.slice none 0 0], [nu 0], [st []], dg zeroD, [st []], dg zeroD]
def repPl : List (Nat × Nat) := [(0, 1), (1, 1), (2, 1), (3, 32), (35, 1), (36, 1), (37, 1), (38, 32), (70, 1), (71, 32)]
theorem zeroRepl : (Tryz.prog.info? 28).map (·.zero) = some (some (.agg repS.flatten.toArray)) := by kernel_rfl
theorem build_ans (W : World) (n l : Int) (v c : List UInt8) (hc : c.length = 32) (u : Value) (h1 : u.oneCell' = true) (ps : List Pen) : (Instr.build 28 #[(0, nu n), (1, nu l), (2, st v), (3, .agg (dg c).toArray), (4, u)]).run Tryz.prog W = .ok (.agg (repC ⟨n, l, v, c, ps, 0, [], zeroD, [], zeroD⟩ u).toArray) W := by
  refine run_build_all repPl Tryz.underlying28 zeroRepl (by kernel_rfl) repS rfl (fits_of _ _ (by kernel_rfl)) [(0, [nu n], nu n), (1, [nu l], nu l), (2, [st v], st v), (3, dg c, .agg (dg c).toArray), (4, [u], u)] ?_ _ ?_
  · intro x hx
    simp only [List.mem_cons, List.not_mem_nil, or_false] at hx
    rcases hx with rfl | rfl | rfl | rfl | rfl
    · exact ⟨rfl, _, rfl, rfl⟩
    · exact ⟨rfl, _, rfl, rfl⟩
    · exact ⟨rfl, _, rfl, rfl⟩
    · exact ⟨rfl, _, rfl, by rw [dg_len, hc]; rfl⟩
    · exact ⟨cells_one h1, _, rfl, rfl⟩
  · simp [repS, repC]
def msgS : List (List Value) := [[nu 0], [nu 0], subC zeroS, repC zeroR (.slice none 0 0), [st []], [nu 0], dg zeroD, dg zeroD, bloC zeroB, [.slice none 0 0]]
def msgPl : List (Nat × Nat) := [(0, 1), (1, 1), (2, 68), (70, 103), (173, 1), (174, 1), (175, 32), (207, 32), (239, 35), (274, 1)]
theorem zeroMsgs : (Tryz.prog.info? 33).map (·.zero) = some (some (.agg msgS.flatten.toArray)) := by kernel_rfl
theorem build_subm (W : World) (c : Int) (x : Sub) (hx : x.Wf) : (Instr.build 33 #[(0, nu 1), (1, nu c), (2, .agg (subC x).toArray)]).run Tryz.prog W = .ok (.agg (msgC (subM c x) (.slice none 0 0) (.slice none 0 0)).toArray) W := by
  refine run_build_all msgPl Tryz.underlying33 zeroMsgs (by kernel_rfl) msgS rfl (fits_of _ _ (by kernel_rfl)) [(0, [nu 1], nu 1), (1, [nu c], nu c), (2, subC x, .agg (subC x).toArray)] ?_ _ ?_
  · intro y hy
    simp only [List.mem_cons, List.not_mem_nil, or_false] at hy
    rcases hy with rfl | rfl | rfl
    · exact ⟨rfl, _, rfl, rfl⟩
    · exact ⟨rfl, _, rfl, rfl⟩
    · exact ⟨rfl, _, rfl, by rw [subC_len hx, subC_len wfZeroS]⟩
  · simp [msgS, msgC, subM, zeroM]
theorem build_comm (W : World) (c : Int) (v t : List UInt8) (ht : t.length = 32) : (Instr.build 33 #[(0, nu 3), (1, nu c), (4, st v), (6, .agg (dg t).toArray)]).run Tryz.prog W = .ok (.agg (msgC (comM c v t) (.slice none 0 0) (.slice none 0 0)).toArray) W := by
  refine run_build_all msgPl Tryz.underlying33 zeroMsgs (by kernel_rfl) msgS rfl (fits_of _ _ (by kernel_rfl)) [(0, [nu 3], nu 3), (1, [nu c], nu c), (4, [st v], st v), (6, dg t, .agg (dg t).toArray)] ?_ _ ?_
  · intro y hy
    simp only [List.mem_cons, List.not_mem_nil, or_false] at hy
    rcases hy with rfl | rfl | rfl | rfl
    · exact ⟨rfl, _, rfl, rfl⟩
    · exact ⟨rfl, _, rfl, rfl⟩
    · exact ⟨rfl, _, rfl, rfl⟩
    · exact ⟨rfl, _, rfl, by rw [dg_len, dg_len, ht]; rfl⟩
  · simp [msgS, msgC, comM, zeroM]
def penS : List (List Value) := [[nu 0], [nu 0], [nu 0], [nu 0], dg zeroD, dg zeroD]
def penPl : List (Nat × Nat) := [(0, 1), (1, 1), (2, 1), (3, 1), (4, 32), (36, 32)]
theorem zeroPens : (Tryz.prog.info? 113).map (·.zero) = some (some (.agg penS.flatten.toArray)) := by kernel_rfl
theorem build_pen (W : World) (c : Int) (x : Sub) (hx : x.Wf) : (Instr.build 113 #[(0, nu c), (1, nu x.number), (2, nu x.kind), (3, nu x.target), (4, .agg (dg x.asked).toArray)]).run Tryz.prog W = .ok (.agg (penC (penOf c x)).toArray) W := by
  refine run_build_all penPl Tryz.underlying113 zeroPens (by kernel_rfl) penS rfl (fits_of _ _ (by kernel_rfl)) [(0, [nu c], nu c), (1, [nu x.number], nu x.number), (2, [nu x.kind], nu x.kind), (3, [nu x.target], nu x.target), (4, dg x.asked, .agg (dg x.asked).toArray)] ?_ _ ?_
  · intro y hy
    simp only [List.mem_cons, List.not_mem_nil, or_false] at hy
    rcases hy with rfl | rfl | rfl | rfl | rfl
    · exact ⟨rfl, _, rfl, rfl⟩
    · exact ⟨rfl, _, rfl, rfl⟩
    · exact ⟨rfl, _, rfl, rfl⟩
    · exact ⟨rfl, _, rfl, rfl⟩
    · exact ⟨rfl, _, rfl, by rw [dg_len, dg_len, hx.asked]; rfl⟩
  · simp [penS, penC, penOf]
def donS : List (List Value) := [[st []], dg zeroD]
def donPl : List (Nat × Nat) := [(0, 1), (1, 32)]
theorem zeroDons : (Tryz.prog.info? 106).map (·.zero) = some (some (.agg donS.flatten.toArray)) := by kernel_rfl
theorem build_don (W : World) (v t : List UInt8) (ht : t.length = 32) : (Instr.build 106 #[(0, st v), (1, .agg (dg t).toArray)]).run Tryz.prog W = .ok (.agg (donC v t).toArray) W := by
  refine run_build_all donPl Tryz.underlying106 zeroDons (by kernel_rfl) donS rfl (fits_of _ _ (by kernel_rfl)) [(0, [st v], st v), (1, dg t, .agg (dg t).toArray)] ?_ _ ?_
  · intro y hy
    simp only [List.mem_cons, List.not_mem_nil, or_false] at hy
    rcases hy with rfl | rfl
    · exact ⟨rfl, _, rfl, rfl⟩
    · exact ⟨rfl, _, rfl, by rw [dg_len, dg_len, ht]; rfl⟩
  · simp [donS, donC]
end Go.Proofs.YtidlgecognedlaaGreatDoor.Ms

/-
  What is answered to a submit (answer).
-/
namespace Go.Proofs.YtidlgecognedlaaGreatDoor.Ms
open Go Go.RowKit
set_option maxRecDepth 100000

theorem fa_34_0 (g off : Nat) (W : World) : (Instr.fieldAt 25 (.pointer (some ⟨g, off, none⟩)) 0).run Tryz.prog W = .ok (.pointer (some ⟨g, off + 0, none⟩)) W := by kernel_rfl
theorem fa_34_3 (g off : Nat) (W : World) : (Instr.fieldAt 25 (.pointer (some ⟨g, off, none⟩)) 3).run Tryz.prog W = .ok (.pointer (some ⟨g, off + 3, none⟩)) W := by kernel_rfl
theorem fa_34_5 (g off : Nat) (W : World) : (Instr.fieldAt 25 (.pointer (some ⟨g, off, none⟩)) 5).run Tryz.prog W = .ok (.pointer (some ⟨g, off + 36, none⟩)) W := by kernel_rfl
theorem fa_43_5 (g off : Nat) (W : World) : (Instr.fieldAt 28 (.pointer (some ⟨g, off, none⟩)) 5).run Tryz.prog W = .ok (.pointer (some ⟨g, off + 36, none⟩)) W := by kernel_rfl
theorem fa_43_6 (g off : Nat) (W : World) : (Instr.fieldAt 28 (.pointer (some ⟨g, off, none⟩)) 6).run Tryz.prog W = .ok (.pointer (some ⟨g, off + 37, none⟩)) W := by kernel_rfl
theorem fa_43_7 (g off : Nat) (W : World) : (Instr.fieldAt 28 (.pointer (some ⟨g, off, none⟩)) 7).run Tryz.prog W = .ok (.pointer (some ⟨g, off + 38, none⟩)) W := by kernel_rfl
theorem fa_43_8 (g off : Nat) (W : World) : (Instr.fieldAt 28 (.pointer (some ⟨g, off, none⟩)) 8).run Tryz.prog W = .ok (.pointer (some ⟨g, off + 70, none⟩)) W := by kernel_rfl
theorem fa_43_9 (g off : Nat) (W : World) : (Instr.fieldAt 28 (.pointer (some ⟨g, off, none⟩)) 9).run Tryz.prog W = .ok (.pointer (some ⟨g, off + 71, none⟩)) W := by kernel_rfl
theorem fa_68_0 (g off : Nat) (W : World) : (Instr.fieldAt 106 (.pointer (some ⟨g, off, none⟩)) 0).run Tryz.prog W = .ok (.pointer (some ⟨g, off + 0, none⟩)) W := by kernel_rfl
theorem fa_68_1 (g off : Nat) (W : World) : (Instr.fieldAt 106 (.pointer (some ⟨g, off, none⟩)) 1).run Tryz.prog W = .ok (.pointer (some ⟨g, off + 1, none⟩)) W := by kernel_rfl
theorem fa_70_0 (g off : Nat) (W : World) : (Instr.fieldAt 108 (.pointer (some ⟨g, off, none⟩)) 0).run Tryz.prog W = .ok (.pointer (some ⟨g, off + 0, none⟩)) W := by kernel_rfl
theorem fa_70_2 (g off : Nat) (W : World) : (Instr.fieldAt 108 (.pointer (some ⟨g, off, none⟩)) 2).run Tryz.prog W = .ok (.pointer (some ⟨g, off + 171, none⟩)) W := by kernel_rfl
theorem fa_73_2 (g off : Nat) (W : World) : (Instr.fieldAt 111 (.pointer (some ⟨g, off, none⟩)) 2).run Tryz.prog W = .ok (.pointer (some ⟨g, off + 1633, none⟩)) W := by kernel_rfl
theorem fa_73_3 (g off : Nat) (W : World) : (Instr.fieldAt 111 (.pointer (some ⟨g, off, none⟩)) 3).run Tryz.prog W = .ok (.pointer (some ⟨g, off + 1666, none⟩)) W := by kernel_rfl
theorem op_callE {P : Program} {o : Oper} {a : Act} {w : World} {Q : Exit → Act → World → Prop} {K : Act → World → Prop} (f : FuncId) (xs : List Operand) (ts : Array TypeId) (vs : Array Value) (ho : o.op = .call { callee := .value (.func f), args := xs.toArray, argTypes := ts }) (hc : ∀ args w, (callFunc f args).run P w = .ok (.enter f args) w) (hx : (xs.map a.eval).toArray = vs)
    {J : Value → World → Prop} (hm : Calls P f vs w fun e w' => ∃ v, e = .returned v ∧ J v w') (h : ∀ v w', J v w' → K (a.put o.dst v) w') : o.wp P a w K Q := by
  unfold Oper.wp execOp
  have e : (do let d ← resolve a.eval { callee := .value (.func f), args := xs.toArray, argTypes := ts } o.type; invoke d.target d.args : Sem Next).run P w = .ok (.enter f vs) w := by
    have e0 : a.eval (.func f) = .func (.func f) #[] #[] := rfl
    simp [resolve, Deferred.ofValue, invoke, hc, e0, hx]
  simp only [ho]
  rw [e]
  simp only [Oper.upon]
  refine hm.mono ?_
  rintro e w' ⟨v, rfl, hJ⟩
  exact h v w' hJ
/-- The reply to a write: what a read's begins with. -/
def ansB (R : Rs) (x : Sub) : Rep := ⟨x.number, R.who, R.long, R.ltag, provenL R, 0, [], zeroD, [], zeroD⟩
theorem ansB_wf {R : Rs} (h : RInv R) (x : Sub) : (ansB R x).Wf := ⟨h.ltag, rfl, rfl, provenL_wf h⟩
theorem ans_write {R : Rs} {x : Sub} (h : x.kind ≠ 2) : ansR R x = ansB R x := by unfold ansR ansB; rw [if_neg h]
def ans2 (R : Rs) (x : Sub) (G : Reg) : Rep := ⟨x.number, R.who, R.long, R.ltag, provenL R, G.asked.number, G.asked.value, G.asked.data, G.view, G.tag⟩
theorem ans_read {R : Rs} {x : Sub} (h : x.kind = 2) : ansR R x = ans2 R x (R.reg x.target) := by unfold ansR ans2; rw [if_pos h]
def vA17 (B : Nat) (R : Rs) (v : Value) (w : World) : Prop := OwnP w v (provenL R) ∧ (∀ b, v.ownBlock = some b → B ≤ b)
def vA18 (B : Nat) (R : Rs) (x : Sub) (v : Value) (w : World) : Prop := ∃ u, v = .agg (repC (ansB R x) u).toArray ∧ OwnP w u (provenL R) ∧ (∀ b, u.ownBlock = some b → B ≤ b)
def vA19 (B : Nat) (Z : List Value) (v : Value) (w : World) : Prop := ∃ g, v = pt g 0 ∧ B ≤ g ∧ w.heap[g]? = some (.cells Z.toArray 28)
def vAns (B : Nat) (R : Rs) (x : Sub) (Z : List Value) (i : Nat) (v : Value) (w : World) : Prop := if i = 17 then vA17 B R v w else if i = 18 then vA18 B R x v w else vA19 B Z v w
section
variable {B : Nat} {R : Rs} {x : Sub} {Z : List Value} {v : Value} {w : World}
theorem vAns17 : vAns B R x Z 17 v w ↔ vA17 B R v w := by unfold vAns; rw [if_pos rfl]
theorem vAns18 : vAns B R x Z 18 v w ↔ vA18 B R x v w := by unfold vAns; rw [if_neg (by decide), if_pos rfl]
theorem vAns19 : vAns B R x Z 19 v w ↔ vA19 B Z v w := by unfold vAns; rw [if_neg (by decide), if_neg (by decide)]
end
theorem vAns_kept {B : Nat} {R : Rs} {x : Sub} {Z : List Value} {i : Nat} {v : Value} {w w' : World} (h : vAns B R x Z i v w) (hb : Below w.heap.size w w') : vAns B R x Z i v w' := by
  unfold vAns at h ⊢
  split
  · rename_i e
    rw [if_pos e] at h
    exact ⟨h.1.kept hb, h.2⟩
  · rename_i e
    rw [if_neg e] at h
    split
    · rename_i e2
      rw [if_pos e2] at h
      obtain ⟨u, h1, h2, h3⟩ := h
      exact ⟨u, h1, h2.kept hb, h3⟩
    · rename_i e2
      rw [if_neg e2] at h
      obtain ⟨g, h1, h2, h3⟩ := h
      exact ⟨g, h1, h2, row_kept h3 hb⟩
def rowJ (A : List Value) (n va : Value) (b1 b2 : Bool) : List Value := A ++ ([bif b1 then n else nu 0] ++ ([bif b2 then va else st []] ++ (dg zeroD ++ ([st []] ++ dg zeroD))))
theorem row_ne {w : World} {a b : Nat} {cs cs' : Array Value} {t t' : TypeId} (ha : w.heap[a]? = some (.cells cs t)) (hb : w.heap[b]? = some (.cells cs' t')) (ht : t ≠ t') : a ≠ b := by
  rintro rfl
  rw [ha] at hb
  cases hb
  exact ht rfl
theorem OwnP.ne {w : World} {v : Value} {ps : List Pen} {g : Nat} {cs : Array Value} {t : TypeId} (h : OwnP w v ps) (hg : w.heap[g]? = some (.cells cs t)) (ht : t ≠ 113) : ∀ b, v.ownBlock = some b → b ≠ g := by
  intro b hb e
  subst e
  rcases h.form with ⟨rfl, -⟩ | ⟨g', cap, cur, rfl, h4, -⟩
  · cases hb
  · cases hb
    rw [h4] at hg
    cases hg
    exact ht rfl
theorem enter41 (args : Array Value) (w : World) : (callFunc 102 args).run Tryz.prog w = .ok (.enter 102 args) w := by kernel_rfl
def repA (r : Rep) (u : Value) : List Value := ([nu r.number, nu r.last, st r.view] ++ dg r.commit) ++ [u]
theorem repA_len {r : Rep} (h : r.Wf) (u : Value) : (repA r u).length = 36 := by rw [repA, List.length_append, rep_pre h]; rfl
theorem rep_tail (r : Rep) (u : Value) : repC r u = repA r u ++ ([nu r.vnum] ++ ([st r.value] ++ (dg r.data ++ ([st r.seen] ++ dg r.stag)))) := by simp [repC, repA]
set_option maxHeartbeats 8000000 in
theorem answer_any {w : World} {p : Nat} {q rs : List Nat} {R : Rs} {vs : List Value} {vP : Value} (h : RA w p q rs R vs vP) {x : Sub} (ht : x.kind = 2 → 0 ≤ x.target ∧ x.target < 8) :
    Calls Tryz.prog 67 #[.pointer (some ⟨p, 0, none⟩), .agg (subC x).toArray] w fun e w' => ∃ v', e = .returned (.agg (repC (ansR R x) v').toArray) ∧ OwnP w' v' (provenL R) ∧ (∀ b, v'.ownBlock = some b → w.heap.size ≤ b) ∧ Below w.heap.size w w' := by
  have B1 := hid (below_a1 w (.cells (subC x).toArray 25))
  have T1 := hid (top_obj w (.cells (subC x).toArray 25))
  have HI := hid h.inv
  have HR := hid h
  have ZL : (Tryz.prog.info? 23).map (·.size) = some (dg R.ltag).length := by rw [dg_len, h.inv.ltag]; exact sizeDig
  clear h
  obtain ⟨V, hV⟩ : ∃ V, V = subC x := ⟨_, rfl⟩
  rw [← hV] at B1 T1 ⊢
  have HV := hid hV
  clear hV
  have ZR := zeroRep
  have lz : (repC zeroR (.slice none 0 0)).length = 103 := repC_len wfZeroR _
  go_enter Tryz.func67, Tryz.ntmps67
  generalize repC zeroR (.slice none 0 0) = Z at *
  go_upto_region 1 with (first | ((with_reducible refine wl_alloc 28 ?_ ?_ Z.toArray ZR ?_); exact rfl; exact rfl))
  have e1 : (w.alloc (.cells V.toArray 25)).heap.size = w.heap.size + 1 := by simp
  generalize w.alloc (.cells V.toArray 25) = W1 at *
  have B2 := hid (below_two B1.out (below_a1 W1 (.cells Z.toArray 28)))
  have T2 := hid (row_kept T1.out (below_a1 W1 (.cells Z.toArray 28)))
  have U2 := hid (top_obj W1 (.cells Z.toArray 28))
  rw [e1] at U2
  have hgs : w.heap.size < w.heap.size + 1 := Nat.lt_succ_self _
  generalize W1.alloc (.cells Z.toArray 28) = W2 at *
  simp only [Act.put, List.setIfInBounds_toArray, List.set_cons_zero, List.set_cons_succ, e1]
  clear e1
  generalize w.heap.size + 1 = gA at *
  have H2 := hid (HR.out.kept B2.out)
  generalize hXg' : w.heap.size = X at *
  have HXg := hid hXg'
  clear hXg'
  have hB2 : X ≤ W2.heap.size := by rw [← HXg.out]; exact B2.out.size
  have H2lt := hid H2.out.lt
  clear HR B1 T1
  have HX : Hid (∀ W, Below W2.heap.size W2 W → W.cell? ⟨X, 0, none⟩ = some (nu x.number) ∧ W.cell? ⟨X, 1, none⟩ = some (nu x.kind) ∧ W.cell? ⟨X, 2, none⟩ = some (nu x.target)) := by
    intro W hb
    have hr := row_kept T2.out hb
    rw [HV.out] at hr
    have hs := row_seg (off := 0) (A := []) (cs := subC x) (C := []) hr (by simp) rfl
    exact ⟨hs 0 _ rfl, hs 1 _ rfl, hs 2 _ rfl⟩
  refine wp_region_cj (N := 66) 20 [17, 18, 19] (fun _ => vAns W2.heap.size R x Z) [pt X 0, nu x.number, pt p 0, pt p 0, pt p 1666, nu R.who, pt p 0, pt p 0, pt p 1633, pt p 1633, st R.long, pt p 0, pt p 0, pt p 1633, pt p 1634, .agg (dg R.ltag).toArray, pt p 0, undef, undef, undef, undef] (fun _ w => Below W2.heap.size W2 w) (by kernel_rfl) (by kernel_rfl) (by kernel_rfl) rfl (fun w1 h1 => h1) (fun i _ _ L w h => h) (fun i _ _ L j u w h => h) ?_ ?_ ?_
  · intro i o hi hiS ho
    match i, ho with
    | 0, ho => cases ho; exact fun L a w hLi hw hnot hJ hk hcst K h => op_fa 3 _ 0 X 0 0 rfl (fun W => fa_34_0 X 0 W) (hk 3 (by kernel_rfl)) h
    | 1, ho => cases ho; exact fun L a w hLi hw hnot hJ hk hcst K h => op_load1 _ (.tmp 7) rfl X 0 (hcst 0 7 (by kernel_rfl) (by decide) (by kernel_rfl)) _ _ ((HX.out _ hJ).1) Tryz.underlying3 rfl h
    | 2, ho => cases ho; exact fun L a w hLi hw hnot hJ hk hcst K h => op_move 0 _ rfl (hk 0 (by kernel_rfl)) h
    | 3, ho => cases ho; exact fun L a w hLi hw hnot hJ hk hcst K h => op_nil 9 p 0 rfl (hcst 2 9 (by kernel_rfl) (by decide) (by kernel_rfl)) h
    | 4, ho => cases ho; exact fun L a w hLi hw hnot hJ hk hcst K h => op_fa 10 _ 3 p 0 1666 rfl (fun W => fa_73_3 p 0 W) (hcst 3 10 (by kernel_rfl) (by decide) (by kernel_rfl)) h
    | 5, ho => cases ho; exact fun L a w hLi hw hnot hJ hk hcst K h => op_load1 _ (.tmp 11) rfl p 1666 (hcst 4 11 (by kernel_rfl) (by decide) (by kernel_rfl)) _ _ ((H2.out.kept hJ).who) Tryz.underlying3 rfl h
    | 6, ho => cases ho; exact fun L a w hLi hw hnot hJ hk hcst K h => op_move 0 _ rfl (hk 0 (by kernel_rfl)) h
    | 7, ho => cases ho; exact fun L a w hLi hw hnot hJ hk hcst K h => op_nil 13 p 0 rfl (hcst 6 13 (by kernel_rfl) (by decide) (by kernel_rfl)) h
    | 8, ho => cases ho; exact fun L a w hLi hw hnot hJ hk hcst K h => op_fa 14 _ 2 p 0 1633 rfl (fun W => fa_73_2 p 0 W) (hcst 7 14 (by kernel_rfl) (by decide) (by kernel_rfl)) h
    | 9, ho => cases ho; exact fun L a w hLi hw hnot hJ hk hcst K h => op_fa 15 _ 0 p 1633 0 rfl (fun W => fa_68_0 p 1633 W) (hcst 8 15 (by kernel_rfl) (by decide) (by kernel_rfl)) h
    | 10, ho => cases ho; exact fun L a w hLi hw hnot hJ hk hcst K h => op_load1 _ (.tmp 16) rfl p 1633 (hcst 9 16 (by kernel_rfl) (by decide) (by kernel_rfl)) _ _ ((H2.out.kept hJ).long) Tryz.underlying9 rfl h
    | 11, ho => cases ho; exact fun L a w hLi hw hnot hJ hk hcst K h => op_move 0 _ rfl (hk 0 (by kernel_rfl)) h
    | 12, ho => cases ho; exact fun L a w hLi hw hnot hJ hk hcst K h => op_nil 18 p 0 rfl (hcst 11 18 (by kernel_rfl) (by decide) (by kernel_rfl)) h
    | 13, ho => cases ho; exact fun L a w hLi hw hnot hJ hk hcst K h => op_fa 19 _ 2 p 0 1633 rfl (fun W => fa_73_2 p 0 W) (hcst 12 19 (by kernel_rfl) (by decide) (by kernel_rfl)) h
    | 14, ho => cases ho; exact fun L a w hLi hw hnot hJ hk hcst K h => op_fa 20 _ 1 p 1633 1 rfl (fun W => fa_68_1 p 1633 W) (hcst 13 20 (by kernel_rfl) (by decide) (by kernel_rfl)) h
    | 15, ho => cases ho; exact fun L a w hLi hw hnot hJ hk hcst K h => op_load _ (.tmp 21) rfl p 1634 (hcst 14 21 (by kernel_rfl) (by decide) (by kernel_rfl)) (dg R.ltag) _ ((H2.out.kept hJ).ltag) Tryz.underlying23 rfl ZL h
    | 16, ho => cases ho; exact fun L a w hLi hw hnot hJ hk hcst K h => op_move 0 _ rfl (hk 0 (by kernel_rfl)) h
    | 17, ho => exact absurd hiS (by decide)
    | 18, ho => exact absurd hiS (by decide)
    | 19, ho => exact absurd hiS (by decide)
    | (i + 20), ho => exact absurd hi (by omega)
  · intro i o hi hiS ho
    match i, ho with
    | 17, ho =>
      cases ho
      intro L a w hLi hw hnot hclos hJ hk hcst hvs
      refine op_callE 102 [.tmp 23] _ #[pt p 0] rfl enter41 (by
        have e0 : a.eval (.tmp 23) = pt p 0 := hcst 16 23 (by kernel_rfl) (by decide) (by kernel_rfl)
        show [a.eval (.tmp 23)].toArray = _
        rw [e0]) (proven_any (H2.out.kept hJ)) ?_
      rintro v w' ⟨h1, h2, h3⟩
      exact ⟨v, rfl, fun _ => vAns17.2 ⟨h1, fun b hb => Nat.le_trans hJ.size (h2 b hb)⟩, hJ.trans (h3.mono hJ.size), fun j d hj hjs hd => vAns_kept (hvs j d hj hjs hd) h3⟩
    | 18, ho =>
      cases ho
      intro L a w hLi hw hnot hclos hJ hk hcst hvs
      have h17 := vAns17.1 (hvs 17 24 (hw 17 (by kernel_rfl)) (by decide) (by kernel_rfl))
      refine op_build _ _ rfl (.agg (repC (ansB R x) (a.tmps.getD 24 undef)).toArray) ?_ ⟨_, rfl, fun _ => vAns18.2 ⟨_, rfl, h17.1, h17.2⟩, hJ, fun j d hj hjs hd => hvs j d hj hjs hd⟩
      · have q8 : a.eval (.tmp 8) = nu x.number := hcst 1 8 (by kernel_rfl) (by decide) (by kernel_rfl)
        have q12 : a.eval (.tmp 12) = nu R.who := hcst 5 12 (by kernel_rfl) (by decide) (by kernel_rfl)
        have q17 : a.eval (.tmp 17) = st R.long := hcst 10 17 (by kernel_rfl) (by decide) (by kernel_rfl)
        have q22 : a.eval (.tmp 22) = .agg (dg R.ltag).toArray := hcst 15 22 (by kernel_rfl) (by decide) (by kernel_rfl)
        simp only [List.map_toArray, List.map_cons, List.map_nil, q8, q12, q17, q22]
        exact build_ans w x.number R.who R.long R.ltag HI.out.ltag _ h17.1.one (provenL R)
    | 19, ho =>
      cases ho
      intro L a w hLi hw hnot hclos hJ hk hcst hvs
      refine op_alloc 28 rfl Z.toArray ZR ⟨_, rfl, fun _ => vAns19.2 ⟨w.heap.size, rfl, hJ.size, top_obj w _⟩, hJ.trans ((below_a1 w _).mono hJ.size), fun j d hj hjs hd => vAns_kept (hvs j d hj hjs hd) (below_a1 w _)⟩
    | 0, _ | 1, _ | 2, _ | 3, _ | 4, _ | 5, _ | 6, _ | 7, _ | 8, _ | 9, _ | 10, _ | 11, _ | 12, _ | 13, _ | 14, _ | 15, _ | 16, _ => exact absurd hiS (by decide)
    | (i + 20), ho => exact absurd hi (by omega)
  · intro L o a W3 hall hLn ho hJ hs hdf hk hc hv hkeep
    cases ho
    have h18 := vAns18.1 (hv 18 25 (by decide) (by decide) (by kernel_rfl))
    have h19 := vAns19.1 (hv 19 5 (by decide) (by decide) (by kernel_rfl))
    obtain ⟨u, e25, hou, hub⟩ := h18
    obtain ⟨g, e5, hgB, hgr⟩ := h19
    have hbw := ansB_wf HI.out x
    have hne : ∀ b, u.ownBlock = some b → b ≠ g := hou.ne hgr (by decide)
    refine op_put 28 5 25 rfl rfl g 0 e5 [] (repC (ansB R x) u) Z [] e25 28 (row_nil hgr) rfl (by rw [lz, repC_len hbw]) (one_rep _ _ hou.one) (by rw [repC_len hbw]; exact sizeRep) ?_
    intro W4 hr4 hb4
    obtain ⟨tm, df⟩ := a
    obtain rfl : df = [] := hdf
    obtain ⟨u0, hu0⟩ : ∃ u0, tm.getD 24 undef = u0 := ⟨_, rfl⟩
    have e := frame_of (c := fun i => ([pt X 0, nu x.number, pt p 0, pt p 0, pt p 1666, nu R.who, pt p 0, pt p 0, pt p 1633, pt p 1633, st R.long, pt p 0, pt p 0, pt p 1633, pt p 1634, .agg (dg R.ltag).toArray, pt p 0, u0, .agg (repC (ansB R x) u).toArray, pt g 0, undef] : List Value).getD i undef) hs hkeep (fun i d hd => by
      have hi : i < 21 := dst_lt hd
      by_cases h17 : i = 17
      · subst h17; cases hd; exact hu0
      by_cases h18 : i = 18
      · subst h18; cases hd; exact e25
      by_cases h19 : i = 19
      · subst h19; cases hd; exact e5
      by_cases h20 : i = 20
      · subst h20; cases hd
      rw [hc i d (by omega) (by simp; omega) hd]
      match i, h17, h18, h19, h20, hi with
      | 0, _, _, _, _, _ | 1, _, _, _, _, _ | 2, _, _, _, _, _ | 3, _, _, _, _, _ | 4, _, _, _, _, _ | 5, _, _, _, _, _ | 6, _, _, _, _, _ | 7, _, _, _, _, _ | 8, _, _, _, _, _ | 9, _, _, _, _, _ | 10, _, _, _, _, _ | 11, _, _, _, _, _ | 12, _, _, _, _, _ | 13, _, _, _, _, _ | 14, _, _, _, _, _ | 15, _, _, _, _, _ | 16, _, _, _, _, _ => rfl
      | 17, h, _, _, _, _ => exact absurd rfl h
      | 18, _, h, _, _, _ => exact absurd rfl h
      | 19, _, _, h, _, _ => exact absurd rfl h
      | 20, _, _, _, h, _ => exact absurd rfl h
      | (i + 21), _, _, _, _, h => omega)
    have hA : tm = #[pt p 0, .agg V.toArray, undef, pt X 0, pt gA 0, pt g 0, undef, pt X 0, nu x.number, pt p 0, pt p 0, pt p 1666, nu R.who, pt p 0, pt p 0, pt p 1633, pt p 1633, st R.long, pt p 0, pt p 0, pt p 1633, pt p 1634, .agg (dg R.ltag).toArray, pt p 0, u0, .agg (repC (ansB R x) u).toArray, undef, undef, undef, undef, undef, undef, undef, undef, undef, undef, undef, undef, undef, undef, undef, undef, undef, undef, undef, undef, undef, undef, undef, undef, undef, undef, undef, undef, undef, undef, undef, undef, undef, undef, undef, undef, undef, undef, undef, undef] := e.trans (by kernel_rfl)
    clear e hc hv hs hkeep hall hk e25 e5 hu0
    subst hA
    have R4 : Hid (W4.heap[g]? = some (.cells (repC (ansB R x) u).toArray 28)) := by
      show _ = _
      simpa using hr4
    have KW : Hid (Kp [g] W3 W4) := (Kp.refl _ _).but hb4 (Or.inl (by simp))
    have HO4 : Hid (OwnP W4 u (provenL R)) := hou.kp KW.out (fun b hb => by simpa using hne b hb)
    have B4 : Hid (Below W2.heap.size W2 W4) := hb4.below hJ hgB
    have hgn : gA < W2.heap.size := row_ltA U2.out
    have H4 := hid (H2.out.kept B4.out)
    have U4 : Hid (W4.heap[gA]? = some (.cells Z.toArray 28)) := row_kept U2.out B4.out
    obtain ⟨hx0, hx1, hx2⟩ := HX.out W4 B4.out
    have BW : Hid (Below X w W4) := B2.out.trans (B4.out.mono hB2)
    have HUB : Hid (∀ b, u.ownBlock = some b → X ≤ b ∧ b ≠ g ∧ b ≠ gA) := fun b hb => ⟨by have := hub b hb; omega, hne b hb, by have := hub b hb; omega⟩
    clear hr4 hb4 hou hub hne hJ KW hgr H2 HX T2 U2 B2 B4
    by_cases hkd : x.kind = 2
    · have hk2 : (x.kind == 2) = true := by simp [hkd]
      obtain ⟨k, hk'⟩ : ∃ k : Nat, x.target = (k : Int) := ⟨x.target.toNat, by have := ht hkd; omega⟩
      have hk8 : k < 8 := by have := ht hkd; omega
      have HE := hid (ans_read (R := R) hkd)
      rw [hk'] at HE hx2
      have hGok : GOk (R.regs.getD k zeroG) := HI.out.reg (k : Int)
      rw [reg_nat] at HE
      have cn4 := H4.out.anum hk8
      have cv4 := H4.out.aval hk8
      have sd4 := hid (H4.out.adata hk8)
      have cw4 := H4.out.view hk8
      have st4 := hid (H4.out.tag hk8)
      have HH4 := hid H4.out
      have H4lt : Hid (∀ b ∈ q ++ rs, b < g) := fun b hb => Nat.lt_of_lt_of_le (H2lt.out b hb) hgB
      clear ht hk' H4
      have hD : (R.regs.getD k zeroG).asked.data.length = 32 := hGok.asked.data
      have hT : (R.regs.getD k zeroG).tag.length = 32 := hGok.tag
      have hYw : (ans2 R x (R.regs.getD k zeroG)).Wf := ⟨HI.out.ltag, hD, hT, provenL_wf HI.out⟩
      have HA0 : Hid (repA (ansB R x) u = repA (ans2 R x (R.regs.getD k zeroG)) u) := by show _ = _; rfl
      have hpk : p < W4.heap.size := row_ltA HH4.out.row
      have hpg : p ≠ g := row_ne HH4.out.row R4.out (by decide)
      have hgl : g < W4.heap.size := row_ltA R4.out
      have R4b : Hid (W4.heap[g]? = some (.cells (repA (ansB R x) u ++ ([nu 0] ++ ([st []] ++ (dg zeroD ++ ([st []] ++ dg zeroD))))).toArray 28)) := by
        have h1 := R4.out
        rw [rep_tail] at h1
        exact h1
      have al := repA_len hbw u
      generalize hG : R.regs.getD k zeroG = G at *
      have OD := hid (one_dg G.asked.data)
      have OT := hid (one_dg G.tag)
      have ZD : (Tryz.prog.info? 23).map (·.size) = some (dg G.asked.data).length := by rw [dg_len, hD]; exact sizeDig
      have ZT : (Tryz.prog.info? 23).map (·.size) = some (dg G.tag).length := by rw [dg_len, hT]; exact sizeDig
      have lD : (dg zeroD).length = (dg G.asked.data).length := by rw [dg_len, dg_len, hD]; rfl
      have lT : (dg zeroD).length = (dg G.tag).length := by rw [dg_len, dg_len, hT]; rfl
      have i3 : (Tryz.prog.info? 3).map (·.size) = some 1 := by kernel_rfl
      have i9 : (Tryz.prog.info? 9).map (·.size) = some 1 := by kernel_rfl
      have hk0 : (0 : Int) ≤ (k : Int) := by omega
      have hkI : (k : Int) < 8 := by omega
      have L1 : (repA (ansB R x) u ++ [nu G.asked.number]).length = 37 := by rw [List.length_append, al]; rfl
      have L2 : (repA (ansB R x) u ++ ([nu G.asked.number] ++ [st G.asked.value])).length = 38 := by rw [List.length_append, al]; rfl
      have L3 : (repA (ansB R x) u ++ ([nu G.asked.number] ++ ([st G.asked.value] ++ dg G.asked.data))).length = 70 := by rw [List.length_append, List.length_append, List.length_append, dg_len, hD, al]; rfl
      have L4 : (repA (ansB R x) u ++ ([nu G.asked.number] ++ ([st G.asked.value] ++ (dg G.asked.data ++ [st G.view])))).length = 71 := by rw [List.length_append, List.length_append, List.length_append, List.length_append, dg_len, hD, al]; rfl
      have YE : Hid (repA (ansB R x) u ++ ([nu G.asked.number] ++ ([st G.asked.value] ++ (dg G.asked.data ++ [st G.view]))) ++ (dg G.tag ++ []) = repC (ans2 R x G) u) := by
        show _ = _
        rw [rep_tail (ans2 R x G) u, HA0.out]
        simp only [List.append_assoc, List.append_nil]
        rfl
      clear HA0
      go_wp2_with fail
      go_quiet (fail)
      go_wp2_with fail
      have R5 : Hid ((W4.drewN nq).heap[g]? = some (.cells (repA (ansB R x) u ++ ([nu 0] ++ ([st []] ++ (dg zeroD ++ ([st []] ++ dg zeroD))))).toArray 28)) := R4b.out
      have K5 : Hid (Kp [g] W4 (W4.drewN nq)) := (Kp.refl _ _).drewN nq
      have FR : Hid (∀ W, Kp [g] (W4.drewN nq) W → RA W p q rs R vs vP) := fun W hk => HH4.out.kp (K5.out.trans hk) (fun b hb hxx => by
        have hbg : b = g := by simpa using hxx
        subst hbg
        rcases List.mem_cons.1 hb with e | e
        · exact hpg e.symm
        · have h1 := H4lt.out b e
          omega)
      generalize hO : 1 + k * 204 = oo at *
      have FN : Hid (∀ W, Kp [g] (W4.drewN nq) W → W.cell? ⟨p, oo, none⟩ = some (nu G.asked.number)) := fun W hk => by have := (FR.out W hk).anum hk8; rwa [hG, hO] at this
      have FV : Hid (∀ W, Kp [g] (W4.drewN nq) W → W.cell? ⟨p, oo + 3, none⟩ = some (st G.asked.value)) := fun W hk => by have := (FR.out W hk).aval hk8; rwa [hG, hO] at this
      have FD : Hid (∀ W, Kp [g] (W4.drewN nq) W → ∀ j v, (dg G.asked.data)[j]? = some v → W.cell? ⟨p, oo + 36 + j, none⟩ = some v) := fun W hk => by have := (FR.out W hk).adata hk8; rwa [hG, hO] at this
      have FW : Hid (∀ W, Kp [g] (W4.drewN nq) W → W.cell? ⟨p, oo + 171, none⟩ = some (st G.view)) := fun W hk => by have := (FR.out W hk).view hk8; rwa [hG, hO] at this
      have FT : Hid (∀ W, Kp [g] (W4.drewN nq) W → ∀ j v, (dg G.tag)[j]? = some v → W.cell? ⟨p, oo + 171 + 1 + j, none⟩ = some v) := fun W hk => by have := (FR.out W hk).tag hk8; rw [hG, hO] at this; exact this
      clear hO
      clear cn4 cv4 sd4 R4b R4 cw4 st4 HH4 FR hG
      generalize W4.drewN nq = W5 at *
      refine wp_region_cj (N := 66) 20 [16, 18] (fun _ _ _ _ => True) [pt p oo, pt p oo, pt p oo, pt p oo, nu G.asked.number, pt p oo, pt p oo, pt p oo, pt p (oo + 3), st G.asked.value, pt p oo, pt p oo, pt p oo, pt p (oo + 36), .agg (dg G.asked.data).toArray, pt g 36, undef, pt g 37, undef, pt g 38, undef] (fun L w => Kp [g] W5 w ∧ w.heap[g]? = some (.cells (rowJ (repA (ansB R x) u) (nu G.asked.number) (st G.asked.value) (L 16) (L 18)).toArray 28)) (by kernel_rfl) (by kernel_rfl) (by kernel_rfl) rfl (fun w1 h1 => ⟨Kp.of h1, row_kept R5.out h1⟩) (fun i hi _ L w h => by
        rw [up_ne (show i ≠ 16 from fun e => hi (by simp [e])), up_ne (show i ≠ 18 from fun e => hi (by simp [e]))]
        exact h) (fun i _ _ L j u w h => h) ?_ ?_ ?_
      · intro i o hi hiS ho
        match i, ho with
        | 0, ho => cases ho; exact fun L a w hLi hw hnot hJ hk hcst K h => op_move 6 _ rfl (hk 6 (by kernel_rfl)) h
        | 1, ho => cases ho; exact fun L a w hLi hw hnot hJ hk hcst K h => op_nil 35 p oo rfl (hcst 0 35 (by kernel_rfl) (by decide) (by kernel_rfl)) h
        | 2, ho => cases ho; exact fun L a w hLi hw hnot hJ hk hcst K h => op_fa 36 _ 0 p oo 0 rfl (fun W => fa_70_0 p oo W) (hcst 1 36 (by kernel_rfl) (by decide) (by kernel_rfl)) h
        | 3, ho => cases ho; exact fun L a w hLi hw hnot hJ hk hcst K h => op_fa 37 _ 0 p oo 0 rfl (fun W => fa_34_0 p oo W) (hcst 2 37 (by kernel_rfl) (by decide) (by kernel_rfl)) h
        | 4, ho => cases ho; exact fun L a w hLi hw hnot hJ hk hcst K h => op_load1 _ (.tmp 38) rfl p oo (hcst 3 38 (by kernel_rfl) (by decide) (by kernel_rfl)) _ _ (FN.out _ hJ.1) Tryz.underlying3 rfl h
        | 5, ho => cases ho; exact fun L a w hLi hw hnot hJ hk hcst K h => op_move 6 _ rfl (hk 6 (by kernel_rfl)) h
        | 6, ho => cases ho; exact fun L a w hLi hw hnot hJ hk hcst K h => op_nil 40 p oo rfl (hcst 5 40 (by kernel_rfl) (by decide) (by kernel_rfl)) h
        | 7, ho => cases ho; exact fun L a w hLi hw hnot hJ hk hcst K h => op_fa 41 _ 0 p oo 0 rfl (fun W => fa_70_0 p oo W) (hcst 6 41 (by kernel_rfl) (by decide) (by kernel_rfl)) h
        | 8, ho => cases ho; exact fun L a w hLi hw hnot hJ hk hcst K h => op_fa 42 _ 3 p oo 3 rfl (fun W => fa_34_3 p oo W) (hcst 7 42 (by kernel_rfl) (by decide) (by kernel_rfl)) h
        | 9, ho => cases ho; exact fun L a w hLi hw hnot hJ hk hcst K h => op_load1 _ (.tmp 43) rfl p (oo + 3) (hcst 8 43 (by kernel_rfl) (by decide) (by kernel_rfl)) _ _ (FV.out _ hJ.1) Tryz.underlying9 rfl h
        | 10, ho => cases ho; exact fun L a w hLi hw hnot hJ hk hcst K h => op_move 6 _ rfl (hk 6 (by kernel_rfl)) h
        | 11, ho => cases ho; exact fun L a w hLi hw hnot hJ hk hcst K h => op_nil 45 p oo rfl (hcst 10 45 (by kernel_rfl) (by decide) (by kernel_rfl)) h
        | 12, ho => cases ho; exact fun L a w hLi hw hnot hJ hk hcst K h => op_fa 46 _ 0 p oo 0 rfl (fun W => fa_70_0 p oo W) (hcst 11 46 (by kernel_rfl) (by decide) (by kernel_rfl)) h
        | 13, ho => cases ho; exact fun L a w hLi hw hnot hJ hk hcst K h => op_fa 47 _ 5 p oo 36 rfl (fun W => fa_34_5 p oo W) (hcst 12 47 (by kernel_rfl) (by decide) (by kernel_rfl)) h
        | 14, ho => cases ho; exact fun L a w hLi hw hnot hJ hk hcst K h => op_load _ (.tmp 48) rfl p (oo + 36) (hcst 13 48 (by kernel_rfl) (by decide) (by kernel_rfl)) (dg G.asked.data) _ (FD.out _ hJ.1) Tryz.underlying23 rfl ZD h
        | 15, ho => cases ho; exact fun L a w hLi hw hnot hJ hk hcst K h => op_fa 5 _ 5 g 0 36 rfl (fun W => fa_43_5 g 0 W) (hk 5 (by kernel_rfl)) h
        | 16, ho => exact absurd hiS (by decide)
        | 17, ho => cases ho; exact fun L a w hLi hw hnot hJ hk hcst K h => op_fa 5 _ 6 g 0 37 rfl (fun W => fa_43_6 g 0 W) (hk 5 (by kernel_rfl)) h
        | 18, ho => exact absurd hiS (by decide)
        | 19, ho => cases ho; exact fun L a w hLi hw hnot hJ hk hcst K h => op_fa 5 _ 7 g 0 38 rfl (fun W => fa_43_7 g 0 W) (hk 5 (by kernel_rfl)) h
        | (i + 20), ho => exact absurd hi (by omega)
      · intro i o hi hiS ho
        match i, ho with
        | 16, ho =>
          cases ho
          intro L a w hLi hw hnot hclos hJ hk hcst hvs
          have h18 : L 18 = false := hnot 18 _ rfl (by kernel_rfl)
          have h1 := hJ.2
          rw [hLi, h18] at h1
          refine op_put1 3 50 39 rfl rfl g 36 (hcst 15 50 (by kernel_rfl) (by decide) (by kernel_rfl)) (repA (ansB R x) u) ([st []] ++ (dg zeroD ++ ([st []] ++ dg zeroD))) (nu 0) (nu G.asked.number) (hcst 4 39 (by kernel_rfl) (by decide) (by kernel_rfl)) 28 h1 al rfl i3 ?_
          intro W6 hr6 hb6
          refine ⟨undef, rfl, fun h => Bool.noConfusion h, ⟨hJ.1.but hb6 (Or.inl (by simp)), ?_⟩, fun _ _ _ _ _ => trivial⟩
          rw [up_self, up_ne (by decide), h18]
          exact hr6
        | 18, ho =>
          cases ho
          intro L a w hLi hw hnot hclos hJ hk hcst hvs
          have h16 : L 16 = true := hw 16 (by kernel_rfl)
          have h1 := hJ.2
          rw [hLi, h16] at h1
          refine op_put1 9 51 44 rfl rfl g 37 (hcst 17 51 (by kernel_rfl) (by decide) (by kernel_rfl)) (repA (ansB R x) u ++ [nu G.asked.number]) (dg zeroD ++ ([st []] ++ dg zeroD)) (st []) (st G.asked.value) (hcst 9 44 (by kernel_rfl) (by decide) (by kernel_rfl)) 28 (by simpa only [rowJ, cond_true, cond_false, List.append_assoc] using h1) L1 rfl i9 ?_
          intro W6 hr6 hb6
          refine ⟨undef, rfl, fun h => Bool.noConfusion h, ⟨hJ.1.but hb6 (Or.inl (by simp)), ?_⟩, fun _ _ _ _ _ => trivial⟩
          rw [up_self, up_ne (by decide), h16]
          simpa only [rowJ, cond_true, List.append_assoc] using hr6
        | 0, _ | 1, _ | 2, _ | 3, _ | 4, _ | 5, _ | 6, _ | 7, _ | 8, _ | 9, _ | 10, _ | 11, _ | 12, _ | 13, _ | 14, _ | 15, _ | 17, _ | 19, _ => exact absurd hiS (by decide)
        | (i + 20), ho => exact absurd hi (by omega)
      · intro L o a W6 hall hLn ho hJ hs hdf hk hc hv hkeep
        cases ho
        have h1 := hJ.2
        rw [hall 16 (by decide), hall 18 (by decide)] at h1
        refine op_put 23 52 49 rfl rfl g 38 (hc 19 52 (by decide) (by decide) (by kernel_rfl)) (repA (ansB R x) u ++ ([nu G.asked.number] ++ [st G.asked.value])) (dg G.asked.data) (dg zeroD) ([st []] ++ dg zeroD) (hc 14 49 (by decide) (by decide) (by kernel_rfl)) 28 (by simpa only [rowJ, cond_true, List.append_assoc] using h1) L2 lD OD.out ZD ?_
        intro W8 hr8 hb8
        have R8 : Hid (W8.heap[g]? = some (.cells ((repA (ansB R x) u ++ ([nu G.asked.number] ++ ([st G.asked.value] ++ dg G.asked.data))) ++ ([st []] ++ dg zeroD)).toArray 28)) := by show _ = _; simpa only [List.append_assoc] using hr8
        have K8 : Hid (Kp [g] W5 W8) := hJ.1.but hb8 (Or.inl (by simp))
        obtain ⟨tm, df⟩ := a
        obtain rfl : df = [] := hdf
        have e := frame_of (c := fun i => ([pt p oo, pt p oo, pt p oo, pt p oo, nu G.asked.number, pt p oo, pt p oo, pt p oo, pt p (oo + 3), st G.asked.value, pt p oo, pt p oo, pt p oo, pt p (oo + 36), .agg (dg G.asked.data).toArray, pt g 36, undef, pt g 37, undef, pt g 38, undef] : List Value).getD i undef) hs hkeep (fun i d hd => by
          have hi : i < 21 := dst_lt hd
          by_cases h16 : i = 16
          · subst h16; cases hd
          by_cases h18 : i = 18
          · subst h18; cases hd
          by_cases h20 : i = 20
          · subst h20; cases hd
          exact hc i d (by omega) (by simp; omega) hd)
        have hA : tm = #[pt p 0, .agg V.toArray, undef, pt X 0, pt gA 0, pt g 0, pt p oo, pt X 0, nu x.number, pt p 0, pt p 0, pt p 1666, nu R.who, pt p 0, pt p 0, pt p 1633, pt p 1633, st R.long, pt p 0, pt p 0, pt p 1633, pt p 1634, .agg (dg R.ltag).toArray, pt p 0, u0, .agg (repC (ansB R x) u).toArray, pt X 1, nu 2, .bool true, pt p 0, pt X 2, nu (k : Int), pt p 0, pt p 1, pt p oo, pt p oo, pt p oo, pt p oo, pt p oo, nu G.asked.number, pt p oo, pt p oo, pt p oo, pt p (oo + 3), st G.asked.value, pt p oo, pt p oo, pt p oo, pt p (oo + 36), .agg (dg G.asked.data).toArray, pt g 36, pt g 37, pt g 38, undef, undef, undef, undef, undef, undef, undef, undef, undef, undef, undef, undef, undef] := e.trans (by kernel_rfl)
        clear e hc hv hs hkeep hall hk h1 hr8 hb8 hJ
        subst hA
        go_wp2_with fail
        refine wp_region_cj (N := 66) 13 [11] (fun _ _ _ _ => True) [pt p oo, pt p oo, pt p (oo + 171), pt p (oo + 171), st G.view, pt p oo, pt p oo, pt p (oo + 171), pt p (oo + 171 + 1), .agg (dg G.tag).toArray, pt g 70, undef, pt g 71, undef] (fun L w => Kp [g] W5 w ∧ w.heap[g]? = some (.cells ((repA (ansB R x) u ++ ([nu G.asked.number] ++ ([st G.asked.value] ++ dg G.asked.data))) ++ ([bif L 11 then st G.view else st []] ++ dg zeroD)).toArray 28)) (by kernel_rfl) (by kernel_rfl) (by kernel_rfl) rfl (fun w1 h1 => ⟨K8.out.trans (Kp.of h1), row_kept R8.out h1⟩) (fun i hi _ L w h => by
          rw [up_ne (show i ≠ 11 from fun e => hi (by simp [e]))]
          exact h) (fun i _ _ L j u w h => h) ?_ ?_ ?_
        · intro i o hi hiS ho
          match i, ho with
          | 0, ho => cases ho; exact fun L a w hLi hw hnot hJ hk hcst K h => op_move 6 _ rfl (hk 6 (by kernel_rfl)) h
          | 1, ho => cases ho; exact fun L a w hLi hw hnot hJ hk hcst K h => op_nil 53 p oo rfl (hcst 0 53 (by kernel_rfl) (by decide) (by kernel_rfl)) h
          | 2, ho => cases ho; exact fun L a w hLi hw hnot hJ hk hcst K h => op_fa 54 _ 2 p oo 171 rfl (fun W => fa_70_2 p oo W) (hcst 1 54 (by kernel_rfl) (by decide) (by kernel_rfl)) h
          | 3, ho => cases ho; exact fun L a w hLi hw hnot hJ hk hcst K h => op_fa 55 _ 0 p (oo + 171) 0 rfl (fun W => fa_68_0 p (oo + 171) W) (hcst 2 55 (by kernel_rfl) (by decide) (by kernel_rfl)) h
          | 4, ho => cases ho; exact fun L a w hLi hw hnot hJ hk hcst K h => op_load1 _ (.tmp 56) rfl p (oo + 171) (hcst 3 56 (by kernel_rfl) (by decide) (by kernel_rfl)) _ _ (FW.out _ hJ.1) Tryz.underlying9 rfl h
          | 5, ho => cases ho; exact fun L a w hLi hw hnot hJ hk hcst K h => op_move 6 _ rfl (hk 6 (by kernel_rfl)) h
          | 6, ho => cases ho; exact fun L a w hLi hw hnot hJ hk hcst K h => op_nil 58 p oo rfl (hcst 5 58 (by kernel_rfl) (by decide) (by kernel_rfl)) h
          | 7, ho => cases ho; exact fun L a w hLi hw hnot hJ hk hcst K h => op_fa 59 _ 2 p oo 171 rfl (fun W => fa_70_2 p oo W) (hcst 6 59 (by kernel_rfl) (by decide) (by kernel_rfl)) h
          | 8, ho => cases ho; exact fun L a w hLi hw hnot hJ hk hcst K h => op_fa 60 _ 1 p (oo + 171) 1 rfl (fun W => fa_68_1 p (oo + 171) W) (hcst 7 60 (by kernel_rfl) (by decide) (by kernel_rfl)) h
          | 9, ho => cases ho; exact fun L a w hLi hw hnot hJ hk hcst K h => op_load _ (.tmp 61) rfl p (oo + 171 + 1) (hcst 8 61 (by kernel_rfl) (by decide) (by kernel_rfl)) (dg G.tag) _ (FT.out _ hJ.1) Tryz.underlying23 rfl ZT h
          | 10, ho => cases ho; exact fun L a w hLi hw hnot hJ hk hcst K h => op_fa 5 _ 8 g 0 70 rfl (fun W => fa_43_8 g 0 W) (hk 5 (by kernel_rfl)) h
          | 11, ho => exact absurd hiS (by decide)
          | 12, ho => cases ho; exact fun L a w hLi hw hnot hJ hk hcst K h => op_fa 5 _ 9 g 0 71 rfl (fun W => fa_43_9 g 0 W) (hk 5 (by kernel_rfl)) h
          | (i + 13), ho => exact absurd hi (by omega)
        · intro i o hi hiS ho
          match i, ho with
          | 11, ho =>
            cases ho
            intro L a w hLi hw hnot hclos hJ hk hcst hvs
            have h1 := hJ.2
            rw [hLi] at h1
            refine op_put1 9 63 57 rfl rfl g 70 (hcst 10 63 (by kernel_rfl) (by decide) (by kernel_rfl)) (repA (ansB R x) u ++ ([nu G.asked.number] ++ ([st G.asked.value] ++ dg G.asked.data))) (dg zeroD) (st []) (st G.view) (hcst 4 57 (by kernel_rfl) (by decide) (by kernel_rfl)) 28 h1 L3 rfl i9 ?_
            intro W6 hr6 hb6
            refine ⟨undef, rfl, fun h => Bool.noConfusion h, ⟨hJ.1.but hb6 (Or.inl (by simp)), ?_⟩, fun _ _ _ _ _ => trivial⟩
            rw [up_self]
            exact hr6
          | 0, _ | 1, _ | 2, _ | 3, _ | 4, _ | 5, _ | 6, _ | 7, _ | 8, _ | 9, _ | 10, _ | 12, _ => exact absurd hiS (by decide)
          | (i + 13), ho => exact absurd hi (by omega)
        · intro L o a W9 hall hLn ho hJ hs hdf hk hc hv hkeep
          cases ho
          have h1 := hJ.2
          rw [hall 11 (by decide)] at h1
          refine op_put 23 64 62 rfl rfl g 71 (hc 12 64 (by decide) (by decide) (by kernel_rfl)) (repA (ansB R x) u ++ ([nu G.asked.number] ++ ([st G.asked.value] ++ (dg G.asked.data ++ [st G.view])))) (dg G.tag) (dg zeroD) [] (hc 9 62 (by decide) (by decide) (by kernel_rfl)) 28 (by simpa only [cond_true, List.append_assoc, List.append_nil] using h1) L4 lT OT.out ZT ?_
          intro Wa hra hba
          rw [YE.out] at hra
          have Ra := hid hra
          have Ka : Hid (Kp [g] W5 Wa) := hJ.1.but hba (Or.inl (by simp))
          obtain ⟨tm, df⟩ := a
          obtain rfl : df = [] := hdf
          have e := frame_of (c := fun i => ([pt p oo, pt p oo, pt p (oo + 171), pt p (oo + 171), st G.view, pt p oo, pt p oo, pt p (oo + 171), pt p (oo + 171 + 1), .agg (dg G.tag).toArray, pt g 70, undef, pt g 71, undef] : List Value).getD i undef) hs hkeep (fun i d hd => by
            have hi : i < 14 := dst_lt hd
            by_cases h11 : i = 11
            · subst h11; cases hd
            by_cases h13 : i = 13
            · subst h13; cases hd
            exact hc i d (by omega) (by simp; omega) hd)
          have hA : tm = #[pt p 0, .agg V.toArray, undef, pt X 0, pt gA 0, pt g 0, pt p oo, pt X 0, nu x.number, pt p 0, pt p 0, pt p 1666, nu R.who, pt p 0, pt p 0, pt p 1633, pt p 1633, st R.long, pt p 0, pt p 0, pt p 1633, pt p 1634, .agg (dg R.ltag).toArray, pt p 0, u0, .agg (repC (ansB R x) u).toArray, pt X 1, nu 2, .bool true, pt p 0, pt X 2, nu (k : Int), pt p 0, pt p 1, pt p oo, pt p oo, pt p oo, pt p oo, pt p oo, nu G.asked.number, pt p oo, pt p oo, pt p oo, pt p (oo + 3), st G.asked.value, pt p oo, pt p oo, pt p oo, pt p (oo + 36), .agg (dg G.asked.data).toArray, pt g 36, pt g 37, pt g 38, pt p oo, pt p oo, pt p (oo + 171), pt p (oo + 171), st G.view, pt p oo, pt p oo, pt p (oo + 171), pt p (oo + 171 + 1), .agg (dg G.tag).toArray, pt g 70, pt g 71, undef] := e.trans (by kernel_rfl)
          clear e hc hv hs hkeep hall hk h1 hra hba hJ
          subst hA
          have KK : Hid (Kp [g] W4 Wa) := K5.out.trans Ka.out
          have Ua : Hid (Wa.heap[gA]? = some (.cells ([] ++ (Z ++ [])).toArray 28)) := row_nil (KK.out.row U4.out (by simp; omega))
          have HOa : Hid (OwnP Wa u (provenL R)) := HO4.out.kp KK.out (fun b hb hxx => (HUB.out b hb).2.1 (by simpa using hxx))
          have IY : (Tryz.prog.info? 28).map (·.size) = some (repC (ans2 R x G) u).length := by rw [repC_len hYw]; exact sizeRep
          have lY : Z.length = (repC (ans2 R x G) u).length := by rw [lz, repC_len hYw]
          have OY := hid (one_rep (ans2 R x G) u HO4.out.one)
          have Sa := hid (row_seg (off := 0) (A := []) (cs := repC (ans2 R x G) u) (C := []) Ra.out (by simp) rfl)
          clear FN FV FD FW FT R5 R8 K8 Ra
          go_wp2_with (first
            | ((with_reducible refine wl_load 28 (.tmp 5) ?_ g 0 ?_ ?_ (repC (ans2 R x G) u) _ Sa.out Tryz.underlying28 ?_ IY ?_); exact rfl; exact rfl; exact rfl; exact rfl)
            | ((with_reducible refine wl_put 28 (.tmp 4) (.tmp 65) ?_ ?_ gA 0 ?_ ?_ [] (repC (ans2 R x G) u) Z [] ?_ 28 Ua.out rfl lY OY.out IY ?_); exact rfl; exact rfl; exact rfl; exact rfl; exact rfl; intro w5 hr5 hbut))
          have hr6 : w5.heap[gA]? = some (.cells (repC (ans2 R x G) u).toArray 28) := by simpa using hr5
          refine bodyPost_ret_by (results_row (fn := Tryz.f67) (p := 4) (ty := 28) (by kernel_rfl) _ _ gA 28 (repC (ans2 R x G) u).toArray (0, 0) _ rfl hr6 Tryz.underlying28 rfl (by rw [List.size_toArray]; exact IY)) rfl ?_
          refine ⟨u, by rw [HE.out], HOa.out.kp (X := [gA]) ((Kp.refl _ _).but hbut (Or.inl (by simp))) (fun b hb hxx => (HUB.out b hb).2.2 (by simpa using hxx)), fun b hb => ?_, ?_⟩
          · rw [HXg.out]; exact (HUB.out b hb).1
          · rw [HXg.out]
            exact hbut.below (BW.out.trans (KK.out.below (by simp; omega) (by omega))) (by omega)
    · as_aux_lemma =>
      have hk2 : (x.kind == 2) = false := by simp [hkd]
      have HE := hid (ans_write (R := R) hkd)
      have IY : (Tryz.prog.info? 28).map (·.size) = some (repC (ansB R x) u).length := by rw [repC_len hbw]; exact sizeRep
      have lY : Z.length = (repC (ansB R x) u).length := by rw [lz, repC_len hbw]
      have OY := hid (one_rep (ansB R x) u HO4.out.one)
      have S4 := hid (row_seg (off := 0) (A := []) (cs := repC (ansB R x) u) (C := []) R4.out (by simp) rfl)
      have U4' := hid (row_nil U4.out)
      go_wp2_with (first
        | ((with_reducible refine wl_load 28 (.tmp 5) ?_ g 0 ?_ ?_ (repC (ansB R x) u) _ S4.out Tryz.underlying28 ?_ IY ?_); exact rfl; exact rfl; exact rfl; exact rfl)
        | ((with_reducible refine wl_put 28 (.tmp 4) (.tmp 65) ?_ ?_ gA 0 ?_ ?_ [] (repC (ansB R x) u) Z [] ?_ 28 U4'.out rfl lY OY.out IY ?_); exact rfl; exact rfl; exact rfl; exact rfl; exact rfl; intro w5 hr5 hbut))
      have hr6 : w5.heap[gA]? = some (.cells (repC (ansB R x) u).toArray 28) := by simpa using hr5
      refine bodyPost_ret_by (results_row (fn := Tryz.f67) (p := 4) (ty := 28) (by kernel_rfl) _ _ gA 28 (repC (ansB R x) u).toArray (0, 0) _ rfl hr6 Tryz.underlying28 rfl (by rw [List.size_toArray]; exact IY)) rfl ?_
      refine ⟨u, by rw [HE.out], HO4.out.kp (X := [gA]) ((Kp.refl _ _).but hbut (Or.inl (by simp))) (fun b hb hxx => (HUB.out b hb).2.2 (by simpa using hxx)), fun b hb => ?_, ?_⟩
      · rw [HXg.out]; exact (HUB.out b hb).1
      · rw [HXg.out]; exact hbut.below BW.out (by omega)
end Go.Proofs.YtidlgecognedlaaGreatDoor.Ms
