/-
  What is answered to a submit (answer).
-/
import Derived.Test.YtoneoocihfjfgaaGreatDoorG07
namespace Go.Proofs.YtoneoocihfjfgaaGreatDoor.Ms
open Go Go.RowKit
set_option maxRecDepth 100000
theorem fa_34_0 (g off : Nat) (W : World) : (Instr.fieldAt 34 (.pointer (some ⟨g, off, none⟩)) 0).run Tryz.prog W = .ok (.pointer (some ⟨g, off + 0, none⟩)) W := by kernel_rfl
theorem fa_34_3 (g off : Nat) (W : World) : (Instr.fieldAt 34 (.pointer (some ⟨g, off, none⟩)) 3).run Tryz.prog W = .ok (.pointer (some ⟨g, off + 3, none⟩)) W := by kernel_rfl
theorem fa_34_5 (g off : Nat) (W : World) : (Instr.fieldAt 34 (.pointer (some ⟨g, off, none⟩)) 5).run Tryz.prog W = .ok (.pointer (some ⟨g, off + 36, none⟩)) W := by kernel_rfl
theorem fa_43_5 (g off : Nat) (W : World) : (Instr.fieldAt 45 (.pointer (some ⟨g, off, none⟩)) 5).run Tryz.prog W = .ok (.pointer (some ⟨g, off + 36, none⟩)) W := by kernel_rfl
theorem fa_43_6 (g off : Nat) (W : World) : (Instr.fieldAt 45 (.pointer (some ⟨g, off, none⟩)) 6).run Tryz.prog W = .ok (.pointer (some ⟨g, off + 37, none⟩)) W := by kernel_rfl
theorem fa_43_7 (g off : Nat) (W : World) : (Instr.fieldAt 45 (.pointer (some ⟨g, off, none⟩)) 7).run Tryz.prog W = .ok (.pointer (some ⟨g, off + 38, none⟩)) W := by kernel_rfl
theorem fa_43_8 (g off : Nat) (W : World) : (Instr.fieldAt 45 (.pointer (some ⟨g, off, none⟩)) 8).run Tryz.prog W = .ok (.pointer (some ⟨g, off + 70, none⟩)) W := by kernel_rfl
theorem fa_43_9 (g off : Nat) (W : World) : (Instr.fieldAt 45 (.pointer (some ⟨g, off, none⟩)) 9).run Tryz.prog W = .ok (.pointer (some ⟨g, off + 71, none⟩)) W := by kernel_rfl
theorem fa_68_0 (g off : Nat) (W : World) : (Instr.fieldAt 58 (.pointer (some ⟨g, off, none⟩)) 0).run Tryz.prog W = .ok (.pointer (some ⟨g, off + 0, none⟩)) W := by kernel_rfl
theorem fa_68_1 (g off : Nat) (W : World) : (Instr.fieldAt 58 (.pointer (some ⟨g, off, none⟩)) 1).run Tryz.prog W = .ok (.pointer (some ⟨g, off + 1, none⟩)) W := by kernel_rfl
theorem fa_70_0 (g off : Nat) (W : World) : (Instr.fieldAt 60 (.pointer (some ⟨g, off, none⟩)) 0).run Tryz.prog W = .ok (.pointer (some ⟨g, off + 0, none⟩)) W := by kernel_rfl
theorem fa_70_2 (g off : Nat) (W : World) : (Instr.fieldAt 60 (.pointer (some ⟨g, off, none⟩)) 2).run Tryz.prog W = .ok (.pointer (some ⟨g, off + 171, none⟩)) W := by kernel_rfl
theorem fa_73_2 (g off : Nat) (W : World) : (Instr.fieldAt 63 (.pointer (some ⟨g, off, none⟩)) 2).run Tryz.prog W = .ok (.pointer (some ⟨g, off + 1633, none⟩)) W := by kernel_rfl
theorem fa_73_3 (g off : Nat) (W : World) : (Instr.fieldAt 63 (.pointer (some ⟨g, off, none⟩)) 3).run Tryz.prog W = .ok (.pointer (some ⟨g, off + 1666, none⟩)) W := by kernel_rfl
theorem op_callE {P : Program} {o : Oper} {a : Act} {w : World} {Q : Exit → Act → World → Prop} {K : Act → World → Prop} (f : FuncId) (xs : List Operand) (ts : Array TypeId) (vs : Array Value) (ho : o.op = .call { callee := .value (.func f), args := xs.toArray, argTypes := ts }) (hc : ∀ args w, (callFunc f args).run P w = .ok (.enter f args) w) (hx : (xs.map a.eval).toArray = vs)
    {J : Value → World → Prop} (hm : Calls P f vs w fun e w' => ∃ v, e = .returned v ∧ J v w') (h : ∀ v w', J v w' → K (a.put o.dst v) w') : o.wp P a w K Q := by
  unfold Oper.wp execOp
  have e : (do let d ← resolve a.eval { callee := .value (.func f), args := xs.toArray, argTypes := ts } o.type; invoke d.target d.args : Sem Next).run P w = .ok (.enter f vs) w := by
    have e0 : a.eval (.func f) = .func (.func f) #[] #[] := rfl
    simp [resolve, Deferred.ofValue, invoke, hc, e0, hx]
  simp only [ho]
  rw [e]
  simp only [Oper.upon]
  refine hm.mono ?_
  rintro e w' ⟨v, rfl, hJ⟩
  exact h v w' hJ
def ansB (R : Rs) (x : Sub) : Rep := ⟨x.number, R.who, R.long, R.ltag, provenL R, 0, [], zeroD, [], zeroD⟩
theorem ansB_wf {R : Rs} (h : RInv R) (x : Sub) : (ansB R x).Wf := ⟨h.ltag, rfl, rfl, provenL_wf h⟩
theorem ans_write {R : Rs} {x : Sub} (h : x.kind ≠ 2) : ansR R x = ansB R x := by unfold ansR ansB; rw [if_neg h]
def ans2 (R : Rs) (x : Sub) (G : Reg) : Rep := ⟨x.number, R.who, R.long, R.ltag, provenL R, G.asked.number, G.asked.value, G.asked.data, G.view, G.tag⟩
theorem ans_read {R : Rs} {x : Sub} (h : x.kind = 2) : ansR R x = ans2 R x (R.reg x.target) := by unfold ansR ans2; rw [if_pos h]
def vA17 (B : Nat) (R : Rs) (v : Value) (w : World) : Prop := OwnP w v (provenL R) ∧ (∀ b, v.ownBlock = some b → B ≤ b)
def vA18 (B : Nat) (R : Rs) (x : Sub) (v : Value) (w : World) : Prop := ∃ u, v = .agg (repC (ansB R x) u).toArray ∧ OwnP w u (provenL R) ∧ (∀ b, u.ownBlock = some b → B ≤ b)
def vA19 (B : Nat) (Z : List Value) (v : Value) (w : World) : Prop := ∃ g, v = pt g 0 ∧ B ≤ g ∧ w.heap[g]? = some (.cells Z.toArray 45)
def vAns (B : Nat) (R : Rs) (x : Sub) (Z : List Value) (i : Nat) (v : Value) (w : World) : Prop := if i = 17 then vA17 B R v w else if i = 18 then vA18 B R x v w else vA19 B Z v w
section
variable {B : Nat} {R : Rs} {x : Sub} {Z : List Value} {v : Value} {w : World}
theorem vAns17 : vAns B R x Z 17 v w ↔ vA17 B R v w := by unfold vAns; rw [if_pos rfl]
theorem vAns18 : vAns B R x Z 18 v w ↔ vA18 B R x v w := by unfold vAns; rw [if_neg (by decide), if_pos rfl]
theorem vAns19 : vAns B R x Z 19 v w ↔ vA19 B Z v w := by unfold vAns; rw [if_neg (by decide), if_neg (by decide)]
end
theorem vAns_kept {B : Nat} {R : Rs} {x : Sub} {Z : List Value} {i : Nat} {v : Value} {w w' : World} (h : vAns B R x Z i v w) (hb : Below w.heap.size w w') : vAns B R x Z i v w' := by
  unfold vAns at h ⊢
  split
  · rename_i e
    rw [if_pos e] at h
    exact ⟨h.1.kept hb, h.2⟩
  · rename_i e
    rw [if_neg e] at h
    split
    · rename_i e2
      rw [if_pos e2] at h
      obtain ⟨u, h1, h2, h3⟩ := h
      exact ⟨u, h1, h2.kept hb, h3⟩
    · rename_i e2
      rw [if_neg e2] at h
      obtain ⟨g, h1, h2, h3⟩ := h
      exact ⟨g, h1, h2, row_kept h3 hb⟩
def rowJ (A : List Value) (n va : Value) (b1 b2 : Bool) : List Value := A ++ ([bif b1 then n else nu 0] ++ ([bif b2 then va else st []] ++ (dg zeroD ++ ([st []] ++ dg zeroD))))
theorem row_ne {w : World} {a b : Nat} {cs cs' : Array Value} {t t' : TypeId} (ha : w.heap[a]? = some (.cells cs t)) (hb : w.heap[b]? = some (.cells cs' t')) (ht : t ≠ t') : a ≠ b := by
  rintro rfl
  rw [ha] at hb
  cases hb
  exact ht rfl
theorem OwnP.ne {w : World} {v : Value} {ps : List Pen} {g : Nat} {cs : Array Value} {t : TypeId} (h : OwnP w v ps) (hg : w.heap[g]? = some (.cells cs t)) (ht : t ≠ 66) : ∀ b, v.ownBlock = some b → b ≠ g := by
  intro b hb e
  subst e
  rcases h.form with ⟨rfl, -⟩ | ⟨g', cap, cur, rfl, h4, -⟩
  · cases hb
  · cases hb
    rw [h4] at hg
    cases hg
    exact ht rfl
theorem enter41 (args : Array Value) (w : World) : (callFunc 37 args).run Tryz.prog w = .ok (.enter 37 args) w := by kernel_rfl
def repA (r : Rep) (u : Value) : List Value := ([nu r.number, nu r.last, st r.view] ++ dg r.commit) ++ [u]
theorem repA_len {r : Rep} (h : r.Wf) (u : Value) : (repA r u).length = 36 := by rw [repA, List.length_append, rep_pre h]; rfl
theorem rep_tail (r : Rep) (u : Value) : repC r u = repA r u ++ ([nu r.vnum] ++ ([st r.value] ++ (dg r.data ++ ([st r.seen] ++ dg r.stag)))) := by simp [repC, repA]
set_option maxHeartbeats 8000000 in
theorem answer_any {w : World} {p : Nat} {q rs : List Nat} {R : Rs} {vs : List Value} {vP : Value} (h : RA w p q rs R vs vP) {x : Sub} (ht : x.kind = 2 → 0 ≤ x.target ∧ x.target < 8) :
    Calls Tryz.prog 29 #[.pointer (some ⟨p, 0, none⟩), .agg (subC x).toArray] w fun e w' => ∃ v', e = .returned (.agg (repC (ansR R x) v').toArray) ∧ OwnP w' v' (provenL R) ∧ (∀ b, v'.ownBlock = some b → w.heap.size ≤ b) ∧ Below w.heap.size w w' := by
  have B1 := hid (below_a1 w (.cells (subC x).toArray 34))
  have T1 := hid (top_obj w (.cells (subC x).toArray 34))
  have HI := hid h.inv
  have HR := hid h
  have ZL : (Tryz.prog.info? 32).map (·.size) = some (dg R.ltag).length := by rw [dg_len, h.inv.ltag]; exact sizeDig
  clear h
  obtain ⟨V, hV⟩ : ∃ V, V = subC x := ⟨_, rfl⟩
  rw [← hV] at B1 T1 ⊢
  have HV := hid hV
  clear hV
  have ZR := zeroRep
  have lz : (repC zeroR (.slice none 0 0)).length = 103 := repC_len wfZeroR _
  go_enter Tryz.func29, Tryz.ntmps29
  generalize repC zeroR (.slice none 0 0) = Z at *
  go_upto_region 1 with (first | ((with_reducible refine wl_alloc 45 ?_ ?_ Z.toArray ZR ?_); exact rfl; exact rfl))
  have e1 : (w.alloc (.cells V.toArray 34)).heap.size = w.heap.size + 1 := by simp
  generalize w.alloc (.cells V.toArray 34) = W1 at *
  have B2 := hid (below_two B1.out (below_a1 W1 (.cells Z.toArray 45)))
  have T2 := hid (row_kept T1.out (below_a1 W1 (.cells Z.toArray 45)))
  have U2 := hid (top_obj W1 (.cells Z.toArray 45))
  rw [e1] at U2
  have hgs : w.heap.size < w.heap.size + 1 := Nat.lt_succ_self _
  generalize W1.alloc (.cells Z.toArray 45) = W2 at *
  simp only [Act.put, List.setIfInBounds_toArray, List.set_cons_zero, List.set_cons_succ, e1]
  clear e1
  generalize w.heap.size + 1 = gA at *
  have H2 := hid (HR.out.kept B2.out)
  generalize hXg' : w.heap.size = X at *
  have HXg := hid hXg'
  clear hXg'
  have hB2 : X ≤ W2.heap.size := by rw [← HXg.out]; exact B2.out.size
  have H2lt := hid H2.out.lt
  clear HR B1 T1
  have HX : Hid (∀ W, Below W2.heap.size W2 W → W.cell? ⟨X, 0, none⟩ = some (nu x.number) ∧ W.cell? ⟨X, 1, none⟩ = some (nu x.kind) ∧ W.cell? ⟨X, 2, none⟩ = some (nu x.target)) := by
    intro W hb
    have hr := row_kept T2.out hb
    rw [HV.out] at hr
    have hs := row_seg (off := 0) (A := []) (cs := subC x) (C := []) hr (by simp) rfl
    exact ⟨hs 0 _ rfl, hs 1 _ rfl, hs 2 _ rfl⟩
  refine wp_region_cj (N := 66) 20 [17, 18, 19] (fun _ => vAns W2.heap.size R x Z) [pt X 0, nu x.number, pt p 0, pt p 0, pt p 1666, nu R.who, pt p 0, pt p 0, pt p 1633, pt p 1633, st R.long, pt p 0, pt p 0, pt p 1633, pt p 1634, .agg (dg R.ltag).toArray, pt p 0, undef, undef, undef, undef] (fun _ w => Below W2.heap.size W2 w) (by kernel_rfl) (by kernel_rfl) (by kernel_rfl) rfl (fun w1 h1 => h1) (fun i _ _ L w h => h) (fun i _ _ L j u w h => h) ?_ ?_ ?_
  · intro i o hi hiS ho
    match i, ho with
    | 0, ho => cases ho; exact fun L a w hLi hw hnot hJ hk hcst K h => op_fa 3 _ 0 X 0 0 rfl (fun W => fa_34_0 X 0 W) (hk 3 (by kernel_rfl)) h
    | 1, ho => cases ho; exact fun L a w hLi hw hnot hJ hk hcst K h => op_load1 _ (.tmp 7) rfl X 0 (hcst 0 7 (by kernel_rfl) (by decide) (by kernel_rfl)) _ _ ((HX.out _ hJ).1) Tryz.underlying3 rfl h
    | 2, ho => cases ho; exact fun L a w hLi hw hnot hJ hk hcst K h => op_move 0 _ rfl (hk 0 (by kernel_rfl)) h
    | 3, ho => cases ho; exact fun L a w hLi hw hnot hJ hk hcst K h => op_nil 9 p 0 rfl (hcst 2 9 (by kernel_rfl) (by decide) (by kernel_rfl)) h
    | 4, ho => cases ho; exact fun L a w hLi hw hnot hJ hk hcst K h => op_fa 10 _ 3 p 0 1666 rfl (fun W => fa_73_3 p 0 W) (hcst 3 10 (by kernel_rfl) (by decide) (by kernel_rfl)) h
    | 5, ho => cases ho; exact fun L a w hLi hw hnot hJ hk hcst K h => op_load1 _ (.tmp 11) rfl p 1666 (hcst 4 11 (by kernel_rfl) (by decide) (by kernel_rfl)) _ _ ((H2.out.kept hJ).who) Tryz.underlying3 rfl h
    | 6, ho => cases ho; exact fun L a w hLi hw hnot hJ hk hcst K h => op_move 0 _ rfl (hk 0 (by kernel_rfl)) h
    | 7, ho => cases ho; exact fun L a w hLi hw hnot hJ hk hcst K h => op_nil 13 p 0 rfl (hcst 6 13 (by kernel_rfl) (by decide) (by kernel_rfl)) h
    | 8, ho => cases ho; exact fun L a w hLi hw hnot hJ hk hcst K h => op_fa 14 _ 2 p 0 1633 rfl (fun W => fa_73_2 p 0 W) (hcst 7 14 (by kernel_rfl) (by decide) (by kernel_rfl)) h
    | 9, ho => cases ho; exact fun L a w hLi hw hnot hJ hk hcst K h => op_fa 15 _ 0 p 1633 0 rfl (fun W => fa_68_0 p 1633 W) (hcst 8 15 (by kernel_rfl) (by decide) (by kernel_rfl)) h
    | 10, ho => cases ho; exact fun L a w hLi hw hnot hJ hk hcst K h => op_load1 _ (.tmp 16) rfl p 1633 (hcst 9 16 (by kernel_rfl) (by decide) (by kernel_rfl)) _ _ ((H2.out.kept hJ).long) Tryz.underlying9 rfl h
    | 11, ho => cases ho; exact fun L a w hLi hw hnot hJ hk hcst K h => op_move 0 _ rfl (hk 0 (by kernel_rfl)) h
    | 12, ho => cases ho; exact fun L a w hLi hw hnot hJ hk hcst K h => op_nil 18 p 0 rfl (hcst 11 18 (by kernel_rfl) (by decide) (by kernel_rfl)) h
    | 13, ho => cases ho; exact fun L a w hLi hw hnot hJ hk hcst K h => op_fa 19 _ 2 p 0 1633 rfl (fun W => fa_73_2 p 0 W) (hcst 12 19 (by kernel_rfl) (by decide) (by kernel_rfl)) h
    | 14, ho => cases ho; exact fun L a w hLi hw hnot hJ hk hcst K h => op_fa 20 _ 1 p 1633 1 rfl (fun W => fa_68_1 p 1633 W) (hcst 13 20 (by kernel_rfl) (by decide) (by kernel_rfl)) h
    | 15, ho => cases ho; exact fun L a w hLi hw hnot hJ hk hcst K h => op_load _ (.tmp 21) rfl p 1634 (hcst 14 21 (by kernel_rfl) (by decide) (by kernel_rfl)) (dg R.ltag) _ ((H2.out.kept hJ).ltag) Tryz.underlying32 rfl ZL h
    | 16, ho => cases ho; exact fun L a w hLi hw hnot hJ hk hcst K h => op_move 0 _ rfl (hk 0 (by kernel_rfl)) h
    | 17, ho => exact absurd hiS (by decide)
    | 18, ho => exact absurd hiS (by decide)
    | 19, ho => exact absurd hiS (by decide)
    | (i + 20), ho => exact absurd hi (by omega)
  · intro i o hi hiS ho
    match i, ho with
    | 17, ho =>
      cases ho
      intro L a w hLi hw hnot hclos hJ hk hcst hvs
      refine op_callE 37 [.tmp 23] _ #[pt p 0] rfl enter41 (by
        have e0 : a.eval (.tmp 23) = pt p 0 := hcst 16 23 (by kernel_rfl) (by decide) (by kernel_rfl)
        show [a.eval (.tmp 23)].toArray = _
        rw [e0]) (proven_any (H2.out.kept hJ)) ?_
      rintro v w' ⟨h1, h2, h3⟩
      exact ⟨v, rfl, fun _ => vAns17.2 ⟨h1, fun b hb => Nat.le_trans hJ.size (h2 b hb)⟩, hJ.trans (h3.mono hJ.size), fun j d hj hjs hd => vAns_kept (hvs j d hj hjs hd) h3⟩
    | 18, ho =>
      cases ho
      intro L a w hLi hw hnot hclos hJ hk hcst hvs
      have h17 := vAns17.1 (hvs 17 24 (hw 17 (by kernel_rfl)) (by decide) (by kernel_rfl))
      refine op_build _ _ rfl (.agg (repC (ansB R x) (a.tmps.getD 24 undef)).toArray) ?_ ⟨_, rfl, fun _ => vAns18.2 ⟨_, rfl, h17.1, h17.2⟩, hJ, fun j d hj hjs hd => hvs j d hj hjs hd⟩
      · have q8 : a.eval (.tmp 8) = nu x.number := hcst 1 8 (by kernel_rfl) (by decide) (by kernel_rfl)
        have q12 : a.eval (.tmp 12) = nu R.who := hcst 5 12 (by kernel_rfl) (by decide) (by kernel_rfl)
        have q17 : a.eval (.tmp 17) = st R.long := hcst 10 17 (by kernel_rfl) (by decide) (by kernel_rfl)
        have q22 : a.eval (.tmp 22) = .agg (dg R.ltag).toArray := hcst 15 22 (by kernel_rfl) (by decide) (by kernel_rfl)
        simp only [List.map_toArray, List.map_cons, List.map_nil, q8, q12, q17, q22]
        exact build_ans w x.number R.who R.long R.ltag HI.out.ltag _ h17.1.one (provenL R)
    | 19, ho =>
      cases ho
      intro L a w hLi hw hnot hclos hJ hk hcst hvs
      refine op_alloc 45 rfl Z.toArray ZR ⟨_, rfl, fun _ => vAns19.2 ⟨w.heap.size, rfl, hJ.size, top_obj w _⟩, hJ.trans ((below_a1 w _).mono hJ.size), fun j d hj hjs hd => vAns_kept (hvs j d hj hjs hd) (below_a1 w _)⟩
    | 0, _ | 1, _ | 2, _ | 3, _ | 4, _ | 5, _ | 6, _ | 7, _ | 8, _ | 9, _ | 10, _ | 11, _ | 12, _ | 13, _ | 14, _ | 15, _ | 16, _ => exact absurd hiS (by decide)
    | (i + 20), ho => exact absurd hi (by omega)
  · intro L o a W3 hall hLn ho hJ hs hdf hk hc hv hkeep
    cases ho
    have h18 := vAns18.1 (hv 18 25 (by decide) (by decide) (by kernel_rfl))
    have h19 := vAns19.1 (hv 19 5 (by decide) (by decide) (by kernel_rfl))
    obtain ⟨u, e25, hou, hub⟩ := h18
    obtain ⟨g, e5, hgB, hgr⟩ := h19
    have hbw := ansB_wf HI.out x
    have hne : ∀ b, u.ownBlock = some b → b ≠ g := hou.ne hgr (by decide)
    refine op_put 45 5 25 rfl rfl g 0 e5 [] (repC (ansB R x) u) Z [] e25 45 (row_nil hgr) rfl (by rw [lz, repC_len hbw]) (one_rep _ _ hou.one) (by rw [repC_len hbw]; exact sizeRep) ?_
    intro W4 hr4 hb4
    obtain ⟨tm, df⟩ := a
    obtain rfl : df = [] := hdf
    obtain ⟨u0, hu0⟩ : ∃ u0, tm.getD 24 undef = u0 := ⟨_, rfl⟩
    have e := frame_of (c := fun i => ([pt X 0, nu x.number, pt p 0, pt p 0, pt p 1666, nu R.who, pt p 0, pt p 0, pt p 1633, pt p 1633, st R.long, pt p 0, pt p 0, pt p 1633, pt p 1634, .agg (dg R.ltag).toArray, pt p 0, u0, .agg (repC (ansB R x) u).toArray, pt g 0, undef] : List Value).getD i undef) hs hkeep (fun i d hd => by
      have hi : i < 21 := dst_lt hd
      by_cases h17 : i = 17
      · subst h17; cases hd; exact hu0
      by_cases h18 : i = 18
      · subst h18; cases hd; exact e25
      by_cases h19 : i = 19
      · subst h19; cases hd; exact e5
      by_cases h20 : i = 20
      · subst h20; cases hd
      rw [hc i d (by omega) (by simp; omega) hd]
      match i, h17, h18, h19, h20, hi with
      | 0, _, _, _, _, _ | 1, _, _, _, _, _ | 2, _, _, _, _, _ | 3, _, _, _, _, _ | 4, _, _, _, _, _ | 5, _, _, _, _, _ | 6, _, _, _, _, _ | 7, _, _, _, _, _ | 8, _, _, _, _, _ | 9, _, _, _, _, _ | 10, _, _, _, _, _ | 11, _, _, _, _, _ | 12, _, _, _, _, _ | 13, _, _, _, _, _ | 14, _, _, _, _, _ | 15, _, _, _, _, _ | 16, _, _, _, _, _ => rfl
      | 17, h, _, _, _, _ => exact absurd rfl h
      | 18, _, h, _, _, _ => exact absurd rfl h
      | 19, _, _, h, _, _ => exact absurd rfl h
      | 20, _, _, _, h, _ => exact absurd rfl h
      | (i + 21), _, _, _, _, h => omega)
    have hA : tm = #[pt p 0, .agg V.toArray, undef, pt X 0, pt gA 0, pt g 0, undef, pt X 0, nu x.number, pt p 0, pt p 0, pt p 1666, nu R.who, pt p 0, pt p 0, pt p 1633, pt p 1633, st R.long, pt p 0, pt p 0, pt p 1633, pt p 1634, .agg (dg R.ltag).toArray, pt p 0, u0, .agg (repC (ansB R x) u).toArray, undef, undef, undef, undef, undef, undef, undef, undef, undef, undef, undef, undef, undef, undef, undef, undef, undef, undef, undef, undef, undef, undef, undef, undef, undef, undef, undef, undef, undef, undef, undef, undef, undef, undef, undef, undef, undef, undef, undef, undef] := e.trans (by kernel_rfl)
    clear e hc hv hs hkeep hall hk e25 e5 hu0
    subst hA
    have R4 : Hid (W4.heap[g]? = some (.cells (repC (ansB R x) u).toArray 45)) := by
      show _ = _
      simpa using hr4
    have KW : Hid (Kp [g] W3 W4) := (Kp.refl _ _).but hb4 (Or.inl (by simp))
    have HO4 : Hid (OwnP W4 u (provenL R)) := hou.kp KW.out (fun b hb => by simpa using hne b hb)
    have B4 : Hid (Below W2.heap.size W2 W4) := hb4.below hJ hgB
    have hgn : gA < W2.heap.size := row_ltA U2.out
    have H4 := hid (H2.out.kept B4.out)
    have U4 : Hid (W4.heap[gA]? = some (.cells Z.toArray 45)) := row_kept U2.out B4.out
    obtain ⟨hx0, hx1, hx2⟩ := HX.out W4 B4.out
    have BW : Hid (Below X w W4) := B2.out.trans (B4.out.mono hB2)
    have HUB : Hid (∀ b, u.ownBlock = some b → X ≤ b ∧ b ≠ g ∧ b ≠ gA) := fun b hb => ⟨by have := hub b hb; omega, hne b hb, by have := hub b hb; omega⟩
    clear hr4 hb4 hou hub hne hJ KW hgr H2 HX T2 U2 B2 B4
    by_cases hkd : x.kind = 2
    · have hk2 : (x.kind == 2) = true := by simp [hkd]
      obtain ⟨k, hk'⟩ : ∃ k : Nat, x.target = (k : Int) := ⟨x.target.toNat, by have := ht hkd; omega⟩
      have hk8 : k < 8 := by have := ht hkd; omega
      have HE := hid (ans_read (R := R) hkd)
      rw [hk'] at HE hx2
      have hGok : GOk (R.regs.getD k zeroG) := HI.out.reg (k : Int)
      rw [reg_nat] at HE
      have cn4 := H4.out.anum hk8
      have cv4 := H4.out.aval hk8
      have sd4 := hid (H4.out.adata hk8)
      have cw4 := H4.out.view hk8
      have st4 := hid (H4.out.tag hk8)
      have HH4 := hid H4.out
      have H4lt : Hid (∀ b ∈ q ++ rs, b < g) := fun b hb => Nat.lt_of_lt_of_le (H2lt.out b hb) hgB
      clear ht hk' H4
      have hD : (R.regs.getD k zeroG).asked.data.length = 32 := hGok.asked.data
      have hT : (R.regs.getD k zeroG).tag.length = 32 := hGok.tag
      have hYw : (ans2 R x (R.regs.getD k zeroG)).Wf := ⟨HI.out.ltag, hD, hT, provenL_wf HI.out⟩
      have HA0 : Hid (repA (ansB R x) u = repA (ans2 R x (R.regs.getD k zeroG)) u) := by show _ = _; rfl
      have hpk : p < W4.heap.size := row_ltA HH4.out.row
      have hpg : p ≠ g := row_ne HH4.out.row R4.out (by decide)
      have hgl : g < W4.heap.size := row_ltA R4.out
      have R4b : Hid (W4.heap[g]? = some (.cells (repA (ansB R x) u ++ ([nu 0] ++ ([st []] ++ (dg zeroD ++ ([st []] ++ dg zeroD))))).toArray 45)) := by
        have h1 := R4.out
        rw [rep_tail] at h1
        exact h1
      have al := repA_len hbw u
      generalize hG : R.regs.getD k zeroG = G at *
      have OD := hid (one_dg G.asked.data)
      have OT := hid (one_dg G.tag)
      have ZD : (Tryz.prog.info? 32).map (·.size) = some (dg G.asked.data).length := by rw [dg_len, hD]; exact sizeDig
      have ZT : (Tryz.prog.info? 32).map (·.size) = some (dg G.tag).length := by rw [dg_len, hT]; exact sizeDig
      have lD : (dg zeroD).length = (dg G.asked.data).length := by rw [dg_len, dg_len, hD]; rfl
      have lT : (dg zeroD).length = (dg G.tag).length := by rw [dg_len, dg_len, hT]; rfl
      have i3 : (Tryz.prog.info? 3).map (·.size) = some 1 := by kernel_rfl
      have i9 : (Tryz.prog.info? 9).map (·.size) = some 1 := by kernel_rfl
      have hk0 : (0 : Int) ≤ (k : Int) := by omega
      have hkI : (k : Int) < 8 := by omega
      have L1 : (repA (ansB R x) u ++ [nu G.asked.number]).length = 37 := by rw [List.length_append, al]; rfl
      have L2 : (repA (ansB R x) u ++ ([nu G.asked.number] ++ [st G.asked.value])).length = 38 := by rw [List.length_append, al]; rfl
      have L3 : (repA (ansB R x) u ++ ([nu G.asked.number] ++ ([st G.asked.value] ++ dg G.asked.data))).length = 70 := by rw [List.length_append, List.length_append, List.length_append, dg_len, hD, al]; rfl
      have L4 : (repA (ansB R x) u ++ ([nu G.asked.number] ++ ([st G.asked.value] ++ (dg G.asked.data ++ [st G.view])))).length = 71 := by rw [List.length_append, List.length_append, List.length_append, List.length_append, dg_len, hD, al]; rfl
      have YE : Hid (repA (ansB R x) u ++ ([nu G.asked.number] ++ ([st G.asked.value] ++ (dg G.asked.data ++ [st G.view]))) ++ (dg G.tag ++ []) = repC (ans2 R x G) u) := by
        show _ = _
        rw [rep_tail (ans2 R x G) u, HA0.out]
        simp only [List.append_assoc, List.append_nil]
        rfl
      clear HA0
      go_wp2_with fail
      go_quiet (fail)
      go_wp2_with fail
      have R5 : Hid ((W4.drewN nq).heap[g]? = some (.cells (repA (ansB R x) u ++ ([nu 0] ++ ([st []] ++ (dg zeroD ++ ([st []] ++ dg zeroD))))).toArray 45)) := R4b.out
      have K5 : Hid (Kp [g] W4 (W4.drewN nq)) := (Kp.refl _ _).drewN nq
      have FR : Hid (∀ W, Kp [g] (W4.drewN nq) W → RA W p q rs R vs vP) := fun W hk => HH4.out.kp (K5.out.trans hk) (fun b hb hxx => by
        have hbg : b = g := by simpa using hxx
        subst hbg
        rcases List.mem_cons.1 hb with e | e
        · exact hpg e.symm
        · have h1 := H4lt.out b e
          omega)
      generalize hO : 1 + k * 204 = oo at *
      have FN : Hid (∀ W, Kp [g] (W4.drewN nq) W → W.cell? ⟨p, oo, none⟩ = some (nu G.asked.number)) := fun W hk => by have := (FR.out W hk).anum hk8; rwa [hG, hO] at this
      have FV : Hid (∀ W, Kp [g] (W4.drewN nq) W → W.cell? ⟨p, oo + 3, none⟩ = some (st G.asked.value)) := fun W hk => by have := (FR.out W hk).aval hk8; rwa [hG, hO] at this
      have FD : Hid (∀ W, Kp [g] (W4.drewN nq) W → ∀ j v, (dg G.asked.data)[j]? = some v → W.cell? ⟨p, oo + 36 + j, none⟩ = some v) := fun W hk => by have := (FR.out W hk).adata hk8; rwa [hG, hO] at this
      have FW : Hid (∀ W, Kp [g] (W4.drewN nq) W → W.cell? ⟨p, oo + 171, none⟩ = some (st G.view)) := fun W hk => by have := (FR.out W hk).view hk8; rwa [hG, hO] at this
      have FT : Hid (∀ W, Kp [g] (W4.drewN nq) W → ∀ j v, (dg G.tag)[j]? = some v → W.cell? ⟨p, oo + 171 + 1 + j, none⟩ = some v) := fun W hk => by have := (FR.out W hk).tag hk8; rw [hG, hO] at this; exact this
      clear hO
      clear cn4 cv4 sd4 R4b R4 cw4 st4 HH4 FR hG
      generalize W4.drewN nq = W5 at *
      refine wp_region_cj (N := 66) 20 [16, 18] (fun _ _ _ _ => True) [pt p oo, pt p oo, pt p oo, pt p oo, nu G.asked.number, pt p oo, pt p oo, pt p oo, pt p (oo + 3), st G.asked.value, pt p oo, pt p oo, pt p oo, pt p (oo + 36), .agg (dg G.asked.data).toArray, pt g 36, undef, pt g 37, undef, pt g 38, undef] (fun L w => Kp [g] W5 w ∧ w.heap[g]? = some (.cells (rowJ (repA (ansB R x) u) (nu G.asked.number) (st G.asked.value) (L 16) (L 18)).toArray 45)) (by kernel_rfl) (by kernel_rfl) (by kernel_rfl) rfl (fun w1 h1 => ⟨Kp.of h1, row_kept R5.out h1⟩) (fun i hi _ L w h => by
        rw [up_ne (show i ≠ 16 from fun e => hi (by simp [e])), up_ne (show i ≠ 18 from fun e => hi (by simp [e]))]
        exact h) (fun i _ _ L j u w h => h) ?_ ?_ ?_
      · intro i o hi hiS ho
        match i, ho with
        | 0, ho => cases ho; exact fun L a w hLi hw hnot hJ hk hcst K h => op_move 6 _ rfl (hk 6 (by kernel_rfl)) h
        | 1, ho => cases ho; exact fun L a w hLi hw hnot hJ hk hcst K h => op_nil 35 p oo rfl (hcst 0 35 (by kernel_rfl) (by decide) (by kernel_rfl)) h
        | 2, ho => cases ho; exact fun L a w hLi hw hnot hJ hk hcst K h => op_fa 36 _ 0 p oo 0 rfl (fun W => fa_70_0 p oo W) (hcst 1 36 (by kernel_rfl) (by decide) (by kernel_rfl)) h
        | 3, ho => cases ho; exact fun L a w hLi hw hnot hJ hk hcst K h => op_fa 37 _ 0 p oo 0 rfl (fun W => fa_34_0 p oo W) (hcst 2 37 (by kernel_rfl) (by decide) (by kernel_rfl)) h
        | 4, ho => cases ho; exact fun L a w hLi hw hnot hJ hk hcst K h => op_load1 _ (.tmp 38) rfl p oo (hcst 3 38 (by kernel_rfl) (by decide) (by kernel_rfl)) _ _ (FN.out _ hJ.1) Tryz.underlying3 rfl h
        | 5, ho => cases ho; exact fun L a w hLi hw hnot hJ hk hcst K h => op_move 6 _ rfl (hk 6 (by kernel_rfl)) h
        | 6, ho => cases ho; exact fun L a w hLi hw hnot hJ hk hcst K h => op_nil 40 p oo rfl (hcst 5 40 (by kernel_rfl) (by decide) (by kernel_rfl)) h
        | 7, ho => cases ho; exact fun L a w hLi hw hnot hJ hk hcst K h => op_fa 41 _ 0 p oo 0 rfl (fun W => fa_70_0 p oo W) (hcst 6 41 (by kernel_rfl) (by decide) (by kernel_rfl)) h
        | 8, ho => cases ho; exact fun L a w hLi hw hnot hJ hk hcst K h => op_fa 42 _ 3 p oo 3 rfl (fun W => fa_34_3 p oo W) (hcst 7 42 (by kernel_rfl) (by decide) (by kernel_rfl)) h
        | 9, ho => cases ho; exact fun L a w hLi hw hnot hJ hk hcst K h => op_load1 _ (.tmp 43) rfl p (oo + 3) (hcst 8 43 (by kernel_rfl) (by decide) (by kernel_rfl)) _ _ (FV.out _ hJ.1) Tryz.underlying9 rfl h
        | 10, ho => cases ho; exact fun L a w hLi hw hnot hJ hk hcst K h => op_move 6 _ rfl (hk 6 (by kernel_rfl)) h
        | 11, ho => cases ho; exact fun L a w hLi hw hnot hJ hk hcst K h => op_nil 45 p oo rfl (hcst 10 45 (by kernel_rfl) (by decide) (by kernel_rfl)) h
        | 12, ho => cases ho; exact fun L a w hLi hw hnot hJ hk hcst K h => op_fa 46 _ 0 p oo 0 rfl (fun W => fa_70_0 p oo W) (hcst 11 46 (by kernel_rfl) (by decide) (by kernel_rfl)) h
        | 13, ho => cases ho; exact fun L a w hLi hw hnot hJ hk hcst K h => op_fa 47 _ 5 p oo 36 rfl (fun W => fa_34_5 p oo W) (hcst 12 47 (by kernel_rfl) (by decide) (by kernel_rfl)) h
        | 14, ho => cases ho; exact fun L a w hLi hw hnot hJ hk hcst K h => op_load _ (.tmp 48) rfl p (oo + 36) (hcst 13 48 (by kernel_rfl) (by decide) (by kernel_rfl)) (dg G.asked.data) _ (FD.out _ hJ.1) Tryz.underlying32 rfl ZD h
        | 15, ho => cases ho; exact fun L a w hLi hw hnot hJ hk hcst K h => op_fa 5 _ 5 g 0 36 rfl (fun W => fa_43_5 g 0 W) (hk 5 (by kernel_rfl)) h
        | 16, ho => exact absurd hiS (by decide)
        | 17, ho => cases ho; exact fun L a w hLi hw hnot hJ hk hcst K h => op_fa 5 _ 6 g 0 37 rfl (fun W => fa_43_6 g 0 W) (hk 5 (by kernel_rfl)) h
        | 18, ho => exact absurd hiS (by decide)
        | 19, ho => cases ho; exact fun L a w hLi hw hnot hJ hk hcst K h => op_fa 5 _ 7 g 0 38 rfl (fun W => fa_43_7 g 0 W) (hk 5 (by kernel_rfl)) h
        | (i + 20), ho => exact absurd hi (by omega)
      · intro i o hi hiS ho
        match i, ho with
        | 16, ho =>
          cases ho
          intro L a w hLi hw hnot hclos hJ hk hcst hvs
          have h18 : L 18 = false := hnot 18 _ rfl (by kernel_rfl)
          have h1 := hJ.2
          rw [hLi, h18] at h1
          refine op_put1 3 50 39 rfl rfl g 36 (hcst 15 50 (by kernel_rfl) (by decide) (by kernel_rfl)) (repA (ansB R x) u) ([st []] ++ (dg zeroD ++ ([st []] ++ dg zeroD))) (nu 0) (nu G.asked.number) (hcst 4 39 (by kernel_rfl) (by decide) (by kernel_rfl)) 45 h1 al rfl i3 ?_
          intro W6 hr6 hb6
          refine ⟨undef, rfl, fun h => Bool.noConfusion h, ⟨hJ.1.but hb6 (Or.inl (by simp)), ?_⟩, fun _ _ _ _ _ => trivial⟩
          rw [up_self, up_ne (by decide), h18]
          exact hr6
        | 18, ho =>
          cases ho
          intro L a w hLi hw hnot hclos hJ hk hcst hvs
          have h16 : L 16 = true := hw 16 (by kernel_rfl)
          have h1 := hJ.2
          rw [hLi, h16] at h1
          refine op_put1 9 51 44 rfl rfl g 37 (hcst 17 51 (by kernel_rfl) (by decide) (by kernel_rfl)) (repA (ansB R x) u ++ [nu G.asked.number]) (dg zeroD ++ ([st []] ++ dg zeroD)) (st []) (st G.asked.value) (hcst 9 44 (by kernel_rfl) (by decide) (by kernel_rfl)) 45 (by simpa only [rowJ, cond_true, cond_false, List.append_assoc] using h1) L1 rfl i9 ?_
          intro W6 hr6 hb6
          refine ⟨undef, rfl, fun h => Bool.noConfusion h, ⟨hJ.1.but hb6 (Or.inl (by simp)), ?_⟩, fun _ _ _ _ _ => trivial⟩
          rw [up_self, up_ne (by decide), h16]
          simpa only [rowJ, cond_true, List.append_assoc] using hr6
        | 0, _ | 1, _ | 2, _ | 3, _ | 4, _ | 5, _ | 6, _ | 7, _ | 8, _ | 9, _ | 10, _ | 11, _ | 12, _ | 13, _ | 14, _ | 15, _ | 17, _ | 19, _ => exact absurd hiS (by decide)
        | (i + 20), ho => exact absurd hi (by omega)
      · intro L o a W6 hall hLn ho hJ hs hdf hk hc hv hkeep
        cases ho
        have h1 := hJ.2
        rw [hall 16 (by decide), hall 18 (by decide)] at h1
        refine op_put 32 52 49 rfl rfl g 38 (hc 19 52 (by decide) (by decide) (by kernel_rfl)) (repA (ansB R x) u ++ ([nu G.asked.number] ++ [st G.asked.value])) (dg G.asked.data) (dg zeroD) ([st []] ++ dg zeroD) (hc 14 49 (by decide) (by decide) (by kernel_rfl)) 45 (by simpa only [rowJ, cond_true, List.append_assoc] using h1) L2 lD OD.out ZD ?_
        intro W8 hr8 hb8
        have R8 : Hid (W8.heap[g]? = some (.cells ((repA (ansB R x) u ++ ([nu G.asked.number] ++ ([st G.asked.value] ++ dg G.asked.data))) ++ ([st []] ++ dg zeroD)).toArray 45)) := by show _ = _; simpa only [List.append_assoc] using hr8
        have K8 : Hid (Kp [g] W5 W8) := hJ.1.but hb8 (Or.inl (by simp))
        obtain ⟨tm, df⟩ := a
        obtain rfl : df = [] := hdf
        have e := frame_of (c := fun i => ([pt p oo, pt p oo, pt p oo, pt p oo, nu G.asked.number, pt p oo, pt p oo, pt p oo, pt p (oo + 3), st G.asked.value, pt p oo, pt p oo, pt p oo, pt p (oo + 36), .agg (dg G.asked.data).toArray, pt g 36, undef, pt g 37, undef, pt g 38, undef] : List Value).getD i undef) hs hkeep (fun i d hd => by
          have hi : i < 21 := dst_lt hd
          by_cases h16 : i = 16
          · subst h16; cases hd
          by_cases h18 : i = 18
          · subst h18; cases hd
          by_cases h20 : i = 20
          · subst h20; cases hd
          exact hc i d (by omega) (by simp; omega) hd)
        have hA : tm = #[pt p 0, .agg V.toArray, undef, pt X 0, pt gA 0, pt g 0, pt p oo, pt X 0, nu x.number, pt p 0, pt p 0, pt p 1666, nu R.who, pt p 0, pt p 0, pt p 1633, pt p 1633, st R.long, pt p 0, pt p 0, pt p 1633, pt p 1634, .agg (dg R.ltag).toArray, pt p 0, u0, .agg (repC (ansB R x) u).toArray, pt X 1, nu 2, .bool true, pt p 0, pt X 2, nu (k : Int), pt p 0, pt p 1, pt p oo, pt p oo, pt p oo, pt p oo, pt p oo, nu G.asked.number, pt p oo, pt p oo, pt p oo, pt p (oo + 3), st G.asked.value, pt p oo, pt p oo, pt p oo, pt p (oo + 36), .agg (dg G.asked.data).toArray, pt g 36, pt g 37, pt g 38, undef, undef, undef, undef, undef, undef, undef, undef, undef, undef, undef, undef, undef] := e.trans (by kernel_rfl)
        clear e hc hv hs hkeep hall hk h1 hr8 hb8 hJ
        subst hA
        go_wp2_with fail
        refine wp_region_cj (N := 66) 13 [11] (fun _ _ _ _ => True) [pt p oo, pt p oo, pt p (oo + 171), pt p (oo + 171), st G.view, pt p oo, pt p oo, pt p (oo + 171), pt p (oo + 171 + 1), .agg (dg G.tag).toArray, pt g 70, undef, pt g 71, undef] (fun L w => Kp [g] W5 w ∧ w.heap[g]? = some (.cells ((repA (ansB R x) u ++ ([nu G.asked.number] ++ ([st G.asked.value] ++ dg G.asked.data))) ++ ([bif L 11 then st G.view else st []] ++ dg zeroD)).toArray 45)) (by kernel_rfl) (by kernel_rfl) (by kernel_rfl) rfl (fun w1 h1 => ⟨K8.out.trans (Kp.of h1), row_kept R8.out h1⟩) (fun i hi _ L w h => by
          rw [up_ne (show i ≠ 11 from fun e => hi (by simp [e]))]
          exact h) (fun i _ _ L j u w h => h) ?_ ?_ ?_
        · intro i o hi hiS ho
          match i, ho with
          | 0, ho => cases ho; exact fun L a w hLi hw hnot hJ hk hcst K h => op_move 6 _ rfl (hk 6 (by kernel_rfl)) h
          | 1, ho => cases ho; exact fun L a w hLi hw hnot hJ hk hcst K h => op_nil 53 p oo rfl (hcst 0 53 (by kernel_rfl) (by decide) (by kernel_rfl)) h
          | 2, ho => cases ho; exact fun L a w hLi hw hnot hJ hk hcst K h => op_fa 54 _ 2 p oo 171 rfl (fun W => fa_70_2 p oo W) (hcst 1 54 (by kernel_rfl) (by decide) (by kernel_rfl)) h
          | 3, ho => cases ho; exact fun L a w hLi hw hnot hJ hk hcst K h => op_fa 55 _ 0 p (oo + 171) 0 rfl (fun W => fa_68_0 p (oo + 171) W) (hcst 2 55 (by kernel_rfl) (by decide) (by kernel_rfl)) h
          | 4, ho => cases ho; exact fun L a w hLi hw hnot hJ hk hcst K h => op_load1 _ (.tmp 56) rfl p (oo + 171) (hcst 3 56 (by kernel_rfl) (by decide) (by kernel_rfl)) _ _ (FW.out _ hJ.1) Tryz.underlying9 rfl h
          | 5, ho => cases ho; exact fun L a w hLi hw hnot hJ hk hcst K h => op_move 6 _ rfl (hk 6 (by kernel_rfl)) h
          | 6, ho => cases ho; exact fun L a w hLi hw hnot hJ hk hcst K h => op_nil 58 p oo rfl (hcst 5 58 (by kernel_rfl) (by decide) (by kernel_rfl)) h
          | 7, ho => cases ho; exact fun L a w hLi hw hnot hJ hk hcst K h => op_fa 59 _ 2 p oo 171 rfl (fun W => fa_70_2 p oo W) (hcst 6 59 (by kernel_rfl) (by decide) (by kernel_rfl)) h
          | 8, ho => cases ho; exact fun L a w hLi hw hnot hJ hk hcst K h => op_fa 60 _ 1 p (oo + 171) 1 rfl (fun W => fa_68_1 p (oo + 171) W) (hcst 7 60 (by kernel_rfl) (by decide) (by kernel_rfl)) h
          | 9, ho => cases ho; exact fun L a w hLi hw hnot hJ hk hcst K h => op_load _ (.tmp 61) rfl p (oo + 171 + 1) (hcst 8 61 (by kernel_rfl) (by decide) (by kernel_rfl)) (dg G.tag) _ (FT.out _ hJ.1) Tryz.underlying32 rfl ZT h
          | 10, ho => cases ho; exact fun L a w hLi hw hnot hJ hk hcst K h => op_fa 5 _ 8 g 0 70 rfl (fun W => fa_43_8 g 0 W) (hk 5 (by kernel_rfl)) h
          | 11, ho => exact absurd hiS (by decide)
          | 12, ho => cases ho; exact fun L a w hLi hw hnot hJ hk hcst K h => op_fa 5 _ 9 g 0 71 rfl (fun W => fa_43_9 g 0 W) (hk 5 (by kernel_rfl)) h
          | (i + 13), ho => exact absurd hi (by omega)
        · intro i o hi hiS ho
          match i, ho with
          | 11, ho =>
            cases ho
            intro L a w hLi hw hnot hclos hJ hk hcst hvs
            have h1 := hJ.2
            rw [hLi] at h1
            refine op_put1 9 63 57 rfl rfl g 70 (hcst 10 63 (by kernel_rfl) (by decide) (by kernel_rfl)) (repA (ansB R x) u ++ ([nu G.asked.number] ++ ([st G.asked.value] ++ dg G.asked.data))) (dg zeroD) (st []) (st G.view) (hcst 4 57 (by kernel_rfl) (by decide) (by kernel_rfl)) 45 h1 L3 rfl i9 ?_
            intro W6 hr6 hb6
            refine ⟨undef, rfl, fun h => Bool.noConfusion h, ⟨hJ.1.but hb6 (Or.inl (by simp)), ?_⟩, fun _ _ _ _ _ => trivial⟩
            rw [up_self]
            exact hr6
          | 0, _ | 1, _ | 2, _ | 3, _ | 4, _ | 5, _ | 6, _ | 7, _ | 8, _ | 9, _ | 10, _ | 12, _ => exact absurd hiS (by decide)
          | (i + 13), ho => exact absurd hi (by omega)
        · intro L o a W9 hall hLn ho hJ hs hdf hk hc hv hkeep
          cases ho
          have h1 := hJ.2
          rw [hall 11 (by decide)] at h1
          refine op_put 32 64 62 rfl rfl g 71 (hc 12 64 (by decide) (by decide) (by kernel_rfl)) (repA (ansB R x) u ++ ([nu G.asked.number] ++ ([st G.asked.value] ++ (dg G.asked.data ++ [st G.view])))) (dg G.tag) (dg zeroD) [] (hc 9 62 (by decide) (by decide) (by kernel_rfl)) 45 (by simpa only [cond_true, List.append_assoc, List.append_nil] using h1) L4 lT OT.out ZT ?_
          intro Wa hra hba
          rw [YE.out] at hra
          have Ra := hid hra
          have Ka : Hid (Kp [g] W5 Wa) := hJ.1.but hba (Or.inl (by simp))
          obtain ⟨tm, df⟩ := a
          obtain rfl : df = [] := hdf
          have e := frame_of (c := fun i => ([pt p oo, pt p oo, pt p (oo + 171), pt p (oo + 171), st G.view, pt p oo, pt p oo, pt p (oo + 171), pt p (oo + 171 + 1), .agg (dg G.tag).toArray, pt g 70, undef, pt g 71, undef] : List Value).getD i undef) hs hkeep (fun i d hd => by
            have hi : i < 14 := dst_lt hd
            by_cases h11 : i = 11
            · subst h11; cases hd
            by_cases h13 : i = 13
            · subst h13; cases hd
            exact hc i d (by omega) (by simp; omega) hd)
          have hA : tm = #[pt p 0, .agg V.toArray, undef, pt X 0, pt gA 0, pt g 0, pt p oo, pt X 0, nu x.number, pt p 0, pt p 0, pt p 1666, nu R.who, pt p 0, pt p 0, pt p 1633, pt p 1633, st R.long, pt p 0, pt p 0, pt p 1633, pt p 1634, .agg (dg R.ltag).toArray, pt p 0, u0, .agg (repC (ansB R x) u).toArray, pt X 1, nu 2, .bool true, pt p 0, pt X 2, nu (k : Int), pt p 0, pt p 1, pt p oo, pt p oo, pt p oo, pt p oo, pt p oo, nu G.asked.number, pt p oo, pt p oo, pt p oo, pt p (oo + 3), st G.asked.value, pt p oo, pt p oo, pt p oo, pt p (oo + 36), .agg (dg G.asked.data).toArray, pt g 36, pt g 37, pt g 38, pt p oo, pt p oo, pt p (oo + 171), pt p (oo + 171), st G.view, pt p oo, pt p oo, pt p (oo + 171), pt p (oo + 171 + 1), .agg (dg G.tag).toArray, pt g 70, pt g 71, undef] := e.trans (by kernel_rfl)
          clear e hc hv hs hkeep hall hk h1 hra hba hJ
          subst hA
          have KK : Hid (Kp [g] W4 Wa) := K5.out.trans Ka.out
          have Ua : Hid (Wa.heap[gA]? = some (.cells ([] ++ (Z ++ [])).toArray 45)) := row_nil (KK.out.row U4.out (by simp; omega))
          have HOa : Hid (OwnP Wa u (provenL R)) := HO4.out.kp KK.out (fun b hb hxx => (HUB.out b hb).2.1 (by simpa using hxx))
          have IY : (Tryz.prog.info? 45).map (·.size) = some (repC (ans2 R x G) u).length := by rw [repC_len hYw]; exact sizeRep
          have lY : Z.length = (repC (ans2 R x G) u).length := by rw [lz, repC_len hYw]
          have OY := hid (one_rep (ans2 R x G) u HO4.out.one)
          have Sa := hid (row_seg (off := 0) (A := []) (cs := repC (ans2 R x G) u) (C := []) Ra.out (by simp) rfl)
          clear FN FV FD FW FT R5 R8 K8 Ra
          go_wp2_with (first
            | ((with_reducible refine wl_load 45 (.tmp 5) ?_ g 0 ?_ ?_ (repC (ans2 R x G) u) _ Sa.out Tryz.underlying45 ?_ IY ?_); exact rfl; exact rfl; exact rfl; exact rfl)
            | ((with_reducible refine wl_put 45 (.tmp 4) (.tmp 65) ?_ ?_ gA 0 ?_ ?_ [] (repC (ans2 R x G) u) Z [] ?_ 45 Ua.out rfl lY OY.out IY ?_); exact rfl; exact rfl; exact rfl; exact rfl; exact rfl; intro w5 hr5 hbut))
          have hr6 : w5.heap[gA]? = some (.cells (repC (ans2 R x G) u).toArray 45) := by simpa using hr5
          refine bodyPost_ret_by (results_row (fn := Tryz.f29) (p := 4) (ty := 45) (by kernel_rfl) _ _ gA 45 (repC (ans2 R x G) u).toArray (0, 0) _ rfl hr6 Tryz.underlying45 rfl (by rw [List.size_toArray]; exact IY)) rfl ?_
          refine ⟨u, by rw [HE.out], HOa.out.kp (X := [gA]) ((Kp.refl _ _).but hbut (Or.inl (by simp))) (fun b hb hxx => (HUB.out b hb).2.2 (by simpa using hxx)), fun b hb => ?_, ?_⟩
          · rw [HXg.out]; exact (HUB.out b hb).1
          · rw [HXg.out]
            exact hbut.below (BW.out.trans (KK.out.below (by simp; omega) (by omega))) (by omega)
    · as_aux_lemma =>
      have hk2 : (x.kind == 2) = false := by simp [hkd]
      have HE := hid (ans_write (R := R) hkd)
      have IY : (Tryz.prog.info? 45).map (·.size) = some (repC (ansB R x) u).length := by rw [repC_len hbw]; exact sizeRep
      have lY : Z.length = (repC (ansB R x) u).length := by rw [lz, repC_len hbw]
      have OY := hid (one_rep (ansB R x) u HO4.out.one)
      have S4 := hid (row_seg (off := 0) (A := []) (cs := repC (ansB R x) u) (C := []) R4.out (by simp) rfl)
      have U4' := hid (row_nil U4.out)
      go_wp2_with (first
        | ((with_reducible refine wl_load 45 (.tmp 5) ?_ g 0 ?_ ?_ (repC (ansB R x) u) _ S4.out Tryz.underlying45 ?_ IY ?_); exact rfl; exact rfl; exact rfl; exact rfl)
        | ((with_reducible refine wl_put 45 (.tmp 4) (.tmp 65) ?_ ?_ gA 0 ?_ ?_ [] (repC (ansB R x) u) Z [] ?_ 45 U4'.out rfl lY OY.out IY ?_); exact rfl; exact rfl; exact rfl; exact rfl; exact rfl; intro w5 hr5 hbut))
      have hr6 : w5.heap[gA]? = some (.cells (repC (ansB R x) u).toArray 45) := by simpa using hr5
      refine bodyPost_ret_by (results_row (fn := Tryz.f29) (p := 4) (ty := 45) (by kernel_rfl) _ _ gA 45 (repC (ansB R x) u).toArray (0, 0) _ rfl hr6 Tryz.underlying45 rfl (by rw [List.size_toArray]; exact IY)) rfl ?_
      refine ⟨u, by rw [HE.out], HO4.out.kp (X := [gA]) ((Kp.refl _ _).but hbut (Or.inl (by simp))) (fun b hb hxx => (HUB.out b hb).2.2 (by simpa using hxx)), fun b hb => ?_, ?_⟩
      · rw [HXg.out]; exact (HUB.out b hb).1
      · rw [HXg.out]; exact hbut.below BW.out (by omega)
end Go.Proofs.YtoneoocihfjfgaaGreatDoor.Ms
