/-
  One law for regions that draw their order and call, make and write memory; loads of whole structs in a region's still part. No program plays a part.
-/
import Derived.Test.YtoneoocihfjfgaaGreatDoorErg
import Derived.StillTailTactics
import Derived.Test.YtoneoocihfjfgaaGreatDoorG06
namespace Go.Proofs.YtoneoocihfjfgaaGreatDoor.Ms
open Go Go.RowKit
set_option maxRecDepth 100000
section
variable {P : Program} {ops : Array Oper} {Q : Exit → Act → World → Prop} {N : Nat} {a0 : Act} {w0 : World}
def OweJ (P : Program) (ops : Array Oper) (Q : Exit → Act → World → Prop) (a0 : Act) (S : List Nat) (cs : List Value) (J : (Nat → Bool) → World → Prop) (i : Nat) (o : Oper) : Prop :=
  ∀ (L : Nat → Bool) (a : Act) (w : World), L i = false → (∀ j, waits o j = true → L j = true) → (∀ j oj, ops[j]? = some oj → waits oj i = true → L j = false) → J L w → Kpt ops a0 a i → Cst ops S cs a o → ∀ K : Act → World → Prop, K (a.put o.dst (cs.getD i undef)) w → o.wp P a w K Q
def OweW (P : Program) (ops : Array Oper) (Q : Exit → Act → World → Prop) (a0 : Act) (S : List Nat) (vs : (Nat → Bool) → Nat → Value → World → Prop) (cs : List Value) (J : (Nat → Bool) → World → Prop) (i : Nat) (o : Oper) : Prop :=
  ∀ (L : Nat → Bool) (a : Act) (w : World), L i = false → (∀ j, waits o j = true → L j = true) → (∀ j oj, ops[j]? = some oj → waits oj i = true → L j = false) → (∀ j oj, ops[j]? = some oj → L j = true → ∀ q, waits oj q = true → L q = true) → J L w → Kpt ops a0 a i → Cst ops S cs a o →
    (∀ j d, L j = true → j ∈ S → dstOf ops j = some d → vs L j (a.tmps.getD d undef) w) →
    o.wp P a w (fun a' w' => ∃ v, a' = a.put o.dst v ∧ (o.dst.isSome = true → vs (up L i) i v w') ∧ J (up L i) w' ∧ ∀ j d, L j = true → j ∈ S → dstOf ops j = some d → vs (up L i) j (a.tmps.getD d undef) w') Q
theorem wp_region_cj {id : Nat} (n : Nat) (S : List Nat) (vs : (Nat → Bool) → Nat → Value → World → Prop) (cs : List Value) (J : (Nat → Bool) → World → Prop) (hf : P.follows .mixedOrders = true) (hok : okMd ops N = true) (hlast : lastOk ops n = true) (hN : a0.tmps.size = N)
    (hJ0 : ∀ w1, Below w0.heap.size w0 w1 → J (fun _ => false) w1)
    (hJc : ∀ i, i ∉ S → i < n → ∀ L w, J L w → J (up L i) w)
    (hvs : ∀ i, i ∉ S → i < n → ∀ L j u w, vs L j u w → vs (up L i) j u w)
    (hc : ∀ i o, i < n → i ∉ S → ops[i]? = some o → OweJ P ops Q a0 S cs J i o)
    (hs : ∀ i o, i < n → i ∈ S → ops[i]? = some o → OweW P ops Q a0 S vs cs J i o)
    (hlo : ∀ L o a w, (∀ i, i < n → L i = true) → L n = false → ops[n]? = some o → J L w → a.tmps.size = N → a.defers = a0.defers → Kpt ops a0 a n → (∀ i d, i < n → i ∉ S → dstOf ops i = some d → a.tmps.getD d undef = cs.getD i undef) → (∀ i d, i < n → i ∈ S → dstOf ops i = some d → vs L i (a.tmps.getD d undef) w) → (∀ t, noneW ops t = true → a.tmps.getD t undef = a0.tmps.getD t undef) → o.wp P a w (Q .normal) Q) :
    (Code.region id ops true).wp P Q a0 w0 := by
  have hsz : n + 1 = ops.size ∧ ∀ i, i < n → ∀ o, ops[n]? = some o → waits o i = true ∨ ∃ j oj, waits o j = true ∧ ops[j]? = some oj ∧ waits oj i = true := by
    unfold lastOk at hlast
    rw [Bool.and_eq_true, decide_eq_true_eq, List.all_eq_true] at hlast
    refine ⟨hlast.1, fun i hi o ho => ?_⟩
    have h1 := hlast.2 i (List.mem_range.2 hi)
    rw [ho] at h1
    simp only [Bool.or_eq_true, List.any_eq_true, List.mem_range, Bool.and_eq_true] at h1
    rcases h1 with h1 | ⟨j, -, h1, h2⟩
    · exact Or.inl h1
    · cases hoj : ops[j]? with
      | none => rw [hoj] at h2; cases h2
      | some oj => rw [hoj] at h2; exact Or.inr ⟨j, oj, h1, hoj, h2⟩
  refine wp_region_inv (fun L a w => (L n = true → Q .normal a w ∧ ∀ i, i < ops.size → L i = true) ∧ (L n = false → Md ops N a0 (vS S vs cs) J L a w)) hf (okMd_at hok).1 (fun w1 hw1 => ⟨fun h => Bool.noConfusion h, fun _ => ⟨hN, rfl, fun _ _ => rfl, by simp, by simp, hJ0 w1 hw1⟩⟩) ?_ ?_
  · intro L a w i o ho hI hLi hw
    have hi : i < ops.size := (Array.getElem?_eq_some_iff.1 ho).1
    cases hLn : L n with
    | true =>
      rw [(hI.1 hLn).2 i hi] at hLi
      cases hLi
    | false =>
      have hm := hI.2 hLn
      by_cases hin : i = n
      · subst hin
        have hall : ∀ j, j < i → L j = true := by
          intro j hj
          rcases hsz.2 j hj o ho with h1 | ⟨k, ok, h1, h2, h3⟩
          · exact hw j h1
          · exact hm.clos k ok h2 (hw k h1) j h3
        refine Oper.wp_mono ?_ (hlo L o a w hall hLn ho hm.inv hm.size hm.defs (hm.keepAt hLi) (fun j d hj hjs hd => vS_c (hm.done j d (hall j hj) hd) hjs) (fun j d hj hjs hd => vS_s (hm.done j d (hall j hj) hd) hjs) (fun t ht => hm.kept t (fun j _ e => by
          unfold noneW at ht
          rw [List.all_eq_true] at ht
          have := ht j (List.mem_range.2 (dst_lt e))
          simp [e] at this)))
        intro a' w' hQ
        refine ⟨fun _ => ⟨hQ, fun j hj => ?_⟩, fun h => ?_⟩
        · unfold up
          split
          · rfl
          · exact hall j (by omega)
        · rw [up_self] at h
          cases h
      · have hil : i < n := by omega
        have hcst : Cst ops S cs a o := fun j d hj hjs hd => vS_c (hm.done j d (hw j hj) hd) hjs
        by_cases hiS : i ∈ S
        · refine Oper.wp_mono ?_ (hs i o hil hiS ho L a w hLi hw (hm.not hLi) hm.clos hm.inv (hm.keepAt hLi) hcst (fun j d hj hjs hd => vS_s (hm.done j d hj hd) hjs))
          rintro a' w' ⟨v, rfl, hv, hB, hmono⟩
          refine ⟨fun h => ?_, fun _ => hm.step hok ho hw (fun hd => ?_) hB (fun j d hj hd => ?_)⟩
          · rw [up_ne hin, hLn] at h
            cases h
          · unfold vS
            rw [if_pos hiS]
            exact hv hd
          · have h0 := hm.done j d hj hd
            unfold vS at h0 ⊢
            by_cases hjs : j ∈ S
            · rw [if_pos hjs]
              exact hmono j d hj hjs hd
            · rw [if_neg hjs] at h0 ⊢
              exact h0
        · refine hc i o hil hiS ho L a w hLi hw (hm.not hLi) hm.inv (hm.keepAt hLi) hcst _ ⟨fun h => ?_, fun _ => hm.step hok ho hw (fun _ => ?_) (hJc i hiS hil L w hm.inv) (fun j d hj hd => ?_)⟩
          · rw [up_ne hin, hLn] at h
            cases h
          · unfold vS
            rw [if_neg hiS]
          · have h0 := hm.done j d hj hd
            unfold vS at h0 ⊢
            by_cases hjs : j ∈ S
            · rw [if_pos hjs] at h0 ⊢
              exact hvs i hiS hil L j _ w h0
            · rw [if_neg hjs] at h0 ⊢
              exact h0
  · intro L a w hall hI
    exact (hI.1 (hall n (by omega))).1
end
section
variable {P : Program} {ops : Array Oper} {Q : Act → Prop} {a : Act} {o : Oper} {rest : List Oper} {w : World}
theorem ws_load (ty : TypeId) (x : Operand) (ho : o.op = .load ty x)
    (g off : Nat) (hx : a.eval x = .pointer (some ⟨g, off, none⟩)) (hw : Region.wanted o (yielded ops a.tmps) = true) (cs : List Value) (d : TypeDesc) (hc : ∀ j v, cs[j]? = some v → w.cell? ⟨g, off + j, none⟩ = some v)
    (hu : P.underlying ty = some d) (hd : (match d with | .struct _ | .array _ _ => true | _ => false) = true) (hi : (P.info? ty).map (·.size) = some cs.length)
    (h : wpStill P ops w Q rest (a.put o.dst (.agg cs.toArray))) : wpStill P ops w Q (o :: rest) a := by
  unfold wpStill
  rw [if_pos hw]
  have hl : (loadCells ⟨g, off, none⟩ cs.length).run P w = .ok cs.toArray w :=
    run_loadCells_list (P := P) w ⟨g, off, none⟩ cs (fun j v hv => by rw [add_none]; exact hc j v hv)
  cases hq : P.info? ty with
  | none => simp [hq] at hi
  | some i =>
    have hs : i.size = cs.length := by simpa [hq] using hi
    have hagg : (isAgg ty).run P w = .ok true w := by
      unfold isAgg
      rw [Sem.run_bind, run_underlying hu w]
      cases d <;> simp_all
    unfold Oper.still execOp
    simp [ho, hx, Instr.loadAt, Instr.sureAddr, Sem.run_bind, loadVar, hagg, sizeOf, typeInfo, hq, hs, hl, Oper.stillUpon]
    exact h
end
open Go Go.RowKit
set_option maxRecDepth 100000
def provK (R : Rs) (k : Nat) : List Pen := (provenL R).take k ++ R.pend.drop k
def provP (R : Rs) (p : Pen) : Pen := { p with proof := (R.reg p.client).tag }
def penH (p : Pen) : List Value := [nu p.client, nu p.number, nu p.kind, nu p.target] ++ dg p.asked
theorem pen_split (p : Pen) : penC p = penH p ++ dg p.proof := by simp [penC, penH]
theorem penH_len {p : Pen} (h : p.Wf) : (penH p).length = 36 := by rw [penH, List.length_append, dg_len, h.asked]; rfl
theorem flat_one (p : Pen) : flatQ [p] = penC p := by simp [flatQ]
theorem provK_zero (R : Rs) : provK R 0 = R.pend := by simp [provK]
theorem provK_end (R : Rs) : provK R R.pend.length = provenL R := by
  unfold provK
  rw [List.take_of_length_le (by rw [provenL_len]; exact Nat.le_refl _), List.drop_of_length_le (Nat.le_refl _), List.append_nil]
theorem provK_len (R : Rs) (k : Nat) (h : k ≤ R.pend.length) : (provK R k).length = R.pend.length := by simp [provK, provenL]; omega
theorem provK_at (R : Rs) (k : Nat) (h : k < R.pend.length) : provK R k = (provenL R).take k ++ ([R.pend[k]] ++ R.pend.drop (k + 1)) ∧ provK R (k + 1) = (provenL R).take k ++ ([provP R R.pend[k]] ++ R.pend.drop (k + 1)) := by
  constructor
  · unfold provK
    rw [List.singleton_append, ← List.drop_eq_getElem_cons h]
  · unfold provK
    have h' : k < (provenL R).length := by rw [provenL_len]; exact h
    rw [List.take_succ_eq_append_getElem h', List.append_assoc]
    congr 2
    simp [provenL, provP]
theorem provK_wf {R : Rs} (h : RInv R) (k : Nat) : ∀ p ∈ provK R k, p.Wf := by
  intro p hp
  rcases List.mem_append.1 hp with hp | hp
  · exact provenL_wf h p (List.mem_of_mem_take hp)
  · exact (h.pend p (List.mem_of_mem_drop hp)).wf
theorem ownP_of_row {w : World} {g n cap : Nat} {ps : List Pen} {rest : List Value} (hw : ∀ p ∈ ps, p.Wf) (hg : w.heap[g]? = some (.cells (flatQ ps ++ rest).toArray 66)) (hn : n = ps.length) (hc : ps.length ≤ cap) (hm : cap ≤ maxLen) (hs : (flatQ ps ++ rest).length = cap * 68) :
    OwnP w (.slice (some ⟨g, 0, none⟩) n cap) ps := by
  subst hn
  refine ⟨flatQ_len hw, .inr ⟨g, cap, _, rfl, Nat.zero_le _, hg, hc, hm, by simpa using hs, ?_⟩⟩
  show (flatQ ps ++ rest).take (ps.length * 68) = _
  rw [← flatQ_len hw, List.take_left]
theorem OwnP.row {w : World} {g n cap : Nat} {ps : List Pen} (h : OwnP w (.slice (some ⟨g, 0, none⟩) n cap) ps) : ∃ rest, w.heap[g]? = some (.cells (flatQ ps ++ rest).toArray 66) ∧ n = ps.length ∧ ps.length ≤ cap ∧ cap ≤ maxLen ∧ (flatQ ps ++ rest).length = cap * 68 := by
  rcases h.2 with ⟨e, -⟩ | ⟨g', cap', cur, e, -, h4, h5, h6, h7, h8⟩
  · cases e
  · cases e
    refine ⟨cur.toList.drop (ps.length * 68), ?_, rfl, h5, h6, ?_⟩
    · rw [← h8, List.take_append_drop]
      simpa using h4
    · rw [← h8, List.take_append_drop]
      simpa using h7
set_option maxHeartbeats 4000000 in
theorem proven_any {w : World} {p : Nat} {q rs : List Nat} {R : Rs} {vs : List Value} {vP : Value} (h : RA w p q rs R vs vP) :
    Calls Tryz.prog 37 #[.pointer (some ⟨p, 0, none⟩)] w fun e w' => ∃ v', e = .returned v' ∧ OwnP w' v' (provenL R) ∧ (∀ b, v'.ownBlock = some b → w.heap.size ≤ b) ∧ Below w.heap.size w w' := by
  have HR := hid h
  have cP := h.pnd
  have hl := h.inv.plen
  have HC := hid (clonep_any h.own (by omega))
  have HI := hid h.inv
  clear h
  go_enter Tryz.func37, Tryz.ntmps37
  go_upto_region 2 with (first | (go_at_call 38; refine HC.out.mono ?_; rintro e W1 ⟨v', rfl, ho, hv, hb⟩; have HO := hid ho; have HV := hid hv; have HB := hid hb; clear ho hv hb))
  clear cP HC
  rcases HO.out.form with ⟨e1, e2⟩ | ⟨g, cap, cur, e1, -⟩
  · subst e1
    have HP : Hid (provenL R = []) := by show _ = _; simp [provenL, e2]
    clear e2
    go_wp2
    go_loopw [12] (fun i wr => i = nu 0 ∧ wr = W1) (fun i _ => 0)
    case atStart => exact ⟨rfl, rfl⟩
    case round =>
      obtain ⟨rfl, hwr⟩ := hrel
      subst wr
      go_wp2
      go_ret
      exact ⟨_, rfl, by rw [HP.out]; exact OwnP.nil _, (fun b hb => by cases hb), HB.out⟩
  · subst e1
    obtain ⟨rest, hrow, -, hcap, hmx, hsz⟩ := HO.out.row
    have hg : w.heap.size ≤ g := HV.out g rfl
    have HF := hid (fun (W : World) (hr : W.heap[g]? = some (.cells (flatQ (provK R R.pend.length) ++ rest).toArray 66)) => (ownP_of_row (n := R.pend.length) (cap := cap) (provK_wf HI.out _) hr (provK_len R _ (Nat.le_refl _)).symm (by rw [provK_len R _ (Nat.le_refl _)]; exact hcap) hmx (by
      rw [← hsz, List.length_append, List.length_append, flatQ_len (provK_wf HI.out _), flatQ_len (fun p hp => (HI.out.pend p hp).wf), provK_len R _ (Nat.le_refl _)])))
    have HS : Hid (W1.heap[g]? = some (.cells (flatQ (provK R 0) ++ rest).toArray 66)) := by
      show _ = _
      rw [provK_zero]
      exact hrow
    have hgl : g < W1.heap.size := row_ltA hrow
    clear hrow hsz HO hcap hmx
    go_wp2
    go_loopw [12] (fun i wr => ∃ k : Nat, k ≤ R.pend.length ∧ i = nu k ∧ Hid (wr.heap[g]? = some (.cells (flatQ (provK R k) ++ rest).toArray 66)) ∧ Hid (Below w.heap.size w wr)) (fun i _ => R.pend.length - (intOf i).toNat)
    case atStart => exact ⟨0, by omega, rfl, HS.out, HB.out⟩
    case round =>
      obtain ⟨k, hk, rfl, HS, HBr⟩ := hrel
      by_cases hlt : k < R.pend.length
      · have d1 : decide ((k : Int) < (R.pend.length : Int)) = true := decide_eq_true (by omega)
        have d1' : decide (k < R.pend.length) = true := decide_eq_true hlt
        obtain ⟨e1, e2⟩ := provK_at R k hlt
        have hpk := HI.out.pend _ (List.getElem_mem hlt)
        have hn := HI.out.n
        have hRk := HR.out.kept HBr.out
        generalize hpen : R.pend[k] = pk at *
        obtain ⟨cl, hcl⟩ : ∃ cl : Nat, pk.client = (cl : Int) := ⟨pk.client.toNat, by have := hpk.cl; omega⟩
        have hcl8 : cl < 8 := by have := hpk.cl; omega
        have hTl : (dg (R.reg pk.client).tag).length = 32 := by rw [dg_len]; exact (HI.out.reg pk.client).tag
        have hPl : (dg pk.proof).length = 32 := by rw [dg_len]; exact hpk.wf.proof
        have hal : (flatQ ((provenL R).take k)).length = k * 68 := by
          rw [flatQ_len (fun p hp => provenL_wf HI.out p (List.mem_of_mem_take hp)), List.length_take, provenL_len]
          congr 1
          omega
        -- the row, before and behind
        have hrow : wr.heap[g]? = some (.cells ((flatQ ((provenL R).take k) ++ penH pk) ++ (dg pk.proof ++ (flatQ (R.pend.drop (k + 1)) ++ rest))).toArray 66) := by
          have := HS.out
          rw [e1, flat_app, flat_app, flat_one, pen_split] at this
          simpa only [List.append_assoc] using this
        have hnew : (flatQ ((provenL R).take k) ++ penH pk) ++ (dg (R.reg pk.client).tag ++ (flatQ (R.pend.drop (k + 1)) ++ rest)) = flatQ (provK R (k + 1)) ++ rest := by
          rw [e2, flat_app, flat_app, flat_one, pen_split]
          show _ = (flatQ ((provenL R).take k) ++ ((penH pk ++ dg (R.reg pk.client).tag) ++ flatQ (R.pend.drop (k + 1)))) ++ rest
          simp only [List.append_assoc]
        have hcc : wr.cell? ⟨g, k * 68, none⟩ = some (nu (cl : Int)) := by
          rw [← hcl]
          exact row_cell (A := flatQ ((provenL R).take k)) (C := [nu pk.number, nu pk.kind, nu pk.target] ++ dg pk.asked ++ (dg pk.proof ++ (flatQ (R.pend.drop (k + 1)) ++ rest))) hrow (by simp [penH]) hal
        have hAl : (flatQ ((provenL R).take k) ++ penH pk).length = k * 68 + 36 := by rw [List.length_append, hal, penH_len hpk.wf]
        have hT := hRk.tag hcl8
        have hTe : (R.regs.getD cl zeroG).tag = (R.reg pk.client).tag := by rw [hcl]; rfl
        rw [hTe] at hT
        have HT : Hid (∀ j v, (dg (R.reg pk.client).tag)[j]? = some v → (World.drew wr).cell? ⟨p, 1 + cl * 204 + 172 + j, none⟩ = some v) := hT
        have cD : (World.drew wr).cell? ⟨g, k * 68, none⟩ = some (nu (cl : Int)) := hcc
        have RD : Hid ((World.drew wr).heap[g]? = some (.cells ((flatQ ((provenL R).take k) ++ penH pk) ++ (dg pk.proof ++ (flatQ (R.pend.drop (k + 1)) ++ rest))).toArray 66)) := hrow
        have BD : Hid (Below w.heap.size w (World.drew wr)) := HBr.out.drew
        have OT := hid (one_dg (R.reg pk.client).tag)
        have ZT : (Tryz.prog.info? 32).map (·.size) = some (dg (R.reg pk.client).tag).length := by rw [hTl]; exact sizeDig
        have hTP : (dg pk.proof).length = (dg (R.reg pk.client).tag).length := by rw [hTl, hPl]
        clear hrow hcc hT hTe hpk e1 e2 hRk HS hpen hcl hTl hPl hal HBr HR
        generalize dg (R.reg pk.client).tag = T at *
        generalize dg pk.proof = PF at *
        generalize flatQ ((provenL R).take k) ++ penH pk = AA at *
        generalize flatQ (R.pend.drop (k + 1)) ++ rest = CC at *
        have hcl0 : (0 : Int) ≤ (cl : Int) := by omega
        have hclI : (cl : Int) < 8 := by omega
        go_wp2_with fail
        refine wp_region_still_tail 16 (by kernel_rfl) (by kernel_rfl) ?_
        simp only [List.take_succ_cons, List.take_zero, List.drop_succ_cons, List.drop_zero]
        change wpStill _ _ (World.drew wr) (fun a' => wpList _ _ _ _ a' (World.drew wr)) _ _
        generalize World.drew wr = wd at *
        iterate 13 still_step
        refine ws_load 32 (.tmp 27) rfl p (1 + cl * 204 + 172) rfl rfl T _ HT.out Tryz.underlying32 rfl ZT ?_
        simp only [Act.put, List.setIfInBounds_toArray, List.set_cons_zero, List.set_cons_succ]
        iterate 2 still_step
        refine wpStill_nil ?_
        go_wp2_with (first | ((with_reducible refine wl_put 32 (.tmp 30) (.tmp 28) ?_ ?_ g (k * 68 + 36) ?_ ?_ AA T PF CC ?_ 66 RD.out hAl hTP OT.out ZT ?_); exact rfl; exact rfl; exact rfl; exact rfl; exact rfl; intro W4 hr4 hb4; rw [hnew] at hr4; have R4 := hid hr4; have B4 := hid (hb4.below BD.out hg); clear hr4 hb4))
        exact ⟨⟨k + 1, by omega, by go_num, R4.out, B4.out⟩, by simp [intOf]; omega⟩
      · have e : k = R.pend.length := by omega
        subst e
        have HE := hid (HF.out _ HS.out)
        rw [provK_end] at HE
        clear HS HF HR HI
        go_wp2
        go_ret
        exact ⟨_, rfl, HE.out, (fun b hb => by cases hb; exact hg), HBr.out⟩
open Go Go.RowKit
set_option maxRecDepth 100000
theorem fill_fold (off : Nat) : ∀ (cs : List Value) (k : Nat) (A old C : List Value), A.length = off + k → old.length = cs.length →
    (cs.zipIdx k).foldl (fun (acc : Array Value) (x : Value × Nat) => acc.setIfInBounds (off + x.2) x.1) (A ++ (old ++ C)).toArray = (A ++ (cs ++ C)).toArray
  | [], k, A, old, C, _, h => by
    have : old = [] := List.eq_nil_of_length_eq_zero (by simpa using h)
    subst this
    rfl
  | c :: cs, k, A, [], C, _, h => by simp at h
  | c :: cs, k, A, o :: old, C, hA, h => by
    have ih := fill_fold off cs (k + 1) (A ++ [c]) old C (by simp [hA]; omega) (by simpa using h)
    rw [List.zipIdx_cons, List.foldl_cons]
    have e : ((A ++ (o :: old ++ C)).toArray).setIfInBounds (off + k) c = ((A ++ [c]) ++ (old ++ C)).toArray := by
      rw [← hA]
      simp
    simp only
    rw [e, ih]
    simp
theorem fill_step (place : Nat → Option (Nat × Nat)) (i off : Nat) (v : Value) (cs A old C : List Value) (rest : List (Nat × Value)) (hp : place i = some (off, cs.length)) (hv : v.cells = cs.toArray) (hA : A.length = off) (hold : old.length = cs.length) :
    Instr.fill place (A ++ (old ++ C)).toArray ((i, v) :: rest) = Instr.fill place (A ++ (cs ++ C)).toArray rest := by
  have hf := fill_fold off cs 0 A old C (by simpa using hA) hold
  conv => lhs; unfold Instr.fill
  rw [hp]
  simp only [hv]
  have hc : (cs.toArray.size ≠ cs.length || off + cs.toArray.size > (A ++ (old ++ C)).toArray.size) = false := by
    subst hA
    simp [hold]
  rw [if_neg (by rw [hc]; simp)]
  congr 1
  rw [← hf]
  simp
def Fits (place : Nat → Option (Nat × Nat)) (segs : List (List Value)) : Prop := ∀ i s, segs[i]? = some s → place i = some ((segs.take i).flatten.length, s.length)
theorem flatten_split (segs : List (List Value)) (i : Nat) (hi : i < segs.length) : segs.flatten = (segs.take i).flatten ++ (segs[i] ++ (segs.drop (i + 1)).flatten) := by
  conv => lhs; rw [← List.take_append_drop i segs]
  rw [List.flatten_append, List.drop_eq_getElem_cons hi, List.flatten_cons]
theorem fits_set {place : Nat → Option (Nat × Nat)} {segs : List (List Value)} (h : Fits place segs) (i : Nat) (hi : i < segs.length) (cs : List Value) (hl : cs.length = (segs[i]).length) : Fits place (segs.set i cs) := by
  have hlen : ∀ j, ((segs.set i cs).take j).flatten.length = (segs.take j).flatten.length := by
    intro j
    simp only [List.length_flatten]
    congr 1
    apply List.ext_getElem?
    intro k
    simp only [List.getElem?_map, List.getElem?_take]
    split
    · rw [List.getElem?_set]
      split
      · rename_i e
        subst e
        simp [hi, hl]
      · rfl
    · rfl
  intro j s hs
  rw [hlen]
  rw [List.getElem?_set] at hs
  split at hs
  · rename_i e
    subst e
    cases hs
    rw [hl]
    exact h i _ (List.getElem?_eq_getElem hi)
  · exact h j s hs
theorem fill_all {place : Nat → Option (Nat × Nat)} : ∀ (parts : List (Nat × List Value × Value)) (segs : List (List Value)), Fits place segs → (∀ x ∈ parts, x.2.2.cells = x.2.1.toArray ∧ ∃ s, segs[x.1]? = some s ∧ x.2.1.length = s.length) →
    Instr.fill place segs.flatten.toArray (parts.map fun x => (x.1, x.2.2)) = some (parts.foldl (fun s x => s.set x.1 x.2.1) segs).flatten.toArray
  | [], segs, _, _ => rfl
  | (i, cs, v) :: parts, segs, hf, hp => by
    obtain ⟨hv, s, hs, hl⟩ := hp (i, cs, v) (by simp)
    obtain ⟨hi, hs'⟩ := List.getElem?_eq_some_iff.1 hs
    simp only at hv hl hs
    subst hs'
    have hset : (segs.set i cs).flatten = (segs.take i).flatten ++ (cs ++ (segs.drop (i + 1)).flatten) := by
      rw [flatten_split (segs.set i cs) i (by simpa using hi)]
      rw [List.take_set_of_le (Nat.le_refl i), List.drop_set_of_lt (by omega), List.getElem_set_self]
    rw [List.map_cons, flatten_split segs i hi]
    simp only
    rw [fill_step place i _ v cs _ _ _ _ (by rw [hl]; exact hf i _ hs) hv rfl hl.symm, ← hset, List.foldl_cons]
    exact fill_all parts (segs.set i cs) (fits_set hf i hi cs hl) (fun x hx => by
      obtain ⟨h1, s', h2, h3⟩ := hp x (by simp [hx])
      refine ⟨h1, ?_⟩
      rw [List.getElem?_set]
      split
      · rename_i e
        subst e
        rw [h2] at hs
        cases hs
        exact ⟨cs, by simp, by rw [h3, hl]⟩
      · exact ⟨s', h2, h3⟩)
theorem run_build_all {P : Program} {W : World} {t : TypeId} {fields : Array Field} {zs : List Value} (pl : List (Nat × Nat)) (hu : P.underlying t = some (.struct fields)) (hz : (P.info? t).map (·.zero) = some (some (.agg zs.toArray)))
    (hp : fields.toList.mapM (fun f => (P.info? f.type).map fun i => (f.offset, i.size)) = some pl) (segs : List (List Value)) (hs : segs.flatten = zs) (hf : Fits (pl.toArray[·]?) segs) (parts : List (Nat × List Value × Value))
    (hx : ∀ x ∈ parts, x.2.2.cells = x.2.1.toArray ∧ ∃ s, segs[x.1]? = some s ∧ x.2.1.length = s.length) (out : List Value) (ho : (parts.foldl (fun s x => s.set x.1 x.2.1) segs).flatten = out) :
    (Instr.build t (parts.map fun x => (x.1, x.2.2)).toArray).run P W = .ok (.agg out.toArray) W := by
  have h := fill_all (place := (pl.toArray[·]?)) parts segs hf hx
  rw [hs, ho] at h
  refine run_build W t _ _ ?_
  cases hq : P.info? t with
  | none => simp [hq] at hz
  | some i =>
    have hz' : i.zero = some (.agg zs.toArray) := by simpa [hq] using hz
    unfold Program.built
    rw [hq, hu]
    simp only [hz', hp]
    exact h
theorem fits_of (segs : List (List Value)) (pl : List (Nat × Nat)) (h : (List.range segs.length).all (fun i => decide (pl[i]? = some ((segs.take i).flatten.length, (segs.getD i []).length))) = true) : Fits (pl.toArray[·]?) segs := by
  intro i s hs
  obtain ⟨hi, rfl⟩ := List.getElem?_eq_some_iff.1 hs
  rw [List.all_eq_true] at h
  have := of_decide_eq_true (h i (List.mem_range.2 hi))
  rw [List.getD_eq_getElem?_getD, List.getElem?_eq_getElem hi] at this
  simpa using this
def repS : List (List Value) := [[nu 0], [nu 0], [st []], dg zeroD, [.slice none 0 0], [nu 0], [st []], dg zeroD, [st []], dg zeroD]
def repPl : List (Nat × Nat) := [(0, 1), (1, 1), (2, 1), (3, 32), (35, 1), (36, 1), (37, 1), (38, 32), (70, 1), (71, 32)]
theorem zeroRepl : (Tryz.prog.info? 45).map (·.zero) = some (some (.agg repS.flatten.toArray)) := by kernel_rfl
theorem build_ans (W : World) (n l : Int) (v c : List UInt8) (hc : c.length = 32) (u : Value) (h1 : u.oneCell' = true) (ps : List Pen) : (Instr.build 45 #[(0, nu n), (1, nu l), (2, st v), (3, .agg (dg c).toArray), (4, u)]).run Tryz.prog W = .ok (.agg (repC ⟨n, l, v, c, ps, 0, [], zeroD, [], zeroD⟩ u).toArray) W := by
  refine run_build_all repPl Tryz.underlying45 zeroRepl (by kernel_rfl) repS rfl (fits_of _ _ (by kernel_rfl)) [(0, [nu n], nu n), (1, [nu l], nu l), (2, [st v], st v), (3, dg c, .agg (dg c).toArray), (4, [u], u)] ?_ _ ?_
  · intro x hx
    simp only [List.mem_cons, List.not_mem_nil, or_false] at hx
    rcases hx with rfl | rfl | rfl | rfl | rfl
    · exact ⟨rfl, _, rfl, rfl⟩
    · exact ⟨rfl, _, rfl, rfl⟩
    · exact ⟨rfl, _, rfl, rfl⟩
    · exact ⟨rfl, _, rfl, by rw [dg_len, hc]; rfl⟩
    · exact ⟨cells_one h1, _, rfl, rfl⟩
  · simp [repS, repC]
def msgS : List (List Value) := [[nu 0], [nu 0], subC zeroS, repC zeroR (.slice none 0 0), [st []], [nu 0], dg zeroD, dg zeroD, bloC zeroB, [.slice none 0 0]]
def msgPl : List (Nat × Nat) := [(0, 1), (1, 1), (2, 68), (70, 103), (173, 1), (174, 1), (175, 32), (207, 32), (239, 35), (274, 1)]
theorem zeroMsgs : (Tryz.prog.info? 76).map (·.zero) = some (some (.agg msgS.flatten.toArray)) := by kernel_rfl
theorem build_subm (W : World) (c : Int) (x : Sub) (hx : x.Wf) : (Instr.build 76 #[(0, nu 1), (1, nu c), (2, .agg (subC x).toArray)]).run Tryz.prog W = .ok (.agg (msgC (subM c x) (.slice none 0 0) (.slice none 0 0)).toArray) W := by
  refine run_build_all msgPl Tryz.underlying76 zeroMsgs (by kernel_rfl) msgS rfl (fits_of _ _ (by kernel_rfl)) [(0, [nu 1], nu 1), (1, [nu c], nu c), (2, subC x, .agg (subC x).toArray)] ?_ _ ?_
  · intro y hy
    simp only [List.mem_cons, List.not_mem_nil, or_false] at hy
    rcases hy with rfl | rfl | rfl
    · exact ⟨rfl, _, rfl, rfl⟩
    · exact ⟨rfl, _, rfl, rfl⟩
    · exact ⟨rfl, _, rfl, by rw [subC_len hx, subC_len wfZeroS]⟩
  · simp [msgS, msgC, subM, zeroM]
theorem build_comm (W : World) (c : Int) (v t : List UInt8) (ht : t.length = 32) : (Instr.build 76 #[(0, nu 3), (1, nu c), (4, st v), (6, .agg (dg t).toArray)]).run Tryz.prog W = .ok (.agg (msgC (comM c v t) (.slice none 0 0) (.slice none 0 0)).toArray) W := by
  refine run_build_all msgPl Tryz.underlying76 zeroMsgs (by kernel_rfl) msgS rfl (fits_of _ _ (by kernel_rfl)) [(0, [nu 3], nu 3), (1, [nu c], nu c), (4, [st v], st v), (6, dg t, .agg (dg t).toArray)] ?_ _ ?_
  · intro y hy
    simp only [List.mem_cons, List.not_mem_nil, or_false] at hy
    rcases hy with rfl | rfl | rfl | rfl
    · exact ⟨rfl, _, rfl, rfl⟩
    · exact ⟨rfl, _, rfl, rfl⟩
    · exact ⟨rfl, _, rfl, rfl⟩
    · exact ⟨rfl, _, rfl, by rw [dg_len, dg_len, ht]; rfl⟩
  · simp [msgS, msgC, comM, zeroM]
def penS : List (List Value) := [[nu 0], [nu 0], [nu 0], [nu 0], dg zeroD, dg zeroD]
def penPl : List (Nat × Nat) := [(0, 1), (1, 1), (2, 1), (3, 1), (4, 32), (36, 32)]
theorem zeroPens : (Tryz.prog.info? 66).map (·.zero) = some (some (.agg penS.flatten.toArray)) := by kernel_rfl
theorem build_pen (W : World) (c : Int) (x : Sub) (hx : x.Wf) : (Instr.build 66 #[(0, nu c), (1, nu x.number), (2, nu x.kind), (3, nu x.target), (4, .agg (dg x.asked).toArray)]).run Tryz.prog W = .ok (.agg (penC (penOf c x)).toArray) W := by
  refine run_build_all penPl Tryz.underlying66 zeroPens (by kernel_rfl) penS rfl (fits_of _ _ (by kernel_rfl)) [(0, [nu c], nu c), (1, [nu x.number], nu x.number), (2, [nu x.kind], nu x.kind), (3, [nu x.target], nu x.target), (4, dg x.asked, .agg (dg x.asked).toArray)] ?_ _ ?_
  · intro y hy
    simp only [List.mem_cons, List.not_mem_nil, or_false] at hy
    rcases hy with rfl | rfl | rfl | rfl | rfl
    · exact ⟨rfl, _, rfl, rfl⟩
    · exact ⟨rfl, _, rfl, rfl⟩
    · exact ⟨rfl, _, rfl, rfl⟩
    · exact ⟨rfl, _, rfl, rfl⟩
    · exact ⟨rfl, _, rfl, by rw [dg_len, dg_len, hx.asked]; rfl⟩
  · simp [penS, penC, penOf]
def donS : List (List Value) := [[st []], dg zeroD]
def donPl : List (Nat × Nat) := [(0, 1), (1, 32)]
theorem zeroDons : (Tryz.prog.info? 58).map (·.zero) = some (some (.agg donS.flatten.toArray)) := by kernel_rfl
theorem build_don (W : World) (v t : List UInt8) (ht : t.length = 32) : (Instr.build 58 #[(0, st v), (1, .agg (dg t).toArray)]).run Tryz.prog W = .ok (.agg (donC v t).toArray) W := by
  refine run_build_all donPl Tryz.underlying58 zeroDons (by kernel_rfl) donS rfl (fits_of _ _ (by kernel_rfl)) [(0, [st v], st v), (1, dg t, .agg (dg t).toArray)] ?_ _ ?_
  · intro y hy
    simp only [List.mem_cons, List.not_mem_nil, or_false] at hy
    rcases hy with rfl | rfl
    · exact ⟨rfl, _, rfl, rfl⟩
    · exact ⟨rfl, _, rfl, by rw [dg_len, dg_len, ht]; rfl⟩
  · simp [donS, donC]
end Go.Proofs.YtoneoocihfjfgaaGreatDoor.Ms
