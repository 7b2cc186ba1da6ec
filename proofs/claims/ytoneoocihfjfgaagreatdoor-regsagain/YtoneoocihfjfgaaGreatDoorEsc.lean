/-
  A submit that is taken (Submit).
-/
import Derived.Test.YtoneoocihfjfgaaGreatDoorG17
namespace Go.Proofs.YtoneoocihfjfgaaGreatDoor.Ms
open Go Go.RowKit
set_option maxRecDepth 100000
def subA (R : Rs) (c : Int) (x : Sub) : Rs := { R with regs := R.regs.set c.toNat { R.reg c with asked := x, ans := ansR R x } }
theorem subA_inv {R : Rs} (h : RInv R) {c : Int} {x : Sub} (hx : x.Wf) (hok : subOk R c x = true) (hf : fullB R = false) : RInv (subA R c x) := by
  have h1 := h.subN hx hok hf
  exact ⟨h.n, h1.len, h1.regs, h.long, h.ltag, h.who, h.plen, h.pend⟩
theorem mem_own {u : Value} {b : Nat} : b ∈ u.ownBlock.toList ↔ u.ownBlock = some b := by
  cases u.ownBlock <;> simp [eq_comm]
theorem fa_34_1 (g off : Nat) (W : World) : (Instr.fieldAt 34 (.pointer (some ⟨g, off, none⟩)) 1).run Tryz.prog W = .ok (.pointer (some ⟨g, off + 1, none⟩)) W := by kernel_rfl
theorem fa_34_2 (g off : Nat) (W : World) : (Instr.fieldAt 34 (.pointer (some ⟨g, off, none⟩)) 2).run Tryz.prog W = .ok (.pointer (some ⟨g, off + 2, none⟩)) W := by kernel_rfl
theorem fa_34_4 (g off : Nat) (W : World) : (Instr.fieldAt 34 (.pointer (some ⟨g, off, none⟩)) 4).run Tryz.prog W = .ok (.pointer (some ⟨g, off + 4, none⟩)) W := by kernel_rfl
theorem fa_73_4 (g off : Nat) (W : World) : (Instr.fieldAt 63 (.pointer (some ⟨g, off, none⟩)) 4).run Tryz.prog W = .ok (.pointer (some ⟨g, off + 1667, none⟩)) W := by kernel_rfl
theorem ra_subA {w w' : World} {p : Nat} {q rs : List Nat} {R : Rs} {vs : List Value} {vP : Value} (h : RA w p q rs R vs vP) {k : Nat} (hk : k < 8) {x : Sub} (hi : RInv (subA R (k : Int) x)) {u : Value} (hu : OwnP w u (provenL R)) (hub : ∀ b, u.ownBlock = some b → b ∉ p :: (q ++ rs))
    (hr : w'.heap[p]? = some (.cells (preC R vs k ++ (regC { R.reg (k : Int) with asked := x, ans := ansR R x } u ++ posC R vs vP k)).toArray 63)) (hK : Kp [p] w w') : RA w' p q (rs ++ u.ownBlock.toList) (subA R (k : Int) x) (vs.set k u) vP := by
  have hl := h.inv.len
  have hv := h.vlen
  have hup : ∀ b ∈ u.ownBlock.toList, b ∉ p :: (q ++ rs) := fun b hb => hub b (mem_own.1 hb)
  have hne := h.ne
  refine ⟨hi, by simpa using hv, ?_, fun i hi' => ?_, fun i hi' b hb => ?_, ?_, h.blk, ⟨hne.1, ?_, ?_⟩, ?_⟩
  · rw [row_set_reg h.inv hv vP hk { R.reg (k : Int) with asked := x, ans := ansR R x } u (R' := subA R (k : Int) x) rfl rfl rfl]
    exact hr
  · show OwnP w' _ (((R.regs.set (k : Int).toNat { R.reg (k : Int) with asked := x, ans := ansR R x })).getD i zeroG).ans.pend
    by_cases e : i = k
    · subst e
      rw [getD_set_same _ _ _ _ (by omega), show ((i : Int).toNat) = i from rfl, getD_set_same _ _ _ _ (by omega)]
      simp only [ansR_pend]
      exact hu.kp hK (fun b hb hx => hub b hb (by simp at hx; simp [hx]))
    · rw [getD_set_other _ _ _ _ _ e, show ((k : Int).toNat) = k from rfl, getD_set_other _ _ _ _ _ e]
      exact (h.reps i hi').kp hK (fun b hb hx => hne.2.1 (by simp at hx; rw [← hx]; exact h.rblk i hi' b hb))
  · by_cases e : i = k
    · subst e
      rw [getD_set_same _ _ _ _ (by omega)] at hb
      simp [hb]
    · rw [getD_set_other _ _ _ _ _ e] at hb
      simp [h.rblk i hi' b hb]
  · exact h.own.kp hK (fun b hb hx => hne.1 (by simp at hx; rw [← hx]; exact h.blk b hb))
  · intro hx
    rcases List.mem_append.1 hx with e | e
    · exact hne.2.1 e
    · exact hup p e (by simp)
  · intro b hb hx
    rcases List.mem_append.1 hx with e | e
    · exact hne.2.2 b hb e
    · exact hup b e (by simp [hb])
  · intro b hb
    refine Nat.lt_of_lt_of_le ?_ hK.size
    rcases List.mem_append.1 hb with e | e
    · exact h.lt b (by simp [e])
    · rcases List.mem_append.1 e with e | e
      · exact h.lt b (by simp [e])
      · exact hu.lt b (mem_own.1 e)
theorem ra_subN {w w' : World} {p : Nat} {q rs : List Nat} {R : Rs} {vs : List Value} {vP v' : Value} {c : Int} {x : Sub} (h : RA w p q rs (subA R c x) vs vP) (hi : RInv (subN R c x)) {W : World} (hK : Kp q w W) (ho : OwnP W v' (R.pend ++ [penOf c x])) (hb : ∀ b, v'.ownBlock = some b → b ∈ q ∨ w.heap.size ≤ b)
    (hr : w'.heap[p]? = some (.cells (rowR (subA R c x) vs v').toArray 63)) (hK2 : Kp [p] W w') : RA w' p (q ++ v'.ownBlock.toList) rs (subN R c x) vs v' := by
  have hne := h.ne
  have hpl := row_ltA h.row
  have hvb : ∀ b ∈ v'.ownBlock.toList, b ∉ q → w.heap.size ≤ b := fun b hb' hq => (hb b (mem_own.1 hb')).resolve_left hq
  have hrl : ∀ b ∈ rs, b < w.heap.size := fun b hb => h.lt b (by simp [hb])
  refine ⟨hi, h.vlen, hr, fun i hi' => ?_, h.rblk, ?_, fun b hb' => by simp [hb'], ⟨?_, hne.2.1, ?_⟩, ?_⟩
  · refine ((h.reps i hi').kp hK (fun b hb' hx => hne.2.2 b hx (h.rblk i hi' b hb'))).kp hK2 (fun b hb' hx => hne.2.1 (by simp at hx; rw [← hx]; exact h.rblk i hi' b hb'))
  · refine ho.kp hK2 (fun b hb' hx => ?_)
    have e : b = p := by simpa using hx
    rcases hb b hb' with e2 | e2
    · exact hne.1 (by rw [← e]; exact e2)
    · omega
  · intro hx
    rcases List.mem_append.1 hx with e | e
    · exact hne.1 e
    · have := hvb p e hne.1
      omega
  · intro b hb' hx
    rcases List.mem_append.1 hb' with e | e
    · exact hne.2.2 b e hx
    · by_cases hq : b ∈ q
      · exact hne.2.2 b hq hx
      · have h1 := hvb b e hq
        have h2 := hrl b hx
        omega
  · intro b hb'
    refine Nat.lt_of_lt_of_le ?_ hK2.size
    rcases List.mem_append.1 hb' with e | e
    · rcases List.mem_append.1 e with e | e
      · exact Nat.lt_of_lt_of_le (h.lt b (by simp [e])) hK.size
      · exact ho.lt b (mem_own.1 e)
    · exact Nat.lt_of_lt_of_le (hrl b e) hK.size
def vU15 (c : Int) (x : Sub) (L : Nat → Bool) (v : Value) (w : World) : Prop := L 16 = true ∨ ∃ g, v = .slice (some ⟨g, 0, none⟩) 1 1 ∧ w.heap[g]? = some (.cells (penC (penOf c x)).toArray 66)
def vU16 (R : Rs) (c : Int) (x : Sub) (q : List Nat) (B : Nat) (v : Value) (w : World) : Prop := OwnP w v (R.pend ++ [penOf c x]) ∧ ∀ b, v.ownBlock = some b → b ∈ q ∨ B ≤ b
def vSub (R : Rs) (c : Int) (x : Sub) (q : List Nat) (B : Nat) (L : Nat → Bool) (i : Nat) (v : Value) (w : World) : Prop := if i = 15 then vU15 c x L v w else vU16 R c x q B v w
section
variable {R : Rs} {c : Int} {x : Sub} {q : List Nat} {B : Nat} {L : Nat → Bool} {v : Value} {w : World}
theorem vSub15 : vSub R c x q B L 15 v w ↔ vU15 c x L v w := by unfold vSub; rw [if_pos rfl]
theorem vSub16 : vSub R c x q B L 16 v w ↔ vU16 R c x q B v w := by unfold vSub; rw [if_neg (by decide)]
end
theorem op_appE {P : Program} {o : Oper} {a : Act} {w : World} {Q : Exit → Act → World → Prop} {K : Act → World → Prop} (s x : Tmp) (ts : Array TypeId)
    (ho : o.op = .call { callee := .builtin .append, args := #[.tmp s, .tmp x], argTypes := ts }) (v u : Value) (hs : a.tmps.getD s undef = v) (hx : a.tmps.getD x undef = u) (v' : Value) (w' : World) (hr : (Builtin.append_ ts o.type #[v, u]).run P w = .ok v' w') (h : K (a.put o.dst v') w') : o.wp P a w K Q := by
  have e1 : a.eval (.tmp s) = v := hs
  have e2 : a.eval (.tmp x) = u := hx
  unfold Oper.wp execOp
  simp only [ho, resolve, invoke, builtin, Sem.run_bind, Sem.run_pure, Result.andThen_ok, List.map_toArray, List.map_cons, List.map_nil, e1, e2, hr]
  exact h
theorem op_buildL {P : Program} {o : Oper} {a : Act} {w : World} {Q : Exit → Act → World → Prop} {K : Act → World → Prop} (ty : TypeId) (l : List (Nat × Operand)) (ho : o.op = .build ty l.toArray) (z : Value) (hr : (Instr.build ty (l.map fun x => (x.1, a.eval x.2)).toArray).run P w = .ok z w) (h : K (a.put o.dst z) w) : o.wp P a w K Q := by
  unfold Oper.wp execOp
  simp only [ho, List.map_toArray, Sem.run_bind, hr, Result.andThen_ok, Sem.run_pure]
  exact h
theorem pc_one {w : World} {g : Nat} {p : Pen} (hp : p.Wf) (h : w.heap[g]? = some (.cells (penC p).toArray 66)) : Pc w 68 (.slice (some ⟨g, 0, none⟩) 1 1) [p].length (flatQ [p]) := by
  refine ⟨by rw [flat_one, penC_len hp]; rfl, _, _, rfl, fun _ => ⟨_, rfl, fun j u hj => ?_⟩⟩
  rw [flat_one] at hj
  rw [add_none]
  exact row_seg (off := 0) (A := []) (cs := penC p) (C := []) h (by simp) rfl j u hj
set_option maxHeartbeats 8000000 in
theorem submit_g {w : World} {p : Nat} {q rs : List Nat} {R : Rs} {vs : List Value} {vP : Value} (h : RA w p q rs R vs vP) {k : Nat} (hk : k < 8) {x : Sub} (hx : x.Wf) (hr : (subM (k : Int) x).Rng) (ht : Tb w) (hok : subOk R (k : Int) x = true) (hn : x.number ≠ (R.reg (k : Int)).asked.number) (hn2 : x.number = (R.reg (k : Int)).asked.number + 1) (hf : fullB R = false) :
    Calls Tryz.prog 13 #[.pointer (some ⟨p, 0, none⟩), nu (k : Int), .agg (subC x).toArray] w (SubPost w p q rs R (k : Int) x) := by
  obtain ⟨h1, h2, h3⟩ := subOk_all hok
  have B1 := hid (below_a1 w (.cells (subC x).toArray 34))
  have B2 := hid (below_two B1.out (below_a1 (w.alloc (.cells (subC x).toArray 34)) (.cells (repC zeroR (.slice none 0 0)).toArray 45)))
  have T2 := hid (row_kept (top_obj w (.cells (subC x).toArray 34)) (below_a1 (w.alloc (.cells (subC x).toArray 34)) (.cells (repC zeroR (.slice none 0 0)).toArray 45)))
  have U2 := hid (top_obj (w.alloc (.cells (subC x).toArray 34)) (.cells (repC zeroR (.slice none 0 0)).toArray 45))
  have e1 : (w.alloc (.cells (subC x).toArray 34)).heap.size = w.heap.size + 1 := by simp
  rw [e1] at U2
  have H2 := hid (h.kept B2.out)
  have HM := hid (made_any H2.out)
  have HH := hid (has_any H2.out (k : Int))
  have ZR := zeroRep
  have IZ : (Tryz.prog.info? 45).map (·.size) = some (repC zeroR (.slice none 0 0)).length := by rw [repC_len wfZeroR]; exact sizeRep
  have OZ := hid (one_rep zeroR (.slice none 0 0) rfl)
  have HBd := hid build_rep
  have ZS : (Tryz.prog.info? 34).map (·.size) = some (subC x).length := by rw [subC_len hx]; exact sizeSub
  have HEnd : Hid (∀ w' q' rs' vs' vP' v', RA w' p q' rs' (subN R (k : Int) x) vs' vP' → OwnP w' v' (ansR R x).pend → (∀ b, v'.ownBlock = some b → w.heap.size ≤ b ∧ b ∉ p :: (q' ++ rs')) → Kp (p :: q) w w' → (∀ b ∈ q' ++ rs', b ∈ q ++ rs ∨ w.heap.size ≤ b) → SubPost w p q rs R (k : Int) x (.returned (.tuple #[.agg (repC (ansR R x) v').toArray, nu 0])) w') := fun w' q' rs' vs' vP' v' a1 a2 a3 a4 a5 => by
    have hc := subE_ok hok hn hn2 hf
    have h4 : subY R (k : Int) x = ansR R x := by unfold subY; rw [if_neg (by rw [hc]; simp), if_neg hn]
    have h5 : subR R (k : Int) x = subN R (k : Int) x := by unfold subR; rw [if_neg (by rw [hc]; simp), if_neg hn]
    unfold SubPost
    rw [h4, h5, hc]
    exact ⟨v', q', rs', vs', vP', rfl, a1, a2, a3, a4, a5⟩
  have lZ : Hid ((repC zeroR (.slice none 0 0)).length = 103) := repC_len wfZeroR _
  obtain ⟨AN, HAN⟩ : ∃ AN, Hid (AN = (R.reg (k : Int)).asked.number) := ⟨_, rfl⟩
  have hnn : 0 ≤ AN ∧ AN ≤ 512 := by rw [HAN.out]; exact (h.inv.reg (k : Int)).num
  have hd : (x.number == AN) = false := by rw [HAN.out]; exact beq_false_of_ne hn
  have hd2 : (x.number != AN + 1) = false := by rw [HAN.out, hn2]; exact bne_self_eq_false _
  have HFu : Hid (∀ W, RA W p q rs R vs vP → Calls Tryz.prog 27 #[.pointer (some ⟨p, 0, none⟩)] W fun e w' => e = .returned (.bool false) ∧ Below W.heap.size W w') := fun W hW => by have := full_any hW; rwa [hf] at this
  rw [h1] at HH
  have HT := hid (has_any H2.out x.target)
  rw [h2] at HT
  have cx : ((w.alloc (.cells (subC x).toArray 34)).alloc (.cells (repC zeroR (.slice none 0 0)).toArray 45)).cell? ⟨w.heap.size, 2, none⟩ = some (nu x.target) := row_seg (off := 0) (A := []) (cs := subC x) (C := []) T2.out (by simp) rfl 2 _ rfl
  have SX := hid (row_seg (off := 0) (A := []) (cs := subC x) (C := []) T2.out (by simp) rfl)
  have HBm := hid (fun W => build_subm W (k : Int) x hx)
  have HMy := hid (rmay_any (vP := .slice none 0 0) (vN := .slice none 0 0) (sub_wf (c := (k : Int)) hx) hr (PensAt.nil ((w.alloc (.cells (subC x).toArray 34)).alloc (.cells (repC zeroR (.slice none 0 0)).toArray 45))) (IntsAt.nil _) ⟨Nat.zero_le _, Nat.zero_le _⟩ (by show (1 : Int) ≠ 2; decide) (ht.stays B2.out))
  rw [h3] at HMy
  have FX0 : Hid (∀ W : World, (∀ j v, (subC x)[j]? = some v → W.cell? ⟨w.heap.size, 0 + j, none⟩ = some v) → W.cell? ⟨w.heap.size, 0, none⟩ = some (nu x.number)) := fun W hs => hs 0 _ rfl
  have SX2 := hid T2.out
  have HV : Hid (subC x = [nu x.number, nu x.kind, nu x.target] ++ ([st x.value] ++ (dg x.asked ++ dg x.data))) := by show _ = _; simp [subC]
  have FXs : Hid (∀ W : World, (∀ j v, (subC x)[j]? = some v → W.cell? ⟨w.heap.size, 0 + j, none⟩ = some v) → W.cell? ⟨w.heap.size, 3, none⟩ = some (st x.value)) := fun W hs => hs 3 _ rfl
  have hval := (subOk_parts hok).2.2.2.2
  have htk : x.kind = 2 → 0 ≤ x.target ∧ x.target < 8 := fun _ => by have := (subOk_parts hok).2.1; have := h.inv.n; omega
  have HAns := hid (fun (W : World) (hW : RA W p q rs R vs vP) => answer_any hW htk)
  have HCl := hid (fun W => Hist.clone_any x.value (by omega) W)
  have HIa := hid (subA_inv h.inv (c := (k : Int)) hx hok hf)
  have HIn := hid (h.inv.subN (c := (k : Int)) hx hok hf)
  have hAw := hid (ansR_wf h.inv x)
  have hGo : GOk (R.regs.getD k zeroG) := h.inv.reg (k : Int)
  have hPw : (penOf (k : Int) x).Wf := ⟨hx.asked, rfl⟩
  have OV := hid (one_sub x)
  have LV : Hid ((subC x).length = 68) := subC_len hx
  have hlt := h.lt
  have hplt := row_ltA h.row
  have hplen := h.inv.plen
  have HKg : Hid (∀ W W', Kp (p :: q) w W → Kp [w.heap.size + 1] W W' → Kp (p :: q) w W') := fun W W' h1 h2 => h1.then h2 (fun b hb => Or.inr (by simp at hb; omega))
  have HXB : Hid (∀ W, Below w.heap.size w W → Kp (p :: q) w W) := fun W h => Kp.of h
  clear h hr ht h1 h2 h3 hok T2 hn hn2 hf htk
  generalize msgC (subM (k : Int) x) (.slice none 0 0) (.slice none 0 0) = MV at *
  show Calls _ _ _ _ (fun e w' => SubPost w p q rs R (k : Int) x e w')
  generalize repC zeroR (.slice none 0 0) = Z at *
  generalize subC x = V at *
  have hgs : w.heap.size < w.heap.size + 1 := Nat.lt_succ_self _
  go_enter Tryz.func13, Tryz.ntmps13
  go_upto_region 1 with (first | ((with_reducible refine wl_alloc 45 ?_ ?_ Z.toArray ZR ?_); exact rfl; exact rfl))
  generalize w.alloc (.cells V.toArray 34) = W1 at *
  generalize W1.alloc (.cells Z.toArray 45) = W2 at *
  try simp only [Act.put, List.setIfInBounds_toArray, List.set_cons_zero, List.set_cons_succ, e1]
  clear e1
  generalize w.heap.size + 1 = gA at *
  have hB2 : w.heap.size ≤ W2.heap.size := B2.out.size
  generalize w.heap.size = X at *
  go_wp2_with fail
  refine HM.out.mono ?_
  rintro e w1 ⟨rfl, hw1⟩
  subst w1
  go_wp2_with fail
  refine HH.out.mono ?_
  rintro e w1 ⟨rfl, hw1⟩
  subst w1
  go_wp2_with fail
  refine HT.out.mono ?_
  rintro e w1 ⟨rfl, hw1⟩
  subst w1
  go_wp2_with (first
    | ((with_reducible refine wl_load 34 (.tmp 5) ?_ X 0 ?_ ?_ V _ SX.out Tryz.underlying34 ?_ ZS ?_); exact rfl; exact rfl; exact rfl; exact rfl)
    | ((with_reducible refine wl_buildL 76 [(0, .const (nu 1)), (1, .tmp 25), (2, .tmp 26)] ?_ ?_ MV.toArray ?_ ?_); exact rfl; exact rfl; exact (HBm.out _)))
  refine HMy.out.mono ?_
  rintro e W3 ⟨rfl, hb3⟩
  have B3 := hid (below_two' B2.out hb3)
  have U3 := hid (row_kept U2.out hb3)
  have H3 := hid (H2.out.kept hb3)
  have SX3 := hid (row_seg' SX2.out hb3)
  have T3 := hid (row_kept SX2.out hb3)
  have hs23 : W2.heap.size ≤ W3.heap.size := hb3.size
  clear hb3 SX SX2 H2 HM HH HT HMy HBm cx U2 B2
  have hx0 : W3.cell? ⟨X, 0, none⟩ = some (nu x.number) := FX0.out _ SX3.out
  have cn3 : W3.cell? ⟨p, 1 + k * 204, none⟩ = some (nu AN) := by rw [HAN.out]; exact H3.out.anum hk
  have hs3 : X ≤ W3.heap.size := Nat.le_trans hB2 hs23
  go_wp2_with fail
  go_quiet (fail)
  have H4 : Hid (RA (W3.drewN nq) p q rs R vs vP) := H3.out.kept (below_dn (Below.refl _ _) nq)
  have T4 : Hid ((W3.drewN nq).heap[X]? = some (.cells V.toArray 34)) := T3.out
  have S4 : Hid (∀ j v, V[j]? = some v → (W3.drewN nq).cell? ⟨X, 0 + j, none⟩ = some v) := SX3.out
  have U4 : Hid ((W3.drewN nq).heap[gA]? = some (.cells Z.toArray 45)) := U3.out
  have B4 : Hid (Below X w (W3.drewN nq)) := below_dn B3.out nq
  have hx4 : (W3.drewN nq).cell? ⟨X, 0, none⟩ = some (nu x.number) := hx0
  have hs4 : X ≤ (W3.drewN nq).heap.size := hs3
  have cn4 : (W3.drewN nq).cell? ⟨p, 1 + k * 204, none⟩ = some (nu AN) := cn3
  clear T3 H3 SX3 U3 B3 hs3 hx0 cn3
  generalize W3.drewN nq = W4 at *
  clear nq
  go_wp2_with fail
  go_quiet (fail)
  have H5 : Hid (RA (W4.drewN nq) p q rs R vs vP) := H4.out.kept (below_dn (Below.refl _ _) nq)
  have T5 : Hid ((W4.drewN nq).heap[X]? = some (.cells V.toArray 34)) := T4.out
  have S5 : Hid (∀ j v, V[j]? = some v → (W4.drewN nq).cell? ⟨X, 0 + j, none⟩ = some v) := S4.out
  have U5 : Hid ((W4.drewN nq).heap[gA]? = some (.cells Z.toArray 45)) := U4.out
  have B5 : Hid (Below X w (W4.drewN nq)) := below_dn B4.out nq
  have hs5 : X ≤ (W4.drewN nq).heap.size := hs4
  clear T4 H4 S4 U4 B4 hs4 hx4 cn4
  generalize W4.drewN nq = W5 at *
  go_wp2_with fail
  refine (HFu.out _ H5.out).mono ?_
  rintro e W6 ⟨rfl, hb6⟩
  have B6 := hid (below_two' B5.out hb6)
  have U6 := hid (row_kept U5.out hb6)
  have T6 := hid (row_kept T5.out hb6)
  have H6 := hid (H5.out.kept hb6)
  have hs6 : X ≤ W6.heap.size := Nat.le_trans hs5 hb6.size
  have hx6 : W6.cell? ⟨X, 3, none⟩ = some (st x.value) := FXs.out _ (row_seg (off := 0) (A := []) (cs := V) (C := []) T6.out (by simp) rfl)
  clear hb6 U5 B5 T5 S5 H5 hs5 HFu FX0
  go_wp2_with fail
  refine (HCl.out _).mono ?_
  rintro e W7 ⟨rfl, hb7⟩
  have B7 := hid (below_two' B6.out hb7)
  have U7 := hid (row_kept U6.out hb7)
  have T7 : Hid (W7.heap[X]? = some (.cells ([nu x.number, nu x.kind, nu x.target] ++ ([st x.value] ++ (dg x.asked ++ dg x.data))).toArray 34)) := by have h0 := row_kept T6.out hb7; rw [HV.out] at h0; exact h0
  have H7 := hid (H6.out.kept hb7)
  have hs7 : X ≤ W7.heap.size := Nat.le_trans hs6 hb7.size
  clear hb7 U6 B6 T6 H6 hs6 hx6 FXs HCl
  have i9 : (Tryz.prog.info? 9).map (·.size) = some 1 := by kernel_rfl
  go_upto_region 13 with (first
    | ((with_reducible refine wl_put1 9 (.tmp 66) (.tmp 65) ?_ ?_ X 3 ?_ ?_ [nu x.number, nu x.kind, nu x.target] (dg x.asked ++ dg x.data) (st x.value) (st x.value) ?_ 34 T7.out rfl rfl i9 ?_); exact rfl; exact rfl; exact rfl; exact rfl; exact rfl; intro W8 hr8 hb8))
  have T8 : Hid (W8.heap[X]? = some (.cells V.toArray 34)) := by show _ = _; rw [HV.out]; exact hr8
  have K8 : Hid (Kp [X] W7 W8) := (Kp.refl _ _).but hb8 (Or.inl (by simp))
  have hXl : X < W7.heap.size := row_ltA T7.out
  have H8 := hid (H7.out.kp K8.out (fun b hb hxx => by
    have e : b = X := by simpa using hxx
    rcases List.mem_cons.1 hb with e2 | e2
    · omega
    · have := hlt b e2
      omega))
  have U8 := hid (K8.out.row U7.out (by simp; omega))
  have B8 : Hid (Below X w W8) := B7.out.trans (K8.out.below (by simp) hs7)
  have S8 := hid (row_seg (off := 0) (A := []) (cs := V) (C := []) T8.out (by simp) rfl)
  have hs8 : X ≤ W8.heap.size := by have := row_ltA T8.out; omega
  clear hr8 hb8 K8 T7 H7 U7 B7 hs7 hXl
  have HA8 := hid (HAns.out W8 H8.out)
  go_wp2_with (first
    | ((with_reducible refine wl_load 34 (.tmp 5) ?_ X 0 ?_ ?_ V _ S8.out Tryz.underlying34 ?_ ZS ?_); exact rfl; exact rfl; exact rfl; exact rfl))
  refine HA8.out.mono ?_
  rintro e W9 ⟨u, rfl, ho9, hv9, hb9⟩
  have B9 := hid (below_two' B8.out hb9)
  have U9 := hid (row_kept U8.out hb9)
  have T9 := hid (row_kept T8.out hb9)
  have H9 := hid (H8.out.kept hb9)
  have HU := hid ho9
  have HUB : Hid (∀ b, u.ownBlock = some b → W8.heap.size ≤ b) := hv9
  have hs9 : W8.heap.size ≤ W9.heap.size := hb9.size
  have hgA8 : gA < W8.heap.size := row_ltA U8.out
  clear hb9 ho9 hv9 HA8 HAns U8 B8 S8 H8 T8
  obtain ⟨er, epl⟩ := row_split H9.out.inv H9.out.vlen vP hk
  have hrow9 := H9.out.row
  rw [er] at hrow9
  have hGr : R.reg (k : Int) = R.regs.getD k zeroG := rfl
  generalize hG : R.regs.getD k zeroG = G at *
  have R9 : Hid (W9.heap[p]? = some (.cells ((preC R vs k ++ subC G.asked) ++ (repC G.ans (vs.getD k undef) ++ (([st G.view] ++ dg G.tag) ++ posC R vs vP k))).toArray 63)) := by show _ = _; simpa only [regC, List.append_assoc] using hrow9
  have lA9 : (preC R vs k ++ subC G.asked).length = 1 + k * 204 + 68 := by rw [List.length_append, epl, subC_len hGo.asked]
  have IY : (Tryz.prog.info? 45).map (·.size) = some (repC (ansR R x) u).length := by rw [repC_len hAw.out]; exact sizeRep
  have lY : (repC G.ans (vs.getD k undef)).length = (repC (ansR R x) u).length := by rw [repC_len hAw.out, repC_len hGo.ans]
  have lYZ : Z.length = (repC (ansR R x) u).length := by rw [lZ.out, repC_len hAw.out]
  have OY := hid (one_rep (ansR R x) u HU.out.one)
  clear hrow9 er
  go_upto_region 14 with (first
    | ((with_reducible refine wl_put 45 (.tmp 72) (.tmp 70) ?_ ?_ p (1 + k * 204 + 68) ?_ ?_ (preC R vs k ++ subC G.asked) (repC (ansR R x) u) (repC G.ans (vs.getD k undef)) (([st G.view] ++ dg G.tag) ++ posC R vs vP k) ?_ 63 R9.out lA9 lY OY.out IY ?_); exact rfl; exact rfl; exact rfl; exact rfl; exact rfl; intro Wa hra hba))
  have Ra : Hid (Wa.heap[p]? = some (.cells (preC R vs k ++ (subC G.asked ++ (repC (ansR R x) u ++ (([st G.view] ++ dg G.tag) ++ posC R vs vP k)))).toArray 63)) := by show _ = _; simpa only [List.append_assoc] using hra
  have Ka : Hid (Kp [p] W9 Wa) := (Kp.refl _ _).but hba (Or.inl (by simp))
  have hXp : X ≠ p := by omega
  have Ta := hid (Ka.out.row T9.out (by simpa using hXp))
  have Sa := hid (row_seg (off := 0) (A := []) (cs := V) (C := []) Ta.out (by simp) rfl)
  have lS : (subC G.asked).length = V.length := by rw [subC_len hGo.asked, LV.out]
  clear hra hba R9 lA9
  go_upto_region 15 with (first
    | ((with_reducible refine wl_load 34 (.tmp 5) ?_ X 0 ?_ ?_ V _ Sa.out Tryz.underlying34 ?_ ZS ?_); exact rfl; exact rfl; exact rfl; exact rfl)
    | ((with_reducible refine wl_put 34 (.tmp 76) (.tmp 74) ?_ ?_ p (1 + k * 204) ?_ ?_ (preC R vs k) V (subC G.asked) (repC (ansR R x) u ++ (([st G.view] ++ dg G.tag) ++ posC R vs vP k)) ?_ 63 Ra.out epl lS OV.out ZS ?_); exact rfl; exact rfl; exact rfl; exact rfl; exact rfl; intro Wb hrb hbb))
  have Kb : Hid (Kp [p] W9 Wb) := Ka.out.but hbb (Or.inl (by simp))
  have Hb : Hid (RA Wb p q (rs ++ u.ownBlock.toList) (subA R (k : Int) x) (vs.set k u) vP) := by
    refine ra_subA H9.out hk HIa.out HU.out (fun b hb hxx => ?_) ?_ Kb.out
    · have h5 := HUB.out b hb
      rcases List.mem_cons.1 hxx with e | e
      · omega
      · have := hlt b e
        omega
    · rw [hGr]
      have h0 := hrb
      rw [HV.out] at h0
      simpa only [regC, subC, List.append_assoc, List.cons_append, List.nil_append] using h0
  have Tb' := hid (Kb.out.row T9.out (by simpa using hXp))
  have Ub := hid (Kb.out.row U9.out (by simp; omega))
  have hsb : W9.heap.size ≤ Wb.heap.size := Kb.out.size
  have KW : Hid (Kp (p :: q) w Wb) := (HXB.out _ B9.out).then Kb.out (by simp)
  clear hrb hbb Ka Kb Ra Ta Sa
  have HOo : Hid (∀ W q' rs' R' vs' vP', RA W p q' rs' R' vs' vP' → Calls Tryz.prog 30 #[.pointer (some ⟨p, 1 + k * 204, none⟩)] W fun e w' => ∃ v', e = .returned (.agg (repC (R'.regs.getD k zeroG).ans v').toArray) ∧ OwnP w' v' (R'.regs.getD k zeroG).ans.pend ∧ (∀ b, v'.ownBlock = some b → W.heap.size ≤ b) ∧ Below W.heap.size W w') := fun W q' rs' R' vs' vP' hW => told_any hW hk
  have HbX : Hid (∀ b ∈ p :: (q ++ (rs ++ u.ownBlock.toList)), b ∉ ([] : List Nat)) := fun b _ => by simp
  generalize 1 + k * 204 = oo at *
  have ZA : (Tryz.prog.info? 32).map (·.size) = some (dg x.asked).length := by rw [dg_len, hx.asked]; exact sizeDig
  have hql : ∀ b ∈ q, b < X := fun b hb => hlt b (by simp [hb])
  have FXb : Hid (∀ W, Kp q Wb W → W.cell? ⟨X, 0, none⟩ = some (nu x.number) ∧ W.cell? ⟨X, 1, none⟩ = some (nu x.kind) ∧ W.cell? ⟨X, 2, none⟩ = some (nu x.target) ∧ ∀ j v, (dg x.asked)[j]? = some v → W.cell? ⟨X, 4 + j, none⟩ = some v) := fun W hW => by
    have h0 := hW.row Tb'.out (fun hxx => by have := hql X hxx; omega)
    rw [HV.out] at h0
    have hs := row_seg (off := 0) (A := []) (cs := [nu x.number, nu x.kind, nu x.target] ++ ([st x.value] ++ (dg x.asked ++ dg x.data))) (C := []) h0 (by simp) rfl
    exact ⟨hs 0 _ rfl, hs 1 _ rfl, hs 2 _ rfl, row_seg (off := 4) (A := [nu x.number, nu x.kind, nu x.target] ++ [st x.value]) (cs := dg x.asked) (C := dg x.data) h0 (by simp) rfl⟩
  have HbK : Hid (∀ W, Kp q Wb W → W.cell? ⟨p, 1667, none⟩ = some vP ∧ W.heap[p]? = some (.cells (rowR (subA R (k : Int) x) (vs.set k u) vP).toArray 63)) := fun W hW => by
    have h0 := hW.row Hb.out.row Hb.out.ne.1
    refine ⟨?_, h0⟩
    have hb1 := Hb.out.pnd
    rw [← hb1]
    exact World.cell?_of_block (a := ⟨p, 1667, none⟩) (hW.block p (row_ltA Hb.out.row) Hb.out.ne.1)
  have HqO := hid Hb.out.own
  have HqB := hid Hb.out.blk
  refine wp_region_cj (N := 98) 19 [15, 16] (vSub R (k : Int) x q Wb.heap.size) [pt p 0, pt p 0, pt p 0, pt p 1667, vP, nu (k : Int), pt X 0, nu x.number, pt X 1, nu x.kind, pt X 2, nu x.target, pt X 4, .agg (dg x.asked).toArray, .agg (penC (penOf (k : Int) x)).toArray, undef, undef, pt p 0, pt p 1667, undef] (fun L w => Kp q Wb w ∧ (L 16 = false → OwnP w vP R.pend)) (by kernel_rfl) (by kernel_rfl) (by kernel_rfl) rfl (fun w1 h1 => ⟨Kp.of h1, fun _ => HqO.out.kept h1⟩) (fun i hi _ L w h => by
    rw [up_ne (show i ≠ 16 from fun e => hi (by simp [e]))]
    exact h) (fun i hi _ L j u w h => by
    unfold vSub vU15 at h ⊢
    rw [up_ne (show i ≠ 16 from fun e => hi (by simp [e]))]
    exact h) ?_ ?_ ?_
  · intro i o hi hiS ho
    match i, ho with
    | 0, ho => cases ho; exact fun L a w hLi hw hnot hJ hk hcst K h => op_move 0 _ rfl (hk 0 (by kernel_rfl)) h
    | 1, ho => cases ho; exact fun L a w hLi hw hnot hJ hk hcst K h => op_move 0 _ rfl (hk 0 (by kernel_rfl)) h
    | 2, ho => cases ho; exact fun L a w hLi hw hnot hJ hk hcst K h => op_nil 78 p 0 rfl (hcst 1 78 (by kernel_rfl) (by decide) (by kernel_rfl)) h
    | 3, ho => cases ho; exact fun L a w hLi hw hnot hJ hk hcst K h => op_fa 79 _ 4 p 0 1667 rfl (fun W => fa_73_4 p 0 W) (hcst 2 79 (by kernel_rfl) (by decide) (by kernel_rfl)) h
    | 4, ho => cases ho; exact fun L a w hLi hw hnot hJ hk hcst K h => op_load1 _ (.tmp 80) rfl p 1667 (hcst 3 80 (by kernel_rfl) (by decide) (by kernel_rfl)) _ _ ((HbK.out _ hJ.1).1) Tryz.underlying43 rfl h
    | 5, ho => cases ho; exact fun L a w hLi hw hnot hJ hk hcst K h => op_move 1 _ rfl (hk 1 (by kernel_rfl)) h
    | 6, ho => cases ho; exact fun L a w hLi hw hnot hJ hk hcst K h => op_fa 5 _ 0 X 0 0 rfl (fun W => fa_34_0 X 0 W) (hk 5 (by kernel_rfl)) h
    | 7, ho => cases ho; exact fun L a w hLi hw hnot hJ hk hcst K h => op_load1 _ (.tmp 83) rfl X 0 (hcst 6 83 (by kernel_rfl) (by decide) (by kernel_rfl)) _ _ ((FXb.out _ hJ.1).1) Tryz.underlying3 rfl h
    | 8, ho => cases ho; exact fun L a w hLi hw hnot hJ hk hcst K h => op_fa 5 _ 1 X 0 1 rfl (fun W => fa_34_1 X 0 W) (hk 5 (by kernel_rfl)) h
    | 9, ho => cases ho; exact fun L a w hLi hw hnot hJ hk hcst K h => op_load1 _ (.tmp 85) rfl X 1 (hcst 8 85 (by kernel_rfl) (by decide) (by kernel_rfl)) _ _ ((FXb.out _ hJ.1).2.1) Tryz.underlying3 rfl h
    | 10, ho => cases ho; exact fun L a w hLi hw hnot hJ hk hcst K h => op_fa 5 _ 2 X 0 2 rfl (fun W => fa_34_2 X 0 W) (hk 5 (by kernel_rfl)) h
    | 11, ho => cases ho; exact fun L a w hLi hw hnot hJ hk hcst K h => op_load1 _ (.tmp 87) rfl X 2 (hcst 10 87 (by kernel_rfl) (by decide) (by kernel_rfl)) _ _ ((FXb.out _ hJ.1).2.2.1) Tryz.underlying3 rfl h
    | 12, ho => cases ho; exact fun L a w hLi hw hnot hJ hk hcst K h => op_fa 5 _ 4 X 0 4 rfl (fun W => fa_34_4 X 0 W) (hk 5 (by kernel_rfl)) h
    | 13, ho => cases ho; exact fun L a w hLi hw hnot hJ hk hcst K h => op_load _ (.tmp 89) rfl X 4 (hcst 12 89 (by kernel_rfl) (by decide) (by kernel_rfl)) (dg x.asked) _ ((FXb.out _ hJ.1).2.2.2) Tryz.underlying32 rfl ZA h
    | 14, ho => cases ho; exact fun L a w hLi hw hnot hJ hk hcst K h => op_buildL _ [(0, .tmp 82), (1, .tmp 84), (2, .tmp 86), (3, .tmp 88), (4, .tmp 90)] rfl _ (by
        have q1 : a.eval (.tmp 82) = nu (k : Int) := hcst 5 82 (by kernel_rfl) (by decide) (by kernel_rfl)
        have q2 : a.eval (.tmp 84) = nu x.number := hcst 7 84 (by kernel_rfl) (by decide) (by kernel_rfl)
        have q3 : a.eval (.tmp 86) = nu x.kind := hcst 9 86 (by kernel_rfl) (by decide) (by kernel_rfl)
        have q4 : a.eval (.tmp 88) = nu x.target := hcst 11 88 (by kernel_rfl) (by decide) (by kernel_rfl)
        have q5 : a.eval (.tmp 90) = .agg (dg x.asked).toArray := hcst 13 90 (by kernel_rfl) (by decide) (by kernel_rfl)
        simp only [List.map_cons, List.map_nil, q1, q2, q3, q4, q5]
        exact build_pen w (k : Int) x hx) h
    | 15, ho => exact absurd hiS (by decide)
    | 16, ho => exact absurd hiS (by decide)
    | 17, ho => cases ho; exact fun L a w hLi hw hnot hJ hk hcst K h => op_nil 77 p 0 rfl (hcst 0 77 (by kernel_rfl) (by decide) (by kernel_rfl)) h
    | 18, ho => cases ho; exact fun L a w hLi hw hnot hJ hk hcst K h => op_fa 94 _ 4 p 0 1667 rfl (fun W => fa_73_4 p 0 W) (hcst 17 94 (by kernel_rfl) (by decide) (by kernel_rfl)) h
    | (i + 19), ho => exact absurd hi (by omega)
  · intro i o hi hiS ho
    match i, ho with
    | 15, ho =>
      cases ho
      intro L a w hLi hw hnot hclos hJ hk' hcst hvs
      have h16 : L 16 = false := hnot 16 _ rfl (by kernel_rfl)
      refine op_bs1 43 66 91 rfl Tryz.underlying43 _ 68 96 infoPn (by decide) (by decide) (.agg (penC (penOf (k : Int) x)).toArray) (hcst 14 91 (by kernel_rfl) (by decide) (by kernel_rfl)) (penC (penOf (k : Int) x)).toArray rfl (by rw [List.size_toArray]; exact penC_len hPw) ?_
      refine ⟨_, rfl, fun _ => ?_, ⟨hJ.1.alloc _, fun h => ((hJ.2 h16).kept (below_a1 w _))⟩, fun j d hj hjs hd => ?_⟩
      · exact vSub15.2 (Or.inr ⟨_, rfl, top_obj w _⟩)
      · have hj15 : j ≠ 15 := by rintro rfl; rw [hLi] at hj; cases hj
        have hj16 : j ≠ 16 := by rintro rfl; rw [h16] at hj; cases hj
        simp at hjs
        omega
    | 16, ho =>
      cases ho
      intro L a w hLi hw hnot hclos hJ hk' hcst hvs
      have h15 := vSub15.1 (hvs 15 92 (hw 15 (by kernel_rfl)) (by decide) (by kernel_rfl))
      obtain ⟨g, e92, hg⟩ := h15.resolve_left (by rw [hLi]; simp)
      obtain ⟨v', w', hr, h2, h3, h4⟩ := run_app_pens (ps := R.pend) (news := [penOf (k : Int) x]) 43 (hJ.2 hLi) (pc_one hPw hg) (by simp; omega)
      refine op_appE 81 92 _ rfl vP _ (hcst 4 81 (by kernel_rfl) (by decide) (by kernel_rfl)) e92 v' w' hr ⟨v', rfl, fun _ => ?_, ⟨hJ.1.grown h3 (fun b hb => Or.inl (HqB.out b hb)), fun h => ?_⟩, fun j d hj hjs hd => ?_⟩
      · refine vSub16.2 ⟨h2, fun b hb => ?_⟩
        rcases h4 with e | e
        · rw [e] at hb
          exact Or.inl (HqB.out b hb)
        · rw [e] at hb
          cases hb
          exact Or.inr hJ.1.size
      · rw [up_self] at h
        cases h
      · have hj16 : j ≠ 16 := by rintro rfl; rw [hLi] at hj; cases hj
        have hj15 : j = 15 := by simp at hjs; omega
        subst hj15
        exact vSub15.2 (Or.inl (up_self _ _))
    | 0, _ | 1, _ | 2, _ | 3, _ | 4, _ | 5, _ | 6, _ | 7, _ | 8, _ | 9, _ | 10, _ | 11, _ | 12, _ | 13, _ | 14, _ | 17, _ | 18, _ => exact absurd hiS (by decide)
    | (i + 19), ho => exact absurd hi (by omega)
  · intro L o a Wc hall hLn ho hJ hs hdf hk' hc hv hkeep
    cases ho
    have h16 := vSub16.1 (hv 16 93 (by decide) (by decide) (by kernel_rfl))
    obtain ⟨v', e93⟩ : ∃ v', a.tmps.getD 93 undef = v' := ⟨_, rfl⟩
    obtain ⟨u15, e92⟩ : ∃ u15, a.tmps.getD 92 undef = u15 := ⟨_, rfl⟩
    rw [e93] at h16
    obtain ⟨hov, hob⟩ := h16
    have hrc := (HbK.out Wc hJ.1).2
    have hAl : ([nu (subA R (k : Int) x).n] ++ regsC (subA R (k : Int) x).regs (vs.set k u) ++ (donC (subA R (k : Int) x).long (subA R (k : Int) x).ltag ++ [nu (subA R (k : Int) x).who])).length = 1667 := by
      rw [List.length_append, head_len HIa.out Hb.out.vlen, List.length_append, donC_len HIa.out.ltag]
      rfl
    refine op_put1 43 95 93 rfl rfl p 1667 (hc 18 95 (by decide) (by decide) (by kernel_rfl)) ([nu (subA R (k : Int) x).n] ++ regsC (subA R (k : Int) x).regs (vs.set k u) ++ (donC (subA R (k : Int) x).long (subA R (k : Int) x).ltag ++ [nu (subA R (k : Int) x).who])) [] vP v' e93 63 (by
      rw [row_tail] at hrc
      simpa only [tailC, List.append_assoc, List.append_nil] using hrc) hAl hov.one size41 ?_
    intro Wd hrd hbd
    have Rd : Wd.heap[p]? = some (.cells (rowR (subA R (k : Int) x) (vs.set k u) v').toArray 63) := by
      rw [row_tail]
      simpa only [tailC, List.append_assoc, List.append_nil] using hrd
    have Kd : Kp [p] Wc Wd := (Kp.refl _ _).but hbd (Or.inl (by simp))
    have Hd : Hid (RA Wd p (q ++ v'.ownBlock.toList) (rs ++ u.ownBlock.toList) (subN R (k : Int) x) (vs.set k u) v') := ra_subN Hb.out HIn.out hJ.1 hov hob Rd Kd
    have hgq : gA ∉ q := fun hxx => by have := hql gA hxx; omega
    have Ud : Hid (Wd.heap[gA]? = some (.cells ([] ++ (Z ++ [])).toArray 45)) := row_nil (Kd.row (hJ.1.row Ub.out hgq) (by simp; omega))
    have KWd : Hid (Kp (p :: q) w Wd) := (KW.out.then hJ.1 (fun b hb => Or.inl (by simp [hb]))).then Kd (by simp)
    have Hnew : Hid (∀ b ∈ (q ++ v'.ownBlock.toList) ++ (rs ++ u.ownBlock.toList), b ∈ q ++ rs ∨ X ≤ b) := fun b hb => by
      simp only [List.mem_append, mem_own] at hb ⊢
      rcases hb with (hb | hb) | hb | hb
      · exact Or.inl (Or.inl hb)
      · rcases hob b hb with e | e
        · exact Or.inl (Or.inl e)
        · exact Or.inr (by omega)
      · exact Or.inl (Or.inr hb)
      · have := HUB.out b hb
        exact Or.inr (by omega)
    have hgb : gA < Wb.heap.size := row_ltA Ub.out
    have HnA : Hid (∀ b ∈ p :: ((q ++ v'.ownBlock.toList) ++ (rs ++ u.ownBlock.toList)), b ≠ gA) := fun b hb => by
      simp only [List.mem_cons, List.mem_append, mem_own] at hb
      rcases hb with hb | (hb | hb) | hb | hb
      · omega
      · have := hql b hb
        omega
      · rcases hob b hb with e | e
        · have := hql b e
          omega
        · omega
      · have := hlt b (by simp [hb])
        omega
      · have := HUB.out b hb
        omega
    obtain ⟨tm, df⟩ := a
    obtain rfl : df = [] := hdf
    have e := frame_of (c := fun i => ([pt p 0, pt p 0, pt p 0, pt p 1667, vP, nu (k : Int), pt X 0, nu x.number, pt X 1, nu x.kind, pt X 2, nu x.target, pt X 4, .agg (dg x.asked).toArray, .agg (penC (penOf (k : Int) x)).toArray, u15, v', pt p 0, pt p 1667, undef] : List Value).getD i undef) hs hkeep (fun i d hd => by
      have hi : i < 20 := dst_lt hd
      by_cases h15 : i = 15
      · subst h15; cases hd; exact e92
      by_cases h16 : i = 16
      · subst h16; cases hd; exact e93
      by_cases h19 : i = 19
      · subst h19; cases hd
      rw [hc i d (by omega) (by simp; omega) hd]
      match i, h15, h16, h19, hi with
      | 0, _, _, _, _ | 1, _, _, _, _ | 2, _, _, _, _ | 3, _, _, _, _ | 4, _, _, _, _ | 5, _, _, _, _ | 6, _, _, _, _ | 7, _, _, _, _ | 8, _, _, _, _ | 9, _, _, _, _ | 10, _, _, _, _ | 11, _, _, _, _ | 12, _, _, _, _ | 13, _, _, _, _ | 14, _, _, _, _ | 17, _, _, _, _ | 18, _, _, _, _ => rfl
      | 15, h, _, _, _ => exact absurd rfl h
      | 16, _, h, _, _ => exact absurd rfl h
      | 19, _, _, h, _ => exact absurd rfl h
      | (i + 20), _, _, _, h => omega)
    have hA : tm = #[pt p 0, nu (k : Int), .agg V.toArray, undef, undef, pt X 0, pt gA 0, nu 0, pt p oo, pt p 0, .bool true, .bool false, undef, pt p 0, nu (k : Int), .bool true, .bool false, .bool false, pt p 0, pt X 2, nu x.target, .bool true, .bool false, .bool false, .bool false, nu (k : Int), .agg V.toArray, .agg MV.toArray, .bool true, .bool false, .bool false, undef, pt p 0, nu (k : Int), pt p 0, pt p 1, pt p oo, pt X 0, nu x.number, pt p oo, pt p oo, pt p oo, pt p oo, nu AN, .bool false, undef, undef, undef, undef, undef, pt X 0, nu x.number, pt p oo, pt p oo, pt p oo, pt p oo, nu AN, nu (AN + 1), .bool false, undef, pt p 0, .bool false, undef, pt X 3, st x.value, st x.value, pt X 3, pt p oo, pt p 0, .agg V.toArray, .agg (repC (ansR R x) u).toArray, pt p oo, pt p (oo + 68), pt p oo, .agg V.toArray, pt p oo, pt p oo, pt p 0, pt p 0, pt p 0, pt p 1667, vP, nu (k : Int), pt X 0, nu x.number, pt X 1, nu x.kind, pt X 2, nu x.target, pt X 4, .agg (dg x.asked).toArray, .agg (penC (penOf (k : Int) x)).toArray, u15, v', pt p 0, pt p 1667, undef, undef] := e.trans (by kernel_rfl)
    clear e hc hv hs hkeep hall hk' e92 e93 hrd hbd Rd Kd hrc hAl hov hob hJ
    subst hA
    have HT := hid (HOo.out _ _ _ _ _ _ Hd.out)
    have hReg : ((subN R (k : Int) x).regs.getD k zeroG).ans = ansR R x := by
      show ((R.regs.set (k : Int).toNat { R.reg (k : Int) with asked := x, ans := ansR R x }).getD k zeroG).ans = _
      rw [show ((k : Int).toNat) = k from rfl, getD_set_same _ _ _ _ (by rw [H9.out.inv.len]; exact hk)]
    rw [hReg] at HT
    have hdl : X < Wd.heap.size := by have := KWd.out.size; have := row_ltA Ud.out; omega
    clear Hb HbK FXb HqO HqB HbX KW HOo Ub Tb' H9 T9 U9 hReg
    go_wp2_with fail
    refine HT.out.mono ?_
    rintro e We ⟨ve, rfl, hoe, hve, hbe⟩
    have HOe := hid hoe
    have HVe : Hid (∀ b, ve.ownBlock = some b → Wd.heap.size ≤ b) := hve
    have Ke : Hid (Kp (p :: q) w We) := KWd.out.trans (Kp.of hbe)
    have Ue := hid (row_kept Ud.out hbe)
    have He := hid (Hd.out.kept hbe)
    have hse : Wd.heap.size ≤ We.heap.size := hbe.size
    have hlte := hid Hd.out.lt
    have hpd := row_ltA Hd.out.row
    have hgAd : gA < Wd.heap.size := row_ltA Ud.out
    clear hoe hve hbe HT Ud
    have IYe : (Tryz.prog.info? 45).map (·.size) = some (repC (ansR R x) ve).length := by rw [repC_len hAw.out]; exact sizeRep
    have lYe : Z.length = (repC (ansR R x) ve).length := by rw [lZ.out, repC_len hAw.out]
    have OYe := hid (one_rep (ansR R x) ve HOe.out.one)
    go_wp2_with (first | ((with_reducible refine wl_put 45 (.tmp 6) (.tmp 97) ?_ ?_ gA 0 ?_ ?_ [] (repC (ansR R x) ve) Z [] ?_ 45 Ue.out rfl lYe OYe.out IYe ?_); exact rfl; exact rfl; exact rfl; exact rfl; exact rfl; intro wf hrf hbut))
    have hr6 : wf.heap[gA]? = some (.cells (repC (ansR R x) ve).toArray 45) := by simpa using hrf
    refine bodyPost_ret_by (results_ct (fn := Tryz.f13) (p := 6) (u := 7) (ty := 45) (by kernel_rfl) _ _ gA 45 (repC (ansR R x) ve).toArray (0, 0) _ rfl hr6 Tryz.underlying45 rfl (by rw [List.size_toArray]; exact IYe)) rfl ?_
    have Kf : Kp [gA] We wf := (Kp.refl _ _).but hbut (Or.inl (by simp))
    have hnot : ∀ b ∈ p :: ((q ++ v'.ownBlock.toList) ++ (rs ++ u.ownBlock.toList)), b ≠ gA := HnA.out
    refine HEnd.out _ _ _ _ _ _ (He.out.kp Kf (fun b hb hxx => hnot b hb (by simpa using hxx))) (HOe.out.kp Kf (fun b hb hxx => by have := HVe.out b hb; simp at hxx; omega)) (fun b hb => ⟨by have := HVe.out b hb; omega, fun hxx => ?_⟩) (HKg.out _ _ Ke.out Kf) Hnew.out
    have h5 := HVe.out b hb
    rcases List.mem_cons.1 hxx with e | e
    · omega
    · have := hlte.out b e
      omega
end Go.Proofs.YtoneoocihfjfgaaGreatDoor.Ms
