/-
  What is pending, cut for a commit (behind and its functions, slices.IndexFunc, slices.Delete).
-/
import Derived.Test.YtoneoocihfjfgaaGreatDoorEsc
namespace Go.Proofs.YtoneoocihfjfgaaGreatDoor.Ms
open Go Go.RowKit
set_option maxRecDepth 100000
theorem submit_any {w : World} {p : Nat} {q rs : List Nat} {R : Rs} {vs : List Value} {vP : Value} (h : RA w p q rs R vs vP) {c : Int} {x : Sub} (hx : x.Wf) (hr : (subM c x).Rng) (ht : Tb w) :
    Calls Tryz.prog 13 #[.pointer (some ⟨p, 0, none⟩), nu c, .agg (subC x).toArray] w (SubPost w p q rs R c x) := by
  cases h1 : hasB R.n c with
  | false => exact submit_a h hx h1
  | true =>
    cases h2 : hasB R.n x.target with
    | false => exact submit_b h hx h1 h2
    | true =>
      cases h3 : mayB (subM c x) with
      | false => exact submit_c h hx hr ht h1 h2 h3
      | true =>
        have hok : subOk R c x = true := by unfold subOk; rw [h1, h2, h3]; rfl
        have hc := (hasB_iff R.n c).1 h1
        have hn := h.inv.n
        obtain ⟨k, rfl⟩ : ∃ k : Nat, c = (k : Int) := ⟨c.toNat, by omega⟩
        have hk : k < 8 := by omega
        by_cases e1 : x.number = (R.reg (k : Int)).asked.number
        · exact submit_d h hk hx hr ht hok e1
        · by_cases e2 : x.number = (R.reg (k : Int)).asked.number + 1
          · cases hf : fullB R with
            | true => exact submit_f h hk hx hr ht hok e1 e2 hf
            | false => exact submit_g h hk hx hr ht hok e1 e2 hf
          · exact submit_e h hk hx hr ht hok e1 e2
def tstB (c1 c2 : Nat) : Value := .func (.func 42) #[] #[.pointer (some ⟨c1, 0, none⟩), .pointer (some ⟨c2, 0, none⟩)]
set_option maxHeartbeats 2000000 in
theorem tstB_any (p : Pen) (c n : Int) (c1 c2 : Nat) (w : World) (h1 : w.cell? ⟨c1, 0, none⟩ = some (nu c)) (h2 : w.cell? ⟨c2, 0, none⟩ = some (nu n)) : Calls Tryz.prog 42 #[.agg (penC p).toArray, .pointer (some ⟨c1, 0, none⟩), .pointer (some ⟨c2, 0, none⟩)] w fun e w' => e = .returned (.bool (isOp c n p)) ∧ Below w.heap.size w w' := by
  have HB0 := hid (below_a1 w (.cells (penC p).toArray 66))
  have S0 := row_seg (off := 0) (A := []) (cs := penC p) (C := []) (top_obj w (.cells (penC p).toArray 66)) (by simp) rfl
  have s0 : (w.alloc (.cells (penC p).toArray 66)).cell? ⟨w.heap.size, 0, none⟩ = some (nu p.client) := S0 0 _ rfl
  have s1 : (w.alloc (.cells (penC p).toArray 66)).cell? ⟨w.heap.size, 1, none⟩ = some (nu p.number) := S0 1 _ rfl
  have k1 : (w.alloc (.cells (penC p).toArray 66)).cell? ⟨c1, 0, none⟩ = some (nu c) := (HB0.out.cell (p := ⟨c1, 0, none⟩) (World.block_lt_of_cell? w _ h1)).trans h1
  have k2 : (w.alloc (.cells (penC p).toArray 66)).cell? ⟨c2, 0, none⟩ = some (nu n) := (HB0.out.cell (p := ⟨c2, 0, none⟩) (World.block_lt_of_cell? w _ h2)).trans h2
  unfold isOp
  clear S0 h1 h2
  generalize penC p = PA at *
  cases d1 : (p.client == c) with
  | true =>
    rw [Bool.true_and]
    go_enter Tryz.func42, Tryz.ntmps42
    go_upto_region 1 with fail
    generalize w.alloc (.cells PA.toArray 66) = W0 at *
    go_wp2
    go_ret
    exact ⟨rfl, HB0.out⟩
  | false =>
    rw [Bool.false_and]
    go_enter Tryz.func42, Tryz.ntmps42
    go_upto_region 1 with fail
    generalize w.alloc (.cells PA.toArray 66) = W0 at *
    go_wp2
    go_ret
    exact ⟨rfl, HB0.out⟩
def idxI (c n : Int) (ps : List Pen) : Int := match ps.findIdx? (isOp c n) with | some i => (i : Int) | none => -1
theorem idx_here {c n : Int} {ps : List Pen} {k : Nat} (hk : k < ps.length) (h1 : isOp c n (ps.getD k noPen) = true) (h0 : ∀ j, j < k → isOp c n (ps.getD j noPen) = false) : idxI c n ps = (k : Int) := by
  unfold idxI
  have : ps.findIdx? (isOp c n) = some k := by
    rw [List.findIdx?_eq_some_iff_getElem]
    refine ⟨hk, by simpa [List.getD, hk] using h1, fun j hj => ?_⟩
    have := h0 j hj
    have hjl : j < ps.length := by omega
    simpa [List.getD, hjl] using this
  rw [this]
theorem idx_none {c n : Int} {ps : List Pen} (h0 : ∀ j, j < ps.length → isOp c n (ps.getD j noPen) = false) : idxI c n ps = -1 := by
  unfold idxI
  have : ps.findIdx? (isOp c n) = none := by
    rw [List.findIdx?_eq_none_iff]
    intro x hx
    obtain ⟨j, hj, rfl⟩ := List.getElem_of_mem hx
    have := h0 j hj
    simpa [List.getD, hj] using this
  rw [this]
theorem cut_idx (c n : Int) (ps : List Pen) : ∃ j : Nat, idxI c n ps + 1 = (j : Int) ∧ j ≤ ps.length ∧ cutP c n ps = ps.drop j := by
  unfold idxI cutP
  cases h : ps.findIdx? (isOp c n) with
  | none => exact ⟨0, by simp, Nat.zero_le _, rfl⟩
  | some i =>
    refine ⟨i + 1, by simp, ?_, rfl⟩
    rw [List.findIdx?_eq_some_iff_getElem] at h
    obtain ⟨hi, -⟩ := h
    omega
set_option maxHeartbeats 2000000 in
theorem indexB_any (c n : Int) (c1 c2 : Nat) (ps : List Pen) (hl : ps.length ≤ 8) (hp : ∀ p ∈ ps, p.Wf) (w : World) (v : Value) (hv : PensAt w v ps) (h1 : w.cell? ⟨c1, 0, none⟩ = some (nu c)) (h2 : w.cell? ⟨c2, 0, none⟩ = some (nu n)) :
    Calls Tryz.prog 41 #[v, tstB c1 c2] w fun e w' => e = .returned (nu (idxI c n ps)) ∧ Below w.heap.size w w' := by
  have HP := hid hv
  obtain ⟨pa, cap, rfl, -⟩ := hv
  have HW := hid hp
  have HB0 := hid (Below.refl w.heap.size w)
  have HT : Hid (∀ p W, Below w.heap.size w W → Calls Tryz.prog 42 #[.agg (penC p).toArray, .pointer (some ⟨c1, 0, none⟩), .pointer (some ⟨c2, 0, none⟩)] W fun e w' => e = .returned (.bool (isOp c n p)) ∧ Below W.heap.size W w') := fun p W hb => tstB_any p c n c1 c2 W ((hb.cell (p := ⟨c1, 0, none⟩) (World.block_lt_of_cell? w _ h1)).trans h1) ((hb.cell (p := ⟨c2, 0, none⟩) (World.block_lt_of_cell? w _ h2)).trans h2)
  have HX : Hid (∀ k, k < ps.length → isOp c n (ps.getD k noPen) = true → (∀ j, j < k → isOp c n (ps.getD j noPen) = false) → idxI c n ps = (k : Int)) := fun k hk a b => idx_here hk a b
  have HE : Hid ((∀ j, j < ps.length → isOp c n (ps.getD j noPen) = false) → idxI c n ps = -1) := fun h => idx_none h
  clear hp h1 h2
  unfold tstB
  go_enter Tryz.func41, Tryz.ntmps41
  go_wp2
  go_loopw [8] (fun i w' => ∃ k : Nat, k ≤ ps.length ∧ i = .int .i64 k ∧ Hid (∀ j, j < k → isOp c n (ps.getD j noPen) = false) ∧ Hid (Below w.heap.size w w')) (fun i _ => ps.length - (intOf i).toNat)
  case atStart => exact ⟨0, Nat.zero_le _, rfl, (fun j hj => absurd hj (Nat.not_lt_zero j)), HB0⟩
  case round =>
    obtain ⟨k, hk, rfl, HN, HB⟩ := hrel
    clear HB0
    by_cases hlt : k < ps.length
    · have d1 : decide ((k : Int) < (ps.length : Int)) = true := decide_eq_true (by omega)
      have d1' : decide (k < ps.length) = true := decide_eq_true hlt
      obtain ⟨a', c', e', hc⟩ := HP.out.kept HB.out
      cases e'
      obtain ⟨b, off, rfl, hcc⟩ := hc (fun e => by rw [e] at hlt; exact absurd hlt (Nat.not_lt_zero k))
      have wp : (ps.getD k noPen).Wf := HW.out _ (by simp [List.getD, hlt])
      have S0 := hid (hcc k hlt)
      have Z0 : (Tryz.prog.info? 66).map (·.size) = some (penC (ps.getD k noPen)).length := by rw [penC_len wp]; exact sizePen
      have HC := hid (HT.out (ps.getD k noPen) wr HB.out)
      have HF : Hid (isOp c n (ps.getD k noPen) = true → idxI c n ps = (k : Int)) := fun h => HX.out k hlt h HN.out
      have hon : Hid (isOp c n (ps.getD k noPen) = false → ∀ j, j < k + 1 → isOp c n (ps.getD j noPen) = false) := fun h j hj => by
        by_cases e : j = k
        · rw [e]; exact h
        · exact HN.out j (by omega)
      generalize isOp c n (ps.getD k noPen) = bb at *
      generalize penC (ps.getD k noPen) = PA at *
      clear hc hcc wp HN HX HE HP HW HT
      cases bb with
      | true =>
        have HF' := hid (HF.out rfl)
        clear HF hon
        go_wp2_with (first | ((with_reducible refine wl_load 66 (.tmp 14) ?_ b (off + k * 68) ?_ ?_ PA _ S0.out Tryz.underlying66 ?_ Z0 ?_); exact rfl; exact rfl; exact rfl; exact rfl))
        refine HC.out.mono ?_
        rintro e w1 ⟨rfl, hb⟩
        have HB1 := hid (below_two HB.out hb)
        clear hb HB S0 HC
        go_wp2
        go_ret
        exact ⟨by rw [HF'.out]; rfl, HB1.out⟩
      | false =>
        have HN' := hid (hon.out rfl)
        clear HF hon
        go_wp2_with (first | ((with_reducible refine wl_load 66 (.tmp 14) ?_ b (off + k * 68) ?_ ?_ PA _ S0.out Tryz.underlying66 ?_ Z0 ?_); exact rfl; exact rfl; exact rfl; exact rfl))
        refine HC.out.mono ?_
        rintro e w1 ⟨rfl, hb⟩
        have HB1 := hid (below_two HB.out hb)
        clear hb HB S0 HC
        go_wp2
        exact ⟨⟨k + 1, by omega, by go_num, HN', HB1⟩, by simp [intOf]; omega⟩
    · have hkl : k = ps.length := by omega
      subst hkl
      have dk : decide ((ps.length : Int) < (ps.length : Int)) = false := decide_eq_false (by omega)
      have HA := hid (HE.out HN.out)
      clear HP HW HN HX HE HT
      go_wp2
      go_ret
      exact ⟨by rw [HA.out]; rfl, HB.out⟩
open Go Go.RowKit
set_option maxRecDepth 100000
theorem run_cut3 {P : Program} {w : World} (t e : TypeId) (ht : P.underlying t = some (.slice e)) (size : Nat) (hi : (P.info? e).map (·.size) = some size) (ax : Option Addr) (len cap j : Nat) (hj : j ≤ len) (hl : len ≤ cap) :
    (Instr.slice t (.slice ax len cap) (some (nu 0)) (some (nu j)) (some (nu len))).run P w = .ok (.slice (if len = 0 then ax else ax.map (·.add 0)) j len) w := by
  cases hq : P.info? e with
  | none => simp [hq] at hi
  | some i =>
    simp [Instr.slice, run_underlying ht, Instr.sliceBounds, Instr.sliceBound, asIntOf, sizeOf, typeInfo, hq]
    rw [if_pos hl, if_pos hj]
set_option maxHeartbeats 4000000 in
theorem delete_zero {w : World} {v : Value} {ps : List Pen} (h : OwnP w v ps) (hl : ps.length ≤ 8) : Calls Tryz.prog 43 #[v, nu 0, nu 0] w fun e w' => e = .returned v ∧ w' = w := by
  have hf : ∃ a cap, v = .slice a ps.length cap ∧ ps.length ≤ cap := by
    rcases h.form with ⟨rfl, rfl⟩ | ⟨g, cap, cur, rfl, -, h5, -⟩
    · exact ⟨none, 0, rfl, Nat.le_refl _⟩
    · exact ⟨_, cap, rfl, h5⟩
  obtain ⟨a, cap, rfl, hc⟩ := hf
  clear h
  have hq : ∀ W, (Instr.slice 43 (.slice a ps.length cap) (some (nu 0)) (some (nu 0)) (some (nu (ps.length : Int)))).run Tryz.prog W = .ok (.slice (if ps.length = 0 then a else a.map (·.add 0)) 0 ps.length) W := fun W => run_cut3 _ _ Tryz.underlying43 68 sizePen a ps.length cap 0 (Nat.zero_le _) hc
  generalize (Value.slice (if ps.length = 0 then a else a.map (·.add 0)) 0 ps.length) = vv at *
  go_enter Tryz.func43, Tryz.ntmps43
  go_wp2
  go_ret
  exact ⟨rfl, rfl⟩
theorem run_cutMid {P : Program} {w : World} (t e : TypeId) (ht : P.underlying t = some (.slice e)) (size : Nat) (hi : (P.info? e).map (·.size) = some size) (ax : Option Addr) (len cap l h : Nat) (hl : l ≤ h) (hh : h ≤ cap) :
    (Instr.slice t (.slice ax len cap) (some (nu l)) (some (nu h)) none).run P w = .ok (.slice (if cap = l then ax else ax.map (·.add (l * size))) (h - l) (cap - l)) w := by
  cases hq : P.info? e with
  | none => simp [hq] at hi
  | some i =>
    have hs : i.size = size := by simpa [hq] using hi
    simp [Instr.slice, run_underlying ht, Instr.sliceBounds, Instr.sliceBound, asIntOf, sizeOf, typeInfo, hq, hs]
    rw [if_pos hh, if_pos hl]
theorem wl_clear {P : Program} {ops : Array Oper} {rest : List Oper} {o : Oper} {a : Act} {w : World} {Q : Exit → Act → World → Prop} (hg : o.guard = none) (hn : o.dst = none) (x : Operand) (ts : Array TypeId)
    (ho : o.op = .call { callee := .builtin .clear, args := #[x], argTypes := ts }) (u : Value) (hx : a.eval x = u) (w' : World) (hr : (Builtin.clear_ ts o.type #[u]).run P w = .ok (.tuple #[]) w')
    (h : wpList P ops Q rest a w') : wpList P ops Q (o :: rest) a w := by
  refine wpList_plain hg fun K hK => ?_
  have h' := hK _ _ h
  unfold Oper.wp execOp
  simp only [ho, resolve, invoke, builtin, Sem.run_bind, Sem.run_pure, Result.andThen_ok, List.map_toArray, List.map_cons, List.map_nil, hx, hr]
  show K (a.put o.dst _) w'
  rw [hn]
  exact h'
theorem one_zeros (n : Nat) : ∀ u ∈ (Builtin.zeroCells (penC zeroP).toArray n).toList, u.oneCell' = true := by
  intro u hu
  simp only [Builtin.zeroCells, Array.toList_map, List.mem_map] at hu
  obtain ⟨i, -, rfl⟩ := hu
  have hsz : (penC zeroP).toArray.size = 68 := by rw [List.size_toArray]; exact penC_len ⟨rfl, rfl⟩
  rw [hsz]
  have hm : i % 68 < (penC zeroP).toArray.size := by rw [hsz]; omega
  rw [getElem!_pos (penC zeroP).toArray (i % 68) hm]
  refine one_pen zeroP _ ?_
  simp
theorem delete_rows {w : World} {g cap : Nat} {ps : List Pen} (h : OwnP w (.slice (some ⟨g, 0, none⟩) ps.length cap) ps) (hw : ∀ p ∈ ps, p.Wf) (j : Nat) (hj : 0 < j) (hjl : j ≤ ps.length) (av : Addr) (hav : ps.length - j ≠ 0 → av = ⟨g, j * 68, none⟩) :
    ∃ W1 W2, (Builtin.append_ #[43, 43] 43 #[.slice (some ⟨g, 0, none⟩) 0 cap, .slice (some av) (ps.length - j) (cap - j)]).run Tryz.prog w = .ok (.slice (some ⟨g, 0, none⟩) (ps.length - j) cap) W1 ∧
      (∀ ty, (Builtin.clear_ #[43] ty #[.slice (some ⟨g, (ps.length - j) * 68, none⟩) j (cap - (ps.length - j))]).run Tryz.prog W1 = .ok (.tuple #[]) W2) ∧ OwnP W2 (.slice (some ⟨g, 0, none⟩) (ps.length - j) cap) (ps.drop j) ∧ Kp [g] w W2 := by
  obtain ⟨rest, hrow, -, hcap, hmx, hsz⟩ := h.row
  obtain ⟨i, hi, hz0, hz1, hz2⟩ := info_parts infoPn
  have hdw : ∀ p ∈ ps.drop j, p.Wf := fun p hp => hw p (List.mem_of_mem_drop hp)
  have hfl : (flatQ (ps.drop j)).length = (ps.length - j) * 68 := by rw [flatQ_len hdw, List.length_drop]
  have hsp : flatQ ps = flatQ (ps.take j) ++ flatQ (ps.drop j) := by rw [← flat_app, List.take_append_drop]
  have htl : (flatQ (ps.take j)).length = j * 68 := by
    rw [flatQ_len (fun p hp => hw p (List.mem_of_mem_take hp)), List.length_take, Nat.min_eq_left hjl]
  have hpl : (flatQ ps ++ rest).length = cap * 68 := hsz
  have happ := run_append_room (P := Tryz.prog) w 43 43 66 i Tryz.underlying43 hi g 0 cap (flatQ ps ++ rest).toArray hrow av (ps.length - j) (cap - j) (flatQ (ps.drop j)) (by rw [hz1]; exact hfl) (fun k u hk => by
      have hne : ps.length - j ≠ 0 := by
        intro e
        have : (flatQ (ps.drop j)).length = 0 := by rw [hfl, e, Nat.zero_mul]
        have h2 := (List.getElem?_eq_some_iff.1 hk).1
        omega
      rw [hav hne, add_none]
      refine h.cell _ _ ?_
      rw [hsp, List.getElem?_append_right (by omega), htl, Nat.add_sub_cancel_left]
      exact hk) (one_flat _) (by omega) (by rw [hz1, hfl]; simp only [List.size_toArray, hpl]; omega)
  have hlen1 : (ps.length - j) * 68 ≤ cap * 68 := Nat.mul_le_mul_right 68 (by omega)
  obtain ⟨r1, hr1⟩ : ∃ r1, r1 = (flatQ ps ++ rest).drop ((ps.length - j) * 68) := ⟨_, rfl⟩
  have hr1l : (flatQ (ps.drop j) ++ r1).length = cap * 68 := by rw [List.length_append, hfl, hr1, List.length_drop, hpl]; omega
  have happ' : (Builtin.append_ #[43, 43] 43 #[.slice (some ⟨g, 0, none⟩) 0 cap, .slice (some av) (ps.length - j) (cap - j)]).run Tryz.prog w = .ok (.slice (some ⟨g, 0, none⟩) (ps.length - j) cap) (w.setRow g (flatQ (ps.drop j) ++ r1).toArray) := by
    rw [happ, Nat.zero_add, hfl, Nat.zero_mul, Nat.zero_add, hr1]
    simp
  have hrow1 : (w.setRow g (flatQ (ps.drop j) ++ r1).toArray).heap[g]? = some (.cells (flatQ (ps.drop j) ++ r1).toArray 66) := setRow_heap w g _ _ _ (0, 0) hrow
  have hK1 : Kp [g] w (w.setRow g (flatQ (ps.drop j) ++ r1).toArray) := (Kp.refl _ _).setRow g _ (Or.inl (by simp))
  generalize w.setRow g (flatQ (ps.drop j) ++ r1).toArray = W1 at *
  obtain ⟨zs, hzs⟩ : ∃ zs, zs = (Builtin.zeroCells (penC zeroP).toArray j).toList := ⟨_, rfl⟩
  have hzl : zs.length = j * 68 := by
    rw [hzs, Array.length_toList, size_zeroCells, List.size_toArray, penC_len ⟨rfl, rfl⟩]
  have hzo : ∀ u ∈ zs, u.oneCell' = true := by rw [hzs]; exact one_zeros j
  have hst := run_storeCells_at Tryz.prog g ((ps.length - j) * 68) 66 zs 0 (flatQ (ps.drop j) ++ r1).toArray W1 hrow1 (by
    rw [Nat.add_zero, hzl, List.size_toArray, hr1l]
    have := Nat.mul_le_mul_right 68 hcap
    omega) hzo
  obtain ⟨r2, hr2⟩ : ∃ r2, r2 = zs ++ (flatQ (ps.drop j) ++ r1).drop ((ps.length - j) * 68 + zs.length) := ⟨_, rfl⟩
  have hr2l : (flatQ (ps.drop j) ++ r2).length = cap * 68 := by
    have := Nat.mul_le_mul_right 68 hcap
    rw [List.length_append, hfl, hr2, List.length_append, List.length_drop, hr1l, hzl]
    omega
  have hst' : (storeCells ⟨g, (ps.length - j) * 68, none⟩ zs).run Tryz.prog W1 = .ok () (W1.setRow g (flatQ (ps.drop j) ++ r2).toArray) := by
    rw [Nat.add_zero] at hst
    rw [hst, hr2]
    congr 3
    have e1 : (flatQ (ps.drop j) ++ r1).toArray.toList.take ((ps.length - j) * 68) = flatQ (ps.drop j) := by
      show (flatQ (ps.drop j) ++ r1).take _ = _
      rw [← hfl, List.take_left]
    rw [e1]
    simp
  refine ⟨W1, W1.setRow g (flatQ (ps.drop j) ++ r2).toArray, happ', fun ty => ?_, ?_, hK1.setRow g _ (Or.inl (by simp))⟩
  · obtain ⟨j', rfl⟩ : ∃ j', j = j' + 1 := ⟨j - 1, by omega⟩
    have hz0' : i.zero = some (.agg (penC zeroP).toArray) := hz0
    rw [hzs] at hst'
    simp [Builtin.clear_, run_underlying Tryz.underlying43, zeroValue, typeInfo, hi, hz0', Value.cells, hst']
  · exact ownP_of_row hdw (setRow_heap W1 g _ _ _ (0, 0) hrow1) (by simp) (by simp; omega) hmx hr2l
set_option maxHeartbeats 4000000 in
theorem delete_some {w : World} {g cap : Nat} {ps : List Pen} (h : OwnP w (.slice (some ⟨g, 0, none⟩) ps.length cap) ps) (hw : ∀ p ∈ ps, p.Wf) (hl : ps.length ≤ 8) (j : Nat) (hj : 0 < j) (hjl : j ≤ ps.length) :
    Calls Tryz.prog 43 #[.slice (some ⟨g, 0, none⟩) ps.length cap, nu 0, nu (j : Int)] w fun e w' => e = .returned (.slice (some ⟨g, 0, none⟩) (ps.length - j) cap) ∧ OwnP w' (.slice (some ⟨g, 0, none⟩) (ps.length - j) cap) (ps.drop j) ∧ Kp [g] w w' := by
  obtain ⟨rest, hrow, -, hcap, hmx, hsz⟩ := h.row
  have q1 : ∀ W, (Instr.slice 43 (.slice (some ⟨g, 0, none⟩) ps.length cap) (some (nu 0)) (some (nu (j : Int))) (some (nu (ps.length : Int)))).run Tryz.prog W = .ok (.slice (if ps.length = 0 then some ⟨g, 0, none⟩ else (some (⟨g, 0, none⟩ : Addr)).map (·.add 0)) j ps.length) W := fun W => run_cut3 _ _ Tryz.underlying43 68 sizePen _ ps.length cap j hjl hcap
  have q2 : ∀ W, (Instr.slice 43 (.slice (some ⟨g, 0, none⟩) ps.length cap) none (some (nu 0)) none).run Tryz.prog W = .ok (.slice (some ⟨g, 0, none⟩) 0 cap) W := fun W => by
    have := run_cutTo (P := Tryz.prog) (w := W) _ _ Tryz.underlying43 68 sizePen (some ⟨g, 0, none⟩) ps.length cap 0 (Nat.zero_le _)
    rw [if_neg (by omega)] at this
    simpa [add_none] using this
  obtain ⟨av, hav, hav2⟩ : ∃ av : Addr, (if cap = j then some (⟨g, 0, none⟩ : Addr) else (some (⟨g, 0, none⟩ : Addr)).map (·.add (j * 68))) = some av ∧ (ps.length - j ≠ 0 → av = ⟨g, j * 68, none⟩) := by
    by_cases e : cap = j
    · exact ⟨_, if_pos e, fun hh => by omega⟩
    · exact ⟨⟨g, j * 68, none⟩, by rw [if_neg e]; simp [add_none], fun _ => rfl⟩
  have q3 : ∀ W, (Instr.slice 43 (.slice (some ⟨g, 0, none⟩) ps.length cap) (some (nu (j : Int))) none none).run Tryz.prog W = .ok (.slice (some av) (ps.length - j) (cap - j)) W := fun W => by
    have := run_cutFrom (P := Tryz.prog) (w := W) _ _ Tryz.underlying43 68 sizePen (some ⟨g, 0, none⟩) ps.length cap j hjl
    rw [hav] at this
    exact this
  have q4 : ∀ W, (Instr.slice 43 (.slice (some ⟨g, 0, none⟩) (ps.length - j) cap) (some (nu ((ps.length - j : Nat) : Int))) (some (nu (ps.length : Int))) none).run Tryz.prog W = .ok (.slice (some ⟨g, (ps.length - j) * 68, none⟩) j (cap - (ps.length - j))) W := fun W => by
    have := run_cutMid (P := Tryz.prog) (w := W) _ _ Tryz.underlying43 68 sizePen (some ⟨g, 0, none⟩) (ps.length - j) cap (ps.length - j) ps.length (by omega) hcap
    rw [if_neg (by omega), show ps.length - (ps.length - j) = j by omega] at this
    simpa [add_none] using this
  obtain ⟨W1, W2, r1, r2, r3, r4⟩ := delete_rows (w := World.drew w) (h.kept (Below.refl _ _ : Below w.heap.size w w).drew) hw j hj hjl av hav2
  have R1 := hid r1
  have R2 := hid r2
  have R3 := hid r3
  have R4 : Hid (Kp [g] w W2) := ((Kp.refl [g] w).drew).trans r4
  have dj : ((0 : Int) == (j : Int)) = false := by simp; omega
  have dj' : (0 == j) = false := by simp; omega
  clear r1 r2 r3 r4 hav hav2 hrow hsz h hw hmx
  generalize ps.length - j = m at *
  generalize (Value.slice (if ps.length = 0 then some ⟨g, 0, none⟩ else (some (⟨g, 0, none⟩ : Addr)).map (·.add 0)) j ps.length) = vv at *
  generalize ps.length = n at *
  go_enter Tryz.func43, Tryz.ntmps43
  go_wp2_with fail
  refine wp_region_still_tail 6 (by kernel_rfl) (by kernel_rfl) ?_
  simp only [List.take_succ_cons, List.take_zero, List.drop_succ_cons, List.drop_zero]
  change wpStill _ _ (World.drew w) (fun a' => wpList _ _ _ _ a' (World.drew w)) _ _
  iterate 6 still_step
  refine wpStill_nil ?_
  go_wp2_with (first
    | (at_builtin; refine wl_app_pens rfl _ _ _ rfl _ _ rfl rfl _ W1 R1.out ?_)
    | (refine wl_clear rfl rfl _ _ rfl _ rfl W2 (R2.out _) ?_))
  go_ret
  exact ⟨rfl, R3.out, R4.out⟩
theorem delete_any {w : World} {v : Value} {ps : List Pen} (h : OwnP w v ps) (hw : ∀ p ∈ ps, p.Wf) (hl : ps.length ≤ 8) (j : Nat) (hjl : j ≤ ps.length) :
    Calls Tryz.prog 43 #[v, nu 0, nu (j : Int)] w fun e w' => ∃ v', e = .returned v' ∧ OwnP w' v' (ps.drop j) ∧ v'.ownBlock = v.ownBlock ∧ Kp v.ownBlock.toList w w' := by
  by_cases hj : j = 0
  · subst hj
    refine (delete_zero h hl).mono ?_
    rintro e w' ⟨rfl, hw'⟩
    subst w'
    exact ⟨v, rfl, h, rfl, Kp.refl _ _⟩
  · rcases h.form with ⟨rfl, rfl⟩ | ⟨g, cap, cur, rfl, -⟩
    · simp at hjl
      exact absurd hjl hj
    · refine (delete_some h hw hl j (by omega) hjl).mono ?_
      rintro e w' ⟨rfl, h2, h3⟩
      exact ⟨_, rfl, h2, rfl, h3⟩
set_option maxHeartbeats 4000000 in
theorem cutf_any {w : World} {v : Value} {ps : List Pen} (h : OwnP w v ps) (hw : ∀ p ∈ ps, p.Wf) (hl : ps.length ≤ 8) (c n : Int) (c1 c2 : Nat) (h1 : w.cell? ⟨c1, 0, none⟩ = some (nu c)) (h2 : w.cell? ⟨c2, 0, none⟩ = some (nu n)) :
    Calls Tryz.prog 40 #[v, .pointer (some ⟨c1, 0, none⟩), .pointer (some ⟨c2, 0, none⟩)] w fun e w' => ∃ v', e = .returned v' ∧ OwnP w' v' (cutP c n ps) ∧ v'.ownBlock = v.ownBlock ∧ Kp v.ownBlock.toList w w' := by
  have HX := hid (indexB_any c n c1 c2 ps hl hw w v (h.pens hw) h1 h2)
  unfold tstB at HX
  obtain ⟨j, hj, hjl, hc⟩ := cut_idx c n ps
  have HD := hid (fun (W : World) (hb : Below w.heap.size w W) => delete_any (h.kept hb) hw hl j hjl)
  have hir : -1 ≤ idxI c n ps ∧ idxI c n ps ≤ 8 := by omega
  rw [hc]
  have hid1 : idxI c n ps = (j : Int) - 1 := by omega
  rw [hid1] at HX
  clear h hw h1 h2 hc hid1 hir hj
  have hj8 : j ≤ 8 := by omega
  have hjj : (j : Int) - 1 + 1 = (j : Int) := by omega
  generalize hJ : (j : Int) - 1 = jm at *
  go_enter Tryz.func40, Tryz.ntmps40
  go_wp2_with fail
  refine HX.out.mono ?_
  rintro e w1 ⟨rfl, hb⟩
  have HD1 := hid (HD.out w1 hb)
  have HB := hid hb
  clear hb HX HD
  go_wp2_with fail
  refine HD1.out.mono ?_
  rintro e w2 ⟨v', rfl, ho, hv, hk⟩
  have HO := hid ho
  have HV := hid hv
  have HK : Hid (Kp v.ownBlock.toList w w2) := (Kp.of (X := v.ownBlock.toList) HB.out).trans hk
  clear ho hv hk
  go_wp2
  go_ret
  exact ⟨_, rfl, HO.out, HV.out, HK.out⟩
def cutV (c1 c2 : Nat) : Value := .func (.func 40) #[] #[.pointer (some ⟨c1, 0, none⟩), .pointer (some ⟨c2, 0, none⟩)]
set_option maxHeartbeats 2000000 in
theorem behind_any (w : World) (c n : Int) : Calls Tryz.prog 32 #[nu c, nu n] w fun e w' => e = .returned (cutV w.heap.size (w.heap.size + 1)) ∧ w'.cell? ⟨w.heap.size, 0, none⟩ = some (nu c) ∧ w'.cell? ⟨w.heap.size + 1, 0, none⟩ = some (nu n) ∧ Below w.heap.size w w' := by
  have hp : (w.alloc (.cells #[nu c] 3)).heap.size = w.heap.size + 1 := by simp
  have h1 : ((w.alloc (.cells #[nu c] 3)).alloc (.cells #[nu n] 3)).cell? ⟨w.heap.size, 0, none⟩ = some (nu c) := row_seg (off := 0) (A := []) (cs := [nu c]) (C := []) (row_kept (top_obj w (.cells #[nu c] 3)) (below_a1 _ _)) (by simp) rfl 0 _ rfl
  have h2 : ((w.alloc (.cells #[nu c] 3)).alloc (.cells #[nu n] 3)).cell? ⟨w.heap.size + 1, 0, none⟩ = some (nu n) := by
    have := top_obj (w.alloc (.cells #[nu c] 3)) (.cells #[nu n] 3)
    rw [hp] at this
    exact row_seg (off := 0) (A := []) (cs := [nu n]) (C := []) this (by simp) rfl 0 _ rfl
  have h3 := hid (below_two (below_a1 w (.cells #[nu c] 3)) (below_a1 _ (.cells #[nu n] 3)))
  unfold cutV
  go_enter Tryz.func32, Tryz.ntmps32
  go_wp2
  go_ret
  exact ⟨rfl, h1, h2, h3.out⟩
end Go.Proofs.YtoneoocihfjfgaaGreatDoor.Ms
