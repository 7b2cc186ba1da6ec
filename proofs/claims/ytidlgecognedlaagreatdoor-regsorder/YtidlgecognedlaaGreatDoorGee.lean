/-
  What is pending, cut for a commit: slices.Delete, and the function that behind makes.
-/
import Derived.Test.YtidlgecognedlaaGreatDoorGed
import Derived.Test.YtidlgecognedlaaGreatDoorHct
import Derived.Test.YtidlgecognedlaaGreatDoorBow
namespace Go.Proofs.YtidlgecognedlaaGreatDoor.Ms
open Go Go.RowKit
set_option maxRecDepth 100000

theorem run_cut3 {P : Program} {w : World} (t e : TypeId) (ht : P.underlying t = some (.slice e)) (size : Nat) (hi : (P.info? e).map (·.size) = some size) (ax : Option Addr) (len cap j : Nat) (hj : j ≤ len) (hl : len ≤ cap) :
    (Instr.slice t (.slice ax len cap) (some (nu 0)) (some (nu j)) (some (nu len))).run P w = .ok (.slice (if len = 0 then ax else ax.map (·.add 0)) j len) w := by
  cases hq : P.info? e with
  | none => simp [hq] at hi
  | some i =>
    simp [Instr.slice, run_underlying ht, Instr.sliceBounds, Instr.sliceBound, asIntOf, sizeOf, typeInfo, hq]
    rw [if_pos hl, if_pos hj]
set_option maxHeartbeats 4000000 in
theorem delete_zero {w : World} {v : Value} {ps : List Pen} (h : OwnP w v ps) (hl : ps.length ≤ 8) : Calls Tryz.prog 108 #[v, nu 0, nu 0] w fun e w' => e = .returned v ∧ w' = w := by
  have hf : ∃ a cap, v = .slice a ps.length cap ∧ ps.length ≤ cap := by
    rcases h.form with ⟨rfl, rfl⟩ | ⟨g, cap, cur, rfl, -, h5, -⟩
    · exact ⟨none, 0, rfl, Nat.le_refl _⟩
    · exact ⟨_, cap, rfl, h5⟩
  obtain ⟨a, cap, rfl, hc⟩ := hf
  clear h
  have hq : ∀ W, (Instr.slice 26 (.slice a ps.length cap) (some (nu 0)) (some (nu 0)) (some (nu (ps.length : Int)))).run Tryz.prog W = .ok (.slice (if ps.length = 0 then a else a.map (·.add 0)) 0 ps.length) W := fun W => run_cut3 _ _ Tryz.underlying26 68 sizePen a ps.length cap 0 (Nat.zero_le _) hc
  generalize (Value.slice (if ps.length = 0 then a else a.map (·.add 0)) 0 ps.length) = vv at *
  go_enter Tryz.func108, Tryz.ntmps108
  go_wp2
  go_ret
  exact ⟨rfl, rfl⟩
theorem run_cutMid {P : Program} {w : World} (t e : TypeId) (ht : P.underlying t = some (.slice e)) (size : Nat) (hi : (P.info? e).map (·.size) = some size) (ax : Option Addr) (len cap l h : Nat) (hl : l ≤ h) (hh : h ≤ cap) :
    (Instr.slice t (.slice ax len cap) (some (nu l)) (some (nu h)) none).run P w = .ok (.slice (if cap = l then ax else ax.map (·.add (l * size))) (h - l) (cap - l)) w := by
  cases hq : P.info? e with
  | none => simp [hq] at hi
  | some i =>
    have hs : i.size = size := by simpa [hq] using hi
    simp [Instr.slice, run_underlying ht, Instr.sliceBounds, Instr.sliceBound, asIntOf, sizeOf, typeInfo, hq, hs]
    rw [if_pos hh, if_pos hl]
theorem wl_clear {P : Program} {ops : Array Oper} {rest : List Oper} {o : Oper} {a : Act} {w : World} {Q : Exit → Act → World → Prop} (hg : o.guard = none) (hn : o.dst = none) (x : Operand) (ts : Array TypeId)
    (ho : o.op = .call { callee := .builtin .clear, args := #[x], argTypes := ts }) (u : Value) (hx : a.eval x = u) (w' : World) (hr : (Builtin.clear_ ts o.type #[u]).run P w = .ok (.tuple #[]) w')
    (h : wpList P ops Q rest a w') : wpList P ops Q (o :: rest) a w := by
  refine wpList_plain hg fun K hK => ?_
  have h' := hK _ _ h
  unfold Oper.wp execOp
  simp only [ho, resolve, invoke, builtin, Sem.run_bind, Sem.run_pure, Result.andThen_ok, List.map_toArray, List.map_cons, List.map_nil, hx, hr]
  show K (a.put o.dst _) w'
  rw [hn]
  exact h'
theorem one_zeros (n : Nat) : ∀ u ∈ (Builtin.zeroCells (penC zeroP).toArray n).toList, u.oneCell' = true := by
  intro u hu
  simp only [Builtin.zeroCells, Array.toList_map, List.mem_map] at hu
  obtain ⟨i, -, rfl⟩ := hu
  have hsz : (penC zeroP).toArray.size = 68 := by rw [List.size_toArray]; exact penC_len ⟨rfl, rfl⟩
  rw [hsz]
  have hm : i % 68 < (penC zeroP).toArray.size := by rw [hsz]; omega
  rw [getElem!_pos (penC zeroP).toArray (i % 68) hm]
  refine one_pen zeroP _ ?_
  simp
/-- The row behind the cut, and behind the zeros. -/
theorem delete_rows {w : World} {g cap : Nat} {ps : List Pen} (h : OwnP w (.slice (some ⟨g, 0, none⟩) ps.length cap) ps) (hw : ∀ p ∈ ps, p.Wf) (j : Nat) (hj : 0 < j) (hjl : j ≤ ps.length) (av : Addr) (hav : ps.length - j ≠ 0 → av = ⟨g, j * 68, none⟩) :
    ∃ W1 W2, (Builtin.append_ #[26, 26] 26 #[.slice (some ⟨g, 0, none⟩) 0 cap, .slice (some av) (ps.length - j) (cap - j)]).run Tryz.prog w = .ok (.slice (some ⟨g, 0, none⟩) (ps.length - j) cap) W1 ∧
      (∀ ty, (Builtin.clear_ #[26] ty #[.slice (some ⟨g, (ps.length - j) * 68, none⟩) j (cap - (ps.length - j))]).run Tryz.prog W1 = .ok (.tuple #[]) W2) ∧ OwnP W2 (.slice (some ⟨g, 0, none⟩) (ps.length - j) cap) (ps.drop j) ∧ Kp [g] w W2 := by
  obtain ⟨rest, hrow, -, hcap, hmx, hsz⟩ := h.row
  obtain ⟨i, hi, hz0, hz1, hz2⟩ := info_parts infoPn
  have hdw : ∀ p ∈ ps.drop j, p.Wf := fun p hp => hw p (List.mem_of_mem_drop hp)
  have hfl : (flatQ (ps.drop j)).length = (ps.length - j) * 68 := by rw [flatQ_len hdw, List.length_drop]
  have hsp : flatQ ps = flatQ (ps.take j) ++ flatQ (ps.drop j) := by rw [← flat_app, List.take_append_drop]
  have htl : (flatQ (ps.take j)).length = j * 68 := by
    rw [flatQ_len (fun p hp => hw p (List.mem_of_mem_take hp)), List.length_take, Nat.min_eq_left hjl]
  have hpl : (flatQ ps ++ rest).length = cap * 68 := hsz
  have happ := run_append_room (P := Tryz.prog) w 26 26 113 i Tryz.underlying26 hi g 0 cap (flatQ ps ++ rest).toArray hrow av (ps.length - j) (cap - j) (flatQ (ps.drop j)) (by rw [hz1]; exact hfl) (fun k u hk => by
      have hne : ps.length - j ≠ 0 := by
        intro e
        have : (flatQ (ps.drop j)).length = 0 := by rw [hfl, e, Nat.zero_mul]
        have h2 := (List.getElem?_eq_some_iff.1 hk).1
        omega
      rw [hav hne, add_none]
      refine h.cell _ _ ?_
      rw [hsp, List.getElem?_append_right (by omega), htl, Nat.add_sub_cancel_left]
      exact hk) (one_flat _) (by omega) (by rw [hz1, hfl]; simp only [List.size_toArray, hpl]; omega)
  have hlen1 : (ps.length - j) * 68 ≤ cap * 68 := Nat.mul_le_mul_right 68 (by omega)
  obtain ⟨r1, hr1⟩ : ∃ r1, r1 = (flatQ ps ++ rest).drop ((ps.length - j) * 68) := ⟨_, rfl⟩
  have hr1l : (flatQ (ps.drop j) ++ r1).length = cap * 68 := by rw [List.length_append, hfl, hr1, List.length_drop, hpl]; omega
  have happ' : (Builtin.append_ #[26, 26] 26 #[.slice (some ⟨g, 0, none⟩) 0 cap, .slice (some av) (ps.length - j) (cap - j)]).run Tryz.prog w = .ok (.slice (some ⟨g, 0, none⟩) (ps.length - j) cap) (w.setRow g (flatQ (ps.drop j) ++ r1).toArray) := by
    rw [happ, Nat.zero_add, hfl, Nat.zero_mul, Nat.zero_add, hr1]
    simp
  have hrow1 : (w.setRow g (flatQ (ps.drop j) ++ r1).toArray).heap[g]? = some (.cells (flatQ (ps.drop j) ++ r1).toArray 113) := setRow_heap w g _ _ _ (0, 0) hrow
  have hK1 : Kp [g] w (w.setRow g (flatQ (ps.drop j) ++ r1).toArray) := (Kp.refl _ _).setRow g _ (Or.inl (by simp))
  generalize w.setRow g (flatQ (ps.drop j) ++ r1).toArray = W1 at *
  obtain ⟨zs, hzs⟩ : ∃ zs, zs = (Builtin.zeroCells (penC zeroP).toArray j).toList := ⟨_, rfl⟩
  have hzl : zs.length = j * 68 := by
    rw [hzs, Array.length_toList, size_zeroCells, List.size_toArray, penC_len ⟨rfl, rfl⟩]
  have hzo : ∀ u ∈ zs, u.oneCell' = true := by rw [hzs]; exact one_zeros j
  have hst := run_storeCells_at Tryz.prog g ((ps.length - j) * 68) 113 zs 0 (flatQ (ps.drop j) ++ r1).toArray W1 hrow1 (by
    rw [Nat.add_zero, hzl, List.size_toArray, hr1l]
    have := Nat.mul_le_mul_right 68 hcap
    omega) hzo
  obtain ⟨r2, hr2⟩ : ∃ r2, r2 = zs ++ (flatQ (ps.drop j) ++ r1).drop ((ps.length - j) * 68 + zs.length) := ⟨_, rfl⟩
  have hr2l : (flatQ (ps.drop j) ++ r2).length = cap * 68 := by
    have := Nat.mul_le_mul_right 68 hcap
    rw [List.length_append, hfl, hr2, List.length_append, List.length_drop, hr1l, hzl]
    omega
  have hst' : (storeCells ⟨g, (ps.length - j) * 68, none⟩ zs).run Tryz.prog W1 = .ok () (W1.setRow g (flatQ (ps.drop j) ++ r2).toArray) := by
    rw [Nat.add_zero] at hst
    rw [hst, hr2]
    congr 3
    have e1 : (flatQ (ps.drop j) ++ r1).toArray.toList.take ((ps.length - j) * 68) = flatQ (ps.drop j) := by
      show (flatQ (ps.drop j) ++ r1).take _ = _
      rw [← hfl, List.take_left]
    rw [e1]
    simp
  refine ⟨W1, W1.setRow g (flatQ (ps.drop j) ++ r2).toArray, happ', fun ty => ?_, ?_, hK1.setRow g _ (Or.inl (by simp))⟩
  · obtain ⟨j', rfl⟩ : ∃ j', j = j' + 1 := ⟨j - 1, by omega⟩
    have hz0' : i.zero = some (.agg (penC zeroP).toArray) := hz0
    rw [hzs] at hst'
    simp [Builtin.clear_, run_underlying Tryz.underlying26, zeroValue, typeInfo, hi, hz0', Value.cells, hst']
  · exact ownP_of_row hdw (setRow_heap W1 g _ _ _ (0, 0) hrow1) (by simp) (by simp; omega) hmx hr2l
set_option maxHeartbeats 4000000 in
theorem delete_some {w : World} {g cap : Nat} {ps : List Pen} (h : OwnP w (.slice (some ⟨g, 0, none⟩) ps.length cap) ps) (hw : ∀ p ∈ ps, p.Wf) (hl : ps.length ≤ 8) (j : Nat) (hj : 0 < j) (hjl : j ≤ ps.length) :
    Calls Tryz.prog 108 #[.slice (some ⟨g, 0, none⟩) ps.length cap, nu 0, nu (j : Int)] w fun e w' => e = .returned (.slice (some ⟨g, 0, none⟩) (ps.length - j) cap) ∧ OwnP w' (.slice (some ⟨g, 0, none⟩) (ps.length - j) cap) (ps.drop j) ∧ Kp [g] w w' := by
  obtain ⟨rest, hrow, -, hcap, hmx, hsz⟩ := h.row
  have q1 : ∀ W, (Instr.slice 26 (.slice (some ⟨g, 0, none⟩) ps.length cap) (some (nu 0)) (some (nu (j : Int))) (some (nu (ps.length : Int)))).run Tryz.prog W = .ok (.slice (if ps.length = 0 then some ⟨g, 0, none⟩ else (some (⟨g, 0, none⟩ : Addr)).map (·.add 0)) j ps.length) W := fun W => run_cut3 _ _ Tryz.underlying26 68 sizePen _ ps.length cap j hjl hcap
  have q2 : ∀ W, (Instr.slice 26 (.slice (some ⟨g, 0, none⟩) ps.length cap) none (some (nu 0)) none).run Tryz.prog W = .ok (.slice (some ⟨g, 0, none⟩) 0 cap) W := fun W => by
    have := run_cutTo (P := Tryz.prog) (w := W) _ _ Tryz.underlying26 68 sizePen (some ⟨g, 0, none⟩) ps.length cap 0 (Nat.zero_le _)
    rw [if_neg (by omega)] at this
    simpa [add_none] using this
  obtain ⟨av, hav, hav2⟩ : ∃ av : Addr, (if cap = j then some (⟨g, 0, none⟩ : Addr) else (some (⟨g, 0, none⟩ : Addr)).map (·.add (j * 68))) = some av ∧ (ps.length - j ≠ 0 → av = ⟨g, j * 68, none⟩) := by
    by_cases e : cap = j
    · exact ⟨_, if_pos e, fun hh => by omega⟩
    · exact ⟨⟨g, j * 68, none⟩, by rw [if_neg e]; simp [add_none], fun _ => rfl⟩
  have q3 : ∀ W, (Instr.slice 26 (.slice (some ⟨g, 0, none⟩) ps.length cap) (some (nu (j : Int))) none none).run Tryz.prog W = .ok (.slice (some av) (ps.length - j) (cap - j)) W := fun W => by
    have := run_cutFrom (P := Tryz.prog) (w := W) _ _ Tryz.underlying26 68 sizePen (some ⟨g, 0, none⟩) ps.length cap j hjl
    rw [hav] at this
    exact this
  have q4 : ∀ W, (Instr.slice 26 (.slice (some ⟨g, 0, none⟩) (ps.length - j) cap) (some (nu ((ps.length - j : Nat) : Int))) (some (nu (ps.length : Int))) none).run Tryz.prog W = .ok (.slice (some ⟨g, (ps.length - j) * 68, none⟩) j (cap - (ps.length - j))) W := fun W => by
    have := run_cutMid (P := Tryz.prog) (w := W) _ _ Tryz.underlying26 68 sizePen (some ⟨g, 0, none⟩) (ps.length - j) cap (ps.length - j) ps.length (by omega) hcap
    rw [if_neg (by omega), show ps.length - (ps.length - j) = j by omega] at this
    simpa [add_none] using this
  obtain ⟨W1, W2, r1, r2, r3, r4⟩ := delete_rows (w := World.drew w) (h.kept (Below.refl _ _ : Below w.heap.size w w).drew) hw j hj hjl av hav2
  have R1 := hid r1
  have R2 := hid r2
  have R3 := hid r3
  have R4 : Hid (Kp [g] w W2) := ((Kp.refl [g] w).drew).trans r4
  have dj : ((0 : Int) == (j : Int)) = false := by simp; omega
  have dj' : (0 == j) = false := by simp; omega
  clear r1 r2 r3 r4 hav hav2 hrow hsz h hw hmx
  generalize ps.length - j = m at *
  generalize (Value.slice (if ps.length = 0 then some ⟨g, 0, none⟩ else (some (⟨g, 0, none⟩ : Addr)).map (·.add 0)) j ps.length) = vv at *
  generalize ps.length = n at *
  go_enter Tryz.func108, Tryz.ntmps108
  go_wp2_with fail
  refine wp_region_still_tail 6 (by kernel_rfl) (by kernel_rfl) ?_
  simp only [List.take_succ_cons, List.take_zero, List.drop_succ_cons, List.drop_zero]
  change wpStill _ _ (World.drew w) (fun a' => wpList _ _ _ _ a' (World.drew w)) _ _
  iterate 6 still_step
  refine wpStill_nil ?_
  go_wp2_with (first
    | (at_builtin; refine wl_app_pens rfl _ _ _ rfl _ _ rfl rfl _ W1 R1.out ?_)
    | (refine wl_clear rfl rfl _ _ rfl _ rfl W2 (R2.out _) ?_))
  go_ret
  exact ⟨rfl, R3.out, R4.out⟩
theorem delete_any {w : World} {v : Value} {ps : List Pen} (h : OwnP w v ps) (hw : ∀ p ∈ ps, p.Wf) (hl : ps.length ≤ 8) (j : Nat) (hjl : j ≤ ps.length) :
    Calls Tryz.prog 108 #[v, nu 0, nu (j : Int)] w fun e w' => ∃ v', e = .returned v' ∧ OwnP w' v' (ps.drop j) ∧ v'.ownBlock = v.ownBlock ∧ Kp v.ownBlock.toList w w' := by
  by_cases hj : j = 0
  · subst hj
    refine (delete_zero h hl).mono ?_
    rintro e w' ⟨rfl, hw'⟩
    subst w'
    exact ⟨v, rfl, h, rfl, Kp.refl _ _⟩
  · rcases h.form with ⟨rfl, rfl⟩ | ⟨g, cap, cur, rfl, -⟩
    · simp at hjl
      exact absurd hjl hj
    · refine (delete_some h hw hl j (by omega) hjl).mono ?_
      rintro e w' ⟨rfl, h2, h3⟩
      exact ⟨_, rfl, h2, rfl, h3⟩
set_option maxHeartbeats 4000000 in
theorem cutf_any {w : World} {v : Value} {ps : List Pen} (h : OwnP w v ps) (hw : ∀ p ∈ ps, p.Wf) (hl : ps.length ≤ 8) (c n : Int) (c1 c2 : Nat) (h1 : w.cell? ⟨c1, 0, none⟩ = some (nu c)) (h2 : w.cell? ⟨c2, 0, none⟩ = some (nu n)) :
    Calls Tryz.prog 105 #[v, .pointer (some ⟨c1, 0, none⟩), .pointer (some ⟨c2, 0, none⟩)] w fun e w' => ∃ v', e = .returned v' ∧ OwnP w' v' (cutP c n ps) ∧ v'.ownBlock = v.ownBlock ∧ Kp v.ownBlock.toList w w' := by
  have HX := hid (indexB_any c n c1 c2 ps hl hw w v (h.pens hw) h1 h2)
  unfold tstB at HX
  obtain ⟨j, hj, hjl, hc⟩ := cut_idx c n ps
  have HD := hid (fun (W : World) (hb : Below w.heap.size w W) => delete_any (h.kept hb) hw hl j hjl)
  have hir : -1 ≤ idxI c n ps ∧ idxI c n ps ≤ 8 := by omega
  rw [hc]
  have hid1 : idxI c n ps = (j : Int) - 1 := by omega
  rw [hid1] at HX
  clear h hw h1 h2 hc hid1 hir hj
  have hj8 : j ≤ 8 := by omega
  have hjj : (j : Int) - 1 + 1 = (j : Int) := by omega
  generalize hJ : (j : Int) - 1 = jm at *
  go_enter Tryz.func105, Tryz.ntmps105
  go_wp2_with fail
  refine HX.out.mono ?_
  rintro e w1 ⟨rfl, hb⟩
  have HD1 := hid (HD.out w1 hb)
  have HB := hid hb
  clear hb HX HD
  go_wp2_with fail
  refine HD1.out.mono ?_
  rintro e w2 ⟨v', rfl, ho, hv, hk⟩
  have HO := hid ho
  have HV := hid hv
  have HK : Hid (Kp v.ownBlock.toList w w2) := (Kp.of (X := v.ownBlock.toList) HB.out).trans hk
  clear ho hv hk
  go_wp2
  go_ret
  exact ⟨_, rfl, HO.out, HV.out, HK.out⟩
def cutV (c1 c2 : Nat) : Value := .func (.func 105) #[] #[.pointer (some ⟨c1, 0, none⟩), .pointer (some ⟨c2, 0, none⟩)]
set_option maxHeartbeats 2000000 in
theorem behind_any (w : World) (c n : Int) : Calls Tryz.prog 70 #[nu c, nu n] w fun e w' => e = .returned (cutV w.heap.size (w.heap.size + 1)) ∧ w'.cell? ⟨w.heap.size, 0, none⟩ = some (nu c) ∧ w'.cell? ⟨w.heap.size + 1, 0, none⟩ = some (nu n) ∧ Below w.heap.size w w' := by
  have hp : (w.alloc (.cells #[nu c] 3)).heap.size = w.heap.size + 1 := by simp
  have h1 : ((w.alloc (.cells #[nu c] 3)).alloc (.cells #[nu n] 3)).cell? ⟨w.heap.size, 0, none⟩ = some (nu c) := row_seg (off := 0) (A := []) (cs := [nu c]) (C := []) (row_kept (top_obj w (.cells #[nu c] 3)) (below_a1 _ _)) (by simp) rfl 0 _ rfl
  have h2 : ((w.alloc (.cells #[nu c] 3)).alloc (.cells #[nu n] 3)).cell? ⟨w.heap.size + 1, 0, none⟩ = some (nu n) := by
    have := top_obj (w.alloc (.cells #[nu c] 3)) (.cells #[nu n] 3)
    rw [hp] at this
    exact row_seg (off := 0) (A := []) (cs := [nu n]) (C := []) this (by simp) rfl 0 _ rfl
  have h3 := hid (below_two (below_a1 w (.cells #[nu c] 3)) (below_a1 _ (.cells #[nu n] 3)))
  unfold cutV
  go_enter Tryz.func70, Tryz.ntmps70
  go_wp2
  go_ret
  exact ⟨rfl, h1, h2, h3.out⟩
end Go.Proofs.YtidlgecognedlaaGreatDoor.Ms

/-
  A commit that is refused (Commit).
-/
namespace Go.Proofs.YtidlgecognedlaaGreatDoor.Ms
open Go Go.RowKit
set_option maxRecDepth 100000

/-- What a commit comes to. -/
def ComPost (w : World) (p : Nat) (q rs : List Nat) (R : Rs) (c : Int) (v t : List UInt8) (e : Ending) (w' : World) : Prop :=
  ∃ q' rs' vs' vP', e = .returned (nu (comE R c v t)) ∧ RA w' p q' rs' (comR R c v t) vs' vP' ∧ Kp (p :: q) w w' ∧ ∀ b ∈ q' ++ rs', b ∈ q ++ rs ∨ w.heap.size ≤ b
theorem com_err {w : World} {p : Nat} {q rs : List Nat} {R : Rs} {vs : List Value} {vP : Value} (h : RA w p q rs R vs vP) {c : Int} {v t : List UInt8} (he : comE R c v t ≠ 0) {w' : World} (hb : Below w.heap.size w w') :
    ComPost w p q rs R c v t (.returned (nu (comE R c v t))) w' := by
  have h2 : comR R c v t = R := by unfold comR; rw [if_pos he]
  unfold ComPost
  rw [h2]
  exact ⟨q, rs, vs, vP, rfl, h.kept hb, Kp.of hb, fun b hb => Or.inl hb⟩
theorem com_wf {c : Int} {v t : List UInt8} (ht : t.length = 32) : (comM c v t).Wf := ⟨wfZeroS, wfZeroR, ht, rfl, wfZeroB⟩
theorem com_rng {c : Int} {v t : List UInt8} (hc : I64 c) : (comM c v t).Rng := by
  have h := zeroM_rng 3 c ⟨by decide, by decide⟩ hc
  exact ⟨h.kind, h.client, h.sn, h.sk, h.st, h.rn, h.rl, h.rv, h.who, h.bo, h.bn, h.ns, h.ps⟩
theorem byte_at (y : List UInt8) (j : Nat) (h : j < (⟨y.toArray⟩ : ByteArray).size) : ((⟨y.toArray⟩ : ByteArray)[j]'h).toNat = (y.getD j 0).toNat := by
  have hj : j < y.length := h
  simp [ByteArray.getElem_eq_getElem_data, List.getD, hj]
set_option maxHeartbeats 8000000 in
theorem commit_a {w : World} {p : Nat} {q rs : List Nat} {R : Rs} {vs : List Value} {vP : Value} (h : RA w p q rs R vs vP) {c : Int} {v t : List UInt8} (htl : t.length = 32) (h1 : hasB R.n c = false) :
    Calls Tryz.prog 22 #[.pointer (some ⟨p, 0, none⟩), nu c, st v, .agg (dg t).toArray] w (ComPost w p q rs R c v t) := by
  have hcode : comE R c v t = 2 := by unfold comE comOk; rw [h1]; rfl
  have B1 := hid (below_a1 w (.cells (dg t).toArray 23))
  have T1 := hid (top_obj w (.cells (dg t).toArray 23))
  have H1 := hid (h.kept B1.out)
  have HM := hid (made_any H1.out)
  have HH := hid (has_any H1.out c)
  have ZT : (Tryz.prog.info? 23).map (·.size) = some (dg t).length := by rw [dg_len, htl]; exact sizeDig
  have HEnd : Hid (∀ w', Below w.heap.size w w' → ComPost w p q rs R c v t (.returned (nu 2)) w') := fun w' hb => by
    have := com_err h (c := c) (v := v) (t := t) (by rw [hcode]; decide) hb
    rwa [hcode] at this
  rw [h1] at HH
  clear h hcode h1 T1 ZT htl
  show Calls _ _ _ _ (fun e w' => ComPost w p q rs R c v t e w')
  generalize dg t = TT at *
  go_enter Tryz.func22, Tryz.ntmps22
  go_upto_region 1 with fail
  generalize w.alloc (.cells TT.toArray 23) = W1 at *
  have hB1 : w.heap.size ≤ W1.heap.size := B1.out.size
  generalize w.heap.size = X at *
  go_wp2_with fail
  refine HM.out.mono ?_
  rintro e w1 ⟨rfl, hw1⟩
  subst w1
  go_wp2_with fail
  refine HH.out.mono ?_
  rintro e w1 ⟨rfl, hw1⟩
  subst w1
  go_wp2
  go_ret
  exact HEnd.out _ B1.out
set_option maxHeartbeats 8000000 in
theorem commit_b {w : World} {p : Nat} {q rs : List Nat} {R : Rs} {vs : List Value} {vP : Value} (h : RA w p q rs R vs vP) {c : Int} {v t : List UInt8} (htl : t.length = 32) (hc : I64 c) (ht : Tb w) (h1 : hasB R.n c = true) (h2 : mayB (comM c v t) = false) :
    Calls Tryz.prog 22 #[.pointer (some ⟨p, 0, none⟩), nu c, st v, .agg (dg t).toArray] w (ComPost w p q rs R c v t) := by
  have hcode : comE R c v t = 2 := by unfold comE comOk; rw [h1, h2]; rfl
  have B1 := hid (below_a1 w (.cells (dg t).toArray 23))
  have T1 := hid (top_obj w (.cells (dg t).toArray 23))
  have H1 := hid (h.kept B1.out)
  have HM := hid (made_any H1.out)
  have HH := hid (has_any H1.out c)
  have ZT : (Tryz.prog.info? 23).map (·.size) = some (dg t).length := by rw [dg_len, htl]; exact sizeDig
  have HEnd : Hid (∀ w', Below w.heap.size w w' → ComPost w p q rs R c v t (.returned (nu 2)) w') := fun w' hb => by
    have := com_err h (c := c) (v := v) (t := t) (by rw [hcode]; decide) hb
    rwa [hcode] at this
  have SX := hid (row_seg (off := 0) (A := []) (cs := dg t) (C := []) T1.out (by simp) rfl)
  have HBm := hid (fun W => build_comm W c v t htl)
  have HMy := hid (rmay_any (vP := .slice none 0 0) (vN := .slice none 0 0) (com_wf (c := c) (v := v) htl) (com_rng hc) (PensAt.nil (w.alloc (.cells (dg t).toArray 23))) (IntsAt.nil _) ⟨Nat.zero_le _, Nat.zero_le _⟩ (by show (3 : Int) ≠ 2; decide) (ht.stays B1.out))
  rw [h2] at HMy
  rw [h1] at HH
  clear h hcode h1 h2 T1 htl hc ht
  show Calls _ _ _ _ (fun e w' => ComPost w p q rs R c v t e w')
  generalize msgC (comM c v t) (.slice none 0 0) (.slice none 0 0) = MV at *
  generalize dg t = TT at *
  go_enter Tryz.func22, Tryz.ntmps22
  go_upto_region 1 with fail
  generalize w.alloc (.cells TT.toArray 23) = W1 at *
  have hB1 : w.heap.size ≤ W1.heap.size := B1.out.size
  generalize w.heap.size = X at *
  go_wp2_with fail
  refine HM.out.mono ?_
  rintro e w1 ⟨rfl, hw1⟩
  subst w1
  go_wp2_with fail
  refine HH.out.mono ?_
  rintro e w1 ⟨rfl, hw1⟩
  subst w1
  go_wp2_with (first
    | ((with_reducible refine wl_load 23 (.tmp 7) ?_ X 0 ?_ ?_ TT _ SX.out Tryz.underlying23 ?_ ZT ?_); exact rfl; exact rfl; exact rfl; exact rfl)
    | ((with_reducible refine wl_buildL 33 [(0, .const (nu 3)), (1, .tmp 20), (4, .tmp 21), (6, .tmp 22)] ?_ ?_ MV.toArray ?_ ?_); exact rfl; exact rfl; exact (HBm.out _)))
  refine HMy.out.mono ?_
  rintro e W2 ⟨rfl, hb2⟩
  have B2 := hid (below_two' B1.out hb2)
  clear hb2
  go_wp2
  go_ret
  exact HEnd.out _ B2.out
set_option maxHeartbeats 8000000 in
theorem commit_c {w : World} {p : Nat} {q rs : List Nat} {R : Rs} {vs : List Value} {vP : Value} (h : RA w p q rs R vs vP) {k : Nat} (hk : k < 8) {v t : List UInt8} (htl : t.length = 32) (ht : Tb w) (hok : comOk R (k : Int) v t = true) (h3 : lastI v ≠ (k : Int)) :
    Calls Tryz.prog 22 #[.pointer (some ⟨p, 0, none⟩), nu (k : Int), st v, .agg (dg t).toArray] w (ComPost w p q rs R (k : Int) v t) := by
  obtain ⟨h1, h2⟩ : hasB R.n (k : Int) = true ∧ mayB (comM (k : Int) v t) = true := by simpa [comOk, Bool.and_eq_true] using hok
  obtain ⟨-, hne, hvl, -⟩ := comOk_parts hok
  have hc : I64 (k : Int) := ⟨by omega, by omega⟩
  have B1 := hid (below_a1 w (.cells (dg t).toArray 23))
  have T1 := hid (top_obj w (.cells (dg t).toArray 23))
  have H1 := hid (h.kept B1.out)
  have HM := hid (made_any H1.out)
  have HH := hid (has_any H1.out (k : Int))
  have ZT : (Tryz.prog.info? 23).map (·.size) = some (dg t).length := by rw [dg_len, htl]; exact sizeDig
  have hcode : comE R (k : Int) v t = 3 := by unfold comE; rw [if_neg (by rw [hok]; simp), if_pos (Or.inl h3)]
  have HEnd : Hid (∀ w', Below w.heap.size w w' → ComPost w p q rs R (k : Int) v t (.returned (nu 3)) w') := fun w' hb => by
    have := com_err h (c := (k : Int)) (v := v) (t := t) (by rw [hcode]; decide) hb
    rwa [hcode] at this
  have SX := hid (row_seg (off := 0) (A := []) (cs := dg t) (C := []) T1.out (by simp) rfl)
  have HBm := hid (fun W => build_comm W (k : Int) v t htl)
  have HMy := hid (rmay_any (vP := .slice none 0 0) (vN := .slice none 0 0) (com_wf (c := (k : Int)) (v := v) htl) (com_rng hc) (PensAt.nil (w.alloc (.cells (dg t).toArray 23))) (IntsAt.nil _) ⟨Nat.zero_le _, Nat.zero_le _⟩ (by show (3 : Int) ≠ 2; decide) (ht.stays B1.out))
  rw [h2] at HMy
  rw [h1] at HH
  obtain ⟨AN, HAN⟩ : ∃ AN, Hid (AN = (R.regs.getD k zeroG).asked.number) := ⟨_, rfl⟩
  obtain ⟨m, hm⟩ : ∃ m, v.length = m + 1 := by
    cases v with
    | nil => exact absurd rfl hne
    | cons a l => exact ⟨l.length, rfl⟩
  have hss : (⟨v.toArray⟩ : ByteArray).size = m + 1 := hm
  have hq : ((⟨v.toArray⟩ : ByteArray)[m]'(by rw [hss]; omega)).toNat = (v.getD m 0).toNat := byte_at v m _
  have HLI : Hid (lastI v = (((v.getD m 0).toNat : Nat) : Int)) := by show _ = _; unfold lastI; rw [hm]; rfl
  obtain ⟨bb, HBB⟩ : ∃ bb : Nat, Hid (bb = (v.getD m 0).toNat) := ⟨_, rfl⟩
  have hbb : bb < 256 := by rw [HBB.out]; exact UInt8.toNat_lt _
  rw [← HBB.out] at hq HLI
  have hw6 : wrap64 (bb : Int) = (bb : Int) := by unfold wrap64; omega
  have hd : ((bb : Int) != (k : Int)) = true := by
    rw [HLI.out] at h3
    exact bne_iff_ne.2 h3
  have hd' : (bb != k) = true := by
    rw [HLI.out] at h3
    exact bne_iff_ne.2 (fun e => h3 (by rw [e]))
  clear h h1 h2 T1 hc ht hne hok HBB h3 hcode HLI htl
  show Calls _ _ _ _ (fun e w' => ComPost w p q rs R (k : Int) v t e w')
  generalize msgC (comM (k : Int) v t) (.slice none 0 0) (.slice none 0 0) = MV at *
  generalize dg t = TT at *
  go_enter Tryz.func22, Tryz.ntmps22
  go_upto_region 1 with fail
  generalize w.alloc (.cells TT.toArray 23) = W1 at *
  have hB1 : w.heap.size ≤ W1.heap.size := B1.out.size
  generalize w.heap.size = X at *
  go_wp2_with fail
  refine HM.out.mono ?_
  rintro e w1 ⟨rfl, hw1⟩
  subst w1
  go_wp2_with fail
  refine HH.out.mono ?_
  rintro e w1 ⟨rfl, hw1⟩
  subst w1
  go_wp2_with (first
    | ((with_reducible refine wl_load 23 (.tmp 7) ?_ X 0 ?_ ?_ TT _ SX.out Tryz.underlying23 ?_ ZT ?_); exact rfl; exact rfl; exact rfl; exact rfl)
    | ((with_reducible refine wl_buildL 33 [(0, .const (nu 3)), (1, .tmp 20), (4, .tmp 21), (6, .tmp 22)] ?_ ?_ MV.toArray ?_ ?_); exact rfl; exact rfl; exact (HBm.out _)))
  refine HMy.out.mono ?_
  rintro e W2 ⟨rfl, hb2⟩
  have B2 := hid (below_two' B1.out hb2)
  have H2 := hid (H1.out.kept hb2)
  have hb12 : W1.heap.size ≤ W2.heap.size := hb2.size
  have cn2 : W2.cell? ⟨p, 1 + k * 204, none⟩ = some (nu AN) := by rw [HAN.out]; exact H2.out.anum hk
  have hXs2 : X ≤ W2.heap.size := by omega
  clear hb2 H1 HM HH HMy HBm SX
  go_wp2
  go_ret
  exact HEnd.out _ B2.out
set_option maxHeartbeats 8000000 in
theorem commit_d {w : World} {p : Nat} {q rs : List Nat} {R : Rs} {vs : List Value} {vP : Value} (h : RA w p q rs R vs vP) {k : Nat} (hk : k < 8) {v t : List UInt8} (htl : t.length = 32) (ht : Tb w) (hok : comOk R (k : Int) v t = true) (h3 : lastI v = (k : Int)) (h4 : (Hist.cnt v (k : Int) : Int) ≠ (R.reg (k : Int)).asked.number) :
    Calls Tryz.prog 22 #[.pointer (some ⟨p, 0, none⟩), nu (k : Int), st v, .agg (dg t).toArray] w (ComPost w p q rs R (k : Int) v t) := by
  obtain ⟨h1, h2⟩ : hasB R.n (k : Int) = true ∧ mayB (comM (k : Int) v t) = true := by simpa [comOk, Bool.and_eq_true] using hok
  obtain ⟨-, hne, hvl, -⟩ := comOk_parts hok
  have hc : I64 (k : Int) := ⟨by omega, by omega⟩
  have B1 := hid (below_a1 w (.cells (dg t).toArray 23))
  have T1 := hid (top_obj w (.cells (dg t).toArray 23))
  have H1 := hid (h.kept B1.out)
  have HM := hid (made_any H1.out)
  have HH := hid (has_any H1.out (k : Int))
  have ZT : (Tryz.prog.info? 23).map (·.size) = some (dg t).length := by rw [dg_len, htl]; exact sizeDig
  have hcode : comE R (k : Int) v t = 3 := by unfold comE; rw [if_neg (by rw [hok]; simp), if_pos (Or.inr h4)]
  have HEnd : Hid (∀ w', Below w.heap.size w w' → ComPost w p q rs R (k : Int) v t (.returned (nu 3)) w') := fun w' hb => by
    have := com_err h (c := (k : Int)) (v := v) (t := t) (by rw [hcode]; decide) hb
    rwa [hcode] at this
  have SX := hid (row_seg (off := 0) (A := []) (cs := dg t) (C := []) T1.out (by simp) rfl)
  have HBm := hid (fun W => build_comm W (k : Int) v t htl)
  have HMy := hid (rmay_any (vP := .slice none 0 0) (vN := .slice none 0 0) (com_wf (c := (k : Int)) (v := v) htl) (com_rng hc) (PensAt.nil (w.alloc (.cells (dg t).toArray 23))) (IntsAt.nil _) ⟨Nat.zero_le _, Nat.zero_le _⟩ (by show (3 : Int) ≠ 2; decide) (ht.stays B1.out))
  rw [h2] at HMy
  rw [h1] at HH
  obtain ⟨AN, HAN⟩ : ∃ AN, Hid (AN = (R.regs.getD k zeroG).asked.number) := ⟨_, rfl⟩
  obtain ⟨m, hm⟩ : ∃ m, v.length = m + 1 := by
    cases v with
    | nil => exact absurd rfl hne
    | cons a l => exact ⟨l.length, rfl⟩
  have hss : (⟨v.toArray⟩ : ByteArray).size = m + 1 := hm
  have hq : ((⟨v.toArray⟩ : ByteArray)[m]'(by rw [hss]; omega)).toNat = (v.getD m 0).toNat := byte_at v m _
  have HLI : Hid (lastI v = (((v.getD m 0).toNat : Nat) : Int)) := by show _ = _; unfold lastI; rw [hm]; rfl
  obtain ⟨bb, HBB⟩ : ∃ bb : Nat, Hid (bb = (v.getD m 0).toNat) := ⟨_, rfl⟩
  have hbb : bb < 256 := by rw [HBB.out]; exact UInt8.toNat_lt _
  rw [← HBB.out] at hq HLI
  have hw6 : wrap64 (bb : Int) = (bb : Int) := by unfold wrap64; omega
  have hd : ((bb : Int) != (k : Int)) = false := by
    rw [HLI.out] at h3
    rw [h3]; exact bne_self_eq_false _
  have hd' : (bb != k) = false := by
    rw [HLI.out] at h3
    have : bb = k := by omega
    rw [this]; exact bne_self_eq_false _
  have HCn := hid (fun W => Hist.count_any v (by omega) (k : Int) W)
  have h5 : (Hist.cnt v (k : Int) : Int) ≠ AN := by rw [HAN.out]; exact h4
  generalize Hist.cnt v (k : Int) = cv at *
  have hd2 : ((cv : Int) != AN) = true := bne_iff_ne.2 h5
  clear h h1 h2 T1 hc ht hne hok HBB h3 h4 h5 hcode HLI htl
  show Calls _ _ _ _ (fun e w' => ComPost w p q rs R (k : Int) v t e w')
  generalize msgC (comM (k : Int) v t) (.slice none 0 0) (.slice none 0 0) = MV at *
  generalize dg t = TT at *
  go_enter Tryz.func22, Tryz.ntmps22
  go_upto_region 1 with fail
  generalize w.alloc (.cells TT.toArray 23) = W1 at *
  have hB1 : w.heap.size ≤ W1.heap.size := B1.out.size
  generalize w.heap.size = X at *
  go_wp2_with fail
  refine HM.out.mono ?_
  rintro e w1 ⟨rfl, hw1⟩
  subst w1
  go_wp2_with fail
  refine HH.out.mono ?_
  rintro e w1 ⟨rfl, hw1⟩
  subst w1
  go_wp2_with (first
    | ((with_reducible refine wl_load 23 (.tmp 7) ?_ X 0 ?_ ?_ TT _ SX.out Tryz.underlying23 ?_ ZT ?_); exact rfl; exact rfl; exact rfl; exact rfl)
    | ((with_reducible refine wl_buildL 33 [(0, .const (nu 3)), (1, .tmp 20), (4, .tmp 21), (6, .tmp 22)] ?_ ?_ MV.toArray ?_ ?_); exact rfl; exact rfl; exact (HBm.out _)))
  refine HMy.out.mono ?_
  rintro e W2 ⟨rfl, hb2⟩
  have B2 := hid (below_two' B1.out hb2)
  have H2 := hid (H1.out.kept hb2)
  have hb12 : W1.heap.size ≤ W2.heap.size := hb2.size
  have cn2 : W2.cell? ⟨p, 1 + k * 204, none⟩ = some (nu AN) := by rw [HAN.out]; exact H2.out.anum hk
  have hXs2 : X ≤ W2.heap.size := by omega
  clear hb2 H1 HM HH HMy HBm SX
  go_wp2_with fail
  refine (HCn.out _).mono ?_
  rintro e W3 ⟨rfl, hb3⟩
  have B3 := hid (below_two' B2.out hb3)
  clear hb3
  go_wp2
  go_ret
  exact HEnd.out _ B3.out
set_option maxHeartbeats 8000000 in
theorem commit_e {w : World} {p : Nat} {q rs : List Nat} {R : Rs} {vs : List Value} {vP : Value} (h : RA w p q rs R vs vP) {k : Nat} (hk : k < 8) {v t : List UInt8} (htl : t.length = 32) (ht : Tb w) (hok : comOk R (k : Int) v t = true) (h3 : lastI v = (k : Int)) (h4 : (Hist.cnt v (k : Int) : Int) = (R.reg (k : Int)).asked.number) (h6 : (Hist.cnt (R.reg (k : Int)).view (k : Int) : Int) = (R.reg (k : Int)).asked.number) :
    Calls Tryz.prog 22 #[.pointer (some ⟨p, 0, none⟩), nu (k : Int), st v, .agg (dg t).toArray] w (ComPost w p q rs R (k : Int) v t) := by
  obtain ⟨h1, h2⟩ : hasB R.n (k : Int) = true ∧ mayB (comM (k : Int) v t) = true := by simpa [comOk, Bool.and_eq_true] using hok
  obtain ⟨-, hne, hvl, -⟩ := comOk_parts hok
  have hc : I64 (k : Int) := ⟨by omega, by omega⟩
  have B1 := hid (below_a1 w (.cells (dg t).toArray 23))
  have T1 := hid (top_obj w (.cells (dg t).toArray 23))
  have H1 := hid (h.kept B1.out)
  have HM := hid (made_any H1.out)
  have HH := hid (has_any H1.out (k : Int))
  have ZT : (Tryz.prog.info? 23).map (·.size) = some (dg t).length := by rw [dg_len, htl]; exact sizeDig
  have hcode : comE R (k : Int) v t = 10 := by unfold comE; rw [if_neg (by rw [hok]; simp), if_neg (by omega), if_pos h6]
  have HEnd : Hid (∀ w', Below w.heap.size w w' → ComPost w p q rs R (k : Int) v t (.returned (nu 10)) w') := fun w' hb => by
    have := com_err h (c := (k : Int)) (v := v) (t := t) (by rw [hcode]; decide) hb
    rwa [hcode] at this
  have SX := hid (row_seg (off := 0) (A := []) (cs := dg t) (C := []) T1.out (by simp) rfl)
  have HBm := hid (fun W => build_comm W (k : Int) v t htl)
  have HMy := hid (rmay_any (vP := .slice none 0 0) (vN := .slice none 0 0) (com_wf (c := (k : Int)) (v := v) htl) (com_rng hc) (PensAt.nil (w.alloc (.cells (dg t).toArray 23))) (IntsAt.nil _) ⟨Nat.zero_le _, Nat.zero_le _⟩ (by show (3 : Int) ≠ 2; decide) (ht.stays B1.out))
  rw [h2] at HMy
  rw [h1] at HH
  obtain ⟨AN, HAN⟩ : ∃ AN, Hid (AN = (R.regs.getD k zeroG).asked.number) := ⟨_, rfl⟩
  obtain ⟨m, hm⟩ : ∃ m, v.length = m + 1 := by
    cases v with
    | nil => exact absurd rfl hne
    | cons a l => exact ⟨l.length, rfl⟩
  have hss : (⟨v.toArray⟩ : ByteArray).size = m + 1 := hm
  have hq : ((⟨v.toArray⟩ : ByteArray)[m]'(by rw [hss]; omega)).toNat = (v.getD m 0).toNat := byte_at v m _
  have HLI : Hid (lastI v = (((v.getD m 0).toNat : Nat) : Int)) := by show _ = _; unfold lastI; rw [hm]; rfl
  obtain ⟨bb, HBB⟩ : ∃ bb : Nat, Hid (bb = (v.getD m 0).toNat) := ⟨_, rfl⟩
  have hbb : bb < 256 := by rw [HBB.out]; exact UInt8.toNat_lt _
  rw [← HBB.out] at hq HLI
  have hw6 : wrap64 (bb : Int) = (bb : Int) := by unfold wrap64; omega
  have hd : ((bb : Int) != (k : Int)) = false := by
    rw [HLI.out] at h3
    rw [h3]; exact bne_self_eq_false _
  have hd' : (bb != k) = false := by
    rw [HLI.out] at h3
    have : bb = k := by omega
    rw [this]; exact bne_self_eq_false _
  have HCn := hid (fun W => Hist.count_any v (by omega) (k : Int) W)
  have hvl2 : (R.regs.getD k zeroG).view.length ≤ 512 := (h.inv.reg (k : Int)).view
  obtain ⟨ov, HOV⟩ : ∃ ov, Hid (ov = (R.regs.getD k zeroG).view) := ⟨_, rfl⟩
  have HCo : Hid (∀ W, Calls Tryz.prog 69 #[st ov, nu (k : Int)] W fun e w' => e = .returned (nu (Hist.cnt ov (k : Int))) ∧ Below W.heap.size W w') := fun W => Hist.count_any ov (by rw [HOV.out]; omega) (k : Int) W
  have h5 : (Hist.cnt v (k : Int) : Int) = AN := by rw [HAN.out]; exact h4
  generalize Hist.cnt v (k : Int) = cv at *
  have hd2 : ((cv : Int) != AN) = false := by rw [h5]; exact bne_self_eq_false _
  have hd3 : ((Hist.cnt ov (k : Int) : Int) == AN) = true := by rw [HOV.out, HAN.out]; exact beq_iff_eq.2 h6
  generalize Hist.cnt ov (k : Int) = co at *
  clear h h1 h2 T1 hc ht hne hok HBB h3 h4 h5 h6 hcode HLI htl hvl2
  show Calls _ _ _ _ (fun e w' => ComPost w p q rs R (k : Int) v t e w')
  generalize msgC (comM (k : Int) v t) (.slice none 0 0) (.slice none 0 0) = MV at *
  generalize dg t = TT at *
  go_enter Tryz.func22, Tryz.ntmps22
  go_upto_region 1 with fail
  generalize w.alloc (.cells TT.toArray 23) = W1 at *
  have hB1 : w.heap.size ≤ W1.heap.size := B1.out.size
  generalize w.heap.size = X at *
  go_wp2_with fail
  refine HM.out.mono ?_
  rintro e w1 ⟨rfl, hw1⟩
  subst w1
  go_wp2_with fail
  refine HH.out.mono ?_
  rintro e w1 ⟨rfl, hw1⟩
  subst w1
  go_wp2_with (first
    | ((with_reducible refine wl_load 23 (.tmp 7) ?_ X 0 ?_ ?_ TT _ SX.out Tryz.underlying23 ?_ ZT ?_); exact rfl; exact rfl; exact rfl; exact rfl)
    | ((with_reducible refine wl_buildL 33 [(0, .const (nu 3)), (1, .tmp 20), (4, .tmp 21), (6, .tmp 22)] ?_ ?_ MV.toArray ?_ ?_); exact rfl; exact rfl; exact (HBm.out _)))
  refine HMy.out.mono ?_
  rintro e W2 ⟨rfl, hb2⟩
  have B2 := hid (below_two' B1.out hb2)
  have H2 := hid (H1.out.kept hb2)
  have hb12 : W1.heap.size ≤ W2.heap.size := hb2.size
  have cn2 : W2.cell? ⟨p, 1 + k * 204, none⟩ = some (nu AN) := by rw [HAN.out]; exact H2.out.anum hk
  have hXs2 : X ≤ W2.heap.size := by omega
  clear hb2 H1 HM HH HMy HBm SX
  go_wp2_with fail
  refine (HCn.out _).mono ?_
  rintro e W3 ⟨rfl, hb3⟩
  have B3 := hid (below_two' B2.out hb3)
  have H3 := hid (H2.out.kept hb3)
  have hs3 : X ≤ W3.heap.size := Nat.le_trans hXs2 hb3.size
  have cw3 : W3.cell? ⟨p, 1 + k * 204 + 171, none⟩ = some (st ov) := by rw [HOV.out]; exact H3.out.view hk
  clear hb3 H2 cn2 B2 HCn
  go_wp2_with fail
  refine (HCo.out _).mono ?_
  rintro e W4 ⟨rfl, hb4⟩
  have B4 := hid (below_two' B3.out hb4)
  clear hb4
  go_wp2
  go_ret
  exact HEnd.out _ B4.out
end Go.Proofs.YtidlgecognedlaaGreatDoor.Ms

/-
  A commit that is taken (Commit).
-/
namespace Go.Proofs.YtidlgecognedlaaGreatDoor.Ms
open Go Go.RowKit
set_option maxRecDepth 100000

theorem op_callV {P : Program} {o : Oper} {a : Act} {w : World} {Q : Exit → Act → World → Prop} {K : Act → World → Prop} (f : FuncId) (s x : Tmp) (ts : Array TypeId) (u c1 c2 : Value) (ho : o.op = .call { callee := .value (.tmp s), args := #[.tmp x], argTypes := ts }) (hc : ∀ args w, (callFunc f args).run P w = .ok (.enter f args) w) (hs : a.tmps.getD s undef = .func (.func f) #[] #[c1, c2]) (hx : a.tmps.getD x undef = u)
    {J : Value → World → Prop} (hm : Calls P f #[u, c1, c2] w fun e w' => ∃ v, e = .returned v ∧ J v w') (h : ∀ v w', J v w' → K (a.put o.dst v) w') : o.wp P a w K Q := by
  unfold Oper.wp execOp
  have e : (do let d ← resolve a.eval { callee := .value (.tmp s), args := #[.tmp x], argTypes := ts } o.type; invoke d.target d.args : Sem Next).run P w = .ok (.enter f #[u, c1, c2]) w := by
    have e0 : a.eval (.tmp s) = .func (.func f) #[] #[c1, c2] := hs
    have e1 : a.eval (.tmp x) = u := hx
    simp [resolve, Deferred.ofValue, invoke, hc, e0, e1]
  simp only [ho]
  rw [e]
  simp only [Oper.upon]
  refine hm.mono ?_
  rintro e w' ⟨v, rfl, hJ⟩
  exact h v w' hJ
theorem enter33 (args : Array Value) (w : World) : (callFunc 66 args).run Tryz.prog w = .ok (.enter 66 args) w := by kernel_rfl
theorem enter44 (args : Array Value) (w : World) : (callFunc 105 args).run Tryz.prog w = .ok (.enter 105 args) w := by kernel_rfl
theorem sizeDon : (Tryz.prog.info? 106).map (·.size) = some 33 := by kernel_rfl
theorem set_self {α : Type} (l : List α) (k : Nat) (d : α) (h : k < l.length) : l.set k (l.getD k d) = l := by
  rw [List.getD_eq_getElem?_getD, List.getElem?_eq_getElem h]
  simp
theorem ra_comS {w w' : World} {p : Nat} {q rs : List Nat} {R : Rs} {vs : List Value} {vP : Value} (h : RA w p q rs R vs vP) {k : Nat} (hk : k < 8) {v t : List UInt8} (ht : t.length = 32) (hv : v.length ≤ 512)
    (hr : w'.heap[p]? = some (.cells (preC R vs k ++ (regC { R.reg (k : Int) with view := v, tag := t } (vs.getD k undef) ++ posC R vs vP k)).toArray 111)) (hK : Kp [p] w w') : RA w' p q rs (comS R (k : Int) v t) vs vP := by
  have hl := h.inv.len
  have hvl := h.vlen
  have hne := h.ne
  refine ⟨h.inv.comS ht hv, hvl, ?_, fun i hi' => ?_, h.rblk, ?_, h.blk, hne, fun b hb => Nat.lt_of_lt_of_le (h.lt b hb) hK.size⟩
  · have e := row_set_reg h.inv hvl vP hk { R.reg (k : Int) with view := v, tag := t } (vs.getD k undef) (R' := comS R (k : Int) v t) rfl rfl rfl
    rw [set_self _ _ _ (by omega)] at e
    rw [e]
    exact hr
  · show OwnP w' _ (((R.regs.set (k : Int).toNat { R.reg (k : Int) with view := v, tag := t })).getD i zeroG).ans.pend
    have h1 := (h.reps i hi').kp hK (fun b hb hx => hne.2.1 (by simp at hx; rw [← hx]; exact h.rblk i hi' b hb))
    by_cases e : i = k
    · subst e
      rw [show ((i : Int).toNat) = i from rfl, getD_set_same _ _ _ _ (by omega)]
      exact h1
    · rw [show ((k : Int).toNat) = k from rfl, getD_set_other _ _ _ _ _ e]
      exact h1
  · exact h.own.kp hK (fun b hb hx => hne.1 (by simp at hx; rw [← hx]; exact h.blk b hb))
theorem ra_comL {w W w' : World} {p : Nat} {q rs : List Nat} {R : Rs} {vs : List Value} {vP v' : Value} {c : Int} {v t : List UInt8} (h : RA w p q rs (comS R c v t) vs vP) (hi : RInv (comL R c v t)) (hK : Kp (p :: q) w W) (ho : OwnP W v' (cutP c (R.reg c).asked.number R.pend)) (hb : ∀ b, v'.ownBlock = some b → vP.ownBlock = some b)
    (hr : w'.heap[p]? = some (.cells (rowR (comL R c v t) vs v').toArray 111)) (hK2 : Kp [p] W w') : RA w' p q rs (comL R c v t) vs v' := by
  have hne := h.ne
  refine ⟨hi, h.vlen, hr, fun i hi' => ?_, h.rblk, ?_, fun b hb' => h.blk b (hb b hb'), hne, fun b hb => Nat.lt_of_lt_of_le (h.lt b hb) (Nat.le_trans hK.size hK2.size)⟩
  · refine ((h.reps i hi').kp hK (fun b hb' hx => ?_)).kp hK2 (fun b hb' hx => hne.2.1 (by simp at hx; rw [← hx]; exact h.rblk i hi' b hb'))
    rcases List.mem_cons.1 hx with e | e
    · exact hne.2.1 (by rw [← e]; exact h.rblk i hi' b hb')
    · exact hne.2.2 b e (h.rblk i hi' b hb')
  · exact ho.kp hK2 (fun b hb' hx => hne.1 (by simp at hx; rw [← hx]; exact h.blk b (hb b hb')))
def vC14 (ps : List Pen) (vP : Value) (i : Nat) (u : Value) (w : World) : Prop := if i = 13 then OwnP w u ps ∧ ∀ b, u.ownBlock = some b → vP.ownBlock = some b else True
theorem vC14_13 {ps : List Pen} {vP u : Value} {w : World} : vC14 ps vP 13 u w ↔ (OwnP w u ps ∧ ∀ b, u.ownBlock = some b → vP.ownBlock = some b) := by unfold vC14; rw [if_pos rfl]
theorem vC14_kp {ps : List Pen} {vP u : Value} {i : Nat} {w w' : World} {X : List Nat} (h : vC14 ps vP i u w) (hk : Kp X w w') (hX : ∀ b, vP.ownBlock = some b → b ∉ X) : vC14 ps vP i u w' := by
  unfold vC14 at h ⊢
  split
  · rename_i e
    rw [if_pos e] at h
    exact ⟨h.1.kp hk (fun b hb => hX b (h.2 b hb)), h.2⟩
  · trivial
def vC11 (v t : List UInt8) (i : Nat) (u : Value) : Prop := if i = 2 then u = st v else u = .agg (donC v t).toArray
theorem vC11_2 {v t : List UInt8} {u : Value} : vC11 v t 2 u ↔ u = st v := by unfold vC11; rw [if_pos rfl]
theorem vC11_4 {v t : List UInt8} {u : Value} : vC11 v t 4 u ↔ u = .agg (donC v t).toArray := by unfold vC11; rw [if_neg (by decide)]
set_option maxHeartbeats 8000000 in
theorem commit_f {w : World} {p : Nat} {q rs : List Nat} {R : Rs} {vs : List Value} {vP : Value} (h : RA w p q rs R vs vP) {k : Nat} (hk : k < 8) {v t : List UInt8} (htl : t.length = 32) (ht : Tb w) (hok : comOk R (k : Int) v t = true) (h3 : lastI v = (k : Int)) (h4 : (Hist.cnt v (k : Int) : Int) = (R.reg (k : Int)).asked.number) (h6 : (Hist.cnt (R.reg (k : Int)).view (k : Int) : Int) ≠ (R.reg (k : Int)).asked.number) :
    Calls Tryz.prog 22 #[.pointer (some ⟨p, 0, none⟩), nu (k : Int), st v, .agg (dg t).toArray] w (ComPost w p q rs R (k : Int) v t) := by
  obtain ⟨h1, h2⟩ : hasB R.n (k : Int) = true ∧ mayB (comM (k : Int) v t) = true := by simpa [comOk, Bool.and_eq_true] using hok
  obtain ⟨-, hne, hvl, -⟩ := comOk_parts hok
  have hc : I64 (k : Int) := ⟨by omega, by omega⟩
  have B1 := hid (below_a1 w (.cells (dg t).toArray 23))
  have T1 := hid (top_obj w (.cells (dg t).toArray 23))
  have H1 := hid (h.kept B1.out)
  have HM := hid (made_any H1.out)
  have HH := hid (has_any H1.out (k : Int))
  have ZT : (Tryz.prog.info? 23).map (·.size) = some (dg t).length := by rw [dg_len, htl]; exact sizeDig
  have HEnd : Hid (∀ w' q' rs' vs' vP', RA w' p q' rs' (comR R (k : Int) v t) vs' vP' → Kp (p :: q) w w' → (∀ b ∈ q' ++ rs', b ∈ q ++ rs ∨ w.heap.size ≤ b) → ComPost w p q rs R (k : Int) v t (.returned (nu 0)) w') := fun w' q' rs' vs' vP' a1 a2 a3 => by
    have hc0 : comE R (k : Int) v t = 0 := by unfold comE; rw [if_neg (by rw [hok]; simp), if_neg (by omega), if_neg h6]
    unfold ComPost
    rw [hc0]
    exact ⟨q', rs', vs', vP', rfl, a1, a2, a3⟩
  have HRS : Hid (¬ R.long.length < v.length → comR R (k : Int) v t = comS R (k : Int) v t) := fun hs => by
    have hc0 : comE R (k : Int) v t = 0 := by unfold comE; rw [if_neg (by rw [hok]; simp), if_neg (by omega), if_neg h6]
    unfold comR
    rw [if_neg (by omega), if_neg hs]
  have HRL : Hid (R.long.length < v.length → comR R (k : Int) v t = comL R (k : Int) v t) := fun hs => by
    have hc0 : comE R (k : Int) v t = 0 := by unfold comE; rw [if_neg (by rw [hok]; simp), if_neg (by omega), if_neg h6]
    unfold comR
    rw [if_neg (by omega), if_pos hs]
  have SX := hid (row_seg (off := 0) (A := []) (cs := dg t) (C := []) T1.out (by simp) rfl)
  have HBm := hid (fun W => build_comm W (k : Int) v t htl)
  have HMy := hid (rmay_any (vP := .slice none 0 0) (vN := .slice none 0 0) (com_wf (c := (k : Int)) (v := v) htl) (com_rng hc) (PensAt.nil (w.alloc (.cells (dg t).toArray 23))) (IntsAt.nil _) ⟨Nat.zero_le _, Nat.zero_le _⟩ (by show (3 : Int) ≠ 2; decide) (ht.stays B1.out))
  rw [h2] at HMy
  rw [h1] at HH
  obtain ⟨AN, HAN⟩ : ∃ AN, Hid (AN = (R.regs.getD k zeroG).asked.number) := ⟨_, rfl⟩
  obtain ⟨m, hm⟩ : ∃ m, v.length = m + 1 := by
    cases v with
    | nil => exact absurd rfl hne
    | cons a l => exact ⟨l.length, rfl⟩
  have hss : (⟨v.toArray⟩ : ByteArray).size = m + 1 := hm
  have hq : ((⟨v.toArray⟩ : ByteArray)[m]'(by rw [hss]; omega)).toNat = (v.getD m 0).toNat := byte_at v m _
  have HLI : Hid (lastI v = (((v.getD m 0).toNat : Nat) : Int)) := by show _ = _; unfold lastI; rw [hm]; rfl
  obtain ⟨bb, HBB⟩ : ∃ bb : Nat, Hid (bb = (v.getD m 0).toNat) := ⟨_, rfl⟩
  have hbb : bb < 256 := by rw [HBB.out]; exact UInt8.toNat_lt _
  rw [← HBB.out] at hq HLI
  have hw6 : wrap64 (bb : Int) = (bb : Int) := by unfold wrap64; omega
  have hd : ((bb : Int) != (k : Int)) = false := by
    rw [HLI.out] at h3
    rw [h3]; exact bne_self_eq_false _
  have hd' : (bb != k) = false := by
    rw [HLI.out] at h3
    have : bb = k := by omega
    rw [this]; exact bne_self_eq_false _
  have HCn := hid (fun W => Hist.count_any v (by omega) (k : Int) W)
  have hvl2 : (R.regs.getD k zeroG).view.length ≤ 512 := (h.inv.reg (k : Int)).view
  obtain ⟨ov, HOV⟩ : ∃ ov, Hid (ov = (R.regs.getD k zeroG).view) := ⟨_, rfl⟩
  have HCo : Hid (∀ W, Calls Tryz.prog 69 #[st ov, nu (k : Int)] W fun e w' => e = .returned (nu (Hist.cnt ov (k : Int))) ∧ Below W.heap.size W w') := fun W => Hist.count_any ov (by rw [HOV.out]; omega) (k : Int) W
  have h5 : (Hist.cnt v (k : Int) : Int) = AN := by rw [HAN.out]; exact h4
  generalize Hist.cnt v (k : Int) = cv at *
  have hd2 : ((cv : Int) != AN) = false := by rw [h5]; exact bne_self_eq_false _
  have hd3 : ((Hist.cnt ov (k : Int) : Int) == AN) = false := by rw [HOV.out, HAN.out]; exact beq_false_of_ne h6
  generalize Hist.cnt ov (k : Int) = co at *
  have hGo : GOk (R.regs.getD k zeroG) := h.inv.reg (k : Int)
  have HCl := hid (fun W => Hist.clone_any v (by omega) W)
  have HBd := hid (fun W => build_don W v t htl)
  have hplt := row_ltA h.row
  have hlt := h.lt
  have HXB : Hid (∀ W, Below w.heap.size w W → Kp (p :: q) w W) := fun W h => Kp.of h
  have hll := h.inv.long
  have HINV := hid h.inv
  have TX := hid T1.out
  have HANR : Hid (AN = (R.reg (k : Int)).asked.number) := HAN.out
  have HIL := hid (h.inv.comL (c := (k : Int)) htl hvl ⟨by omega, by omega⟩)
  clear h h1 h2 T1 hc ht hne hok HBB h3 h4 h5 h6 HLI hvl2
  show Calls _ _ _ _ (fun e w' => ComPost w p q rs R (k : Int) v t e w')
  generalize msgC (comM (k : Int) v t) (.slice none 0 0) (.slice none 0 0) = MV at *
  generalize dg t = TT at *
  go_enter Tryz.func22, Tryz.ntmps22
  go_upto_region 1 with fail
  generalize w.alloc (.cells TT.toArray 23) = W1 at *
  have hB1 : w.heap.size ≤ W1.heap.size := B1.out.size
  generalize w.heap.size = X at *
  go_wp2_with fail
  refine HM.out.mono ?_
  rintro e w1 ⟨rfl, hw1⟩
  subst w1
  go_wp2_with fail
  refine HH.out.mono ?_
  rintro e w1 ⟨rfl, hw1⟩
  subst w1
  go_wp2_with (first
    | ((with_reducible refine wl_load 23 (.tmp 7) ?_ X 0 ?_ ?_ TT _ SX.out Tryz.underlying23 ?_ ZT ?_); exact rfl; exact rfl; exact rfl; exact rfl)
    | ((with_reducible refine wl_buildL 33 [(0, .const (nu 3)), (1, .tmp 20), (4, .tmp 21), (6, .tmp 22)] ?_ ?_ MV.toArray ?_ ?_); exact rfl; exact rfl; exact (HBm.out _)))
  refine HMy.out.mono ?_
  rintro e W2 ⟨rfl, hb2⟩
  have B2 := hid (below_two' B1.out hb2)
  have H2 := hid (H1.out.kept hb2)
  have hb12 : W1.heap.size ≤ W2.heap.size := hb2.size
  have cn2 : W2.cell? ⟨p, 1 + k * 204, none⟩ = some (nu AN) := by rw [HAN.out]; exact H2.out.anum hk
  have hXs2 : X ≤ W2.heap.size := by omega
  have TX2 := hid (row_kept TX.out hb2)
  clear hb2 H1 HM HH HMy HBm SX TX
  go_wp2_with fail
  refine (HCn.out _).mono ?_
  rintro e W3 ⟨rfl, hb3⟩
  have B3 := hid (below_two' B2.out hb3)
  have H3 := hid (H2.out.kept hb3)
  have hs3 : X ≤ W3.heap.size := Nat.le_trans hXs2 hb3.size
  have cw3 : W3.cell? ⟨p, 1 + k * 204 + 171, none⟩ = some (st ov) := by rw [HOV.out]; exact H3.out.view hk
  have TX3 := hid (row_kept TX2.out hb3)
  clear hb3 H2 cn2 B2 HCn
  go_wp2_with fail
  refine (HCo.out _).mono ?_
  rintro e W4 ⟨rfl, hb4⟩
  have B4 := hid (below_two' B3.out hb4)
  have H4 := hid (H3.out.kept hb4)
  have TX4 := hid (row_kept TX3.out hb4)
  have hs4 : X ≤ W4.heap.size := Nat.le_trans hs3 hb4.size
  clear hb4 H3 B3 cw3 hs3 TX3 TX2
  go_wp2_with fail
  have HbR := hid (fun (W : World) (q' rs' : List Nat) (R' : Rs) (vs' : List Value) (vP' : Value) (hW : RA W p q' rs' R' vs' vP') => hW.last hk)
  obtain ⟨er, epl⟩ := row_split H4.out.inv H4.out.vlen vP hk
  have hrow4 := H4.out.row
  rw [er] at hrow4
  have hGr : R.reg (k : Int) = R.regs.getD k zeroG := rfl
  generalize hG : R.regs.getD k zeroG = G at *
  have R4 : Hid (W4.heap[p]? = some (.cells ((preC R vs k ++ (subC G.asked ++ repC G.ans (vs.getD k undef))) ++ (donC G.view G.tag ++ posC R vs vP k)).toArray 111)) := by show _ = _; simpa only [regC, donC, List.append_assoc] using hrow4
  have lA : (preC R vs k ++ (subC G.asked ++ repC G.ans (vs.getD k undef))).length = 1 + k * 204 + 171 := by rw [List.length_append, List.length_append, epl, subC_len hGo.asked, repC_len hGo.ans]
  have HCS : Hid (∀ w', w'.heap[p]? = some (.cells ((preC R vs k ++ (subC G.asked ++ repC G.ans (vs.getD k undef))) ++ (donC v t ++ posC R vs vP k)).toArray 111) → ∀ W, Below W4.heap.size W4 W → Kp [p] W w' → RA w' p q rs (comS R (k : Int) v t) vs vP) := fun w' hr W hb hK => by
    refine ra_comS (H4.out.kept hb) hk htl hvl ?_ hK
    rw [hGr]
    simpa only [regC, donC, List.append_assoc] using hr
  have FX4 : Hid (∀ W, Below W4.heap.size W4 W → ∀ j u, TT[j]? = some u → W.cell? ⟨X, 0 + j, none⟩ = some u) := fun W hb => row_seg (off := 0) (A := []) (cs := TT) (C := []) (row_kept TX4.out hb) (by simp) rfl
  have hdl : (donC G.view G.tag).length = (donC v t).length := by rw [donC_len hGo.tag, donC_len htl]
  have ZDn : (Tryz.prog.info? 106).map (·.size) = some (donC v t).length := by rw [donC_len htl]; exact sizeDon
  clear hrow4 er hGr hG
  generalize hO : 1 + k * 204 = oo at *
  clear hO
  refine wp_region_cj (N := 100) 7 [2, 4] (fun _ i u _ => vC11 v t i u) [pt p oo, st v, undef, .agg (TT).toArray, undef, pt p oo, pt p (oo + 171), undef] (fun _ w => Below W4.heap.size W4 w) (by kernel_rfl) (by kernel_rfl) (by kernel_rfl) rfl (fun w1 h1 => h1) (fun i _ _ L w h => h) (fun i _ _ L j u w h => h) ?_ ?_ ?_
  · intro i o hi hiS ho
    match i, ho with
    | 0, ho => cases ho; exact fun L a w hLi hw hnot hJ hk hcst K h => op_move 9 _ rfl (hk 9 (by kernel_rfl)) h
    | 1, ho => cases ho; exact fun L a w hLi hw hnot hJ hk hcst K h => op_move 2 _ rfl (hk 2 (by kernel_rfl)) h
    | 2, ho => exact absurd hiS (by decide)
    | 3, ho => cases ho; exact fun L a w hLi hw hnot hJ hk hcst K h => op_load _ (.tmp 7) rfl X 0 (hk 7 (by kernel_rfl)) TT _ (FX4.out _ hJ) Tryz.underlying23 rfl ZT h
    | 4, ho => exact absurd hiS (by decide)
    | 5, ho => cases ho; exact fun L a w hLi hw hnot hJ hk hcst K h => op_nil 61 p oo rfl (hcst 0 61 (by kernel_rfl) (by decide) (by kernel_rfl)) h
    | 6, ho => cases ho; exact fun L a w hLi hw hnot hJ hk hcst K h => op_fa 66 _ 2 p oo 171 rfl (fun W => fa_70_2 p oo W) (hcst 5 66 (by kernel_rfl) (by decide) (by kernel_rfl)) h
    | (i + 7), ho => exact absurd hi (by omega)
  · intro i o hi hiS ho
    match i, ho with
    | 2, ho =>
      cases ho
      intro L a w hLi hw hnot hclos hJ hk' hcst hvs
      refine op_call 66 [.tmp 62] _ #[st v] (st v) rfl enter33 (by
        have e0 : a.eval (.tmp 62) = st v := hcst 1 62 (by kernel_rfl) (by decide) (by kernel_rfl)
        show [a.eval (.tmp 62)].toArray = _
        rw [e0]) (HCl.out w) ?_
      intro w' hb
      exact ⟨_, rfl, fun _ => vC11_2.2 rfl, hJ.trans (hb.mono hJ.size), fun j d hj hjs hd => hvs j d hj hjs hd⟩
    | 4, ho =>
      cases ho
      intro L a w hLi hw hnot hclos hJ hk' hcst hvs
      have h63 := vC11_2.1 (hvs 2 63 (hw 2 (by kernel_rfl)) (by decide) (by kernel_rfl))
      have h64 := hcst 3 64 (by kernel_rfl) (by decide) (by kernel_rfl)
      refine op_buildL _ [(0, .tmp 63), (1, .tmp 64)] rfl (.agg (donC v t).toArray) ?_ ⟨_, rfl, fun _ => vC11_4.2 rfl, hJ, fun j d hj hjs hd => hvs j d hj hjs hd⟩
      have q1 : a.eval (.tmp 63) = st v := h63
      have q2 : a.eval (.tmp 64) = .agg TT.toArray := h64
      simp only [List.map_cons, List.map_nil, q1, q2]
      exact HBd.out w
    | 0, _ | 1, _ | 3, _ | 5, _ | 6, _ => exact absurd hiS (by decide)
    | (i + 7), ho => exact absurd hi (by omega)
  · intro L o a W5 hall hLn ho hJ hs hdf hk' hc hv hkeep
    cases ho
    have h63 := vC11_2.1 (hv 2 63 (by decide) (by decide) (by kernel_rfl))
    have h65 := vC11_4.1 (hv 4 65 (by decide) (by decide) (by kernel_rfl))
    refine op_put 106 67 65 rfl rfl p (oo + 171) (hc 6 67 (by decide) (by decide) (by kernel_rfl)) (preC R vs k ++ (subC G.asked ++ repC G.ans (vs.getD k undef))) (donC v t) (donC G.view G.tag) (posC R vs vP k) h65 111 (row_kept R4.out hJ) lA hdl (one_don v t) ZDn ?_
    intro W6 hr6 hb6
    have K6 : Kp [p] W5 W6 := (Kp.refl _ _).but hb6 (Or.inl (by simp))
    have H6 := hid (HCS.out W6 hr6 W5 hJ K6)
    have KW6 : Hid (Kp (p :: q) w W6) := (HXB.out _ (B4.out.trans (hJ.mono hs4))).then K6 (by simp)
    have hs6 : X ≤ W6.heap.size := Nat.le_trans hs4 (Nat.le_trans hJ.size K6.size)
    obtain ⟨tm, df⟩ := a
    obtain rfl : df = [] := hdf
    have e := frame_of (c := fun i => ([pt p oo, st v, st v, .agg (TT).toArray, .agg (donC v t).toArray, pt p oo, pt p (oo + 171), undef] : List Value).getD i undef) hs hkeep (fun i d hd => by
      have hi : i < 8 := dst_lt hd
      by_cases h2 : i = 2
      · subst h2; cases hd; exact h63
      by_cases h4 : i = 4
      · subst h4; cases hd; exact h65
      by_cases h7 : i = 7
      · subst h7; cases hd
      rw [hc i d (by omega) (by simp; omega) hd]
      match i, h2, h4, h7, hi with
      | 0, _, _, _, _ | 1, _, _, _, _ | 3, _, _, _, _ | 5, _, _, _, _ | 6, _, _, _, _ => rfl
      | 2, h, _, _, _ => exact absurd rfl h
      | 4, _, h, _, _ => exact absurd rfl h
      | 7, _, _, h, _ => exact absurd rfl h
      | (i + 8), _, _, _, h => omega)
    have hA : tm = #[pt p 0, nu (k : Int), st v, .agg TT.toArray, undef, undef, undef, pt X 0, nu 0, pt p oo, nu AN, undef, pt p 0, .bool true, .bool false, pt p 0, nu (k : Int), .bool true, .bool false, .bool false, nu (k : Int), st v, .agg TT.toArray, .agg MV.toArray, .bool true, .bool false, .bool false, pt p 0, nu (k : Int), pt p 0, pt p 1, pt p oo, pt p oo, pt p oo, pt p oo, pt p oo, nu AN, st v, st v, nu ((m : Int) + 1), nu (m : Int), .int IntKind.u8 (bb : Int), nu (bb : Int), nu (k : Int), .bool false, .bool false, st v, nu (k : Int), nu (cv : Int), nu AN, .bool false, .bool false, pt p oo, pt p oo, pt p (oo + 171), pt p (oo + 171), st ov, nu (k : Int), nu (co : Int), nu AN, .bool false, pt p oo, st v, st v, .agg (TT).toArray, .agg (donC v t).toArray, pt p oo, pt p (oo + 171), undef, undef, undef, undef, undef, undef, undef, undef, undef, undef, undef, undef, undef, undef, undef, undef, undef, undef, undef, undef, undef, undef, undef, undef, undef, undef, undef, undef, undef, undef, undef, undef] := e.trans (by kernel_rfl)
    clear e hc hv hs hkeep hall hk' h63 h65 hr6 hb6 K6 hJ
    subst hA
    have cl6 : W6.cell? ⟨p, 1633, none⟩ = some (st R.long) := H6.out.long
    have hsL : (⟨R.long.toArray⟩ : ByteArray).size = R.long.length := rfl
    clear R4 HCS FX4 H4 B4 TX4 HCl HBd HXB
    by_cases hlg : R.long.length < v.length
    · have d1 : decide ((R.long.length : Int) < (m : Int) + 1) = true := decide_eq_true (by omega)
      have HE := hid (HRL.out hlg)
      have HBh := hid (behind_any W6 (k : Int) AN)
      clear HRS HRL
      have hl6 : R.long.length ≤ 512 := hll
      obtain ⟨lg, hlg'⟩ : ∃ lg, lg = R.long.length := ⟨_, rfl⟩
      rw [← hlg'] at d1 hsL
      clear hlg'
      go_wp2_with fail
      refine HBh.out.mono ?_
      rintro e W7 ⟨rfl, hk1, hk2, hb7⟩
      have C1 := hid hk1
      have C2 := hid hk2
      have H7 := hid (H6.out.kept hb7)
      have KW7 : Hid (Kp (p :: q) w W7) := KW6.out.trans (Kp.of hb7)
      have hs67 : W6.heap.size ≤ W7.heap.size := hb7.size
      have hl16 : W6.heap.size < W7.heap.size := World.block_lt_of_cell? _ _ hk1
      have hl26 : W6.heap.size + 1 < W7.heap.size := World.block_lt_of_cell? _ _ hk2
      clear hk1 hk2 hb7 HBh
      unfold cutV
      generalize hc1 : W6.heap.size = c1 at *
      go_wp2_with fail
      generalize hc2 : c1 + 1 = c2 at *
      have hHD : ([nu ((comS R (k : Int) v t).n : Int)] ++ regsC (comS R (k : Int) v t).regs vs).length = 1633 := head_len H7.out.inv H7.out.vlen
      have HROW : Hid (W7.heap[p]? = some (.cells (([nu ((comS R (k : Int) v t).n : Int)] ++ regsC (comS R (k : Int) v t).regs vs) ++ (donC R.long R.ltag ++ ([nu R.who] ++ [vP]))).toArray 111)) := by
        have h0 := H7.out.row
        rw [row_tail] at h0
        exact h0
      have HFIN : Hid (∀ u, rowR (comL R (k : Int) v t) vs u = (([nu ((comS R (k : Int) v t).n : Int)] ++ regsC (comS R (k : Int) v t).regs vs) ++ donC v t) ++ ([nu (k : Int)] ++ [u])) := fun u => by
        rw [row_tail]
        simp only [tailC, List.append_assoc]
        rfl
      have hdl2 : (donC R.long R.ltag).length = (donC v t).length := by rw [donC_len HINV.out.ltag, donC_len htl]
      have hGk : (comS R (k : Int) v t).regs.getD k zeroG = { R.reg (k : Int) with view := v, tag := t } := getD_set_same _ _ _ _ (by rw [HINV.out.len]; exact hk)
      have FL7 : ∀ j u, (donC v t)[j]? = some u → W7.cell? ⟨p, oo + 171 + j, none⟩ = some u := by
        have h0 := HbR.out W7 _ _ _ _ _ H7.out
        rw [hGk] at h0
        exact h0
      have FL : Hid (∀ W : World, W.heap[p]? = W7.heap[p]? → ∀ j u, (donC v t)[j]? = some u → W.cell? ⟨p, oo + 171 + j, none⟩ = some u) := fun W hW j u hj => (World.cell?_of_block (a := ⟨p, oo + 171 + j, none⟩) hW).trans (FL7 j u hj)
      have FP : Hid (∀ W : World, W.heap[p]? = W7.heap[p]? → W.cell? ⟨p, 1667, none⟩ = some vP) := fun W hW => (World.cell?_of_block (a := ⟨p, 1667, none⟩) hW).trans H7.out.pnd
      have hqX : ∀ b ∈ q, b < X := fun b hb => hlt b (by simp [hb])
      have hn1 : c1 ∉ p :: q := fun hx => by
        rcases List.mem_cons.1 hx with e | e
        · omega
        · have := hqX _ e
          omega
      have hn2 : c2 ∉ p :: q := fun hx => by
        rcases List.mem_cons.1 hx with e | e
        · omega
        · have := hqX _ e
          omega
      have FC : Hid (∀ W, Kp (p :: q) W7 W → W.cell? ⟨c1, 0, none⟩ = some (nu (k : Int)) ∧ W.cell? ⟨c2, 0, none⟩ = some (nu AN)) := fun W hW => ⟨(World.cell?_of_block (a := ⟨c1, 0, none⟩) (hW.block c1 hl16 hn1)).trans C1.out, (World.cell?_of_block (a := ⟨c2, 0, none⟩) (hW.block c2 hl26 hn2)).trans C2.out⟩
      have HNE := hid H7.out.ne
      have HBK := hid H7.out.blk
      have HPW : Hid (∀ x ∈ R.pend, x.Wf) := fun x hx => (HINV.out.pend x hx).wf
      have hpl8 := HINV.out.plen
      have i3 : (Tryz.prog.info? 3).map (·.size) = some 1 := by kernel_rfl
      have lD2 : ((([nu ((comS R (k : Int) v t).n : Int)] ++ regsC (comS R (k : Int) v t).regs vs)) ++ donC v t).length = 1666 := by rw [List.length_append, hHD, donC_len htl]
      generalize ([nu ((comS R (k : Int) v t).n : Int)] ++ regsC (comS R (k : Int) v t).regs vs) = HD at *
      have lD3 : ((HD ++ donC v t) ++ [nu (k : Int)]).length = 1667 := by rw [List.length_append, lD2]; rfl
      refine wp_region_cj (N := 100) 22 [13, 16, 19] (fun _ i u w => vC14 (cutP (k : Int) AN R.pend) vP i u w) [pt p 0, pt p 0, pt p 0, pt p oo, pt p oo, pt p (oo + 171), .agg (donC v t).toArray, nu (k : Int), .func (.func 105) #[] #[pt c1 0, pt c2 0], pt p 0, pt p 0, pt p 1667, vP, undef, pt p 0, pt p 1633, undef, pt p 0, pt p 1666, undef, pt p 0, pt p 1667, undef] (fun L w => Kp (p :: q) W7 w ∧ (L 16 = false → w.heap[p]? = W7.heap[p]?) ∧ (L 16 = true → w.heap[p]? = some (.cells ((HD ++ donC v t) ++ ([bif L 19 then nu (k : Int) else nu R.who] ++ [vP])).toArray 111)) ∧ (L 13 = false → OwnP w vP R.pend)) (by kernel_rfl) (by kernel_rfl) (by kernel_rfl) rfl (fun w1 h1 => ⟨Kp.of h1, fun _ => h1.block p (row_ltA H7.out.row), fun h => Bool.noConfusion h, fun _ => H7.out.own.kept h1⟩) (fun i hi _ L w h => by
        rw [up_ne (show i ≠ 16 from fun e => hi (by simp [e])), up_ne (show i ≠ 19 from fun e => hi (by simp [e])), up_ne (show i ≠ 13 from fun e => hi (by simp [e]))]
        exact h) (fun i _ _ L j u w h => h) ?_ ?_ ?_
      · intro i o hi hiS ho
        match i, ho with
        | 0, ho => cases ho; exact fun L a w hLi hw hnot hJ hk hcst K h => op_move 0 _ rfl (hk 0 (by kernel_rfl)) h
        | 1, ho => cases ho; exact fun L a w hLi hw hnot hJ hk hcst K h => op_move 0 _ rfl (hk 0 (by kernel_rfl)) h
        | 2, ho => cases ho; exact fun L a w hLi hw hnot hJ hk hcst K h => op_move 0 _ rfl (hk 0 (by kernel_rfl)) h
        | 3, ho => cases ho; exact fun L a w hLi hw hnot hJ hk hcst K h => op_move 9 _ rfl (hk 9 (by kernel_rfl)) h
        | 4, ho => cases ho; exact fun L a w hLi hw hnot hJ hk hcst K h => op_nil 83 p oo rfl (hcst 3 83 (by kernel_rfl) (by decide) (by kernel_rfl)) h
        | 5, ho => cases ho; exact fun L a w hLi hw hnot hJ hk hcst K h => op_fa 84 _ 2 p oo 171 rfl (fun W => fa_70_2 p oo W) (hcst 4 84 (by kernel_rfl) (by decide) (by kernel_rfl)) h
        | 6, ho => cases ho; exact fun L a w hLi hw hnot hJ hk hcst K h => op_load _ (.tmp 85) rfl p (oo + 171) (hcst 5 85 (by kernel_rfl) (by decide) (by kernel_rfl)) (donC v t) _ (FL.out _ (hJ.2.1 (hnot 16 _ rfl (by kernel_rfl)))) Tryz.underlying106 rfl ZDn h
        | 7, ho => cases ho; exact fun L a w hLi hw hnot hJ hk hcst K h => op_move 1 _ rfl (hk 1 (by kernel_rfl)) h
        | 8, ho => cases ho; exact fun L a w hLi hw hnot hJ hk hcst K h => op_move 11 _ rfl (hk 11 (by kernel_rfl)) h
        | 9, ho => cases ho; exact fun L a w hLi hw hnot hJ hk hcst K h => op_move 0 _ rfl (hk 0 (by kernel_rfl)) h
        | 10, ho => cases ho; exact fun L a w hLi hw hnot hJ hk hcst K h => op_nil 89 p 0 rfl (hcst 9 89 (by kernel_rfl) (by decide) (by kernel_rfl)) h
        | 11, ho => cases ho; exact fun L a w hLi hw hnot hJ hk hcst K h => op_fa 90 _ 4 p 0 1667 rfl (fun W => fa_73_4 p 0 W) (hcst 10 90 (by kernel_rfl) (by decide) (by kernel_rfl)) h
        | 12, ho => cases ho; exact fun L a w hLi hw hnot hJ hk hcst K h => op_load1 _ (.tmp 91) rfl p 1667 (hcst 11 91 (by kernel_rfl) (by decide) (by kernel_rfl)) _ _ (FP.out _ (hJ.2.1 (hnot 16 _ rfl (by kernel_rfl)))) Tryz.underlying26 rfl h
        | 13, ho => exact absurd hiS (by decide)
        | 14, ho => cases ho; exact fun L a w hLi hw hnot hJ hk hcst K h => op_nil 80 p 0 rfl (hcst 0 80 (by kernel_rfl) (by decide) (by kernel_rfl)) h
        | 15, ho => cases ho; exact fun L a w hLi hw hnot hJ hk hcst K h => op_fa 94 _ 2 p 0 1633 rfl (fun W => fa_73_2 p 0 W) (hcst 14 94 (by kernel_rfl) (by decide) (by kernel_rfl)) h
        | 16, ho => exact absurd hiS (by decide)
        | 17, ho => cases ho; exact fun L a w hLi hw hnot hJ hk hcst K h => op_nil 81 p 0 rfl (hcst 1 81 (by kernel_rfl) (by decide) (by kernel_rfl)) h
        | 18, ho => cases ho; exact fun L a w hLi hw hnot hJ hk hcst K h => op_fa 96 _ 3 p 0 1666 rfl (fun W => fa_73_3 p 0 W) (hcst 17 96 (by kernel_rfl) (by decide) (by kernel_rfl)) h
        | 19, ho => exact absurd hiS (by decide)
        | 20, ho => cases ho; exact fun L a w hLi hw hnot hJ hk hcst K h => op_nil 82 p 0 rfl (hcst 2 82 (by kernel_rfl) (by decide) (by kernel_rfl)) h
        | 21, ho => cases ho; exact fun L a w hLi hw hnot hJ hk hcst K h => op_fa 98 _ 4 p 0 1667 rfl (fun W => fa_73_4 p 0 W) (hcst 20 98 (by kernel_rfl) (by decide) (by kernel_rfl)) h
        | (i + 22), ho => exact absurd hi (by omega)
      · intro i o hi hiS ho
        match i, ho with
        | 13, ho =>
          cases ho
          intro L a w hLi hw hnot hclos hJ hk' hcst hvs
          have h16 : L 16 = false := hnot 16 _ rfl (by kernel_rfl)
          refine op_callV 105 88 92 _ vP (pt c1 0) (pt c2 0) rfl enter44 (hcst 8 88 (by kernel_rfl) (by decide) (by kernel_rfl)) (hcst 12 92 (by kernel_rfl) (by decide) (by kernel_rfl)) (cutf_any (hJ.2.2.2 hLi) HPW.out hpl8 (k : Int) AN c1 c2 (FC.out w hJ.1).1 (FC.out w hJ.1).2) ?_
          rintro u w' ⟨h1, h2, h3⟩
          have hsub : ∀ b ∈ vP.ownBlock.toList, b ∈ q := fun b hb => HBK.out b (mem_own.1 hb)
          have hpn : p ∉ vP.ownBlock.toList := fun hx => HNE.out.1 (hsub p hx)
          have hpl : p < w.heap.size := Nat.lt_of_lt_of_le (row_ltA HROW.out) hJ.1.size
          refine ⟨u, rfl, fun _ => vC14_13.2 ⟨h1, fun b hb => by rw [h2] at hb; exact hb⟩, ⟨hJ.1.then h3 (fun b hb => Or.inl (List.mem_cons_of_mem _ (hsub b hb))), fun _ => (h3.block p hpl hpn).trans (hJ.2.1 h16), fun h => ?_, fun h => ?_⟩, fun j d hj hjs hd => ?_⟩
          · rw [up_ne (by decide), h16] at h
            cases h
          · rw [up_self] at h
            cases h
          · rcases List.mem_cons.1 hjs with rfl | hjs
            · rw [hLi] at hj; cases hj
            · rcases List.mem_cons.1 hjs with rfl | hjs
              · rw [h16] at hj; cases hj
              · have e : j = 19 := by simpa using hjs
                subst e
                cases hd
        | 16, ho =>
          cases ho
          intro L a w hLi hw hnot hclos hJ hk' hcst hvs
          have h19 : L 19 = false := hnot 19 _ rfl (by kernel_rfl)
          have h13 : L 13 = true := hw 13 (by kernel_rfl)
          have hrow := (hJ.2.1 hLi).trans HROW.out
          refine op_put 106 95 86 rfl rfl p 1633 (hcst 15 95 (by kernel_rfl) (by decide) (by kernel_rfl)) HD (donC v t) (donC R.long R.ltag) ([nu R.who] ++ [vP]) (hcst 6 86 (by kernel_rfl) (by decide) (by kernel_rfl)) 111 hrow hHD hdl2 (one_don v t) ZDn ?_
          intro w' hr hb
          have hK : Kp [p] w w' := (Kp.refl _ _).but hb (Or.inl (by simp))
          refine ⟨undef, rfl, fun h => Bool.noConfusion h, ⟨hJ.1.then hK (by simp), fun h => ?_, fun _ => ?_, fun h => ?_⟩, fun j d hj hjs hd => vC14_kp (hvs j d hj hjs hd) hK (fun b hb' hx => HNE.out.1 (by simp at hx; rw [← hx]; exact HBK.out b hb'))⟩
          · rw [up_self] at h
            cases h
          · rw [up_ne (by decide), h19]
            simpa only [cond_false, List.append_assoc] using hr
          · rw [up_ne (by decide), h13] at h
            cases h
        | 19, ho =>
          cases ho
          intro L a w hLi hw hnot hclos hJ hk' hcst hvs
          have h16 : L 16 = true := hw 16 (by kernel_rfl)
          have h13 : L 13 = true := hw 13 (by kernel_rfl)
          have hrow := hJ.2.2.1 h16
          rw [hLi] at hrow
          refine op_put1 3 97 87 rfl rfl p 1666 (hcst 18 97 (by kernel_rfl) (by decide) (by kernel_rfl)) (HD ++ donC v t) [vP] (nu R.who) (nu (k : Int)) (hcst 7 87 (by kernel_rfl) (by decide) (by kernel_rfl)) 111 hrow lD2 rfl i3 ?_
          intro w' hr hb
          have hK : Kp [p] w w' := (Kp.refl _ _).but hb (Or.inl (by simp))
          refine ⟨undef, rfl, fun h => Bool.noConfusion h, ⟨hJ.1.then hK (by simp), fun h => ?_, fun _ => ?_, fun h => ?_⟩, fun j d hj hjs hd => vC14_kp (hvs j d hj hjs hd) hK (fun b hb' hx => HNE.out.1 (by simp at hx; rw [← hx]; exact HBK.out b hb'))⟩
          · rw [up_ne (by decide), h16] at h
            cases h
          · rw [up_self]
            exact hr
          · rw [up_ne (by decide), h13] at h
            cases h
        | 0, _ | 1, _ | 2, _ | 3, _ | 4, _ | 5, _ | 6, _ | 7, _ | 8, _ | 9, _ | 10, _ | 11, _ | 12, _ | 14, _ | 15, _ | 17, _ | 18, _ | 20, _ | 21, _ => exact absurd hiS (by decide)
        | (i + 22), ho => exact absurd hi (by omega)
      · intro L o a W8 hall hLn ho hJ hs hdf hk' hc hv hkeep
        cases ho
        obtain ⟨v', e93⟩ : ∃ v', a.tmps.getD 93 undef = v' := ⟨_, rfl⟩
        have h13 := vC14_13.1 (hv 13 93 (by decide) (by decide) (by kernel_rfl))
        rw [e93] at h13
        have hrow := hJ.2.2.1 (hall 16 (by decide))
        rw [hall 19 (by decide)] at hrow
        refine op_put1 26 99 93 rfl rfl p 1667 (hc 21 99 (by decide) (by decide) (by kernel_rfl)) ((HD ++ donC v t) ++ [nu (k : Int)]) [] vP v' e93 111 (by simpa only [cond_true, List.append_assoc, List.append_nil] using hrow) lD3 h13.1.one size41 ?_
        intro W9 hr9 hb9
        have K9 : Kp [p] W8 W9 := (Kp.refl _ _).but hb9 (Or.inl (by simp))
        have hrr : W9.heap[p]? = some (.cells (rowR (comL R (k : Int) v t) vs v').toArray 111) := by
          rw [HFIN.out]
          simpa only [List.append_assoc, List.append_nil] using hr9
        have H9 : Hid (RA W9 p q rs (comL R (k : Int) v t) vs v') := ra_comL H7.out HIL.out hJ.1 (by rw [← HANR.out]; exact h13.1) h13.2 hrr K9
        have KW9 : Hid (Kp (p :: q) w W9) := (KW7.out.trans hJ.1).then K9 (by simp)
        obtain ⟨tm, df⟩ := a
        obtain rfl : df = [] := hdf
        have h8 : (8 : Nat) < tm.size := by rw [show tm.size = 100 from hs]; decide
        go_wp2
        go_ret
        show ComPost w p q rs R (k : Int) v t (.returned ((tm.setIfInBounds 8 (nu 0)).getD 8 undef)) W9
        rw [show (tm.setIfInBounds 8 (nu 0)).getD 8 undef = nu 0 from by simp [h8]]
        exact HEnd.out _ _ _ _ _ (by rw [HE.out]; exact H9.out) KW9.out (fun b hb => Or.inl hb)
    · have d1 : decide ((R.long.length : Int) < (m : Int) + 1) = false := decide_eq_false (by omega)
      have HE := hid (HRS.out hlg)
      clear HRS HRL
      generalize R.long.length = lg at *
      go_wp2
      go_ret
      exact HEnd.out _ _ _ _ _ (by rw [HE.out]; exact H6.out) KW6.out (fun b hb => Or.inl hb)
end Go.Proofs.YtidlgecognedlaaGreatDoor.Ms

/-
  Every commit; the order (Order); registers that are nil.
-/
namespace Go.Proofs.YtidlgecognedlaaGreatDoor.Ms
open Go Go.RowKit
set_option maxRecDepth 100000

theorem commit_any {w : World} {p : Nat} {q rs : List Nat} {R : Rs} {vs : List Value} {vP : Value} (h : RA w p q rs R vs vP) {c : Int} (hc : I64 c) {v t : List UInt8} (htl : t.length = 32) (ht : Tb w) :
    Calls Tryz.prog 22 #[.pointer (some ⟨p, 0, none⟩), nu c, st v, .agg (dg t).toArray] w (ComPost w p q rs R c v t) := by
  cases h1 : hasB R.n c with
  | false => exact commit_a h htl h1
  | true =>
    cases h2 : mayB (comM c v t) with
    | false => exact commit_b h htl hc ht h1 h2
    | true =>
      have hok : comOk R c v t = true := by unfold comOk; rw [h1, h2]; rfl
      have hcc := (hasB_iff R.n c).1 h1
      have hn := h.inv.n
      obtain ⟨k, rfl⟩ : ∃ k : Nat, c = (k : Int) := ⟨c.toNat, by omega⟩
      have hk : k < 8 := by omega
      by_cases h3 : lastI v = (k : Int)
      · by_cases h4 : (Hist.cnt v (k : Int) : Int) = (R.reg (k : Int)).asked.number
        · by_cases h6 : (Hist.cnt (R.reg (k : Int)).view (k : Int) : Int) = (R.reg (k : Int)).asked.number
          · exact commit_e h hk htl ht hok h3 h4 h6
          · exact commit_f h hk htl ht hok h3 h4 h6
        · exact commit_d h hk htl ht hok h3 h4
      · exact commit_c h hk htl ht hok h3
set_option maxHeartbeats 2000000 in
theorem submit_nil (w : World) (c : Int) (x : Sub) (_hx : x.Wf) : Calls Tryz.prog 20 #[.pointer none, nu c, .agg (subC x).toArray] w fun e w' => e = .returned (.tuple #[.agg (repC zeroR (.slice none 0 0)).toArray, nu 1]) ∧ Below w.heap.size w w' := by
  have B2 := hid (below_two (below_a1 w (.cells (subC x).toArray 25)) (below_a1 (w.alloc (.cells (subC x).toArray 25)) (.cells (repC zeroR (.slice none 0 0)).toArray 28)))
  have U2 := hid (top_obj (w.alloc (.cells (subC x).toArray 25)) (.cells (repC zeroR (.slice none 0 0)).toArray 28))
  have e1 : (w.alloc (.cells (subC x).toArray 25)).heap.size = w.heap.size + 1 := by simp
  rw [e1] at U2
  have HM := hid (made_nil ((w.alloc (.cells (subC x).toArray 25)).alloc (.cells (repC zeroR (.slice none 0 0)).toArray 28)))
  have ZR := zeroRep
  have IZ : (Tryz.prog.info? 28).map (·.size) = some (repC zeroR (.slice none 0 0)).length := by rw [repC_len wfZeroR]; exact sizeRep
  have OZ := hid (one_rep zeroR (.slice none 0 0) rfl)
  have HBd := hid build_rep
  have hgs : w.heap.size < w.heap.size + 1 := Nat.lt_succ_self _
  show Calls _ _ _ _ (fun e w' => e = .returned (.tuple #[.agg (repC zeroR (.slice none 0 0)).toArray, nu 1]) ∧ Below w.heap.size w w')
  generalize repC zeroR (.slice none 0 0) = Z at *
  generalize subC x = V at *
  go_enter Tryz.func20, Tryz.ntmps20
  go_upto_region 1 with (first | ((with_reducible refine wl_alloc 28 ?_ ?_ Z.toArray ZR ?_); exact rfl; exact rfl))
  generalize w.alloc (.cells V.toArray 25) = W1 at *
  generalize W1.alloc (.cells Z.toArray 28) = W2 at *
  try simp only [Act.put, List.setIfInBounds_toArray, List.set_cons_zero, List.set_cons_succ, e1]
  clear e1
  generalize w.heap.size + 1 = gA at *
  go_wp2_with fail
  refine HM.out.mono ?_
  rintro e w1 ⟨rfl, hw1⟩
  subst w1
  go_wp2_with (first | ((with_reducible refine wl_build 28 ?_ ?_ Z.toArray (HBd.out _) ?_); exact rfl; exact rfl) | ((with_reducible refine wl_put 28 (.tmp 6) (.tmp 12) ?_ ?_ gA 0 ?_ ?_ [] Z Z [] ?_ 28 (row_nil U2.out) rfl rfl OZ.out IZ ?_); exact rfl; exact rfl; exact rfl; exact rfl; exact rfl; intro w4 hr4 hbut))
  have hr5 : w4.heap[gA]? = some (.cells Z.toArray 28) := by simpa using hr4
  refine bodyPost_ret_by (results_ct (fn := Tryz.f20) (p := 6) (u := 7) (ty := 28) (by kernel_rfl) _ _ gA 28 Z.toArray (0, 0) _ rfl hr5 Tryz.underlying28 rfl (by rw [List.size_toArray]; exact IZ)) rfl ?_
  exact ⟨rfl, hbut.below B2.out (by omega)⟩
set_option maxHeartbeats 2000000 in
theorem commit_nil (w : World) (c : Int) (v t : List UInt8) : Calls Tryz.prog 22 #[.pointer none, nu c, st v, .agg (dg t).toArray] w fun e w' => e = .returned (nu 1) ∧ Below w.heap.size w w' := by
  have B1 := hid (below_a1 w (.cells (dg t).toArray 23))
  have HM := hid (made_nil (w.alloc (.cells (dg t).toArray 23)))
  generalize dg t = TT at *
  go_enter Tryz.func22, Tryz.ntmps22
  go_upto_region 1 with fail
  generalize w.alloc (.cells TT.toArray 23) = W1 at *
  go_wp2_with fail
  refine HM.out.mono ?_
  rintro e w1 ⟨rfl, hw1⟩
  subst w1
  go_wp2
  go_ret
  exact ⟨rfl, B1.out⟩
set_option maxHeartbeats 2000000 in
theorem order_nil (w : World) : Calls Tryz.prog 23 #[.pointer none] w fun e w' => e = .returned (st []) ∧ w' = w := by
  have HM := hid (made_nil w)
  go_enter Tryz.func23, Tryz.ntmps23
  go_wp2_with fail
  refine HM.out.mono ?_
  rintro e w1 ⟨rfl, hw1⟩
  subst w1
  go_wp2
  go_ret
  exact ⟨rfl, rfl⟩
end Go.Proofs.YtidlgecognedlaaGreatDoor.Ms

/-
  The order in which operations were asked for (Order).
-/
namespace Go.Proofs.YtidlgecognedlaaGreatDoor.Ms
open Go Go.RowKit
set_option maxRecDepth 100000

theorem brow_conv (w : World) (l : List UInt8) (base : Nat) (hb : base ≤ w.heap.size) (hl : l.length ≤ 1000000) : brow (Lib.bytesWorld w 5 ⟨l.toArray⟩) base (.slice (some ⟨w.heap.size, 0, none⟩) l.length (grownCap w l.length 0 5)) l := by
  have hg := grownCap_ge w l.length 0 5
  have hs : (Lib.bytesCells w 5 ⟨l.toArray⟩).size = grownCap w l.length 0 5 := by
    simp only [Lib.bytesCells, Array.size_append, Array.size_map, Array.size_replicate]
    show l.length + (grownCap w l.length 0 5 - l.length) = _
    omega
  refine .inr ⟨w.heap.size, grownCap w l.length 0 5, Lib.bytesCells w 5 ⟨l.toArray⟩, _, rfl, hb, Lib.bytesWorld_at_new w 5 ⟨l.toArray⟩, ?_, hg, hs, grownCap_le_maxLen w _ _ _ (by unfold maxLen; omega), ?_⟩
  · intro j hj h
    simp only at h
    omega
  · simp only [Lib.bytesCells, Array.toList_append, Array.toList_map]
    rw [List.take_append_of_le_length (by simp), List.take_of_length_le (by simp)]
    rfl
theorem below_bytes (w : World) (s : ByteArray) : Below w.heap.size w (Lib.bytesWorld w 5 s) :=
  ⟨rfl, rfl, rfl, by rw [Lib.bytesWorld_size]; omega, fun k hk => Lib.bytesWorld_at_old w 5 s k hk⟩
set_option maxHeartbeats 4000000 in
theorem order_any {w : World} {p : Nat} {q rs : List Nat} {R : Rs} {vs : List Value} {vP : Value} (h : RA w p q rs R vs vP) :
    Calls Tryz.prog 23 #[.pointer (some ⟨p, 0, none⟩)] w fun e w' => e = .returned (st (orderR R)) ∧ Below w.heap.size w w' := by
  have HM := hid (made_any h)
  have HR := hid h
  have cl := h.long
  have hll := h.inv.long
  have hpl := h.inv.plen
  have HI := hid h.inv
  obtain ⟨va, vcap, hvP⟩ := h.own.len
  have HB := hid (below_bytes w ⟨R.long.toArray⟩)
  have HW := hid (brow_conv w R.long w.heap.size (Nat.le_refl _) (by omega))
  have hcv : (convert 9 118 (.string ⟨R.long.toArray⟩)).run Tryz.prog w = .ok (.slice (some ⟨w.heap.size, 0, none⟩) R.long.length (grownCap w R.long.length 0 5)) (Lib.bytesWorld w 5 ⟨R.long.toArray⟩) := Lib.run_convert_string_bytes w 9 118 5 ⟨R.long.toArray⟩ Tryz.underlying9 Tryz.underlying118 Tryz.underlying5
  have cP := (h.kept HB.out).pnd
  clear h
  generalize grownCap w R.long.length 0 5 = gc at *
  generalize Lib.bytesWorld w 5 ⟨R.long.toArray⟩ = W1 at *
  go_enter Tryz.func23, Tryz.ntmps23
  go_wp2_with fail
  refine HM.out.mono ?_
  rintro e w1 ⟨rfl, hw1⟩
  subst w1
  subst hvP
  go_wp2
  clear hcv cl cP HM
  go_loopw [20, 3] (fun i vv wr => ∃ (k : Nat) (v : Value), k ≤ R.pend.length ∧ i = nu k ∧ v = vv ∧ Hid (brow wr w.heap.size v (R.long ++ (R.pend.take k).map fun x => by8 x.client)) ∧ Hid (Below w.heap.size w wr) ∧ Hid (v ≠ .slice none 0 0)) (fun i _ _ => R.pend.length - (intOf i).toNat)
  case atStart => exact ⟨0, _, by omega, rfl, rfl, by show brow _ _ _ _; simpa using HW.out, HB.out, fun h => by cases h⟩
  case round =>
    obtain ⟨k, v3, hk, rfl, rfl, HV, HBr, HNN⟩ := hrel
    clear HB HW
    by_cases hlt : k < R.pend.length
    · have d1 : decide ((k : Int) < (R.pend.length : Int)) = true := decide_eq_true (by omega)
      have d1' : decide (k < R.pend.length) = true := decide_eq_true hlt
      have hpk := HI.out.pend _ (List.getElem_mem hlt)
      have hn := HI.out.n
      have hOw := HR.out.own.kept HBr.out
      obtain ⟨g, cap, hvg, hcc⟩ : ∃ g cap, (Value.slice va R.pend.length vcap) = .slice (some ⟨g, 0, none⟩) R.pend.length cap ∧ ∀ i c, (penC R.pend[k])[i]? = some c → wr.cell? ⟨g, k * 68 + i, none⟩ = some c := by
        rcases hOw.form with ⟨-, e⟩ | ⟨g, cap, cur, e, -⟩
        · rw [e] at hlt; exact absurd hlt (Nat.not_lt_zero k)
        · refine ⟨g, cap, e, fun i c hi => ?_⟩
          rw [e] at hOw
          refine hOw.cell _ _ (flatQ_at (fun p hp => (HI.out.pend p hp).wf) k hlt i c ?_)
          rw [List.getD_eq_getElem?_getD, List.getElem?_eq_getElem hlt]
          exact hi
      cases hvg
      have hpc : (penC R.pend[k]).length = 68 := penC_len hpk.wf
      have htk : (R.pend.take (k + 1)).map (fun x => by8 x.client) = (R.pend.take k).map (fun x => by8 x.client) ++ [by8 R.pend[k].client] := by
        rw [List.take_succ_eq_append_getElem hlt, List.map_append]
        rfl
      obtain ⟨c, hc⟩ : ∃ c : Nat, R.pend[k].client = (c : Int) := ⟨R.pend[k].client.toNat, by have := hpk.cl; omega⟩
      have hc8 : c < 8 := by have := hpk.cl; omega
      have S0 := hid hcc
      have Z0 : (Tryz.prog.info? 113).map (·.size) = some (penC R.pend[k]).length := by rw [hpc]; exact sizePen
      have O0 := hid (one_pen R.pend[k])
      have ZP : (Tryz.prog.info? 113).map (·.zero) = some (some (.agg (penC zeroP).toArray)) := by kernel_rfl
      have l0 : (penC zeroP).length = (penC R.pend[k]).length := by rw [hpc]; exact penC_len ⟨rfl, rfl⟩
      have T1 := top_obj wr (.cells (penC R.pend[k]).toArray 113)
      have c0 : (wr.alloc (.cells (penC R.pend[k]).toArray 113)).cell? ⟨wr.heap.size, 0, none⟩ = some (nu (c : Int)) := by
        rw [← hc]
        exact row_seg (off := 0) (A := []) (cs := penC R.pend[k]) (C := []) T1 (by simp) rfl 0 _ rfl
      have B1 := hid (below_two HBr.out (below_a1 wr (.cells (penC R.pend[k]).toArray 113)))
      have V1 : Hid (brow (wr.alloc (.cells (penC R.pend[k]).toArray 113)) w.heap.size v3 (R.long ++ (R.pend.take k).map fun x => by8 x.client)) := brow_below HV.out (below_a1 wr _) (Nat.le_refl _)
      rw [hc] at htk
      have hbv : Ms.bv (by8 (c : Int)) = (c : Int) := by8_val _ (by omega)
      have hll' : (R.long ++ (R.pend.take k).map fun x => by8 x.client).length ≤ 1000 := by simp; omega
      have HNX : Hid ((R.long ++ (R.pend.take k).map fun x => by8 x.client) ++ [by8 (c : Int)] = R.long ++ (R.pend.take (k + 1)).map fun x => by8 x.client) := by show _ = _; rw [htk, List.append_assoc]
      clear hcc hOw hpk hpc HV T1 hc HR htk
      generalize (R.long ++ (R.pend.take k).map fun x => by8 x.client) = PL at *
      generalize penC R.pend[k] = PA at *
      generalize penC zeroP = PZ at *
      go_upto_region 7 with (first
        | ((with_reducible refine wl_load 113 (.tmp 22) ?_ g (k * 68) ?_ ?_ PA _ S0.out Tryz.underlying113 ?_ Z0 ?_); exact rfl; exact rfl; exact rfl; exact rfl)
        | ((with_reducible refine wl_alloc 113 ?_ ?_ PZ.toArray ZP ?_); exact rfl; exact rfl)
        | ((with_reducible refine wl_store_top 113 (.tmp 5) (.tmp 23) ?_ ?_ ?_ ?_ PA PZ ?_ 113 l0 O0.out Z0 ?_); exact rfl; exact rfl; exact rfl; exact rfl; exact rfl))
      generalize wr.alloc (.cells PA.toArray 113) = W2 at *
      have hs2 : w.heap.size ≤ W2.heap.size := B1.out.size
      have hu : brow (W2.alloc (.cells #[.int .u8 (c : Int)] 5)) W2.heap.size (.slice (some ⟨W2.heap.size, 0, none⟩) 1 1) [by8 (c : Int)] := by
        have := brow_one W2 W2.heap.size (by8 (c : Int)) (Nat.le_refl _)
        rw [show Go.Proofs.YtidlgecognedlaaGreatDoor.bv (by8 (c : Int)) = (c : Int) from hbv] at this
        exact this
      have HU := hid hu
      have V2 : Hid (brow (W2.alloc (.cells #[.int .u8 (c : Int)] 5)) w.heap.size v3 PL) := brow_below V1.out (below_a1 W2 _) (Nat.le_refl _)
      have B2 := hid (below_two B1.out (below_a1 W2 (.cells #[.int .u8 (c : Int)] 5)))
      have OB := hid (brow_own V1.out)
      clear hu V1 B1
      go_wp2_with (first | (at_builtin; refine wpList_app rfl _ _ rfl w.heap.size W2.heap.size v3 _ PL [by8 (c : Int)] rfl rfl V2.out HU.out (Or.inl HNN.out) (by simp; omega) (by simp; omega) ?_; intro v4 W4 hv4 hg4; rw [HNX.out] at hv4; have V4 := hid hv4; have G4 := hid hg4; clear hv4 hg4))
      refine ⟨⟨k + 1, v4, by omega, by go_num, rfl, V4.out, ?_, ?_⟩, by simp [intOf]; omega⟩
      · exact ((Kp.of (X := []) B2.out).grown G4.out (fun b hb => Or.inr (OB.out b hb))).below (by simp) (Nat.le_refl _)
      · rintro rfl
        rcases V4.out with ⟨-, e⟩ | ⟨g', cap', cur', fz', e, -⟩
        · rw [← HNX.out] at e
          simp at e
        · cases e
    · have e : k = R.pend.length := by omega
      subst e
      have hx := conv_brow HV.out
      clear HV HR HI HNN
      go_wp2
      go_ret
      exact ⟨rfl, HBr.out⟩
end Go.Proofs.YtidlgecognedlaaGreatDoor.Ms

/-
  What must come at any rate (awake).
-/
namespace Go.Proofs.YtidlgecognedlaaGreatDoor.Ms
open Go Go.RowKit
set_option maxRecDepth 100000

theorem submit_x {w : World} {p : Nat} {F : List Nat} {R : Rs} (h : RX w p F R) {c : Int} {x : Sub} (hx : x.Wf) (hr : (subM c x).Rng) (ht : Tb w) :
    Calls Tryz.prog 20 #[.pointer (some ⟨p, 0, none⟩), nu c, .agg (subC x).toArray] w fun e w' => ∃ v' F', e = .returned (.tuple #[.agg (repC (subY R c x) v').toArray, nu (subE R c x)]) ∧ RX w' p F' (subR R c x) ∧ OwnP w' v' (subY R c x).pend ∧ (∀ b, v'.ownBlock = some b → w.heap.size ≤ b ∧ b ∉ F') ∧ Kp F w w' ∧ ∀ b ∈ F', b ∈ F ∨ w.heap.size ≤ b := by
  obtain ⟨q, rs, vs, vP, h1, h2, h3⟩ := h
  refine (submit_any h1 hx hr ht).mono ?_
  rintro e w' ⟨v', q', rs', vs', vP', rfl, a1, a2, a3, a4, a5⟩
  refine ⟨v', p :: (q' ++ rs'), rfl, ⟨q', rs', vs', vP', a1, fun b hb => hb, fun b hb => ?_⟩, a2, a3, a4.drop (fun b hb => Or.inl ?_), fun b hb => ?_⟩
  · rcases List.mem_cons.1 hb with rfl | hb
    · exact row_ltA a1.row
    · exact a1.lt b hb
  · rcases List.mem_cons.1 hb with rfl | hb
    · exact h2 b (by simp)
    · exact h2 b (by simp [hb])
  · rcases List.mem_cons.1 hb with rfl | hb
    · exact Or.inl (h2 b (by simp))
    · rcases a5 b hb with e | e
      · exact Or.inl (h2 b (List.mem_cons_of_mem _ e))
      · exact Or.inr e
theorem commit_x {w : World} {p : Nat} {F : List Nat} {R : Rs} (h : RX w p F R) {c : Int} (hc : I64 c) {v t : List UInt8} (htl : t.length = 32) (ht : Tb w) :
    Calls Tryz.prog 22 #[.pointer (some ⟨p, 0, none⟩), nu c, st v, .agg (dg t).toArray] w fun e w' => ∃ F', e = .returned (nu (comE R c v t)) ∧ RX w' p F' (comR R c v t) ∧ Kp F w w' ∧ ∀ b ∈ F', b ∈ F ∨ w.heap.size ≤ b := by
  obtain ⟨q, rs, vs, vP, h1, h2, h3⟩ := h
  refine (commit_any h1 hc htl ht).mono ?_
  rintro e w' ⟨q', rs', vs', vP', rfl, a1, a4, a5⟩
  refine ⟨p :: (q' ++ rs'), rfl, ⟨q', rs', vs', vP', a1, fun b hb => hb, fun b hb => ?_⟩, a4.drop (fun b hb => Or.inl ?_), fun b hb => ?_⟩
  · rcases List.mem_cons.1 hb with rfl | hb
    · exact row_ltA a1.row
    · exact a1.lt b hb
  · rcases List.mem_cons.1 hb with rfl | hb
    · exact h2 b (by simp)
    · exact h2 b (by simp [hb])
  · rcases List.mem_cons.1 hb with rfl | hb
    · exact Or.inl (h2 b (by simp))
    · rcases a5 b hb with e | e
      · exact Or.inl (h2 b (List.mem_cons_of_mem _ e))
      · exact Or.inr e
theorem order_x {w : World} {p : Nat} {F : List Nat} {R : Rs} (h : RX w p F R) : Calls Tryz.prog 23 #[.pointer (some ⟨p, 0, none⟩)] w fun e w' => e = .returned (st (orderR R)) ∧ Below w.heap.size w w' := by
  obtain ⟨q, rs, vs, vP, h1, -⟩ := h
  exact order_any h1
theorem number_x {w : World} {p : Nat} {F : List Nat} {R : Rs} (h : RX w p F R) (c : Int) : Calls Tryz.prog 19 #[.pointer (some ⟨p, 0, none⟩), nu c] w fun e w' => e = .returned (nu (numR R c)) ∧ w' = w := by
  obtain ⟨q, rs, vs, vP, h1, -⟩ := h
  exact num_reg h1 c
theorem view_x {w : World} {p : Nat} {F : List Nat} {R : Rs} (h : RX w p F R) (c : Int) : Calls Tryz.prog 25 #[.pointer (some ⟨p, 0, none⟩), nu c] w fun e w' => e = .returned (st (viewR R c)) ∧ w' = w := by
  obtain ⟨q, rs, vs, vP, h1, -⟩ := h
  exact view_reg h1 c

/-! ### The story of awake, in plain words -/
def x1 : Sub := ⟨1, 1, 0, [], zeroD, zeroD⟩
def x2 : Sub := ⟨2, 1, 0, [], zeroD, zeroD⟩
def t7 : List UInt8 := 7 :: List.replicate 31 0
def A1 : Rs := subR (newR 2) 0 x1
def A2 : Rs := subR A1 1 x1
def A3 : Rs := comR A2 0 [0] t7
def A4 : Rs := subR A3 0 x2
theorem a_e1 : subE (newR 2) 0 x1 = 0 := by kernel_rfl
theorem a_e2 : subE A1 1 x1 = 0 := by kernel_rfl
theorem a_e3 : comE A2 0 [0] t7 = 0 := by kernel_rfl
theorem a_e4 : subE A3 0 x2 = 0 := by kernel_rfl
theorem a_p1 : (subY (newR 2) 0 x1).pend.length = 0 := by kernel_rfl
theorem a_p2 : (subY A1 1 x1).pend.length = 1 := by kernel_rfl
theorem a_p4 : (subY A3 0 x2).pend.length = 1 := by kernel_rfl
theorem a_c4 : ((subY A3 0 x2).pend.getD 0 noPen).client = 1 := by kernel_rfl
theorem a_v4 : (subY A3 0 x2).view = [0] := by kernel_rfl
theorem a_t4 : (subY A3 0 x2).commit = t7 := by kernel_rfl
theorem a_o4 : orderR A4 = [0, 1, 0] := by kernel_rfl
theorem a_n4 : numR A4 0 = 2 := by kernel_rfl
theorem x1_wf : x1.Wf := ⟨rfl, rfl⟩
theorem x2_wf : x2.Wf := ⟨rfl, rfl⟩
theorem xr (c n : Int) (hc : I64 c) (hn : I64 n) : (subM c ⟨n, 1, 0, [], zeroD, zeroD⟩).Rng := by
  have h := zeroM_rng 1 c ⟨by decide, by decide⟩ hc
  exact ⟨h.kind, h.client, hn, ⟨by show (-9223372036854775808 : Int) ≤ 1; decide, by show (1 : Int) ≤ 9223372036854775807; decide⟩, ⟨by show (-9223372036854775808 : Int) ≤ 0; decide, by show (0 : Int) ≤ 9223372036854775807; decide⟩, h.rn, h.rl, h.rv, h.who, h.bo, h.bn, h.ns, h.ps⟩
theorem subY_wf {R : Rs} (h : RInv R) (c : Int) (x : Sub) : (subY R c x).Wf := by
  unfold subY
  split
  · exact wfZeroR
  · split
    · exact (h.reg c).ans
    · exact ansR_wf h x
theorem RX.after {w w' : World} {p : Nat} {F : List Nat} {R : Rs} (h : RX w p F R) (hb : Below w.heap.size w w') : RX w' p F R := h.kept hb
theorem build_x1 (W : World) : (Instr.build 25 #[(0, nu 1), (1, nu 1)]).run Tryz.prog W = .ok (.agg (subC x1).toArray) W := by kernel_rfl
theorem build_t7 (W : World) : (Instr.build 23 #[(0, .int .u8 7)]).run Tryz.prog W = .ok (.agg (dg t7).toArray) W := by kernel_rfl
theorem zeroSub : (Tryz.prog.info? 25).map (·.zero) = some (some (.agg (subC zeroS).toArray)) := by kernel_rfl
end Go.Proofs.YtidlgecognedlaaGreatDoor.Ms

/-
  The walk of awake.
-/
namespace Go.Proofs.YtidlgecognedlaaGreatDoor.Ms
open Go Go.RowKit
set_option maxRecDepth 100000

/-- Registers that were made since the world w. -/
structure Sx (w W : World) (p : Nat) (F : List Nat) (R : Rs) : Prop where
  rx : RX W p F R
  ge : ∀ b ∈ F, w.heap.size ≤ b
  bl : Below w.heap.size w W
theorem Sx.kept {w W W' : World} {p : Nat} {F : List Nat} {R : Rs} (h : Sx w W p F R) (hb : Below W.heap.size W W') : Sx w W' p F R := ⟨h.rx.kept hb, h.ge, below_two h.bl hb⟩
theorem Sx.lt {w W : World} {p : Nat} {F : List Nat} {R : Rs} (h : Sx w W p F R) : ∀ b ∈ F, b < W.heap.size := by
  obtain ⟨q, rs, vs, vP, -, -, h3⟩ := h.rx
  exact h3
theorem Sx.new {w W : World} {p : Nat} {F : List Nat} {R : Rs} (h : Sx w W p F R) : W.heap.size ∉ F := fun hb => Nat.lt_irrefl _ (h.lt _ hb)
theorem Sx.but {w W W' : World} {p : Nat} {F : List Nat} {R : Rs} (h : Sx w W p F R) {k : Nat} (hb : But k W W') (hk : k ∉ F) (hw : w.heap.size ≤ k) : Sx w W' p F R := by
  have k1 : Kp [k] W W' := (Kp.refl [k] W).but hb (Or.inl (by simp))
  exact ⟨h.rx.kp k1 (fun b hf hb' => by rw [List.mem_singleton] at hb'; subst hb'; exact hk hf), h.ge, h.bl.trans (k1.below (by simpa using hw) h.bl.size)⟩
theorem submit_s {w W : World} {p : Nat} {F : List Nat} {R : Rs} (h : Sx w W p F R) {c : Int} {x : Sub} (hx : x.Wf) (hr : (subM c x).Rng) (ht : Tb w) :
    Calls Tryz.prog 20 #[.pointer (some ⟨p, 0, none⟩), nu c, .agg (subC x).toArray] W fun e W' => ∃ v' F', e = .returned (.tuple #[.agg (repC (subY R c x) v').toArray, nu (subE R c x)]) ∧ Sx w W' p F' (subR R c x) ∧ OwnP W' v' (subY R c x).pend ∧ (∀ b, v'.ownBlock = some b → W.heap.size ≤ b ∧ b ∉ F') ∧ (W.heap.size ≤ W'.heap.size) ∧ ∀ k o, W.heap[k]? = some o → k ∉ F → W'.heap[k]? = some o ∧ k ∉ F' := by
  refine (submit_x h.rx hx hr (ht.stays h.bl)).mono ?_
  rintro e W' ⟨v', F', rfl, a1, a2, a3, a4, a5⟩
  refine ⟨v', F', rfl, ⟨a1, fun b hb => ?_, h.bl.trans (a4.below h.ge h.bl.size)⟩, a2, a3, a4.size, fun k o hk hf => ⟨a4.row hk hf, fun hb => ?_⟩⟩
  · rcases a5 b hb with e | e
    · exact h.ge b e
    · exact Nat.le_trans h.bl.size e
  · rcases a5 k hb with e | e
    · exact hf e
    · exact absurd (row_ltA hk) (by omega)
theorem commit_s {w W : World} {p : Nat} {F : List Nat} {R : Rs} (h : Sx w W p F R) {c : Int} (hc : I64 c) {v t : List UInt8} (htl : t.length = 32) (ht : Tb w) :
    Calls Tryz.prog 22 #[.pointer (some ⟨p, 0, none⟩), nu c, st v, .agg (dg t).toArray] W fun e W' => ∃ F', e = .returned (nu (comE R c v t)) ∧ Sx w W' p F' (comR R c v t) ∧ (W.heap.size ≤ W'.heap.size) ∧ ∀ k o, W.heap[k]? = some o → k ∉ F → W'.heap[k]? = some o ∧ k ∉ F' := by
  refine (commit_x h.rx hc htl (ht.stays h.bl)).mono ?_
  rintro e W' ⟨F', rfl, a1, a4, a5⟩
  refine ⟨F', rfl, ⟨a1, fun b hb => ?_, h.bl.trans (a4.below h.ge h.bl.size)⟩, a4.size, fun k o hk hf => ⟨a4.row hk hf, fun hb => ?_⟩⟩
  · rcases a5 b hb with e | e
    · exact h.ge b e
    · exact Nat.le_trans h.bl.size e
  · rcases a5 k hb with e | e
    · exact hf e
    · exact absurd (row_ltA hk) (by omega)
theorem new_s (w : World) (n : Nat) (hn : 2 ≤ n ∧ n ≤ 8) : Calls Tryz.prog 14 #[nu (n : Int)] w fun e w' => e = .returned (.tuple #[.pointer (some ⟨w.heap.size, 0, none⟩), nu 0]) ∧ Sx w w' w.heap.size [w.heap.size] (newR n) :=
  (rnew_ok w n hn).mono fun _ _ h => ⟨h.1, h.2.1, by simp, h.2.2⟩

theorem row_zero {w : World} {g : Nat} {cs : List Value} {t : TypeId} (h : w.heap[g]? = some (.cells cs.toArray t)) : ∀ j v, cs[j]? = some v → w.cell? ⟨g, 0 + j, none⟩ = some v := row_seg (A := []) (C := []) h (by simp) rfl
theorem a_f4 : (flatQ (subY A3 0 x2).pend)[0]? = some (nu 1) := by kernel_rfl
theorem a_d4 : (dg (subY A3 0 x2).commit)[0]? = some (.int .u8 7) := by kernel_rfl
theorem sub_put : (([] : List Value) ++ ([nu 2] ++ (subC x1).drop 1)) = subC x2 := by kernel_rfl
theorem sub_at : subC x1 = (([] : List Value) ++ ([nu 1] ++ (subC x1).drop 1)) := by kernel_rfl
theorem szS {x : Sub} (h : x.Wf) : (Tryz.prog.info? 25).map (·.size) = some (subC x).length := by rw [subC_len h]; exact sizeSub
theorem szR {x : Rep} (h : x.Wf) (v : Value) : (Tryz.prog.info? 28).map (·.size) = some (repC x v).length := by rw [repC_len h]; exact sizeRep
theorem lnR {x : Rep} (h : x.Wf) (v : Value) : (repC zeroR (.slice none 0 0)).length = (repC x v).length := by rw [repC_len h, repC_len wfZeroR]
theorem lnS {x : Sub} (h : x.Wf) : (subC zeroS).length = (subC x).length := by rw [subC_len h]; rfl

set_option maxHeartbeats 4000000 in
theorem rawake_any (w : World) (ht : Tb w) : Calls Tryz.prog 15 #[] w fun e w' => e = .returned (.bool true) ∧ Below w.heap.size w w' := by
  have HN := hid (new_s w 2 ⟨by decide, by decide⟩)
  have HT := hid ht
  have I0 : I64 0 := ⟨by decide, by decide⟩
  have I1 : I64 1 := ⟨by decide, by decide⟩
  have I2 : I64 2 := ⟨by decide, by decide⟩
  have S1 := hid (fun W p F (h : Sx w W p F (newR 2)) => submit_s h x1_wf (xr 0 1 I0 I1) HT.out)
  have S2 := hid (fun W p F (h : Sx w W p F A1) => submit_s h x1_wf (xr 1 1 I1 I1) HT.out)
  have S3 := hid (fun W p F (h : Sx w W p F A2) => commit_s (v := [0]) (t := t7) h I0 rfl HT.out)
  have S4 := hid (fun W p F (h : Sx w W p F A3) => submit_s h x2_wf (xr 0 2 I0 I2) HT.out)
  have S5 := hid (fun W p F (h : Sx w W p F A4) => order_x h.rx)
  have S6 := hid (fun W p F (h : Sx w W p F A4) => number_x h.rx 0)
  rw [a_e1] at S1
  rw [a_e2] at S2
  rw [a_e3] at S3
  rw [a_e4] at S4
  rw [a_o4] at S5
  rw [a_n4] at S6
  have Y1 := hid (subY_wf (RInv.new 2 ⟨by decide, by decide⟩) 0 x1)
  have ZS := zeroSub
  have ZR := zeroRep
  have ZX1 := hid (szS x1_wf)
  have ZX2 := hid (szS x2_wf)
  clear ht I0 I1 I2
  go_enter Tryz.func15, Tryz.ntmps15
  go_upto_region 4 with (go_at_call 14; refine HN.out.mono ?_; rintro e W1 ⟨rfl, h1⟩; have H1 := hid h1; clear h1)
  generalize hp : w.heap.size = p at *
  have HP := hid hp
  clear hp
  go_upto_region 5 with (first
    | ((with_reducible refine wl_buildL 25 [(0, .const (nu 1)), (1, .const (nu 1))] ?_ ?_ (subC x1).toArray (build_x1 _) ?_); exact rfl; exact rfl)
    | ((with_reducible refine wl_alloc 25 ?_ ?_ (subC zeroS).toArray ZS ?_); exact rfl; exact rfl)
    | ((with_reducible refine wl_store_top 25 (.tmp 3) (.tmp 20) ?_ ?_ ?_ ?_ (subC x1) (subC zeroS) ?_ 25 (lnS x1_wf) (one_sub x1) ZX1.out ?_); exact rfl; exact rfl; exact rfl; exact rfl; exact rfl))
  have R2 := hid (top_obj W1 (.cells (subC x1).toArray 25))
  have H2 := hid (H1.out.kept (below_a1 W1 (.cells (subC x1).toArray 25)))
  have N2 := hid (H1.out.new)
  have G3 := hid (H1.out.bl.size)
  generalize W1.alloc (.cells (subC x1).toArray 25) = W2 at *
  generalize W1.heap.size = k3 at *
  have Y1 := hid (subY_wf H2.out.rx.inv 0 x1)
  clear H1
  go_upto_region 6 with (first
    | ((with_reducible refine wl_load 25 (.tmp 3) ?_ k3 0 ?_ ?_ (subC x1) _ (row_zero R2.out) Tryz.underlying25 ?_ ZX1.out ?_); exact rfl; exact rfl; exact rfl; exact rfl)
    | (go_at_call 20; refine (S1.out _ _ _ H2.out).mono ?_; rintro e W3 ⟨v1, F3, rfl, h3, o3, -, -, q3⟩; obtain ⟨ad1, c1, e1⟩ := o3.len; rw [a_p1] at e1; subst e1; have H3 := hid h3; have K3 := hid (q3 _ _ R2.out N2.out); clear h3 o3 q3)
    | ((with_reducible refine wl_alloc 28 ?_ ?_ (repC zeroR (.slice none 0 0)).toArray ZR ?_); exact rfl; exact rfl)
    | ((with_reducible refine wl_store_top 28 (.tmp 4) (.tmp 25) ?_ ?_ ?_ ?_ (repC (subY (newR 2) 0 x1) (.slice ad1 0 c1)) (repC zeroR (.slice none 0 0)) ?_ 28 (lnR Y1.out _) (one_rep _ _ rfl) (szR Y1.out _) ?_); exact rfl; exact rfl; exact rfl; exact rfl; exact rfl))
  have R4 := hid (top_obj W3 (.cells (repC (subY (newR 2) 0 x1) (.slice ad1 0 c1)).toArray 28))
  have B4 := hid (below_a1 W3 (.cells (repC (subY (newR 2) 0 x1) (.slice ad1 0 c1)).toArray 28))
  have X4 := hid (row_kept K3.out.1 B4.out)
  have H4 : Hid (Sx w _ _ F3 A1) := hid (H3.out.kept B4.out)
  have N4 := hid K3.out.2
  have M4 := hid H3.out.new
  generalize W3.alloc (.cells (repC (subY (newR 2) 0 x1) (.slice ad1 0 c1)).toArray 28) = W4 at *
  generalize W3.heap.size = k4 at *
  have Y2 := hid (subY_wf H4.out.rx.inv 1 x1)
  clear H2 H3 K3 R2 N2 B4 S1
  go_upto_region 7 with (first
    | ((with_reducible refine wl_load 25 (.tmp 3) ?_ k3 0 ?_ ?_ (subC x1) _ (row_zero X4.out) Tryz.underlying25 ?_ ZX1.out ?_); exact rfl; exact rfl; exact rfl; exact rfl)
    | (go_at_call 20; refine (S2.out _ _ _ H4.out).mono ?_; rintro e W5 ⟨v2, F5, rfl, h5, o5, -, -, q5⟩; obtain ⟨ad2, c2, e2⟩ := o5.len; rw [a_p2] at e2; subst e2; have H5 := hid h5; have K5 := hid (q5 _ _ X4.out N4.out); have J5 := hid (q5 _ _ R4.out M4.out); clear h5 o5 q5)
    | ((with_reducible refine wl_alloc 28 ?_ ?_ (repC zeroR (.slice none 0 0)).toArray ZR ?_); exact rfl; exact rfl)
    | ((with_reducible refine wl_store_top 28 (.tmp 6) (.tmp 31) ?_ ?_ ?_ ?_ (repC (subY A1 1 x1) (.slice ad2 1 c2)) (repC zeroR (.slice none 0 0)) ?_ 28 (lnR Y2.out _) (one_rep _ _ rfl) (szR Y2.out _) ?_); exact rfl; exact rfl; exact rfl; exact rfl; exact rfl))
  have B6 := hid (below_a1 W5 (.cells (repC (subY A1 1 x1) (.slice ad2 1 c2)).toArray 28))
  have X6 := hid (row_kept K5.out.1 B6.out)
  have R6 := rrow_P (row_kept J5.out.1 B6.out) Y1.out
  have Q6 := rrow_P (top_obj W5 (.cells (repC (subY A1 1 x1) (.slice ad2 1 c2)).toArray 28)) Y2.out
  have H6 : Hid (Sx w _ _ F5 A2) := hid (H5.out.kept B6.out)
  have N6 := hid K5.out.2
  generalize W5.alloc (.cells (repC (subY A1 1 x1) (.slice ad2 1 c2)).toArray 28) = W6 at *
  generalize W5.heap.size = k6 at *
  clear H4 H5 K5 J5 R4 X4 N4 M4 B6 S2 Y1 Y2
  go_upto_region 9 with (first
    | ((with_reducible refine wl_buildL 23 [(0, .const (.int .u8 7))] ?_ ?_ (dg t7).toArray (build_t7 _) ?_); exact rfl; exact rfl)
    | (go_at_call 22; refine (S3.out _ _ _ H6.out).mono ?_; rintro e W7 ⟨F7, rfl, h7, -, q7⟩; have H7 : Hid (Sx w _ _ F7 A3) := hid h7; have K7 := hid (q7 _ _ X6.out N6.out); clear h7 q7))
  have R7 : Hid (W7.heap[k3]? = some (.cells (([] : List Value) ++ ([nu 1] ++ (subC x1).drop 1)).toArray 25)) := by
    have e := K7.out.1
    rw [sub_at] at e
    exact e
  have N7 := hid K7.out.2
  clear K7 H6 X6 N6 R6 Q6 S3
  go_upto_region 10 with ((with_reducible refine wl_put1 3 (.tmp 57) (.const (nu 2)) ?_ ?_ k3 0 ?_ ?_ [] ((subC x1).drop 1) (nu 1) (nu 2) ?_ 25 R7.out ?_ ?_ ?_ ?_); exact rfl; exact rfl; exact rfl; exact rfl; exact rfl; exact rfl; exact rfl; kernel_rfl; intro W8 r8 b8; rw [sub_put] at r8; have R8 := hid r8; have H8 := hid (H7.out.but b8 N7.out G3.out); clear r8 b8)
  have Y4 := hid (subY_wf H8.out.rx.inv 0 x2)
  clear R7 H7
  go_upto_region 11 with (first
    | ((with_reducible refine wl_load 25 (.tmp 3) ?_ k3 0 ?_ ?_ (subC x2) _ (row_zero R8.out) Tryz.underlying25 ?_ ZX2.out ?_); exact rfl; exact rfl; exact rfl; exact rfl)
    | (go_at_call 20; refine (S4.out _ _ _ H8.out).mono ?_; rintro e W9 ⟨v4, F9, rfl, h9, o9, -, -, -⟩; have H9 := hid h9; have O9 := hid o9; clear h9 o9)
    | ((with_reducible refine wl_alloc 28 ?_ ?_ (repC zeroR (.slice none 0 0)).toArray ZR ?_); exact rfl; exact rfl)
    | ((with_reducible refine wl_store_top 28 (.tmp 8) (.tmp 62) ?_ ?_ ?_ ?_ (repC (subY A3 0 x2) v4) (repC zeroR (.slice none 0 0)) ?_ 28 (lnR Y4.out _) (one_rep _ _ O9.out.one) (szR Y4.out _) ?_); exact rfl; exact rfl; exact rfl; exact rfl; exact rfl))
  obtain ⟨g, cap, rfl⟩ : ∃ g cap, v4 = .slice (some ⟨g, 0, none⟩) 1 cap := by
    have ha := a_p4
    rcases O9.out.form with ⟨-, e⟩ | ⟨g, cap, cur, e, -⟩
    · rw [e] at ha; cases ha
    · rw [ha] at e
      exact ⟨g, cap, e⟩
  have B10 := hid (below_a1 W9 (.cells (repC (subY A3 0 x2) (.slice (some ⟨g, 0, none⟩) 1 cap)).toArray 28))
  have T10 := top_obj W9 (.cells (repC (subY A3 0 x2) (.slice (some ⟨g, 0, none⟩) 1 cap)).toArray 28)
  have c1 := rrow_view T10 Y4.out
  rw [a_v4] at c1
  have c2 := rrow_commit T10 Y4.out 0 _ a_d4
  have c3 := rrow_P T10 Y4.out
  have c4 := (O9.out.kept B10.out).cell 0 _ a_f4
  have H10 : Hid (Sx w _ _ F9 A4) := hid (H9.out.kept B10.out)
  generalize W9.alloc (.cells (repC (subY A3 0 x2) (.slice (some ⟨g, 0, none⟩) 1 cap)).toArray 28) = W10 at *
  generalize W9.heap.size = k8 at *
  clear H9 O9 T10 B10 H8 R8 N7 S4 Y4
  go_wp2_with (first
    | (go_at_call 23; refine (S5.out _ _ _ H10.out).mono ?_; rintro e W11 ⟨rfl, b11⟩; have H11 := hid (H10.out.kept b11); clear b11)
    | (go_at_call 19; refine (S6.out _ _ _ H11.out).mono ?_; rintro e W12 ⟨rfl, e12⟩; subst W12))
  go_ret
  exact ⟨rfl, H11.out.bl⟩
end Go.Proofs.YtidlgecognedlaaGreatDoor.Ms
