/-
  What the document's Put answers, and what is there behind it.
-/
import Derived.Test.YtjpclmkkccffhaaBch
import Derived.Deep.RegionHeld3
namespace Go.Proofs.Ytjpclmkkccffhaa.Bl
open Go Go.RowKit Go.Maps
set_option maxRecDepth 100000

theorem infoB : (Try.prog.info? 33).map (fun i => (i.zero, i.size, i.bytes)) = some (some (.agg (bloC zeroB).toArray), 35, 64) := by kernel_rfl
theorem uBlos : Try.prog.underlying 43 = some (.slice 33) := Try.underlying43
theorem sizeBlos : (Try.prog.info? 43).map (·.size) = some 1 := by kernel_rfl
theorem fa_ref (g : Nat) (w : World) : (Instr.fieldAt 45 (ptr g 0) 0).run Try.prog w = .ok (ptr g (0 + 0)) w := by kernel_rfl
theorem one_flat (L : List Blo) : ∀ u ∈ flatB L, u.oneCell' = true := by
  intro u hu
  obtain ⟨b, -, hb⟩ := List.mem_flatMap.1 hu
  exact one_blo b u hb
theorem at_some {L : List Blo} (hI : Inv L) {o n : Int} {x : Blo} (h : L.find? (hitB o n) = some x) : ∃ k, ∃ hk : k < L.length, L[k] = x ∧ atI L o n = k := by
  unfold atI
  cases e : L.findIdx? (hitB o n) with
  | none =>
    rw [List.findIdx?_eq_none_iff] at e
    have := e x (find_some h).1
    rw [(hitB_iff o n x).2 (find_some h).2] at this
    cases this
  | some k =>
    rw [List.findIdx?_eq_some_iff_getElem] at e
    obtain ⟨hk, h1, -⟩ := e
    have h2 := find_of hI (List.getElem_mem hk) ((hitB_iff o n _).1 h1)
    rw [h] at h2
    cases h2
    exact ⟨k, hk, rfl, rfl⟩
theorem at_none {L : List Blo} {o n : Int} (h : L.find? (hitB o n) = none) : atI L o n = -1 := atI_none (by rw [any_find, h]; rfl)
theorem own_empty (w : World) (base e size : Nat) (h : base ≤ w.heap.size) : (w.alloc (.cells #[] e)).ownsRow base e size (.slice (some ⟨w.heap.size, 0, none⟩) 0 0) 0 [] :=
  ⟨by simp, Or.inr ⟨w.heap.size, 0, #[], rfl, h, top_obj w _, Nat.le_refl _, by unfold maxLen; omega, by simp, by simp⟩⟩
theorem own_zero {w : World} {base e size n : Nat} {v : Value} {xs : List Value} (h : w.ownsRow base e size v n xs) : w.ownsRow 0 e size v n xs := by
  refine ⟨h.1, ?_⟩
  rcases h.2 with h0 | ⟨g, cap, cur, h1, -, h3⟩
  · exact Or.inl h0
  · exact Or.inr ⟨g, cap, cur, h1, Nat.zero_le _, h3⟩
theorem own_none {w : World} {base e size g : Nat} (hg : base ≤ g) (h : w.heap[g]? = some (.cells #[] e)) : w.ownsRow base e size (.slice (some ⟨g, 0, none⟩) 0 0) 0 [] :=
  ⟨by simp, Or.inr ⟨g, 0, #[], rfl, hg, h, Nat.le_refl _, by unfold maxLen; omega, by simp, by simp⟩⟩
theorem own_one1 {w : World} {e size g : Nat} {cs : List Value} (hl : cs.length = size) (h : w.heap[g]? = some (.cells cs.toArray e)) : Pc w size (.slice (some ⟨g, 0, none⟩) 1 1) 1 cs := by
  refine ⟨by simp [hl], _, _, rfl, fun _ => ⟨_, rfl, fun j u hj => ?_⟩⟩
  rw [add_none, cell_of_row _ _ _ _ _ _ h]
  simpa using hj
theorem own_slice {w : World} {base e size n : Nat} {v : Value} {xs : List Value} (h : w.ownsRow base e size v n xs) : v.oneCell' = true := by
  rcases h.2 with ⟨rfl, -⟩ | ⟨g, cap, cur, rfl, -⟩ <;> rfl
section
variable {P : Program} {o : Oper} {a : Act} {w : World} {Q : Exit → Act → World → Prop} {K : Act → World → Prop}
theorem op_store1 (ty : TypeId) (x y : Tmp) (ho : o.op = .store ty (.tmp x) (.tmp y)) (hn : o.dst = none) (g : Nat) (hx : a.tmps.getD x undef = ptr g 0) (v : Value) (hy : a.tmps.getD y undef = v) (h1 : v.oneCell' = true)
    (t : TypeId) (old : Value) (hg : w.heap[g]? = some (.cells #[old] t)) (hi : (P.info? ty).map (·.size) = some 1) (h : K a (w.setRow g #[v])) : o.wp P a w K Q := by
  have ex : a.eval (.tmp x) = ptr g 0 := hx
  have ey : a.eval (.tmp y) = v := hy
  unfold Oper.wp execOp
  simp only [ho, ex, ey, Instr.storeAt, Instr.sureAddr, Sem.run_bind, Sem.run_pure, Result.andThen_ok, run_storeVar_one w g t ty old _ hg hi h1]
  show K (a.put o.dst undef) _
  rw [hn]
  exact h
end
/-- A list of one's own has changed: what of other blocks was there stands. -/
theorem below_grown {B : Nat} {w0 w w' : World} {row : Option Nat} (h : Below B w0 w) (hg : w.grownBy w' row) (hr : ∀ k, row = some k → B ≤ k) (hB : B ≤ w.heap.size) : Below B w0 w' := h.grown hg hB hr
/-- What the slots of the region hold that lays a blob behind a list. -/
def vQ (B : Nat) (Ls : List Blo) (b : Blo) (L : Nat → Bool) (i : Nat) (v : Value) (w : World) : Prop :=
  if i = 1 then L 6 = true ∨ (∃ g, v = .slice (some ⟨g, 0, none⟩) 0 0 ∧ B ≤ g ∧ w.heap[g]? = some (.cells #[] 33))
  else if i = 6 then L 9 = true ∨ OwnB w B v Ls
  else if i = 8 then L 9 = true ∨ (∃ g, v = .slice (some ⟨g, 0, none⟩) 1 1 ∧ B ≤ g ∧ w.heap[g]? = some (.cells (bloC b).toArray 33))
  else OwnB w B v (Ls ++ [b])
section
variable {B : Nat} {Ls : List Blo} {b : Blo} {L : Nat → Bool} {v : Value} {w : World}
theorem vQ1 : vQ B Ls b L 1 v w ↔ (L 6 = true ∨ (∃ g, v = .slice (some ⟨g, 0, none⟩) 0 0 ∧ B ≤ g ∧ w.heap[g]? = some (.cells #[] 33))) := by unfold vQ; simp
theorem vQ6 : vQ B Ls b L 6 v w ↔ (L 9 = true ∨ OwnB w B v Ls) := by unfold vQ; simp
theorem vQ8 : vQ B Ls b L 8 v w ↔ (L 9 = true ∨ (∃ g, v = .slice (some ⟨g, 0, none⟩) 1 1 ∧ B ≤ g ∧ w.heap[g]? = some (.cells (bloC b).toArray 33))) := by unfold vQ; simp
theorem vQ9 : vQ B Ls b L 9 v w ↔ OwnB w B v (Ls ++ [b]) := by unfold vQ; simp
theorem vQ_up {i : Nat} (hi : i ≠ 6) (hi' : i ≠ 9) (j : Nat) (h : vQ B Ls b L j v w) : vQ B Ls b (up L i) j v w := by
  unfold vQ at h ⊢
  rw [up_ne hi, up_ne hi']
  exact h
theorem vQ_kept {w' : World} (hb : Below w.heap.size w w') (j : Nat) (h : vQ B Ls b L j v w) : vQ B Ls b L j v w' := by
  by_cases e1 : j = 1
  · subst e1
    rw [vQ1] at h ⊢
    rcases h with h | ⟨g, h1, h2, h3⟩
    · exact Or.inl h
    · exact Or.inr ⟨g, h1, h2, row_kept h3 hb⟩
  · by_cases e6 : j = 6
    · subst e6
      rw [vQ6] at h ⊢
      exact h.imp id (fun h => own_kept h hb)
    · by_cases e8 : j = 8
      · subst e8
        rw [vQ8] at h ⊢
        rcases h with h | ⟨g, h1, h2, h3⟩
        · exact Or.inl h
        · exact Or.inr ⟨g, h1, h2, row_kept h3 hb⟩
      · unfold vQ at h ⊢
        rw [if_neg e1, if_neg e6, if_neg e8] at h ⊢
        exact own_kept h hb
end
/-- A list stands where it stood, or in what is new. -/
def Fr (w : World) (v v' : Value) : Prop := ∀ k, v'.ownBlock = some k → v.ownBlock = some k ∨ w.heap.size ≤ k
theorem Fr.same (w : World) (v : Value) : Fr w v v := fun _ h => Or.inl h
theorem may_not {b : Blo} (h : b.owner < 0 ∨ 7 < b.owner ∨ b.number < 0 ∨ 1099511627776 < b.number ∨ 4096 < b.cipher.length) : mayB b = false := by
  cases e : mayB b
  · rfl
  · have := (mayB_iff b).1 e
    omega
set_option maxHeartbeats 4000000 in
theorem rput_bad {w : World} {r : Nat} (b : Blo) (hm : mayB b = false) : Calls Try.prog 28 #[ptr r 0, .agg (bloC b).toArray] w fun e w' => e = .returned (nu 2) ∧ Below w.heap.size w w' := by
  have R0 := hid (top_obj w (.cells (bloC b).toArray 33))
  have B0 := hid (below_a1 w (.cells (bloC b).toArray 33))
  have c0 := brow_o R0.out
  have c1 := brow_n R0.out
  have c2 := brow_c R0.out
  have hsz : (⟨b.cipher.toArray⟩ : ByteArray).size = b.cipher.length := rfl
  have hor : b.owner < 0 ∨ (¬ b.owner < 0 ∧ 7 < b.owner) ∨ (¬ b.owner < 0 ∧ ¬ 7 < b.owner ∧ b.number < 0) ∨ (¬ b.owner < 0 ∧ ¬ 7 < b.owner ∧ ¬ b.number < 0 ∧ 1099511627776 < b.number) ∨ (¬ b.owner < 0 ∧ ¬ 7 < b.owner ∧ ¬ b.number < 0 ∧ ¬ 1099511627776 < b.number ∧ (4096 : Int) < (b.cipher.length : Int)) := by
    have : ¬ ((0 ≤ b.owner ∧ b.owner < 8) ∧ (0 ≤ b.number ∧ b.number ≤ 1099511627776) ∧ b.cipher.length ≤ 4096) := fun h => by
      rw [(mayB_iff b).2 h] at hm
      cases hm
    omega
  clear hm
  rcases hor with h1 | ⟨h1, h2⟩ | ⟨h1, h2, h3⟩ | ⟨h1, h2, h3, h4⟩ | ⟨h1, h2, h3, h4, h5⟩
  · have d1 : decide (b.owner < 0) = true := decide_eq_true h1
    clear h1
    go_enter Try.func28, Try.ntmps28
    go_wp2
    go_ret
    exact ⟨rfl, B0.out⟩
  · have d1 : decide (b.owner < 0) = false := decide_eq_false h1
    have d2 : decide (7 < b.owner) = true := decide_eq_true h2
    clear h1 h2
    go_enter Try.func28, Try.ntmps28
    go_wp2
    go_ret
    exact ⟨rfl, B0.out⟩
  · have d1 : decide (b.owner < 0) = false := decide_eq_false h1
    have d2 : decide (7 < b.owner) = false := decide_eq_false h2
    have d3 : decide (b.number < 0) = true := decide_eq_true h3
    clear h1 h2 h3
    go_enter Try.func28, Try.ntmps28
    go_wp2
    go_ret
    exact ⟨rfl, B0.out⟩
  · have d1 : decide (b.owner < 0) = false := decide_eq_false h1
    have d2 : decide (7 < b.owner) = false := decide_eq_false h2
    have d3 : decide (b.number < 0) = false := decide_eq_false h3
    have d4 : decide (1099511627776 < b.number) = true := decide_eq_true h4
    clear h1 h2 h3 h4
    go_enter Try.func28, Try.ntmps28
    go_wp2
    go_ret
    exact ⟨rfl, B0.out⟩
  · have d1 : decide (b.owner < 0) = false := decide_eq_false h1
    have d2 : decide (7 < b.owner) = false := decide_eq_false h2
    have d3 : decide (b.number < 0) = false := decide_eq_false h3
    have d4 : decide (1099511627776 < b.number) = false := decide_eq_false h4
    have d5 : decide ((4096 : Int) < (b.cipher.length : Int)) = true := decide_eq_true h5
    clear h1 h2 h3 h4 h5
    go_enter Try.func28, Try.ntmps28
    go_wp2
    go_ret
    exact ⟨rfl, B0.out⟩

set_option maxHeartbeats 4000000 in
theorem rput_ok {w : World} {r : Nat} {v : Value} {L : List Blo} (h : RfAt w r v L) (b : Blo) (hbw : b.Wf) (hm : mayB b = true) : Calls Try.prog 28 #[ptr r 0, .agg (bloC b).toArray] w fun e w' =>
    e = .returned (nu (putE L b)) ∧ (∃ v', RfAt w' r v' (putD L b) ∧ Fr w v v') ∧ Kp [r] w w' := by
  have R0 := hid (top_obj w (.cells (bloC b).toArray 33))
  have B0 := hid (below_a1 w (.cells (bloC b).toArray 33))
  have H0 := hid (h.kept B0.out)
  have c0 := brow_o R0.out
  have c1 := brow_n R0.out
  have c2 := brow_c R0.out
  have hsz : (⟨b.cipher.toArray⟩ : ByteArray).size = b.cipher.length := rfl
  have Zb := hid (sizeOf_blo hbw)
  have hmm := (mayB_iff b).1 hm
  have d1 : decide (b.owner < 0) = false := decide_eq_false (by omega)
  have d2 : decide (7 < b.owner) = false := decide_eq_false (by omega)
  have d3 : decide (b.number < 0) = false := decide_eq_false (by omega)
  have d4 : decide (1099511627776 < b.number) = false := decide_eq_false (by omega)
  have d5 : decide ((4096 : Int) < (b.cipher.length : Int)) = false := decide_eq_false (by omega)
  have HAt := hid (at_any H0.out b.owner b.number)
  have hlen := h.inv.len
  have q0 := H0.out.cell
  have HP := hid hm
  clear h
  cases hf : L.find? (hitB b.owner b.number) with
  | some x =>
    obtain ⟨k, hk, hx, hat⟩ := at_some H0.out.inv hf
    have HE : Hid (putE L b = (if sameB x b then 0 else 10) ∧ putD L b = L) := by
      show _ ∧ _
      unfold putE putD
      rw [hm, hf]
      exact ⟨rfl, rfl⟩
    have hxw : x.Wf := (H0.out.inv.ok x (find_some hf).1).2
    have EQ := fun W => equal_blo W x b hxw hbw
    have Zx := hid (sizeOf_blo hxw)
    obtain ⟨g, cap, e1, hc⟩ := H0.out.row.at H0.out.inv hk
    rw [hx] at hc
    have HC := hid hc
    rw [hat] at HAt
    have dk : decide ((0 : Int) ≤ (k : Int)) = true := decide_eq_true (by omega)
    clear hf hat hx hm hmm hc
    subst e1
    generalize sameB x b = sm at *
    go_enter Try.func28, Try.ntmps28
    go_upto_region 1 with fail
    generalize w.alloc (.cells (bloC b).toArray 33) = W0 at *
    go_upto_region 4 with (go_at_call 27; refine HAt.out.mono ?_; rintro e w1 ⟨rfl, hw1⟩; subst w1)
    have p0 : ∀ dd os, (Sort.grow (redrawn W0 dd) os).cell? ⟨r, 0, none⟩ = some (.slice (some ⟨g, 0, none⟩) L.length cap) := fun dd os => cell_regrown q0 _ _
    have SA := hid (fun w' (hw : ∃ p : Regrown, w' = Sort.grow (redrawn W0 p.d) p.os) => (by obtain ⟨p, rfl⟩ := hw; exact fun i c hi => cell_regrown (HC.out i c hi) _ _ : ∀ i c, (bloC x)[i]? = some c → w'.cell? ⟨g, k * 35 + i, none⟩ = some c))
    have SB := hid (fun w' (hw : ∃ p : Regrown, w' = Sort.grow (redrawn W0 p.d) p.os) => (by obtain ⟨p, rfl⟩ := hw; exact fun i c hi => cell_regrown (brow_all R0.out i c hi) _ _ : ∀ i c, (bloC b)[i]? = some c → w'.cell? ⟨w.heap.size, 0 + i, none⟩ = some c))
    refine wp_region_quiet_below (by kernel_rfl) (by kernel_rfl) ?_
    iterate 9 (first | go_big_quiet_step (fail) | quiet_step (fail))
    refine wq_load 33 (.tmp 46) rfl g (k * 35) rfl rfl (bloC x) _ (fun w' hw' => SA.out w' hw') Try.underlying33 rfl Zx.out ?_
    simp only [Act.put, List.setIfInBounds_toArray, List.set_cons_zero, List.set_cons_succ]
    refine wq_load 33 (.tmp 3) rfl w.heap.size 0 rfl rfl (bloC b) _ (fun w' hw' => SB.out w' hw') Try.underlying33 rfl Zb.out ?_
    simp only [Act.put, List.setIfInBounds_toArray, List.set_cons_zero, List.set_cons_succ]
    refine wq_eql rfl 33 33 (.tmp 47) (.tmp 48) rfl (bloC x).toArray (bloC b).toArray rfl rfl guardBlo sm EQ ?_
    simp only [Act.put, List.setIfInBounds_toArray, List.set_cons_zero, List.set_cons_succ]
    iterate 1 (first | go_big_quiet_step (fail) | quiet_step (fail))
    refine wpQuiet_nil ?_
    intro _ hw'
    obtain ⟨⟨dq, osq⟩, hw''⟩ := hw'
    subst hw''
    have HBq := hid (below_regrown W0 dq osq)
    generalize Sort.grow (redrawn W0 dq) osq = W1 at *
    clear p0 SA SB EQ q0
    cases sm
    all_goals
      go_wp2
      go_ret
      refine ⟨by rw [HE.out.1]; rfl, ⟨.slice (some ⟨g, 0, none⟩) L.length cap, ?_, Fr.same _ _⟩, Kp.of (below_two B0.out HBq.out)⟩
      rw [HE.out.2]
      exact H0.out.kept HBq.out
  | none =>
    have hat := at_none hf
    have HN := hid hf
    rw [hat] at HAt
    have HU := hid (fun W (hb : Below (w.alloc (.cells (bloC b).toArray 33)).heap.size (w.alloc (.cells (bloC b).toArray 33)) W) => rused_any (H0.out.kept hb) b.owner)
    have h1 := H0.out.inv.cnt b.owner
    have h2 := H0.out.inv.byt b.owner
    have hc4 := hmm.2.2
    cases hr : roomB L b with
    | false =>
      have HE : Hid (putE L b = 11 ∧ putD L b = L) := by
        show _ ∧ _
        unfold putE putD
        rw [hm, hf]
        simp [hr]
      have hnr : ¬ (cntO L b.owner < 256 ∧ bytO L b.owner + b.cipher.length ≤ 32768) := fun h => by
        rw [(roomB_iff L b).2 h] at hr
        cases hr
      clear hf hat hm hmm hr
      generalize cntO L b.owner = cn at *
      generalize bytO L b.owner = bn at *
      by_cases hcn : 256 < cn + 1
      · have f1 : decide ((256 : Int) < (cn : Int) + 1) = true := decide_eq_true (by omega)
        clear hcn hnr
        go_enter Try.func28, Try.ntmps28
        go_upto_region 1 with fail
        generalize w.alloc (.cells (bloC b).toArray 33) = W0 at *
        go_upto_region 4 with (go_at_call 27; refine HAt.out.mono ?_; rintro e w1 ⟨rfl, hw1⟩; subst w1)
        refine wp_region_quiet_below (by kernel_rfl) (by kernel_rfl) ?_
        iterate 13 (first | go_big_quiet_step (fail) | quiet_step (fail))
        refine wpQuiet_nil ?_
        intro _ hw'
        obtain ⟨⟨dq, osq⟩, hw''⟩ := hw'
        subst hw''
        have HBq := hid (below_regrown W0 dq osq)
        have HU1 := hid (HU.out _ (below_regrown W0 dq osq))
        have R1 := hid (row_kept R0.out (below_regrown W0 dq osq))
        have e0 := brow_o R1.out
        have e2 := brow_c R1.out
        generalize Sort.grow (redrawn W0 dq) osq = W1 at *
        clear c0 c1 c2 HU
        go_wp2_with (go_at_call 18; refine HU1.out.mono ?_; rintro e w2 ⟨rfl, hw2⟩; subst w2)
        go_ret
        refine ⟨by rw [HE.out.1]; rfl, ⟨v, ?_, Fr.same _ _⟩, Kp.of (below_two B0.out HBq.out)⟩
        rw [HE.out.2]
        exact H0.out.kept HBq.out
      · have f1 : decide ((256 : Int) < (cn : Int) + 1) = false := decide_eq_false (by omega)
        have f2 : decide ((32768 : Int) < (bn : Int) + (b.cipher.length : Int)) = true := decide_eq_true (by omega)
        clear hcn hnr
        go_enter Try.func28, Try.ntmps28
        go_upto_region 1 with fail
        generalize w.alloc (.cells (bloC b).toArray 33) = W0 at *
        go_upto_region 4 with (go_at_call 27; refine HAt.out.mono ?_; rintro e w1 ⟨rfl, hw1⟩; subst w1)
        refine wp_region_quiet_below (by kernel_rfl) (by kernel_rfl) ?_
        iterate 13 (first | go_big_quiet_step (fail) | quiet_step (fail))
        refine wpQuiet_nil ?_
        intro _ hw'
        obtain ⟨⟨dq, osq⟩, hw''⟩ := hw'
        subst hw''
        have HBq := hid (below_regrown W0 dq osq)
        have HU1 := hid (HU.out _ (below_regrown W0 dq osq))
        have R1 := hid (row_kept R0.out (below_regrown W0 dq osq))
        have e0 := brow_o R1.out
        have e2 := brow_c R1.out
        generalize Sort.grow (redrawn W0 dq) osq = W1 at *
        clear c0 c1 c2 HU
        go_wp2_with (go_at_call 18; refine HU1.out.mono ?_; rintro e w2 ⟨rfl, hw2⟩; subst w2)
        go_ret
        refine ⟨by rw [HE.out.1]; rfl, ⟨v, ?_, Fr.same _ _⟩, Kp.of (below_two B0.out HBq.out)⟩
        rw [HE.out.2]
        exact H0.out.kept HBq.out
    | true =>
      have HE : Hid (putE L b = 0 ∧ putD L b = L ++ [b]) := by
        show _ ∧ _
        unfold putE putD
        rw [hm, hf]
        simp [hr]
      have HI : Hid (Inv (L ++ [b])) := H0.out.inv.app hm hbw hf hr
      have hrr := (roomB_iff L b).1 hr
      clear hf hat hm hmm hr
      generalize cntO L b.owner = cn at *
      generalize bytO L b.owner = bn at *
      have f1 : decide ((256 : Int) < (cn : Int) + 1) = false := decide_eq_false (by omega)
      have f2 : decide ((32768 : Int) < (bn : Int) + (b.cipher.length : Int)) = false := decide_eq_false (by omega)
      go_enter Try.func28, Try.ntmps28
      go_upto_region 1 with fail
      generalize w.alloc (.cells (bloC b).toArray 33) = W0 at *
      go_upto_region 4 with (go_at_call 27; refine HAt.out.mono ?_; rintro e w1 ⟨rfl, hw1⟩; subst w1)
      refine wp_region_quiet_below (by kernel_rfl) (by kernel_rfl) ?_
      iterate 13 (first | go_big_quiet_step (fail) | quiet_step (fail))
      refine wpQuiet_nil ?_
      intro _ hw'
      obtain ⟨⟨dq, osq⟩, hw''⟩ := hw'
      subst hw''
      have HBq := hid (below_regrown W0 dq osq)
      have HU1 := hid (HU.out _ (below_regrown W0 dq osq))
      have R1 := hid (row_kept R0.out (below_regrown W0 dq osq))
      have e0 := brow_o R1.out
      have e2 := brow_c R1.out
      generalize Sort.grow (redrawn W0 dq) osq = W1 at *
      clear c0 c1 c2 HU
      go_upto_region 11 with (go_at_call 18; refine HU1.out.mono ?_; rintro e w2 ⟨rfl, hw2⟩; subst w2)
      have H1 := hid (H0.out.kept HBq.out)
      have BB := hid (below_two B0.out HBq.out)
      have LR : Hid (r < W1.heap.size) := row_lt H1.out.obj
      clear H0 B0 R0 HAt HU1
      refine wp_region_chain (N := 83) 12 [1, 6, 8, 9] (vQ W1.heap.size L b) [ptr r 0, undef, ptr r 0, ptr r 0, ptr r (0 + 0), v, undef, .agg (bloC b).toArray, undef, undef, ptr r 0, ptr r (0 + 0)] (by kernel_rfl) (by kernel_rfl) (by kernel_rfl) rfl ?_ ?_ ?_ ?_
      · intro i hi hn L' j u w' h
        exact vQ_up (by rintro rfl; simp at hi) (by rintro rfl; simp at hi) j h
      · intro i o hi hS ho
        match i, ho with
        | 0, ho => cases ho; exact fun a w hB hk hc K h => op_move 0 _ rfl (hk 0 (by kernel_rfl)) h
        | 1, ho => simp at hS
        | 2, ho => cases ho; exact fun a w hB hk hc K h => op_move 0 _ rfl (hk 0 (by kernel_rfl)) h
        | 3, ho => cases ho; exact fun a w hB hk hc K h => op_nil 73 r 0 rfl (hc 2 73 (by kernel_rfl) (by decide) (by kernel_rfl)) h
        | 4, ho => cases ho; exact fun a w hB hk hc K h => op_fa 74 _ 0 r 0 0 rfl (fun W => fa_ref r W) (hc 3 74 (by kernel_rfl) (by decide) (by kernel_rfl)) h
        | 5, ho => cases ho; exact fun a w hB hk hc K h => op_load1 _ (.tmp 75) rfl r (0 + 0) (hc 4 75 (by kernel_rfl) (by decide) (by kernel_rfl)) v _ (H1.out.kept hB).cell uBlos rfl h
        | 6, ho => simp at hS
        | 7, ho => cases ho; exact fun a V hB hk hc K h => op_load _ (.tmp 3) rfl w.heap.size 0 (hk 3 (by kernel_rfl)) (bloC b) _ (brow_all (row_kept R1.out hB)) Try.underlying33 rfl Zb.out h
        | 8, ho => simp at hS
        | 9, ho => simp at hS
        | 10, ho => cases ho; exact fun a w hB hk hc K h => op_nil 71 r 0 rfl (hc 0 71 (by kernel_rfl) (by decide) (by kernel_rfl)) h
        | 11, ho => cases ho; exact fun a w hB hk hc K h => op_fa 81 _ 0 r 0 0 rfl (fun W => fa_ref r W) (hc 10 81 (by kernel_rfl) (by decide) (by kernel_rfl)) h
        | (i + 12), ho => omega
      · intro i o hi hS ho
        match i, ho with
        | 1, ho =>
          cases ho
          intro L' a V hLi hw hnot hcl hB hk hc hv
          refine op_bs0 43 33 rfl uBlos 35 sizeBlo ⟨_, rfl, ?_, hB.trans ((below_a1 V _).mono hB.size), fun j d hj hjs hd => ?_⟩
          · rw [vQ1]
            exact Or.inr ⟨V.heap.size, rfl, hB.size, top_obj V _⟩
          · exact vQ_up (by decide) (by decide) j (vQ_kept (below_a1 V _) j (hv j d hj hjs hd))
        | 6, ho =>
          cases ho
          intro L' a V hLi hw hnot hcl hB hk hc hv
          have h1' := vQ1.1 (hv 1 72 (hw 1 (by kernel_rfl)) (by decide) (by kernel_rfl))
          rw [hLi] at h1'
          obtain ⟨g, e72, hge, hrow⟩ := h1'.resolve_left Bool.noConfusion
          have e76 : a.tmps.getD 76 undef = v := hc 5 76 (by kernel_rfl) (by decide) (by kernel_rfl)
          refine op_append 72 76 W1.heap.size 43 33 _ 35 64 rfl uBlos infoB (by simpa [Value.cells] using bloC_len zeroB_wf) (by decide) 0 L.length [] (flatB L) (by rw [e72]; exact own_none hge hrow) (by rw [e76]; exact own_pc (own_kept H1.out.row hB)) (one_flat L) (by omega) (by decide) hB.size ?_
          intro v' w' g1 g2
          rw [e72] at g2
          refine ⟨v', rfl, ?_, below_grown hB g2 (fun k hk => by cases hk; exact hge) hB.size, fun j d hj hjs hd => ?_⟩
          · rw [vQ6]
            exact Or.inr (by simpa using g1)
          · have h0 := hv j d hj hjs hd
            simp only [List.mem_cons, List.not_mem_nil, or_false] at hjs
            rcases hjs with rfl | rfl | rfl | rfl
            · rw [vQ1]
              exact Or.inl (up_self _ _)
            · rw [hLi] at hj
              cases hj
            · rw [vQ8] at h0 ⊢
              rcases h0 with h0 | ⟨g8, e8, hg8, hr8⟩
              · exact Or.inl (by rw [up_ne (by decide)]; exact h0)
              · refine Or.inr ⟨g8, e8, hg8, (g2.block g8 (row_lt hr8) ?_).trans hr8⟩
                intro e
                cases e
                rw [hrow] at hr8
                have h35 := bloC_len hbw
                have : (#[] : Array Value) = (bloC b).toArray := by simpa using hr8
                have := congrArg Array.size this
                simp [h35] at this
            · rw [hnot 9 _ rfl (by kernel_rfl)] at hj
              cases hj
        | 8, ho =>
          cases ho
          intro L' a V hLi hw hnot hcl hB hk hc hv
          refine op_bs1 43 33 78 rfl uBlos _ 35 64 infoB (by decide) (by decide) (.agg (bloC b).toArray) (hc 7 78 (by kernel_rfl) (by decide) (by kernel_rfl)) (bloC b).toArray rfl (by simpa using bloC_len hbw) ⟨_, rfl, ?_, hB.trans ((below_a1 V _).mono hB.size), fun j d hj hjs hd => ?_⟩
          · rw [vQ8]
            exact Or.inr ⟨V.heap.size, rfl, hB.size, top_obj V _⟩
          · exact vQ_up (by decide) (by decide) j (vQ_kept (below_a1 V _) j (hv j d hj hjs hd))
        | 9, ho =>
          cases ho
          intro L' a V hLi hw hnot hcl hB hk hc hv
          have h6 := vQ6.1 (hv 6 77 (hw 6 (by kernel_rfl)) (by decide) (by kernel_rfl))
          have h8 := vQ8.1 (hv 8 79 (hw 8 (by kernel_rfl)) (by decide) (by kernel_rfl))
          rw [hLi] at h6 h8
          have hO := h6.resolve_left Bool.noConfusion
          obtain ⟨g8, e8, hg8, hr8⟩ := h8.resolve_left Bool.noConfusion
          refine op_append 77 79 W1.heap.size 43 33 _ 35 64 rfl uBlos infoB (by simpa [Value.cells] using bloC_len zeroB_wf) (by decide) L.length 1 (flatB L) (bloC b) hO (by rw [e8]; exact own_one1 (bloC_len hbw) hr8) (one_blo b) (by omega) (by decide) hB.size ?_
          intro v' w' g1 g2
          refine ⟨v', rfl, ?_, below_grown hB g2 (own_ge hO) hB.size, fun j d hj hjs hd => ?_⟩
          · rw [vQ9]
            show World.ownsRow _ _ _ _ _ _ _
            rw [flat_app, flat_one, List.length_append]
            exact g1
          · simp only [List.mem_cons, List.not_mem_nil, or_false] at hjs
            rcases hjs with rfl | rfl | rfl | rfl
            · rw [vQ1]
              exact Or.inl (by rw [up_ne (by decide)]; exact hw 6 (by kernel_rfl))
            · rw [vQ6]
              exact Or.inl (up_self _ _)
            · rw [vQ8]
              exact Or.inl (up_self _ _)
            · rw [hLi] at hj
              cases hj
        | 0, ho | 2, ho | 3, ho | 4, ho | 5, ho | 7, ho | 10, ho | 11, ho => simp at hS
        | (i + 12), ho => omega
      · intro L' o a V hall hLn ho hB hs hd hk hcs hvs
        cases ho
        have hO := vQ9.1 (hvs 9 80 (by decide) (by decide) (by kernel_rfl))
        have hobj := row_kept H1.out.obj hB
        refine op_store1 43 82 80 rfl rfl r (hcs 11 82 (by decide) (by decide) (by kernel_rfl)) _ rfl (own_slice hO) 45 v hobj sizeBlos ?_
        generalize a.tmps.getD 80 undef = v9 at hO
        have HR9 : Hid (RfAt (V.setRow r #[v9]) r v9 (L ++ [b])) := by
          refine ⟨setRow_heap V r _ _ _ (0, 0) hobj, own_same (own_zero hO) (fun k hk => setRow_other V r k _ ?_), HI.out⟩
          have h1 := own_ge hO k hk
          have h2 := LR.out
          omega
        have HK9 : Hid (Kp [r] w (V.setRow r #[v9])) := (Kp.of (BB.out.trans (hB.mono BB.out.size))).setRow r _ (Or.inl (by simp))
        obtain ⟨tm, df⟩ := a
        obtain rfl : df = [] := hd
        have h4 : 4 < tm.size := by
          have : tm.size = 83 := hs
          omega
        have HF9 : Hid (Fr w v v9) := fun k hk => Or.inr (Nat.le_trans BB.out.size (own_ge hO k hk))
        generalize V.setRow r #[v9] = V9 at *
        clear hcs hvs hk hall hs hO hobj
        go_wp2
        go_ret
        refine ⟨?_, ⟨v9, ?_, HF9.out⟩, HK9.out⟩
        · rw [HE.out.1]
          simp [h4]
        · rw [HE.out.2]
          exact HR9.out
theorem rput_fr {w : World} {r : Nat} {v : Value} {L : List Blo} (h : RfAt w r v L) (b : Blo) (hbw : b.Wf) : Calls Try.prog 28 #[ptr r 0, .agg (bloC b).toArray] w fun e w' =>
    e = .returned (nu (putE L b)) ∧ (∃ v', RfAt w' r v' (putD L b) ∧ Fr w v v') ∧ Kp [r] w w' := by
  cases hm : mayB b with
  | true => exact rput_ok h b hbw hm
  | false =>
    refine (rput_bad b hm).mono ?_
    rintro e w' ⟨rfl, hb⟩
    unfold putE putD
    rw [hm]
    exact ⟨rfl, ⟨v, h.kept hb, Fr.same _ _⟩, Kp.of hb⟩
theorem rput_any {w : World} {r : Nat} {v : Value} {L : List Blo} (h : RfAt w r v L) (b : Blo) (hbw : b.Wf) : Calls Try.prog 28 #[ptr r 0, .agg (bloC b).toArray] w fun e w' =>
    e = .returned (nu (putE L b)) ∧ (∃ v', RfAt w' r v' (putD L b)) ∧ Kp [r] w w' :=
  (rput_fr h b hbw).mono (fun _ _ ⟨h1, ⟨v', h2, _⟩, h3⟩ => ⟨h1, ⟨v', h2⟩, h3⟩)
end Go.Proofs.Ytjpclmkkccffhaa.Bl
