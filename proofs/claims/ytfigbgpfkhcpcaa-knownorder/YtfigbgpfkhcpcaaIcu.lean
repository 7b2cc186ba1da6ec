/-
  The least of the counts: Cut, Seen; what calls of nil answer.
-/
import Derived.Test.YtfigbgpfkhcpcaaIct
import Derived.Test.YtfigbgpfkhcpcaaShelg
namespace Go.Proofs.Ytfigbgpfkhcpcaa.Kn
open Go Go.RowKit
set_option maxRecDepth 100000

theorem min_lib (l : List Int) : Lib.minOf l = minL l := by
  cases l with
  | nil => rfl
  | cons x l => simp [Lib.minOf, minL]
theorem min_any {w : World} {g off c : Nat} {l : List Int} (hl : 0 < l.length) (h8 : l.length ≤ 8) (hc : ∀ j, j < l.length → w.cell? ⟨g, off + j, none⟩ = some (nu (l.getD j 0))) :
    Calls Try.prog 35 #[.slice (some ⟨g, off, none⟩) l.length c] w fun e w' => e = .returned (nu (minL l)) ∧ w' = w := by
  refine (Try.slices_Min_int g off l.length c l w hl (Nat.le_refl _) (by omega) hc).mono ?_
  rintro e w' ⟨rfl, rfl⟩
  rw [List.take_length, min_lib]
  exact ⟨rfl, rfl⟩
theorem ic_at {w : World} {g : Nat} {l : List Int} (h : w.heap[g]? = some (.cells (ic l).toArray 3)) : ∀ j, j < l.length → w.cell? ⟨g, 0 + j, none⟩ = some (nu (l.getD j 0)) := fun j hj => row_zeroY h j _ (by simp [ic, List.getD, hj])
theorem kp_putRow (w : World) (q g : Nat) (d : Array Int) : Kp [g] w (Sort.putRow (Value.int .i64) (Sort.ahead w q) g 0 d) := by
  refine ⟨rfl, rfl, rfl, ?_, fun k hk hn => ?_⟩
  · simp [Sort.putRow, Sort.mapBlock, Sort.ahead]
  · simp only [List.mem_singleton] at hn
    simp only [Sort.putRow, Sort.mapBlock, Sort.ahead, Array.getElem?_modify]
    rw [if_neg (fun e => hn e.symm)]
theorem delete_any {w : World} {g n me : Nat} {l : List Int} (h : w.heap[g]? = some (.cells (ic l).toArray 3)) (hl : l.length = n) (hn : n ≤ 8) (hme : me < n) :
    Calls Try.prog 36 #[.slice (some ⟨g, 0, none⟩) n n, nu me, nu ((me + 1 : Nat) : Int)] w fun e w' =>
      e = .returned (.slice (some ⟨g, 0, none⟩) (n - 1) n) ∧ (∀ j, j < (l.eraseIdx me).length → w'.cell? ⟨g, 0 + j, none⟩ = some (nu ((l.eraseIdx me).getD j 0))) ∧ Kp [g] w w' := by
  subst hl
  have hH : Sort.Holds (Value.int .i64) w g 0 l.toArray := fun j hj => by
    have hj' : j < l.length := by simpa using hj
    refine ⟨?_, by simp [World.frozen?, h]⟩
    rw [ic_at h j hj']
    simp [List.getD, hj']
  refine (Try.slices_Delete_int g 0 l.length me (me + 1) l w hH (Nat.le_refl _) (by omega) (by omega) (by omega)).mono ?_
  rintro e w' ⟨rfl, q, rfl⟩
  have he : l.take me ++ l.drop (me + 1) = l.eraseIdx me := (List.eraseIdx_eq_take_drop_succ l me).symm
  have hel : (l.eraseIdx me).length = l.length - 1 := List.length_eraseIdx_of_lt hme
  rw [he, show me + 1 - me = 1 by omega]
  refine ⟨rfl, fun j hj => ?_, kp_putRow w q g _⟩
  rw [Sort.cell?_putRow (Value.int .i64) (Sort.ahead w q) g 0 l.toArray _ hH (by simp [hel]; omega) j (by simp; omega)]
  have : (l.eraseIdx me ++ List.replicate 1 0).toArray[j]! = (l.eraseIdx me).getD j 0 := by
    have hj2 : j < (l.eraseIdx me ++ List.replicate 1 0).length := by simp; omega
    simp only [List.getElem!_toArray, List.getElem!_eq_getElem?_getD, List.getD]
    rw [List.getElem?_append_left hj]
    rfl
  rw [this]
set_option maxHeartbeats 4000000 in
theorem cut_any {w : World} {p n me : Nat} {L : List Ln} (h : KAt w p n me L) : Calls Try.prog 20 #[pt p 0] w fun e w' => e = .returned (nu (cutN n me L)) ∧ Below w.heap.size w w' := by
  have HM := hid (made_any h)
  have HS := hid (stable_any h)
  have hl : (stL n me L).length = n := st_len n me L
  have hn2 := h.n2
  have hn8 := h.n8
  have HMin : Hid (∀ (W : World) g, W.heap[g]? = some (.cells (ic (stL n me L)).toArray 3) → Calls Try.prog 35 #[.slice (some ⟨g, 0, none⟩) n n] W fun e w' => e = .returned (nu (cutN n me L)) ∧ w' = W) := fun W g hr => by
    have := min_any (c := n) (by omega) (by omega) (ic_at hr)
    rw [hl] at this
    exact this
  generalize cutN n me L = cn at *
  generalize stL n me L = SL at *
  clear h hl hn2 hn8
  go_enter Try.func20, Try.ntmps20
  go_wp2_with fail
  refine HM.out.mono ?_
  rintro e w1 ⟨rfl, hw1⟩
  subst w1
  go_wp2_with fail
  refine HS.out.mono ?_
  rintro e W1 ⟨g, rfl, hg, hr, hb⟩
  have HB := hid hb
  have HR := hid (HMin.out _ _ hr)
  clear hg hr hb
  go_wp2_with fail
  refine HR.out.mono ?_
  rintro e w1 ⟨rfl, hw1⟩
  subst w1
  go_wp2
  go_ret
  exact ⟨rfl, HB.out⟩
section
variable {P : Program} {o : Oper} {a : Act} {w : World} {Q : Exit → Act → World → Prop} {K : Act → World → Prop}
theorem op_callW (t : Tmp) (f : FuncId) (cap : Array Value) (xs : List Operand) (ts : Array TypeId) (vs : Array Value) (ho : o.op = .call { callee := .value (.tmp t), args := xs.toArray, argTypes := ts }) (ht : a.tmps.getD t undef = .func (.func f) #[] cap) (hc : ∀ args w, (callFunc f args).run P w = .ok (.enter f args) w) (hx : (xs.map a.eval).toArray = vs)
    {R : Ending → World → Prop} (hm : Calls P f (vs ++ cap) w R) (h : ∀ e w', R e w' → ∃ v, e = .returned v ∧ K (a.put o.dst v) w') : o.wp P a w K Q := by
  unfold Oper.wp execOp
  have e : (do let d ← resolve a.eval { callee := .value (.tmp t), args := xs.toArray, argTypes := ts } o.type; invoke d.target d.args : Sem Next).run P w = .ok (.enter f (vs ++ cap)) w := by
    have e0 : a.eval (.tmp t) = .func (.func f) #[] cap := ht
    simp [resolve, Deferred.ofValue, invoke, hc, e0, hx]
  simp only [ho]
  rw [e]
  simp only [Oper.upon]
  refine hm.mono ?_
  intro e w' hR
  obtain ⟨v, rfl, hK⟩ := h e w' hR
  exact hK
theorem op_callX (f : FuncId) (xs : List Operand) (ts : Array TypeId) (vs : Array Value) (ho : o.op = .call { callee := .value (.func f), args := xs.toArray, argTypes := ts }) (hc : ∀ args w, (callFunc f args).run P w = .ok (.enter f args) w) (hx : (xs.map a.eval).toArray = vs)
    {R : Ending → World → Prop} (hm : Calls P f vs w R) (h : ∀ e w', R e w' → ∃ v, e = .returned v ∧ K (a.put o.dst v) w') : o.wp P a w K Q := by
  unfold Oper.wp execOp
  have e : (do let d ← resolve a.eval { callee := .value (.func f), args := xs.toArray, argTypes := ts } o.type; invoke d.target d.args : Sem Next).run P w = .ok (.enter f vs) w := by
    have e0 : a.eval (.func f) = .func (.func f) #[] #[] := rfl
    simp [resolve, Deferred.ofValue, invoke, hc, e0, hx]
  simp only [ho]
  rw [e]
  simp only [Oper.upon]
  refine hm.mono ?_
  intro e w' hR
  obtain ⟨v, rfl, hK⟩ := h e w' hR
  exact hK
end
/-- What the slots of Seen's region hold that are made on the way. -/
def vU (B n me : Nat) (OL : List Int) (L : Nat → Bool) (i : Nat) (v : Value) (w : World) : Prop :=
  if i = 5 then L 15 = true ∨ ∃ g, v = .slice (some ⟨g, 0, none⟩) n n ∧ B ≤ g ∧ w.heap[g]? = some (.cells (ic OL).toArray 3)
  else ∃ g, v = .slice (some ⟨g, 0, none⟩) (n - 1) n ∧ ∀ j, j < (OL.eraseIdx me).length → w.cell? ⟨g, 0 + j, none⟩ = some (nu ((OL.eraseIdx me).getD j 0))
set_option maxHeartbeats 16000000 in
theorem seen_any {w : World} {p n me : Nat} {L : List Ln} (h : KAt w p n me L) : Calls Try.prog 22 #[pt p 0] w fun e w' => e = .returned (nu (seenN n me L)) ∧ Below w.heap.size w w' := by
  have HM := hid (made_any h)
  have HC := hid (counter_any p me w)
  have c1 : w.cell? ⟨p, 1, none⟩ = some (nu me) := kr1 h.obj
  have C1 : Hid (∀ W, Below w.heap.size w W → W.cell? ⟨p, 1, none⟩ = some (nu me)) := fun W hb => kr1 (h.kept hb).obj
  have HT : Hid (∀ (W : World), Below w.heap.size w W → ∀ b1 b2, W.heap[b1]? = some (.cells #[pt p 0] 25) → W.heap[b2]? = some (.cells #[nu me] 3) → Calls Try.prog 42 #[.agg (wC (ol L)).toArray, pt b1 0, pt b2 0] W fun e w' =>
      ∃ g, e = .returned (.slice (some ⟨g, 0, none⟩) n n) ∧ W.heap.size ≤ g ∧ w'.heap[g]? = some (.cells (ic (owL n me L)).toArray 3) ∧ Below W.heap.size W w') := fun W hb b1 b2 h1 h2 => told_any (h.kept hb) (ol L) (fun i => ol_long L i) me h1 h2
  have C44 : Hid (∀ W, Below w.heap.size w W → ∀ j y, (wC (ol L))[j]? = some y → W.cell? ⟨p, 44 + j, none⟩ = some y) := fun W hb => kr44 (h.kept hb).obj h.inv.tag
  have ZW := hid (sizeWs (ol L))
  have hl : (owL n me L).length = n := ow_len n me L
  have hn2 := h.n2
  have hn8 := h.n8
  have hme := h.hme
  have HD : Hid (∀ (W : World) g, W.heap[g]? = some (.cells (ic (owL n me L)).toArray 3) → Calls Try.prog 36 #[.slice (some ⟨g, 0, none⟩) n n, nu me, nu ((me + 1 : Nat) : Int)] W fun e w' =>
      e = .returned (.slice (some ⟨g, 0, none⟩) (n - 1) n) ∧ (∀ j, j < ((owL n me L).eraseIdx me).length → w'.cell? ⟨g, 0 + j, none⟩ = some (nu (((owL n me L).eraseIdx me).getD j 0))) ∧ Kp [g] W w') := fun W g hr => delete_any hr hl hn8 hme
  have HMin : Hid (∀ (W : World) g, (∀ j, j < ((owL n me L).eraseIdx me).length → W.cell? ⟨g, 0 + j, none⟩ = some (nu (((owL n me L).eraseIdx me).getD j 0))) → Calls Try.prog 35 #[.slice (some ⟨g, 0, none⟩) (n - 1) n] W fun e w' => e = .returned (nu (seenN n me L)) ∧ w' = W) := fun W g hr => by
    have hel : ((owL n me L).eraseIdx me).length = n - 1 := by rw [List.length_eraseIdx_of_lt (by omega), hl]
    have := min_any (c := n) (by omega) (by omega) hr
    rw [hel] at this
    exact this
  have hme64 : I64 ((me : Int) + 1) := by unfold I64; omega
  generalize seenN n me L = sn at *
  generalize owL n me L = OL at *
  generalize wC (ol L) = WL at *
  clear h hl hn2 hn8 hme
  go_enter Try.func22, Try.ntmps22
  go_wp2_with fail
  refine HM.out.mono ?_
  rintro e w1 ⟨rfl, hw1⟩
  subst w1
  go_wp2_with fail
  refine HC.out.mono ?_
  rintro e W1 ⟨b1, b2, rfl, r1, r2, hb1⟩
  have HB1 := hid hb1
  have R1 := hid r1
  have R2 := hid r2
  clear r1 r2 hb1 HC HM c1
  go_upto_region 4 with fail
  have HW : Hid (∀ W, Below W1.heap.size W1 W → Below w.heap.size w W) := fun W hb => below_two HB1.out hb
  refine wp_region_chain (N := 32) 16 [5, 15] (vU W1.heap.size n me OL) [.func (.func 42) #[] #[pt b1 0, pt b2 0], pt p 0, pt p 0, pt p 44, .agg WL.toArray, undef, pt p 0, pt p 0, pt p 1, nu me, pt p 0, pt p 0, pt p 1, nu me, nu ((me + 1 : Nat) : Int), undef] (by kernel_rfl) (by kernel_rfl) (by kernel_rfl) rfl ?_ ?_ ?_ ?_
  · intro i hi _ LL j u W hv
    have h15 : i ≠ 15 := fun e => hi (by simp [e])
    unfold vU at hv ⊢
    rw [up_ne h15]
    exact hv
  · intro i o hi hS ho
    match i, ho, hS with
    | 0, ho, _ => cases ho; exact fun a W hB hk hc K h => op_move 3 _ rfl (hk 3 (by kernel_rfl)) h
    | 1, ho, _ => cases ho; exact fun a W hB hk hc K h => op_move 0 _ rfl (hk 0 (by kernel_rfl)) h
    | 2, ho, _ => cases ho; exact fun a W hB hk hc K h => op_nil 15 p 0 rfl (hc 1 15 (by kernel_rfl) (by decide) (by kernel_rfl)) h
    | 3, ho, _ => cases ho; exact fun a W hB hk hc K h => op_fa 16 _ 6 p 0 44 rfl (fun W => by kernel_rfl) (hc 2 16 (by kernel_rfl) (by decide) (by kernel_rfl)) h
    | 4, ho, _ => cases ho; exact fun a W hB hk hc K h => op_load _ (.tmp 17) rfl p 44 (hc 3 17 (by kernel_rfl) (by decide) (by kernel_rfl)) WL _ (C44.out W (HW.out W hB)) Try.underlying59 rfl ZW.out h
    | 5, _, hS => exact absurd (by decide : 5 ∈ [5, 15]) hS
    | 6, ho, _ => cases ho; exact fun a W hB hk hc K h => op_move 0 _ rfl (hk 0 (by kernel_rfl)) h
    | 7, ho, _ => cases ho; exact fun a W hB hk hc K h => op_nil 20 p 0 rfl (hc 6 20 (by kernel_rfl) (by decide) (by kernel_rfl)) h
    | 8, ho, _ => cases ho; exact fun a W hB hk hc K h => op_fa 21 _ 1 p 0 1 rfl (fun W => by kernel_rfl) (hc 7 21 (by kernel_rfl) (by decide) (by kernel_rfl)) h
    | 9, ho, _ => cases ho; exact fun a W hB hk hc K h => op_load1 _ (.tmp 22) rfl p 1 (hc 8 22 (by kernel_rfl) (by decide) (by kernel_rfl)) _ _ (C1.out W (HW.out W hB)) Try.underlying3 rfl h
    | 10, ho, _ => cases ho; exact fun a W hB hk hc K h => op_move 0 _ rfl (hk 0 (by kernel_rfl)) h
    | 11, ho, _ => cases ho; exact fun a W hB hk hc K h => op_nil 24 p 0 rfl (hc 10 24 (by kernel_rfl) (by decide) (by kernel_rfl)) h
    | 12, ho, _ => cases ho; exact fun a W hB hk hc K h => op_fa 25 _ 1 p 0 1 rfl (fun W => by kernel_rfl) (hc 11 25 (by kernel_rfl) (by decide) (by kernel_rfl)) h
    | 13, ho, _ => cases ho; exact fun a W hB hk hc K h => op_load1 _ (.tmp 26) rfl p 1 (hc 12 26 (by kernel_rfl) (by decide) (by kernel_rfl)) _ _ (C1.out W (HW.out W hB)) Try.underlying3 rfl h
    | 14, ho, _ => cases ho; exact fun a W hB hk hc K h => op_addC 27 _ _ (me : Int) 1 rfl (hc 13 27 (by kernel_rfl) (by decide) (by kernel_rfl)) hme64 h
    | 15, _, hS => exact absurd (by decide : 15 ∈ [5, 15]) hS
    | (i + 16), _, _ => exact absurd hi (by omega)
  · intro i o hi hS ho
    match i, ho, hS with
    | 5, ho, _ =>
      cases ho
      intro LL a W hLi hw hnot hclos hB hk hc hs
      refine op_callW 14 42 #[pt b1 0, pt b2 0] [.tmp 18] _ #[.agg WL.toArray] rfl (hc 0 14 (by kernel_rfl) (by decide) (by kernel_rfl)) (fun _ _ => by kernel_rfl) (args1 (hc 4 18 (by kernel_rfl) (by decide) (by kernel_rfl))) (HT.out W (HW.out W hB) b1 b2 (row_kept R1.out hB) (row_kept R2.out hB)) ?_
      rintro e W' ⟨g, rfl, hg, hr, hb⟩
      refine ⟨_, rfl, _, rfl, ?_, hB.trans (hb.mono hB.size), fun j d hj hjs hd => ?_⟩
      · unfold vU
        rw [if_pos rfl]
        exact .inr ⟨g, rfl, Nat.le_trans hB.size hg, hr⟩
      · have hj15 : j = 15 := by
          simp only [List.mem_cons, List.not_mem_nil, or_false] at hjs
          rcases hjs with e | e
          · subst e; rw [hLi] at hj; cases hj
          · exact e
        subst hj15
        have h5 := hclos 15 _ rfl hj 5 (by kernel_rfl)
        rw [hLi] at h5
        cases h5
    | 15, ho, _ =>
      cases ho
      intro LL a W hLi hw hnot hclos hB hk hc hs
      have h5 := hs 5 19 (hw 5 (by kernel_rfl)) (by decide) (by kernel_rfl)
      unfold vU at h5
      rw [if_pos rfl, hLi] at h5
      rcases h5 with h5 | ⟨g, e5, hg, hr⟩
      · cases h5
      · refine op_callX 36 [.tmp 19, .tmp 23, .tmp 28] _ _ rfl (fun _ _ => by kernel_rfl) (args3 e5 (hc 9 23 (by kernel_rfl) (by decide) (by kernel_rfl)) (hc 14 28 (by kernel_rfl) (by decide) (by kernel_rfl))) (HD.out W g hr) ?_
        rintro e W' ⟨rfl, hcells, hk'⟩
        refine ⟨_, rfl, _, rfl, ?_, hB.trans (hk'.below (by simpa using hg) hB.size), fun j d hj hjs hd => ?_⟩
        · unfold vU
          rw [if_neg (by decide)]
          exact ⟨g, rfl, hcells⟩
        · have hj5 : j = 5 := by
            simp only [List.mem_cons, List.not_mem_nil, or_false] at hjs
            rcases hjs with e | e
            · exact e
            · subst e; rw [hLi] at hj; cases hj
          subst hj5
          unfold vU
          rw [if_pos rfl, up_self]
          exact .inl rfl
    | 0, _, hS => exact absurd hS (by decide)
    | 1, _, hS => exact absurd hS (by decide)
    | 2, _, hS => exact absurd hS (by decide)
    | 3, _, hS => exact absurd hS (by decide)
    | 4, _, hS => exact absurd hS (by decide)
    | 6, _, hS => exact absurd hS (by decide)
    | 7, _, hS => exact absurd hS (by decide)
    | 8, _, hS => exact absurd hS (by decide)
    | 9, _, hS => exact absurd hS (by decide)
    | 10, _, hS => exact absurd hS (by decide)
    | 11, _, hS => exact absurd hS (by decide)
    | 12, _, hS => exact absurd hS (by decide)
    | 13, _, hS => exact absurd hS (by decide)
    | 14, _, hS => exact absurd hS (by decide)
    | (i + 16), _, _ => exact absurd hi (by omega)
  · intro LL o a W hall hL16 ho hB hsz hdef hk hc hs
    cases ho
    have h15 := hs 15 29 (by decide) (by decide) (by kernel_rfl)
    unfold vU at h15
    rw [if_neg (by decide)] at h15
    obtain ⟨g, e15, hcells⟩ := h15
    refine op_assign 29 _ rfl e15 ?_
    have HM2 := hid (HMin.out W g hcells)
    have HBe := hid (HW.out W hB)
    have e4 : (a.put (some 4) (.slice (some ⟨g, 0, none⟩) (n - 1) n)).tmps.getD 4 undef = .slice (some ⟨g, 0, none⟩) (n - 1) n := put_eq a 4 _ (by rw [hsz]; decide)
    have hdf : (a.put (some 4) (.slice (some ⟨g, 0, none⟩) (n - 1) n)).defers = [] := (put_defs _ _ _).trans hdef
    have hsz2 : (a.put (some 4) (.slice (some ⟨g, 0, none⟩) (n - 1) n)).tmps.size = 32 := (put_size _ _ _).trans hsz
    show _
    generalize a.put (some 4) (.slice (some ⟨g, 0, none⟩) (n - 1) n) = a' at *
    obtain ⟨tm, df⟩ := a'
    simp only at e4 hdf hsz2
    subst hdf
    clear hk hc hs hcells HT HD HMin C44 C1
    go_wp2_with fail
    refine HM2.out.mono ?_
    rintro e w1 ⟨rfl, hw1⟩
    subst w1
    go_wp2
    go_ret
    refine ⟨?_, HBe.out⟩
    simp [hsz]
theorem cut_nil (w : World) : Calls Try.prog 20 #[.pointer none] w fun e w' => e = .returned (nu 0) ∧ w' = w := by
  have HM := hid (made_nil w)
  go_enter Try.func20, Try.ntmps20
  go_wp2_with fail
  refine HM.out.mono ?_
  rintro e w1 ⟨rfl, hw1⟩
  subst w1
  go_wp2
  go_ret
  exact ⟨rfl, rfl⟩
theorem seen_nil (w : World) : Calls Try.prog 22 #[.pointer none] w fun e w' => e = .returned (nu 0) ∧ w' = w := by
  have HM := hid (made_nil w)
  go_enter Try.func22, Try.ntmps22
  go_wp2_with fail
  refine HM.out.mono ?_
  rintro e w1 ⟨rfl, hw1⟩
  subst w1
  go_wp2
  go_ret
  exact ⟨rfl, rfl⟩
theorem word_nil (c : Int) (w : World) : Calls Try.prog 11 #[.pointer none, nu c] w fun e w' => e = .returned (st []) ∧ w' = w := by
  have HM := hid (made_nil w)
  go_enter Try.func11, Try.ntmps11
  go_wp2_with fail
  refine HM.out.mono ?_
  rintro e w1 ⟨rfl, hw1⟩
  subst w1
  go_wp2
  go_ret
  exact ⟨rfl, rfl⟩
theorem own_nil (c : Int) (w : World) : Calls Try.prog 13 #[.pointer none, nu c] w fun e w' => e = .returned (st []) ∧ w' = w := by
  have HM := hid (made_nil w)
  go_enter Try.func13, Try.ntmps13
  go_wp2_with fail
  refine HM.out.mono ?_
  rintro e w1 ⟨rfl, hw1⟩
  subst w1
  go_wp2
  go_ret
  exact ⟨rfl, rfl⟩
set_option maxHeartbeats 4000000 in
theorem longest_nil (w : World) : Calls Try.prog 15 #[.pointer none] w fun e w' => e = .returned (.tuple #[st [], nu (-1), .agg (dg (List.replicate 32 0)).toArray]) ∧ Below w.heap.size w w' := by
  have B0 := hid (below_a1 w (.cells (dg (List.replicate 32 0)).toArray 32))
  have T0 := hid (top_obj w (.cells (dg (List.replicate 32 0)).toArray 32))
  have HM := hid (made_nil (w.alloc (.cells (dg (List.replicate 32 0)).toArray 32)))
  have ZD := hid (sizeDg (d := List.replicate 32 0) (by decide))
  have HBd := hid build_dg
  have OD := hid (one_dg (List.replicate 32 0))
  have HZ := hid zeroDg
  generalize dg (List.replicate 32 0) = Z at *
  go_enter Try.func15, Try.ntmps15
  go_upto_region 1 with ((with_reducible refine wl_alloc 32 ?_ ?_ Z.toArray HZ.out ?_); exact rfl; exact rfl)
  try simp only [Act.put, List.setIfInBounds_toArray, List.set_cons_zero, List.set_cons_succ]
  generalize w.alloc (.cells Z.toArray 32) = W0 at *
  generalize hX : w.heap.size = X at *
  go_wp2_with fail
  refine HM.out.mono ?_
  rintro e w1 ⟨rfl, hw1⟩
  subst w1
  go_wp2_with (first
    | ((with_reducible refine wl_buildY 32 [] ?_ ?_ Z.toArray ?_ ?_); exact rfl; exact rfl; exact HBd.out _)
    | ((with_reducible refine wl_put 32 (.tmp 4) (.tmp 8) ?_ ?_ X 0 ?_ ?_ [] Z Z [] ?_ 32 (row_nilY T0.out) rfl rfl OD.out ZD.out ?_); exact rfl; exact rfl; exact rfl; exact rfl; exact rfl; intro W6 hr6 hbut))
  have hr7 : W6.heap[X]? = some (.cells Z.toArray 32) := by simpa using hr6
  refine bodyPost_ret_by (results_ttc (fn := Try.f15) (u := 2) (v := 3) (p := 4) (ty := 32) (by kernel_rfl) _ _ X 32 Z.toArray (0, 0) _ rfl hr7 Try.underlying32 rfl (by rw [List.size_toArray]; exact ZD.out)) rfl ?_
  exact ⟨rfl, (hX ▸ hbut.below B0.out (by omega) : Below w.heap.size w W6)⟩
set_option maxHeartbeats 2000000 in
theorem learn_nil (f b : Int) (v tg : List UInt8) (w : World) : Calls Try.prog 29 #[.pointer none, nu f, nu b, st v, .agg (dg tg).toArray] w fun e w' => e = .returned (nu 1) ∧ Below w.heap.size w w' := by
  have B0 := hid (below_a1 w (.cells (dg tg).toArray 32))
  have HM := hid (made_nil (w.alloc (.cells (dg tg).toArray 32)))
  generalize dg tg = Z at *
  go_enter Try.func29, Try.ntmps29
  go_upto_region 1 with fail
  generalize w.alloc (.cells Z.toArray 32) = W0 at *
  go_wp2_with fail
  refine HM.out.mono ?_
  rintro e w1 ⟨rfl, hw1⟩
  subst w1
  go_wp2
  go_ret
  exact ⟨rfl, B0.out⟩
end Go.Proofs.Ytfigbgpfkhcpcaa.Kn
