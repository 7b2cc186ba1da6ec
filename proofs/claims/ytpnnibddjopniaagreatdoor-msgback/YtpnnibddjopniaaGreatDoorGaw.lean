/-
  Whether a message may be: what msg.hasNothingElse and msg.mayBe answer.
-/
import Derived.Test.YtpnnibddjopniaaGreatDoorJpm
import Derived.Test.YtpnnibddjopniaaGreatDoorJhm
import Derived.Test.YtpnnibddjopniaaGreatDoorJfo
import Derived.Test.YtpnnibddjopniaaGreatDoorJps
namespace Go.Proofs.YtpnnibddjopniaaGreatDoor.Ms
open Go Go.RowKit
set_option maxRecDepth 100000

theorem ok_zero (k : Slot) : okVal k.zero := by
  cases k using Slot.cut
  · exact i64_zero
  · exact Nat.zero_le _
  · exact zeroD_len
  · exact ⟨Nat.zero_le _, fun n h => by cases h⟩
  · exact ⟨Nat.zero_le _, fun n h => by cases h⟩
theorem empty_go {α : Type} (f : Fl α) (fs : List (Fl α)) (x : α) : emptyAll (f :: fs) x = emptyAll fs (f.set x f.slot.zero) := rfl
section
variable {P : Program} {ops : Array Oper} {rest : List Oper} {o : Oper} {a : Act} {w : World} {Q : Exit → Act → World → Prop}
theorem wl_buildp (ty : TypeId) (parts : Array (Nat × Operand)) (ho : o.op = .build ty parts) (hw : Region.wanted o (yielded ops a.tmps) = true) (z : Array Value) (hr : (Instr.build ty (parts.map fun (i, x) => (i, a.eval x))).run P w = .ok (.agg z) w)
    (h : wpList P ops Q rest (a.put o.dst (.agg z)) w) : wpList P ops Q (o :: rest) a w := by
  refine BigFrame.wpList_want hw fun K hK => ?_
  have h' := hK _ _ h
  unfold Oper.wp execOp
  simp only [ho, Sem.run_bind, hr, Result.andThen_ok, Sem.run_pure]
  exact h'
end
theorem build_kind (W : World) (k : Int) : (Instr.build 33 #[(0, nu k)]).run Tryz.prog W = .ok (.agg (msgC (zeroM k 0) (.slice none 0 0) (.slice none 0 0)).toArray) W := by kernel_rfl
theorem zero_kind (k : Int) : (msgC (zeroM k 0) (.slice none 0 0) (.slice none 0 0)).toArray = Tryz.zeroCells33.setIfInBounds 0 (nu k) := by kernel_rfl
theorem fields_len (k : Int) : (fieldsM k).length ≤ 100 := by
  rcases fields_cases k with ⟨_, e⟩ | ⟨_, e⟩ | ⟨_, e⟩ | ⟨_, e⟩ | ⟨_, e⟩ | ⟨_, e⟩ | ⟨_, e⟩ | ⟨_, e⟩ | ⟨_, e⟩ <;> rw [e] <;> decide
theorem set_kind (k : Int) (f : Fl Msg) (hf : f ∈ fieldsM k) (m : Msg) (v : Val) : (f.set m v).kind = m.kind := by
  rcases fields_cases k with ⟨_, e⟩ | ⟨_, e⟩ | ⟨_, e⟩ | ⟨_, e⟩ | ⟨_, e⟩ | ⟨_, e⟩ | ⟨_, e⟩ | ⟨_, e⟩ | ⟨_, e⟩ <;> rw [e] at hf
  · simp only [subFs, List.mem_cons, List.not_mem_nil, or_false] at hf
    rcases hf with rfl | rfl | rfl | rfl | rfl | rfl | rfl <;> rfl
  · simp only [repFs, List.mem_cons, List.not_mem_nil, or_false] at hf
    rcases hf with rfl | rfl | rfl | rfl | rfl | rfl | rfl | rfl | rfl | rfl <;> rfl
  · simp only [comFs, List.mem_cons, List.not_mem_nil, or_false] at hf
    rcases hf with rfl | rfl | rfl <;> rfl
  · simp only [bloFs, List.mem_cons, List.not_mem_nil, or_false] at hf
    rcases hf with rfl | rfl | rfl | rfl <;> rfl
  · simp only [lstFs, List.mem_cons, List.not_mem_nil, or_false] at hf
    rcases hf with rfl | rfl <;> rfl
  · simp only [proFs, List.mem_cons, List.not_mem_nil, or_false] at hf
    subst hf; rfl
  · simp only [verFs, List.mem_cons, List.not_mem_nil, or_false] at hf
    rcases hf with rfl | rfl | rfl | rfl | rfl <;> rfl
  · simp only [alaFs, List.mem_cons, List.not_mem_nil, or_false] at hf
    rcases hf with rfl | rfl <;> rfl
  · cases hf
/-- A message that is boxed anew. -/
theorem box_msg {w : World} {m : Msg} {vP vN : Value} (hw : m.Wf) (hr : m.Rng) (hp : PensAt w vP m.rep.pend) (hn : IntsAt w vN m.nums) (hl : m.rep.pend.length ≤ 9223372036854775807 ∧ m.nums.length ≤ 9223372036854775807) : MsgAt [] w.heap.size m (w.alloc (.cells (msgC m vP vN).toArray 33)) := by
  refine ⟨⟨vP, vN, top_obj _ _, hp.kept (below_a1 _ _), hn.kept (below_a1 _ _), fun x hx hne a l c e => ?_, fun x hx hne a l c e => ?_⟩, (fun x hx => by cases hx), hw, hr, hl⟩
  · obtain ⟨a', cap, rfl, hc⟩ := hp
    obtain ⟨b, off, rfl, hj⟩ := hc (fun e => hne (by rw [e]; rfl))
    cases e
    have h0 : 0 < m.rep.pend.length := Nat.pos_of_ne_zero hne
    have wp := getD_wf hw.rep.pend 0 h0
    have := World.block_lt_of_cell? w _ (hj 0 h0 0 _ (by unfold penC; rfl))
    simp only [List.mem_cons, List.not_mem_nil, or_false] at hx
    show b ≠ _
    have : b < w.heap.size := this
    omega
  · obtain ⟨a', cap, rfl, hc⟩ := hn
    obtain ⟨b, off, rfl, hj⟩ := hc (fun e => hne (by rw [e]; rfl))
    cases e
    have h0 : 0 < m.nums.length := Nat.pos_of_ne_zero hne
    have := World.block_lt_of_cell? w _ (hj 0 h0)
    simp only [List.mem_cons, List.not_mem_nil, or_false] at hx
    show b ≠ _
    have : b < w.heap.size := this
    omega
theorem box_zero (X : List Nat) {w : World} (k : Int) (hk : I64 k) (hX : ∀ x ∈ X, x < w.heap.size) : MsgAt X w.heap.size (zeroM k 0) (w.alloc (.cells (msgC (zeroM k 0) (.slice none 0 0) (.slice none 0 0)).toArray 33)) :=
  ⟨⟨_, _, top_obj _ _, PensAt.nil _, IntsAt.nil _, fun _ _ hne => absurd rfl hne, fun _ _ hne => absurd rfl hne⟩, (fun x hx => by have := hX x hx; simp; omega), zeroM_wf k 0, zeroM_rng k 0 hk i64_zero, Nat.zero_le _, Nat.zero_le _⟩
/-- fieldsOf's answer, with its length in sight. -/
theorem fieldsof_form (g : Nat) (kind : Int) (fs : List (Fl Msg)) (hfs : fs = fieldsM kind) (w : World) (hk : w.cell? ⟨g, 0, none⟩ = some (nu kind)) : Calls Tryz.prog 27 #[ptr g 0] w fun e w' => ∃ av, e = .returned (.slice av fs.length fs.length) ∧ FieldsAt w' (.slice av fs.length fs.length) g (spots 0 fs) ∧ Below w.heap.size w w' := by
  subst hfs
  refine (fieldsof_any g kind w hk).mono ?_
  rintro e w' ⟨v, rfl, hv, hb⟩
  have hv2 := hv
  obtain ⟨av, bs, rfl, -⟩ := hv
  rw [spots_len] at hv2 ⊢
  exact ⟨av, rfl, hv2, hb⟩
theorem MsgAt.cell_kind {X : List Nat} {g : Nat} {m : Msg} {w : World} (h : MsgAt X g m w) : w.cell? ⟨g, 0, none⟩ = some (nu m.kind) := by
  obtain ⟨vP, vN, hr, -⟩ := h.row
  exact mrow_kind hr h.wf

end Go.Proofs.YtpnnibddjopniaaGreatDoor.Ms

/-
  Whether a message's other fields are nothing: what msg.hasNothingElse answers.
-/
namespace Go.Proofs.YtpnnibddjopniaaGreatDoor.Ms
open Go Go.RowKit
set_option maxRecDepth 100000

set_option maxHeartbeats 1000000 in
theorem rest_any {w : World} {m : Msg} {vP vN : Value} (hw : m.Wf) (hr : m.Rng) (hp : PensAt w vP m.rep.pend) (hn : IntsAt w vN m.nums) (hl : m.rep.pend.length ≤ 9223372036854775807 ∧ m.nums.length ≤ 9223372036854775807) :
    Calls Tryz.prog 54 #[.agg (msgC m vP vN).toArray] w fun e w' => e = .returned (.bool (restB m)) ∧ Below w.heap.size w w' := by
  have HB0 := hid (below_a1 w (.cells (msgC m vP vN).toArray 33))
  have HM0 := hid (box_msg hw hr hp hn hl)
  obtain ⟨RA, hRA⟩ : ∃ RA, RA = (msgC m vP vN).toArray := ⟨_, rfl⟩
  rw [← hRA] at HB0 HM0 ⊢
  clear hRA hw hr hp hn hl
  obtain ⟨fs, hfs⟩ : ∃ fs, fs = fieldsM m.kind := ⟨_, rfl⟩
  have hn100 : fs.length ≤ 100 := by rw [hfs]; exact fields_len _
  have HFo := hid (fun (g : Nat) (W : World) (h : W.cell? ⟨g, 0, none⟩ = some (nu m.kind)) => fieldsof_form g m.kind fs hfs W h)
  have HHa : Hid (∀ g, Hold fs g 0 (MsgAt [] g)) := by rw [hfs]; exact fun g => msg_hold [] g m.kind
  have HSK : Hid (∀ f ∈ fs, ∀ (y : Msg) (v : Val), (f.set y v).kind = y.kind) := by rw [hfs]; exact fun f hf y v => set_kind m.kind f hf y v
  have HRes : Hid (restB m = sameM (emptyAll fs m) (zeroM m.kind 0)) := by rw [hfs]; rfl
  clear hfs
  go_enter Tryz.func54, Tryz.ntmps54
  go_upto_region 1 with fail
  generalize w.alloc (.cells RA 33) = W0 at *
  obtain ⟨g, hg⟩ : ∃ g, g = w.heap.size := ⟨_, rfl⟩
  rw [← hg] at HM0 ⊢
  have HG := hid hg
  clear hg
  have HH := hid (HHa.out g)
  have HFs := hid (HFo.out g W0 HM0.out.cell_kind)
  clear HFo HHa
  go_wp2_with fail
  refine HFs.out.mono ?_
  rintro e W1 ⟨av, rfl, hv, hb⟩
  have HV := hid hv
  have HB1 := hid (below_two HB0.out hb)
  have HM1 := hid (HH.out.stay m _ _ HM0.out hb)
  have HOw := hid (HH.out.own m _ HM1.out)
  have HE0 : Hid (emptyAll fs m = emptyAll (fs.drop 0) m) := by show _ = _; rfl
  have HKr := hid (Kept.refl g W1)
  clear hb hv HFs HB0 HM0
  go_wp2
  go_loopw [7] (fun i w' => ∃ (k : Nat) (y : Msg), k ≤ fs.length ∧ i = .int .i64 k ∧ Hid (emptyAll fs m = emptyAll (fs.drop k) y) ∧ Hid (MsgAt [] g y w') ∧ Hid (y.kind = m.kind) ∧ Hid (Kept g W1 w')) (fun i _ => fs.length - (intOf i).toNat)
  case atStart => exact ⟨0, m, Nat.zero_le _, rfl, HE0, HM1, rfl, HKr⟩
  case round =>
    obtain ⟨k, y, hk, rfl, HE, HY, HYk, HK⟩ := hrel
    clear HE0 HM1 HKr
    by_cases hlt : k < fs.length
    · have d1 : decide ((k : Int) < (fs.length : Int)) = true := decide_eq_true (by omega)
      have d1' : decide (k < fs.length) = true := decide_eq_true hlt
      obtain ⟨row, b, ha, hF, hc⟩ := (HV.out.kept HOw.out HK.out).cells k (by rw [spots_len]; exact hlt)
      subst ha
      rw [spots_at 0 fs k hlt] at hF hc
      have hmem : fs[k] ∈ fs := List.getElem_mem hlt
      have Z0 : (Tryz.prog.info? 91).map (·.size) = some (fieldV fs[k].slot b).length := sizeFld
      have HOn := hid (one_fld fs[k].slot b)
      have hL : ([.nilFunc, .nilFunc, .nilFunc] : List Value).length = (fieldV fs[k].slot b).length := rfl
      have S0 := hid hc
      have HBt := hid (below_a1 wr (.cells (fieldV fs[k].slot b).toArray 91))
      have T0 := hid (top_obj wr (.cells (fieldV fs[k].slot b).toArray 91))
      obtain ⟨A, old, C, t, hrow, hA, hol, hst⟩ := HH.out.store y _ (HH.out.stay y _ _ HY.out HBt.out) _ hmem
      have HC := hid (c3_any fs[k].slot (hF.stays HBt.out) A old C t hrow hA hol)
      have HKt := hid (HK.out.trans (Kept.of HBt.out))
      rw [drop_at fs k hlt, empty_go] at HE
      have HSt := hid (fun w' => hst fs[k].slot.zero w' (zero_slot _) (ok_zero _))
      have HYn : Hid ((fs[k].set y fs[k].slot.zero).kind = m.kind) := (HSK.out _ hmem _ _).trans HYk.out
      clear hc hmem hF hrow hA hol hst HY HK HBt HH HOw HV HYk HSK HRes
      generalize fs[k].set y fs[k].slot.zero = y2 at *
      generalize fs[k].slot = sl at *
      cases sl using Slot.cut with
      | num => as_aux_lemma =>
        have ce : (wr.alloc (.cells (fieldV .num b).toArray 91)).cell? ⟨wr.heap.size, 2, none⟩ = some (.func (.func (c3Fn .num)) #[] #[ptr b.x 0]) := by rw [cell_of_row _ _ _ _ _ _ T0.out]; rfl
        simp only [c3Fn] at ce HC
        generalize fieldV .num b = V at *
        clear T0
        go_upto_region 4 with (first | ((with_reducible refine wl_load 91 (.tmp 9) ?_ row (k * 3) ?_ ?_ V _ S0.out Tryz.underlying91 ?_ Z0 ?_); exact rfl; exact rfl; exact rfl; exact rfl) | ((with_reducible refine wl_store_top 91 (.tmp 4) (.tmp 10) ?_ ?_ ?_ ?_ V [.nilFunc, .nilFunc, .nilFunc] ?_ 91 hL HOn.out Z0 ?_); exact rfl; exact rfl; exact rfl; exact rfl; exact rfl))
        generalize wr.alloc (.cells V.toArray 91) = W2 at *
        go_wp2_with fail
        refine HC.out.mono ?_
        rintro e w3 ⟨rfl, hst3⟩
        have HK3 := hid (HKt.out.trans hst3.kept)
        have HY3 := hid (HSt.out _ hst3)
        clear hst3 HC HKt S0 ce HSt
        go_wp2
        exact ⟨⟨k + 1, y2, by omega, by go_num, HE, HY3, HYn, HK3⟩, by simp [intOf]; omega⟩
      | txt => as_aux_lemma =>
        have ce : (wr.alloc (.cells (fieldV .txt b).toArray 91)).cell? ⟨wr.heap.size, 2, none⟩ = some (.func (.func (c3Fn .txt)) #[] #[ptr b.x 0]) := by rw [cell_of_row _ _ _ _ _ _ T0.out]; rfl
        simp only [c3Fn] at ce HC
        generalize fieldV .txt b = V at *
        clear T0
        go_upto_region 4 with (first | ((with_reducible refine wl_load 91 (.tmp 9) ?_ row (k * 3) ?_ ?_ V _ S0.out Tryz.underlying91 ?_ Z0 ?_); exact rfl; exact rfl; exact rfl; exact rfl) | ((with_reducible refine wl_store_top 91 (.tmp 4) (.tmp 10) ?_ ?_ ?_ ?_ V [.nilFunc, .nilFunc, .nilFunc] ?_ 91 hL HOn.out Z0 ?_); exact rfl; exact rfl; exact rfl; exact rfl; exact rfl))
        generalize wr.alloc (.cells V.toArray 91) = W2 at *
        go_wp2_with fail
        refine HC.out.mono ?_
        rintro e w3 ⟨rfl, hst3⟩
        have HK3 := hid (HKt.out.trans hst3.kept)
        have HY3 := hid (HSt.out _ hst3)
        clear hst3 HC HKt S0 ce HSt
        go_wp2
        exact ⟨⟨k + 1, y2, by omega, by go_num, HE, HY3, HYn, HK3⟩, by simp [intOf]; omega⟩
      | dig => as_aux_lemma =>
        have ce : (wr.alloc (.cells (fieldV .dig b).toArray 91)).cell? ⟨wr.heap.size, 2, none⟩ = some (.func (.func (c3Fn .dig)) #[] #[ptr b.x 0]) := by rw [cell_of_row _ _ _ _ _ _ T0.out]; rfl
        simp only [c3Fn] at ce HC
        generalize fieldV .dig b = V at *
        clear T0
        go_upto_region 4 with (first | ((with_reducible refine wl_load 91 (.tmp 9) ?_ row (k * 3) ?_ ?_ V _ S0.out Tryz.underlying91 ?_ Z0 ?_); exact rfl; exact rfl; exact rfl; exact rfl) | ((with_reducible refine wl_store_top 91 (.tmp 4) (.tmp 10) ?_ ?_ ?_ ?_ V [.nilFunc, .nilFunc, .nilFunc] ?_ 91 hL HOn.out Z0 ?_); exact rfl; exact rfl; exact rfl; exact rfl; exact rfl))
        generalize wr.alloc (.cells V.toArray 91) = W2 at *
        go_wp2_with fail
        refine HC.out.mono ?_
        rintro e w3 ⟨rfl, hst3⟩
        have HK3 := hid (HKt.out.trans hst3.kept)
        have HY3 := hid (HSt.out _ hst3)
        clear hst3 HC HKt S0 ce HSt
        go_wp2
        exact ⟨⟨k + 1, y2, by omega, by go_num, HE, HY3, HYn, HK3⟩, by simp [intOf]; omega⟩
      | nums => as_aux_lemma =>
        have ce : (wr.alloc (.cells (fieldV .nums b).toArray 91)).cell? ⟨wr.heap.size, 2, none⟩ = some (.func (.func (c3Fn .nums)) #[] #[ptr b.x 0]) := by rw [cell_of_row _ _ _ _ _ _ T0.out]; rfl
        simp only [c3Fn] at ce HC
        generalize fieldV .nums b = V at *
        clear T0
        go_upto_region 4 with (first | ((with_reducible refine wl_load 91 (.tmp 9) ?_ row (k * 3) ?_ ?_ V _ S0.out Tryz.underlying91 ?_ Z0 ?_); exact rfl; exact rfl; exact rfl; exact rfl) | ((with_reducible refine wl_store_top 91 (.tmp 4) (.tmp 10) ?_ ?_ ?_ ?_ V [.nilFunc, .nilFunc, .nilFunc] ?_ 91 hL HOn.out Z0 ?_); exact rfl; exact rfl; exact rfl; exact rfl; exact rfl))
        generalize wr.alloc (.cells V.toArray 91) = W2 at *
        go_wp2_with fail
        refine HC.out.mono ?_
        rintro e w3 ⟨rfl, hst3⟩
        have HK3 := hid (HKt.out.trans hst3.kept)
        have HY3 := hid (HSt.out _ hst3)
        clear hst3 HC HKt S0 ce HSt
        go_wp2
        exact ⟨⟨k + 1, y2, by omega, by go_num, HE, HY3, HYn, HK3⟩, by simp [intOf]; omega⟩
      | pens => as_aux_lemma =>
        have ce : (wr.alloc (.cells (fieldV .pens b).toArray 91)).cell? ⟨wr.heap.size, 2, none⟩ = some (.func (.func (c3Fn .pens)) #[] #[ptr b.x 0]) := by rw [cell_of_row _ _ _ _ _ _ T0.out]; rfl
        simp only [c3Fn] at ce HC
        generalize fieldV .pens b = V at *
        clear T0
        go_upto_region 4 with (first | ((with_reducible refine wl_load 91 (.tmp 9) ?_ row (k * 3) ?_ ?_ V _ S0.out Tryz.underlying91 ?_ Z0 ?_); exact rfl; exact rfl; exact rfl; exact rfl) | ((with_reducible refine wl_store_top 91 (.tmp 4) (.tmp 10) ?_ ?_ ?_ ?_ V [.nilFunc, .nilFunc, .nilFunc] ?_ 91 hL HOn.out Z0 ?_); exact rfl; exact rfl; exact rfl; exact rfl; exact rfl))
        generalize wr.alloc (.cells V.toArray 91) = W2 at *
        go_wp2_with fail
        refine HC.out.mono ?_
        rintro e w3 ⟨rfl, hst3⟩
        have HK3 := hid (HKt.out.trans hst3.kept)
        have HY3 := hid (HSt.out _ hst3)
        clear hst3 HC HKt S0 ce HSt
        go_wp2
        exact ⟨⟨k + 1, y2, by omega, by go_num, HE, HY3, HYn, HK3⟩, by simp [intOf]; omega⟩
    · as_aux_lemma =>
      have hkl : k = fs.length := by omega
      subst hkl
      have dk : decide ((fs.length : Int) < (fs.length : Int)) = false := decide_eq_false (by omega)
      have HF : Hid (restB m = sameM y (zeroM m.kind 0)) := by show _ = _; rw [HRes.out, HE.out, List.drop_length]; rfl
      obtain ⟨vP', vN', hrow, hpp, hnn, -, -⟩ := HY.out.row
      have hwf := HY.out.wf
      have ck := mrow_kind hrow hwf
      rw [HYk.out] at ck
      have S0 := hid (row_seg (off := 0) (A := []) (cs := msgC y vP' vN') (C := []) hrow (by simp) rfl)
      have Z0 : (Tryz.prog.info? 33).map (·.size) = some (msgC y vP' vN').length := by rw [msgC_len hwf]; exact sizeMsg
      have HS := hid (fun h1 h2 => msame_any (w := wr) (b := zeroM m.kind 0) hwf (zeroM_wf m.kind 0) hpp (PensAt.nil wr) hnn (IntsAt.nil wr) h1 h2)
      rw [zero_kind] at HS
      have HBf : Hid (Below w.heap.size w wr) := HK.out.below HB1.out (by rw [HG.out]; exact Nat.le_refl _)
      generalize sameM y (zeroM m.kind 0) = bb at *
      generalize msgC y vP' vN' = V at *
      have HLn := hid HY.out.len
      generalize m.kind = kk at *
      clear HH HOw HV HE HY HYk HSK HRes hrow hpp hnn hwf HK
      go_wp2_with (first | ((with_reducible refine wl_load 33 (.tmp 1) ?_ g 0 ?_ ?_ V _ S0.out Tryz.underlying33 ?_ Z0 ?_); exact rfl; exact rfl; exact rfl; exact rfl))
      refine (HS.out HLn.out.1 HLn.out.2).mono ?_
      rintro e w2 ⟨rfl, hb2⟩
      have HB2 := hid (below_two HBf.out hb2)
      clear hb2
      go_wp2
      go_ret
      exact ⟨by rw [HF.out]; rfl, HB2.out⟩
end Go.Proofs.YtpnnibddjopniaaGreatDoor.Ms

/-
  What msg.mayBe and msg.Put answer of any message.
-/
namespace Go.Proofs.YtpnnibddjopniaaGreatDoor.Ms
open Go Go.RowKit
set_option maxRecDepth 100000

def Lens (m : Msg) : Prop := m.rep.pend.length ≤ 9223372036854775807 ∧ m.nums.length ≤ 9223372036854775807
theorem mayB_a {m : Msg} (h : inB m.client 0 7 = false) : mayB m = false := by unfold mayB; rw [h]; rfl
theorem mayB_b {m : Msg} (h : inB m.client 0 7 = true) (h2 : partsB m = false) : mayB m = false := by unfold mayB; rw [h, h2]; rfl
theorem mayB_c {m : Msg} (h : inB m.client 0 7 = true) (h2 : partsB m = true) : mayB m = restB m := by unfold mayB; rw [h, h2]; rfl
set_option maxHeartbeats 4000000 in
theorem maybe_any {w : World} {m : Msg} {vP vN : Value} (hw : m.Wf) (hr : m.Rng) (hp : PensAt w vP m.rep.pend) (hn : IntsAt w vN m.nums) (hl : Lens m) (hR : m.kind = 2 → RepOk m.rep) :
    Calls Tryz.prog 24 #[.agg (msgC m vP vN).toArray] w fun e w' => e = .returned (.bool (mayB m)) ∧ Below w.heap.size w w' := by
  have HB0 := hid (below_a1 w (.cells (msgC m vP vN).toArray 33))
  have R0 := hid (top_obj w (.cells (msgC m vP vN).toArray 33))
  have K1 := hid (fun W => isclient_any m.client W)
  have K2 := hid (fun (W : World) (h : Below w.heap.size w W) => partsmay_any hw (hp.kept h) (hn.kept h) hR hl.2)
  have K3 := hid (fun (W : World) (h : Below w.heap.size w W) => rest_any hw hr (hp.kept h) (hn.kept h) hl)
  have Z0 : (Tryz.prog.info? 33).map (·.size) = some (msgC m vP vN).length := by rw [msgC_len hw]; exact sizeMsg
  have cc0 := mrow_client R0.out hw
  clear hp hn hR hl hr
  obtain ⟨V, hV⟩ : ∃ V, V = msgC m vP vN := ⟨_, rfl⟩
  rw [← hV] at HB0 R0 K2 K3 Z0 cc0 ⊢
  clear hV hw
  have S0 := hid (row_seg (off := 0) (A := []) (cs := V) (C := []) R0.out (by simp) rfl)
  have HRw := hid (fun (W : World) (h : Below (w.alloc (.cells V.toArray 33)).heap.size (w.alloc (.cells V.toArray 33)) W) => row_seg (off := 0) (A := []) (cs := V) (C := []) (row_kept R0.out h) (by simp) rfl)
  clear R0
  cases h1 : inB m.client 0 7 with
  | false => as_aux_lemma =>
    have HF := hid (mayB_a h1)
    rw [h1] at K1
    go_enter Tryz.func24, Tryz.ntmps24
    go_upto_region 1 with fail
    generalize w.alloc (.cells V.toArray 33) = W0 at *
    go_wp2_with fail
    refine (K1.out _).mono ?_
    rintro e v ⟨rfl, hv⟩
    subst v
    go_wp2
    go_ret
    exact ⟨by rw [HF.out]; rfl, HB0.out⟩
  | true =>
    rw [h1] at K1
    cases h2 : partsB m with
    | false => as_aux_lemma =>
      have HF := hid (mayB_b h1 h2)
      rw [h2] at K2
      clear h1 h2
      go_enter Tryz.func24, Tryz.ntmps24
      go_upto_region 1 with fail
      generalize w.alloc (.cells V.toArray 33) = W0 at *
      go_wp2_with fail
      refine (K1.out _).mono ?_
      rintro e v ⟨rfl, hv⟩
      subst v
      go_wp2_with (first | ((with_reducible refine wl_load 33 (.tmp 1) ?_ w.heap.size 0 ?_ ?_ V _ S0.out Tryz.underlying33 ?_ Z0 ?_); exact rfl; exact rfl; exact rfl; exact rfl))
      refine (K2.out _ HB0.out).mono ?_
      rintro e w1 ⟨rfl, hb⟩
      have HB1 := hid (below_two HB0.out hb)
      clear hb
      go_wp2
      go_ret
      exact ⟨by rw [HF.out]; rfl, HB1.out⟩
    | true => as_aux_lemma =>
      have HF := hid (mayB_c h1 h2)
      rw [h2] at K2
      clear h1 h2
      go_enter Tryz.func24, Tryz.ntmps24
      go_upto_region 1 with fail
      generalize w.alloc (.cells V.toArray 33) = W0 at *
      go_wp2_with fail
      refine (K1.out _).mono ?_
      rintro e v ⟨rfl, hv⟩
      subst v
      go_wp2_with (first | ((with_reducible refine wl_load 33 (.tmp 1) ?_ w.heap.size 0 ?_ ?_ V _ S0.out Tryz.underlying33 ?_ Z0 ?_); exact rfl; exact rfl; exact rfl; exact rfl))
      refine (K2.out _ HB0.out).mono ?_
      rintro e w1 ⟨rfl, hb⟩
      have HB1 := hid (below_two HB0.out hb)
      have S1 := hid (HRw.out _ hb)
      clear hb S0 HRw cc0
      go_wp2_with (first | ((with_reducible refine wl_load 33 (.tmp 1) ?_ w.heap.size 0 ?_ ?_ V _ S1.out Tryz.underlying33 ?_ Z0 ?_); exact rfl; exact rfl; exact rfl; exact rfl))
      refine (K3.out _ HB1.out).mono ?_
      rintro e w2 ⟨rfl, hb⟩
      have HB2 := hid (below_two HB1.out hb)
      clear hb
      go_wp2
      go_ret
      exact ⟨by rw [HF.out]; rfl, HB2.out⟩

/-- What lays and reads what is pending is asked for only where a message has it. -/
theorem slot_pens (k : Int) (f : Fl Msg) (hf : f ∈ fieldsM k) (h : f.slot = .pens) : k = 2 := by
  rcases fields_cases k with ⟨_, e⟩ | ⟨hk, e⟩ | ⟨_, e⟩ | ⟨_, e⟩ | ⟨_, e⟩ | ⟨_, e⟩ | ⟨_, e⟩ | ⟨_, e⟩ | ⟨_, e⟩ <;> rw [e] at hf
  · simp only [subFs, List.mem_cons, List.not_mem_nil, or_false] at hf
    rcases hf with rfl | rfl | rfl | rfl | rfl | rfl | rfl <;> cases h
  · exact hk
  · simp only [comFs, List.mem_cons, List.not_mem_nil, or_false] at hf
    rcases hf with rfl | rfl | rfl <;> cases h
  · simp only [bloFs, List.mem_cons, List.not_mem_nil, or_false] at hf
    rcases hf with rfl | rfl | rfl | rfl <;> cases h
  · simp only [lstFs, List.mem_cons, List.not_mem_nil, or_false] at hf
    rcases hf with rfl | rfl <;> cases h
  · simp only [proFs, List.mem_cons, List.not_mem_nil, or_false] at hf
    subst hf; cases h
  · simp only [verFs, List.mem_cons, List.not_mem_nil, or_false] at hf
    rcases hf with rfl | rfl | rfl | rfl | rfl <;> cases h
  · simp only [alaFs, List.mem_cons, List.not_mem_nil, or_false] at hf
    rcases hf with rfl | rfl <;> cases h
  · cases hf
theorem lay_all (k : Int) (hL : k = 2 → LayOne .pens) : ∀ f ∈ fieldsM k, LayOne f.slot := by
  intro f hf
  cases hs : f.slot using Slot.cut with
  | num => exact mkLayNum
  | txt => exact mkLayTxt
  | dig => exact mkLayDig
  | nums => exact mkLayNums
  | pens => exact hL (slot_pens k f hf hs)
theorem read_all (k : Int) (hL : k = 2 → ReadOne .pens) : ∀ f ∈ fieldsM k, ReadOne f.slot := by
  intro f hf
  cases hs : f.slot using Slot.cut with
  | num => exact mkReadNum
  | txt => exact mkReadTxt
  | dig => exact mkReadDig
  | nums => exact mkReadNums
  | pens => exact hL (slot_pens k f hf hs)

set_option maxHeartbeats 4000000 in
theorem put_bad {w : World} {m : Msg} {vP vN : Value} (hw : m.Wf) (hr : m.Rng) (hp : PensAt w vP m.rep.pend) (hn : IntsAt w vN m.nums) (hl : Lens m) (hR : m.kind = 2 → RepOk m.rep) (hm : mayB m = false) :
    Calls Tryz.prog 9 #[.agg (msgC m vP vN).toArray] w fun e w' => e = .returned (.tuple #[st [], nu 2]) ∧ Below w.heap.size w w' := by
  have HB0 := hid (below_a1 w (.cells (msgC m vP vN).toArray 33))
  have R0 := hid (top_obj w (.cells (msgC m vP vN).toArray 33))
  have K1 := hid (fun (W : World) (h : Below w.heap.size w W) => maybe_any hw hr (hp.kept h) (hn.kept h) hl hR)
  rw [hm] at K1
  have Z0 : (Tryz.prog.info? 33).map (·.size) = some (msgC m vP vN).length := by rw [msgC_len hw]; exact sizeMsg
  clear hp hn hR hl hr hm hw
  obtain ⟨V, hV⟩ : ∃ V, V = msgC m vP vN := ⟨_, rfl⟩
  rw [← hV] at HB0 R0 K1 Z0 ⊢
  clear hV
  have S0 := hid (row_seg (off := 0) (A := []) (cs := V) (C := []) R0.out (by simp) rfl)
  clear R0
  go_enter Tryz.func9, Tryz.ntmps9
  go_upto_region 1 with fail
  generalize w.alloc (.cells V.toArray 33) = W0 at *
  go_wp2_with (first | ((with_reducible refine wl_load 33 (.tmp 1) ?_ w.heap.size 0 ?_ ?_ V _ S0.out Tryz.underlying33 ?_ Z0 ?_); exact rfl; exact rfl; exact rfl; exact rfl))
  refine (K1.out _ HB0.out).mono ?_
  rintro e w1 ⟨rfl, hb⟩
  have HB1 := hid (below_two HB0.out hb)
  clear hb
  go_wp2
  go_ret2
  exact ⟨rfl, HB1.out⟩

set_option maxHeartbeats 4000000 in
theorem put_ok {w : World} {m : Msg} {vP vN : Value} (hw : m.Wf) (hr : m.Rng) (hp : PensAt w vP m.rep.pend) (hn : IntsAt w vN m.nums) (hl : Lens m) (hR : m.kind = 2 → RepOk m.rep) (hL : m.kind = 2 → LayOne .pens) (hm : mayB m = true) (ht : Tb w) :
    Calls Tryz.prog 9 #[.agg (msgC m vP vN).toArray] w fun e w' => e = .returned (.tuple #[st (putM m), nu 0]) ∧ Below w.heap.size w w' := by
  have HB0 := hid (below_a1 w (.cells (msgC m vP vN).toArray 33))
  have R0 := hid (top_obj w (.cells (msgC m vP vN).toArray 33))
  have HM0 := hid (box_msg hw hr hp hn hl)
  have K1 := hid (fun (W : World) (h : Below w.heap.size w W) => maybe_any hw hr (hp.kept h) (hn.kept h) hl hR)
  rw [hm] at K1
  have Z0 : (Tryz.prog.info? 33).map (·.size) = some (msgC m vP vN).length := by rw [msgC_len hw]; exact sizeMsg
  obtain ⟨hk, hf⟩ := may_fits hw hm
  have hnl := numB_len m.kind hr.kind
  have hpl := put_len (fieldsM m.kind) m (fun f h => (hf f h).2)
  have hfl := fields_len m.kind
  have KN := hid (fun (W : World) (h : Tb W) => Lay.number_any m.kind hr.kind.1 hr.kind.2 W h)
  have KF := hid (fun (g : Nat) (W : World) (h : W.cell? ⟨g, 0, none⟩ = some (nu m.kind)) => fieldsof_form g m.kind _ rfl W h)
  have KL := hid (fun (g : Nat) (W : World) (v : Value) (h1 : FieldsAt W v g (spots 0 (fieldsM m.kind))) (h2 : MsgAt [] g m W) (h3 : Tb W) => layall_any (msg_hold [] g m.kind) (lay_all m.kind hL) h1 h2 (fun f h => (hf f h).2) (fields_len m.kind) h3)
  have HT := hid (fun (W : World) (h : Below w.heap.size w W) => ht.stays h)
  have HStay := hid (fun (g : Nat) (W W' : World) (h : MsgAt [] g m W) (hb : Below W.heap.size W W') => (msg_hold [] g m.kind).stay m W W' h hb)
  have HPut : Hid (putM m = numB m.kind ++ putAll layVal (fieldsM m.kind) m) := by show _ = _; rfl
  have hnb : Lib.itoa m.kind ++ [59] = numB m.kind := rfl
  rw [hnb] at KN
  clear hp hn hR hl hr hm hw hk hf hL ht hnb
  obtain ⟨V, hV⟩ : ∃ V, V = msgC m vP vN := ⟨_, rfl⟩
  rw [← hV] at HB0 R0 K1 Z0 HM0 ⊢
  clear hV
  have S0 := hid (row_seg (off := 0) (A := []) (cs := V) (C := []) R0.out (by simp) rfl)
  clear R0
  generalize fieldsM m.kind = fs at *
  generalize putAll layVal fs m = pb at *
  have happ := str_app (numB m.kind) pb
  generalize numB m.kind = nb at *
  have hs1 : (⟨nb.toArray⟩ : ByteArray).size = nb.length := rfl
  have hs2 : (⟨pb.toArray⟩ : ByteArray).size = pb.length := rfl
  go_enter Tryz.func9, Tryz.ntmps9
  go_upto_region 1 with fail
  generalize w.alloc (.cells V.toArray 33) = W0 at *
  obtain ⟨g, hg⟩ : ∃ g, g = w.heap.size := ⟨_, rfl⟩
  rw [← hg] at HM0 S0 ⊢
  clear hg
  go_wp2_with (first | ((with_reducible refine wl_load 33 (.tmp 1) ?_ g 0 ?_ ?_ V _ S0.out Tryz.underlying33 ?_ Z0 ?_); exact rfl; exact rfl; exact rfl; exact rfl))
  refine (K1.out _ HB0.out).mono ?_
  rintro e w1 ⟨rfl, hb⟩
  have HB1 := hid (below_two HB0.out hb)
  have HM1 := hid (HStay.out g _ _ HM0.out hb)
  have ck := HM1.out.cell_kind
  clear hb S0 HB0 HM0 K1
  go_wp2_with fail
  refine (KN.out _ (HT.out _ HB1.out)).mono ?_
  rintro e w2 ⟨rfl, hb⟩
  have HB2 := hid (below_two HB1.out hb)
  have HM2 := hid (HStay.out g _ _ HM1.out hb)
  clear hb HB1 HM1 ck KN
  go_wp2_with fail
  refine (KF.out g _ HM2.out.cell_kind).mono ?_
  rintro e w3 ⟨av, rfl, hv, hb⟩
  have HV := hid hv
  have HB3 := hid (below_two HB2.out hb)
  have HM3 := hid (HStay.out g _ _ HM2.out hb)
  clear hb hv HB2 HM2 KF
  go_wp2_with fail
  refine (KL.out g _ _ HV.out HM3.out (HT.out _ HB3.out)).mono ?_
  rintro e w4 ⟨rfl, hb⟩
  have HB4 := hid (below_two HB3.out hb)
  clear hb HV HB3 HM3 KL HStay HT
  go_wp2
  go_ret2
  exact ⟨by rw [HPut.out]; rfl, HB4.out⟩
end Go.Proofs.YtpnnibddjopniaaGreatDoor.Ms

/-
  What msg.Get answers of any bytes.
-/
namespace Go.Proofs.YtpnnibddjopniaaGreatDoor.Ms
open Go Go.RowKit
set_option maxRecDepth 100000

theorem build_zero (W : World) : (Instr.build 33 #[]).run Tryz.prog W = .ok (.agg (msgC (zeroM 0 0) (.slice none 0 0) (.slice none 0 0)).toArray) W := by kernel_rfl
theorem zero_zero : (msgC (zeroM 0 0) (.slice none 0 0) (.slice none 0 0)).toArray = Tryz.zeroCells33 := by kernel_rfl
theorem results_rowt {P : Program} {fn : Func} {p u : Tmp} {ty : TypeId} (h : fn.results = #[.cell p ty, .tmp u]) (tmps : Array Value) (w : World) (g : Nat) (t : TypeId) (cs : Array Value) (fr : Nat × Nat) (d : TypeDesc)
    (hp : tmps.getD p undef = .pointer (some ⟨g, 0, none⟩)) (hg : w.heap[g]? = some (.cells cs t fr))
    (hu : P.underlying ty = some d) (hd : (match d with | .struct _ | .array _ _ => true | _ => false) = true) (hi : (P.info? ty).map (·.size) = some cs.size) :
    (results fn tmps).run P w = .ok (.tuple #[.agg cs, tmps.getD u undef]) w := by
  have hp' : tmps[p]?.getD undef = .pointer (some ⟨g, 0, none⟩) := by simpa using hp
  simp [results, h, hp', asAddr, run_loadVar_row w g t ty cs fr d hg hu hd hi]
/-- A message as an answer. -/
def MsgV (w : World) (v : Value) (m : Msg) : Prop := ∃ vP vN, v = .agg (msgC m vP vN).toArray ∧ PensAt w vP m.rep.pend ∧ IntsAt w vN m.nums ∧ Lens m
theorem zeroV (w : World) : MsgV w (.agg (msgC (zeroM 0 0) (.slice none 0 0) (.slice none 0 0)).toArray) (zeroM 0 0) := ⟨_, _, rfl, PensAt.nil w, IntsAt.nil w, Nat.zero_le _, Nat.zero_le _⟩
theorem getM_a {s : List UInt8} (h : (Lay.readNum s).1 ≠ 0) : getM s = ((Lay.readNum s).1, zeroM 0 0) := by unfold getM; rw [if_pos h]
def rdM (s : List UInt8) : Nat × Msg × Nat := rdAll rdVal (fieldsM (Lay.readNum s).2.1) (zeroM (Lay.readNum s).2.1 0) s (Lay.readNum s).2.2
theorem getM_b {s : List UInt8} (h : (Lay.readNum s).1 = 0) (h2 : (rdM s).1 ≠ 0) : getM s = ((rdM s).1, zeroM 0 0) := by unfold rdM at *; unfold getM; rw [if_neg (by omega), if_pos h2]
theorem getM_c {s : List UInt8} (h : (Lay.readNum s).1 = 0) (h2 : (rdM s).1 = 0) (h3 : (rdM s).2.2 < s.length ∨ mayB (rdM s).2.1 = false) : getM s = (6, zeroM 0 0) := by
  unfold rdM at *
  unfold getM
  rw [if_neg (by omega), if_neg (by omega), if_pos h3]
theorem getM_d {s : List UInt8} (h : (Lay.readNum s).1 = 0) (h2 : (rdM s).1 = 0) (h3 : ¬ (rdM s).2.2 < s.length) (h4 : mayB (rdM s).2.1 = true) : getM s = (0, (rdM s).2.1) := by
  unfold rdM at *
  unfold getM
  rw [if_neg (by omega), if_neg (by omega), if_neg (by rintro (h5 | h5); exact h3 h5; rw [h4] at h5; cases h5)]
/-- What is asked of the parts where what is pending comes. -/
structure PenOk (k : Int) : Prop where
  read : k = 2 → ReadOne .pens
  may : k = 2 → ∀ r : Rep, r.Wf → RepOk r

set_option maxHeartbeats 8000000 in
theorem get_any (s : List UInt8) (hs : s.length ≤ 281474976710656) (hP : PenOk (Lay.readNum s).2.1) (w : World) (ht : Tb w) :
    Calls Tryz.prog 14 #[st s] w fun e w' => ∃ v, e = .returned (.tuple #[v, nu (getM s).1]) ∧ MsgV w' v (getM s).2 ∧ Below w.heap.size w w' := by
  have HZ := zeroMsg
  have HZA := hid zero_zero
  have HOZ := hid (one_msg (zeroM 0 0) (.slice none 0 0) (.slice none 0 0) rfl rfl)
  have hIZ : (Tryz.prog.info? 33).map (·.size) = some (msgC (zeroM 0 0) (.slice none 0 0) (.slice none 0 0)).length := by rw [msgC_len (zeroM_wf 0 0)]; exact sizeMsg
  have HZl : Hid ((msgC (zeroM 0 0) (.slice none 0 0) (.slice none 0 0)).length = 275) := msgC_len (zeroM_wf 0 0) _ _
  have HZV := hid zeroV
  obtain ⟨Z, hZ⟩ : ∃ Z, Z = msgC (zeroM 0 0) (.slice none 0 0) (.slice none 0 0) := ⟨_, rfl⟩
  rw [← hZ] at HZ HZA HOZ hIZ HZl HZV
  clear hZ
  have HB0 := hid (below_a1 w (.cells Z.toArray 33))
  have R0 := hid (row_plain (top_obj w (.cells Z.toArray 33)))
  have HRd := hid (Lay.readNumber_any ⟨s.toArray⟩ 0 (Nat.zero_le _) hs (w.alloc (.cells Z.toArray 33)) (ht.stays HB0.out) s rfl)
  have HT := hid (fun (W : World) (h : Below w.heap.size w W) => ht.stays h)
  have HTn := hid (fun (g : Nat) (h : w.heap.size ≤ g) => tn_of ht h)
  clear ht
  by_cases h1 : (Lay.readNum s).1 = 0
  · have hto : Lay.numTo 0 s = (Lay.readNum s).2.2 := by unfold Lay.numTo; rw [if_pos h1, Nat.zero_add]
    rw [hto, h1] at HRd
    obtain ⟨-, hle, hk64⟩ := readNum_fits s h1
    have KF := hid (fun (g : Nat) (W : World) (h : W.cell? ⟨g, 0, none⟩ = some (nu (Lay.readNum s).2.1)) => fieldsof_form g (Lay.readNum s).2.1 _ rfl W h)
    have KR := hid (fun (g : Nat) (W : World) (v : Value) (h1 : FieldsAt W v g (spots 0 (fieldsM (Lay.readNum s).2.1))) (h2 : MsgAt [w.heap.size] g (zeroM (Lay.readNum s).2.1 0) W) (h3 : Tb W) (h4 : Tn g) => readall_any (msg_hold [w.heap.size] g (Lay.readNum s).2.1) (read_all _ hP.read) h1 h2 s (Lay.readNum s).2.2 hle hs (fields_len _) h3 h4)
    have HStay := hid (fun (g : Nat) (y : Msg) (W W' : World) (h : MsgAt [w.heap.size] g y W) (hb : Below W.heap.size W W') => (msg_hold [w.heap.size] g (Lay.readNum s).2.1).stay y W W' h hb)
    have HMk := hid (fun (W : World) (h : w.heap.size < W.heap.size) => box_zero [w.heap.size] (w := W) (Lay.readNum s).2.1 hk64 (by simpa using h))
    have HM0k : Hid ((zeroM (Lay.readNum s).2.1 0).kind = (Lay.readNum s).2.1) := by show _ = _; rfl
    have HKA := hid (zero_kind (Lay.readNum s).2.1)
    have HOK := hid (one_msg (zeroM (Lay.readNum s).2.1 0) (.slice none 0 0) (.slice none 0 0) rfl rfl)
    have HKl : Hid ((msgC (zeroM (Lay.readNum s).2.1 0) (.slice none 0 0) (.slice none 0 0)).length = 275) := msgC_len (zeroM_wf _ 0) _ _
    have HRdM : Hid (rdAll rdVal (fieldsM (Lay.readNum s).2.1) (zeroM (Lay.readNum s).2.1 0) s (Lay.readNum s).2.2 = rdM s) := by show _ = _; rfl
    have HKd : Hid ((rdM s).1 = 0 → (rdM s).2.1.kind = (Lay.readNum s).2.1) := by
      intro h
      obtain ⟨c, -, -, h3, -⟩ := rd_fits (Lay.readNum s).2.1 (zeroM (Lay.readNum s).2.1 0) (zeroM_wf _ 0) (zeroM_rng _ 0 hk64 i64_zero) s (Lay.readNum s).2.2 hle h
      exact h3
    have HB2a := hid (fun h => @getM_b s h1 h)
    have HB2c := hid (fun h h' => @getM_c s h1 h h')
    have HB2d := hid (fun h h' h'' => @getM_d s h1 h h' h'')
    rw [HRdM.out] at KR
    obtain ⟨KZ, hKZ⟩ : ∃ KZ, KZ = msgC (zeroM (Lay.readNum s).2.1 0) (.slice none 0 0) (.slice none 0 0) := ⟨_, rfl⟩
    rw [← hKZ] at HMk HOK HKl HKA
    have HPen := hid hP
    clear hKZ HRdM h1 hto hle hk64 hP
    generalize zeroM (Lay.readNum s).2.1 0 = m0 at *
    generalize fieldsM (Lay.readNum s).2.1 = fs at *
    generalize (Lay.readNum s).2.1 = kk at *
    generalize (Lay.readNum s).2.2 = p0 at *
    have hIKZ : (Tryz.prog.info? 33).map (·.size) = some KZ.length := by rw [HKl.out]; exact sizeMsg
    have hLKZ : Z.length = KZ.length := HZl.out.trans HKl.out.symm
    have hss : (⟨s.toArray⟩ : ByteArray).size = s.length := rfl
    go_enter Tryz.func14, Tryz.ntmps14
    go_upto_region 1 with (first | ((with_reducible refine wl_alloc 33 ?_ ?_ Z.toArray HZ ?_); exact rfl; exact rfl))
    generalize w.alloc (.cells Z.toArray 33) = W0 at *
    go_wp2_with fail
    refine HRd.out.mono ?_
    rintro e w1 ⟨rfl, hb⟩
    have HB1 := hid (below_two HB0.out hb)
    have R1 := hid (row_kept R0.out hb)
    clear hb HRd R0 HB0
    have HB2 := hid (below_two HB1.out (below_a1 w1 (.cells KZ.toArray 33)))
    have R2 := hid (row_kept R1.out (below_a1 w1 (.cells KZ.toArray 33)))
    have hlt1 : w.heap.size < w1.heap.size := (Array.getElem?_eq_some_iff.1 R1.out).1
    have HM2 := hid (HMk.out w1 hlt1)
    go_upto_region 5 with (first | ((with_reducible refine wl_alloc 33 ?_ ?_ Z.toArray HZ ?_); exact rfl; exact rfl) | ((with_reducible refine wl_store_top 33 (.tmp 7) (.tmp 19) ?_ ?_ ?_ ?_ KZ Z ?_ 33 hLKZ HOK.out hIKZ ?_); exact rfl; exact rfl; exact rfl; exact rfl; exact congrArg Value.agg HKA.out.symm))
    have hgw : w.heap.size ≤ w1.heap.size := HB1.out.size
    have hgl := hlt1
    obtain ⟨g, hg⟩ : ∃ g, g = w1.heap.size := ⟨_, rfl⟩
    generalize w1.alloc (.cells KZ.toArray 33) = W2 at *
    rw [← hg] at HM2 hgw hgl ⊢
    clear hg HB1 R1 HMk HOK hIKZ hLKZ HKl HKA hlt1
    have ck2 := HM2.out.cell_kind
    rw [HM0k.out] at ck2
    go_wp2_with fail
    refine (KF.out g _ ck2).mono ?_
    rintro e w3 ⟨av, rfl, hv, hb⟩
    have HV := hid hv
    have HB3 := hid (below_two HB2.out hb)
    have R3 := hid (row_kept R2.out hb)
    have HM3 := hid (HStay.out g _ _ _ HM2.out hb)
    clear hb hv HB2 R2 HM2 KF ck2
    go_wp2_with fail
    refine (KR.out g _ _ HV.out HM3.out (HT.out _ HB3.out) (HTn.out g hgw)).mono ?_
    rintro e w4 ⟨rfl, hk4, hI4⟩
    have HB4 := hid (hk4.below HB3.out hgw)
    have R4 := hid (hk4.row R3.out (by omega))
    have HI4 := hid hI4
    clear hk4 hI4 HV HM3 HB3 R3 KR HStay HT HTn
    generalize (rdM s).2.2 = at2 at *
    by_cases h2 : (rdM s).1 = 0
    · have HMM := hid (HI4.out h2)
      have HKd2 := hid (HKd.out h2)
      have HC := hid (HB2c.out h2)
      have HD := hid (HB2d.out h2)
      rw [h2]
      clear HI4 HKd HB2a HB2c HB2d h2
      generalize (rdM s).2.1 = mm at *
      by_cases h3 : at2 < s.length
      · as_aux_lemma =>
        have HG := hid (HC.out (.inl h3))
        have d3 : decide ((at2 : Int) < (s.length : Int)) = true := decide_eq_true (by omega)
        have d3' : decide (at2 < s.length) = true := decide_eq_true h3
        clear HC HD HMM HKd2 h3
        go_wp2_with (first | ((with_reducible refine wl_put 33 (.tmp 2) (.tmp 40) ?_ ?_ w.heap.size 0 ?_ ?_ [] Z Z [] ?_ 33 R4.out rfl rfl HOZ.out hIZ ?_); exact rfl; exact rfl; exact rfl; exact rfl; exact congrArg Value.agg HZA.out.symm; intro w9 hr9 hbut))
        have hr5 : w9.heap[w.heap.size]? = some (.cells Z.toArray 33) := by simpa using hr9
        have HB6 := hid (hbut.below HB4.out (Nat.le_refl _))
        refine bodyPost_ret_by (results_rowt (fn := Tryz.f14) (p := 2) (u := 3) (ty := 33) (by kernel_rfl) _ _ w.heap.size 33 Z.toArray (0, 0) _ rfl hr5 Tryz.underlying33 rfl (by rw [List.size_toArray]; exact hIZ)) rfl ?_
        rw [HG.out]
        exact ⟨_, rfl, HZV.out _, HB6.out⟩
      · obtain ⟨vP, vN, hrow, hpp, hnn, haP, haN⟩ := HMM.out.row
        have hwf := HMM.out.wf
        have K9 := hid (maybe_any hwf HMM.out.rng hpp hnn HMM.out.len (fun h => HPen.out.may (HKd2.out.symm.trans h) _ hwf.rep))
        have d3 : decide ((at2 : Int) < (s.length : Int)) = false := decide_eq_false (by omega)
        have d3' : decide (at2 < s.length) = false := decide_eq_false h3
        have hIV : (Tryz.prog.info? 33).map (·.size) = some (msgC mm vP vN).length := by rw [msgC_len hwf]; exact sizeMsg
        have hLV : Z.length = (msgC mm vP vN).length := HZl.out.trans (msgC_len hwf _ _).symm
        have HOV : Hid (∀ v ∈ msgC mm vP vN, v.oneCell' = true) := by
          obtain ⟨a1, c1, rfl, -⟩ := hpp
          obtain ⟨a2, c2, rfl, -⟩ := hnn
          exact one_msg mm _ _ rfl rfl
        have S4 := hid (row_seg (off := 0) (A := []) (cs := msgC mm vP vN) (C := []) hrow (by simp) rfl)
        have HRw := hid (fun (W : World) (h : Below w4.heap.size w4 W) => row_seg (off := 0) (A := []) (cs := msgC mm vP vN) (C := []) (row_kept hrow h) (by simp) rfl)
        have HFin := hid (fun (W W' : World) (hb : Below w4.heap.size w4 W) (hbut : But w.heap.size W W') => (⟨vP, vN, rfl, (hpp.kept hb).but (haP w.heap.size (by simp)) hbut, (hnn.kept hb).but (haN w.heap.size (by simp)) hbut, HMM.out.len⟩ : MsgV W' (.agg (msgC mm vP vN).toArray) mm))
        clear HMM HKd2 hrow hpp hnn haP haN hwf
        generalize msgC mm vP vN = V at *
        cases hm : mayB mm with
        | false => as_aux_lemma =>
          have HG := hid (HC.out (.inr hm))
          rw [hm] at K9
          clear HC HD hm h3
          go_wp2_with (first | ((with_reducible refine wl_load 33 (.tmp 7) ?_ g 0 ?_ ?_ V _ S4.out Tryz.underlying33 ?_ hIV ?_); exact rfl; exact rfl; exact rfl; exact rfl))
          refine K9.out.mono ?_
          rintro e w5 ⟨rfl, hb⟩
          have HB5 := hid (below_two HB4.out hb)
          have R5 := hid (row_kept R4.out hb)
          clear hb HB4 R4 S4 HRw
          go_wp2_with (first | ((with_reducible refine wl_put 33 (.tmp 2) (.tmp 40) ?_ ?_ w.heap.size 0 ?_ ?_ [] Z Z [] ?_ 33 R5.out rfl rfl HOZ.out hIZ ?_); exact rfl; exact rfl; exact rfl; exact rfl; exact congrArg Value.agg HZA.out.symm; intro w9 hr9 hbut))
          have hr5 : w9.heap[w.heap.size]? = some (.cells Z.toArray 33) := by simpa using hr9
          have HB6 := hid (hbut.below HB5.out (Nat.le_refl _))
          refine bodyPost_ret_by (results_rowt (fn := Tryz.f14) (p := 2) (u := 3) (ty := 33) (by kernel_rfl) _ _ w.heap.size 33 Z.toArray (0, 0) _ rfl hr5 Tryz.underlying33 rfl (by rw [List.size_toArray]; exact hIZ)) rfl ?_
          rw [HG.out]
          exact ⟨_, rfl, HZV.out _, HB6.out⟩
        | true => as_aux_lemma =>
          have HG := hid (HD.out h3 hm)
          rw [hm] at K9
          clear HC HD hm h3
          go_wp2_with (first | ((with_reducible refine wl_load 33 (.tmp 7) ?_ g 0 ?_ ?_ V _ S4.out Tryz.underlying33 ?_ hIV ?_); exact rfl; exact rfl; exact rfl; exact rfl))
          refine K9.out.mono ?_
          rintro e w5 ⟨rfl, hb⟩
          have HB5 := hid (below_two HB4.out hb)
          have R5 := hid (row_kept R4.out hb)
          have S5 := hid (HRw.out _ hb)
          have HFi := hid (fun W' (h : But w.heap.size w5 W') => HFin.out w5 W' hb h)
          clear hb HB4 R4 S4 HRw HFin
          go_wp2_with (first | ((with_reducible refine wl_load 33 (.tmp 7) ?_ g 0 ?_ ?_ V _ S5.out Tryz.underlying33 ?_ hIV ?_); exact rfl; exact rfl; exact rfl; exact rfl) | ((with_reducible refine wl_put 33 (.tmp 2) (.tmp 41) ?_ ?_ w.heap.size 0 ?_ ?_ [] V Z [] ?_ 33 R5.out rfl hLV HOV.out hIV ?_); exact rfl; exact rfl; exact rfl; exact rfl; exact rfl; intro w9 hr9 hbut))
          have hr5 : w9.heap[w.heap.size]? = some (.cells V.toArray 33) := by simpa using hr9
          have HB6 := hid (hbut.below HB5.out (Nat.le_refl _))
          refine bodyPost_ret_by (results_rowt (fn := Tryz.f14) (p := 2) (u := 3) (ty := 33) (by kernel_rfl) _ _ w.heap.size 33 V.toArray (0, 0) _ rfl hr5 Tryz.underlying33 rfl (by rw [List.size_toArray]; exact hIV)) rfl ?_
          rw [HG.out]
          exact ⟨_, rfl, HFi.out _ hbut, HB6.out⟩
    · as_aux_lemma =>
      have HG := hid (HB2a.out h2)
      generalize (rdM s).1 = ee at *
      have de1 : ((ee : Int) != 0) = true := by simpa using h2
      have de1' : (ee != 0) = true := by simpa using h2
      clear HI4 HKd HB2a HB2c HB2d h2
      go_wp2_with (first | ((with_reducible refine wl_put 33 (.tmp 2) (.tmp 29) ?_ ?_ w.heap.size 0 ?_ ?_ [] Z Z [] ?_ 33 R4.out rfl rfl HOZ.out hIZ ?_); exact rfl; exact rfl; exact rfl; exact rfl; exact congrArg Value.agg HZA.out.symm; intro w9 hr9 hbut))
      have hr5 : w9.heap[w.heap.size]? = some (.cells Z.toArray 33) := by simpa using hr9
      have HB6 := hid (hbut.below HB4.out (Nat.le_refl _))
      refine bodyPost_ret_by (results_rowt (fn := Tryz.f14) (p := 2) (u := 3) (ty := 33) (by kernel_rfl) _ _ w.heap.size 33 Z.toArray (0, 0) _ rfl hr5 Tryz.underlying33 rfl (by rw [List.size_toArray]; exact hIZ)) rfl ?_
      rw [HG.out]
      exact ⟨_, rfl, HZV.out _, HB6.out⟩
  · as_aux_lemma =>
    have HG := hid (getM_a h1)
    generalize Lay.numTo 0 s = tt at *
    generalize (Lay.readNum s).2.1 = kk at *
    generalize (Lay.readNum s).1 = ee at *
    have de1 : ((ee : Int) != 0) = true := by simpa using h1
    have de1' : (ee != 0) = true := by simpa using h1
    clear h1 hs hP
    go_enter Tryz.func14, Tryz.ntmps14
    go_upto_region 1 with (first | ((with_reducible refine wl_alloc 33 ?_ ?_ Z.toArray HZ ?_); exact rfl; exact rfl))
    generalize w.alloc (.cells Z.toArray 33) = W0 at *
    go_wp2_with fail
    refine HRd.out.mono ?_
    rintro e w1 ⟨rfl, hb⟩
    have HB1 := hid (below_two HB0.out hb)
    have R1 := hid (row_kept R0.out hb)
    clear hb HRd R0 HB0
    go_wp2_with (first | ((with_reducible refine wl_put 33 (.tmp 2) (.tmp 16) ?_ ?_ w.heap.size 0 ?_ ?_ [] Z Z [] ?_ 33 R1.out rfl rfl HOZ.out hIZ ?_); exact rfl; exact rfl; exact rfl; exact rfl; exact congrArg Value.agg HZA.out.symm; intro w9 hr9 hbut))
    have hr5 : w9.heap[w.heap.size]? = some (.cells Z.toArray 33) := by simpa using hr9
    have HB4 := hid (hbut.below HB1.out (Nat.le_refl _))
    refine bodyPost_ret_by (results_rowt (fn := Tryz.f14) (p := 2) (u := 3) (ty := 33) (by kernel_rfl) _ _ w.heap.size 33 Z.toArray (0, 0) _ rfl hr5 Tryz.underlying33 rfl (by rw [List.size_toArray]; exact hIZ)) rfl ?_
    rw [HG.out]
    exact ⟨_, rfl, HZV.out _, HB4.out⟩
end Go.Proofs.YtpnnibddjopniaaGreatDoor.Ms

/-
  What must come at any rate: the first call of each statement (awake).
-/
namespace Go.Proofs.YtpnnibddjopniaaGreatDoor.Ms
open Go Go.RowKit
set_option maxRecDepth 100000

def dOne : List UInt8 := 1 :: List.replicate 31 0
def mOne : Msg := ⟨3, 1, zeroS, zeroR, [1], 0, dOne, zeroD, zeroB, []⟩
def sOne : List UInt8 := [51, 59, 49, 59, 49, 58, 1, 51, 50, 58] ++ dOne
theorem dec1 (d : Nat) (h : d < 10) : Lib.decDigits d = [UInt8.ofNat (48 + d)] := by rw [Lib.decDigits, dif_pos h]
theorem dec32 : Lib.decDigits 32 = [51, 50] := by rw [Lib.decDigits, dif_neg (by decide), dec1 _ (by decide)]; rfl
theorem numB1 (d : Nat) (h : d < 10) : numB (d : Int) = [UInt8.ofNat (48 + d), 59] := by
  unfold numB Lib.itoa
  rw [if_neg (by omega), Int.toNat_natCast, dec1 d h]
  rfl
theorem mOne_wf : mOne.Wf := ⟨⟨rfl, rfl⟩, ⟨rfl, rfl, rfl, fun p hp => by cases hp⟩, rfl, rfl, ⟨rfl⟩⟩
theorem mOne_may : mayB mOne = true := by decide
theorem put9 : putM (zeroM 9 3) = [57, 59, 51, 59] := by
  have e : putM (zeroM 9 3) = numB ((9 : Nat) : Int) ++ (numB ((3 : Nat) : Int) ++ []) := rfl
  rw [e, numB1 9 (by decide), numB1 3 (by decide)]
  rfl
theorem may9 : mayB (zeroM 9 3) = true := by decide
theorem putOne : putM mOne = sOne := by
  have e : putM mOne = numB ((3 : Nat) : Int) ++ (numB ((1 : Nat) : Int) ++ (layT [1] ++ (txtB dOne ++ []))) := rfl
  have e2 : layT [1] = Lib.decDigits 1 ++ [58] ++ [1] := rfl
  have e3 : txtB dOne = Lib.decDigits 32 ++ [58] ++ dOne := rfl
  rw [e, numB1 3 (by decide), numB1 1 (by decide), e2, e3, dec1 1 (by decide), dec32]
  rfl
theorem getOne : getM sOne = (0, mOne) := by rw [← putOne]; exact get_put mOne_wf mOne_may
theorem kindOne : (Lay.readNum sOne).2.1 = 3 := by
  have e : sOne = numB ((3 : Nat) : Int) ++ ([49, 59, 49, 58, 1, 51, 50, 58] ++ dOne) := by rw [numB1 3 (by decide)]; rfl
  rw [e, num_back _ ⟨by decide, by decide⟩]
  rfl
theorem arr9 : (msgC (zeroM 9 3) (.slice none 0 0) (.slice none 0 0)).toArray = (Tryz.zeroCells33.setIfInBounds 0 (nu 9)).setIfInBounds 1 (nu 3) := by kernel_rfl
theorem build_one (W : World) : (Instr.build 23 #[(0, .int .u8 1)]).run Tryz.prog W = .ok (.agg (dg dOne).toArray) W := by kernel_rfl
theorem arrD : (dg dOne).toArray = #[.int .u8 1, .int .u8 0, .int .u8 0, .int .u8 0, .int .u8 0, .int .u8 0, .int .u8 0, .int .u8 0, .int .u8 0, .int .u8 0, .int .u8 0, .int .u8 0, .int .u8 0, .int .u8 0, .int .u8 0, .int .u8 0, .int .u8 0, .int .u8 0, .int .u8 0, .int .u8 0, .int .u8 0, .int .u8 0, .int .u8 0, .int .u8 0, .int .u8 0, .int .u8 0, .int .u8 0, .int .u8 0, .int .u8 0, .int .u8 0, .int .u8 0, .int .u8 0] := by kernel_rfl
theorem sameOne : sameM mOne mOne = true := (sameM_iff _ _).2 rfl
theorem diffOne : sameM mOne (zeroM 0 0) = false := by decide
theorem i64_small (n : Int) (h : -1000 ≤ n) (h2 : n ≤ 1000) : I64 n := ⟨by omega, by omega⟩

set_option maxHeartbeats 1000000 in
theorem awake_any (w : World) (ht : Tb w) : Calls Tryz.prog 12 #[] w fun e w' => e = .returned (.bool true) ∧ Below w.heap.size w w' := by
  have KP := hid (put_ok (w := w) (m := zeroM 9 3) (zeroM_wf 9 3) (zeroM_rng 9 3 (i64_small 9 (by decide) (by decide)) (i64_small 3 (by decide) (by decide))) (PensAt.nil w) (IntsAt.nil w) ⟨Nat.zero_le _, Nat.zero_le _⟩ (fun h => absurd h (by decide)) (fun h => absurd h (by decide)) may9 ht)
  rw [put9, arr9] at KP
  have KB := hid (fun W => rbytes_any dOne rfl W)
  rw [← dg_map, arrD] at KB
  have KG := hid (fun (W : World) (h : Tb W) => get_any sOne (by decide) ⟨fun h => absurd (kindOne.symm.trans h) (by decide), fun h => absurd (kindOne.symm.trans h) (by decide)⟩ W h)
  rw [getOne] at KG
  have HT := hid (fun (W : World) (h : Below w.heap.size w W) => ht.stays h)
  have happ := str_app [51, 59, 49, 59, 49, 58, 1, 51, 50, 58] dOne
  have hsO : [51, 59, 49, 59, 49, 58, 1, 51, 50, 58] ++ dOne = sOne := rfl
  rw [hsO] at happ
  have hdl : (⟨dOne.toArray⟩ : ByteArray).size = 32 := rfl
  have HZ := zeroMsg
  have HZl : Hid ((msgC (zeroM 0 0) (.slice none 0 0) (.slice none 0 0)).length = 275) := msgC_len (zeroM_wf 0 0) _ _
  have HZA := hid zero_zero
  have KS1 := hid (fun (W : World) (vP vN : Value) (h1 : PensAt W vP mOne.rep.pend) (h2 : IntsAt W vN mOne.nums) => msame_any mOne_wf mOne_wf h1 h1 h2 h2 (Nat.zero_le _) (Nat.zero_le _))
  have KS2 := hid (fun (W : World) (vP vN : Value) (h1 : PensAt W vP mOne.rep.pend) (h2 : IntsAt W vN mOne.nums) => msame_any (b := zeroM 0 0) mOne_wf (zeroM_wf 0 0) h1 (PensAt.nil W) h2 (IntsAt.nil W) (Nat.zero_le _) (Nat.zero_le _))
  rw [sameOne] at KS1
  rw [diffOne, zero_zero] at KS2
  obtain ⟨Z, hZ⟩ : ∃ Z, Z = msgC (zeroM 0 0) (.slice none 0 0) (.slice none 0 0) := ⟨_, rfl⟩
  rw [← hZ] at HZ HZl HZA
  clear hZ hsO ht
  generalize dOne = D1 at *
  generalize sOne = S1 at *
  go_enter Tryz.func12, Tryz.ntmps12
  go_wp2_with fail
  refine KP.out.mono ?_
  rintro e w1 ⟨rfl, hb⟩
  have HB1 := hid hb
  clear hb KP
  go_wp2_with fail
  refine (KB.out _).mono ?_
  rintro e w2 ⟨rfl, hb⟩
  have HB2 := hid (below_two HB1.out hb)
  clear hb KB HB1
  go_wp2_with fail
  refine (KG.out _ (HT.out _ HB2.out)).mono ?_
  rintro e w3 ⟨v, rfl, hv, hb⟩
  have HB3 := hid (below_two HB2.out hb)
  obtain ⟨vP, vN, rfl, hp, hn, -⟩ := hv
  have hIV : (Tryz.prog.info? 33).map (·.size) = some (msgC mOne vP vN).length := by rw [msgC_len mOne_wf]; exact sizeMsg
  have hLV : Z.length = (msgC mOne vP vN).length := HZl.out.trans (msgC_len mOne_wf _ _).symm
  have HOV : Hid (∀ v ∈ msgC mOne vP vN, v.oneCell' = true) := by
    obtain ⟨a1, c1, rfl, -⟩ := hp
    obtain ⟨a2, c2, rfl, -⟩ := hn
    exact one_msg mOne _ _ rfl rfl
  have HB4 := hid (below_two HB3.out (below_a1 w3 (.cells (msgC mOne vP vN).toArray 33)))
  have T4 := top_obj w3 (.cells (msgC mOne vP vN).toArray 33)
  have HRow := hid (fun (W : World) (h : Below (w3.alloc (.cells (msgC mOne vP vN).toArray 33)).heap.size (w3.alloc (.cells (msgC mOne vP vN).toArray 33)) W) => row_seg (off := 0) (A := []) (cs := msgC mOne vP vN) (C := []) (row_kept T4 h) (by simp) rfl)
  have S4 := hid (HRow.out _ (Below.refl _ _))
  have c1 := mrow_client T4 mOne_wf
  have c2 := mrow_view T4 mOne_wf
  have c3 := mrow_tag T4 mOne_wf 0 (.int .u8 1) rfl
  have HP4 := hid (fun (W : World) (h : Below (w3.alloc (.cells (msgC mOne vP vN).toArray 33)).heap.size (w3.alloc (.cells (msgC mOne vP vN).toArray 33)) W) => (hp.kept (below_a1 w3 (.cells (msgC mOne vP vN).toArray 33))).kept h)
  have HN4 := hid (fun (W : World) (h : Below (w3.alloc (.cells (msgC mOne vP vN).toArray 33)).heap.size (w3.alloc (.cells (msgC mOne vP vN).toArray 33)) W) => (hn.kept (below_a1 w3 (.cells (msgC mOne vP vN).toArray 33))).kept h)
  have KT1 := hid (fun (W : World) (h1 : PensAt W vP mOne.rep.pend) (h2 : IntsAt W vN mOne.nums) => KS1.out W vP vN h1 h2)
  have KT2 := hid (fun (W : World) (h1 : PensAt W vP mOne.rep.pend) (h2 : IntsAt W vN mOne.nums) => KS2.out W vP vN h1 h2)
  have e1 : mOne.client = 1 := rfl
  have e2 : mOne.view = [1] := rfl
  rw [e1] at c1
  rw [e2] at c2
  clear hb hp hn T4 KG HT HB2 HB3 KS1 KS2 e1 e2
  generalize mOne.rep.pend = PP at *
  generalize mOne.nums = NN at *
  generalize msgC mOne vP vN = V at *
  go_upto_region 3 with (first | ((with_reducible refine wl_alloc 33 ?_ ?_ Z.toArray HZ ?_); exact rfl; exact rfl) | ((with_reducible refine wl_store_top 33 (.tmp 3) (.tmp 15) ?_ ?_ ?_ ?_ V Z ?_ 33 hLV HOV.out hIV ?_); exact rfl; exact rfl; exact rfl; exact rfl; exact rfl))
  obtain ⟨g, hg⟩ : ∃ g, g = w3.heap.size := ⟨_, rfl⟩
  generalize w3.alloc (.cells V.toArray 33) = W4 at *
  rw [← hg] at S4 HRow c1 c2 c3 ⊢
  have HPx := hid (HP4.out _ (Below.refl _ _))
  have HNx := hid (HN4.out _ (Below.refl _ _))
  clear hg hLV HOV
  go_wp2_with (first | ((with_reducible refine wl_load 33 (.tmp 3) ?_ g 0 ?_ ?_ V _ S4.out Tryz.underlying33 ?_ hIV ?_); exact rfl; exact rfl; exact rfl; exact rfl))
  refine (KT1.out _ HPx.out HNx.out).mono ?_
  rintro e w5 ⟨rfl, hb⟩
  have HB5 := hid (below_two HB4.out hb)
  have S5 := hid (HRow.out _ hb)
  have HP5 := hid (HP4.out _ hb)
  have HN5 := hid (HN4.out _ hb)
  clear hb S4 HRow HPx HNx HP4 HN4 HB4 KT1 c1 c2 c3
  go_wp2_with (first | ((with_reducible refine wl_load 33 (.tmp 3) ?_ g 0 ?_ ?_ V _ S5.out Tryz.underlying33 ?_ hIV ?_); exact rfl; exact rfl; exact rfl; exact rfl))
  refine (KT2.out _ HP5.out HN5.out).mono ?_
  rintro e w6 ⟨rfl, hb⟩
  have HB6 := hid (below_two HB5.out hb)
  clear hb
  go_wp2
  go_ret
  exact ⟨rfl, HB6.out⟩
end Go.Proofs.YtpnnibddjopniaaGreatDoor.Ms
