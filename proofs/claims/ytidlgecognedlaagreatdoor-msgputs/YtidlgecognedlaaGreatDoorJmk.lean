/-
  Who makes the fields of a message.
-/
import Derived.Test.YtidlgecognedlaaGreatDoorJcl
namespace Go.Proofs.YtidlgecognedlaaGreatDoor.Ms
open Go Go.RowKit
set_option maxRecDepth 100000

theorem four_rows (w : World) (A B C D : Obj) : ((((w.alloc A).alloc B).alloc C).alloc D).heap[w.heap.size]? = some A ∧ ((((w.alloc A).alloc B).alloc C).alloc D).heap[w.heap.size + 1]? = some B ∧ ((((w.alloc A).alloc B).alloc C).alloc D).heap[w.heap.size + 1 + 1]? = some C :=
  ⟨row_kept (three_low w A B C) (below_a1 _ D), row_kept (three_mid w A B C) (below_a1 _ D), row_kept (three_top w A B C) (below_a1 _ D)⟩
theorem four_below (w : World) (A B C D : Obj) : Below w.heap.size w ((((w.alloc A).alloc B).alloc C).alloc D) := below_two (below_two (below_two (below_a1 w A) (below_a1 _ B)) (below_a1 _ C)) (below_a1 _ D)
theorem sizeFld : (Tryz.prog.info? 147).map (·.size) = some 3 := by kernel_rfl
theorem one_fld (k : Slot) (b : Bx) : ∀ v ∈ fieldV k b, v.oneCell' = true := by
  intro v hv
  simp only [fieldV, List.mem_cons, List.not_mem_nil, or_false] at hv
  rcases hv with rfl | rfl | rfl <;> rfl

set_option maxHeartbeats 2000000 in
theorem fo_num (g off : Nat) (w : World) : Calls Tryz.prog 131 #[ptr g off, fnV 40, fnV 96] w fun e w' => ∃ b, e = .returned (.agg (fieldV .num b).toArray) ∧ FieldAt w' .num g off b ∧ Below w.heap.size w w' := by
  go_enter Tryz.func131, Tryz.ntmps131
  go_wp2
  go_returns
  obtain ⟨r1, r2, r3⟩ := four_rows w (.cells #[ptr g off] 153) (.cells #[fnV 40] 59) (.cells #[fnV 96] 165) _
  exact ⟨⟨w.heap.size, w.heap.size + 1, w.heap.size + 1 + 1⟩, rfl, ⟨r1, r2, r3⟩, four_below _ _ _ _ _⟩

set_option maxHeartbeats 2000000 in
theorem mk_num (g off : Nat) (w : World) : Calls Tryz.prog 91 #[ptr g off] w fun e w' => ∃ b, e = .returned (.agg (fieldV .num b).toArray) ∧ FieldAt w' .num g off b ∧ Below w.heap.size w w' := by
  have HB0 := hid (below_a1 w (.cells #[.nilFunc, .nilFunc, .nilFunc] 147))
  have R0 := hid (top_obj w (.cells #[.nilFunc, .nilFunc, .nilFunc] 147))
  have HC := hid (fo_num g off (w.alloc (.cells #[.nilFunc, .nilFunc, .nilFunc] 147)))
  go_enter Tryz.func91, Tryz.ntmps91
  go_upto_region 1 with fail
  generalize w.alloc (.cells #[.nilFunc, .nilFunc, .nilFunc] 147) = W0 at *
  go_wp2_with fail
  refine HC.out.mono ?_
  rintro e w1 ⟨b, rfl, hF, hb⟩
  have HB1 := hid (below_two HB0.out hb)
  have R1 : Hid (w1.heap[w.heap.size]? = some (.cells ([] ++ ([Value.nilFunc, Value.nilFunc, Value.nilFunc] ++ [])).toArray 147)) := row_kept R0.out hb
  have HF := hid hF
  have HO := hid (one_fld .num b)
  have hL : ([.nilFunc, .nilFunc, .nilFunc] : List Value).length = (fieldV .num b).length := rfl
  have hI : (Tryz.prog.info? 147).map (·.size) = some (fieldV .num b).length := sizeFld
  have HTy : Hid (b.x ≠ w.heap.size ∧ b.q ≠ w.heap.size ∧ b.r ≠ w.heap.size) := by
    have h0 := R1.out
    refine ⟨fun e => ?_, fun e => ?_, fun e => ?_⟩
    · have h1 := hF.hx
      rw [e, h0] at h1
      injection h1 with h1
      injection h1 with _ h1
      cases h1
    · have h1 := hF.hq
      rw [e, h0] at h1
      injection h1 with h1
      injection h1 with _ h1
      cases h1
    · have h1 := hF.hr
      rw [e, h0] at h1
      injection h1 with h1
      injection h1 with _ h1
      cases h1
  generalize hV : fieldV .num b = V at *
  have HV := hid hV
  clear hV
  clear hb hF HC R0 HB0
  go_wp2_with (first | ((with_reducible refine wl_put 147 (.tmp 2) (.tmp 4) ?_ ?_ w.heap.size 0 ?_ ?_ [] V [.nilFunc, .nilFunc, .nilFunc] [] ?_ 147 R1.out rfl hL HO.out hI ?_); exact rfl; exact rfl; exact rfl; exact rfl; exact rfl; intro w4 hr4 hbut))
  have hr5 : w4.heap[w.heap.size]? = some (.cells V.toArray 147) := by simpa using hr4
  refine bodyPost_ret_by (results_row (fn := Tryz.f91) (p := 2) (ty := 147) (by kernel_rfl) _ _ w.heap.size 147 V.toArray (0, 0) _ rfl hr5 Tryz.underlying147 rfl (by rw [List.size_toArray]; exact hI)) rfl ?_
  have hF := HF.out
  obtain ⟨t1, t2, t3⟩ := HTy.out
  exact ⟨b, by rw [HV.out], ⟨hbut.row hF.hx t1, hbut.row hF.hq t2, hbut.row hF.hr t3⟩, hbut.below HB1.out (Nat.le_refl _)⟩

set_option maxHeartbeats 2000000 in
theorem fo_txt (g off : Nat) (w : World) : Calls Tryz.prog 132 #[ptr g off, fnV 133, fnV 134] w fun e w' => ∃ b, e = .returned (.agg (fieldV .txt b).toArray) ∧ FieldAt w' .txt g off b ∧ Below w.heap.size w w' := by
  go_enter Tryz.func132, Tryz.ntmps132
  go_wp2
  go_returns
  obtain ⟨r1, r2, r3⟩ := four_rows w (.cells #[ptr g off] 156) (.cells #[fnV 133] 103) (.cells #[fnV 134] 201) _
  exact ⟨⟨w.heap.size, w.heap.size + 1, w.heap.size + 1 + 1⟩, rfl, ⟨r1, r2, r3⟩, four_below _ _ _ _ _⟩

set_option maxHeartbeats 2000000 in
theorem mk_txt (g off : Nat) (w : World) : Calls Tryz.prog 92 #[ptr g off] w fun e w' => ∃ b, e = .returned (.agg (fieldV .txt b).toArray) ∧ FieldAt w' .txt g off b ∧ Below w.heap.size w w' := by
  have HB0 := hid (below_a1 w (.cells #[.nilFunc, .nilFunc, .nilFunc] 147))
  have R0 := hid (top_obj w (.cells #[.nilFunc, .nilFunc, .nilFunc] 147))
  have HC := hid (fo_txt g off (w.alloc (.cells #[.nilFunc, .nilFunc, .nilFunc] 147)))
  go_enter Tryz.func92, Tryz.ntmps92
  go_upto_region 1 with fail
  generalize w.alloc (.cells #[.nilFunc, .nilFunc, .nilFunc] 147) = W0 at *
  go_wp2_with fail
  refine HC.out.mono ?_
  rintro e w1 ⟨b, rfl, hF, hb⟩
  have HB1 := hid (below_two HB0.out hb)
  have R1 : Hid (w1.heap[w.heap.size]? = some (.cells ([] ++ ([Value.nilFunc, Value.nilFunc, Value.nilFunc] ++ [])).toArray 147)) := row_kept R0.out hb
  have HF := hid hF
  have HO := hid (one_fld .txt b)
  have hL : ([.nilFunc, .nilFunc, .nilFunc] : List Value).length = (fieldV .txt b).length := rfl
  have hI : (Tryz.prog.info? 147).map (·.size) = some (fieldV .txt b).length := sizeFld
  have HTy : Hid (b.x ≠ w.heap.size ∧ b.q ≠ w.heap.size ∧ b.r ≠ w.heap.size) := by
    have h0 := R1.out
    refine ⟨fun e => ?_, fun e => ?_, fun e => ?_⟩
    · have h1 := hF.hx
      rw [e, h0] at h1
      injection h1 with h1
      injection h1 with _ h1
      cases h1
    · have h1 := hF.hq
      rw [e, h0] at h1
      injection h1 with h1
      injection h1 with _ h1
      cases h1
    · have h1 := hF.hr
      rw [e, h0] at h1
      injection h1 with h1
      injection h1 with _ h1
      cases h1
  generalize hV : fieldV .txt b = V at *
  have HV := hid hV
  clear hV
  clear hb hF HC R0 HB0
  go_wp2_with (first | ((with_reducible refine wl_put 147 (.tmp 2) (.tmp 4) ?_ ?_ w.heap.size 0 ?_ ?_ [] V [.nilFunc, .nilFunc, .nilFunc] [] ?_ 147 R1.out rfl hL HO.out hI ?_); exact rfl; exact rfl; exact rfl; exact rfl; exact rfl; intro w4 hr4 hbut))
  have hr5 : w4.heap[w.heap.size]? = some (.cells V.toArray 147) := by simpa using hr4
  refine bodyPost_ret_by (results_row (fn := Tryz.f92) (p := 2) (ty := 147) (by kernel_rfl) _ _ w.heap.size 147 V.toArray (0, 0) _ rfl hr5 Tryz.underlying147 rfl (by rw [List.size_toArray]; exact hI)) rfl ?_
  have hF := HF.out
  obtain ⟨t1, t2, t3⟩ := HTy.out
  exact ⟨b, by rw [HV.out], ⟨hbut.row hF.hx t1, hbut.row hF.hq t2, hbut.row hF.hr t3⟩, hbut.below HB1.out (Nat.le_refl _)⟩

set_option maxHeartbeats 2000000 in
theorem fo_dig (g off : Nat) (w : World) : Calls Tryz.prog 135 #[ptr g off, fnV 136, fnV 137] w fun e w' => ∃ b, e = .returned (.agg (fieldV .dig b).toArray) ∧ FieldAt w' .dig g off b ∧ Below w.heap.size w w' := by
  go_enter Tryz.func135, Tryz.ntmps135
  go_wp2
  go_returns
  obtain ⟨r1, r2, r3⟩ := four_rows w (.cells #[ptr g off] 158) (.cells #[fnV 136] 101) (.cells #[fnV 137] 203) _
  exact ⟨⟨w.heap.size, w.heap.size + 1, w.heap.size + 1 + 1⟩, rfl, ⟨r1, r2, r3⟩, four_below _ _ _ _ _⟩

set_option maxHeartbeats 2000000 in
theorem mk_dig (g off : Nat) (w : World) : Calls Tryz.prog 93 #[ptr g off] w fun e w' => ∃ b, e = .returned (.agg (fieldV .dig b).toArray) ∧ FieldAt w' .dig g off b ∧ Below w.heap.size w w' := by
  have HB0 := hid (below_a1 w (.cells #[.nilFunc, .nilFunc, .nilFunc] 147))
  have R0 := hid (top_obj w (.cells #[.nilFunc, .nilFunc, .nilFunc] 147))
  have HC := hid (fo_dig g off (w.alloc (.cells #[.nilFunc, .nilFunc, .nilFunc] 147)))
  go_enter Tryz.func93, Tryz.ntmps93
  go_upto_region 1 with fail
  generalize w.alloc (.cells #[.nilFunc, .nilFunc, .nilFunc] 147) = W0 at *
  go_wp2_with fail
  refine HC.out.mono ?_
  rintro e w1 ⟨b, rfl, hF, hb⟩
  have HB1 := hid (below_two HB0.out hb)
  have R1 : Hid (w1.heap[w.heap.size]? = some (.cells ([] ++ ([Value.nilFunc, Value.nilFunc, Value.nilFunc] ++ [])).toArray 147)) := row_kept R0.out hb
  have HF := hid hF
  have HO := hid (one_fld .dig b)
  have hL : ([.nilFunc, .nilFunc, .nilFunc] : List Value).length = (fieldV .dig b).length := rfl
  have hI : (Tryz.prog.info? 147).map (·.size) = some (fieldV .dig b).length := sizeFld
  have HTy : Hid (b.x ≠ w.heap.size ∧ b.q ≠ w.heap.size ∧ b.r ≠ w.heap.size) := by
    have h0 := R1.out
    refine ⟨fun e => ?_, fun e => ?_, fun e => ?_⟩
    · have h1 := hF.hx
      rw [e, h0] at h1
      injection h1 with h1
      injection h1 with _ h1
      cases h1
    · have h1 := hF.hq
      rw [e, h0] at h1
      injection h1 with h1
      injection h1 with _ h1
      cases h1
    · have h1 := hF.hr
      rw [e, h0] at h1
      injection h1 with h1
      injection h1 with _ h1
      cases h1
  generalize hV : fieldV .dig b = V at *
  have HV := hid hV
  clear hV
  clear hb hF HC R0 HB0
  go_wp2_with (first | ((with_reducible refine wl_put 147 (.tmp 2) (.tmp 4) ?_ ?_ w.heap.size 0 ?_ ?_ [] V [.nilFunc, .nilFunc, .nilFunc] [] ?_ 147 R1.out rfl hL HO.out hI ?_); exact rfl; exact rfl; exact rfl; exact rfl; exact rfl; intro w4 hr4 hbut))
  have hr5 : w4.heap[w.heap.size]? = some (.cells V.toArray 147) := by simpa using hr4
  refine bodyPost_ret_by (results_row (fn := Tryz.f93) (p := 2) (ty := 147) (by kernel_rfl) _ _ w.heap.size 147 V.toArray (0, 0) _ rfl hr5 Tryz.underlying147 rfl (by rw [List.size_toArray]; exact hI)) rfl ?_
  have hF := HF.out
  obtain ⟨t1, t2, t3⟩ := HTy.out
  exact ⟨b, by rw [HV.out], ⟨hbut.row hF.hx t1, hbut.row hF.hq t2, hbut.row hF.hr t3⟩, hbut.below HB1.out (Nat.le_refl _)⟩

set_option maxHeartbeats 2000000 in
theorem fo_nums (g off : Nat) (w : World) : Calls Tryz.prog 139 #[ptr g off, fnV 140, fnV 141] w fun e w' => ∃ b, e = .returned (.agg (fieldV .nums b).toArray) ∧ FieldAt w' .nums g off b ∧ Below w.heap.size w w' := by
  go_enter Tryz.func139, Tryz.ntmps139
  go_wp2
  go_returns
  obtain ⟨r1, r2, r3⟩ := four_rows w (.cells #[ptr g off] 163) (.cells #[fnV 140] 102) (.cells #[fnV 141] 207) _
  exact ⟨⟨w.heap.size, w.heap.size + 1, w.heap.size + 1 + 1⟩, rfl, ⟨r1, r2, r3⟩, four_below _ _ _ _ _⟩

set_option maxHeartbeats 2000000 in
theorem mk_nums (g off : Nat) (w : World) : Calls Tryz.prog 95 #[ptr g off] w fun e w' => ∃ b, e = .returned (.agg (fieldV .nums b).toArray) ∧ FieldAt w' .nums g off b ∧ Below w.heap.size w w' := by
  have HB0 := hid (below_a1 w (.cells #[.nilFunc, .nilFunc, .nilFunc] 147))
  have R0 := hid (top_obj w (.cells #[.nilFunc, .nilFunc, .nilFunc] 147))
  have HC := hid (fo_nums g off (w.alloc (.cells #[.nilFunc, .nilFunc, .nilFunc] 147)))
  go_enter Tryz.func95, Tryz.ntmps95
  go_upto_region 1 with fail
  generalize w.alloc (.cells #[.nilFunc, .nilFunc, .nilFunc] 147) = W0 at *
  go_wp2_with fail
  refine HC.out.mono ?_
  rintro e w1 ⟨b, rfl, hF, hb⟩
  have HB1 := hid (below_two HB0.out hb)
  have R1 : Hid (w1.heap[w.heap.size]? = some (.cells ([] ++ ([Value.nilFunc, Value.nilFunc, Value.nilFunc] ++ [])).toArray 147)) := row_kept R0.out hb
  have HF := hid hF
  have HO := hid (one_fld .nums b)
  have hL : ([.nilFunc, .nilFunc, .nilFunc] : List Value).length = (fieldV .nums b).length := rfl
  have hI : (Tryz.prog.info? 147).map (·.size) = some (fieldV .nums b).length := sizeFld
  have HTy : Hid (b.x ≠ w.heap.size ∧ b.q ≠ w.heap.size ∧ b.r ≠ w.heap.size) := by
    have h0 := R1.out
    refine ⟨fun e => ?_, fun e => ?_, fun e => ?_⟩
    · have h1 := hF.hx
      rw [e, h0] at h1
      injection h1 with h1
      injection h1 with _ h1
      cases h1
    · have h1 := hF.hq
      rw [e, h0] at h1
      injection h1 with h1
      injection h1 with _ h1
      cases h1
    · have h1 := hF.hr
      rw [e, h0] at h1
      injection h1 with h1
      injection h1 with _ h1
      cases h1
  generalize hV : fieldV .nums b = V at *
  have HV := hid hV
  clear hV
  clear hb hF HC R0 HB0
  go_wp2_with (first | ((with_reducible refine wl_put 147 (.tmp 2) (.tmp 4) ?_ ?_ w.heap.size 0 ?_ ?_ [] V [.nilFunc, .nilFunc, .nilFunc] [] ?_ 147 R1.out rfl hL HO.out hI ?_); exact rfl; exact rfl; exact rfl; exact rfl; exact rfl; intro w4 hr4 hbut))
  have hr5 : w4.heap[w.heap.size]? = some (.cells V.toArray 147) := by simpa using hr4
  refine bodyPost_ret_by (results_row (fn := Tryz.f95) (p := 2) (ty := 147) (by kernel_rfl) _ _ w.heap.size 147 V.toArray (0, 0) _ rfl hr5 Tryz.underlying147 rfl (by rw [List.size_toArray]; exact hI)) rfl ?_
  have hF := HF.out
  obtain ⟨t1, t2, t3⟩ := HTy.out
  exact ⟨b, by rw [HV.out], ⟨hbut.row hF.hx t1, hbut.row hF.hq t2, hbut.row hF.hr t3⟩, hbut.below HB1.out (Nat.le_refl _)⟩

set_option maxHeartbeats 2000000 in
theorem fo_pens (g off : Nat) (w : World) : Calls Tryz.prog 180 #[ptr g off, fnV 181, fnV 182] w fun e w' => ∃ b, e = .returned (.agg (fieldV .pens b).toArray) ∧ FieldAt w' .pens g off b ∧ Below w.heap.size w w' := by
  go_enter Tryz.func180, Tryz.ntmps180
  go_wp2
  go_returns
  obtain ⟨r1, r2, r3⟩ := four_rows w (.cells #[ptr g off] 205) (.cells #[fnV 181] 234) (.cells #[fnV 182] 235) _
  exact ⟨⟨w.heap.size, w.heap.size + 1, w.heap.size + 1 + 1⟩, rfl, ⟨r1, r2, r3⟩, four_below _ _ _ _ _⟩

set_option maxHeartbeats 2000000 in
theorem mk_pens (g off : Nat) (w : World) : Calls Tryz.prog 138 #[ptr g off] w fun e w' => ∃ b, e = .returned (.agg (fieldV .pens b).toArray) ∧ FieldAt w' .pens g off b ∧ Below w.heap.size w w' := by
  have HB0 := hid (below_a1 w (.cells #[.nilFunc, .nilFunc, .nilFunc] 147))
  have R0 := hid (top_obj w (.cells #[.nilFunc, .nilFunc, .nilFunc] 147))
  have HC := hid (fo_pens g off (w.alloc (.cells #[.nilFunc, .nilFunc, .nilFunc] 147)))
  go_enter Tryz.func138, Tryz.ntmps138
  go_upto_region 1 with fail
  generalize w.alloc (.cells #[.nilFunc, .nilFunc, .nilFunc] 147) = W0 at *
  go_wp2_with fail
  refine HC.out.mono ?_
  rintro e w1 ⟨b, rfl, hF, hb⟩
  have HB1 := hid (below_two HB0.out hb)
  have R1 : Hid (w1.heap[w.heap.size]? = some (.cells ([] ++ ([Value.nilFunc, Value.nilFunc, Value.nilFunc] ++ [])).toArray 147)) := row_kept R0.out hb
  have HF := hid hF
  have HO := hid (one_fld .pens b)
  have hL : ([.nilFunc, .nilFunc, .nilFunc] : List Value).length = (fieldV .pens b).length := rfl
  have hI : (Tryz.prog.info? 147).map (·.size) = some (fieldV .pens b).length := sizeFld
  have HTy : Hid (b.x ≠ w.heap.size ∧ b.q ≠ w.heap.size ∧ b.r ≠ w.heap.size) := by
    have h0 := R1.out
    refine ⟨fun e => ?_, fun e => ?_, fun e => ?_⟩
    · have h1 := hF.hx
      rw [e, h0] at h1
      injection h1 with h1
      injection h1 with _ h1
      cases h1
    · have h1 := hF.hq
      rw [e, h0] at h1
      injection h1 with h1
      injection h1 with _ h1
      cases h1
    · have h1 := hF.hr
      rw [e, h0] at h1
      injection h1 with h1
      injection h1 with _ h1
      cases h1
  generalize hV : fieldV .pens b = V at *
  have HV := hid hV
  clear hV
  clear hb hF HC R0 HB0
  go_wp2_with (first | ((with_reducible refine wl_put 147 (.tmp 2) (.tmp 4) ?_ ?_ w.heap.size 0 ?_ ?_ [] V [.nilFunc, .nilFunc, .nilFunc] [] ?_ 147 R1.out rfl hL HO.out hI ?_); exact rfl; exact rfl; exact rfl; exact rfl; exact rfl; intro w4 hr4 hbut))
  have hr5 : w4.heap[w.heap.size]? = some (.cells V.toArray 147) := by simpa using hr4
  refine bodyPost_ret_by (results_row (fn := Tryz.f138) (p := 2) (ty := 147) (by kernel_rfl) _ _ w.heap.size 147 V.toArray (0, 0) _ rfl hr5 Tryz.underlying147 rfl (by rw [List.size_toArray]; exact hI)) rfl ?_
  have hF := HF.out
  obtain ⟨t1, t2, t3⟩ := HTy.out
  exact ⟨b, by rw [HV.out], ⟨hbut.row hF.hx t1, hbut.row hF.hq t2, hbut.row hF.hr t3⟩, hbut.below HB1.out (Nat.le_refl _)⟩
end Go.Proofs.YtidlgecognedlaaGreatDoor.Ms
