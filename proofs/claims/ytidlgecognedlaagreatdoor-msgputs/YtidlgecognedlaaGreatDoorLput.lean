/-
  MsgPuts answers true at every input. The package variables that are listed hold what the program's text lays (the card ties them).
-/
import Derived.Test.YtidlgecognedlaaGreatDoorGpx
import Derived.Test.YtidlgecognedlaaGreatDoorJrz
import Derived.Test.YtidlgecognedlaaGreatDoorGfl
import Derived.Test.YtidlgecognedlaaGreatDoorGfb
import Derived.Test.YtidlgecognedlaaGreatDoorRows
import Derived.ProofKit
import Derived.OpenShut
import Derived.Deep.Slices
import Derived.Test.YtidlgecognedlaaGreatDoorLnum
import Derived.LaidMore
import Derived.Stop.Joined
import Derived.Stop.LaidErr
import Derived.Lib.LaidTab
import Derived.Test.YtidlgecognedlaaGreatDoorCards
import Derived.Test.YtidlgecognedlaaGreatDoorTie
import Derived.SevenTiedAt
import Derived.SizedLaws
namespace Go.Proofs.YtidlgecognedlaaGreatDoor.Ms
open Go Go.RowKit
set_option maxRecDepth 100000

theorem build_zero (W : World) : (Instr.build 33 #[]).run Tryz.prog W = .ok (.agg (msgC (zeroM 0 0) (.slice none 0 0) (.slice none 0 0)).toArray) W := by kernel_rfl
theorem zero_zero : (msgC (zeroM 0 0) (.slice none 0 0) (.slice none 0 0)).toArray = Tryz.zeroCells33 := by kernel_rfl
theorem results_rowt {P : Program} {fn : Func} {p u : Tmp} {ty : TypeId} (h : fn.results = #[.cell p ty, .tmp u]) (tmps : Array Value) (w : World) (g : Nat) (t : TypeId) (cs : Array Value) (fr : Nat × Nat) (d : TypeDesc)
    (hp : tmps.getD p undef = .pointer (some ⟨g, 0, none⟩)) (hg : w.heap[g]? = some (.cells cs t fr))
    (hu : P.underlying ty = some d) (hd : (match d with | .struct _ | .array _ _ => true | _ => false) = true) (hi : (P.info? ty).map (·.size) = some cs.size) :
    (results fn tmps).run P w = .ok (.tuple #[.agg cs, tmps.getD u undef]) w := by
  have hp' : tmps[p]?.getD undef = .pointer (some ⟨g, 0, none⟩) := by simpa using hp
  simp [results, h, hp', asAddr, run_loadVar_row w g t ty cs fr d hg hu hd hi]
/-- A message as an answer. -/
def MsgV (w : World) (v : Value) (m : Msg) : Prop := ∃ vP vN, v = .agg (msgC m vP vN).toArray ∧ PensAt w vP m.rep.pend ∧ IntsAt w vN m.nums ∧ Lens m
theorem zeroV (w : World) : MsgV w (.agg (msgC (zeroM 0 0) (.slice none 0 0) (.slice none 0 0)).toArray) (zeroM 0 0) := ⟨_, _, rfl, PensAt.nil w, IntsAt.nil w, Nat.zero_le _, Nat.zero_le _⟩
theorem getM_a {s : List UInt8} (h : (Lay.readNum s).1 ≠ 0) : getM s = ((Lay.readNum s).1, zeroM 0 0) := by unfold getM; rw [if_pos h]
def rdM (s : List UInt8) : Nat × Msg × Nat := rdAll rdVal (fieldsM (Lay.readNum s).2.1) (zeroM (Lay.readNum s).2.1 0) s (Lay.readNum s).2.2
theorem getM_b {s : List UInt8} (h : (Lay.readNum s).1 = 0) (h2 : (rdM s).1 ≠ 0) : getM s = ((rdM s).1, zeroM 0 0) := by unfold rdM at *; unfold getM; rw [if_neg (by omega), if_pos h2]
theorem getM_c {s : List UInt8} (h : (Lay.readNum s).1 = 0) (h2 : (rdM s).1 = 0) (h3 : (rdM s).2.2 < s.length ∨ mayB (rdM s).2.1 = false) : getM s = (6, zeroM 0 0) := by
  unfold rdM at *
  unfold getM
  rw [if_neg (by omega), if_neg (by omega), if_pos h3]
theorem getM_d {s : List UInt8} (h : (Lay.readNum s).1 = 0) (h2 : (rdM s).1 = 0) (h3 : ¬ (rdM s).2.2 < s.length) (h4 : mayB (rdM s).2.1 = true) : getM s = (0, (rdM s).2.1) := by
  unfold rdM at *
  unfold getM
  rw [if_neg (by omega), if_neg (by omega), if_neg (by rintro (h5 | h5); exact h3 h5; rw [h4] at h5; cases h5)]
/-- What is asked of the parts where what is pending comes. -/
structure PenOk (k : Int) : Prop where
  read : k = 2 → ReadOne .pens
  may : k = 2 → ∀ r : Rep, r.Wf → RepOk r

set_option maxHeartbeats 8000000 in
theorem get_any (s : List UInt8) (hs : s.length ≤ 281474976710656) (hP : PenOk (Lay.readNum s).2.1) (w : World) (ht : Tb w) :
    Calls Tryz.prog 50 #[st s] w fun e w' => ∃ v, e = .returned (.tuple #[v, nu (getM s).1]) ∧ MsgV w' v (getM s).2 ∧ Below w.heap.size w w' := by
  have HZ := zeroMsg
  have HZA := hid zero_zero
  have HOZ := hid (one_msg (zeroM 0 0) (.slice none 0 0) (.slice none 0 0) rfl rfl)
  have hIZ : (Tryz.prog.info? 33).map (·.size) = some (msgC (zeroM 0 0) (.slice none 0 0) (.slice none 0 0)).length := by rw [msgC_len (zeroM_wf 0 0)]; exact sizeMsg
  have HZl : Hid ((msgC (zeroM 0 0) (.slice none 0 0) (.slice none 0 0)).length = 275) := msgC_len (zeroM_wf 0 0) _ _
  have HZV := hid zeroV
  obtain ⟨Z, hZ⟩ : ∃ Z, Z = msgC (zeroM 0 0) (.slice none 0 0) (.slice none 0 0) := ⟨_, rfl⟩
  rw [← hZ] at HZ HZA HOZ hIZ HZl HZV
  clear hZ
  have HB0 := hid (below_a1 w (.cells Z.toArray 33))
  have R0 := hid (row_plain (top_obj w (.cells Z.toArray 33)))
  have HRd := hid (Lay.readNumber_any ⟨s.toArray⟩ 0 (Nat.zero_le _) hs (w.alloc (.cells Z.toArray 33)) (ht.stays HB0.out) s rfl)
  have HT := hid (fun (W : World) (h : Below w.heap.size w W) => ht.stays h)
  have HTn := hid (fun (g : Nat) (h : w.heap.size ≤ g) => tn_of ht h)
  clear ht
  by_cases h1 : (Lay.readNum s).1 = 0
  · have hto : Lay.numTo 0 s = (Lay.readNum s).2.2 := by unfold Lay.numTo; rw [if_pos h1, Nat.zero_add]
    rw [hto, h1] at HRd
    obtain ⟨-, hle, hk64⟩ := readNum_fits s h1
    have KF := hid (fun (g : Nat) (W : World) (h : W.cell? ⟨g, 0, none⟩ = some (nu (Lay.readNum s).2.1)) => fieldsof_form g (Lay.readNum s).2.1 _ rfl W h)
    have KR := hid (fun (g : Nat) (W : World) (v : Value) (h1 : FieldsAt W v g (spots 0 (fieldsM (Lay.readNum s).2.1))) (h2 : MsgAt [w.heap.size] g (zeroM (Lay.readNum s).2.1 0) W) (h3 : Tb W) (h4 : Tn g) => readall_any (msg_hold [w.heap.size] g (Lay.readNum s).2.1) (read_all _ hP.read) h1 h2 s (Lay.readNum s).2.2 hle hs (fields_len _) h3 h4)
    have HStay := hid (fun (g : Nat) (y : Msg) (W W' : World) (h : MsgAt [w.heap.size] g y W) (hb : Below W.heap.size W W') => (msg_hold [w.heap.size] g (Lay.readNum s).2.1).stay y W W' h hb)
    have HMk := hid (fun (W : World) (h : w.heap.size < W.heap.size) => box_zero [w.heap.size] (w := W) (Lay.readNum s).2.1 hk64 (by simpa using h))
    have HM0k : Hid ((zeroM (Lay.readNum s).2.1 0).kind = (Lay.readNum s).2.1) := by show _ = _; rfl
    have HKA := hid (zero_kind (Lay.readNum s).2.1)
    have HOK := hid (one_msg (zeroM (Lay.readNum s).2.1 0) (.slice none 0 0) (.slice none 0 0) rfl rfl)
    have HKl : Hid ((msgC (zeroM (Lay.readNum s).2.1 0) (.slice none 0 0) (.slice none 0 0)).length = 275) := msgC_len (zeroM_wf _ 0) _ _
    have HRdM : Hid (rdAll rdVal (fieldsM (Lay.readNum s).2.1) (zeroM (Lay.readNum s).2.1 0) s (Lay.readNum s).2.2 = rdM s) := by show _ = _; rfl
    have HKd : Hid ((rdM s).1 = 0 → (rdM s).2.1.kind = (Lay.readNum s).2.1) := by
      intro h
      obtain ⟨c, -, -, h3, -⟩ := rd_fits (Lay.readNum s).2.1 (zeroM (Lay.readNum s).2.1 0) (zeroM_wf _ 0) (zeroM_rng _ 0 hk64 i64_zero) s (Lay.readNum s).2.2 hle h
      exact h3
    have HB2a := hid (fun h => @getM_b s h1 h)
    have HB2c := hid (fun h h' => @getM_c s h1 h h')
    have HB2d := hid (fun h h' h'' => @getM_d s h1 h h' h'')
    rw [HRdM.out] at KR
    obtain ⟨KZ, hKZ⟩ : ∃ KZ, KZ = msgC (zeroM (Lay.readNum s).2.1 0) (.slice none 0 0) (.slice none 0 0) := ⟨_, rfl⟩
    rw [← hKZ] at HMk HOK HKl HKA
    have HPen := hid hP
    clear hKZ HRdM h1 hto hle hk64 hP
    generalize zeroM (Lay.readNum s).2.1 0 = m0 at *
    generalize fieldsM (Lay.readNum s).2.1 = fs at *
    generalize (Lay.readNum s).2.1 = kk at *
    generalize (Lay.readNum s).2.2 = p0 at *
    have hIKZ : (Tryz.prog.info? 33).map (·.size) = some KZ.length := by rw [HKl.out]; exact sizeMsg
    have hLKZ : Z.length = KZ.length := HZl.out.trans HKl.out.symm
    have hss : (⟨s.toArray⟩ : ByteArray).size = s.length := rfl
    go_enter Tryz.func50, Tryz.ntmps50
    go_upto_region 1 with (first | ((with_reducible refine wl_alloc 33 ?_ ?_ Z.toArray HZ ?_); exact rfl; exact rfl))
    generalize w.alloc (.cells Z.toArray 33) = W0 at *
    go_wp2_with fail
    refine HRd.out.mono ?_
    rintro e w1 ⟨rfl, hb⟩
    have HB1 := hid (below_two HB0.out hb)
    have R1 := hid (row_kept R0.out hb)
    clear hb HRd R0 HB0
    have HB2 := hid (below_two HB1.out (below_a1 w1 (.cells KZ.toArray 33)))
    have R2 := hid (row_kept R1.out (below_a1 w1 (.cells KZ.toArray 33)))
    have hlt1 : w.heap.size < w1.heap.size := (Array.getElem?_eq_some_iff.1 R1.out).1
    have HM2 := hid (HMk.out w1 hlt1)
    go_upto_region 5 with (first | ((with_reducible refine wl_alloc 33 ?_ ?_ Z.toArray HZ ?_); exact rfl; exact rfl) | ((with_reducible refine wl_store_top 33 (.tmp 7) (.tmp 19) ?_ ?_ ?_ ?_ KZ Z ?_ 33 hLKZ HOK.out hIKZ ?_); exact rfl; exact rfl; exact rfl; exact rfl; exact congrArg Value.agg HKA.out.symm))
    have hgw : w.heap.size ≤ w1.heap.size := HB1.out.size
    have hgl := hlt1
    obtain ⟨g, hg⟩ : ∃ g, g = w1.heap.size := ⟨_, rfl⟩
    generalize w1.alloc (.cells KZ.toArray 33) = W2 at *
    rw [← hg] at HM2 hgw hgl ⊢
    clear hg HB1 R1 HMk HOK hIKZ hLKZ HKl HKA hlt1
    have ck2 := HM2.out.cell_kind
    rw [HM0k.out] at ck2
    go_wp2_with fail
    refine (KF.out g _ ck2).mono ?_
    rintro e w3 ⟨av, rfl, hv, hb⟩
    have HV := hid hv
    have HB3 := hid (below_two HB2.out hb)
    have R3 := hid (row_kept R2.out hb)
    have HM3 := hid (HStay.out g _ _ _ HM2.out hb)
    clear hb hv HB2 R2 HM2 KF ck2
    go_wp2_with fail
    refine (KR.out g _ _ HV.out HM3.out (HT.out _ HB3.out) (HTn.out g hgw)).mono ?_
    rintro e w4 ⟨rfl, hk4, hI4⟩
    have HB4 := hid (hk4.below HB3.out hgw)
    have R4 := hid (hk4.row R3.out (by omega))
    have HI4 := hid hI4
    clear hk4 hI4 HV HM3 HB3 R3 KR HStay HT HTn
    generalize (rdM s).2.2 = at2 at *
    by_cases h2 : (rdM s).1 = 0
    · have HMM := hid (HI4.out h2)
      have HKd2 := hid (HKd.out h2)
      have HC := hid (HB2c.out h2)
      have HD := hid (HB2d.out h2)
      rw [h2]
      clear HI4 HKd HB2a HB2c HB2d h2
      generalize (rdM s).2.1 = mm at *
      by_cases h3 : at2 < s.length
      · as_aux_lemma =>
        have HG := hid (HC.out (.inl h3))
        have d3 : decide ((at2 : Int) < (s.length : Int)) = true := decide_eq_true (by omega)
        have d3' : decide (at2 < s.length) = true := decide_eq_true h3
        clear HC HD HMM HKd2 h3
        go_wp2_with (first | ((with_reducible refine wl_put 33 (.tmp 2) (.tmp 40) ?_ ?_ w.heap.size 0 ?_ ?_ [] Z Z [] ?_ 33 R4.out rfl rfl HOZ.out hIZ ?_); exact rfl; exact rfl; exact rfl; exact rfl; exact congrArg Value.agg HZA.out.symm; intro w9 hr9 hbut))
        have hr5 : w9.heap[w.heap.size]? = some (.cells Z.toArray 33) := by simpa using hr9
        have HB6 := hid (hbut.below HB4.out (Nat.le_refl _))
        refine bodyPost_ret_by (results_rowt (fn := Tryz.f50) (p := 2) (u := 3) (ty := 33) (by kernel_rfl) _ _ w.heap.size 33 Z.toArray (0, 0) _ rfl hr5 Tryz.underlying33 rfl (by rw [List.size_toArray]; exact hIZ)) rfl ?_
        rw [HG.out]
        exact ⟨_, rfl, HZV.out _, HB6.out⟩
      · obtain ⟨vP, vN, hrow, hpp, hnn, haP, haN⟩ := HMM.out.row
        have hwf := HMM.out.wf
        have K9 := hid (maybe_any hwf HMM.out.rng hpp hnn HMM.out.len (fun h => HPen.out.may (HKd2.out.symm.trans h) _ hwf.rep))
        have d3 : decide ((at2 : Int) < (s.length : Int)) = false := decide_eq_false (by omega)
        have d3' : decide (at2 < s.length) = false := decide_eq_false h3
        have hIV : (Tryz.prog.info? 33).map (·.size) = some (msgC mm vP vN).length := by rw [msgC_len hwf]; exact sizeMsg
        have hLV : Z.length = (msgC mm vP vN).length := HZl.out.trans (msgC_len hwf _ _).symm
        have HOV : Hid (∀ v ∈ msgC mm vP vN, v.oneCell' = true) := by
          obtain ⟨a1, c1, rfl, -⟩ := hpp
          obtain ⟨a2, c2, rfl, -⟩ := hnn
          exact one_msg mm _ _ rfl rfl
        have S4 := hid (row_seg (off := 0) (A := []) (cs := msgC mm vP vN) (C := []) hrow (by simp) rfl)
        have HRw := hid (fun (W : World) (h : Below w4.heap.size w4 W) => row_seg (off := 0) (A := []) (cs := msgC mm vP vN) (C := []) (row_kept hrow h) (by simp) rfl)
        have HFin := hid (fun (W W' : World) (hb : Below w4.heap.size w4 W) (hbut : But w.heap.size W W') => (⟨vP, vN, rfl, (hpp.kept hb).but (haP w.heap.size (by simp)) hbut, (hnn.kept hb).but (haN w.heap.size (by simp)) hbut, HMM.out.len⟩ : MsgV W' (.agg (msgC mm vP vN).toArray) mm))
        clear HMM HKd2 hrow hpp hnn haP haN hwf
        generalize msgC mm vP vN = V at *
        cases hm : mayB mm with
        | false => as_aux_lemma =>
          have HG := hid (HC.out (.inr hm))
          rw [hm] at K9
          clear HC HD hm h3
          go_wp2_with (first | ((with_reducible refine wl_load 33 (.tmp 7) ?_ g 0 ?_ ?_ V _ S4.out Tryz.underlying33 ?_ hIV ?_); exact rfl; exact rfl; exact rfl; exact rfl))
          refine K9.out.mono ?_
          rintro e w5 ⟨rfl, hb⟩
          have HB5 := hid (below_two HB4.out hb)
          have R5 := hid (row_kept R4.out hb)
          clear hb HB4 R4 S4 HRw
          go_wp2_with (first | ((with_reducible refine wl_put 33 (.tmp 2) (.tmp 40) ?_ ?_ w.heap.size 0 ?_ ?_ [] Z Z [] ?_ 33 R5.out rfl rfl HOZ.out hIZ ?_); exact rfl; exact rfl; exact rfl; exact rfl; exact congrArg Value.agg HZA.out.symm; intro w9 hr9 hbut))
          have hr5 : w9.heap[w.heap.size]? = some (.cells Z.toArray 33) := by simpa using hr9
          have HB6 := hid (hbut.below HB5.out (Nat.le_refl _))
          refine bodyPost_ret_by (results_rowt (fn := Tryz.f50) (p := 2) (u := 3) (ty := 33) (by kernel_rfl) _ _ w.heap.size 33 Z.toArray (0, 0) _ rfl hr5 Tryz.underlying33 rfl (by rw [List.size_toArray]; exact hIZ)) rfl ?_
          rw [HG.out]
          exact ⟨_, rfl, HZV.out _, HB6.out⟩
        | true => as_aux_lemma =>
          have HG := hid (HD.out h3 hm)
          rw [hm] at K9
          clear HC HD hm h3
          go_wp2_with (first | ((with_reducible refine wl_load 33 (.tmp 7) ?_ g 0 ?_ ?_ V _ S4.out Tryz.underlying33 ?_ hIV ?_); exact rfl; exact rfl; exact rfl; exact rfl))
          refine K9.out.mono ?_
          rintro e w5 ⟨rfl, hb⟩
          have HB5 := hid (below_two HB4.out hb)
          have R5 := hid (row_kept R4.out hb)
          have S5 := hid (HRw.out _ hb)
          have HFi := hid (fun W' (h : But w.heap.size w5 W') => HFin.out w5 W' hb h)
          clear hb HB4 R4 S4 HRw HFin
          go_wp2_with (first | ((with_reducible refine wl_load 33 (.tmp 7) ?_ g 0 ?_ ?_ V _ S5.out Tryz.underlying33 ?_ hIV ?_); exact rfl; exact rfl; exact rfl; exact rfl) | ((with_reducible refine wl_put 33 (.tmp 2) (.tmp 41) ?_ ?_ w.heap.size 0 ?_ ?_ [] V Z [] ?_ 33 R5.out rfl hLV HOV.out hIV ?_); exact rfl; exact rfl; exact rfl; exact rfl; exact rfl; intro w9 hr9 hbut))
          have hr5 : w9.heap[w.heap.size]? = some (.cells V.toArray 33) := by simpa using hr9
          have HB6 := hid (hbut.below HB5.out (Nat.le_refl _))
          refine bodyPost_ret_by (results_rowt (fn := Tryz.f50) (p := 2) (u := 3) (ty := 33) (by kernel_rfl) _ _ w.heap.size 33 V.toArray (0, 0) _ rfl hr5 Tryz.underlying33 rfl (by rw [List.size_toArray]; exact hIV)) rfl ?_
          rw [HG.out]
          exact ⟨_, rfl, HFi.out _ hbut, HB6.out⟩
    · as_aux_lemma =>
      have HG := hid (HB2a.out h2)
      generalize (rdM s).1 = ee at *
      have de1 : ((ee : Int) != 0) = true := by simpa using h2
      have de1' : (ee != 0) = true := by simpa using h2
      clear HI4 HKd HB2a HB2c HB2d h2
      go_wp2_with (first | ((with_reducible refine wl_put 33 (.tmp 2) (.tmp 29) ?_ ?_ w.heap.size 0 ?_ ?_ [] Z Z [] ?_ 33 R4.out rfl rfl HOZ.out hIZ ?_); exact rfl; exact rfl; exact rfl; exact rfl; exact congrArg Value.agg HZA.out.symm; intro w9 hr9 hbut))
      have hr5 : w9.heap[w.heap.size]? = some (.cells Z.toArray 33) := by simpa using hr9
      have HB6 := hid (hbut.below HB4.out (Nat.le_refl _))
      refine bodyPost_ret_by (results_rowt (fn := Tryz.f50) (p := 2) (u := 3) (ty := 33) (by kernel_rfl) _ _ w.heap.size 33 Z.toArray (0, 0) _ rfl hr5 Tryz.underlying33 rfl (by rw [List.size_toArray]; exact hIZ)) rfl ?_
      rw [HG.out]
      exact ⟨_, rfl, HZV.out _, HB6.out⟩
  · as_aux_lemma =>
    have HG := hid (getM_a h1)
    generalize Lay.numTo 0 s = tt at *
    generalize (Lay.readNum s).2.1 = kk at *
    generalize (Lay.readNum s).1 = ee at *
    have de1 : ((ee : Int) != 0) = true := by simpa using h1
    have de1' : (ee != 0) = true := by simpa using h1
    clear h1 hs hP
    go_enter Tryz.func50, Tryz.ntmps50
    go_upto_region 1 with (first | ((with_reducible refine wl_alloc 33 ?_ ?_ Z.toArray HZ ?_); exact rfl; exact rfl))
    generalize w.alloc (.cells Z.toArray 33) = W0 at *
    go_wp2_with fail
    refine HRd.out.mono ?_
    rintro e w1 ⟨rfl, hb⟩
    have HB1 := hid (below_two HB0.out hb)
    have R1 := hid (row_kept R0.out hb)
    clear hb HRd R0 HB0
    go_wp2_with (first | ((with_reducible refine wl_put 33 (.tmp 2) (.tmp 16) ?_ ?_ w.heap.size 0 ?_ ?_ [] Z Z [] ?_ 33 R1.out rfl rfl HOZ.out hIZ ?_); exact rfl; exact rfl; exact rfl; exact rfl; exact congrArg Value.agg HZA.out.symm; intro w9 hr9 hbut))
    have hr5 : w9.heap[w.heap.size]? = some (.cells Z.toArray 33) := by simpa using hr9
    have HB4 := hid (hbut.below HB1.out (Nat.le_refl _))
    refine bodyPost_ret_by (results_rowt (fn := Tryz.f50) (p := 2) (u := 3) (ty := 33) (by kernel_rfl) _ _ w.heap.size 33 Z.toArray (0, 0) _ rfl hr5 Tryz.underlying33 rfl (by rw [List.size_toArray]; exact hIZ)) rfl ?_
    rw [HG.out]
    exact ⟨_, rfl, HZV.out _, HB4.out⟩
end Go.Proofs.YtidlgecognedlaaGreatDoor.Ms

/-
  What must come at any rate: the first call of each statement (awake).
-/
namespace Go.Proofs.YtidlgecognedlaaGreatDoor.Ms
open Go Go.RowKit
set_option maxRecDepth 100000

def dOne : List UInt8 := 1 :: List.replicate 31 0
def mOne : Msg := ⟨3, 1, zeroS, zeroR, [1], 0, dOne, zeroD, zeroB, []⟩
def sOne : List UInt8 := [51, 59, 49, 59, 49, 58, 1, 51, 50, 58] ++ dOne
theorem dec1 (d : Nat) (h : d < 10) : Lib.decDigits d = [UInt8.ofNat (48 + d)] := by rw [Lib.decDigits, dif_pos h]
theorem dec32 : Lib.decDigits 32 = [51, 50] := by rw [Lib.decDigits, dif_neg (by decide), dec1 _ (by decide)]; rfl
theorem numB1 (d : Nat) (h : d < 10) : numB (d : Int) = [UInt8.ofNat (48 + d), 59] := by
  unfold numB Lib.itoa
  rw [if_neg (by omega), Int.toNat_natCast, dec1 d h]
  rfl
theorem mOne_wf : mOne.Wf := ⟨⟨rfl, rfl⟩, ⟨rfl, rfl, rfl, fun p hp => by cases hp⟩, rfl, rfl, ⟨rfl⟩⟩
theorem mOne_may : mayB mOne = true := by decide
theorem put9 : putM (zeroM 9 3) = [57, 59, 51, 59] := by
  have e : putM (zeroM 9 3) = numB ((9 : Nat) : Int) ++ (numB ((3 : Nat) : Int) ++ []) := rfl
  rw [e, numB1 9 (by decide), numB1 3 (by decide)]
  rfl
theorem may9 : mayB (zeroM 9 3) = true := by decide
theorem putOne : putM mOne = sOne := by
  have e : putM mOne = numB ((3 : Nat) : Int) ++ (numB ((1 : Nat) : Int) ++ (layT [1] ++ (txtB dOne ++ []))) := rfl
  have e2 : layT [1] = Lib.decDigits 1 ++ [58] ++ [1] := rfl
  have e3 : txtB dOne = Lib.decDigits 32 ++ [58] ++ dOne := rfl
  rw [e, numB1 3 (by decide), numB1 1 (by decide), e2, e3, dec1 1 (by decide), dec32]
  rfl
theorem getOne : getM sOne = (0, mOne) := by rw [← putOne]; exact get_put mOne_wf mOne_may
theorem kindOne : (Lay.readNum sOne).2.1 = 3 := by
  have e : sOne = numB ((3 : Nat) : Int) ++ ([49, 59, 49, 58, 1, 51, 50, 58] ++ dOne) := by rw [numB1 3 (by decide)]; rfl
  rw [e, num_back _ ⟨by decide, by decide⟩]
  rfl
theorem arr9 : (msgC (zeroM 9 3) (.slice none 0 0) (.slice none 0 0)).toArray = (Tryz.zeroCells33.setIfInBounds 0 (nu 9)).setIfInBounds 1 (nu 3) := by kernel_rfl
theorem build_one (W : World) : (Instr.build 23 #[(0, .int .u8 1)]).run Tryz.prog W = .ok (.agg (dg dOne).toArray) W := by kernel_rfl
theorem arrD : (dg dOne).toArray = #[.int .u8 1, .int .u8 0, .int .u8 0, .int .u8 0, .int .u8 0, .int .u8 0, .int .u8 0, .int .u8 0, .int .u8 0, .int .u8 0, .int .u8 0, .int .u8 0, .int .u8 0, .int .u8 0, .int .u8 0, .int .u8 0, .int .u8 0, .int .u8 0, .int .u8 0, .int .u8 0, .int .u8 0, .int .u8 0, .int .u8 0, .int .u8 0, .int .u8 0, .int .u8 0, .int .u8 0, .int .u8 0, .int .u8 0, .int .u8 0, .int .u8 0, .int .u8 0] := by kernel_rfl
theorem sameOne : sameM mOne mOne = true := (sameM_iff _ _).2 rfl
theorem diffOne : sameM mOne (zeroM 0 0) = false := by decide
theorem i64_small (n : Int) (h : -1000 ≤ n) (h2 : n ≤ 1000) : I64 n := ⟨by omega, by omega⟩

set_option maxHeartbeats 1000000 in
theorem awake_any (w : World) (ht : Tb w) : Calls Tryz.prog 12 #[] w fun e w' => e = .returned (.bool true) ∧ Below w.heap.size w w' := by
  have KP := hid (put_ok (w := w) (m := zeroM 9 3) (zeroM_wf 9 3) (zeroM_rng 9 3 (i64_small 9 (by decide) (by decide)) (i64_small 3 (by decide) (by decide))) (PensAt.nil w) (IntsAt.nil w) ⟨Nat.zero_le _, Nat.zero_le _⟩ (fun h => absurd h (by decide)) (fun h => absurd h (by decide)) may9 ht)
  rw [put9, arr9] at KP
  have KB := hid (fun W => rbytes_any dOne rfl W)
  rw [← dg_map, arrD] at KB
  have KG := hid (fun (W : World) (h : Tb W) => get_any sOne (by decide) ⟨fun h => absurd (kindOne.symm.trans h) (by decide), fun h => absurd (kindOne.symm.trans h) (by decide)⟩ W h)
  rw [getOne] at KG
  have HT := hid (fun (W : World) (h : Below w.heap.size w W) => ht.stays h)
  have happ := str_app [51, 59, 49, 59, 49, 58, 1, 51, 50, 58] dOne
  have hsO : [51, 59, 49, 59, 49, 58, 1, 51, 50, 58] ++ dOne = sOne := rfl
  rw [hsO] at happ
  have hdl : (⟨dOne.toArray⟩ : ByteArray).size = 32 := rfl
  have HZ := zeroMsg
  have HZl : Hid ((msgC (zeroM 0 0) (.slice none 0 0) (.slice none 0 0)).length = 275) := msgC_len (zeroM_wf 0 0) _ _
  have HZA := hid zero_zero
  have KS1 := hid (fun (W : World) (vP vN : Value) (h1 : PensAt W vP mOne.rep.pend) (h2 : IntsAt W vN mOne.nums) => msame_any mOne_wf mOne_wf h1 h1 h2 h2 (Nat.zero_le _) (Nat.zero_le _))
  have KS2 := hid (fun (W : World) (vP vN : Value) (h1 : PensAt W vP mOne.rep.pend) (h2 : IntsAt W vN mOne.nums) => msame_any (b := zeroM 0 0) mOne_wf (zeroM_wf 0 0) h1 (PensAt.nil W) h2 (IntsAt.nil W) (Nat.zero_le _) (Nat.zero_le _))
  rw [sameOne] at KS1
  rw [diffOne, zero_zero] at KS2
  obtain ⟨Z, hZ⟩ : ∃ Z, Z = msgC (zeroM 0 0) (.slice none 0 0) (.slice none 0 0) := ⟨_, rfl⟩
  rw [← hZ] at HZ HZl HZA
  clear hZ hsO ht
  generalize dOne = D1 at *
  generalize sOne = S1 at *
  go_enter Tryz.func12, Tryz.ntmps12
  go_wp2_with fail
  refine KP.out.mono ?_
  rintro e w1 ⟨rfl, hb⟩
  have HB1 := hid hb
  clear hb KP
  go_wp2_with fail
  refine (KB.out _).mono ?_
  rintro e w2 ⟨rfl, hb⟩
  have HB2 := hid (below_two HB1.out hb)
  clear hb KB HB1
  go_wp2_with fail
  refine (KG.out _ (HT.out _ HB2.out)).mono ?_
  rintro e w3 ⟨v, rfl, hv, hb⟩
  have HB3 := hid (below_two HB2.out hb)
  obtain ⟨vP, vN, rfl, hp, hn, -⟩ := hv
  have hIV : (Tryz.prog.info? 33).map (·.size) = some (msgC mOne vP vN).length := by rw [msgC_len mOne_wf]; exact sizeMsg
  have hLV : Z.length = (msgC mOne vP vN).length := HZl.out.trans (msgC_len mOne_wf _ _).symm
  have HOV : Hid (∀ v ∈ msgC mOne vP vN, v.oneCell' = true) := by
    obtain ⟨a1, c1, rfl, -⟩ := hp
    obtain ⟨a2, c2, rfl, -⟩ := hn
    exact one_msg mOne _ _ rfl rfl
  have HB4 := hid (below_two HB3.out (below_a1 w3 (.cells (msgC mOne vP vN).toArray 33)))
  have T4 := top_obj w3 (.cells (msgC mOne vP vN).toArray 33)
  have HRow := hid (fun (W : World) (h : Below (w3.alloc (.cells (msgC mOne vP vN).toArray 33)).heap.size (w3.alloc (.cells (msgC mOne vP vN).toArray 33)) W) => row_seg (off := 0) (A := []) (cs := msgC mOne vP vN) (C := []) (row_kept T4 h) (by simp) rfl)
  have S4 := hid (HRow.out _ (Below.refl _ _))
  have c1 := mrow_client T4 mOne_wf
  have c2 := mrow_view T4 mOne_wf
  have c3 := mrow_tag T4 mOne_wf 0 (.int .u8 1) rfl
  have HP4 := hid (fun (W : World) (h : Below (w3.alloc (.cells (msgC mOne vP vN).toArray 33)).heap.size (w3.alloc (.cells (msgC mOne vP vN).toArray 33)) W) => (hp.kept (below_a1 w3 (.cells (msgC mOne vP vN).toArray 33))).kept h)
  have HN4 := hid (fun (W : World) (h : Below (w3.alloc (.cells (msgC mOne vP vN).toArray 33)).heap.size (w3.alloc (.cells (msgC mOne vP vN).toArray 33)) W) => (hn.kept (below_a1 w3 (.cells (msgC mOne vP vN).toArray 33))).kept h)
  have KT1 := hid (fun (W : World) (h1 : PensAt W vP mOne.rep.pend) (h2 : IntsAt W vN mOne.nums) => KS1.out W vP vN h1 h2)
  have KT2 := hid (fun (W : World) (h1 : PensAt W vP mOne.rep.pend) (h2 : IntsAt W vN mOne.nums) => KS2.out W vP vN h1 h2)
  have e1 : mOne.client = 1 := rfl
  have e2 : mOne.view = [1] := rfl
  rw [e1] at c1
  rw [e2] at c2
  clear hb hp hn T4 KG HT HB2 HB3 KS1 KS2 e1 e2
  generalize mOne.rep.pend = PP at *
  generalize mOne.nums = NN at *
  generalize msgC mOne vP vN = V at *
  go_upto_region 3 with (first | ((with_reducible refine wl_alloc 33 ?_ ?_ Z.toArray HZ ?_); exact rfl; exact rfl) | ((with_reducible refine wl_store_top 33 (.tmp 3) (.tmp 15) ?_ ?_ ?_ ?_ V Z ?_ 33 hLV HOV.out hIV ?_); exact rfl; exact rfl; exact rfl; exact rfl; exact rfl))
  obtain ⟨g, hg⟩ : ∃ g, g = w3.heap.size := ⟨_, rfl⟩
  generalize w3.alloc (.cells V.toArray 33) = W4 at *
  rw [← hg] at S4 HRow c1 c2 c3 ⊢
  have HPx := hid (HP4.out _ (Below.refl _ _))
  have HNx := hid (HN4.out _ (Below.refl _ _))
  clear hg hLV HOV
  go_wp2_with (first | ((with_reducible refine wl_load 33 (.tmp 3) ?_ g 0 ?_ ?_ V _ S4.out Tryz.underlying33 ?_ hIV ?_); exact rfl; exact rfl; exact rfl; exact rfl))
  refine (KT1.out _ HPx.out HNx.out).mono ?_
  rintro e w5 ⟨rfl, hb⟩
  have HB5 := hid (below_two HB4.out hb)
  have S5 := hid (HRow.out _ hb)
  have HP5 := hid (HP4.out _ hb)
  have HN5 := hid (HN4.out _ hb)
  clear hb S4 HRow HPx HNx HP4 HN4 HB4 KT1 c1 c2 c3
  go_wp2_with (first | ((with_reducible refine wl_load 33 (.tmp 3) ?_ g 0 ?_ ?_ V _ S5.out Tryz.underlying33 ?_ hIV ?_); exact rfl; exact rfl; exact rfl; exact rfl))
  refine (KT2.out _ HP5.out HN5.out).mono ?_
  rintro e w6 ⟨rfl, hb⟩
  have HB6 := hid (below_two HB5.out hb)
  clear hb
  go_wp2
  go_ret
  exact ⟨rfl, HB6.out⟩
end Go.Proofs.YtidlgecognedlaaGreatDoor.Ms

/-
  A message that may be is not too long to be laid plainly: in plain words.
-/
namespace Go.Proofs.YtidlgecognedlaaGreatDoor.Ms
open Go Go.RowKit
set_option maxRecDepth 100000

theorem may_light {m : Msg} (h : mayB m = true) : m.view.length < 2000 ∧ m.sub.value.length < 2000 ∧ m.rep.view.length ≤ 512 ∧ m.rep.seen.length ≤ 512 ∧ m.rep.value.length ≤ 256 ∧ m.rep.pend.length < 20 ∧ m.blob.cipher.length < 6000 ∧ m.nums.length < 200 := by
  rw [may_right] at h
  unfold rightM at h
  simp only [Bool.and_eq_true, sameM_iff, inB_iff] at h
  obtain ⟨hk, hc, hb, hp⟩ := h
  obtain ⟨k, c, ⟨s1, s2, s3, s4, s5, s6⟩, ⟨r1, r2, r3, r4, r5, r6, r7, r8, r9, r10⟩, vw, wh, tg, ow, ⟨b1, b2, b3, b4⟩, ns⟩ := m
  simp only at hk hc hb hp ⊢
  by_cases e1 : k = 1
  · subst e1
    simp [bareM, zeroM, zeroR, zeroB] at hb
    simp [refParts, subB] at hp
    obtain ⟨⟨-, -, rfl, -, rfl, -, rfl, -, rfl, -⟩, rfl, -, -, -, ⟨-, -, rfl, -⟩, rfl⟩ := hb
    simp
    omega
  by_cases e2 : k = 2
  · subst e2
    simp [bareM, zeroM, zeroS, zeroB] at hb
    simp [refParts, repB, chainB] at hp
    obtain ⟨⟨-, -, -, rfl, -, -⟩, rfl, -, -, -, ⟨-, -, rfl, -⟩, rfl⟩ := hb
    have h1 := right_len _ _ hp.2.2.2.2.2.1
    have h2 := right_len _ _ hp.2.2.2.2.2.2.1
    simp
    omega
  by_cases e3 : k = 3
  · subst e3
    simp [bareM, zeroM, zeroS, zeroR, zeroB] at hb
    simp [refParts, viewB] at hp
    obtain ⟨⟨-, -, -, rfl, -, -⟩, ⟨-, -, rfl, -, rfl, -, rfl, -, rfl, -⟩, -, -, ⟨-, -, rfl, -⟩, rfl⟩ := hb
    have h1 := right_len _ _ hp.2
    simp
    omega
  by_cases e4 : k = 4 ∨ k = 6
  · simp only [bareM, if_neg e1, if_neg e2, if_neg e3, if_pos e4, zeroM, zeroS, zeroR, Msg.mk.injEq, Sub.mk.injEq, Rep.mk.injEq, true_and] at hb
    simp only [refParts, if_neg e1, if_neg e2, if_neg e3, if_pos e4, bloB, Bool.and_eq_true, decide_eq_true_eq] at hp
    obtain ⟨⟨-, -, -, rfl, -, -⟩, ⟨-, -, rfl, -, rfl, -, rfl, -, rfl, -⟩, rfl, -, -, -, -, rfl⟩ := hb
    have := hp.2.2.2
    simp
    omega
  by_cases e5 : k = 5 ∨ k = 7 ∨ k = 8
  · simp only [bareM, if_neg e1, if_neg e2, if_neg e3, if_neg e4, if_pos e5, zeroM, zeroS, zeroR, zeroB, Msg.mk.injEq, Sub.mk.injEq, Rep.mk.injEq, Blo.mk.injEq, true_and, and_true] at hb
    simp only [refParts, if_neg e1, if_neg e2, if_neg e3, if_neg e4, if_pos e5] at hp
    obtain ⟨⟨-, -, -, rfl, -, -⟩, ⟨-, -, rfl, -, rfl, -, rfl, -, rfl, -⟩, rfl, -, -, -, -, -, rfl, -⟩ := hb
    have := (nums_ok hp).1
    simp
    omega
  by_cases e6 : k = 10
  · simp only [bareM, if_neg e1, if_neg e2, if_neg e3, if_neg e4, if_neg e5, if_pos e6, zeroM, zeroS, zeroR, zeroB, Msg.mk.injEq, Sub.mk.injEq, Rep.mk.injEq, Blo.mk.injEq, true_and] at hb
    simp only [refParts, if_neg e1, if_neg e2, if_neg e3, if_neg e4, if_neg e5, if_pos e6, viewB, Bool.and_eq_true] at hp
    obtain ⟨⟨-, -, -, rfl, -, -⟩, ⟨-, -, rfl, -, rfl, -, rfl, -, rfl, -⟩, ⟨-, -, rfl, -⟩, rfl⟩ := hb
    have h1 := right_len _ _ hp.2.2
    simp
    omega
  by_cases e7 : k = 11
  · simp only [bareM, if_neg e1, if_neg e2, if_neg e3, if_neg e4, if_neg e5, if_neg e6, if_pos e7, zeroM, zeroS, zeroR, zeroB, Msg.mk.injEq, Sub.mk.injEq, Rep.mk.injEq, Blo.mk.injEq, true_and] at hb
    obtain ⟨⟨-, -, -, rfl, -, -⟩, ⟨-, -, rfl, -, rfl, -, rfl, -, rfl, -⟩, rfl, -, -, ⟨-, -, rfl, -⟩, rfl⟩ := hb
    simp
  · simp only [bareM, if_neg e1, if_neg e2, if_neg e3, if_neg e4, if_neg e5, if_neg e6, if_neg e7, zeroM, zeroS, zeroR, zeroB, Msg.mk.injEq, Sub.mk.injEq, Rep.mk.injEq, Blo.mk.injEq, true_and] at hb
    obtain ⟨⟨-, -, -, rfl, -, -⟩, ⟨-, -, rfl, -, rfl, -, rfl, -, rfl, -⟩, rfl, -, -, -, ⟨-, -, rfl, -⟩, rfl⟩ := hb
    simp
end Go.Proofs.YtidlgecognedlaaGreatDoor.Ms

/-
  Whether a message is not too long to be laid plainly (law10.light).
-/
namespace Go.Proofs.YtidlgecognedlaaGreatDoor.Ms
open Go Go.RowKit
set_option maxRecDepth 100000

set_option maxHeartbeats 4000000 in
theorem light_any {w : World} {m : Msg} {vP vN : Value} (hw : m.Wf) (hp : PensAt w vP m.rep.pend) (hn : IntsAt w vN m.nums) :
    Calls Tryz.prog 10 #[.agg (msgC m vP vN).toArray] w fun e w' => ∃ b, e = .returned (.bool b) ∧ (mayB m = true → b = true) ∧ Below w.heap.size w w' := by
  have HB0 := hid (below_a1 w (.cells (msgC m vP vN).toArray 33))
  have R0 := top_obj w (.cells (msgC m vP vN).toArray 33)
  obtain ⟨pa, pc, rfl, -⟩ := hp
  obtain ⟨na, nc, rfl, -⟩ := hn
  have c1 := mrow_view R0 hw
  have c2 := mrow_sub_value R0 hw
  have c3 := mrow_rep_view R0 hw
  have c4 := mrow_rep_seen R0 hw
  have c5 := mrow_rep_value R0 hw
  have c6 := mrow_rep_P R0 hw
  have c7 := mrow_blob_cipher R0 hw
  have c8 := mrow_nums R0 hw
  have HM := hid (@may_light m)
  clear R0 hw
  generalize mayB m = B at *
  generalize m.view = x1 at *
  generalize m.sub.value = x2 at *
  generalize m.rep.view = x3 at *
  generalize m.rep.seen = x4 at *
  generalize m.rep.value = x5 at *
  generalize m.rep.pend.length = x6 at *
  generalize m.blob.cipher = x7 at *
  generalize m.nums.length = x8 at *
  generalize (msgC m (.slice pa x6 pc) (.slice na x8 nc)).toArray = V at *
  cases B with
  | true => as_aux_lemma =>
    obtain ⟨h1, h2, h3, h4, h5, h6, h7, h8⟩ := HM.out rfl
    have d1 : decide ((x1.length : Int) < 2000) = true := decide_eq_true (by omega)
    have d2 : decide ((x2.length : Int) < 2000) = true := decide_eq_true (by omega)
    have d3 : decide ((x3.length : Int) + (x4.length : Int) + (x5.length : Int) < 4000) = true := decide_eq_true (by omega)
    have d6 : decide ((x6 : Int) < 20) = true := decide_eq_true (by omega)
    have d7 : decide ((x7.length : Int) < 6000) = true := decide_eq_true (by omega)
    have d8 : decide ((x8 : Int) < 200) = true := decide_eq_true (by omega)
    clear HM
    go_enter Tryz.func10, Tryz.ntmps10
    go_upto_region 1 with fail
    generalize w.alloc (.cells V 33) = W0 at *
    go_wp2
    go_ret
    exact ⟨true, rfl, fun _ => rfl, HB0.out⟩
  | false =>
    clear HM
    obtain ⟨q1, hq1⟩ : ∃ q1 : Int, wrap64 ((x3.length : Int) + (x4.length : Int)) = q1 := ⟨_, rfl⟩
    obtain ⟨q, hq⟩ : ∃ q : Int, wrap64 (q1 + (x5.length : Int)) = q := ⟨_, rfl⟩
    by_cases k0 : ¬ ((x1.length : Int) < 2000)
    · as_aux_lemma =>
      have d0 : decide ((x1.length : Int) < 2000) = false := decide_eq_false k0
      have f0 : decide (x1.length < 2000) = false := decide_eq_false (by omega)
      clear k0
      go_enter Tryz.func10, Tryz.ntmps10
      go_upto_region 1 with fail
      generalize w.alloc (.cells V 33) = W0 at *
      go_wp2
      go_ret
      first | exact ⟨false, rfl, (fun h => by cases h), HB0.out⟩ | exact ⟨Or.inl rfl, HB0.out⟩
    have k0 := Decidable.not_not.1 k0
    have d0 : decide ((x1.length : Int) < 2000) = true := decide_eq_true k0
    have f0 : decide (x1.length < 2000) = true := decide_eq_true (by omega)
    clear k0
    by_cases k1 : ¬ ((x2.length : Int) < 2000)
    · as_aux_lemma =>
      have d1 : decide ((x2.length : Int) < 2000) = false := decide_eq_false k1
      have f1 : decide (x2.length < 2000) = false := decide_eq_false (by omega)
      clear k1
      go_enter Tryz.func10, Tryz.ntmps10
      go_upto_region 1 with fail
      generalize w.alloc (.cells V 33) = W0 at *
      go_wp2
      go_ret
      first | exact ⟨false, rfl, (fun h => by cases h), HB0.out⟩ | exact ⟨Or.inl rfl, HB0.out⟩
    have k1 := Decidable.not_not.1 k1
    have d1 : decide ((x2.length : Int) < 2000) = true := decide_eq_true k1
    have f1 : decide (x2.length < 2000) = true := decide_eq_true (by omega)
    clear k1
    by_cases k2 : ¬ (q < 4000)
    · as_aux_lemma =>
      have d2 : decide (q < 4000) = false := decide_eq_false k2
      clear k2
      go_enter Tryz.func10, Tryz.ntmps10
      go_upto_region 1 with fail
      generalize w.alloc (.cells V 33) = W0 at *
      go_wp2
      go_ret
      first | exact ⟨false, rfl, (fun h => by cases h), HB0.out⟩ | exact ⟨Or.inl rfl, HB0.out⟩
    have k2 := Decidable.not_not.1 k2
    have d2 : decide (q < 4000) = true := decide_eq_true k2
    clear k2
    by_cases k3 : ¬ ((x6 : Int) < 20)
    · as_aux_lemma =>
      have d3 : decide ((x6 : Int) < 20) = false := decide_eq_false k3
      have f3 : decide (x6 < 20) = false := decide_eq_false (by omega)
      clear k3
      go_enter Tryz.func10, Tryz.ntmps10
      go_upto_region 1 with fail
      generalize w.alloc (.cells V 33) = W0 at *
      go_wp2
      go_ret
      first | exact ⟨false, rfl, (fun h => by cases h), HB0.out⟩ | exact ⟨Or.inl rfl, HB0.out⟩
    have k3 := Decidable.not_not.1 k3
    have d3 : decide ((x6 : Int) < 20) = true := decide_eq_true k3
    have f3 : decide (x6 < 20) = true := decide_eq_true (by omega)
    clear k3
    by_cases k4 : ¬ ((x7.length : Int) < 6000)
    · as_aux_lemma =>
      have d4 : decide ((x7.length : Int) < 6000) = false := decide_eq_false k4
      have f4 : decide (x7.length < 6000) = false := decide_eq_false (by omega)
      clear k4
      go_enter Tryz.func10, Tryz.ntmps10
      go_upto_region 1 with fail
      generalize w.alloc (.cells V 33) = W0 at *
      go_wp2
      go_ret
      first | exact ⟨false, rfl, (fun h => by cases h), HB0.out⟩ | exact ⟨Or.inl rfl, HB0.out⟩
    have k4 := Decidable.not_not.1 k4
    have d4 : decide ((x7.length : Int) < 6000) = true := decide_eq_true k4
    have f4 : decide (x7.length < 6000) = true := decide_eq_true (by omega)
    clear k4
    by_cases k5 : ¬ ((x8 : Int) < 200)
    · as_aux_lemma =>
      have d5 : decide ((x8 : Int) < 200) = false := decide_eq_false k5
      have f5 : decide (x8 < 200) = false := decide_eq_false (by omega)
      clear k5
      go_enter Tryz.func10, Tryz.ntmps10
      go_upto_region 1 with fail
      generalize w.alloc (.cells V 33) = W0 at *
      go_wp2
      go_ret
      first | exact ⟨false, rfl, (fun h => by cases h), HB0.out⟩ | exact ⟨Or.inl rfl, HB0.out⟩
    have k5 := Decidable.not_not.1 k5
    have d5 : decide ((x8 : Int) < 200) = true := decide_eq_true k5
    have f5 : decide (x8 < 200) = true := decide_eq_true (by omega)
    clear k5
    go_enter Tryz.func10, Tryz.ntmps10
    go_upto_region 1 with fail
    generalize w.alloc (.cells V 33) = W0 at *
    go_wp2
    go_ret
    first | exact ⟨true, rfl, (fun h => by cases h), HB0.out⟩ | exact ⟨Or.inr rfl, HB0.out⟩
end Go.Proofs.YtidlgecognedlaaGreatDoor.Ms

/-
  The walk of MsgPuts.
-/
namespace Go.Proofs.YtidlgecognedlaaGreatDoor.Ms
open Go Go.RowKit
set_option maxRecDepth 100000

set_option maxHeartbeats 4000000 in
theorem puts_walk (w : World) (ht : Tb w) (m : Msg) (vP vN : Value) (hw : m.Wf) (hr : m.Rng) (hp : PensAt w vP m.rep.pend) (hn : IntsAt w vN m.nums) (hl : Lens m) :
    Calls Tryz.prog 3 #[.agg (msgC m vP vN).toArray] w fun e w' => e = .returned (.bool true) ∧ Below w.heap.size w w' := by
  have HB0 := hid (below_a1 w (.cells (msgC m vP vN).toArray 33))
  have R0 := hid (top_obj w (.cells (msgC m vP vN).toArray 33))
  have hp0 := hp.kept HB0.out
  have hn0 := hn.kept HB0.out
  have ht0 := ht.stays HB0.out
  have Z0 : (Tryz.prog.info? 33).map (·.size) = some (msgC m vP vN).length := by rw [msgC_len hw]; exact sizeMsg
  have S0 := hid (fun (W : World) (hB : Below (w.alloc (.cells (msgC m vP vN).toArray 33)).heap.size (w.alloc (.cells (msgC m vP vN).toArray 33)) W) => row_seg (off := 0) (A := []) (cs := msgC m vP vN) (C := []) (row_kept R0.out hB) (by simp) rfl)
  have KL := hid (fun (W : World) (hB : Below (w.alloc (.cells (msgC m vP vN).toArray 33)).heap.size (w.alloc (.cells (msgC m vP vN).toArray 33)) W) => light_any hw (hp0.kept hB) (hn0.kept hB))
  have KR := hid (fun (W : World) (hB : Below (w.alloc (.cells (msgC m vP vN).toArray 33)).heap.size (w.alloc (.cells (msgC m vP vN).toArray 33)) W) => rmay hw hr.who (hp0.kept hB) (hn0.kept hB) hl)
  have KW := hid (fun (W : World) (hB : Below (w.alloc (.cells (msgC m vP vN).toArray 33)).heap.size (w.alloc (.cells (msgC m vP vN).toArray 33)) W) => awake_any W (ht0.stays hB))
  have HBw := hid (fun (W : World) (hB : Below (w.alloc (.cells (msgC m vP vN).toArray 33)).heap.size (w.alloc (.cells (msgC m vP vN).toArray 33)) W) => below_two HB0.out hB)
  cases hm : mayB m with
  | true =>
    have KP := hid (put_ok hw hr hp0 hn0 hl (fun _ => repmay m.rep hw.rep) (fun _ => mkLayPens) hm ht0)
    have KY := hid (fun (W : World) (hB : Below (w.alloc (.cells (msgC m vP vN).toArray 33)).heap.size (w.alloc (.cells (msgC m vP vN).toArray 33)) W) => rlay_any bytOk (answer_any bytOk) hw hr hm (hp0.kept hB) (hn0.kept hB))
    rw [hm] at KL KR
    clear hp0 hn0 ht0 hp hn ht hw hr hl hm R0
    generalize putM m = PM at *
    generalize msgC m vP vN = V at *
    go_enter Tryz.func3, Tryz.ntmps3
    go_upto_region 1 with fail
    generalize w.alloc (.cells V.toArray 33) = W0 at *
    have B0 := hid (Below.refl W0.heap.size W0)
    have s0 := hid (S0.out _ B0.out)
    go_wp2_with (first | ((with_reducible refine wl_load 33 (.tmp 1) ?_ w.heap.size 0 ?_ ?_ V _ s0.out Tryz.underlying33 ?_ Z0 ?_); exact rfl; exact rfl; exact rfl; exact rfl))
    refine KP.out.mono ?_
    rintro e W1 ⟨rfl, hb1⟩
    have B1 := hid (B0.out.trans hb1)
    have s1 := hid (S0.out _ B1.out)
    clear hb1
    go_wp2_with (first | ((with_reducible refine wl_load 33 (.tmp 1) ?_ w.heap.size 0 ?_ ?_ V _ s1.out Tryz.underlying33 ?_ Z0 ?_); exact rfl; exact rfl; exact rfl; exact rfl))
    refine (KL.out _ B1.out).mono ?_
    rintro e W2 ⟨b, rfl, hb, hb2⟩
    obtain rfl : b = true := hb trivial
    have B2 := hid (B1.out.trans (hb2.mono B1.out.size))
    have s2 := hid (S0.out _ B2.out)
    clear hb2 hb
    go_wp2_with (first | ((with_reducible refine wl_load 33 (.tmp 1) ?_ w.heap.size 0 ?_ ?_ V _ s2.out Tryz.underlying33 ?_ Z0 ?_); exact rfl; exact rfl; exact rfl; exact rfl))
    refine (KR.out _ B2.out).mono ?_
    rintro e W3 ⟨rfl, hb3⟩
    have B3 := hid (B2.out.trans (hb3.mono B2.out.size))
    clear hb3
    go_wp2_with fail
    refine (KW.out _ B3.out).mono ?_
    rintro e W4 ⟨rfl, hb4⟩
    have B4 := hid (B3.out.trans (hb4.mono B3.out.size))
    have s4 := hid (S0.out _ B4.out)
    clear hb4
    go_wp2_with (first | ((with_reducible refine wl_load 33 (.tmp 1) ?_ w.heap.size 0 ?_ ?_ V _ s4.out Tryz.underlying33 ?_ Z0 ?_); exact rfl; exact rfl; exact rfl; exact rfl))
    refine (KY.out _ B4.out).mono ?_
    rintro e W5 ⟨rfl, hb5⟩
    have B5 := hid (B4.out.trans (hb5.mono B4.out.size))
    clear hb5
    go_wp2
    go_ret
    exact ⟨by first | rfl | simp, HBw.out _ B5.out⟩
  | false =>
    have KP := hid (put_bad hw hr hp0 hn0 hl (fun _ => repmay m.rep hw.rep) hm)
    rw [hm] at KR
    clear hp0 hn0 ht0 hp hn ht hw hr hl hm R0
    generalize msgC m vP vN = V at *
    go_enter Tryz.func3, Tryz.ntmps3
    go_upto_region 1 with fail
    generalize w.alloc (.cells V.toArray 33) = W0 at *
    have B0 := hid (Below.refl W0.heap.size W0)
    have s0 := hid (S0.out _ B0.out)
    go_wp2_with (first | ((with_reducible refine wl_load 33 (.tmp 1) ?_ w.heap.size 0 ?_ ?_ V _ s0.out Tryz.underlying33 ?_ Z0 ?_); exact rfl; exact rfl; exact rfl; exact rfl))
    refine KP.out.mono ?_
    rintro e W1 ⟨rfl, hb1⟩
    have B1 := hid (B0.out.trans hb1)
    have s1 := hid (S0.out _ B1.out)
    clear hb1
    go_wp2_with (first | ((with_reducible refine wl_load 33 (.tmp 1) ?_ w.heap.size 0 ?_ ?_ V _ s1.out Tryz.underlying33 ?_ Z0 ?_); exact rfl; exact rfl; exact rfl; exact rfl))
    refine (KL.out _ B1.out).mono ?_
    rintro e W2 ⟨b, rfl, hb, hb2⟩
    have B2 := hid (B1.out.trans (hb2.mono B1.out.size))
    have s2 := hid (S0.out _ B2.out)
    clear hb2 hb
    cases b with
    | false =>
      go_wp2_with fail
      refine (KW.out _ B2.out).mono ?_
      rintro e W4 ⟨rfl, hb4⟩
      have B4 := hid (B2.out.trans (hb4.mono B2.out.size))
      clear hb4
      go_wp2
      go_ret
      exact ⟨rfl, HBw.out _ B4.out⟩
    | true =>
      go_wp2_with (first | ((with_reducible refine wl_load 33 (.tmp 1) ?_ w.heap.size 0 ?_ ?_ V _ s2.out Tryz.underlying33 ?_ Z0 ?_); exact rfl; exact rfl; exact rfl; exact rfl))
      refine (KR.out _ B2.out).mono ?_
      rintro e W3 ⟨rfl, hb3⟩
      have B3 := hid (B2.out.trans (hb3.mono B2.out.size))
      clear hb3
      go_wp2_with fail
      refine (KW.out _ B3.out).mono ?_
      rintro e W4 ⟨rfl, hb4⟩
      have B4 := hid (B3.out.trans (hb4.mono B3.out.size))
      clear hb4
      go_wp2
      go_ret
      exact ⟨rfl, HBw.out _ B4.out⟩
end Go.Proofs.YtidlgecognedlaaGreatDoor.Ms

/-
  Submits, blobs, what is pending, replies and messages that came in, opened for a walk.
-/
namespace Go.Proofs.YtidlgecognedlaaGreatDoor.Ms
open Go Go.ChangeShapes Go.WideShapes Go.ChangeAt Go.WideMaps Go.WideElems Go.RowKit
set_option maxRecDepth 100000

structure SubRng (x : Sub) : Prop where
  n : I64 x.number
  k : I64 x.kind
  t : I64 x.target
theorem laidOut : laidOutB Tryz.prog = true := by kernel_rfl
theorem cells_dig : Tryz.prog.cellsOf 23 = 32 := by kernel_rfl
theorem cells_byt : Tryz.prog.cellsOf 5 = 1 := by kernel_rfl
theorem cells_int : Tryz.prog.cellsOf 3 = 1 := by kernel_rfl
theorem cells_str : Tryz.prog.cellsOf 9 = 1 := by kernel_rfl
theorem cells_sub : Tryz.prog.cellsOf 25 = 68 := by kernel_rfl
theorem cells_pen : Tryz.prog.cellsOf 113 = 68 := by kernel_rfl
theorem cells_rep : Tryz.prog.cellsOf 28 = 103 := by kernel_rfl
theorem cells_blo : Tryz.prog.cellsOf 30 = 35 := by kernel_rfl
theorem cells_msg : Tryz.prog.cellsOf 33 = 275 := by kernel_rfl
theorem cells_ints : Tryz.prog.cellsOf 31 = 1 := by kernel_rfl
theorem cells_pens : Tryz.prog.cellsOf 26 = 1 := by kernel_rfl
theorem bytes_list : ∀ (cs : List Value), (∀ i, i < cs.length → ∃ n : Int, cs[i]? = some (.int .u8 n) ∧ 0 ≤ n ∧ n ≤ 255) → ∃ l : List UInt8, l.length = cs.length ∧ cs = dg l
  | [], _ => ⟨[], rfl, rfl⟩
  | c :: cs, h => by
    obtain ⟨n, hn, h0, h1⟩ := h 0 (by simp)
    obtain ⟨l, hl, hcs⟩ := bytes_list cs (fun i hi => by
      obtain ⟨m, hm, h2⟩ := h (i + 1) (by simpa using hi)
      exact ⟨m, by simpa using hm, h2⟩)
    refine ⟨UInt8.ofNat n.toNat :: l, by simp [hl], ?_⟩
    have hc : c = .int .u8 n := by simpa using hn
    have e : dg (UInt8.ofNat n.toNat :: l) = cb (UInt8.ofNat n.toNat) :: dg l := rfl
    rw [e, ← hcs, hc]
    congr 1
    unfold cb bv
    congr 1
    rw [UInt8.toNat_ofNat']
    omega
theorem stp (cs : List Value) (a b c : Nat) (h : a + b = c) : cs.drop a = (cs.drop a).take b ++ cs.drop c := by subst h; rw [← List.drop_drop]; exact (List.take_append_drop b _).symm
theorem at_some {α : Type} {xs : List α} {n : Nat} (i : Nat) (h : xs.length = n) (hi : i < n) : ∃ y, xs[i]? = some y := ⟨xs[i], List.getElem?_eq_getElem (by omega)⟩
section
variable {H : Type} {enc : TypeId × Value → H} {W : World} {held : Bool} {fuel : Nat} {cs : List Value} {x : DataW H × List MemPlace}
theorem int_c (h : DataW.trod enc Tryz.prog W 0 (fun _ => true) held fuel 3 cs = some x) : ∃ n, cs = [nu n] ∧ I64 n := by
  obtain ⟨n, e, -, hw⟩ := DataW.trod_int Tryz.underlying3 h
  exact ⟨n, e, bounds_i64 hw⟩
theorem str_c (h : DataW.trod enc Tryz.prog W 0 (fun _ => true) held fuel 9 cs = some x) : ∃ s : List UInt8, cs = [st s] := by
  obtain ⟨A, e, -, -⟩ := DataW.trod_string Tryz.underlying9 h
  exact ⟨A.data.toList, by rw [e]⟩
theorem dig_c (h : DataW.trod enc Tryz.prog W 0 (fun _ => true) held fuel 23 cs = some x) : ∃ l : List UInt8, cs = dg l ∧ l.length = 32 := by
  obtain ⟨xs, m, _, hx, hlen, hxl, hat⟩ := DataW.trod_array Tryz.underlying23 h
  rw [cells_dig] at hlen
  rw [cells_byt] at hat
  obtain ⟨l, hl, hcs⟩ := bytes_list cs (fun i hi => by
    have h1 := hat i (by omega)
    cases hq : xs[i]? with
    | none => rw [List.getElem?_eq_none_iff] at hq; omega
    | some x =>
      rw [hq] at h1
      obtain ⟨n, hn, -, hw⟩ := DataW.trod_int Tryz.underlying5 h1
      have h2 : cs[i]? = some (.int .u8 n) := by
        have := congrArg (·[0]?) hn
        simpa [List.getElem?_take, List.getElem?_drop] using this
      exact ⟨n, h2, bounds_u8 hw⟩)
  exact ⟨l, hcs, by omega⟩
theorem ints_c (h : DataW.trod enc Tryz.prog W 0 (fun _ => true) held fuel 31 cs = some x) : ∃ v ks, cs = [v] ∧ IntsAt W v ks ∧ (∀ n ∈ ks, I64 n) ∧ ks.length ≤ 9223372036854775807 := by
  rcases open_ints Tryz.underlying31 Tryz.underlying3 cells_int h with ⟨rfl, -⟩ | ⟨a, len, cap, zs, rfl, _, hl, hcm, hz, hk, hcell, hwf⟩
  · exact ⟨_, [], rfl, IntsAt.nil W, (fun n hn => by cases hn), Nat.zero_le _⟩
  · simp only [if_true] at hz
    have hlen : (zs.take len).length = len := by rw [List.length_take]; omega
    refine ⟨_, zs.take len, rfl, ⟨some a, cap, by rw [hlen], fun hne => ?_⟩, fun n hn => bounds_i64 (hwf n (List.mem_of_mem_take hn)), ?_⟩
    · have hpos : 0 < len := by
        rcases Nat.eq_zero_or_pos len with e | e
        · subst e; simp at hne
        · exact e
      obtain ⟨b, off, spot⟩ := a
      have hspot : spot = none := by simpa [Addr.add] using World.cell?_spot (hcell 0 (by omega))
      subst hspot
      refine ⟨b, off, rfl, fun j hj => ?_⟩
      rw [hlen] at hj
      have h9 := hcell j (by omega)
      rw [Go.WideShapes.add_plain] at h9
      rw [h9]
      have e : (zs.take len).getD j 0 = zs.getD j 0 := by simp [List.getD, hj]
      rw [e]
    · rw [hlen]
      have : cap ≤ 9223372036854775807 := hcm
      omega
theorem sub_c (h : DataW.trod enc Tryz.prog W 0 (fun _ => true) held fuel 25 cs = some x) : ∃ y : Sub, cs = subC y ∧ y.Wf ∧ SubRng y := by
  obtain ⟨xs, n, _, _, hl, hlen, hfs⟩ := DataW.trod_struct Tryz.underlying25 h
  rw [cells_sub] at hl
  have hxl : xs.length = 6 := hlen
  have g0 : DataW.trod enc Tryz.prog W 0 (fun _ => true) held n 3 ((cs.drop 0).take (Tryz.prog.cellsOf 3)) = xs[0]? := hfs 0 _ rfl
  rw [cells_int] at g0
  obtain ⟨y0, hy0⟩ := at_some 0 hxl (by decide)
  rw [hy0] at g0
  obtain ⟨a0, e0, b0⟩ := int_c g0
  have g1 : DataW.trod enc Tryz.prog W 0 (fun _ => true) held n 3 ((cs.drop 1).take (Tryz.prog.cellsOf 3)) = xs[1]? := hfs 1 _ rfl
  rw [cells_int] at g1
  obtain ⟨y1, hy1⟩ := at_some 1 hxl (by decide)
  rw [hy1] at g1
  obtain ⟨a1, e1, b1⟩ := int_c g1
  have g2 : DataW.trod enc Tryz.prog W 0 (fun _ => true) held n 3 ((cs.drop 2).take (Tryz.prog.cellsOf 3)) = xs[2]? := hfs 2 _ rfl
  rw [cells_int] at g2
  obtain ⟨y2, hy2⟩ := at_some 2 hxl (by decide)
  rw [hy2] at g2
  obtain ⟨a2, e2, b2⟩ := int_c g2
  have g3 : DataW.trod enc Tryz.prog W 0 (fun _ => true) held n 9 ((cs.drop 3).take (Tryz.prog.cellsOf 9)) = xs[3]? := hfs 3 _ rfl
  rw [cells_str] at g3
  obtain ⟨y3, hy3⟩ := at_some 3 hxl (by decide)
  rw [hy3] at g3
  obtain ⟨a3, e3⟩ := str_c g3
  have g4 : DataW.trod enc Tryz.prog W 0 (fun _ => true) held n 23 ((cs.drop 4).take (Tryz.prog.cellsOf 23)) = xs[4]? := hfs 4 _ rfl
  rw [cells_dig] at g4
  obtain ⟨y4, hy4⟩ := at_some 4 hxl (by decide)
  rw [hy4] at g4
  obtain ⟨a4, e4, b4⟩ := dig_c g4
  have g5 : DataW.trod enc Tryz.prog W 0 (fun _ => true) held n 23 ((cs.drop 36).take (Tryz.prog.cellsOf 23)) = xs[5]? := hfs 5 _ rfl
  rw [cells_dig] at g5
  obtain ⟨y5, hy5⟩ := at_some 5 hxl (by decide)
  rw [hy5] at g5
  obtain ⟨a5, e5, b5⟩ := dig_c g5
  have hcs : cs = [nu a0] ++ ([nu a1] ++ ([nu a2] ++ ([st a3] ++ (dg a4 ++ (dg a5 ++ []))))) := (stp cs 0 1 1 rfl).trans (congr (congrArg HAppend.hAppend e0) ((stp cs 1 1 2 rfl).trans (congr (congrArg HAppend.hAppend e1) ((stp cs 2 1 3 rfl).trans (congr (congrArg HAppend.hAppend e2) ((stp cs 3 1 4 rfl).trans (congr (congrArg HAppend.hAppend e3) ((stp cs 4 32 36 rfl).trans (congr (congrArg HAppend.hAppend e4) ((stp cs 36 32 68 rfl).trans (congr (congrArg HAppend.hAppend e5) (List.drop_eq_nil_of_le (by omega)))))))))))))
  refine ⟨⟨a0, a1, a2, a3, a4, a5⟩, ?_, ⟨b4, b5⟩, ⟨b0, b1, b2⟩⟩
  rw [hcs]; simp [subC]
theorem pen_c (h : DataW.trod enc Tryz.prog W 0 (fun _ => true) held fuel 113 cs = some x) : ∃ y : Pen, cs = penC y ∧ penOk y := by
  obtain ⟨xs, n, _, _, hl, hlen, hfs⟩ := DataW.trod_struct Tryz.underlying113 h
  rw [cells_pen] at hl
  have hxl : xs.length = 6 := hlen
  have g0 : DataW.trod enc Tryz.prog W 0 (fun _ => true) held n 3 ((cs.drop 0).take (Tryz.prog.cellsOf 3)) = xs[0]? := hfs 0 _ rfl
  rw [cells_int] at g0
  obtain ⟨y0, hy0⟩ := at_some 0 hxl (by decide)
  rw [hy0] at g0
  obtain ⟨a0, e0, b0⟩ := int_c g0
  have g1 : DataW.trod enc Tryz.prog W 0 (fun _ => true) held n 3 ((cs.drop 1).take (Tryz.prog.cellsOf 3)) = xs[1]? := hfs 1 _ rfl
  rw [cells_int] at g1
  obtain ⟨y1, hy1⟩ := at_some 1 hxl (by decide)
  rw [hy1] at g1
  obtain ⟨a1, e1, b1⟩ := int_c g1
  have g2 : DataW.trod enc Tryz.prog W 0 (fun _ => true) held n 3 ((cs.drop 2).take (Tryz.prog.cellsOf 3)) = xs[2]? := hfs 2 _ rfl
  rw [cells_int] at g2
  obtain ⟨y2, hy2⟩ := at_some 2 hxl (by decide)
  rw [hy2] at g2
  obtain ⟨a2, e2, b2⟩ := int_c g2
  have g3 : DataW.trod enc Tryz.prog W 0 (fun _ => true) held n 3 ((cs.drop 3).take (Tryz.prog.cellsOf 3)) = xs[3]? := hfs 3 _ rfl
  rw [cells_int] at g3
  obtain ⟨y3, hy3⟩ := at_some 3 hxl (by decide)
  rw [hy3] at g3
  obtain ⟨a3, e3, b3⟩ := int_c g3
  have g4 : DataW.trod enc Tryz.prog W 0 (fun _ => true) held n 23 ((cs.drop 4).take (Tryz.prog.cellsOf 23)) = xs[4]? := hfs 4 _ rfl
  rw [cells_dig] at g4
  obtain ⟨y4, hy4⟩ := at_some 4 hxl (by decide)
  rw [hy4] at g4
  obtain ⟨a4, e4, b4⟩ := dig_c g4
  have g5 : DataW.trod enc Tryz.prog W 0 (fun _ => true) held n 23 ((cs.drop 36).take (Tryz.prog.cellsOf 23)) = xs[5]? := hfs 5 _ rfl
  rw [cells_dig] at g5
  obtain ⟨y5, hy5⟩ := at_some 5 hxl (by decide)
  rw [hy5] at g5
  obtain ⟨a5, e5, b5⟩ := dig_c g5
  have hcs : cs = [nu a0] ++ ([nu a1] ++ ([nu a2] ++ ([nu a3] ++ (dg a4 ++ (dg a5 ++ []))))) := (stp cs 0 1 1 rfl).trans (congr (congrArg HAppend.hAppend e0) ((stp cs 1 1 2 rfl).trans (congr (congrArg HAppend.hAppend e1) ((stp cs 2 1 3 rfl).trans (congr (congrArg HAppend.hAppend e2) ((stp cs 3 1 4 rfl).trans (congr (congrArg HAppend.hAppend e3) ((stp cs 4 32 36 rfl).trans (congr (congrArg HAppend.hAppend e4) ((stp cs 36 32 68 rfl).trans (congr (congrArg HAppend.hAppend e5) (List.drop_eq_nil_of_le (by omega)))))))))))))
  refine ⟨⟨a0, a1, a2, a3, a4, a5⟩, ?_, ⟨b0, b1, b2, b3, b4, b5⟩⟩
  rw [hcs]; simp [penC]
theorem blo_c (h : DataW.trod enc Tryz.prog W 0 (fun _ => true) held fuel 30 cs = some x) : ∃ y : Blo, cs = bloC y ∧ y.Wf ∧ (I64 y.owner ∧ I64 y.number) := by
  obtain ⟨xs, n, _, _, hl, hlen, hfs⟩ := DataW.trod_struct Tryz.underlying30 h
  rw [cells_blo] at hl
  have hxl : xs.length = 4 := hlen
  have g0 : DataW.trod enc Tryz.prog W 0 (fun _ => true) held n 3 ((cs.drop 0).take (Tryz.prog.cellsOf 3)) = xs[0]? := hfs 0 _ rfl
  rw [cells_int] at g0
  obtain ⟨y0, hy0⟩ := at_some 0 hxl (by decide)
  rw [hy0] at g0
  obtain ⟨a0, e0, b0⟩ := int_c g0
  have g1 : DataW.trod enc Tryz.prog W 0 (fun _ => true) held n 3 ((cs.drop 1).take (Tryz.prog.cellsOf 3)) = xs[1]? := hfs 1 _ rfl
  rw [cells_int] at g1
  obtain ⟨y1, hy1⟩ := at_some 1 hxl (by decide)
  rw [hy1] at g1
  obtain ⟨a1, e1, b1⟩ := int_c g1
  have g2 : DataW.trod enc Tryz.prog W 0 (fun _ => true) held n 9 ((cs.drop 2).take (Tryz.prog.cellsOf 9)) = xs[2]? := hfs 2 _ rfl
  rw [cells_str] at g2
  obtain ⟨y2, hy2⟩ := at_some 2 hxl (by decide)
  rw [hy2] at g2
  obtain ⟨a2, e2⟩ := str_c g2
  have g3 : DataW.trod enc Tryz.prog W 0 (fun _ => true) held n 23 ((cs.drop 3).take (Tryz.prog.cellsOf 23)) = xs[3]? := hfs 3 _ rfl
  rw [cells_dig] at g3
  obtain ⟨y3, hy3⟩ := at_some 3 hxl (by decide)
  rw [hy3] at g3
  obtain ⟨a3, e3, b3⟩ := dig_c g3
  have hcs : cs = [nu a0] ++ ([nu a1] ++ ([st a2] ++ (dg a3 ++ []))) := (stp cs 0 1 1 rfl).trans (congr (congrArg HAppend.hAppend e0) ((stp cs 1 1 2 rfl).trans (congr (congrArg HAppend.hAppend e1) ((stp cs 2 1 3 rfl).trans (congr (congrArg HAppend.hAppend e2) ((stp cs 3 32 35 rfl).trans (congr (congrArg HAppend.hAppend e3) (List.drop_eq_nil_of_le (by omega)))))))))
  refine ⟨⟨a0, a1, a2, a3⟩, ?_, ⟨b3⟩, b0, b1⟩
  rw [hcs]; simp [bloC]
theorem pens_build (a : Addr) : ∀ (n : Nat), (∀ j, j < n → ∃ y : Pen, penOk y ∧ ∀ i c, (penC y)[i]? = some c → W.cell? ((a.add (j * 68)).add i) = some c) → ∃ ps : List Pen, ps.length = n ∧ (∀ p ∈ ps, penOk p) ∧ ∀ j, j < n → ∀ i c, (penC (ps.getD j noPen))[i]? = some c → W.cell? ((a.add (j * 68)).add i) = some c
  | 0, _ => ⟨[], rfl, (fun p hp => by cases hp), fun j hj => absurd hj (Nat.not_lt_zero j)⟩
  | n + 1, h => by
    obtain ⟨ps, h1, h2, h3⟩ := pens_build a n (fun j hj => h j (by omega))
    obtain ⟨y, hy, hc⟩ := h n (by omega)
    refine ⟨ps ++ [y], by simp [h1], ?_, fun j hj => ?_⟩
    · intro p hp
      rcases List.mem_append.1 hp with hp | hp
      · exact h2 p hp
      · simp at hp; subst hp; exact hy
    · by_cases e : j = n
      · subst e
        have : (ps ++ [y]).getD j noPen = y := by simp [List.getD, ← h1]
        rw [this]
        exact hc
      · have : (ps ++ [y]).getD j noPen = ps.getD j noPen := by simp [List.getD, List.getElem?_append_left (by omega : j < ps.length)]
        rw [this]
        exact h3 j (by omega)
theorem pens_c (h : DataW.trod enc Tryz.prog W 0 (fun _ => true) held fuel 26 cs = some x) : ∃ v ps, cs = [v] ∧ PensAt W v ps ∧ (∀ p ∈ ps, penOk p) ∧ ps.length ≤ 9223372036854775807 := by
  rcases Go.Deep.open_slice Tryz.underlying26 h with ⟨hcs, hx⟩ | ⟨a, len, cap, m, n, Df, Pf, hcs, hb, hl, hm, hmm, hx, hat⟩
  · exact ⟨_, [], hcs, PensAt.nil W, (fun n hn => by cases hn), Nat.zero_le _⟩
  · simp only [if_true] at hmm
    subst hmm
    obtain ⟨ps, p1, p2, p3⟩ := pens_build (W := W) a len (fun j hj => by
      obtain ⟨cs', hcs', ht⟩ := hat j (by omega)
      rw [cells_pen] at hcs'
      obtain ⟨y, rfl, hy⟩ := pen_c ht
      refine ⟨y, hy, fun i c hi => ?_⟩
      have h0 := (World.cells?_some hcs').2.2 i (by have := (List.getElem?_eq_some_iff.1 hi).1; have := penC_len (wf_of_ok hy); omega)
      rw [hi] at h0
      exact h0)
    refine ⟨_, ps, hcs, ⟨some a, m, by rw [p1], fun hne => ?_⟩, p2, ?_⟩
    · have hpos : 0 < len := by
        rcases Nat.eq_zero_or_pos len with e | e
        · exact absurd (List.length_eq_zero_iff.1 (p1.trans e)) hne
        · exact e
      obtain ⟨b, off, spot⟩ := a
      have hw0 := getD_wf (fun p hp => wf_of_ok (p2 p hp)) 0 (by omega)
      have h00 := p3 0 hpos 0 (nu (ps.getD 0 noPen).client) rfl
      have hspot : spot = none := by simpa [Addr.add] using World.cell?_spot h00
      subst hspot
      refine ⟨b, off, rfl, fun j hj i c hi => ?_⟩
      rw [p1] at hj
      have h9 := p3 j hj i c hi
      rw [Go.WideShapes.add_plain, Go.WideShapes.add_plain] at h9
      exact h9
    · rw [p1]
      have : m ≤ 9223372036854775807 := hm
      omega
theorem rep_c (h : DataW.trod enc Tryz.prog W 0 (fun _ => true) held fuel 28 cs = some x) : ∃ (y : Rep) (vP : Value), cs = repC y vP ∧ y.Wf ∧ (I64 y.number ∧ I64 y.last ∧ I64 y.vnum ∧ ∀ p ∈ y.pend, penOk p) ∧ PensAt W vP y.pend ∧ y.pend.length ≤ 9223372036854775807 := by
  obtain ⟨xs, n, _, _, hl, hlen, hfs⟩ := DataW.trod_struct Tryz.underlying28 h
  rw [cells_rep] at hl
  have hxl : xs.length = 10 := hlen
  have g0 : DataW.trod enc Tryz.prog W 0 (fun _ => true) held n 3 ((cs.drop 0).take (Tryz.prog.cellsOf 3)) = xs[0]? := hfs 0 _ rfl
  rw [cells_int] at g0
  obtain ⟨y0, hy0⟩ := at_some 0 hxl (by decide)
  rw [hy0] at g0
  obtain ⟨a0, e0, b0⟩ := int_c g0
  have g1 : DataW.trod enc Tryz.prog W 0 (fun _ => true) held n 3 ((cs.drop 1).take (Tryz.prog.cellsOf 3)) = xs[1]? := hfs 1 _ rfl
  rw [cells_int] at g1
  obtain ⟨y1, hy1⟩ := at_some 1 hxl (by decide)
  rw [hy1] at g1
  obtain ⟨a1, e1, b1⟩ := int_c g1
  have g2 : DataW.trod enc Tryz.prog W 0 (fun _ => true) held n 9 ((cs.drop 2).take (Tryz.prog.cellsOf 9)) = xs[2]? := hfs 2 _ rfl
  rw [cells_str] at g2
  obtain ⟨y2, hy2⟩ := at_some 2 hxl (by decide)
  rw [hy2] at g2
  obtain ⟨a2, e2⟩ := str_c g2
  have g3 : DataW.trod enc Tryz.prog W 0 (fun _ => true) held n 23 ((cs.drop 3).take (Tryz.prog.cellsOf 23)) = xs[3]? := hfs 3 _ rfl
  rw [cells_dig] at g3
  obtain ⟨y3, hy3⟩ := at_some 3 hxl (by decide)
  rw [hy3] at g3
  obtain ⟨a3, e3, b3⟩ := dig_c g3
  have g4 : DataW.trod enc Tryz.prog W 0 (fun _ => true) held n 26 ((cs.drop 35).take (Tryz.prog.cellsOf 26)) = xs[4]? := hfs 4 _ rfl
  rw [cells_pens] at g4
  obtain ⟨y4, hy4⟩ := at_some 4 hxl (by decide)
  rw [hy4] at g4
  obtain ⟨v4, a4, e4, b4, r4, l4⟩ := pens_c g4
  have g5 : DataW.trod enc Tryz.prog W 0 (fun _ => true) held n 3 ((cs.drop 36).take (Tryz.prog.cellsOf 3)) = xs[5]? := hfs 5 _ rfl
  rw [cells_int] at g5
  obtain ⟨y5, hy5⟩ := at_some 5 hxl (by decide)
  rw [hy5] at g5
  obtain ⟨a5, e5, b5⟩ := int_c g5
  have g6 : DataW.trod enc Tryz.prog W 0 (fun _ => true) held n 9 ((cs.drop 37).take (Tryz.prog.cellsOf 9)) = xs[6]? := hfs 6 _ rfl
  rw [cells_str] at g6
  obtain ⟨y6, hy6⟩ := at_some 6 hxl (by decide)
  rw [hy6] at g6
  obtain ⟨a6, e6⟩ := str_c g6
  have g7 : DataW.trod enc Tryz.prog W 0 (fun _ => true) held n 23 ((cs.drop 38).take (Tryz.prog.cellsOf 23)) = xs[7]? := hfs 7 _ rfl
  rw [cells_dig] at g7
  obtain ⟨y7, hy7⟩ := at_some 7 hxl (by decide)
  rw [hy7] at g7
  obtain ⟨a7, e7, b7⟩ := dig_c g7
  have g8 : DataW.trod enc Tryz.prog W 0 (fun _ => true) held n 9 ((cs.drop 70).take (Tryz.prog.cellsOf 9)) = xs[8]? := hfs 8 _ rfl
  rw [cells_str] at g8
  obtain ⟨y8, hy8⟩ := at_some 8 hxl (by decide)
  rw [hy8] at g8
  obtain ⟨a8, e8⟩ := str_c g8
  have g9 : DataW.trod enc Tryz.prog W 0 (fun _ => true) held n 23 ((cs.drop 71).take (Tryz.prog.cellsOf 23)) = xs[9]? := hfs 9 _ rfl
  rw [cells_dig] at g9
  obtain ⟨y9, hy9⟩ := at_some 9 hxl (by decide)
  rw [hy9] at g9
  obtain ⟨a9, e9, b9⟩ := dig_c g9
  have hcs : cs = [nu a0] ++ ([nu a1] ++ ([st a2] ++ (dg a3 ++ ([v4] ++ ([nu a5] ++ ([st a6] ++ (dg a7 ++ ([st a8] ++ (dg a9 ++ []))))))))) := (stp cs 0 1 1 rfl).trans (congr (congrArg HAppend.hAppend e0) ((stp cs 1 1 2 rfl).trans (congr (congrArg HAppend.hAppend e1) ((stp cs 2 1 3 rfl).trans (congr (congrArg HAppend.hAppend e2) ((stp cs 3 32 35 rfl).trans (congr (congrArg HAppend.hAppend e3) ((stp cs 35 1 36 rfl).trans (congr (congrArg HAppend.hAppend e4) ((stp cs 36 1 37 rfl).trans (congr (congrArg HAppend.hAppend e5) ((stp cs 37 1 38 rfl).trans (congr (congrArg HAppend.hAppend e6) ((stp cs 38 32 70 rfl).trans (congr (congrArg HAppend.hAppend e7) ((stp cs 70 1 71 rfl).trans (congr (congrArg HAppend.hAppend e8) ((stp cs 71 32 103 rfl).trans (congr (congrArg HAppend.hAppend e9) (List.drop_eq_nil_of_le (by omega)))))))))))))))))))))
  refine ⟨⟨a0, a1, a2, a3, a4, a5, a6, a7, a8, a9⟩, v4, ?_, ⟨b3, b7, b9, fun p hp => wf_of_ok (r4 p hp)⟩, ⟨b0, b1, b5, r4⟩, b4, l4⟩
  rw [hcs]; simp [repC]
theorem msg_c (h : DataW.trod enc Tryz.prog W 0 (fun _ => true) held fuel 33 cs = some x) : ∃ (m : Msg) (vP vN : Value), cs = msgC m vP vN ∧ m.Wf ∧ m.Rng ∧ PensAt W vP m.rep.pend ∧ IntsAt W vN m.nums ∧ Lens m := by
  obtain ⟨xs, n, _, _, hl, hlen, hfs⟩ := DataW.trod_struct Tryz.underlying33 h
  rw [cells_msg] at hl
  have hxl : xs.length = 10 := hlen
  have g0 : DataW.trod enc Tryz.prog W 0 (fun _ => true) held n 3 ((cs.drop 0).take (Tryz.prog.cellsOf 3)) = xs[0]? := hfs 0 _ rfl
  rw [cells_int] at g0
  obtain ⟨y0, hy0⟩ := at_some 0 hxl (by decide)
  rw [hy0] at g0
  obtain ⟨a0, e0, b0⟩ := int_c g0
  have g1 : DataW.trod enc Tryz.prog W 0 (fun _ => true) held n 3 ((cs.drop 1).take (Tryz.prog.cellsOf 3)) = xs[1]? := hfs 1 _ rfl
  rw [cells_int] at g1
  obtain ⟨y1, hy1⟩ := at_some 1 hxl (by decide)
  rw [hy1] at g1
  obtain ⟨a1, e1, b1⟩ := int_c g1
  have g2 : DataW.trod enc Tryz.prog W 0 (fun _ => true) held n 25 ((cs.drop 2).take (Tryz.prog.cellsOf 25)) = xs[2]? := hfs 2 _ rfl
  rw [cells_sub] at g2
  obtain ⟨y2, hy2⟩ := at_some 2 hxl (by decide)
  rw [hy2] at g2
  obtain ⟨a2, e2, b2, r2⟩ := sub_c g2
  have g3 : DataW.trod enc Tryz.prog W 0 (fun _ => true) held n 28 ((cs.drop 70).take (Tryz.prog.cellsOf 28)) = xs[3]? := hfs 3 _ rfl
  rw [cells_rep] at g3
  obtain ⟨y3, hy3⟩ := at_some 3 hxl (by decide)
  rw [hy3] at g3
  obtain ⟨a3, v3, e3, b3, r3, p3, l3⟩ := rep_c g3
  have g4 : DataW.trod enc Tryz.prog W 0 (fun _ => true) held n 9 ((cs.drop 173).take (Tryz.prog.cellsOf 9)) = xs[4]? := hfs 4 _ rfl
  rw [cells_str] at g4
  obtain ⟨y4, hy4⟩ := at_some 4 hxl (by decide)
  rw [hy4] at g4
  obtain ⟨a4, e4⟩ := str_c g4
  have g5 : DataW.trod enc Tryz.prog W 0 (fun _ => true) held n 3 ((cs.drop 174).take (Tryz.prog.cellsOf 3)) = xs[5]? := hfs 5 _ rfl
  rw [cells_int] at g5
  obtain ⟨y5, hy5⟩ := at_some 5 hxl (by decide)
  rw [hy5] at g5
  obtain ⟨a5, e5, b5⟩ := int_c g5
  have g6 : DataW.trod enc Tryz.prog W 0 (fun _ => true) held n 23 ((cs.drop 175).take (Tryz.prog.cellsOf 23)) = xs[6]? := hfs 6 _ rfl
  rw [cells_dig] at g6
  obtain ⟨y6, hy6⟩ := at_some 6 hxl (by decide)
  rw [hy6] at g6
  obtain ⟨a6, e6, b6⟩ := dig_c g6
  have g7 : DataW.trod enc Tryz.prog W 0 (fun _ => true) held n 23 ((cs.drop 207).take (Tryz.prog.cellsOf 23)) = xs[7]? := hfs 7 _ rfl
  rw [cells_dig] at g7
  obtain ⟨y7, hy7⟩ := at_some 7 hxl (by decide)
  rw [hy7] at g7
  obtain ⟨a7, e7, b7⟩ := dig_c g7
  have g8 : DataW.trod enc Tryz.prog W 0 (fun _ => true) held n 30 ((cs.drop 239).take (Tryz.prog.cellsOf 30)) = xs[8]? := hfs 8 _ rfl
  rw [cells_blo] at g8
  obtain ⟨y8, hy8⟩ := at_some 8 hxl (by decide)
  rw [hy8] at g8
  obtain ⟨a8, e8, b8, r8⟩ := blo_c g8
  have g9 : DataW.trod enc Tryz.prog W 0 (fun _ => true) held n 31 ((cs.drop 274).take (Tryz.prog.cellsOf 31)) = xs[9]? := hfs 9 _ rfl
  rw [cells_ints] at g9
  obtain ⟨y9, hy9⟩ := at_some 9 hxl (by decide)
  rw [hy9] at g9
  obtain ⟨v9, a9, e9, b9, r9, l9⟩ := ints_c g9
  have hcs : cs = [nu a0] ++ ([nu a1] ++ (subC a2 ++ (repC a3 v3 ++ ([st a4] ++ ([nu a5] ++ (dg a6 ++ (dg a7 ++ (bloC a8 ++ ([v9] ++ []))))))))) := (stp cs 0 1 1 rfl).trans (congr (congrArg HAppend.hAppend e0) ((stp cs 1 1 2 rfl).trans (congr (congrArg HAppend.hAppend e1) ((stp cs 2 68 70 rfl).trans (congr (congrArg HAppend.hAppend e2) ((stp cs 70 103 173 rfl).trans (congr (congrArg HAppend.hAppend e3) ((stp cs 173 1 174 rfl).trans (congr (congrArg HAppend.hAppend e4) ((stp cs 174 1 175 rfl).trans (congr (congrArg HAppend.hAppend e5) ((stp cs 175 32 207 rfl).trans (congr (congrArg HAppend.hAppend e6) ((stp cs 207 32 239 rfl).trans (congr (congrArg HAppend.hAppend e7) ((stp cs 239 35 274 rfl).trans (congr (congrArg HAppend.hAppend e8) ((stp cs 274 1 275 rfl).trans (congr (congrArg HAppend.hAppend e9) (List.drop_eq_nil_of_le (by omega)))))))))))))))))))))
  refine ⟨⟨a0, a1, a2, a3, a4, a5, a6, a7, a8, a9⟩, v3, v9, ?_, ⟨b2, b3, b6, b7, b8⟩, ⟨b0, b1, r2.n, r2.k, r2.t, r3.1, r3.2.1, r3.2.2.1, b5, r8.1, r8.2, r9, r3.2.2.2⟩, p3, b9, l3, l9⟩
  rw [hcs]; simp [msgC]
theorem sixC_def : True := trivial
end
section
variable {H : Type} {enc : TypeId × Value → H} {W : World} {v : Value} {d : DataW H} {p : List MemPlace}
theorem agg_of {v : Value} {l : List Value} (h : v.cells.toList = l) (hl : 1 < l.length) : v = .agg l.toArray := by
  cases v with
  | agg cs => simp only [Value.cells] at h; rw [← h, Array.toArray_toList]
  | _ => simp [Value.cells] at h; subst h; simp at hl
theorem open_sub (h : DataW.Trod enc Tryz.prog W 0 (fun _ => true) true 25 v d p) : ∃ y : Sub, v = .agg (subC y).toArray ∧ y.Wf ∧ SubRng y := by
  obtain ⟨fuel, hf⟩ := h
  obtain ⟨y, hc, h1, h2⟩ := sub_c hf
  exact ⟨y, agg_of hc (by rw [subC_len h1]; decide), h1, h2⟩
theorem open_msg (h : DataW.Trod enc Tryz.prog W 0 (fun _ => true) true 33 v d p) : ∃ (m : Msg) (vP vN : Value), v = .agg (msgC m vP vN).toArray ∧ m.Wf ∧ m.Rng ∧ PensAt W vP m.rep.pend ∧ IntsAt W vN m.nums ∧ Lens m := by
  obtain ⟨fuel, hf⟩ := h
  obtain ⟨m, vP, vN, hc, h1, h2, h3, h4, h5⟩ := msg_c hf
  exact ⟨m, vP, vN, agg_of hc (by rw [msgC_len h1]; decide), h1, h2, h3, h4, h5⟩
end
end Go.Proofs.YtidlgecognedlaaGreatDoor.Ms

/-
  What the laid variables give the walks, and a start in which they lie so.
-/
namespace Go.Proofs.YtidlgecognedlaaGreatDoor
open Go.ChangeShapes Go.WideShapes Go.ChangeAt Go.WideMaps Go.WideElems Go.RowKit

def laidAll : List (String × DataW Unit) := [("math/bits.deBruijn32tab", Rows.laid_math_bits_deBruijn32tab), ("math/bits.deBruijn64tab", Rows.laid_math_bits_deBruijn64tab), ("internal/strconv.uint64pow10", Rows.laid_internal_strconv_uint64pow10), ("strconv.ErrRange", Rows.laid_strconv_ErrRange), ("strconv.ErrSyntax", Rows.laid_strconv_ErrSyntax)]

theorem own : ownKnob Tryz.prog.godebug = none := by kernel_rfl
theorem tPow : (Tryz.prog.globals[0]?).map (·.type) = some 278 := by kernel_rfl
theorem tRange : (Tryz.prog.globals[2]?).map (·.type) = some 149 := by kernel_rfl
theorem door_met (os : Os) (args : Array Value) : laidMetH Tryz.prog laidAll ((World.doorLaid Tryz.prog 62 os).forCall (fun _ _ => 0) ⟨#[], args, []⟩).memory :=
  laidMetH_of_parts3 (fuel := 8) (laidMet_of_run' 8 (by kernel_rfl) (by kernel_rfl)) (by kernel_rfl) (by kernel_rfl)

theorem cells256 : Tryz.prog.cellsOf 256 = 1 := by kernel_rfl
theorem cells278 : Tryz.prog.cellsOf 278 = 20 := by kernel_rfl
theorem cells291 : Tryz.prog.cellsOf 291 = 1 := by kernel_rfl
theorem cells9 : Tryz.prog.cellsOf 9 = 1 := by kernel_rfl
theorem star : "*" ++ "errors.errorString" = "*errors.errorString" := by decide
theorem row289 (u : TypeId) (h : Tryz.prog.typeName? 3 u = some "*errors.errorString") : u = 289 :=
  typeName_ptr_named (nm := "errors.errorString") (by rw [star]; kernel_rfl) (by kernel_rfl) (by decide) u (by rw [star]; exact h)
theorem powData : (Rows.laid_internal_strconv_uint64pow10 : DataW Unit) = Lib.tabData .u64 Lib.pow10Tab := by kernel_rfl

theorem tabs_of_laid {W : World} (h : laidMetH Tryz.prog laidAll W) : Lay.Tabs W := by
  rw [MakeChecks.laidMetH_plain _ _ _ (by kernel_rfl)] at h
  have h2 := h.tail.tail
  rw [powData] at h2
  obtain ⟨a, s, hv, -, -, -⟩ := laid_sentinel h.tail.tail.tail Lay.gRange tRange Tryz.underlying149 row289 Tryz.underlying289 Tryz.underlying291 rfl rfl Tryz.underlying9 cells291 cells9
  exact ⟨Lib.tabIs_of_head Lay.gPow tPow Tryz.underlying278 Tryz.underlying256 cells256 cells278 h2, _, _, hv⟩

end Go.Proofs.YtidlgecognedlaaGreatDoor

/-
  MsgPuts answers true at every input. The package variables that are listed hold what the program's text lays (the card ties them).
-/
namespace Go.Proofs.YtidlgecognedlaaGreatDoor
open Go.ChangeShapes Go.WideShapes Go.ChangeAt Go.WideMaps Go.WideElems Go.RowKit
open Go.ChangeMaps (open_string shut_string)
set_option maxRecDepth 100000

theorem msgPuts_lifted (os : Os) (started : os.Started) (H : Type) (enc : TypeId × Value → H) :
    ReturnsInHanded {} Tryz.checked os 3 .any (fun w args => (Rows.msgPutsSpec.pre enc Tryz.prog Tryz.f3 [] false w args ∧ laidMetH Tryz.prog laidAll w) ∧ sizedMet enc Tryz.prog Tryz.f3 (OpenSpec.ofChange Rows.msgPutsSpec) false w args)
      (Rows.msgPutsSpec.post enc Tryz.prog Tryz.f3 false true false false) := by
  refine returnsInHanded_of_change_and (C := Tryz.checked) (X := fun w _ => laidMetH Tryz.prog laidAll w) (fun _ _ _ hh h => h.of_heap hh) own started (by kernel_rfl) Tryz.func3
    (ChangeSpec.witness_shaped (enc := enc) (C := Tryz.checked) (os := os) (X := fun w _ => laidMetH Tryz.prog laidAll w) false (World.doorLaid Tryz.prog 62 os) #[.agg (Ms.msgC (Ms.zeroM 0 0) (.slice none 0 0) (.slice none 0 0)).toArray] 8 rfl (World.shaped_of_RefB (by kernel_rfl) (by kernel_rfl)) (by kernel_rfl) (by kernel_rfl) (by kernel_rfl) (door_met os _)) ?_
  intro W base args ds gs before hval0 hW _ hsz hL _
  have hval : ∀ (j : Nat) t v, Tryz.f3.params[j]? = some t → args[j]? = some v → Value.okWide Tryz.prog W .any base t v := hval0
  have hW' := hW
  obtain ⟨p, q, hA0, hV, rfl, hfz, hnd⟩ := hW
  have hA : DataW.TrodAll enc Tryz.prog W 0 (fun _ => true) true Tryz.f3.params.toList args.toList ds p := hA0
  rw [Tryz.params3] at hA hval hsz
  obtain ⟨v0, d0, rfl, rfl, h0⟩ := trodAll_one hA
  obtain ⟨rfl, rfl⟩ := trodVars_none hV
  obtain ⟨m0, vP0, vN0, rfl, hw0, hr0, hp0, hn0, hl0⟩ := Ms.open_msg h0
  clear hA0 hval0
  simp only [List.append_nil] at hW'
  have hlt : ∀ x ∈ p, x.block < W.heap.size := fun x hx => by simpa using hW'.lt x (by simpa using hx)
  have hcall : Calls Tryz.prog 3 #[.agg (Ms.msgC m0 vP0 vN0).toArray] W fun e w' => e = .returned (.bool true) ∧ Below W.heap.size W w' := Ms.puts_walk W (tabs_of_laid hL) m0 vP0 vN0 hw0 hr0 hp0 hn0 hl0
  refine hcall.mono fun e W' ⟨he, hnx⟩ => ?_
  subst he
  refine ⟨_, rfl, _, _, _, [], p, [], hW', ?_, ?_, rfl, hnx.frame _, fun h => by cases h⟩
  · exact trodAll_mk1 (shut_bool Tryz.underlying4 _)
  · exact trodAll_mk1 (Below.trod Ms.laidOut (by kernel_rfl) (of_decide_eq_true (by kernel_rfl)) h0 hnx (fun x hx => hlt x (by simp [hx])))

theorem msgPuts_holds : Rows.MsgPutsSaid :=
  OpenClaim.holds_of_wide 3 Tryz.f3 rfl rfl rfl rfl rfl rfl rfl ⟨rfl, rfl, rfl, rfl, rfl⟩ rfl rfl rfl rfl rfl (by kernel_rfl) Tryz.func3 (by kernel_rfl)
    (of_decide_eq_true (by kernel_rfl)) (by unfold Func.isWrapper; rw [if_neg (of_decide_eq_false (by kernel_rfl))]; exact ⟨rfl, rfl⟩)
    (fun os started H enc _ => msgPuts_lifted os started H enc)

theorem msgPuts_card : Rows.MsgPutsCardSaid :=
  Claim7.holds_tied_plain_at .later [] [.data, .data, .data, .sentinel, .sentinel] true (true, "13b6fa1e03616571691fe375483eda57d555c83c3b9395122552457aff03d5a7") true
    msgPuts_holds (fun _ h => by cases h) (by kernel_rfl) (fun _ h => by cases h) msgPuts_row_tie rfl ⟨rfl, rfl⟩ (by kernel_rfl) rfl
    (fun f fn hf hfn => by
      obtain rfl : f = 3 := Option.some.inj ((show Tryz.prog.funcNamed "affidavit/affidavitlaw10.MsgPuts" = some 3 by kernel_rfl).symm.trans hf) |>.symm
      obtain rfl : fn = Tryz.f3 := (Option.some.inj (Tryz.func3.symm.trans hfn)).symm
      exact ⟨by kernel_rfl, fun j t ht => by
        rw [Tryz.params3] at ht
        have hm : t ∈ [33] := by simpa using Array.mem_of_getElem? ht
        have hall : ([33].all fun u => !Tryz.prog.wantsStandIn u) = true := by kernel_rfl
        exact (show Tryz.prog.wantsStandIn t = false by simpa using List.all_eq_true.1 hall t hm)⟩)
    (by kernel_rfl)
#print axioms msgPuts_card
end Go.Proofs.YtidlgecognedlaaGreatDoor
