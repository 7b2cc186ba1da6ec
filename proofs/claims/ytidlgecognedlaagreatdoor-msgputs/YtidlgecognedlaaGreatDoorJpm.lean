/-
  Whether what a message's kind has may be: what msg.partsMayBe answers.
-/
import Derived.Test.YtidlgecognedlaaGreatDoorJmb
namespace Go.Proofs.YtidlgecognedlaaGreatDoor.Ms
open Go Go.RowKit
set_option maxRecDepth 100000

/-- What msg.replyMayBe answers of a reply. -/
def RepOk (r : Rep) : Prop := ∀ (w : World) (vP : Value), PensAt w vP r.pend → Calls Tryz.prog 125 #[.agg (repC r vP).toArray] w fun e w' => e = .returned (.bool (repB r)) ∧ Below w.heap.size w w'
set_option maxHeartbeats 8000000 in
theorem partsmay_any {w : World} {m : Msg} {vP vN : Value} (hw : m.Wf) (hp : PensAt w vP m.rep.pend) (hn : IntsAt w vN m.nums) (hR : m.kind = 2 → RepOk m.rep) (hmx : m.nums.length ≤ 9223372036854775807) :
    Calls Tryz.prog 86 #[.agg (msgC m vP vN).toArray] w fun e w' => e = .returned (.bool (partsB m)) ∧ Below w.heap.size w w' := by
  have HB0 := hid (below_a1 w (.cells (msgC m vP vN).toArray 33))
  have R0 := hid (top_obj w (.cells (msgC m vP vN).toArray 33))
  have HP := hid (hp.kept HB0.out)
  have HN := hid (hn.kept HB0.out)
  obtain ⟨pa, pc, rfl, -⟩ := hp
  obtain ⟨na, nc, rfl, -⟩ := hn
  have HW := hid hw
  have HRR := hid hR
  obtain ⟨RA, hRA⟩ : ∃ RA, RA = (msgC m (.slice pa m.rep.pend.length pc) (.slice na m.nums.length nc)).toArray := ⟨_, rfl⟩
  rw [← hRA] at HB0 R0 HP HN ⊢
  have HRA := hid hRA
  clear hRA hw hR
  go_enter Tryz.func86, Tryz.ntmps86
  go_upto_region 1 with fail
  generalize w.alloc (.cells RA 33) = W0 at *
  obtain ⟨g0, hg0⟩ : ∃ g0, g0 = w.heap.size := ⟨_, rfl⟩
  rw [← hg0] at R0 ⊢
  clear hg0
  have r0 := R0.out
  rw [HRA.out] at r0
  clear R0 HRA
  have hw := HW.out
  have c_kind := mrow_kind r0 hw
  rcases fields_cases m.kind with ⟨hk, e⟩ | ⟨hk, e⟩ | ⟨hk, e⟩ | ⟨hk, e⟩ | ⟨hk, e⟩ | ⟨hk, e⟩ | ⟨hk, e⟩ | ⟨hk, e⟩ | ⟨hk, e⟩ <;> clear e
  · as_aux_lemma =>
    have HF : Hid (partsB m = subB m.sub) := by show _ = _; unfold partsB; rw [if_pos hk]
    rw [hk] at c_kind
    have S0 := hid (mrow_sub r0 hw)
    have Z0 : (Tryz.prog.info? 25).map (·.size) = some (subC m.sub).length := by rw [subC_len hw.sub]; exact sizeSub
    have HX := hid (fun W => submay_any m.sub hw.sub W)
    generalize subC m.sub = V at *
    generalize subB m.sub = bb at *
    clear r0 hk hw HRR
    go_wp2_with (first | ((with_reducible refine wl_load 25 (.tmp 7) ?_ g0 2 ?_ ?_ V _ S0.out Tryz.underlying25 ?_ Z0 ?_); exact rfl; exact rfl; exact rfl; exact rfl))
    refine (HX.out _).mono ?_
    rintro e w1 ⟨rfl, hb⟩
    have HB1 := hid (below_two HB0.out hb)
    clear hb
    go_wp2
    go_ret
    exact ⟨(by rw [HF.out]; try rfl), HB1.out⟩
  · as_aux_lemma =>
    have HF : Hid (partsB m = repB m.rep) := by show _ = _; unfold partsB; rw [if_neg (by omega : ¬ m.kind = 1), if_pos hk]
    rw [hk] at c_kind
    have S0 := hid (mrow_rep r0 hw)
    have Z0 : (Tryz.prog.info? 28).map (·.size) = some (repC m.rep (.slice pa m.rep.pend.length pc)).length := by rw [repC_len hw.rep]; exact sizeRep
    have HX := hid (HRR.out hk _ _ HP.out)
    generalize repC m.rep (.slice pa m.rep.pend.length pc) = V at *
    generalize repB m.rep = bb at *
    clear r0 hk hw HRR
    go_wp2_with (first | ((with_reducible refine wl_load 28 (.tmp 12) ?_ g0 70 ?_ ?_ V _ S0.out Tryz.underlying28 ?_ Z0 ?_); exact rfl; exact rfl; exact rfl; exact rfl))
    refine (HX.out).mono ?_
    rintro e w1 ⟨rfl, hb⟩
    have HB1 := hid (below_two HB0.out hb)
    clear hb
    go_wp2
    go_ret
    exact ⟨(by rw [HF.out]; try rfl), HB1.out⟩
  · as_aux_lemma =>
    have HF : Hid (partsB m = viewB m.view) := by show _ = _; unfold partsB; rw [if_neg (by omega : ¬ m.kind = 1), if_neg (by omega : ¬ m.kind = 2), if_pos hk]
    rw [hk] at c_kind
    have c_view := mrow_view r0 hw
    have HX := hid (fun W => viewmay_any m.view W)
    generalize viewB m.view = bb at *
    clear r0 hk hw HRR
    go_wp2_with fail
    refine (HX.out _).mono ?_
    rintro e w1 ⟨rfl, hb⟩
    have HB1 := hid (below_two HB0.out hb)
    clear hb
    go_wp2
    go_ret
    exact ⟨(by rw [HF.out]; try rfl), HB1.out⟩
  · have HF : Hid (partsB m = bloB m.blob) := by show _ = _; unfold partsB; rw [if_neg (by omega : ¬ m.kind = 1), if_neg (by omega : ¬ m.kind = 2), if_neg (by omega : ¬ m.kind = 3), if_pos hk]
    rcases hk with hk | hk
    · as_aux_lemma =>
      rw [hk] at c_kind
      have S0 := hid (mrow_blob r0 hw)
      have Z0 : (Tryz.prog.info? 30).map (·.size) = some (bloC m.blob).length := by rw [bloC_len hw.blob]; exact sizeBlo
      have HX := hid (fun W => blomay_any m.blob hw.blob W)
      generalize bloC m.blob = V at *
      generalize bloB m.blob = bb at *
      clear r0 hk hw HRR
      go_wp2_with (first | ((with_reducible refine wl_load 30 (.tmp 23) ?_ g0 239 ?_ ?_ V _ S0.out Tryz.underlying30 ?_ Z0 ?_); exact rfl; exact rfl; exact rfl; exact rfl))
      refine (HX.out _).mono ?_
      rintro e w1 ⟨rfl, hb⟩
      have HB1 := hid (below_two HB0.out hb)
      clear hb
      go_wp2
      go_ret
      exact ⟨(by rw [HF.out]; try rfl), HB1.out⟩
    · as_aux_lemma =>
      rw [hk] at c_kind
      have S0 := hid (mrow_blob r0 hw)
      have Z0 : (Tryz.prog.info? 30).map (·.size) = some (bloC m.blob).length := by rw [bloC_len hw.blob]; exact sizeBlo
      have HX := hid (fun W => blomay_any m.blob hw.blob W)
      generalize bloC m.blob = V at *
      generalize bloB m.blob = bb at *
      clear r0 hk hw HRR
      go_wp2_with (first | ((with_reducible refine wl_load 30 (.tmp 23) ?_ g0 239 ?_ ?_ V _ S0.out Tryz.underlying30 ?_ Z0 ?_); exact rfl; exact rfl; exact rfl; exact rfl))
      refine (HX.out _).mono ?_
      rintro e w1 ⟨rfl, hb⟩
      have HB1 := hid (below_two HB0.out hb)
      clear hb
      go_wp2
      go_ret
      exact ⟨(by rw [HF.out]; try rfl), HB1.out⟩
  · have HF : Hid (partsB m = numsB m.nums) := by show _ = _; unfold partsB; rw [if_neg (by omega : ¬ m.kind = 1), if_neg (by omega : ¬ m.kind = 2), if_neg (by omega : ¬ m.kind = 3), if_neg (by omega : ¬ (m.kind = 4 ∨ m.kind = 6)), if_pos hk]
    rcases hk with hk | hk | hk
    · as_aux_lemma =>
      rw [hk] at c_kind
      have c_nums := mrow_nums r0 hw
      have HX := hid (numsmay_any HN.out hmx)
      generalize numsB m.nums = bb at *
      clear r0 hk hw HRR
      go_wp2_with fail
      refine (HX.out).mono ?_
      rintro e w1 ⟨rfl, hb⟩
      have HB1 := hid (below_two HB0.out hb)
      clear hb
      go_wp2
      go_ret
      exact ⟨(by rw [HF.out]; try rfl), HB1.out⟩
    · as_aux_lemma =>
      rw [hk] at c_kind
      have c_nums := mrow_nums r0 hw
      have HX := hid (numsmay_any HN.out hmx)
      generalize numsB m.nums = bb at *
      clear r0 hk hw HRR
      go_wp2_with fail
      refine (HX.out).mono ?_
      rintro e w1 ⟨rfl, hb⟩
      have HB1 := hid (below_two HB0.out hb)
      clear hb
      go_wp2
      go_ret
      exact ⟨(by rw [HF.out]; try rfl), HB1.out⟩
    · as_aux_lemma =>
      rw [hk] at c_kind
      have c_nums := mrow_nums r0 hw
      have HX := hid (numsmay_any HN.out hmx)
      generalize numsB m.nums = bb at *
      clear r0 hk hw HRR
      go_wp2_with fail
      refine (HX.out).mono ?_
      rintro e w1 ⟨rfl, hb⟩
      have HB1 := hid (below_two HB0.out hb)
      clear hb
      go_wp2
      go_ret
      exact ⟨(by rw [HF.out]; try rfl), HB1.out⟩
  · as_aux_lemma =>
    have HF : Hid (partsB m = true) := by show _ = _; unfold partsB; rw [if_neg (by omega : ¬ m.kind = 1), if_neg (by omega : ¬ m.kind = 2), if_neg (by omega : ¬ m.kind = 3), if_neg (by omega : ¬ (m.kind = 4 ∨ m.kind = 6)), if_neg (by omega : ¬ (m.kind = 5 ∨ m.kind = 7 ∨ m.kind = 8)), if_pos hk]
    rw [hk] at c_kind
    clear r0 hk hw HRR
    go_wp2
    go_ret
    exact ⟨(by rw [HF.out]; try rfl), HB0.out⟩
  · have HF : Hid (partsB m = (inB m.who 0 7 && viewB m.view)) := by show _ = _; unfold partsB; rw [if_neg (by omega : ¬ m.kind = 1), if_neg (by omega : ¬ m.kind = 2), if_neg (by omega : ¬ m.kind = 3), if_neg (by omega : ¬ (m.kind = 4 ∨ m.kind = 6)), if_neg (by omega : ¬ (m.kind = 5 ∨ m.kind = 7 ∨ m.kind = 8)), if_neg (by omega : ¬ m.kind = 9), if_pos hk]
    rw [hk] at c_kind
    have c_who := mrow_who r0 hw
    have c_view := mrow_view r0 hw
    have HX := hid (fun W => viewmay_any m.view W)
    have HY := hid (fun W => isclient_any m.who W)
    generalize viewB m.view = bb at *
    generalize inB m.who 0 7 = b1 at *
    clear r0 hk hw HRR
    cases b1 with
    | false => as_aux_lemma =>
      rw [Bool.false_and] at HF
      go_wp2_with fail
      refine (HY.out _).mono ?_
      rintro e v ⟨rfl, hv⟩
      subst v
      go_wp2
      go_ret
      exact ⟨(by rw [HF.out]; try rfl), HB0.out⟩
    | true => as_aux_lemma =>
      rw [Bool.true_and] at HF
      go_wp2_with fail
      refine (HY.out _).mono ?_
      rintro e v ⟨rfl, hv⟩
      subst v
      go_wp2_with fail
      refine (HX.out _).mono ?_
      rintro e w1 ⟨rfl, hb⟩
      have HB1 := hid (below_two HB0.out hb)
      clear hb
      go_wp2
      go_ret
      exact ⟨(by rw [HF.out]; try rfl), HB1.out⟩
  · as_aux_lemma =>
    have HF : Hid (partsB m = true) := by show _ = _; unfold partsB; rw [if_neg (by omega : ¬ m.kind = 1), if_neg (by omega : ¬ m.kind = 2), if_neg (by omega : ¬ m.kind = 3), if_neg (by omega : ¬ (m.kind = 4 ∨ m.kind = 6)), if_neg (by omega : ¬ (m.kind = 5 ∨ m.kind = 7 ∨ m.kind = 8)), if_neg (by omega : ¬ m.kind = 9), if_neg (by omega : ¬ m.kind = 10), if_pos hk]
    rw [hk] at c_kind
    clear r0 hk hw HRR
    go_wp2
    go_ret
    exact ⟨(by rw [HF.out]; try rfl), HB0.out⟩
  · as_aux_lemma =>
    have HF : Hid (partsB m = false) := by show _ = _; unfold partsB; rw [if_neg (by omega : ¬ m.kind = 1), if_neg (by omega : ¬ m.kind = 2), if_neg (by omega : ¬ m.kind = 3), if_neg (by omega : ¬ (m.kind = 4 ∨ m.kind = 6)), if_neg (by omega : ¬ (m.kind = 5 ∨ m.kind = 7 ∨ m.kind = 8)), if_neg (by omega : ¬ m.kind = 9), if_neg (by omega : ¬ m.kind = 10), if_neg (by omega : ¬ m.kind = 11)]
    have d1 : (m.kind == 1) = false := by simp; omega
    have d2 : (m.kind == 2) = false := by simp; omega
    have d3 : (m.kind == 3) = false := by simp; omega
    have d4 : (m.kind == 4) = false := by simp; omega
    have d5 : (m.kind == 5) = false := by simp; omega
    have d6 : (m.kind == 6) = false := by simp; omega
    have d7 : (m.kind == 7) = false := by simp; omega
    have d8 : (m.kind == 8) = false := by simp; omega
    have d9 : (m.kind == 9) = false := by simp; omega
    have d10 : (m.kind == 10) = false := by simp; omega
    have d11 : (m.kind == 11) = false := by simp; omega
    clear r0 hk hw HRR
    generalize m.kind = kk at *
    go_wp2
    go_ret
    exact ⟨(by rw [HF.out]; try rfl), HB0.out⟩
end Go.Proofs.YtidlgecognedlaaGreatDoor.Ms
