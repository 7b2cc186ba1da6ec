/-
  Does a list hold what may not be pending: what slices.ContainsFunc answers of msg's test.
-/
import Derived.Test.YtmfpmajkjhmliaaGreatDoorG09
namespace Go.Proofs.YtmfpmajkjhmliaaGreatDoor.Ms
open Go Go.RowKit
set_option maxRecDepth 100000
abbrev tstV : Value := .func (.func 216) #[] #[]
set_option maxHeartbeats 1000000 in
theorem tst_any (p : Pen) (hp : p.Wf) (w : World) : Calls Tryz.prog 216 #[.agg (penC p).toArray] w fun e w' => e = .returned (.bool (!penB p)) ∧ Below w.heap.size w w' := by
  have HB0 := hid (below_a1 w (.cells (penC p).toArray 25))
  have S0 := hid (row_seg (off := 0) (A := []) (cs := penC p) (C := []) (top_obj w (.cells (penC p).toArray 25)) (by simp) rfl)
  have Z0 : (Tryz.prog.info? 25).map (·.size) = some (penC p).length := by rw [penC_len hp]; exact sizePen
  have HC := hid (fun W => penmay_any p hp W)
  generalize penB p = b at *
  generalize penC p = PA at *
  go_enter Tryz.func216, Tryz.ntmps216
  go_upto_region 1 with fail
  generalize w.alloc (.cells PA.toArray 25) = W0 at *
  go_wp2_with (first | ((with_reducible refine wl_load 25 (.tmp 1) ?_ w.heap.size 0 ?_ ?_ PA _ S0.out Tryz.underlying25 ?_ Z0 ?_); exact rfl; exact rfl; exact rfl; exact rfl))
  refine (HC.out _).mono ?_
  rintro e w1 ⟨rfl, hb⟩
  have HB1 := hid (below_two HB0.out hb)
  clear hb HB0 S0 HC
  go_wp2
  go_ret
  exact ⟨rfl, HB1.out⟩
set_option maxHeartbeats 1000000 in
theorem index_any (ps : List Pen) (hl : ps.length ≤ 8) (hp : ∀ p ∈ ps, p.Wf) (w : World) (v : Value) (hv : PensAt w v ps) :
    Calls Tryz.prog 245 #[v, tstV] w fun e w' => ∃ z : Int, e = .returned (nu z) ∧ Below w.heap.size w w' ∧ decide (0 ≤ z) = !(ps.all penB) := by
  have HP := hid hv
  obtain ⟨pa, cap, rfl, -⟩ := hv
  have HW := hid hp
  have HB0 := hid (Below.refl w.heap.size w)
  have HBad : Hid (∀ j, j < ps.length → penB (ps.getD j noPen) = false → ps.all penB = false) := fun j hj h => by
    rw [List.all_eq_false]
    refine ⟨ps.getD j noPen, ?_, by rw [h]; exact Bool.false_ne_true⟩
    simp [List.getD, hj]
  have HAll : Hid ((∀ j, j < ps.length → penB (ps.getD j noPen) = true) → ps.all penB = true) := fun h => by
    rw [List.all_eq_true]
    intro p hq
    obtain ⟨j, hj, rfl⟩ := List.getElem_of_mem hq
    have := h j hj
    simpa [List.getD, hj] using this
  clear hp
  go_enter Tryz.func245, Tryz.ntmps245
  go_wp2
  go_loopw [8] (fun i w' => ∃ k : Nat, k ≤ ps.length ∧ i = .int .i64 k ∧ Hid (∀ j, j < k → penB (ps.getD j noPen) = true) ∧ Hid (Below w.heap.size w w')) (fun i _ => ps.length - (intOf i).toNat)
  case atStart => exact ⟨0, Nat.zero_le _, rfl, (fun j hj => absurd hj (Nat.not_lt_zero j)), HB0⟩
  case round =>
    obtain ⟨k, hk, rfl, HN, HB⟩ := hrel
    clear HB0
    by_cases hlt : k < ps.length
    · as_aux_lemma =>
      have d1 : decide ((k : Int) < (ps.length : Int)) = true := decide_eq_true (by omega)
      have d1' : decide (k < ps.length) = true := decide_eq_true hlt
      obtain ⟨a', c', e', hc⟩ := HP.out.kept HB.out
      cases e'
      obtain ⟨b, off, rfl, hcc⟩ := hc (fun e => by rw [e] at hlt; exact absurd hlt (Nat.not_lt_zero k))
      have wp := getD_wf HW.out k hlt
      have S0 := hid (hcc k hlt)
      have Z0 : (Tryz.prog.info? 25).map (·.size) = some (penC (ps.getD k noPen)).length := by rw [penC_len wp]; exact sizePen
      have HC := hid (fun W => tst_any (ps.getD k noPen) wp W)
      have HF : Hid (penB (ps.getD k noPen) = false → ps.all penB = false) := HBad.out k hlt
      have hon : Hid (penB (ps.getD k noPen) = true → ∀ j, j < k + 1 → penB (ps.getD j noPen) = true) := fun h j hj => by
        by_cases e : j = k
        · rw [e]; exact h
        · exact HN.out j (by omega)
      generalize penB (ps.getD k noPen) = bb at *
      generalize penC (ps.getD k noPen) = PA at *
      clear hc hcc wp HN HBad HAll HP HW
      cases bb with
      | false =>
        have HF' := hid (HF.out rfl)
        clear HF hon
        go_wp2_with (first | ((with_reducible refine wl_load 25 (.tmp 14) ?_ b (off + k * 68) ?_ ?_ PA _ S0.out Tryz.underlying25 ?_ Z0 ?_); exact rfl; exact rfl; exact rfl; exact rfl))
        refine (HC.out _).mono ?_
        rintro e w1 ⟨rfl, hb⟩
        have HB1 := hid (below_two HB.out hb)
        clear hb HB S0 HC
        go_wp2
        go_ret
        exact ⟨_, rfl, HB1.out, by rw [HF'.out]; simp⟩
      | true =>
        have HN' := hid (hon.out rfl)
        clear HF hon
        go_wp2_with (first | ((with_reducible refine wl_load 25 (.tmp 14) ?_ b (off + k * 68) ?_ ?_ PA _ S0.out Tryz.underlying25 ?_ Z0 ?_); exact rfl; exact rfl; exact rfl; exact rfl))
        refine (HC.out _).mono ?_
        rintro e w1 ⟨rfl, hb⟩
        have HB1 := hid (below_two HB.out hb)
        clear hb HB S0 HC
        go_wp2
        exact ⟨⟨k + 1, by omega, by go_num, HN', HB1⟩, by simp [intOf]; omega⟩
    · as_aux_lemma =>
      have hkl : k = ps.length := by omega
      subst hkl
      have dk : decide ((ps.length : Int) < (ps.length : Int)) = false := decide_eq_false (by omega)
      have HA := hid (HAll.out HN.out)
      clear HP HW HN HAll HBad
      go_wp2
      go_ret
      exact ⟨_, rfl, HB.out, by rw [HA.out]; rfl⟩
theorem contains_any (ps : List Pen) (hl : ps.length ≤ 8) (hp : ∀ p ∈ ps, p.Wf) (w : World) (v : Value) (hv : PensAt w v ps) :
    Calls Tryz.prog 215 #[v, tstV] w fun e w' => e = .returned (.bool (!(ps.all penB))) ∧ Below w.heap.size w w' := by
  have HC := hid (index_any ps hl hp w v hv)
  go_enter Tryz.func215, Tryz.ntmps215
  go_wp2_with fail
  refine HC.out.mono ?_
  rintro e w1 ⟨z, rfl, hb, hz⟩
  have HB := hid hb
  clear hb HC
  go_wp2
  go_ret
  exact ⟨by rw [← hz]; rfl, HB.out⟩
open Go Go.RowKit
set_option maxRecDepth 100000
theorem inB_last (n : Int) : inB n (-1) 7 = ((n == -1) || inB n 0 7) := by rw [Bool.eq_iff_iff, Bool.or_eq_true, inB_iff, inB_iff, beq_iff_eq]; omega
theorem inB_vnum (n : Int) : inB n 0 512 = ((n == 0) || inB n 1 512) := by rw [Bool.eq_iff_iff, Bool.or_eq_true, inB_iff, inB_iff, beq_iff_eq]; omega
theorem viewOk_eq (r : Rep) : viewOk r = ((r.last == -1) == r.view.isEmpty) := by
  unfold viewOk
  generalize r.last = a
  generalize r.view = v
  have e : (a != -1) = !(a == -1) := rfl
  rw [e]
  generalize (a == -1) = b
  cases v <;> cases b <;> rfl
theorem repB_eq (r : Rep) : repB r = (inB r.number 1 512 && (((r.last == -1) || inB r.last 0 7) && (Hist.rightB r.view 8 && (((r.last == -1) == r.view.isEmpty) && (decide (r.pend.length ≤ 8) && (r.pend.all penB && (((r.vnum == 0) || inB r.vnum 1 512) && (decide (r.value.length ≤ 256) && Hist.rightB r.seen 8)))))))) := by
  unfold repB chainB
  rw [viewOk_eq, inB_last, inB_vnum]
  ac_rfl
set_option maxHeartbeats 8000000 in
theorem repmay (r : Rep) (hr : r.Wf) : RepOk r := by
  intro w vP hp
  have HB0 := hid (below_a1 w (.cells (repC r vP).toArray 55))
  have R0 := hid (top_obj w (.cells (repC r vP).toArray 55))
  have HP := hid (hp.kept HB0.out)
  obtain ⟨pa, cap, rfl, -⟩ := hp
  have HCh := hid (repB_eq r)
  have HC : Hid (∀ W, Below (w.alloc (.cells (repC r (.slice pa r.pend.length cap)).toArray 55)).heap.size (w.alloc (.cells (repC r (.slice pa r.pend.length cap)).toArray 55)) W → W.cell? ⟨w.heap.size, 0, none⟩ = some (nu r.number) ∧ W.cell? ⟨w.heap.size, 1, none⟩ = some (nu r.last) ∧ W.cell? ⟨w.heap.size, 2, none⟩ = some (st r.view) ∧ W.cell? ⟨w.heap.size, 35, none⟩ = some (.slice pa r.pend.length cap) ∧ W.cell? ⟨w.heap.size, 36, none⟩ = some (nu r.vnum) ∧ W.cell? ⟨w.heap.size, 37, none⟩ = some (st r.value) ∧ W.cell? ⟨w.heap.size, 70, none⟩ = some (st r.seen)) := fun W hb => by
    have h := row_kept R0.out hb
    exact ⟨rrow_number h hr, rrow_last h hr, rrow_view h hr, rrow_P h hr, rrow_vnum h hr, rrow_value h hr, rrow_seen h hr⟩
  have K_a := hid (fun W => isnumber_any r.number W)
  have K_b := hid (fun W => isclient_any r.last W)
  have K_c := hid (fun W => Hist.right_any r.view 8 W)
  have K_f : Hid (r.pend.length ≤ 8 → ∀ W, Below (w.alloc (.cells (repC r (.slice pa r.pend.length cap)).toArray 55)).heap.size (w.alloc (.cells (repC r (.slice pa r.pend.length cap)).toArray 55)) W → Calls Tryz.prog 215 #[.slice pa r.pend.length cap, tstV] W fun e w' => e = .returned (.bool (!(r.pend.all penB))) ∧ Below W.heap.size W w') := fun hl W hb => contains_any r.pend hl hr.pend W _ (HP.out.kept hb)
  have K_g := hid (fun W => isnumber_any r.vnum W)
  have K_i := hid (fun W => Hist.right_any r.seen 8 W)
  obtain ⟨BB, hBB⟩ : ∃ BB, BB = repB r := ⟨_, rfl⟩
  rw [← hBB] at HCh ⊢
  clear hBB R0 HP hr
  generalize (repC r (.slice pa r.pend.length cap)).toArray = RA at *
  generalize r.pend.all penB = b_f at *
  generalize Hist.rightB r.view 8 = b_c at *
  generalize Hist.rightB r.seen 8 = b_i at *
  generalize inB r.number 1 512 = b_a at *
  generalize r.number = x_a at *
  generalize inB r.last 0 7 = b_b at *
  generalize r.last = x_l at *
  generalize r.view = x_v at *
  generalize inB r.vnum 1 512 = b_g at *
  generalize r.vnum = x_n at *
  generalize r.value = x_w at *
  generalize r.seen = x_s at *
  generalize r.pend.length = x_p at *
  go_enter Tryz.func187, Tryz.ntmps187
  go_upto_region 1 with fail
  generalize w.alloc (.cells RA 55) = W0 at *
  obtain ⟨g, hg⟩ : ∃ g, g = w.heap.size := ⟨_, rfl⟩
  rw [← hg] at HC ⊢
  clear hg
  have HW := hid (Below.refl W0.heap.size W0)
  obtain ⟨c0, c1, c2, c3, c4, c5, c6⟩ := HC.out _ HW.out
  cases b_a with
  | false => as_aux_lemma =>
    have HF : Hid (BB = false) := by show _ = _; rw [HCh.out]; simp
    clear HCh
    go_wp2_with fail
    refine (K_a.out _).mono ?_
    rintro e v ⟨rfl, hv⟩
    subst v
    go_wp2
    go_ret
    exact ⟨by rw [HF.out]; rfl, below_two HB0.out HW.out⟩
  | true =>
    cases h_l : (x_l == -1) with
    | false =>
      cases b_b with
      | false => as_aux_lemma =>
        have HF : Hid (BB = false) := by show _ = _; rw [HCh.out]; simp [h_l]
        clear HCh
        go_wp2_with fail
        refine (K_a.out _).mono ?_
        rintro e v ⟨rfl, hv⟩
        subst v
        go_wp2_with fail
        refine (K_b.out _).mono ?_
        rintro e v ⟨rfl, hv⟩
        subst v
        go_wp2
        go_ret
        exact ⟨by rw [HF.out]; rfl, below_two HB0.out HW.out⟩
      | true =>
        cases b_c with
        | false => as_aux_lemma =>
          have HF : Hid (BB = false) := by show _ = _; rw [HCh.out]; simp [h_l]
          clear HCh
          go_wp2_with fail
          refine (K_a.out _).mono ?_
          rintro e v ⟨rfl, hv⟩
          subst v
          go_wp2_with fail
          refine (K_b.out _).mono ?_
          rintro e v ⟨rfl, hv⟩
          subst v
          go_wp2_with fail
          refine (K_c.out _).mono ?_
          rintro e w1 ⟨rfl, hb⟩
          have HW1 := hid (below_two HW.out hb)
          clear hb c0 c1 c2 c3 c4 c5 c6
          obtain ⟨c0, c1, c2, c3, c4, c5, c6⟩ := HC.out _ HW1.out
          go_wp2
          go_ret
          exact ⟨by rw [HF.out]; rfl, below_two HB0.out HW1.out⟩
        | true =>
          cases h_v : x_v.isEmpty with
          | false =>
            have hne : ¬ x_v = [] := fun e => by rw [e] at h_v; cases h_v
            by_cases h_p : x_p ≤ 8
            · have dp : decide ((x_p : Int) ≤ 8) = true := decide_eq_true (by omega)
              have dp' : decide (x_p ≤ 8) = true := decide_eq_true h_p
              have K_f' := hid (K_f.out h_p)
              cases b_f with
              | false => as_aux_lemma =>
                have HF : Hid (BB = false) := by show _ = _; rw [HCh.out]; simp [h_l, h_v]
                clear HCh
                go_wp2_with fail
                refine (K_a.out _).mono ?_
                rintro e v ⟨rfl, hv⟩
                subst v
                go_wp2_with fail
                refine (K_b.out _).mono ?_
                rintro e v ⟨rfl, hv⟩
                subst v
                go_wp2_with fail
                refine (K_c.out _).mono ?_
                rintro e w1 ⟨rfl, hb⟩
                have HW1 := hid (below_two HW.out hb)
                clear hb c0 c1 c2 c3 c4 c5 c6
                obtain ⟨c0, c1, c2, c3, c4, c5, c6⟩ := HC.out _ HW1.out
                go_wp2_with fail
                refine (K_f'.out _ HW1.out).mono ?_
                rintro e w2 ⟨rfl, hb⟩
                have HW2 := hid (below_two HW1.out hb)
                clear hb c0 c1 c2 c3 c4 c5 c6
                obtain ⟨c0, c1, c2, c3, c4, c5, c6⟩ := HC.out _ HW2.out
                go_wp2
                go_ret
                exact ⟨by rw [HF.out]; rfl, below_two HB0.out HW2.out⟩
              | true =>
                cases h_n : (x_n == 0) with
                | false =>
                  cases b_g with
                  | false => as_aux_lemma =>
                    have HF : Hid (BB = false) := by show _ = _; rw [HCh.out]; simp [h_l, h_v, h_n]
                    clear HCh
                    go_wp2_with fail
                    refine (K_a.out _).mono ?_
                    rintro e v ⟨rfl, hv⟩
                    subst v
                    go_wp2_with fail
                    refine (K_b.out _).mono ?_
                    rintro e v ⟨rfl, hv⟩
                    subst v
                    go_wp2_with fail
                    refine (K_c.out _).mono ?_
                    rintro e w1 ⟨rfl, hb⟩
                    have HW1 := hid (below_two HW.out hb)
                    clear hb c0 c1 c2 c3 c4 c5 c6
                    obtain ⟨c0, c1, c2, c3, c4, c5, c6⟩ := HC.out _ HW1.out
                    go_wp2_with fail
                    refine (K_f'.out _ HW1.out).mono ?_
                    rintro e w2 ⟨rfl, hb⟩
                    have HW2 := hid (below_two HW1.out hb)
                    clear hb c0 c1 c2 c3 c4 c5 c6
                    obtain ⟨c0, c1, c2, c3, c4, c5, c6⟩ := HC.out _ HW2.out
                    go_wp2_with fail
                    refine (K_g.out _).mono ?_
                    rintro e v ⟨rfl, hv⟩
                    subst v
                    go_wp2
                    go_ret
                    exact ⟨by rw [HF.out]; rfl, below_two HB0.out HW2.out⟩
                  | true =>
                    by_cases h_w : x_w.length ≤ 256
                    · as_aux_lemma =>
                      have dw : decide ((x_w.length : Int) ≤ 256) = true := decide_eq_true (by omega)
                      have dw' : decide (x_w.length ≤ 256) = true := decide_eq_true h_w
                      have HF : Hid (BB = b_i) := by show _ = _; rw [HCh.out]; simp [h_l, h_v, h_n, h_p, h_w]
                      clear HCh
                      go_wp2_with fail
                      refine (K_a.out _).mono ?_
                      rintro e v ⟨rfl, hv⟩
                      subst v
                      go_wp2_with fail
                      refine (K_b.out _).mono ?_
                      rintro e v ⟨rfl, hv⟩
                      subst v
                      go_wp2_with fail
                      refine (K_c.out _).mono ?_
                      rintro e w1 ⟨rfl, hb⟩
                      have HW1 := hid (below_two HW.out hb)
                      clear hb c0 c1 c2 c3 c4 c5 c6
                      obtain ⟨c0, c1, c2, c3, c4, c5, c6⟩ := HC.out _ HW1.out
                      go_wp2_with fail
                      refine (K_f'.out _ HW1.out).mono ?_
                      rintro e w2 ⟨rfl, hb⟩
                      have HW2 := hid (below_two HW1.out hb)
                      clear hb c0 c1 c2 c3 c4 c5 c6
                      obtain ⟨c0, c1, c2, c3, c4, c5, c6⟩ := HC.out _ HW2.out
                      go_wp2_with fail
                      refine (K_g.out _).mono ?_
                      rintro e v ⟨rfl, hv⟩
                      subst v
                      go_wp2_with fail
                      refine (K_i.out _).mono ?_
                      rintro e w3 ⟨rfl, hb⟩
                      have HW3 := hid (below_two HW2.out hb)
                      clear hb c0 c1 c2 c3 c4 c5 c6
                      obtain ⟨c0, c1, c2, c3, c4, c5, c6⟩ := HC.out _ HW3.out
                      go_wp2
                      go_ret
                      exact ⟨by rw [HF.out]; rfl, below_two HB0.out HW3.out⟩
                    · as_aux_lemma =>
                      have dw : decide ((x_w.length : Int) ≤ 256) = false := decide_eq_false (by omega)
                      have dw' : decide (x_w.length ≤ 256) = false := decide_eq_false h_w
                      have HF : Hid (BB = false) := by show _ = _; rw [HCh.out]; simp [h_l, h_v, h_n, h_w]
                      clear HCh
                      go_wp2_with fail
                      refine (K_a.out _).mono ?_
                      rintro e v ⟨rfl, hv⟩
                      subst v
                      go_wp2_with fail
                      refine (K_b.out _).mono ?_
                      rintro e v ⟨rfl, hv⟩
                      subst v
                      go_wp2_with fail
                      refine (K_c.out _).mono ?_
                      rintro e w1 ⟨rfl, hb⟩
                      have HW1 := hid (below_two HW.out hb)
                      clear hb c0 c1 c2 c3 c4 c5 c6
                      obtain ⟨c0, c1, c2, c3, c4, c5, c6⟩ := HC.out _ HW1.out
                      go_wp2_with fail
                      refine (K_f'.out _ HW1.out).mono ?_
                      rintro e w2 ⟨rfl, hb⟩
                      have HW2 := hid (below_two HW1.out hb)
                      clear hb c0 c1 c2 c3 c4 c5 c6
                      obtain ⟨c0, c1, c2, c3, c4, c5, c6⟩ := HC.out _ HW2.out
                      go_wp2_with fail
                      refine (K_g.out _).mono ?_
                      rintro e v ⟨rfl, hv⟩
                      subst v
                      go_wp2
                      go_ret
                      exact ⟨by rw [HF.out]; rfl, below_two HB0.out HW2.out⟩
                | true =>
                  by_cases h_w : x_w.length ≤ 256
                  · as_aux_lemma =>
                    have dw : decide ((x_w.length : Int) ≤ 256) = true := decide_eq_true (by omega)
                    have dw' : decide (x_w.length ≤ 256) = true := decide_eq_true h_w
                    have HF : Hid (BB = b_i) := by show _ = _; rw [HCh.out]; simp [h_l, h_v, h_n, h_p, h_w]
                    clear HCh
                    go_wp2_with fail
                    refine (K_a.out _).mono ?_
                    rintro e v ⟨rfl, hv⟩
                    subst v
                    go_wp2_with fail
                    refine (K_b.out _).mono ?_
                    rintro e v ⟨rfl, hv⟩
                    subst v
                    go_wp2_with fail
                    refine (K_c.out _).mono ?_
                    rintro e w1 ⟨rfl, hb⟩
                    have HW1 := hid (below_two HW.out hb)
                    clear hb c0 c1 c2 c3 c4 c5 c6
                    obtain ⟨c0, c1, c2, c3, c4, c5, c6⟩ := HC.out _ HW1.out
                    go_wp2_with fail
                    refine (K_f'.out _ HW1.out).mono ?_
                    rintro e w2 ⟨rfl, hb⟩
                    have HW2 := hid (below_two HW1.out hb)
                    clear hb c0 c1 c2 c3 c4 c5 c6
                    obtain ⟨c0, c1, c2, c3, c4, c5, c6⟩ := HC.out _ HW2.out
                    go_wp2_with fail
                    refine (K_i.out _).mono ?_
                    rintro e w3 ⟨rfl, hb⟩
                    have HW3 := hid (below_two HW2.out hb)
                    clear hb c0 c1 c2 c3 c4 c5 c6
                    obtain ⟨c0, c1, c2, c3, c4, c5, c6⟩ := HC.out _ HW3.out
                    go_wp2
                    go_ret
                    exact ⟨by rw [HF.out]; rfl, below_two HB0.out HW3.out⟩
                  · as_aux_lemma =>
                    have dw : decide ((x_w.length : Int) ≤ 256) = false := decide_eq_false (by omega)
                    have dw' : decide (x_w.length ≤ 256) = false := decide_eq_false h_w
                    have HF : Hid (BB = false) := by show _ = _; rw [HCh.out]; simp [h_l, h_v, h_n, h_w]
                    clear HCh
                    go_wp2_with fail
                    refine (K_a.out _).mono ?_
                    rintro e v ⟨rfl, hv⟩
                    subst v
                    go_wp2_with fail
                    refine (K_b.out _).mono ?_
                    rintro e v ⟨rfl, hv⟩
                    subst v
                    go_wp2_with fail
                    refine (K_c.out _).mono ?_
                    rintro e w1 ⟨rfl, hb⟩
                    have HW1 := hid (below_two HW.out hb)
                    clear hb c0 c1 c2 c3 c4 c5 c6
                    obtain ⟨c0, c1, c2, c3, c4, c5, c6⟩ := HC.out _ HW1.out
                    go_wp2_with fail
                    refine (K_f'.out _ HW1.out).mono ?_
                    rintro e w2 ⟨rfl, hb⟩
                    have HW2 := hid (below_two HW1.out hb)
                    clear hb c0 c1 c2 c3 c4 c5 c6
                    obtain ⟨c0, c1, c2, c3, c4, c5, c6⟩ := HC.out _ HW2.out
                    go_wp2
                    go_ret
                    exact ⟨by rw [HF.out]; rfl, below_two HB0.out HW2.out⟩
            · as_aux_lemma =>
              have dp : decide ((x_p : Int) ≤ 8) = false := decide_eq_false (by omega)
              have dp' : decide (x_p ≤ 8) = false := decide_eq_false h_p
              have HF : Hid (BB = false) := by show _ = _; rw [HCh.out]; simp [h_l, h_v, h_p]
              clear HCh
              go_wp2_with fail
              refine (K_a.out _).mono ?_
              rintro e v ⟨rfl, hv⟩
              subst v
              go_wp2_with fail
              refine (K_b.out _).mono ?_
              rintro e v ⟨rfl, hv⟩
              subst v
              go_wp2_with fail
              refine (K_c.out _).mono ?_
              rintro e w1 ⟨rfl, hb⟩
              have HW1 := hid (below_two HW.out hb)
              clear hb c0 c1 c2 c3 c4 c5 c6
              obtain ⟨c0, c1, c2, c3, c4, c5, c6⟩ := HC.out _ HW1.out
              go_wp2
              go_ret
              exact ⟨by rw [HF.out]; rfl, below_two HB0.out HW1.out⟩
          | true => as_aux_lemma =>
            obtain rfl : x_v = [] := List.isEmpty_iff.1 h_v
            clear h_v
            have HF : Hid (BB = false) := by show _ = _; rw [HCh.out]; simp [h_l]
            clear HCh
            go_wp2_with fail
            refine (K_a.out _).mono ?_
            rintro e v ⟨rfl, hv⟩
            subst v
            go_wp2_with fail
            refine (K_b.out _).mono ?_
            rintro e v ⟨rfl, hv⟩
            subst v
            go_wp2_with fail
            refine (K_c.out _).mono ?_
            rintro e w1 ⟨rfl, hb⟩
            have HW1 := hid (below_two HW.out hb)
            clear hb c0 c1 c2 c3 c4 c5 c6
            obtain ⟨c0, c1, c2, c3, c4, c5, c6⟩ := HC.out _ HW1.out
            go_wp2
            go_ret
            exact ⟨by rw [HF.out]; rfl, below_two HB0.out HW1.out⟩
    | true =>
      cases b_c with
      | false => as_aux_lemma =>
        have HF : Hid (BB = false) := by show _ = _; rw [HCh.out]; simp [h_l]
        clear HCh
        go_wp2_with fail
        refine (K_a.out _).mono ?_
        rintro e v ⟨rfl, hv⟩
        subst v
        go_wp2_with fail
        refine (K_c.out _).mono ?_
        rintro e w1 ⟨rfl, hb⟩
        have HW1 := hid (below_two HW.out hb)
        clear hb c0 c1 c2 c3 c4 c5 c6
        obtain ⟨c0, c1, c2, c3, c4, c5, c6⟩ := HC.out _ HW1.out
        go_wp2
        go_ret
        exact ⟨by rw [HF.out]; rfl, below_two HB0.out HW1.out⟩
      | true =>
        cases h_v : x_v.isEmpty with
        | false => as_aux_lemma =>
          have hne : ¬ x_v = [] := fun e => by rw [e] at h_v; cases h_v
          have HF : Hid (BB = false) := by show _ = _; rw [HCh.out]; simp [h_l, h_v]
          clear HCh
          go_wp2_with fail
          refine (K_a.out _).mono ?_
          rintro e v ⟨rfl, hv⟩
          subst v
          go_wp2_with fail
          refine (K_c.out _).mono ?_
          rintro e w1 ⟨rfl, hb⟩
          have HW1 := hid (below_two HW.out hb)
          clear hb c0 c1 c2 c3 c4 c5 c6
          obtain ⟨c0, c1, c2, c3, c4, c5, c6⟩ := HC.out _ HW1.out
          go_wp2
          go_ret
          exact ⟨by rw [HF.out]; rfl, below_two HB0.out HW1.out⟩
        | true =>
          obtain rfl : x_v = [] := List.isEmpty_iff.1 h_v
          clear h_v
          by_cases h_p : x_p ≤ 8
          · have dp : decide ((x_p : Int) ≤ 8) = true := decide_eq_true (by omega)
            have dp' : decide (x_p ≤ 8) = true := decide_eq_true h_p
            have K_f' := hid (K_f.out h_p)
            cases b_f with
            | false => as_aux_lemma =>
              have HF : Hid (BB = false) := by show _ = _; rw [HCh.out]; simp [h_l]
              clear HCh
              go_wp2_with fail
              refine (K_a.out _).mono ?_
              rintro e v ⟨rfl, hv⟩
              subst v
              go_wp2_with fail
              refine (K_c.out _).mono ?_
              rintro e w1 ⟨rfl, hb⟩
              have HW1 := hid (below_two HW.out hb)
              clear hb c0 c1 c2 c3 c4 c5 c6
              obtain ⟨c0, c1, c2, c3, c4, c5, c6⟩ := HC.out _ HW1.out
              go_wp2_with fail
              refine (K_f'.out _ HW1.out).mono ?_
              rintro e w2 ⟨rfl, hb⟩
              have HW2 := hid (below_two HW1.out hb)
              clear hb c0 c1 c2 c3 c4 c5 c6
              obtain ⟨c0, c1, c2, c3, c4, c5, c6⟩ := HC.out _ HW2.out
              go_wp2
              go_ret
              exact ⟨by rw [HF.out]; rfl, below_two HB0.out HW2.out⟩
            | true =>
              cases h_n : (x_n == 0) with
              | false =>
                cases b_g with
                | false => as_aux_lemma =>
                  have HF : Hid (BB = false) := by show _ = _; rw [HCh.out]; simp [h_l, h_n]
                  clear HCh
                  go_wp2_with fail
                  refine (K_a.out _).mono ?_
                  rintro e v ⟨rfl, hv⟩
                  subst v
                  go_wp2_with fail
                  refine (K_c.out _).mono ?_
                  rintro e w1 ⟨rfl, hb⟩
                  have HW1 := hid (below_two HW.out hb)
                  clear hb c0 c1 c2 c3 c4 c5 c6
                  obtain ⟨c0, c1, c2, c3, c4, c5, c6⟩ := HC.out _ HW1.out
                  go_wp2_with fail
                  refine (K_f'.out _ HW1.out).mono ?_
                  rintro e w2 ⟨rfl, hb⟩
                  have HW2 := hid (below_two HW1.out hb)
                  clear hb c0 c1 c2 c3 c4 c5 c6
                  obtain ⟨c0, c1, c2, c3, c4, c5, c6⟩ := HC.out _ HW2.out
                  go_wp2_with fail
                  refine (K_g.out _).mono ?_
                  rintro e v ⟨rfl, hv⟩
                  subst v
                  go_wp2
                  go_ret
                  exact ⟨by rw [HF.out]; rfl, below_two HB0.out HW2.out⟩
                | true =>
                  by_cases h_w : x_w.length ≤ 256
                  · as_aux_lemma =>
                    have dw : decide ((x_w.length : Int) ≤ 256) = true := decide_eq_true (by omega)
                    have dw' : decide (x_w.length ≤ 256) = true := decide_eq_true h_w
                    have HF : Hid (BB = b_i) := by show _ = _; rw [HCh.out]; simp [h_l, h_n, h_p, h_w]
                    clear HCh
                    go_wp2_with fail
                    refine (K_a.out _).mono ?_
                    rintro e v ⟨rfl, hv⟩
                    subst v
                    go_wp2_with fail
                    refine (K_c.out _).mono ?_
                    rintro e w1 ⟨rfl, hb⟩
                    have HW1 := hid (below_two HW.out hb)
                    clear hb c0 c1 c2 c3 c4 c5 c6
                    obtain ⟨c0, c1, c2, c3, c4, c5, c6⟩ := HC.out _ HW1.out
                    go_wp2_with fail
                    refine (K_f'.out _ HW1.out).mono ?_
                    rintro e w2 ⟨rfl, hb⟩
                    have HW2 := hid (below_two HW1.out hb)
                    clear hb c0 c1 c2 c3 c4 c5 c6
                    obtain ⟨c0, c1, c2, c3, c4, c5, c6⟩ := HC.out _ HW2.out
                    go_wp2_with fail
                    refine (K_g.out _).mono ?_
                    rintro e v ⟨rfl, hv⟩
                    subst v
                    go_wp2_with fail
                    refine (K_i.out _).mono ?_
                    rintro e w3 ⟨rfl, hb⟩
                    have HW3 := hid (below_two HW2.out hb)
                    clear hb c0 c1 c2 c3 c4 c5 c6
                    obtain ⟨c0, c1, c2, c3, c4, c5, c6⟩ := HC.out _ HW3.out
                    go_wp2
                    go_ret
                    exact ⟨by rw [HF.out]; rfl, below_two HB0.out HW3.out⟩
                  · as_aux_lemma =>
                    have dw : decide ((x_w.length : Int) ≤ 256) = false := decide_eq_false (by omega)
                    have dw' : decide (x_w.length ≤ 256) = false := decide_eq_false h_w
                    have HF : Hid (BB = false) := by show _ = _; rw [HCh.out]; simp [h_l, h_n, h_w]
                    clear HCh
                    go_wp2_with fail
                    refine (K_a.out _).mono ?_
                    rintro e v ⟨rfl, hv⟩
                    subst v
                    go_wp2_with fail
                    refine (K_c.out _).mono ?_
                    rintro e w1 ⟨rfl, hb⟩
                    have HW1 := hid (below_two HW.out hb)
                    clear hb c0 c1 c2 c3 c4 c5 c6
                    obtain ⟨c0, c1, c2, c3, c4, c5, c6⟩ := HC.out _ HW1.out
                    go_wp2_with fail
                    refine (K_f'.out _ HW1.out).mono ?_
                    rintro e w2 ⟨rfl, hb⟩
                    have HW2 := hid (below_two HW1.out hb)
                    clear hb c0 c1 c2 c3 c4 c5 c6
                    obtain ⟨c0, c1, c2, c3, c4, c5, c6⟩ := HC.out _ HW2.out
                    go_wp2_with fail
                    refine (K_g.out _).mono ?_
                    rintro e v ⟨rfl, hv⟩
                    subst v
                    go_wp2
                    go_ret
                    exact ⟨by rw [HF.out]; rfl, below_two HB0.out HW2.out⟩
              | true =>
                by_cases h_w : x_w.length ≤ 256
                · as_aux_lemma =>
                  have dw : decide ((x_w.length : Int) ≤ 256) = true := decide_eq_true (by omega)
                  have dw' : decide (x_w.length ≤ 256) = true := decide_eq_true h_w
                  have HF : Hid (BB = b_i) := by show _ = _; rw [HCh.out]; simp [h_l, h_n, h_p, h_w]
                  clear HCh
                  go_wp2_with fail
                  refine (K_a.out _).mono ?_
                  rintro e v ⟨rfl, hv⟩
                  subst v
                  go_wp2_with fail
                  refine (K_c.out _).mono ?_
                  rintro e w1 ⟨rfl, hb⟩
                  have HW1 := hid (below_two HW.out hb)
                  clear hb c0 c1 c2 c3 c4 c5 c6
                  obtain ⟨c0, c1, c2, c3, c4, c5, c6⟩ := HC.out _ HW1.out
                  go_wp2_with fail
                  refine (K_f'.out _ HW1.out).mono ?_
                  rintro e w2 ⟨rfl, hb⟩
                  have HW2 := hid (below_two HW1.out hb)
                  clear hb c0 c1 c2 c3 c4 c5 c6
                  obtain ⟨c0, c1, c2, c3, c4, c5, c6⟩ := HC.out _ HW2.out
                  go_wp2_with fail
                  refine (K_i.out _).mono ?_
                  rintro e w3 ⟨rfl, hb⟩
                  have HW3 := hid (below_two HW2.out hb)
                  clear hb c0 c1 c2 c3 c4 c5 c6
                  obtain ⟨c0, c1, c2, c3, c4, c5, c6⟩ := HC.out _ HW3.out
                  go_wp2
                  go_ret
                  exact ⟨by rw [HF.out]; rfl, below_two HB0.out HW3.out⟩
                · as_aux_lemma =>
                  have dw : decide ((x_w.length : Int) ≤ 256) = false := decide_eq_false (by omega)
                  have dw' : decide (x_w.length ≤ 256) = false := decide_eq_false h_w
                  have HF : Hid (BB = false) := by show _ = _; rw [HCh.out]; simp [h_l, h_n, h_w]
                  clear HCh
                  go_wp2_with fail
                  refine (K_a.out _).mono ?_
                  rintro e v ⟨rfl, hv⟩
                  subst v
                  go_wp2_with fail
                  refine (K_c.out _).mono ?_
                  rintro e w1 ⟨rfl, hb⟩
                  have HW1 := hid (below_two HW.out hb)
                  clear hb c0 c1 c2 c3 c4 c5 c6
                  obtain ⟨c0, c1, c2, c3, c4, c5, c6⟩ := HC.out _ HW1.out
                  go_wp2_with fail
                  refine (K_f'.out _ HW1.out).mono ?_
                  rintro e w2 ⟨rfl, hb⟩
                  have HW2 := hid (below_two HW1.out hb)
                  clear hb c0 c1 c2 c3 c4 c5 c6
                  obtain ⟨c0, c1, c2, c3, c4, c5, c6⟩ := HC.out _ HW2.out
                  go_wp2
                  go_ret
                  exact ⟨by rw [HF.out]; rfl, below_two HB0.out HW2.out⟩
          · as_aux_lemma =>
            have dp : decide ((x_p : Int) ≤ 8) = false := decide_eq_false (by omega)
            have dp' : decide (x_p ≤ 8) = false := decide_eq_false h_p
            have HF : Hid (BB = false) := by show _ = _; rw [HCh.out]; simp [h_l, h_p]
            clear HCh
            go_wp2_with fail
            refine (K_a.out _).mono ?_
            rintro e v ⟨rfl, hv⟩
            subst v
            go_wp2_with fail
            refine (K_c.out _).mono ?_
            rintro e w1 ⟨rfl, hb⟩
            have HW1 := hid (below_two HW.out hb)
            clear hb c0 c1 c2 c3 c4 c5 c6
            obtain ⟨c0, c1, c2, c3, c4, c5, c6⟩ := HC.out _ HW1.out
            go_wp2
            go_ret
            exact ⟨by rw [HF.out]; rfl, below_two HB0.out HW1.out⟩
end Go.Proofs.YtmfpmajkjhmliaaGreatDoor.Ms
