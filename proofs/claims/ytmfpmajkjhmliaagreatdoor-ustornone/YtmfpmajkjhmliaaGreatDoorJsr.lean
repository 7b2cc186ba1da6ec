/-
  What the reference answers of two replies (R10.SameReply): whether they are the same.
-/
import Derived.Test.YtmfpmajkjhmliaaGreatDoorG03
namespace Go.Proofs.YtmfpmajkjhmliaaGreatDoor.Ms
open Go Go.RowKit
set_option maxRecDepth 100000
theorem sameL_len {α : Type} (f : α → α → Bool) (hf : ∀ x y, f x y = true ↔ x = y) (xs ys : List α) (h : xs.length ≠ ys.length) : sameL f xs ys = false := by
  rw [Bool.eq_false_iff]
  intro e
  exact h (by rw [(sameL_iff f hf xs ys).1 e])
theorem sameL_at {α : Type} (f : α → α → Bool) (hf : ∀ x y, f x y = true ↔ x = y) (d : α) (xs ys : List α) (j : Nat) (h : f (xs.getD j d) (ys.getD j d) = false) : sameL f xs ys = false := by
  rw [Bool.eq_false_iff]
  intro e
  rw [(sameL_iff f hf xs ys).1 e, (hf _ _).2 rfl] at h
  cases h
theorem getD_wf {ps : List Pen} (h : ∀ p ∈ ps, p.Wf) (j : Nat) (hj : j < ps.length) : (ps.getD j noPen).Wf := by
  have e : ps.getD j noPen = ps[j] := by simp [List.getD, hj]
  rw [e]
  exact h _ (List.getElem_mem hj)
theorem sameR_number {a b : Rep} (h : (a.number == b.number) = false) : sameR a b = false := by unfold sameR; rw [h]; simp
theorem sameR_last {a b : Rep} (h : (a.last == b.last) = false) : sameR a b = false := by unfold sameR; rw [h]; simp
theorem sameR_view {a b : Rep} (h : (a.view == b.view) = false) : sameR a b = false := by unfold sameR; rw [h]; simp
theorem sameR_commit {a b : Rep} (h : (a.commit == b.commit) = false) : sameR a b = false := by unfold sameR; rw [h]; simp
theorem sameR_vnum {a b : Rep} (h : (a.vnum == b.vnum) = false) : sameR a b = false := by unfold sameR; rw [h]; simp
theorem sameR_value {a b : Rep} (h : (a.value == b.value) = false) : sameR a b = false := by unfold sameR; rw [h]; simp
theorem sameR_data {a b : Rep} (h : (a.data == b.data) = false) : sameR a b = false := by unfold sameR; rw [h]; simp
theorem sameR_seen {a b : Rep} (h : (a.seen == b.seen) = false) : sameR a b = false := by unfold sameR; rw [h]; simp
theorem sameR_stag {a b : Rep} (h : (a.stag == b.stag) = false) : sameR a b = false := by unfold sameR; rw [h]; simp
theorem sameR_pend {a b : Rep} (h : sameL sameP a.pend b.pend = false) : sameR a b = false := by unfold sameR; rw [h]; simp
theorem sameR_all {a b : Rep} (h0 : (a.number == b.number) = true) (h1 : (a.last == b.last) = true) (h2 : (a.view == b.view) = true) (h3 : (a.commit == b.commit) = true) (h4 : (a.vnum == b.vnum) = true) (h5 : (a.value == b.value) = true) (h6 : (a.data == b.data) = true) (h7 : (a.seen == b.seen) = true) (h8 : (a.stag == b.stag) = true) (hp : sameL sameP a.pend b.pend = true) : sameR a b = true := by unfold sameR; rw [h0, h1, h2, h3, h4, h5, h6, h7, h8, hp]; rfl
set_option maxHeartbeats 8000000 in
theorem samereply_any {w : World} {a b : Rep} {vP vQ : Value} (ha : a.Wf) (hb : b.Wf) (hp : PensAt w vP a.pend) (hq : PensAt w vQ b.pend) (hmx : a.pend.length ≤ 9223372036854775807) :
    Calls Tryz.prog 85 #[.agg (repC a vP).toArray, .agg (repC b vQ).toArray] w fun e w' => e = .returned (.bool (sameR a b)) ∧ Below w.heap.size w w' := by
  have HB0 : Hid (Below w.heap.size w ((w.alloc (.cells (repC a vP).toArray 55)).alloc (.cells (repC b vQ).toArray 55))) := (below_a1 w _).alloc (by simp) _
  have R0 : Hid (((w.alloc (.cells (repC a vP).toArray 55)).alloc (.cells (repC b vQ).toArray 55)).heap[w.heap.size]? = some (.cells (repC a vP).toArray 55)) := heap_alloc2_old w _ _
  have R1 : Hid (((w.alloc (.cells (repC a vP).toArray 55)).alloc (.cells (repC b vQ).toArray 55)).heap[w.heap.size + 1]? = some (.cells (repC b vQ).toArray 55)) := heap_alloc2_new w _ _
  have HP := hid (hp.kept HB0.out)
  have HQ := hid (hq.kept HB0.out)
  obtain ⟨pa, capa, hpa, -⟩ := hp
  obtain ⟨qa, capb, hqa, -⟩ := hq
  subst hpa
  subst hqa
  obtain ⟨RA, hRA⟩ : ∃ RA, RA = (repC a (.slice pa a.pend.length capa)).toArray := ⟨_, rfl⟩
  obtain ⟨RB, hRB⟩ : ∃ RB, RB = (repC b (.slice qa b.pend.length capb)).toArray := ⟨_, rfl⟩
  rw [← hRA] at HB0 R0 R1 HP HQ ⊢
  rw [← hRB] at HB0 R0 R1 HP HQ ⊢
  have HRA := hid hRA
  have HRB := hid hRB
  clear hRA hRB
  go_enter Tryz.func85, Tryz.ntmps85
  go_upto_region 1 with fail
  generalize (w.alloc (.cells RA 55)).alloc (.cells RB 55) = W0 at *
  have r0 := R0.out
  have r1 := R1.out
  rw [HRA.out] at r0
  rw [HRB.out] at r1
  obtain ⟨g0, hg0⟩ : ∃ g0, g0 = w.heap.size := ⟨_, rfl⟩
  obtain ⟨g1, hg1⟩ : ∃ g1, g1 = w.heap.size + 1 := ⟨_, rfl⟩
  rw [← hg1] at r1 ⊢
  rw [← hg0] at r0 ⊢
  have c0_number := rrow_number r0 ha
  have c0_last := rrow_last r0 ha
  have c0_view := rrow_view r0 ha
  have s0_commit := hid (rrow_commit r0 ha)
  have c0_P := rrow_P r0 ha
  have c1_number := rrow_number r1 hb
  have c1_last := rrow_last r1 hb
  have c1_view := rrow_view r1 hb
  have s1_commit := hid (rrow_commit r1 hb)
  have c1_P := rrow_P r1 hb
  have Q0 := hid r0
  have Q1 := hid r1
  have HA := hid ha
  have HBw := hid hb
  have HG0 := hid hg0
  clear r0 r1 R0 R1 HRA HRB hg0 hg1
  cases h_number : (a.number == b.number) with
  | false => as_aux_lemma =>
    have HF := hid (sameR_number h_number)
    have d_number : (a.number != b.number) = true := by simpa using h_number
    have e_number : (a.number == b.number) = false := by simpa using h_number
    clear h_number ha hb
    go_wp2
    go_ret
    exact ⟨by rw [HF.out]; rfl, HB0.out⟩
  | true =>
    cases h_last : (a.last == b.last) with
    | false => as_aux_lemma =>
      have HF := hid (sameR_last h_last)
      have d_number : (a.number != b.number) = false := by simpa using h_number
      have e_number : (a.number == b.number) = true := by simpa using h_number
      have d_last : (a.last != b.last) = true := by simpa using h_last
      have e_last : (a.last == b.last) = false := by simpa using h_last
      clear h_number h_last ha hb
      go_wp2
      go_ret
      exact ⟨by rw [HF.out]; rfl, HB0.out⟩
    | true =>
      cases h_view : (a.view == b.view) with
      | false => as_aux_lemma =>
        have HF := hid (sameR_view h_view)
        have d_number : (a.number != b.number) = false := by simpa using h_number
        have e_number : (a.number == b.number) = true := by simpa using h_number
        have d_last : (a.last != b.last) = false := by simpa using h_last
        have e_last : (a.last == b.last) = true := by simpa using h_last
        have d_view : ¬ a.view = b.view := by simpa using h_view
        clear h_number h_last h_view ha hb
        go_wp2
        go_ret
        exact ⟨by rw [HF.out]; rfl, HB0.out⟩
      | true =>
        cases h_commit : (a.commit == b.commit) with
        | false => as_aux_lemma =>
          have HF := hid (sameR_commit h_commit)
          have d_number : (a.number != b.number) = false := by simpa using h_number
          have e_number : (a.number == b.number) = true := by simpa using h_number
          have d_last : (a.last != b.last) = false := by simpa using h_last
          have e_last : (a.last == b.last) = true := by simpa using h_last
          have d_view : a.view = b.view := by simpa using h_view
          have E_commit := fun W => equal_dig W a.commit b.commit ha.commit hb.commit
          rw [h_commit] at E_commit
          have Z0_commit : (Tryz.prog.info? 23).map (·.size) = some (dg a.commit).length := by rw [dg_len, ha.commit]; exact sizeDig
          have Z1_commit : (Tryz.prog.info? 23).map (·.size) = some (dg b.commit).length := by rw [dg_len, hb.commit]; exact sizeDig
          clear h_number h_last h_view h_commit ha hb
          generalize dg a.commit = A_commit at *
          generalize dg b.commit = B_commit at *
          go_wp2_with (first | ((with_reducible refine wl_load 23 (.tmp 26) ?_ g0 3 ?_ ?_ A_commit _ s0_commit.out Tryz.underlying23 ?_ Z0_commit ?_); exact rfl; exact rfl; exact rfl; exact rfl) | ((with_reducible refine wl_load 23 (.tmp 28) ?_ g1 3 ?_ ?_ B_commit _ s1_commit.out Tryz.underlying23 ?_ Z1_commit ?_); exact rfl; exact rfl; exact rfl; exact rfl))
          go_ret
          exact ⟨by rw [HF.out]; rfl, HB0.out⟩
        | true =>
          by_cases hl : a.pend.length = b.pend.length
          · as_aux_lemma =>
            have dl : ((a.pend.length : Int) != (b.pend.length : Int)) = false := by simp; omega
            have dl' : (a.pend.length != b.pend.length) = false := by simp; omega
            have HL := hid hl
            have HH : Hid ((a.number == b.number) = true ∧ (a.last == b.last) = true ∧ (a.view == b.view) = true ∧ (a.commit == b.commit) = true) := ⟨h_number, h_last, h_view, h_commit⟩
            have d_number : (a.number != b.number) = false := by simpa using h_number
            have e_number : (a.number == b.number) = true := by simpa using h_number
            have d_last : (a.last != b.last) = false := by simpa using h_last
            have e_last : (a.last == b.last) = true := by simpa using h_last
            have d_view : a.view = b.view := by simpa using h_view
            have E_commit := fun W => equal_dig W a.commit b.commit ha.commit hb.commit
            rw [h_commit] at E_commit
            have Z0_commit : (Tryz.prog.info? 23).map (·.size) = some (dg a.commit).length := by rw [dg_len, ha.commit]; exact sizeDig
            have Z1_commit : (Tryz.prog.info? 23).map (·.size) = some (dg b.commit).length := by rw [dg_len, hb.commit]; exact sizeDig
            clear h_number h_last h_view h_commit ha hb hl
            generalize dg a.commit = A_commit at *
            generalize dg b.commit = B_commit at *
            have HW0 := hid (Below.refl W0.heap.size W0)
            go_wp2_with (first | ((with_reducible refine wl_load 23 (.tmp 26) ?_ g0 3 ?_ ?_ A_commit _ s0_commit.out Tryz.underlying23 ?_ Z0_commit ?_); exact rfl; exact rfl; exact rfl; exact rfl) | ((with_reducible refine wl_load 23 (.tmp 28) ?_ g1 3 ?_ ?_ B_commit _ s1_commit.out Tryz.underlying23 ?_ Z1_commit ?_); exact rfl; exact rfl; exact rfl; exact rfl))
            go_loopw [5] (fun i w' => ∃ j : Nat, j ≤ a.pend.length ∧ i = .int .i64 j ∧ Hid (∀ k, k < j → sameP (a.pend.getD k noPen) (b.pend.getD k noPen) = true) ∧ Hid (Below W0.heap.size W0 w')) (fun i _ => a.pend.length - (intOf i).toNat)
            case atStart => exact ⟨0, by omega, rfl, fun k hk => absurd hk (Nat.not_lt_zero k), HW0.out⟩
            case round =>
              obtain ⟨k, hk, rfl, HN, HB⟩ := hrel
              clear c0_number c1_number c0_last c1_last c0_view c1_view c0_P c1_P s0_commit s1_commit E_commit Z0_commit Z1_commit d_number e_number d_last e_last d_view dl dl'
              have ha := HA.out
              have hb := HBw.out
              have q0 := row_kept Q0.out HB.out
              have q1 := row_kept Q1.out HB.out
              have c0_P := rrow_P q0 ha
              have c1_P := rrow_P q1 hb
              by_cases hlt : k < a.pend.length
              · as_aux_lemma =>
                have hlb : k < b.pend.length := by have := HL.out; omega
                have d1 : decide ((k : Int) < (a.pend.length : Int)) = true := decide_eq_true (by omega)
                have d1' : decide (k < a.pend.length) = true := decide_eq_true hlt
                obtain ⟨pa', cp', e', hpc⟩ := HP.out.kept HB.out
                cases e'
                obtain ⟨qa', cq', e', hqc⟩ := HQ.out.kept HB.out
                cases e'
                obtain ⟨ba, oa, rfl, hca⟩ := hpc (fun e => by rw [e] at hlt; exact absurd hlt (Nat.not_lt_zero k))
                obtain ⟨bb, ob, rfl, hcb⟩ := hqc (fun e => by rw [e] at hlb; exact absurd hlb (Nat.not_lt_zero k))
                have wa := getD_wf ha.pend k hlt
                have wb := getD_wf hb.pend k hlb
                have EP := fun W => equal_pen W _ _ wa wb
                have ZA : (Tryz.prog.info? 25).map (·.size) = some (penC (a.pend.getD k noPen)).length := by rw [penC_len wa]; exact sizePen
                have ZB : (Tryz.prog.info? 25).map (·.size) = some (penC (b.pend.getD k noPen)).length := by rw [penC_len wb]; exact sizePen
                have SA := hid (fun w' (hw : ∃ p : Regrown, w' = Sort.grow (redrawn wr p.d) p.os) => (by obtain ⟨p, rfl⟩ := hw; exact fun i c hi => cell_regrown (hca k hlt i c hi) _ _ : ∀ i c, (penC (a.pend.getD k noPen))[i]? = some c → w'.cell? ⟨ba, oa + k * 68 + i, none⟩ = some c))
                have SB := hid (fun w' (hw : ∃ p : Regrown, w' = Sort.grow (redrawn wr p.d) p.os) => (by obtain ⟨p, rfl⟩ := hw; exact fun i c hi => cell_regrown (hcb k hlb i c hi) _ _ : ∀ i c, (penC (b.pend.getD k noPen))[i]? = some c → w'.cell? ⟨bb, ob + k * 68 + i, none⟩ = some c))
                have p0 : ∀ dd os, (Sort.grow (redrawn wr dd) os).cell? ⟨g0, 35, none⟩ = some (.slice (some ⟨ba, oa, none⟩) a.pend.length capa) := fun dd os => cell_regrown c0_P _ _
                have p1 : ∀ dd os, (Sort.grow (redrawn wr dd) os).cell? ⟨g1, 35, none⟩ = some (.slice (some ⟨bb, ob, none⟩) b.pend.length capb) := fun dd os => cell_regrown c1_P _ _
                have HM : Hid (sameP (a.pend.getD k noPen) (b.pend.getD k noPen) = true → ∀ j, j < k + 1 → sameP (a.pend.getD j noPen) (b.pend.getD j noPen) = true) := fun h j hj => by
                  by_cases e : j = k
                  · rw [e]; exact h
                  · exact HN.out j (by omega)
                have HF : Hid (sameP (a.pend.getD k noPen) (b.pend.getD k noPen) = false → sameR a b = false) := fun h => sameR_pend (sameL_at sameP sameP_iff noPen _ _ k h)
                have HBg := hid (fun dq osq => HB.out.trans ((below_regrown wr dq osq).mono HB.out.size))
                clear hpc hqc hca hcb wa wb ha hb q0 q1 HN
                generalize sameP (a.pend.getD k noPen) (b.pend.getD k noPen) = r at *
                generalize penC (a.pend.getD k noPen) = PA at *
                generalize penC (b.pend.getD k noPen) = PB at *
                go_wp2_with fail
                refine wp_region_quiet_below (by kernel_rfl) (by kernel_rfl) ?_
                iterate 4 (first | go_big_quiet_step (fail) | quiet_step (fail))
                refine wq_load 25 (.tmp 51) rfl ba (oa + k * 68) rfl rfl PA _ (fun w' hw' => SA.out w' hw') Tryz.underlying25 rfl ZA ?_
                simp only [Act.put, List.setIfInBounds_toArray, List.set_cons_zero, List.set_cons_succ]
                iterate 4 (first | go_big_quiet_step (fail) | quiet_step (fail))
                refine wq_load 25 (.tmp 56) rfl bb (ob + k * 68) rfl rfl PB _ (fun w' hw' => SB.out w' hw') Tryz.underlying25 rfl ZB ?_
                simp only [Act.put, List.setIfInBounds_toArray, List.set_cons_zero, List.set_cons_succ]
                refine wq_neq rfl 25 25 (.tmp 52) (.tmp 57) rfl PA.toArray PB.toArray rfl rfl guardPen r EP ?_
                simp only [Act.put, List.setIfInBounds_toArray, List.set_cons_zero, List.set_cons_succ]
                refine wpQuiet_nil ?_
                intro _ hw'
                obtain ⟨⟨dq, osq⟩, hw''⟩ := hw'
                subst hw''
                have HBq := hid (HBg.out dq osq)
                generalize Sort.grow (redrawn wr dq) osq = w5 at *
                clear p0 p1 SA SB EP ZA ZB HBg c0_P c1_P
                cases hr : r with
                | true =>
                  have HM' := hid (HM.out hr)
                  subst hr
                  clear HM HF
                  go_wp2
                  exact ⟨⟨k + 1, by omega, by go_num, HM'.out, HBq.out⟩, by simp [intOf]; omega⟩
                | false =>
                  have HF' := hid (HF.out hr)
                  subst hr
                  clear HM HF
                  go_wp2
                  go_ret
                  have hz := HG0.out
                  exact ⟨by rw [HF'.out]; rfl, below_two HB0.out HBq.out⟩
              · as_aux_lemma =>
                have e : k = a.pend.length := by omega
                subst e
                have dk : decide ((a.pend.length : Int) < (a.pend.length : Int)) = false := decide_eq_false (by omega)
                have HPL : Hid (sameL sameP a.pend b.pend = true) := (sameL_iff sameP sameP_iff _ _).2 (list_eq_of noPen _ _ HL.out (fun j hj => (sameP_iff _ _).1 (HN.out j hj)))
                have c0_vnum := rrow_vnum q0 ha
                have c0_value := rrow_value q0 ha
                have s0_data := hid (rrow_data q0 ha)
                have c0_seen := rrow_seen q0 ha
                have s0_stag := hid (rrow_stag q0 ha)
                have c1_vnum := rrow_vnum q1 hb
                have c1_value := rrow_value q1 hb
                have s1_data := hid (rrow_data q1 hb)
                have c1_seen := rrow_seen q1 hb
                have s1_stag := hid (rrow_stag q1 hb)
                have HBq := hid (below_two HB0.out HB.out)
                clear HN HP HQ hmx HW0 hlt
                cases h_vnum : (a.vnum == b.vnum) with
                | false => as_aux_lemma =>
                  have HF := hid (sameR_vnum h_vnum)
                  have d_vnum : (a.vnum != b.vnum) = true := by simpa using h_vnum
                  have e_vnum : (a.vnum == b.vnum) = false := by simpa using h_vnum
                  clear h_vnum ha hb q0 q1
                  go_wp2
                  go_ret
                  exact ⟨by rw [HF.out]; rfl, HBq.out⟩
                | true =>
                  cases h_value : (a.value == b.value) with
                  | false => as_aux_lemma =>
                    have HF := hid (sameR_value h_value)
                    have d_vnum : (a.vnum != b.vnum) = false := by simpa using h_vnum
                    have e_vnum : (a.vnum == b.vnum) = true := by simpa using h_vnum
                    have d_value : ¬ a.value = b.value := by simpa using h_value
                    clear h_vnum h_value ha hb q0 q1
                    go_wp2
                    go_ret
                    exact ⟨by rw [HF.out]; rfl, HBq.out⟩
                  | true =>
                    cases h_data : (a.data == b.data) with
                    | false => as_aux_lemma =>
                      have HF := hid (sameR_data h_data)
                      have d_vnum : (a.vnum != b.vnum) = false := by simpa using h_vnum
                      have e_vnum : (a.vnum == b.vnum) = true := by simpa using h_vnum
                      have d_value : a.value = b.value := by simpa using h_value
                      have E_data := fun W => equal_dig W a.data b.data ha.data hb.data
                      rw [h_data] at E_data
                      have Z0_data : (Tryz.prog.info? 23).map (·.size) = some (dg a.data).length := by rw [dg_len, ha.data]; exact sizeDig
                      have Z1_data : (Tryz.prog.info? 23).map (·.size) = some (dg b.data).length := by rw [dg_len, hb.data]; exact sizeDig
                      clear h_vnum h_value h_data ha hb q0 q1
                      generalize dg a.data = A_data at *
                      generalize dg b.data = B_data at *
                      go_wp2_with (first | ((with_reducible refine wl_load 23 (.tmp 72) ?_ g0 38 ?_ ?_ A_data _ s0_data.out Tryz.underlying23 ?_ Z0_data ?_); exact rfl; exact rfl; exact rfl; exact rfl) | ((with_reducible refine wl_load 23 (.tmp 74) ?_ g1 38 ?_ ?_ B_data _ s1_data.out Tryz.underlying23 ?_ Z1_data ?_); exact rfl; exact rfl; exact rfl; exact rfl))
                      go_ret
                      exact ⟨by rw [HF.out]; rfl, HBq.out⟩
                    | true =>
                      cases h_seen : (a.seen == b.seen) with
                      | false => as_aux_lemma =>
                        have HF := hid (sameR_seen h_seen)
                        have d_vnum : (a.vnum != b.vnum) = false := by simpa using h_vnum
                        have e_vnum : (a.vnum == b.vnum) = true := by simpa using h_vnum
                        have d_value : a.value = b.value := by simpa using h_value
                        have E_data := fun W => equal_dig W a.data b.data ha.data hb.data
                        rw [h_data] at E_data
                        have Z0_data : (Tryz.prog.info? 23).map (·.size) = some (dg a.data).length := by rw [dg_len, ha.data]; exact sizeDig
                        have Z1_data : (Tryz.prog.info? 23).map (·.size) = some (dg b.data).length := by rw [dg_len, hb.data]; exact sizeDig
                        have d_seen : ¬ a.seen = b.seen := by simpa using h_seen
                        clear h_vnum h_value h_data h_seen ha hb q0 q1
                        generalize dg a.data = A_data at *
                        generalize dg b.data = B_data at *
                        go_wp2_with (first | ((with_reducible refine wl_load 23 (.tmp 72) ?_ g0 38 ?_ ?_ A_data _ s0_data.out Tryz.underlying23 ?_ Z0_data ?_); exact rfl; exact rfl; exact rfl; exact rfl) | ((with_reducible refine wl_load 23 (.tmp 74) ?_ g1 38 ?_ ?_ B_data _ s1_data.out Tryz.underlying23 ?_ Z1_data ?_); exact rfl; exact rfl; exact rfl; exact rfl))
                        go_ret
                        exact ⟨by rw [HF.out]; rfl, HBq.out⟩
                      | true =>
                        cases h_stag : (a.stag == b.stag) with
                        | false => as_aux_lemma =>
                          have HF := hid (sameR_stag h_stag)
                          have d_vnum : (a.vnum != b.vnum) = false := by simpa using h_vnum
                          have e_vnum : (a.vnum == b.vnum) = true := by simpa using h_vnum
                          have d_value : a.value = b.value := by simpa using h_value
                          have E_data := fun W => equal_dig W a.data b.data ha.data hb.data
                          rw [h_data] at E_data
                          have Z0_data : (Tryz.prog.info? 23).map (·.size) = some (dg a.data).length := by rw [dg_len, ha.data]; exact sizeDig
                          have Z1_data : (Tryz.prog.info? 23).map (·.size) = some (dg b.data).length := by rw [dg_len, hb.data]; exact sizeDig
                          have d_seen : a.seen = b.seen := by simpa using h_seen
                          have E_stag := fun W => equal_dig W a.stag b.stag ha.stag hb.stag
                          rw [h_stag] at E_stag
                          have Z0_stag : (Tryz.prog.info? 23).map (·.size) = some (dg a.stag).length := by rw [dg_len, ha.stag]; exact sizeDig
                          have Z1_stag : (Tryz.prog.info? 23).map (·.size) = some (dg b.stag).length := by rw [dg_len, hb.stag]; exact sizeDig
                          clear h_vnum h_value h_data h_seen h_stag ha hb q0 q1
                          generalize dg a.data = A_data at *
                          generalize dg b.data = B_data at *
                          generalize dg a.stag = A_stag at *
                          generalize dg b.stag = B_stag at *
                          go_wp2_with (first | ((with_reducible refine wl_load 23 (.tmp 72) ?_ g0 38 ?_ ?_ A_data _ s0_data.out Tryz.underlying23 ?_ Z0_data ?_); exact rfl; exact rfl; exact rfl; exact rfl) | ((with_reducible refine wl_load 23 (.tmp 74) ?_ g1 38 ?_ ?_ B_data _ s1_data.out Tryz.underlying23 ?_ Z1_data ?_); exact rfl; exact rfl; exact rfl; exact rfl) | ((with_reducible refine wl_load 23 (.tmp 86) ?_ g0 71 ?_ ?_ A_stag _ s0_stag.out Tryz.underlying23 ?_ Z0_stag ?_); exact rfl; exact rfl; exact rfl; exact rfl) | ((with_reducible refine wl_load 23 (.tmp 88) ?_ g1 71 ?_ ?_ B_stag _ s1_stag.out Tryz.underlying23 ?_ Z1_stag ?_); exact rfl; exact rfl; exact rfl; exact rfl))
                          go_ret
                          exact ⟨by rw [HF.out]; rfl, HBq.out⟩
                        | true =>
                          as_aux_lemma =>
                          have HF := hid (sameR_all HH.out.1 HH.out.2.1 HH.out.2.2.1 HH.out.2.2.2 h_vnum h_value h_data h_seen h_stag HPL.out)
                          have d_vnum : (a.vnum != b.vnum) = false := by simpa using h_vnum
                          have e_vnum : (a.vnum == b.vnum) = true := by simpa using h_vnum
                          have d_value : a.value = b.value := by simpa using h_value
                          have E_data := fun W => equal_dig W a.data b.data ha.data hb.data
                          rw [h_data] at E_data
                          have Z0_data : (Tryz.prog.info? 23).map (·.size) = some (dg a.data).length := by rw [dg_len, ha.data]; exact sizeDig
                          have Z1_data : (Tryz.prog.info? 23).map (·.size) = some (dg b.data).length := by rw [dg_len, hb.data]; exact sizeDig
                          have d_seen : a.seen = b.seen := by simpa using h_seen
                          have E_stag := fun W => equal_dig W a.stag b.stag ha.stag hb.stag
                          rw [h_stag] at E_stag
                          have Z0_stag : (Tryz.prog.info? 23).map (·.size) = some (dg a.stag).length := by rw [dg_len, ha.stag]; exact sizeDig
                          have Z1_stag : (Tryz.prog.info? 23).map (·.size) = some (dg b.stag).length := by rw [dg_len, hb.stag]; exact sizeDig
                          clear h_vnum h_value h_data h_seen h_stag ha hb q0 q1
                          generalize dg a.data = A_data at *
                          generalize dg b.data = B_data at *
                          generalize dg a.stag = A_stag at *
                          generalize dg b.stag = B_stag at *
                          go_wp2_with (first | ((with_reducible refine wl_load 23 (.tmp 72) ?_ g0 38 ?_ ?_ A_data _ s0_data.out Tryz.underlying23 ?_ Z0_data ?_); exact rfl; exact rfl; exact rfl; exact rfl) | ((with_reducible refine wl_load 23 (.tmp 74) ?_ g1 38 ?_ ?_ B_data _ s1_data.out Tryz.underlying23 ?_ Z1_data ?_); exact rfl; exact rfl; exact rfl; exact rfl) | ((with_reducible refine wl_load 23 (.tmp 86) ?_ g0 71 ?_ ?_ A_stag _ s0_stag.out Tryz.underlying23 ?_ Z0_stag ?_); exact rfl; exact rfl; exact rfl; exact rfl) | ((with_reducible refine wl_load 23 (.tmp 88) ?_ g1 71 ?_ ?_ B_stag _ s1_stag.out Tryz.underlying23 ?_ Z1_stag ?_); exact rfl; exact rfl; exact rfl; exact rfl))
                          go_ret
                          exact ⟨by rw [HF.out]; rfl, HBq.out⟩
          · as_aux_lemma =>
            have HF := hid (sameR_pend (sameL_len sameP sameP_iff _ _ hl))
            have dl : ((a.pend.length : Int) != (b.pend.length : Int)) = true := by simp; omega
            have dl' : (a.pend.length != b.pend.length) = true := by simp; omega
            have d_number : (a.number != b.number) = false := by simpa using h_number
            have e_number : (a.number == b.number) = true := by simpa using h_number
            have d_last : (a.last != b.last) = false := by simpa using h_last
            have e_last : (a.last == b.last) = true := by simpa using h_last
            have d_view : a.view = b.view := by simpa using h_view
            have E_commit := fun W => equal_dig W a.commit b.commit ha.commit hb.commit
            rw [h_commit] at E_commit
            have Z0_commit : (Tryz.prog.info? 23).map (·.size) = some (dg a.commit).length := by rw [dg_len, ha.commit]; exact sizeDig
            have Z1_commit : (Tryz.prog.info? 23).map (·.size) = some (dg b.commit).length := by rw [dg_len, hb.commit]; exact sizeDig
            clear h_number h_last h_view h_commit ha hb hl
            generalize dg a.commit = A_commit at *
            generalize dg b.commit = B_commit at *
            go_wp2_with (first | ((with_reducible refine wl_load 23 (.tmp 26) ?_ g0 3 ?_ ?_ A_commit _ s0_commit.out Tryz.underlying23 ?_ Z0_commit ?_); exact rfl; exact rfl; exact rfl; exact rfl) | ((with_reducible refine wl_load 23 (.tmp 28) ?_ g1 3 ?_ ?_ B_commit _ s1_commit.out Tryz.underlying23 ?_ Z1_commit ?_); exact rfl; exact rfl; exact rfl; exact rfl))
            go_ret
            exact ⟨by rw [HF.out]; rfl, HB0.out⟩
end Go.Proofs.YtmfpmajkjhmliaaGreatDoor.Ms
