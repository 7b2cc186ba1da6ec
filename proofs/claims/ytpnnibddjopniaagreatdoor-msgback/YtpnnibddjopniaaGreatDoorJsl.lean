/-
  What slices.Equal answers of two lists of numbers, and of two lists of what is pending.
-/
import Derived.Test.YtpnnibddjopniaaGreatDoorJsr
import Derived.Test.YtpnnibddjopniaaGreatDoorJas
namespace Go.Proofs.YtpnnibddjopniaaGreatDoor.Ms
open Go Go.RowKit
set_option maxRecDepth 100000

set_option maxHeartbeats 2000000 in
theorem eqInts_any {w : World} {u v : Value} {xs ys : List Int} (hu : IntsAt w u xs) (hv : IntsAt w v ys) (hx : xs.length ≤ 9223372036854775807) :
    Calls Tryz.prog 50 #[u, v] w fun e w' => e = .returned (.bool (xs == ys)) ∧ Below w.heap.size w w' := by
  obtain ⟨a, c1, rfl, ha⟩ := hu
  obtain ⟨b, c2, rfl, hb⟩ := hv
  have HB0 := hid (Below.refl w.heap.size w)
  by_cases hl : xs.length = ys.length
  · have HE := hid (list_eq_of (0 : Int) xs ys hl)
    have HN := hid (fun j => list_ne_at (0 : Int) xs ys j)
    have HA := hid ha
    have HBb := hid hb
    have dl : ((xs.length : Int) != (ys.length : Int)) = false := by simp; omega
    have dl' : (xs.length != ys.length) = false := by simp; omega
    have HL := hid hl
    clear ha hb hl
    go_enter Tryz.func50, Tryz.ntmps50
    go_wp2
    go_loopw [13] (fun i w' => ∃ j : Nat, j ≤ xs.length ∧ i = .int .i64 j ∧ Hid (∀ k, k < j → xs.getD k 0 = ys.getD k 0) ∧ Hid (Below w.heap.size w w')) (fun i _ => xs.length - (intOf i).toNat)
    case atStart => exact ⟨0, by omega, rfl, fun k hk => absurd hk (Nat.not_lt_zero k), HB0.out⟩
    case round =>
      obtain ⟨j, hj, rfl, HQ, HB⟩ := hrel
      by_cases hlt : j < xs.length
      · have d1 : decide ((j : Int) < (xs.length : Int)) = true := decide_eq_true (by omega)
        have d1' : decide (j < xs.length) = true := decide_eq_true hlt
        have hly : j < ys.length := by have := HL.out; omega
        obtain ⟨ba, oa, rfl, hca⟩ := HA.out (fun e => by rw [e] at hlt; exact absurd hlt (Nat.not_lt_zero j))
        obtain ⟨bb, ob, rfl, hcb⟩ := HBb.out (fun e => by rw [e] at hly; exact absurd hly (Nat.not_lt_zero j))
        have ca : wr.cell? ⟨ba, oa + j, none⟩ = some (.int .i64 (xs.getD j 0)) := (HB.out.cell (p := ⟨ba, oa + j, none⟩) (World.block_lt_of_cell? w _ (hca j hlt))).trans (hca j hlt)
        have cb' : wr.cell? ⟨bb, ob + j, none⟩ = some (.int .i64 (ys.getD j 0)) := (HB.out.cell (p := ⟨bb, ob + j, none⟩) (World.block_lt_of_cell? w _ (hcb j hly))).trans (hcb j hly)
        by_cases he : xs.getD j 0 = ys.getD j 0
        · have HQ' : Hid (∀ k, k < j + 1 → xs.getD k 0 = ys.getD k 0) := fun k hk => by
            by_cases e : k = j
            · rw [e]; exact he
            · exact HQ.out k (by omega)
          rw [← he] at cb'
          generalize xs.getD j 0 = x at *
          clear he hca hcb HQ HE HN HA HBb
          have HBd := hid HB.out.drew
          go_wp2
          go_region
          all_goals (go_wp2; exact ⟨⟨j + 1, by omega, by go_num, HQ'.out, HBd.out⟩, by simp [intOf]; omega⟩)
        · have HP := hid (HN.out j he)
          generalize xs.getD j 0 = x at *
          generalize ys.getD j 0 = y at *
          have dx : (x != y) = true := by simpa using he
          clear he hca hcb HQ HE HN HA HBb
          have HBd := hid HB.out.drew
          go_wp2
          go_region
          all_goals (go_wp2; go_ret; exact ⟨by rw [HP.out]; rfl, HBd.out⟩)
      · obtain rfl : j = xs.length := by omega
        have HP : Hid ((xs == ys) = true) := by show _ = _; rw [HE.out HQ.out]; simp
        clear HE HQ HN HA HBb
        go_wp2
        go_ret
        exact ⟨by rw [HP.out]; rfl, HB.out⟩
  · rw [list_ne_len xs ys hl]
    have dl : ((xs.length : Int) != (ys.length : Int)) = true := by simp; omega
    have dl' : (xs.length != ys.length) = true := by simp; omega
    clear ha hb hl
    go_enter Tryz.func50, Tryz.ntmps50
    go_wp2
    go_ret
    exact ⟨rfl, HB0.out⟩

set_option maxHeartbeats 4000000 in
theorem eqPens_any {w : World} {u v : Value} {xs ys : List Pen} (wx : ∀ p ∈ xs, p.Wf) (wy : ∀ p ∈ ys, p.Wf) (hu : PensAt w u xs) (hv : PensAt w v ys) (hx : xs.length ≤ 9223372036854775807) :
    Calls Tryz.prog 73 #[u, v] w fun e w' => e = .returned (.bool (sameL sameP xs ys)) ∧ Below w.heap.size w w' := by
  have HP := hid hu
  have HQ := hid hv
  obtain ⟨a, c1, rfl, -⟩ := hu
  obtain ⟨b, c2, rfl, -⟩ := hv
  have HB0 := hid (Below.refl w.heap.size w)
  by_cases hl : xs.length = ys.length
  · have HX := hid wx
    have HY := hid wy
    have dl : ((xs.length : Int) != (ys.length : Int)) = false := by simp; omega
    have dl' : (xs.length != ys.length) = false := by simp; omega
    have HL := hid hl
    clear wx wy hl
    go_enter Tryz.func73, Tryz.ntmps73
    go_wp2
    go_loopw [13] (fun i w' => ∃ j : Nat, j ≤ xs.length ∧ i = .int .i64 j ∧ Hid (∀ k, k < j → sameP (xs.getD k noPen) (ys.getD k noPen) = true) ∧ Hid (Below w.heap.size w w')) (fun i _ => xs.length - (intOf i).toNat)
    case atStart => exact ⟨0, by omega, rfl, fun k hk => absurd hk (Nat.not_lt_zero k), HB0.out⟩
    case round =>
      obtain ⟨k, hk, rfl, HN, HB⟩ := hrel
      clear dl dl'
      by_cases hlt : k < xs.length
      · as_aux_lemma =>
        have hlb : k < ys.length := by have := HL.out; omega
        have d1 : decide ((k : Int) < (xs.length : Int)) = true := decide_eq_true (by omega)
        have d1' : decide (k < xs.length) = true := decide_eq_true hlt
        obtain ⟨pa', cp', e', hpc⟩ := HP.out.kept HB.out
        cases e'
        obtain ⟨qa', cq', e', hqc⟩ := HQ.out.kept HB.out
        cases e'
        obtain ⟨ba, oa, rfl, hca⟩ := hpc (fun e => by rw [e] at hlt; exact absurd hlt (Nat.not_lt_zero k))
        obtain ⟨bb, ob, rfl, hcb⟩ := hqc (fun e => by rw [e] at hlb; exact absurd hlb (Nat.not_lt_zero k))
        have wa := getD_wf HX.out k hlt
        have wb := getD_wf HY.out k hlb
        have EP := fun W => equal_pen W _ _ wa wb
        have ZA : (Tryz.prog.info? 109).map (·.size) = some (penC (xs.getD k noPen)).length := by rw [penC_len wa]; exact sizePen
        have ZB : (Tryz.prog.info? 109).map (·.size) = some (penC (ys.getD k noPen)).length := by rw [penC_len wb]; exact sizePen
        have SA := hid (fun w' (hw : ∃ p : Regrown, w' = Sort.grow (redrawn wr p.d) p.os) => (by obtain ⟨p, rfl⟩ := hw; exact fun i c hi => cell_regrown (hca k hlt i c hi) _ _ : ∀ i c, (penC (xs.getD k noPen))[i]? = some c → w'.cell? ⟨ba, oa + k * 68 + i, none⟩ = some c))
        have SB := hid (fun w' (hw : ∃ p : Regrown, w' = Sort.grow (redrawn wr p.d) p.os) => (by obtain ⟨p, rfl⟩ := hw; exact fun i c hi => cell_regrown (hcb k hlb i c hi) _ _ : ∀ i c, (penC (ys.getD k noPen))[i]? = some c → w'.cell? ⟨bb, ob + k * 68 + i, none⟩ = some c))
        have HM : Hid (sameP (xs.getD k noPen) (ys.getD k noPen) = true → ∀ j, j < k + 1 → sameP (xs.getD j noPen) (ys.getD j noPen) = true) := fun h j hj => by
          by_cases e : j = k
          · rw [e]; exact h
          · exact HN.out j (by omega)
        have HF : Hid (sameP (xs.getD k noPen) (ys.getD k noPen) = false → sameL sameP xs ys = false) := fun h => sameL_at sameP sameP_iff noPen _ _ k h
        have HBg := hid (fun dq osq => HB.out.trans ((below_regrown wr dq osq).mono HB.out.size))
        clear hpc hqc hca hcb wa wb HN HX HY
        generalize sameP (xs.getD k noPen) (ys.getD k noPen) = r at *
        generalize penC (xs.getD k noPen) = PA at *
        generalize penC (ys.getD k noPen) = PB at *
        go_wp2_with fail
        refine wp_region_quiet_below (by kernel_rfl) (by kernel_rfl) ?_
        iterate 3 (first | go_big_quiet_step (fail) | quiet_step (fail))
        refine wq_load 109 (.tmp 18) rfl ba (oa + k * 68) rfl rfl PA _ (fun w' hw' => SA.out w' hw') Tryz.underlying109 rfl ZA ?_
        simp only [Act.put, List.setIfInBounds_toArray, List.set_cons_zero, List.set_cons_succ]
        iterate 3 (first | go_big_quiet_step (fail) | quiet_step (fail))
        refine wq_load 109 (.tmp 22) rfl bb (ob + k * 68) rfl rfl PB _ (fun w' hw' => SB.out w' hw') Tryz.underlying109 rfl ZB ?_
        simp only [Act.put, List.setIfInBounds_toArray, List.set_cons_zero, List.set_cons_succ]
        refine wq_neq rfl 109 109 (.tmp 19) (.tmp 23) rfl PA.toArray PB.toArray rfl rfl guardPen r EP ?_
        simp only [Act.put, List.setIfInBounds_toArray, List.set_cons_zero, List.set_cons_succ]
        refine wpQuiet_nil ?_
        intro _ hw'
        obtain ⟨⟨dq, osq⟩, hw''⟩ := hw'
        subst hw''
        have HBq := hid (HBg.out dq osq)
        generalize Sort.grow (redrawn wr dq) osq = w5 at *
        clear SA SB EP ZA ZB HBg
        cases hr : r with
        | true =>
          have HM' := hid (HM.out hr)
          subst hr
          clear HM HF
          go_wp2
          exact ⟨⟨k + 1, by omega, by go_num, HM'.out, HBq.out⟩, by simp [intOf]; omega⟩
        | false =>
          have HF' := hid (HF.out hr)
          subst hr
          clear HM HF
          go_wp2
          go_ret
          exact ⟨by rw [HF'.out]; rfl, HBq.out⟩
      · as_aux_lemma =>
        have e : k = xs.length := by omega
        subst e
        have dk : decide ((xs.length : Int) < (xs.length : Int)) = false := decide_eq_false (by omega)
        have HPL : Hid (sameL sameP xs ys = true) := (sameL_iff sameP sameP_iff _ _).2 (list_eq_of noPen _ _ HL.out (fun j hj => (sameP_iff _ _).1 (HN.out j hj)))
        clear HN HX HY
        go_wp2
        go_ret
        exact ⟨by rw [HPL.out]; rfl, HB.out⟩
  · rw [sameL_len sameP sameP_iff xs ys hl]
    have dl : ((xs.length : Int) != (ys.length : Int)) = true := by simp; omega
    have dl' : (xs.length != ys.length) = true := by simp; omega
    clear hl wx wy
    go_enter Tryz.func73, Tryz.ntmps73
    go_wp2
    go_ret
    exact ⟨rfl, HB0.out⟩
end Go.Proofs.YtpnnibddjopniaaGreatDoor.Ms
