/-
  The reference's first: who comes next.
-/
import Derived.Test.YtkjgiidmajjonaaPhr
namespace Go.Proofs.Ytkjgiidmajjonaa.Kn
open Go Go.RowKit
set_option maxRecDepth 100000

section
variable {n me now : Int} {d told : List Int} {k : Nat}
theorem fs_skip (h : donB n me now d told (k : Int) = true) : fsK n me now d told (k + 1) = fsK n me now d told k := by
  show stF _ _ _ _ _ _ _ = _
  unfold stF
  rw [h]
  rfl
theorem fs_new (h : donB n me now d told (k : Int) = false) (e : fsK n me now d told k = -1) : fsK n me now d told (k + 1) = (k : Int) := by
  show stF _ _ _ _ _ _ _ = _
  unfold stF
  rw [h, e]
  rfl
theorem fs_better {x : Nat} (h : donB n me now d told (k : Int) = false) (e : fsK n me now d told k = (x : Int)) (hl : duI d (k : Int) < duI d (x : Int)) : fsK n me now d told (k + 1) = (k : Int) := by
  show stF _ _ _ _ _ _ _ = _
  unfold stF
  rw [h, e, decide_eq_true hl]
  simp
theorem fs_keep {x : Nat} (h : donB n me now d told (k : Int) = false) (e : fsK n me now d told k = (x : Int)) (hl : ¬ duI d (k : Int) < duI d (x : Int)) : fsK n me now d told (k + 1) = (x : Int) := by
  show stF _ _ _ _ _ _ _ = _
  unfold stF
  rw [h, e, decide_eq_false hl, decide_eq_false (by omega : ¬ (x : Int) < 0)]
  rfl
theorem any_step (l : List Int) (c : Int) (j : Nat) (hj : j < l.length) : (l.take (j + 1)).any (fun t => t == c) = ((l.take j).any (fun t => t == c) || (l.getD j 0 == c)) := by
  rw [List.take_succ_eq_append_getElem hj, List.any_append]
  simp [List.getD, hj]
end
section
variable {w w' : World} {q g cap n me : Nat} {S : List Value} {p : Pb}
set_option maxHeartbeats 16000000 in
theorem rfirst_any (h : XAt w q g cap S n me p) {u : Value} {told : List Int} (hu : IntsAt w u told) (hl : told.length ≤ 1000) (hn8 : n ≤ 8) : Calls Try.prog 32 #[pt q 0, u] w fun e w' => e = .returned (nu (fstP n me p.now p.due told)) ∧ Below w.heap.size w w' := by
  obtain ⟨ua, uc, rfl, hua⟩ := hu
  have HU := hid hua
  have H := hid h
  have HO := hid (fun W (hb : Below w.heap.size w W) c => rother_any (h.kept hb) c)
  have HB0 := hid (Below.refl w.heap.size w)
  clear h hua
  go_enter Try.func32, Try.ntmps32
  go_wp2
  go_loopw [5, 6] (fun x i wr => ∃ k : Nat, k ≤ n ∧ i = nu k ∧ x = nu (fsK n me p.now p.due told k) ∧ Hid (Below w.heap.size w wr)) (fun _ i _ => n - (intOf i).toNat)
  case atStart => exact ⟨0, by omega, rfl, rfl, HB0⟩
  case round =>
    obtain ⟨k, hk, rfl, rfl, HB⟩ := hrel
    have c0 := (H.out.kept HB.out).c0
    by_cases hlt : k < n
    · have d1 : decide ((k : Int) < (n : Int)) = true := decide_eq_true (by omega)
      have d1' : decide (k < n) = true := decide_eq_true hlt
      have HOk := hid (fun W (hb : Below w.heap.size w W) => HO.out W hb (k : Int))
      cases ho : othB n me (k : Int) with
      | false =>
        have hd : donB n me p.now p.due told (k : Int) = true := by unfold donB; rw [ho]; rfl
        rw [ho] at HOk
        have HOq : Hid (∀ d os, Calls Try.prog 13 #[pt q 0, nu (k : Int)] (Sort.grow (redrawn wr d) os) fun e w'' => e = .returned (.bool false) ∧ ∃ p : Regrown, w'' = Sort.grow (redrawn wr p.d) p.os) := fun d os => Calls.regrown_of ((HOk.out _ (below_twoY HB.out (below_regrown wr d os) HB.out.size)).mono fun e w' hq => ⟨hq.1, hq.2 ▸ Below.refl _ _⟩)
        go_upto_region 5 with fail
        have p2 : ∀ dd os, (Sort.grow (redrawn wr dd) os).cell? ⟨q, 2, none⟩ = some (nu p.now) := fun dd os => cell_regrown (H.out.kept HB.out).c2 _ _
        have p4 : ∀ dd os, (Sort.grow (redrawn wr dd) os).cell? ⟨q, 4, none⟩ = some (.slice (some ⟨g, 0, none⟩) n cap) := fun dd os => cell_regrown (H.out.kept HB.out).c4 _ _
        have pk : ∀ dd os, (Sort.grow (redrawn wr dd) os).cell? ⟨g, 0 + k, none⟩ = some (nu (duI p.due (k : Int))) := fun dd os => cell_regrown ((H.out.kept HB.out).du k hlt) _ _
        have pk' : ∀ dd os, (Sort.grow (redrawn wr dd) os).cell? ⟨g, k, none⟩ = some (nu (duI p.due (k : Int))) := fun dd os => by have := pk dd os; rwa [Nat.zero_add] at this
        refine wp_region_quiet_below (by kernel_rfl) (by kernel_rfl) ?_
        iterate 2 (first | go_big_quiet_step (fail) | quiet_step (fail))
        (first | go_big_quiet_step (exact HOq.out _ _) | quiet_step (exact HOq.out _ _))
        iterate 16 (first | go_big_quiet_step (fail) | quiet_step (fail))
        refine wpQuiet_nil ?_
        intro _ hw'
        obtain ⟨⟨dq, osq⟩, hw''⟩ := hw'
        subst hw''
        have bq := below_regrown wr dq osq
        have HB1 := hid (below_twoY HB.out bq HB.out.size)
        generalize Sort.grow (redrawn wr dq) osq = wr1 at *
        clear bq p2 p4 pk pk' HOq HOk
        go_wp2
        go_loopw [7, 8] (fun dn i2 wr2 => ∃ j : Nat, j ≤ told.length ∧ i2 = nu j ∧ dn = .bool true ∧ Hid (Below w.heap.size w wr2)) (fun _ i2 _ => told.length - (intOf i2).toNat)
        case atStart => exact ⟨0, by omega, rfl, rfl, HB1⟩
        case round =>
          obtain ⟨j, hj, rfl, rfl, HB2⟩ := hrel
          by_cases hjl : j < told.length
          · have d2 : decide ((j : Int) < (told.length : Int)) = true := decide_eq_true (by omega)
            have d2' : decide (j < told.length) = true := decide_eq_true hjl
            go_wp2
            exact ⟨⟨j + 1, by omega, by go_num, rfl, HB2⟩, by simp [intOf]; omega⟩
          · have d2 : decide ((j : Int) < (told.length : Int)) = false := decide_eq_false (by omega)
            have d2' : decide (j < told.length) = false := decide_eq_false hjl
            go_upto_region 10 with fail
            have pz2 : ∀ dd os, (Sort.grow (redrawn wr dd) os).cell? ⟨q, 2, none⟩ = some (nu p.now) := fun dd os => cell_regrown (H.out.kept HB2.out).c2 _ _
            have pz4 : ∀ dd os, (Sort.grow (redrawn wr dd) os).cell? ⟨q, 4, none⟩ = some (.slice (some ⟨g, 0, none⟩) n cap) := fun dd os => cell_regrown (H.out.kept HB2.out).c4 _ _
            refine wp_region_quiet_below (by kernel_rfl) (by kernel_rfl) ?_
            iterate 23 (first | go_big_quiet_step (fail) | quiet_step (fail))
            refine wpQuiet_nil ?_
            intro _ hw'
            obtain ⟨⟨dq, osq⟩, hw''⟩ := hw'
            subst hw''
            have bq := below_regrown wr dq osq
            have HB3 := hid (below_twoY HB2.out bq HB2.out.size)
            generalize Sort.grow (redrawn wr dq) osq = wr3 at *
            clear bq pz2 pz4
            go_wp2
            exact ⟨⟨k + 1, by omega, by go_num, (by rw [fs_skip hd]), HB3⟩, by simp [intOf]; omega⟩
      | true =>
        cases hD : decide (p.now < duI p.due (k : Int)) with
        | true =>
          have hd : donB n me p.now p.due told (k : Int) = true := by unfold donB; rw [ho, hD]; rfl
          rw [ho] at HOk
          have HOq : Hid (∀ d os, Calls Try.prog 13 #[pt q 0, nu (k : Int)] (Sort.grow (redrawn wr d) os) fun e w'' => e = .returned (.bool true) ∧ ∃ p : Regrown, w'' = Sort.grow (redrawn wr p.d) p.os) := fun d os => Calls.regrown_of ((HOk.out _ (below_twoY HB.out (below_regrown wr d os) HB.out.size)).mono fun e w' hq => ⟨hq.1, hq.2 ▸ Below.refl _ _⟩)
          go_upto_region 5 with fail
          have p2 : ∀ dd os, (Sort.grow (redrawn wr dd) os).cell? ⟨q, 2, none⟩ = some (nu p.now) := fun dd os => cell_regrown (H.out.kept HB.out).c2 _ _
          have p4 : ∀ dd os, (Sort.grow (redrawn wr dd) os).cell? ⟨q, 4, none⟩ = some (.slice (some ⟨g, 0, none⟩) n cap) := fun dd os => cell_regrown (H.out.kept HB.out).c4 _ _
          have pk : ∀ dd os, (Sort.grow (redrawn wr dd) os).cell? ⟨g, 0 + k, none⟩ = some (nu (duI p.due (k : Int))) := fun dd os => cell_regrown ((H.out.kept HB.out).du k hlt) _ _
          have pk' : ∀ dd os, (Sort.grow (redrawn wr dd) os).cell? ⟨g, k, none⟩ = some (nu (duI p.due (k : Int))) := fun dd os => by have := pk dd os; rwa [Nat.zero_add] at this
          refine wp_region_quiet_below (by kernel_rfl) (by kernel_rfl) ?_
          iterate 2 (first | go_big_quiet_step (fail) | quiet_step (fail))
          (first | go_big_quiet_step (exact HOq.out _ _) | quiet_step (exact HOq.out _ _))
          iterate 16 (first | go_big_quiet_step (fail) | quiet_step (fail))
          refine wpQuiet_nil ?_
          intro _ hw'
          obtain ⟨⟨dq, osq⟩, hw''⟩ := hw'
          subst hw''
          have bq := below_regrown wr dq osq
          have HB1 := hid (below_twoY HB.out bq HB.out.size)
          generalize Sort.grow (redrawn wr dq) osq = wr1 at *
          clear bq p2 p4 pk pk' HOq HOk
          go_wp2
          go_loopw [7, 8] (fun dn i2 wr2 => ∃ j : Nat, j ≤ told.length ∧ i2 = nu j ∧ dn = .bool true ∧ Hid (Below w.heap.size w wr2)) (fun _ i2 _ => told.length - (intOf i2).toNat)
          case atStart => exact ⟨0, by omega, rfl, rfl, HB1⟩
          case round =>
            obtain ⟨j, hj, rfl, rfl, HB2⟩ := hrel
            by_cases hjl : j < told.length
            · have d2 : decide ((j : Int) < (told.length : Int)) = true := decide_eq_true (by omega)
              have d2' : decide (j < told.length) = true := decide_eq_true hjl
              go_wp2
              exact ⟨⟨j + 1, by omega, by go_num, rfl, HB2⟩, by simp [intOf]; omega⟩
            · have d2 : decide ((j : Int) < (told.length : Int)) = false := decide_eq_false (by omega)
              have d2' : decide (j < told.length) = false := decide_eq_false hjl
              go_upto_region 10 with fail
              have pz2 : ∀ dd os, (Sort.grow (redrawn wr dd) os).cell? ⟨q, 2, none⟩ = some (nu p.now) := fun dd os => cell_regrown (H.out.kept HB2.out).c2 _ _
              have pz4 : ∀ dd os, (Sort.grow (redrawn wr dd) os).cell? ⟨q, 4, none⟩ = some (.slice (some ⟨g, 0, none⟩) n cap) := fun dd os => cell_regrown (H.out.kept HB2.out).c4 _ _
              refine wp_region_quiet_below (by kernel_rfl) (by kernel_rfl) ?_
              iterate 23 (first | go_big_quiet_step (fail) | quiet_step (fail))
              refine wpQuiet_nil ?_
              intro _ hw'
              obtain ⟨⟨dq, osq⟩, hw''⟩ := hw'
              subst hw''
              have bq := below_regrown wr dq osq
              have HB3 := hid (below_twoY HB2.out bq HB2.out.size)
              generalize Sort.grow (redrawn wr dq) osq = wr3 at *
              clear bq pz2 pz4
              go_wp2
              exact ⟨⟨k + 1, by omega, by go_num, (by rw [fs_skip hd]), HB3⟩, by simp [intOf]; omega⟩
        | false =>
          rw [ho] at HOk
          have HOq : Hid (∀ d os, Calls Try.prog 13 #[pt q 0, nu (k : Int)] (Sort.grow (redrawn wr d) os) fun e w'' => e = .returned (.bool true) ∧ ∃ p : Regrown, w'' = Sort.grow (redrawn wr p.d) p.os) := fun d os => Calls.regrown_of ((HOk.out _ (below_twoY HB.out (below_regrown wr d os) HB.out.size)).mono fun e w' hq => ⟨hq.1, hq.2 ▸ Below.refl _ _⟩)
          go_upto_region 5 with fail
          have p2 : ∀ dd os, (Sort.grow (redrawn wr dd) os).cell? ⟨q, 2, none⟩ = some (nu p.now) := fun dd os => cell_regrown (H.out.kept HB.out).c2 _ _
          have p4 : ∀ dd os, (Sort.grow (redrawn wr dd) os).cell? ⟨q, 4, none⟩ = some (.slice (some ⟨g, 0, none⟩) n cap) := fun dd os => cell_regrown (H.out.kept HB.out).c4 _ _
          have pk : ∀ dd os, (Sort.grow (redrawn wr dd) os).cell? ⟨g, 0 + k, none⟩ = some (nu (duI p.due (k : Int))) := fun dd os => cell_regrown ((H.out.kept HB.out).du k hlt) _ _
          have pk' : ∀ dd os, (Sort.grow (redrawn wr dd) os).cell? ⟨g, k, none⟩ = some (nu (duI p.due (k : Int))) := fun dd os => by have := pk dd os; rwa [Nat.zero_add] at this
          refine wp_region_quiet_below (by kernel_rfl) (by kernel_rfl) ?_
          iterate 2 (first | go_big_quiet_step (fail) | quiet_step (fail))
          (first | go_big_quiet_step (exact HOq.out _ _) | quiet_step (exact HOq.out _ _))
          iterate 16 (first | go_big_quiet_step (fail) | quiet_step (fail))
          refine wpQuiet_nil ?_
          intro _ hw'
          obtain ⟨⟨dq, osq⟩, hw''⟩ := hw'
          subst hw''
          have bq := below_regrown wr dq osq
          have HB1 := hid (below_twoY HB.out bq HB.out.size)
          generalize Sort.grow (redrawn wr dq) osq = wr1 at *
          clear bq p2 p4 pk pk' HOq HOk
          go_wp2
          go_loopw [7, 8] (fun dn i2 wr2 => ∃ j : Nat, j ≤ told.length ∧ i2 = nu j ∧ dn = .bool ((told.take j).any (fun t => t == (k : Int))) ∧ Hid (Below w.heap.size w wr2)) (fun _ i2 _ => told.length - (intOf i2).toNat)
          case atStart => exact ⟨0, by omega, rfl, rfl, HB1⟩
          case round =>
            obtain ⟨j, hj, rfl, rfl, HB2⟩ := hrel
            by_cases hjl : j < told.length
            · have d2 : decide ((j : Int) < (told.length : Int)) = true := decide_eq_true (by omega)
              have d2' : decide (j < told.length) = true := decide_eq_true hjl
              have hst := any_step told (k : Int) j hjl
              cases hc : (told.take j).any (fun t => t == (k : Int)) with
              | true =>
                rw [hc, Bool.true_or] at hst
                go_wp2
                exact ⟨⟨j + 1, by omega, by go_num, by rw [hst], HB2⟩, by simp [intOf]; omega⟩
              | false =>
                rw [hc, Bool.false_or] at hst
                obtain ⟨ub, uo, rfl, hcu⟩ := HU.out (fun e => by rw [e] at hjl; exact absurd hjl (Nat.not_lt_zero j))
                have cu : wr.cell? ⟨ub, uo + j, none⟩ = some (nu (told.getD j 0)) := cell_keptY (hcu j hjl) HB2.out
                clear hcu
                generalize hE : (told.getD j 0 == (k : Int)) = E at *
                generalize told.getD j 0 = tj at *
                go_wp2
                exact ⟨⟨j + 1, by omega, by go_num, by rw [hst], HB2⟩, by simp [intOf]; omega⟩
            · have d2 : decide ((j : Int) < (told.length : Int)) = false := decide_eq_false (by omega)
              have d2' : decide (j < told.length) = false := decide_eq_false hjl
              rw [List.take_of_length_le (by omega)]
              cases hc : told.any (fun t => t == (k : Int)) with
              | true =>
                have hd : donB n me p.now p.due told (k : Int) = true := by unfold donB; rw [hc, Bool.or_true]
                go_upto_region 10 with fail
                have pz2 : ∀ dd os, (Sort.grow (redrawn wr dd) os).cell? ⟨q, 2, none⟩ = some (nu p.now) := fun dd os => cell_regrown (H.out.kept HB2.out).c2 _ _
                have pz4 : ∀ dd os, (Sort.grow (redrawn wr dd) os).cell? ⟨q, 4, none⟩ = some (.slice (some ⟨g, 0, none⟩) n cap) := fun dd os => cell_regrown (H.out.kept HB2.out).c4 _ _
                refine wp_region_quiet_below (by kernel_rfl) (by kernel_rfl) ?_
                iterate 23 (first | go_big_quiet_step (fail) | quiet_step (fail))
                refine wpQuiet_nil ?_
                intro _ hw'
                obtain ⟨⟨dq, osq⟩, hw''⟩ := hw'
                subst hw''
                have bq := below_regrown wr dq osq
                have HB3 := hid (below_twoY HB2.out bq HB2.out.size)
                generalize Sort.grow (redrawn wr dq) osq = wr3 at *
                clear bq pz2 pz4
                go_wp2
                exact ⟨⟨k + 1, by omega, by go_num, (by rw [fs_skip hd]), HB3⟩, by simp [intOf]; omega⟩
              | false =>
                have hd : donB n me p.now p.due told (k : Int) = false := by
                  unfold donB
                  rw [hc, ho, hD]
                  rfl
                rcases fs_spec n me p.now p.due told k with ⟨e1, -⟩ | ⟨x, hx, e1, -⟩
                · have hN := fs_new hd e1
                  rw [e1]
                  go_upto_region 10 with fail
                  have pz2 : ∀ dd os, (Sort.grow (redrawn wr dd) os).cell? ⟨q, 2, none⟩ = some (nu p.now) := fun dd os => cell_regrown (H.out.kept HB2.out).c2 _ _
                  have pz4 : ∀ dd os, (Sort.grow (redrawn wr dd) os).cell? ⟨q, 4, none⟩ = some (.slice (some ⟨g, 0, none⟩) n cap) := fun dd os => cell_regrown (H.out.kept HB2.out).c4 _ _
                  refine wp_region_quiet_below (by kernel_rfl) (by kernel_rfl) ?_
                  iterate 23 (first | go_big_quiet_step (fail) | quiet_step (fail))
                  refine wpQuiet_nil ?_
                  intro _ hw'
                  obtain ⟨⟨dq, osq⟩, hw''⟩ := hw'
                  subst hw''
                  have bq := below_regrown wr dq osq
                  have HB3 := hid (below_twoY HB2.out bq HB2.out.size)
                  generalize Sort.grow (redrawn wr dq) osq = wr3 at *
                  clear bq pz2 pz4
                  go_wp2
                  exact ⟨⟨k + 1, by omega, by go_num, (by rw [hN]), HB3⟩, by simp [intOf]; omega⟩
                · have hxn : x < n := by omega
                  have d3 : decide ((x : Int) < 0) = false := decide_eq_false (by omega)
                  by_cases hl : duI p.due (k : Int) < duI p.due (x : Int)
                  · have hN := fs_better hd e1 hl
                    have d4 : decide (duI p.due (k : Int) < duI p.due (x : Int)) = true := decide_eq_true hl
                    rw [e1]
                    clear e1 hl
                    go_upto_region 10 with fail
                    have pz2 : ∀ dd os, (Sort.grow (redrawn wr dd) os).cell? ⟨q, 2, none⟩ = some (nu p.now) := fun dd os => cell_regrown (H.out.kept HB2.out).c2 _ _
                    have pz4 : ∀ dd os, (Sort.grow (redrawn wr dd) os).cell? ⟨q, 4, none⟩ = some (.slice (some ⟨g, 0, none⟩) n cap) := fun dd os => cell_regrown (H.out.kept HB2.out).c4 _ _
                    have pzk : ∀ dd os, (Sort.grow (redrawn wr dd) os).cell? ⟨g, 0 + k, none⟩ = some (nu (duI p.due (k : Int))) := fun dd os => cell_regrown ((H.out.kept HB2.out).du k hlt) _ _
                    have pzk' : ∀ dd os, (Sort.grow (redrawn wr dd) os).cell? ⟨g, k, none⟩ = some (nu (duI p.due (k : Int))) := fun dd os => by have := pzk dd os; rwa [Nat.zero_add] at this
                    have pzx : ∀ dd os, (Sort.grow (redrawn wr dd) os).cell? ⟨g, 0 + x, none⟩ = some (nu (duI p.due (x : Int))) := fun dd os => cell_regrown ((H.out.kept HB2.out).du x hxn) _ _
                    have pzx' : ∀ dd os, (Sort.grow (redrawn wr dd) os).cell? ⟨g, x, none⟩ = some (nu (duI p.due (x : Int))) := fun dd os => by have := pzx dd os; rwa [Nat.zero_add] at this
                    refine wp_region_quiet_below (by kernel_rfl) (by kernel_rfl) ?_
                    iterate 23 (first | go_big_quiet_step (fail) | quiet_step (fail))
                    refine wpQuiet_nil ?_
                    intro _ hw'
                    obtain ⟨⟨dq, osq⟩, hw''⟩ := hw'
                    subst hw''
                    have bq := below_regrown wr dq osq
                    have HB3 := hid (below_twoY HB2.out bq HB2.out.size)
                    generalize Sort.grow (redrawn wr dq) osq = wr3 at *
                    clear bq pz2 pz4 pzk pzk' pzx pzx'
                    go_wp2
                    exact ⟨⟨k + 1, by omega, by go_num, (by rw [hN]), HB3⟩, by simp [intOf]; omega⟩
                  · have hN := fs_keep hd e1 hl
                    have d4 : decide (duI p.due (k : Int) < duI p.due (x : Int)) = false := decide_eq_false hl
                    rw [e1]
                    clear e1 hl
                    go_upto_region 10 with fail
                    have pz2 : ∀ dd os, (Sort.grow (redrawn wr dd) os).cell? ⟨q, 2, none⟩ = some (nu p.now) := fun dd os => cell_regrown (H.out.kept HB2.out).c2 _ _
                    have pz4 : ∀ dd os, (Sort.grow (redrawn wr dd) os).cell? ⟨q, 4, none⟩ = some (.slice (some ⟨g, 0, none⟩) n cap) := fun dd os => cell_regrown (H.out.kept HB2.out).c4 _ _
                    have pzk : ∀ dd os, (Sort.grow (redrawn wr dd) os).cell? ⟨g, 0 + k, none⟩ = some (nu (duI p.due (k : Int))) := fun dd os => cell_regrown ((H.out.kept HB2.out).du k hlt) _ _
                    have pzk' : ∀ dd os, (Sort.grow (redrawn wr dd) os).cell? ⟨g, k, none⟩ = some (nu (duI p.due (k : Int))) := fun dd os => by have := pzk dd os; rwa [Nat.zero_add] at this
                    have pzx : ∀ dd os, (Sort.grow (redrawn wr dd) os).cell? ⟨g, 0 + x, none⟩ = some (nu (duI p.due (x : Int))) := fun dd os => cell_regrown ((H.out.kept HB2.out).du x hxn) _ _
                    have pzx' : ∀ dd os, (Sort.grow (redrawn wr dd) os).cell? ⟨g, x, none⟩ = some (nu (duI p.due (x : Int))) := fun dd os => by have := pzx dd os; rwa [Nat.zero_add] at this
                    refine wp_region_quiet_below (by kernel_rfl) (by kernel_rfl) ?_
                    iterate 23 (first | go_big_quiet_step (fail) | quiet_step (fail))
                    refine wpQuiet_nil ?_
                    intro _ hw'
                    obtain ⟨⟨dq, osq⟩, hw''⟩ := hw'
                    subst hw''
                    have bq := below_regrown wr dq osq
                    have HB3 := hid (below_twoY HB2.out bq HB2.out.size)
                    generalize Sort.grow (redrawn wr dq) osq = wr3 at *
                    clear bq pz2 pz4 pzk pzk' pzx pzx'
                    go_wp2
                    exact ⟨⟨k + 1, by omega, by go_num, (by rw [hN]), HB3⟩, by simp [intOf]; omega⟩
    · have d1 : decide ((k : Int) < (n : Int)) = false := decide_eq_false (by omega)
      have d1' : decide (k < n) = false := decide_eq_false hlt
      have hkn : n = k := by omega
      have he : fsK n me p.now p.due told k = fstP n me p.now p.due told := by rw [← hkn]; rfl
      rw [he]
      go_wp2
      go_ret
      exact ⟨rfl, HB.out⟩
end
end Go.Proofs.Ytkjgiidmajjonaa.Kn
