/-
  Which numbers, submits, blobs, views, lists and what is pending may be: what msg's small functions answer.
-/
import Derived.Test.YtoneoocihfjfgaaGreatDoorG05
import Derived.Test.YtoneoocihfjfgaaGreatDoorJas
import Derived.Test.YtoneoocihfjfgaaGreatDoorJsr
import Derived.Test.YtoneoocihfjfgaaGreatDoorG08
import Derived.WalkKit
import Derived.Laws.Rows
import Derived.Laws.CopyRow
import Derived.Below
import Derived.Laws.AppendOwn
import Derived.BigQuiet
import Derived.Test.YtoneoocihfjfgaaGreatDoorChecked
import Derived.Laws.MakeOwn
import Derived.Laws.IdiomStrings
import Derived.Lib.ConvBytes
import Derived.Sort.Grow
import Derived.OwnWalk
import Derived.Laws.BitsAllLaws
import Derived.Handy
import Derived.Deep.CutBlock
import Derived.Deep.CutRange
namespace Go.Proofs.YtoneoocihfjfgaaGreatDoor.Ms
open Go Go.RowKit
set_option maxRecDepth 100000
set_option maxHeartbeats 1000000 in
theorem isclient_any (n : Int) (w : World) : Calls Tryz.prog 58 #[nu n] w fun e w' => e = .returned (.bool (inB n 0 7)) ∧ w' = w := by
  have e0 : (inB n 0 7) = (decide (0 ≤ n) && decide (n < 8)) := by first | rfl | (unfold inB; congr 1; simp; omega)
  rw [e0]
  by_cases h : 0 ≤ n
  · have d1 : decide (0 ≤ n) = true := decide_eq_true h
    rw [d1, Bool.true_and]
    clear h e0
    go_enter Tryz.func58, Tryz.ntmps58
    go_wp2
    go_ret
    exact ⟨rfl, rfl⟩
  · have d1 : decide (0 ≤ n) = false := decide_eq_false h
    rw [d1, Bool.false_and]
    clear h e0
    go_enter Tryz.func58, Tryz.ntmps58
    go_wp2
    go_ret
    exact ⟨rfl, rfl⟩
set_option maxHeartbeats 1000000 in
theorem isnumber_any (n : Int) (w : World) : Calls Tryz.prog 90 #[nu n] w fun e w' => e = .returned (.bool (inB n 1 512)) ∧ w' = w := by
  have e0 : (inB n 1 512) = (decide (1 ≤ n) && decide (n ≤ 512)) := by first | rfl | (unfold inB; congr 1; simp; omega)
  rw [e0]
  by_cases h : 1 ≤ n
  · have d1 : decide (1 ≤ n) = true := decide_eq_true h
    rw [d1, Bool.true_and]
    clear h e0
    go_enter Tryz.func90, Tryz.ntmps90
    go_wp2
    go_ret
    exact ⟨rfl, rfl⟩
  · have d1 : decide (1 ≤ n) = false := decide_eq_false h
    rw [d1, Bool.false_and]
    clear h e0
    go_enter Tryz.func90, Tryz.ntmps90
    go_wp2
    go_ret
    exact ⟨rfl, rfl⟩
set_option maxHeartbeats 1000000 in
theorem isblob_any (n : Int) (w : World) : Calls Tryz.prog 96 #[nu n] w fun e w' => e = .returned (.bool (inB n 0 1099511627776)) ∧ w' = w := by
  have e0 : (inB n 0 1099511627776) = (decide (0 ≤ n) && decide (n ≤ 1099511627776)) := by first | rfl | (unfold inB; congr 1; simp; omega)
  rw [e0]
  by_cases h : 0 ≤ n
  · have d1 : decide (0 ≤ n) = true := decide_eq_true h
    rw [d1, Bool.true_and]
    clear h e0
    go_enter Tryz.func96, Tryz.ntmps96
    go_wp2
    go_ret
    exact ⟨rfl, rfl⟩
  · have d1 : decide (0 ≤ n) = false := decide_eq_false h
    rw [d1, Bool.false_and]
    clear h e0
    go_enter Tryz.func96, Tryz.ntmps96
    go_wp2
    go_ret
    exact ⟨rfl, rfl⟩
set_option maxHeartbeats 1000000 in
theorem isdeed_any (n : Int) (w : World) : Calls Tryz.prog 91 #[nu n] w fun e w' => e = .returned (.bool (inB n 1 2)) ∧ w' = w := by
  by_cases h1 : n = 1
  · subst h1
    go_enter Tryz.func91, Tryz.ntmps91
    go_wp2
    go_ret
    exact ⟨rfl, rfl⟩
  · have d1 : (n == 1) = false := by simpa using h1
    have e0 : inB n 1 2 = (n == 2) := by rw [Bool.eq_iff_iff, inB_iff, beq_iff_eq]; omega
    rw [e0]
    clear h1 e0
    go_enter Tryz.func91, Tryz.ntmps91
    go_wp2
    go_ret
    exact ⟨rfl, rfl⟩
set_option maxHeartbeats 4000000 in
theorem submay_any (x : Sub) (hx : x.Wf) (w : World) : Calls Tryz.prog 70 #[.agg (subC x).toArray] w fun e w' => e = .returned (.bool (subB x)) ∧ Below w.heap.size w w' := by
  have HB0 := hid (below_a1 w (.cells (subC x).toArray 34))
  have r0 := top_obj w (.cells (subC x).toArray 34)
  have c_number := srow_number r0 hx
  have c_kind := srow_kind r0 hx
  have c_target := srow_target r0 hx
  have c_value := srow_value r0 hx
  have K_a := hid (fun W => isnumber_any x.number W)
  have K_b := hid (fun W => isdeed_any x.kind W)
  have K_c := hid (fun W => isclient_any x.target W)
  clear r0
  obtain ⟨S, hS⟩ : ∃ S, S = (subC x).toArray := ⟨_, rfl⟩
  rw [← hS] at HB0 c_number c_kind c_target c_value ⊢
  clear hS
  cases h_a : inB x.number 1 512 with
  | false => as_aux_lemma =>
    have HF : Hid (subB x = false) := by show _ = _; unfold subB asksB; simp [h_a]
    rw [h_a] at K_a
    go_enter Tryz.func70, Tryz.ntmps70
    go_upto_region 1 with fail
    generalize w.alloc (.cells S 34) = W0 at *
    go_wp2_with fail
    refine (K_a.out _).mono ?_
    rintro e v ⟨rfl, hv⟩
    subst v
    go_wp2
    go_ret
    exact ⟨by rw [HF.out]; rfl, HB0.out⟩
  | true =>
    cases h_b : inB x.kind 1 2 with
    | false => as_aux_lemma =>
      have HF : Hid (subB x = false) := by show _ = _; unfold subB asksB; simp [h_a, h_b]
      rw [h_a] at K_a
      rw [h_b] at K_b
      go_enter Tryz.func70, Tryz.ntmps70
      go_upto_region 1 with fail
      generalize w.alloc (.cells S 34) = W0 at *
      go_wp2_with fail
      refine (K_a.out _).mono ?_
      rintro e v ⟨rfl, hv⟩
      subst v
      go_wp2_with fail
      refine (K_b.out _).mono ?_
      rintro e v ⟨rfl, hv⟩
      subst v
      go_wp2
      go_ret
      exact ⟨by rw [HF.out]; rfl, HB0.out⟩
    | true =>
      cases h_c : inB x.target 0 7 with
      | false => as_aux_lemma =>
        have HF : Hid (subB x = false) := by show _ = _; unfold subB asksB; simp [h_a, h_b, h_c]
        rw [h_a] at K_a
        rw [h_b] at K_b
        rw [h_c] at K_c
        go_enter Tryz.func70, Tryz.ntmps70
        go_upto_region 1 with fail
        generalize w.alloc (.cells S 34) = W0 at *
        go_wp2_with fail
        refine (K_a.out _).mono ?_
        rintro e v ⟨rfl, hv⟩
        subst v
        go_wp2_with fail
        refine (K_b.out _).mono ?_
        rintro e v ⟨rfl, hv⟩
        subst v
        go_wp2_with fail
        refine (K_c.out _).mono ?_
        rintro e v ⟨rfl, hv⟩
        subst v
        go_wp2
        go_ret
        exact ⟨by rw [HF.out]; rfl, HB0.out⟩
      | true =>
        cases h_d : decide (x.value.length ≤ 256) with
        | false => as_aux_lemma =>
          have HF : Hid (subB x = false) := by show _ = _; unfold subB asksB; simp [h_a, h_b, h_c, h_d]
          rw [h_a] at K_a
          rw [h_b] at K_b
          rw [h_c] at K_c
          have d_d : decide ((x.value.length : Int) ≤ 256) = false := by rw [← h_d]; simp; omega
          have hl_d : (⟨(x.value).toArray⟩ : ByteArray).size = x.value.length := rfl
          go_enter Tryz.func70, Tryz.ntmps70
          go_upto_region 1 with fail
          generalize w.alloc (.cells S 34) = W0 at *
          go_wp2_with fail
          refine (K_a.out _).mono ?_
          rintro e v ⟨rfl, hv⟩
          subst v
          go_wp2_with fail
          refine (K_b.out _).mono ?_
          rintro e v ⟨rfl, hv⟩
          subst v
          go_wp2_with fail
          refine (K_c.out _).mono ?_
          rintro e v ⟨rfl, hv⟩
          subst v
          go_wp2
          go_ret
          exact ⟨by rw [HF.out]; rfl, HB0.out⟩
        | true =>
          as_aux_lemma =>
          have HF : Hid (subB x = true) := by show _ = _; unfold subB asksB; simp [h_a, h_b, h_c, h_d]
          rw [h_a] at K_a
          rw [h_b] at K_b
          rw [h_c] at K_c
          have d_d : decide ((x.value.length : Int) ≤ 256) = true := by rw [← h_d]; simp; omega
          have hl_d : (⟨(x.value).toArray⟩ : ByteArray).size = x.value.length := rfl
          go_enter Tryz.func70, Tryz.ntmps70
          go_upto_region 1 with fail
          generalize w.alloc (.cells S 34) = W0 at *
          go_wp2_with fail
          refine (K_a.out _).mono ?_
          rintro e v ⟨rfl, hv⟩
          subst v
          go_wp2_with fail
          refine (K_b.out _).mono ?_
          rintro e v ⟨rfl, hv⟩
          subst v
          go_wp2_with fail
          refine (K_c.out _).mono ?_
          rintro e v ⟨rfl, hv⟩
          subst v
          go_wp2
          go_ret
          exact ⟨by rw [HF.out]; rfl, HB0.out⟩
set_option maxHeartbeats 4000000 in
theorem blomay_any (x : Blo) (hx : x.Wf) (w : World) : Calls Tryz.prog 73 #[.agg (bloC x).toArray] w fun e w' => e = .returned (.bool (bloB x)) ∧ Below w.heap.size w w' := by
  have HB0 := hid (below_a1 w (.cells (bloC x).toArray 73))
  have r0 := top_obj w (.cells (bloC x).toArray 73)
  have c_owner := brow_owner r0 hx
  have c_number := brow_number r0 hx
  have c_cipher := brow_cipher r0 hx
  have K_a := hid (fun W => isclient_any x.owner W)
  have K_b := hid (fun W => isblob_any x.number W)
  clear r0
  obtain ⟨S, hS⟩ : ∃ S, S = (bloC x).toArray := ⟨_, rfl⟩
  rw [← hS] at HB0 c_owner c_number c_cipher ⊢
  clear hS
  cases h_a : inB x.owner 0 7 with
  | false => as_aux_lemma =>
    have HF : Hid (bloB x = false) := by show _ = _; unfold bloB; simp [h_a]
    rw [h_a] at K_a
    go_enter Tryz.func73, Tryz.ntmps73
    go_upto_region 1 with fail
    generalize w.alloc (.cells S 73) = W0 at *
    go_wp2_with fail
    refine (K_a.out _).mono ?_
    rintro e v ⟨rfl, hv⟩
    subst v
    go_wp2
    go_ret
    exact ⟨by rw [HF.out]; rfl, HB0.out⟩
  | true =>
    cases h_b : inB x.number 0 1099511627776 with
    | false => as_aux_lemma =>
      have HF : Hid (bloB x = false) := by show _ = _; unfold bloB; simp [h_a, h_b]
      rw [h_a] at K_a
      rw [h_b] at K_b
      go_enter Tryz.func73, Tryz.ntmps73
      go_upto_region 1 with fail
      generalize w.alloc (.cells S 73) = W0 at *
      go_wp2_with fail
      refine (K_a.out _).mono ?_
      rintro e v ⟨rfl, hv⟩
      subst v
      go_wp2_with fail
      refine (K_b.out _).mono ?_
      rintro e v ⟨rfl, hv⟩
      subst v
      go_wp2
      go_ret
      exact ⟨by rw [HF.out]; rfl, HB0.out⟩
    | true =>
      cases h_d : decide (x.cipher.length ≤ 4096) with
      | false => as_aux_lemma =>
        have HF : Hid (bloB x = false) := by show _ = _; unfold bloB; simp [h_a, h_b, h_d]
        rw [h_a] at K_a
        rw [h_b] at K_b
        have d_d : decide ((x.cipher.length : Int) ≤ 4096) = false := by rw [← h_d]; simp; omega
        have hl_d : (⟨(x.cipher).toArray⟩ : ByteArray).size = x.cipher.length := rfl
        go_enter Tryz.func73, Tryz.ntmps73
        go_upto_region 1 with fail
        generalize w.alloc (.cells S 73) = W0 at *
        go_wp2_with fail
        refine (K_a.out _).mono ?_
        rintro e v ⟨rfl, hv⟩
        subst v
        go_wp2_with fail
        refine (K_b.out _).mono ?_
        rintro e v ⟨rfl, hv⟩
        subst v
        go_wp2
        go_ret
        exact ⟨by rw [HF.out]; rfl, HB0.out⟩
      | true =>
        as_aux_lemma =>
        have HF : Hid (bloB x = true) := by show _ = _; unfold bloB; simp [h_a, h_b, h_d]
        rw [h_a] at K_a
        rw [h_b] at K_b
        have d_d : decide ((x.cipher.length : Int) ≤ 4096) = true := by rw [← h_d]; simp; omega
        have hl_d : (⟨(x.cipher).toArray⟩ : ByteArray).size = x.cipher.length := rfl
        go_enter Tryz.func73, Tryz.ntmps73
        go_upto_region 1 with fail
        generalize w.alloc (.cells S 73) = W0 at *
        go_wp2_with fail
        refine (K_a.out _).mono ?_
        rintro e v ⟨rfl, hv⟩
        subst v
        go_wp2_with fail
        refine (K_b.out _).mono ?_
        rintro e v ⟨rfl, hv⟩
        subst v
        go_wp2
        go_ret
        exact ⟨by rw [HF.out]; rfl, HB0.out⟩
set_option maxHeartbeats 1000000 in
theorem viewmay_any (v : List UInt8) (w : World) : Calls Tryz.prog 72 #[st v] w fun e w' => e = .returned (.bool (viewB v)) ∧ Below w.heap.size w w' := by
  cases h1 : v.isEmpty with
  | true =>
    have e0 : v = [] := List.isEmpty_iff.1 h1
    subst e0
    clear h1
    go_enter Tryz.func72, Tryz.ntmps72
    go_wp2
    go_ret
    exact ⟨rfl, Below.refl _ _⟩
  | false =>
    have HR := hid (Hist.right_any v 8 w)
    have hne : ¬ v = [] := fun e => by rw [e] at h1; cases h1
    have e0 : viewB v = Hist.rightB v 8 := by unfold viewB; simp [hne]
    rw [e0]
    generalize Hist.rightB v 8 = b at *
    clear e0
    go_enter Tryz.func72, Tryz.ntmps72
    go_wp2_with fail
    refine HR.out.mono ?_
    rintro e w1 ⟨rfl, hb⟩
    have HB := hid hb
    clear hb
    go_wp2
    go_ret
    exact ⟨rfl, HB.out⟩
theorem numsB_len (l : List Int) (h : inB (l.length : Int) 1 64 = false) : numsB l = false := by unfold numsB; rw [h]; simp
theorem numsB_every (l : List Int) (hl : inB (l.length : Int) 1 64 = true) (h : ∀ i, i < l.length → okAt l i = true) : numsB l = true := by rw [numsB_all l h, hl]
set_option maxHeartbeats 4000000 in
theorem numsmay_any {w : World} {v : Value} {l : List Int} (hv : IntsAt w v l) (hmx : l.length ≤ 9223372036854775807) : Calls Tryz.prog 74 #[v] w fun e w' => e = .returned (.bool (numsB l)) ∧ Below w.heap.size w w' := by
  have HV := hid hv
  obtain ⟨a, cap, rfl, -⟩ := hv
  have HB0 := hid (Below.refl w.heap.size w)
  have HBad := hid (numsB_bad l)
  cases hin0 : inB (l.length : Int) 1 64 with
  | false =>
    have HF := hid (numsB_len l hin0)
    rcases (by unfold inB at hin0; simp at hin0; omega : l.length = 0 ∨ (64 : Int) < (l.length : Int)) with h0 | h64
    · as_aux_lemma =>
      have d1 : decide ((l.length : Int) < 1) = true := decide_eq_true (by omega)
      have d1' : decide (l.length < 1) = true := decide_eq_true (by omega)
      clear hin0 HBad h0
      go_enter Tryz.func74, Tryz.ntmps74
      go_wp2
      go_ret
      exact ⟨by rw [HF.out]; rfl, HB0.out⟩
    · as_aux_lemma =>
      have d1 : decide ((l.length : Int) < 1) = false := decide_eq_false (by omega)
      have d1' : decide (l.length < 1) = false := decide_eq_false (by omega)
      have d2 : decide ((64 : Int) < (l.length : Int)) = true := decide_eq_true h64
      have d2' : decide (64 < l.length) = true := decide_eq_true (by omega)
      clear hin0 HBad
      go_enter Tryz.func74, Tryz.ntmps74
      go_wp2
      go_ret
      exact ⟨by rw [HF.out]; rfl, HB0.out⟩
  | true =>
    have hl := (inB_iff _ _ _).1 hin0
    have HAll := hid (numsB_every l hin0)
    have d1 : decide ((l.length : Int) < 1) = false := decide_eq_false (by omega)
    have d1' : decide (l.length < 1) = false := decide_eq_false (by omega)
    have d2 : decide ((64 : Int) < (l.length : Int)) = false := decide_eq_false (by omega)
    have d2' : decide (64 < l.length) = false := decide_eq_false (by omega)
    clear hin0
    go_enter Tryz.func74, Tryz.ntmps74
    go_wp2
    go_loopw [15] (fun i w' => ∃ j : Nat, j ≤ l.length ∧ i = .int .i64 j ∧ Hid (∀ k, k < j → okAt l k = true) ∧ Hid (Below w.heap.size w w')) (fun i _ => l.length - (intOf i).toNat)
    case atStart => exact ⟨0, by omega, rfl, fun k hk => absurd hk (Nat.not_lt_zero k), HB0.out⟩
    case round =>
      obtain ⟨j, hj, rfl, HN, HB⟩ := hrel
      clear d1 d1' d2 d2' HB0
      by_cases hlt : j < l.length
      · have d1 : decide ((j : Int) < (l.length : Int)) = true := decide_eq_true (by omega)
        have d1' : decide (j < l.length) = true := decide_eq_true hlt
        obtain ⟨a', c', e', hc⟩ := HV.out.kept HB.out
        cases e'
        obtain ⟨b, off, rfl, hcc⟩ := hc (fun e => by rw [e] at hlt; exact absurd hlt (Nat.not_lt_zero j))
        have cj : wr.cell? ⟨b, off + j, none⟩ = some (.int .i64 (l.getD j 0)) := hcc j hlt
        have HI := hid (fun W => isblob_any (l.getD j 0) W)
        have hon : Hid (okAt l j = true → ∀ k, k < j + 1 → okAt l k = true) := fun h k hk => by
          by_cases e : k = j
          · rw [e]; exact h
          · exact HN.out k (by omega)
        cases hin : inB (l.getD j 0) 0 1099511627776 with
        | false => as_aux_lemma =>
          have HF := hid (HBad.out j hlt (by unfold okAt; rw [hin]; rfl))
          rw [hin] at HI
          generalize l.getD j 0 = x at *
          clear hin hc hcc hon HN HAll HBad
          go_wp2_with fail
          refine (HI.out _).mono ?_
          rintro e v ⟨rfl, hv⟩
          subst v
          go_wp2
          go_ret
          exact ⟨by rw [HF.out]; rfl, HB.out⟩
        | true =>
          rw [hin] at HI
          by_cases h0 : j = 0
          · as_aux_lemma =>
            subst h0
            have cj0 : wr.cell? ⟨b, off, none⟩ = some (.int .i64 (l.getD 0 0)) := cj
            have HN' := hid (hon.out (by unfold okAt; rw [hin]; rfl))
            generalize l.getD 0 0 = x at *
            clear hin hc hcc hon HN HAll HBad
            go_wp2_with fail
            refine (HI.out _).mono ?_
            rintro e v ⟨rfl, hv⟩
            subst v
            go_wp2
            exact ⟨⟨1, by omega, rfl, HN'.out, HB.out⟩, by simp [intOf]; omega⟩
          · have dz : decide ((0 : Int) < (j : Int)) = true := decide_eq_true (by omega)
            have dz' : decide (0 < j) = true := decide_eq_true (by omega)
            have ck : wr.cell? ⟨b, off + (j - 1), none⟩ = some (.int .i64 (l.getD (j - 1) 0)) := hcc (j - 1) (by omega)
            obtain ⟨i, hi⟩ : ∃ i : Nat, i = j - 1 := ⟨_, rfl⟩
            have hij : (j : Int) - 1 = (i : Int) := by omega
            have hil : i < l.length := by omega
            rw [← hi] at ck
            by_cases hle : l.getD j 0 ≤ l.getD i 0
            · as_aux_lemma =>
              have HF := hid (HBad.out j hlt (by unfold okAt; rw [hin, ← hi, decide_eq_false h0, decide_eq_false (by omega : ¬ l.getD i 0 < l.getD j 0)]; rfl))
              have dl : decide (l.getD j 0 ≤ l.getD i 0) = true := decide_eq_true hle
              generalize l.getD j 0 = x at *
              generalize l.getD i 0 = y at *
              clear hin hc hcc hon HN HAll HBad hle h0 hi
              go_wp2_with fail
              refine (HI.out _).mono ?_
              rintro e v ⟨rfl, hv⟩
              subst v
              go_wp2
              go_ret
              exact ⟨by rw [HF.out]; rfl, HB.out⟩
            · as_aux_lemma =>
              have HN' := hid (hon.out (by unfold okAt; rw [hin, ← hi, decide_eq_false h0, decide_eq_true (by omega : l.getD i 0 < l.getD j 0)]; rfl))
              have dl : decide (l.getD j 0 ≤ l.getD i 0) = false := decide_eq_false hle
              generalize l.getD j 0 = x at *
              generalize l.getD i 0 = y at *
              clear hin hc hcc hon HN HAll HBad hle h0 hi
              go_wp2_with fail
              refine (HI.out _).mono ?_
              rintro e v ⟨rfl, hv⟩
              subst v
              go_wp2
              exact ⟨⟨j + 1, by omega, by go_num, HN'.out, HB.out⟩, by simp [intOf]; omega⟩
      · as_aux_lemma =>
        obtain rfl : j = l.length := by omega
        have HF := hid (HAll.out HN.out)
        clear HN HAll HBad
        go_wp2
        go_ret
        exact ⟨by rw [HF.out]; rfl, HB.out⟩
open Go Go.RowKit
set_option maxRecDepth 100000
def RepOk (r : Rep) : Prop := ∀ (w : World) (vP : Value), PensAt w vP r.pend → Calls Tryz.prog 71 #[.agg (repC r vP).toArray] w fun e w' => e = .returned (.bool (repB r)) ∧ Below w.heap.size w w'
set_option maxHeartbeats 8000000 in
theorem partsmay_any {w : World} {m : Msg} {vP vN : Value} (hw : m.Wf) (hp : PensAt w vP m.rep.pend) (hn : IntsAt w vN m.nums) (hR : m.kind = 2 → RepOk m.rep) (hmx : m.nums.length ≤ 9223372036854775807) :
    Calls Tryz.prog 59 #[.agg (msgC m vP vN).toArray] w fun e w' => e = .returned (.bool (partsB m)) ∧ Below w.heap.size w w' := by
  have HB0 := hid (below_a1 w (.cells (msgC m vP vN).toArray 76))
  have R0 := hid (top_obj w (.cells (msgC m vP vN).toArray 76))
  have HP := hid (hp.kept HB0.out)
  have HN := hid (hn.kept HB0.out)
  obtain ⟨pa, pc, rfl, -⟩ := hp
  obtain ⟨na, nc, rfl, -⟩ := hn
  have HW := hid hw
  have HRR := hid hR
  obtain ⟨RA, hRA⟩ : ∃ RA, RA = (msgC m (.slice pa m.rep.pend.length pc) (.slice na m.nums.length nc)).toArray := ⟨_, rfl⟩
  rw [← hRA] at HB0 R0 HP HN ⊢
  have HRA := hid hRA
  clear hRA hw hR
  go_enter Tryz.func59, Tryz.ntmps59
  go_upto_region 1 with fail
  generalize w.alloc (.cells RA 76) = W0 at *
  obtain ⟨g0, hg0⟩ : ∃ g0, g0 = w.heap.size := ⟨_, rfl⟩
  rw [← hg0] at R0 ⊢
  clear hg0
  have r0 := R0.out
  rw [HRA.out] at r0
  clear R0 HRA
  have hw := HW.out
  have c_kind := mrow_kind r0 hw
  rcases fields_cases m.kind with ⟨hk, e⟩ | ⟨hk, e⟩ | ⟨hk, e⟩ | ⟨hk, e⟩ | ⟨hk, e⟩ | ⟨hk, e⟩ | ⟨hk, e⟩ | ⟨hk, e⟩ | ⟨hk, e⟩ <;> clear e
  · as_aux_lemma =>
    have HF : Hid (partsB m = subB m.sub) := by show _ = _; unfold partsB; rw [if_pos hk]
    rw [hk] at c_kind
    have S0 := hid (mrow_sub r0 hw)
    have Z0 : (Tryz.prog.info? 34).map (·.size) = some (subC m.sub).length := by rw [subC_len hw.sub]; exact sizeSub
    have HX := hid (fun W => submay_any m.sub hw.sub W)
    generalize subC m.sub = V at *
    generalize subB m.sub = bb at *
    clear r0 hk hw HRR
    go_wp2_with (first | ((with_reducible refine wl_load 34 (.tmp 7) ?_ g0 2 ?_ ?_ V _ S0.out Tryz.underlying34 ?_ Z0 ?_); exact rfl; exact rfl; exact rfl; exact rfl))
    refine (HX.out _).mono ?_
    rintro e w1 ⟨rfl, hb⟩
    have HB1 := hid (below_two HB0.out hb)
    clear hb
    go_wp2
    go_ret
    exact ⟨(by rw [HF.out]; try rfl), HB1.out⟩
  · as_aux_lemma =>
    have HF : Hid (partsB m = repB m.rep) := by show _ = _; unfold partsB; rw [if_neg (by omega : ¬ m.kind = 1), if_pos hk]
    rw [hk] at c_kind
    have S0 := hid (mrow_rep r0 hw)
    have Z0 : (Tryz.prog.info? 45).map (·.size) = some (repC m.rep (.slice pa m.rep.pend.length pc)).length := by rw [repC_len hw.rep]; exact sizeRep
    have HX := hid (HRR.out hk _ _ HP.out)
    generalize repC m.rep (.slice pa m.rep.pend.length pc) = V at *
    generalize repB m.rep = bb at *
    clear r0 hk hw HRR
    go_wp2_with (first | ((with_reducible refine wl_load 45 (.tmp 12) ?_ g0 70 ?_ ?_ V _ S0.out Tryz.underlying45 ?_ Z0 ?_); exact rfl; exact rfl; exact rfl; exact rfl))
    refine (HX.out).mono ?_
    rintro e w1 ⟨rfl, hb⟩
    have HB1 := hid (below_two HB0.out hb)
    clear hb
    go_wp2
    go_ret
    exact ⟨(by rw [HF.out]; try rfl), HB1.out⟩
  · as_aux_lemma =>
    have HF : Hid (partsB m = viewB m.view) := by show _ = _; unfold partsB; rw [if_neg (by omega : ¬ m.kind = 1), if_neg (by omega : ¬ m.kind = 2), if_pos hk]
    rw [hk] at c_kind
    have c_view := mrow_view r0 hw
    have HX := hid (fun W => viewmay_any m.view W)
    generalize viewB m.view = bb at *
    clear r0 hk hw HRR
    go_wp2_with fail
    refine (HX.out _).mono ?_
    rintro e w1 ⟨rfl, hb⟩
    have HB1 := hid (below_two HB0.out hb)
    clear hb
    go_wp2
    go_ret
    exact ⟨(by rw [HF.out]; try rfl), HB1.out⟩
  · have HF : Hid (partsB m = bloB m.blob) := by show _ = _; unfold partsB; rw [if_neg (by omega : ¬ m.kind = 1), if_neg (by omega : ¬ m.kind = 2), if_neg (by omega : ¬ m.kind = 3), if_pos hk]
    rcases hk with hk | hk
    · as_aux_lemma =>
      rw [hk] at c_kind
      have S0 := hid (mrow_blob r0 hw)
      have Z0 : (Tryz.prog.info? 73).map (·.size) = some (bloC m.blob).length := by rw [bloC_len hw.blob]; exact sizeBlo
      have HX := hid (fun W => blomay_any m.blob hw.blob W)
      generalize bloC m.blob = V at *
      generalize bloB m.blob = bb at *
      clear r0 hk hw HRR
      go_wp2_with (first | ((with_reducible refine wl_load 73 (.tmp 23) ?_ g0 239 ?_ ?_ V _ S0.out Tryz.underlying73 ?_ Z0 ?_); exact rfl; exact rfl; exact rfl; exact rfl))
      refine (HX.out _).mono ?_
      rintro e w1 ⟨rfl, hb⟩
      have HB1 := hid (below_two HB0.out hb)
      clear hb
      go_wp2
      go_ret
      exact ⟨(by rw [HF.out]; try rfl), HB1.out⟩
    · as_aux_lemma =>
      rw [hk] at c_kind
      have S0 := hid (mrow_blob r0 hw)
      have Z0 : (Tryz.prog.info? 73).map (·.size) = some (bloC m.blob).length := by rw [bloC_len hw.blob]; exact sizeBlo
      have HX := hid (fun W => blomay_any m.blob hw.blob W)
      generalize bloC m.blob = V at *
      generalize bloB m.blob = bb at *
      clear r0 hk hw HRR
      go_wp2_with (first | ((with_reducible refine wl_load 73 (.tmp 23) ?_ g0 239 ?_ ?_ V _ S0.out Tryz.underlying73 ?_ Z0 ?_); exact rfl; exact rfl; exact rfl; exact rfl))
      refine (HX.out _).mono ?_
      rintro e w1 ⟨rfl, hb⟩
      have HB1 := hid (below_two HB0.out hb)
      clear hb
      go_wp2
      go_ret
      exact ⟨(by rw [HF.out]; try rfl), HB1.out⟩
  · have HF : Hid (partsB m = numsB m.nums) := by show _ = _; unfold partsB; rw [if_neg (by omega : ¬ m.kind = 1), if_neg (by omega : ¬ m.kind = 2), if_neg (by omega : ¬ m.kind = 3), if_neg (by omega : ¬ (m.kind = 4 ∨ m.kind = 6)), if_pos hk]
    rcases hk with hk | hk | hk
    · as_aux_lemma =>
      rw [hk] at c_kind
      have c_nums := mrow_nums r0 hw
      have HX := hid (numsmay_any HN.out hmx)
      generalize numsB m.nums = bb at *
      clear r0 hk hw HRR
      go_wp2_with fail
      refine (HX.out).mono ?_
      rintro e w1 ⟨rfl, hb⟩
      have HB1 := hid (below_two HB0.out hb)
      clear hb
      go_wp2
      go_ret
      exact ⟨(by rw [HF.out]; try rfl), HB1.out⟩
    · as_aux_lemma =>
      rw [hk] at c_kind
      have c_nums := mrow_nums r0 hw
      have HX := hid (numsmay_any HN.out hmx)
      generalize numsB m.nums = bb at *
      clear r0 hk hw HRR
      go_wp2_with fail
      refine (HX.out).mono ?_
      rintro e w1 ⟨rfl, hb⟩
      have HB1 := hid (below_two HB0.out hb)
      clear hb
      go_wp2
      go_ret
      exact ⟨(by rw [HF.out]; try rfl), HB1.out⟩
    · as_aux_lemma =>
      rw [hk] at c_kind
      have c_nums := mrow_nums r0 hw
      have HX := hid (numsmay_any HN.out hmx)
      generalize numsB m.nums = bb at *
      clear r0 hk hw HRR
      go_wp2_with fail
      refine (HX.out).mono ?_
      rintro e w1 ⟨rfl, hb⟩
      have HB1 := hid (below_two HB0.out hb)
      clear hb
      go_wp2
      go_ret
      exact ⟨(by rw [HF.out]; try rfl), HB1.out⟩
  · as_aux_lemma =>
    have HF : Hid (partsB m = true) := by show _ = _; unfold partsB; rw [if_neg (by omega : ¬ m.kind = 1), if_neg (by omega : ¬ m.kind = 2), if_neg (by omega : ¬ m.kind = 3), if_neg (by omega : ¬ (m.kind = 4 ∨ m.kind = 6)), if_neg (by omega : ¬ (m.kind = 5 ∨ m.kind = 7 ∨ m.kind = 8)), if_pos hk]
    rw [hk] at c_kind
    clear r0 hk hw HRR
    go_wp2
    go_ret
    exact ⟨(by rw [HF.out]; try rfl), HB0.out⟩
  · have HF : Hid (partsB m = (inB m.who 0 7 && viewB m.view)) := by show _ = _; unfold partsB; rw [if_neg (by omega : ¬ m.kind = 1), if_neg (by omega : ¬ m.kind = 2), if_neg (by omega : ¬ m.kind = 3), if_neg (by omega : ¬ (m.kind = 4 ∨ m.kind = 6)), if_neg (by omega : ¬ (m.kind = 5 ∨ m.kind = 7 ∨ m.kind = 8)), if_neg (by omega : ¬ m.kind = 9), if_pos hk]
    rw [hk] at c_kind
    have c_who := mrow_who r0 hw
    have c_view := mrow_view r0 hw
    have HX := hid (fun W => viewmay_any m.view W)
    have HY := hid (fun W => isclient_any m.who W)
    generalize viewB m.view = bb at *
    generalize inB m.who 0 7 = b1 at *
    clear r0 hk hw HRR
    cases b1 with
    | false => as_aux_lemma =>
      rw [Bool.false_and] at HF
      go_wp2_with fail
      refine (HY.out _).mono ?_
      rintro e v ⟨rfl, hv⟩
      subst v
      go_wp2
      go_ret
      exact ⟨(by rw [HF.out]; try rfl), HB0.out⟩
    | true => as_aux_lemma =>
      rw [Bool.true_and] at HF
      go_wp2_with fail
      refine (HY.out _).mono ?_
      rintro e v ⟨rfl, hv⟩
      subst v
      go_wp2_with fail
      refine (HX.out _).mono ?_
      rintro e w1 ⟨rfl, hb⟩
      have HB1 := hid (below_two HB0.out hb)
      clear hb
      go_wp2
      go_ret
      exact ⟨(by rw [HF.out]; try rfl), HB1.out⟩
  · as_aux_lemma =>
    have HF : Hid (partsB m = true) := by show _ = _; unfold partsB; rw [if_neg (by omega : ¬ m.kind = 1), if_neg (by omega : ¬ m.kind = 2), if_neg (by omega : ¬ m.kind = 3), if_neg (by omega : ¬ (m.kind = 4 ∨ m.kind = 6)), if_neg (by omega : ¬ (m.kind = 5 ∨ m.kind = 7 ∨ m.kind = 8)), if_neg (by omega : ¬ m.kind = 9), if_neg (by omega : ¬ m.kind = 10), if_pos hk]
    rw [hk] at c_kind
    clear r0 hk hw HRR
    go_wp2
    go_ret
    exact ⟨(by rw [HF.out]; try rfl), HB0.out⟩
  · as_aux_lemma =>
    have HF : Hid (partsB m = false) := by show _ = _; unfold partsB; rw [if_neg (by omega : ¬ m.kind = 1), if_neg (by omega : ¬ m.kind = 2), if_neg (by omega : ¬ m.kind = 3), if_neg (by omega : ¬ (m.kind = 4 ∨ m.kind = 6)), if_neg (by omega : ¬ (m.kind = 5 ∨ m.kind = 7 ∨ m.kind = 8)), if_neg (by omega : ¬ m.kind = 9), if_neg (by omega : ¬ m.kind = 10), if_neg (by omega : ¬ m.kind = 11)]
    have d1 : (m.kind == 1) = false := by simp; omega
    have d2 : (m.kind == 2) = false := by simp; omega
    have d3 : (m.kind == 3) = false := by simp; omega
    have d4 : (m.kind == 4) = false := by simp; omega
    have d5 : (m.kind == 5) = false := by simp; omega
    have d6 : (m.kind == 6) = false := by simp; omega
    have d7 : (m.kind == 7) = false := by simp; omega
    have d8 : (m.kind == 8) = false := by simp; omega
    have d9 : (m.kind == 9) = false := by simp; omega
    have d10 : (m.kind == 10) = false := by simp; omega
    have d11 : (m.kind == 11) = false := by simp; omega
    clear r0 hk hw HRR
    generalize m.kind = kk at *
    go_wp2
    go_ret
    exact ⟨(by rw [HF.out]; try rfl), HB0.out⟩
end Go.Proofs.YtoneoocihfjfgaaGreatDoor.Ms
namespace Go.Proofs.YtoneoocihfjfgaaGreatDoor
open Go
set_option maxRecDepth 100000
def bv (c : UInt8) : Int := (c.toNat : Int)
def cb (c : UInt8) : Value := .int .u8 (bv c)
theorem cb_at (b : List UInt8) (i : Nat) (hi : i < b.length) : (b.map cb)[i]? = some (.int .u8 (bv (b.getD i 0))) := by
  simp [List.getD, cb, List.getElem?_eq_getElem hi]
theorem one_cb (l : List UInt8) : ∀ v ∈ l.map cb, v.oneCell' = true := by
  intro v hv; simp only [List.mem_map] at hv; obtain ⟨x, -, rfl⟩ := hv; rfl
open Go Go.RowKit
variable {P : Program}
theorem add_none (g o j : Nat) : (⟨g, o, none⟩ : Addr).add j = ⟨g, o + j, none⟩ := by unfold Addr.add; split <;> simp_all
theorem heap_old1 (w : World) (o : Obj) (i : Nat) (h : i < w.heap.size) : (w.alloc o).heap[i]? = w.heap[i]? := by
  show (w.heap.push o)[i]? = w.heap[i]?
  rw [Array.getElem?_push, if_neg (Nat.ne_of_lt h)]
theorem three_low (w : World) (A B C : Obj) : (((w.alloc A).alloc B).alloc C).heap[w.heap.size]? = some A := by
  have h := heap_old1 ((w.alloc A).alloc B) C w.heap.size (by simp; omega)
  exact h.trans (heap_alloc2_old w A B)
theorem three_mid (w : World) (A B C : Obj) : (((w.alloc A).alloc B).alloc C).heap[w.heap.size + 1]? = some B := by
  have h := heap_old1 ((w.alloc A).alloc B) C (w.heap.size + 1) (by simp)
  exact h.trans (heap_alloc2_new w A B)
theorem three_top (w : World) (A B C : Obj) : (((w.alloc A).alloc B).alloc C).heap[w.heap.size + 1 + 1]? = some C := by
  have h := heap_alloc2_new (w.alloc A) B C
  rw [show (w.alloc A).heap.size = w.heap.size + 1 by simp] at h
  exact h
theorem below_a1 (w : World) (o : Obj) : Below w.heap.size w (w.alloc o) :=
  ⟨rfl, rfl, rfl, by simp, fun k hk => heap_old1 w o k hk⟩
open Go Go.RowKit
set_option maxRecDepth 100000
theorem infoByte : (Tryz.prog.info? 5).map (fun i => (i.zero, i.size, i.bytes)) = some (some (.int .u8 0), 1, 1) := by kernel_rfl
theorem info_parts {t : TypeId} {z : Value} {s b : Nat} (h : (Tryz.prog.info? t).map (fun i => (i.zero, i.size, i.bytes)) = some (some z, s, b)) :
    ∃ i, Tryz.prog.info? t = some i ∧ i.zero = some z ∧ i.size = s ∧ i.bytes = b := by
  cases hq : Tryz.prog.info? t with
  | none => simp [hq] at h
  | some i =>
    simp [hq] at h
    exact ⟨i, rfl, h.1, h.2.1, h.2.2⟩
def loose (fz : Nat × Nat) (n : Nat) : Prop := ∀ j, j < n → ¬ (fz.1 ≤ j ∧ j < fz.2)
def brow (w : World) (base : Nat) (v : Value) (l : List UInt8) : Prop :=
  (v = .slice none 0 0 ∧ l = []) ∨
  ∃ g cap cur fz, v = .slice (some ⟨g, 0, none⟩) l.length cap ∧ base ≤ g ∧ w.heap[g]? = some (.cells cur 5 fz) ∧ loose fz cur.size ∧ l.length ≤ cap ∧ cur.size = cap ∧ cap ≤ maxLen ∧ cur.toList.take l.length = l.map cb
theorem run_storeCells_loose {P : Program} (g o : Nat) (t : TypeId) (fz : Nat × Nat) : ∀ (vs : List Value) (i : Nat) (cur : Array Value) (w : World), w.heap[g]? = some (.cells cur t fz) → loose fz cur.size → o + i + vs.length ≤ cur.size → (∀ v ∈ vs, v.oneCell' = true) →
    (storeCells ⟨g, o, none⟩ vs i).run P w = .ok () (w.setRow g (cur.toList.take (o + i) ++ vs ++ cur.toList.drop (o + i + vs.length)).toArray)
  | [], i, cur, w, hg, _, _, _ => by
    simp only [storeCells, List.append_nil, List.length_nil, Nat.add_zero, List.take_append_drop, Array.toArray_toList]
    rw [setRow_self w g cur t fz hg]
    rfl
  | v :: rest, i, cur, w, hg, hz, hl, h1 => by
    have hi : o + i < cur.size := by simp at hl; omega
    have hcell : w.cell? ⟨g, o + i, none⟩ = some cur[o + i] := by simp [World.cell?, hg, hi]
    have hfro : w.frozen? ⟨g, o + i, none⟩ = false := by
      have := hz (o + i) hi
      simp only [World.frozen?, hg]
      rw [Bool.eq_false_iff]
      intro hx
      simp at hx
      exact this hx
    have hst : (store ((⟨g, o, none⟩ : Addr).add i) v).run P w = .ok () (w.setRow g (cur.setIfInBounds (o + i) v)) := by
      rw [add_none, run_store P w _ v _ (h1 v (by simp)), hcell]
      simp [hfro, setCell_eq_setRow w g (o + i) cur t fz v hg]
    have ih := run_storeCells_loose (P := P) g o t fz rest (i + 1) (cur.setIfInBounds (o + i) v) (w.setRow g (cur.setIfInBounds (o + i) v)) (setRow_heap w g cur _ t _ hg) (by simpa using hz) (by simp at hl ⊢; omega) (fun x hx => h1 x (by simp [hx]))
    simp only [storeCells, Sem.run_bind, hst, Result.andThen_ok, ih, setRow_setRow]
    congr 3
    have e := list_seg_step cur.toList (o + i) v rest (by simp at hl ⊢; omega)
    simpa [Array.toList_setIfInBounds, Nat.add_assoc] using e
theorem brow_below {w w' : World} {base B : Nat} {v : Value} {l : List UInt8} (h : brow w base v l) (hb : Below B w w') (hB : w.heap.size ≤ B) : brow w' base v l := by
  rcases h with h | ⟨g, cap, cur, fz, rfl, h1, h2, h3⟩
  · exact .inl h
  · exact .inr ⟨g, cap, cur, fz, rfl, h1, by rw [hb.block g (by have := (Array.getElem?_eq_some_iff.1 h2).1; omega)]; exact h2, h3⟩
theorem brow_own {w : World} {base : Nat} {v : Value} {l : List UInt8} (h : brow w base v l) : ∀ k, v.ownBlock = some k → base ≤ k := by
  intro k hk
  rcases h with ⟨rfl, _⟩ | ⟨g, cap, cur, fz, rfl, h1, h2, h3⟩
  · simp [Value.ownBlock] at hk
  · simp [Value.ownBlock] at hk; omega
theorem brow_cells {w : World} {base g cap n : Nat} {l : List UInt8} (h : brow w base (.slice (some ⟨g, 0, none⟩) n cap) l) : n = l.length ∧ ∀ j, j < l.length → w.cell? ⟨g, j, none⟩ = some (cb (l.getD j 0)) := by
  rcases h with ⟨h, _⟩ | ⟨g', cap', cur, fz, h, h1, h2, h3, h4, h5, h6, h7⟩
  · simp at h
  · simp at h
    obtain ⟨rfl, rfl, rfl⟩ := h
    refine ⟨rfl, fun j hj => ?_⟩
    rw [cell_of_row _ _ _ _ _ _ h2, ← Array.getElem?_toList]
    have e : (cur.toList.take l.length)[j]? = (l.map cb)[j]? := by rw [h7]
    rw [List.getElem?_take, if_pos hj] at e
    rw [e, cb_at l j hj]
    rfl
theorem top_row (W : World) (o : Obj) : (W.alloc o).heap[W.heap.size]? = some o := by show (W.heap.push o)[W.heap.size]? = _; simp
theorem brow_one (W : World) (base : Nat) (c : UInt8) (hb : base ≤ W.heap.size) : brow (W.alloc (.cells #[.int .u8 (bv c)] 5)) base (.slice (some ⟨W.heap.size, 0, none⟩) 1 1) [c] := by
  refine .inr ⟨W.heap.size, 1, #[.int .u8 (bv c)], (0, 0), rfl, hb, ?_, ?_, by simp, rfl, by decide, rfl⟩
  · show (W.heap.push _)[W.heap.size]? = _; simp
  · intro j _ h; simp at h
theorem run_app {w : World} (base b2 : Nat) (ty : TypeId) (v u : Value) (l l2 : List UInt8) (h : brow w base v l) (hs : brow w b2 u l2) (hnn : v ≠ .slice none 0 0 ∨ l2 ≠ []) (hlen : l.length + l2.length ≤ 140737488355328) (hbase : base ≤ w.heap.size) :
    ∃ v' w', (Builtin.append_ #[70, 70] ty #[v, u]).run Tryz.prog w = .ok v' w' ∧ brow w' base v' (l ++ l2) ∧ w.grownBy w' v.ownBlock := by
  obtain ⟨i, hi, hz0, hz1, hz2⟩ := info_parts infoByte
  have hf : (Builtin.firstCells i.size l2.length u).run Tryz.prog w = .ok (l2.map cb).toArray w := by
    rcases hs with ⟨rfl, rfl⟩ | ⟨g, cap, cur, fz, rfl, h1, h2, h3, h4, h5, h6, h7⟩
    · rfl
    · refine run_firstCells_some w i.size l2.length _ _ _ (l2.map cb) (by rw [hz1]; simp) (fun j x hj => ?_)
      rw [add_none, Nat.zero_add, cell_of_row _ _ _ _ _ _ h2, ← Array.getElem?_toList]
      have hj2 : j < l2.length := by have := (List.getElem?_eq_some_iff.1 hj).1; simpa using this
      have e : (cur.toList.take l2.length)[j]? = (l2.map cb)[j]? := by rw [h7]
      rw [List.getElem?_take, if_pos hj2] at e
      rw [e, hj]
  have hlo : (Builtin.lenOf u).run Tryz.prog w = .ok l2.length w := by
    rcases hs with ⟨rfl, rfl⟩ | ⟨g, cap, cur, fz, rfl, h1⟩
    · rfl
    · rfl
  rcases h with ⟨rfl, rfl⟩ | ⟨g, cap, cur, fz, rfl, h1, h2, h3, h4, h5, h6, h7⟩
  · have hne : l2 ≠ [] := by simpa using hnn
    rcases hs with ⟨rfl, rfl⟩ | ⟨g, cap, cur, fz, rfl, h1, h2, h3, h4, h5, h6, h7⟩
    · exact absurd rfl hne
    · have hn : ∀ j x, (l2.map cb)[j]? = some x → w.cell? ((⟨g, 0, none⟩ : Addr).add j) = some x := by
        intro j x hj
        rw [add_none, Nat.zero_add, cell_of_row _ _ _ _ _ _ h2, ← Array.getElem?_toList]
        have hj2 : j < l2.length := by have := (List.getElem?_eq_some_iff.1 hj).1; simpa using this
        have e : (cur.toList.take l2.length)[j]? = (l2.map cb)[j]? := by rw [h7]
        rw [List.getElem?_take, if_pos hj2] at e
        rw [e, hj]
      obtain ⟨v', w', r1, r2, r3, -⟩ := run_append_own (P := Tryz.prog) w base 70 ty 5 i (.int .u8 0) 1 1 Tryz.underlying70 hi hz0 hz1 hz2 rfl (by decide) (.slice none 0 0) 0 [] (World.ownsRow_nil w base 5 1) ⟨g, 0, none⟩ l2.length cap (l2.map cb) (by simp) hn (one_cb l2) (by unfold maxLen; simp at hlen; omega) (by simp at hlen; omega) hbase
      refine ⟨v', w', r1, ?_, r3⟩
      rcases r2.2 with ⟨_, h0⟩ | ⟨g', cap', cur', q1, q2, q3, q4, q5, q6, q7⟩
      · exact absurd (List.length_eq_zero_iff.1 (by omega)) hne
      · refine .inr ⟨g', cap', cur', (0, 0), by rw [q1]; simp, q2, q3, fun j _ h => by simp at h, by simpa using q4, by rw [q6]; omega, q5, ?_⟩
        simpa using q7
  · by_cases hroom : l.length + l2.length ≤ cap
    · have hst := run_storeCells_loose (P := Tryz.prog) g l.length 5 fz (l2.map cb) 0 cur w h2 h3 (by simp; omega) (one_cb l2)
      simp only [Nat.add_zero, List.length_map] at hst
      have hr : (Builtin.append_ #[70, 70] ty #[.slice (some ⟨g, 0, none⟩) l.length cap, u]).run Tryz.prog w = .ok (.slice (some ⟨g, 0, none⟩) (l.length + l2.length) cap) (w.setRow g (cur.toList.take l.length ++ l2.map cb ++ cur.toList.drop (l.length + l2.length)).toArray) := by
        simp only [hz1] at hf
        simp [Builtin.append_, run_underlying Tryz.underlying70, sizeOf, typeInfo, hi, hz1, hlo, hf, hroom, add_none, hst]
      refine ⟨_, _, hr, .inr ⟨g, cap, _, fz, by simp, h1, setRow_heap w g cur _ 5 fz h2, ?_, by simpa using hroom, ?_, h6, ?_⟩, ⟨rfl, rfl, rfl, by simp, fun k _ hk => setRow_other w g k _ (fun e => hk (by simp [Value.ownBlock, e]))⟩⟩
      · have e : (cur.toList.take l.length ++ l2.map cb ++ cur.toList.drop (l.length + l2.length)).toArray.size = cur.size := by simp; omega
        rw [e]; exact h3
      · simp; omega
      · rw [h7]
        have e2 : (l.map cb ++ l2.map cb).length = (l ++ l2).length := by simp
        rw [← e2, List.map_append]
        exact List.take_left
    · have hl2 : l2 ≠ [] := by intro h; subst h; simp at hroom; omega
      rcases hs with ⟨rfl, rfl⟩ | ⟨g2, cap2, cur2, fz2, rfl, k1, k2, k3, k4, k5, k6, k7⟩
      · exact absurd rfl hl2
      · have hn : ∀ j x, (l2.map cb)[j]? = some x → w.cell? ((⟨g2, 0, none⟩ : Addr).add j) = some x := by
          intro j x hj
          rw [add_none, Nat.zero_add, cell_of_row _ _ _ _ _ _ k2, ← Array.getElem?_toList]
          have hj2 : j < l2.length := by have := (List.getElem?_eq_some_iff.1 hj).1; simpa using this
          have e : (cur2.toList.take l2.length)[j]? = (l2.map cb)[j]? := by rw [k7]
          rw [List.getElem?_take, if_pos hj2] at e
          rw [e, hj]
        have ho : ∀ j x, (l.map cb)[j]? = some x → w.cell? ((⟨g, 0, none⟩ : Addr).add j) = some x := by
          intro j x hj
          rw [add_none, Nat.zero_add, cell_of_row _ _ _ _ _ _ h2, ← Array.getElem?_toList]
          have hj2 : j < l.length := by have := (List.getElem?_eq_some_iff.1 hj).1; simpa using this
          have e : (cur.toList.take l.length)[j]? = (l.map cb)[j]? := by rw [h7]
          rw [List.getElem?_take, if_pos hj2] at e
          rw [e, hj]
        have hr := run_append_grow (P := Tryz.prog) w 70 ty 5 i (.int .u8 0) Tryz.underlying70 hi hz0 ⟨g, 0, none⟩ l.length cap (l.map cb) (by rw [hz1]; simp) ho ⟨g2, 0, none⟩ l2.length cap2 (l2.map cb) (by rw [hz1]; simp) hn (by omega) (by omega) (by rw [hz2]; exact growslice_fits (by omega) (by omega))
        have hge := grownCap_ge w (l.length + l2.length) cap 5
        have hcm2 : grownCap w (l.length + l2.length) cap 5 ≤ maxLen := grownCap_le_maxLen w (l.length + l2.length) cap 5 (by unfold maxLen; omega)
        refine ⟨_, _, hr, .inr ⟨w.heap.size, _, _, (0, 0), by simp, hbase, top_row w.drew _, fun j _ h => by simp at h, by simpa using hge, ?_, hcm2, ?_⟩, ⟨rfl, rfl, rfl, by simp, fun k hk _ => heap_old1 w.drew _ k hk⟩⟩
        · have hzz : (Value.int IntKind.u8 0).cells.size = 1 := rfl
          simp only [Array.size_append, List.size_toArray, size_zeroCells, hzz, List.length_map]
          omega
        · have e2 : (l ++ l2).length = (l.map cb ++ l2.map cb).length := by simp
          simp only [Array.toList_append, List.append_assoc]
          rw [e2, ← List.append_assoc, List.map_append]
          exact List.take_left
theorem wpList_app {w : World} {ops : Array Oper} {rest : List Oper} {o : Oper} {a : Act} {Q : Exit → Act → World → Prop} (hgd : o.guard = none) (sl x : Operand)
    (ho : o.op = .call { callee := .builtin .append, args := #[sl, x], argTypes := #[70, 70] })
    (base b2 : Nat) (v u : Value) (l l2 : List UInt8) (hs : a.eval sl = v) (hx : a.eval x = u) (hown : brow w base v l) (hsrc : brow w b2 u l2) (hnn : v ≠ .slice none 0 0 ∨ l2 ≠ []) (hlen : l.length + l2.length ≤ 140737488355328) (hbase : base ≤ w.heap.size)
    (h : ∀ v' w', brow w' base v' (l ++ l2) → w.grownBy w' v.ownBlock → wpList Tryz.prog ops Q rest (a.put o.dst v') w') : wpList Tryz.prog ops Q (o :: rest) a w := by
  refine wpList_plain hgd fun K hK => ?_
  obtain ⟨v', w', hr, h2, h3⟩ := run_app base b2 o.type v u l l2 hown hsrc hnn hlen hbase
  unfold Oper.wp execOp
  simp only [ho, resolve, invoke, builtin, Sem.run_bind, Sem.run_pure, Result.andThen_ok, List.map_toArray, List.map_cons, List.map_nil, hs, hx, hr]
  exact hK _ _ (h v' w' h2 h3)
theorem conv_brow {w : World} {base : Nat} {v : Value} {l : List UInt8} (h : brow w base v l) : (convert 70 9 v).run Tryz.prog w = .ok (.string ⟨l.toArray⟩) w := by
  rcases h with ⟨rfl, rfl⟩ | ⟨g, cap, cur, fz, rfl, h1, h2, h3, h4, h5, h6, h7⟩
  · simp [convert, run_underlying Tryz.underlying70, run_underlying Tryz.underlying9, run_underlying Tryz.underlying5]
    rfl
  · refine run_convert_bytes_back w 70 9 5 ⟨g, 0, none⟩ cap l Tryz.underlying70 Tryz.underlying5 Tryz.underlying9 (fun j hj => ?_)
    have := (brow_cells (w := w) (base := base) (g := g) (cap := cap) (n := l.length) (l := l) (.inr ⟨g, cap, cur, fz, rfl, h1, h2, h3, h4, h5, h6, h7⟩)).2 j hj
    rw [add_none, Nat.zero_add, this]
    simp [cb, bv, List.getD, hj]
open Go Go.RowKit
set_option maxRecDepth 100000
theorem conv_row (W : World) (g cap : Nat) (l : List UInt8) (n : Nat) (hn : n = l.length) (t : TypeId) (h : W.heap[g]? = some (.cells (l.map cb).toArray t)) :
    (convert 70 9 (.slice (some ⟨g, 0, none⟩) n cap)).run Tryz.prog W = .ok (.string ⟨l.toArray⟩) W := by
  subst hn
  refine run_convert_bytes_back W 70 9 5 ⟨g, 0, none⟩ cap l Tryz.underlying70 Tryz.underlying5 Tryz.underlying9 (fun j hj => ?_)
  rw [add_none, Nat.zero_add, cell_of_row _ _ _ _ _ _ h, List.getElem?_toArray, cb_at l j hj]
  simp [bv, List.getD, hj]
theorem bytes_any (l : List UInt8) (hl : l.length = 32) (w : World) : Calls Tryz.prog 115 #[.agg (l.map cb).toArray] w fun e w' => e = .returned (.string ⟨l.toArray⟩) ∧ Below w.heap.size w w' := by
  have HV := conv_row (w.alloc (.cells (l.map cb).toArray 32)) w.heap.size 32 l 32 hl.symm 32 (top_row w _)
  have HB : Hid (Below w.heap.size w (w.alloc (.cells (l.map cb).toArray 32))) := below_a1 w _
  generalize (l.map cb).toArray = D at *
  go_enter Tryz.func115, Tryz.ntmps115
  go_wp2
  go_ret
  exact ⟨rfl, HB.out⟩
end Go.Proofs.YtoneoocihfjfgaaGreatDoor
