/-
  Which numbers, submits, blobs, views, lists and what is pending may be: what msg's small functions answer.
-/
import Derived.Test.YtidlgecognedlaaGreatDoorJbr
import Derived.Test.YtidlgecognedlaaGreatDoorJas
import Derived.Test.YtidlgecognedlaaGreatDoorJsr
import Derived.Test.YtidlgecognedlaaGreatDoorHri
namespace Go.Proofs.YtidlgecognedlaaGreatDoor.Ms
open Go Go.RowKit
set_option maxRecDepth 100000

set_option maxHeartbeats 1000000 in
theorem isclient_any (n : Int) (w : World) : Calls Tryz.prog 85 #[nu n] w fun e w' => e = .returned (.bool (inB n 0 7)) ∧ w' = w := by
  have e0 : (inB n 0 7) = (decide (0 ≤ n) && decide (n < 8)) := by first | rfl | (unfold inB; congr 1; simp; omega)
  rw [e0]
  by_cases h : 0 ≤ n
  · have d1 : decide (0 ≤ n) = true := decide_eq_true h
    rw [d1, Bool.true_and]
    clear h e0
    go_enter Tryz.func85, Tryz.ntmps85
    go_wp2
    go_ret
    exact ⟨rfl, rfl⟩
  · have d1 : decide (0 ≤ n) = false := decide_eq_false h
    rw [d1, Bool.false_and]
    clear h e0
    go_enter Tryz.func85, Tryz.ntmps85
    go_wp2
    go_ret
    exact ⟨rfl, rfl⟩
set_option maxHeartbeats 1000000 in
theorem isnumber_any (n : Int) (w : World) : Calls Tryz.prog 159 #[nu n] w fun e w' => e = .returned (.bool (inB n 1 512)) ∧ w' = w := by
  have e0 : (inB n 1 512) = (decide (1 ≤ n) && decide (n ≤ 512)) := by first | rfl | (unfold inB; congr 1; simp; omega)
  rw [e0]
  by_cases h : 1 ≤ n
  · have d1 : decide (1 ≤ n) = true := decide_eq_true h
    rw [d1, Bool.true_and]
    clear h e0
    go_enter Tryz.func159, Tryz.ntmps159
    go_wp2
    go_ret
    exact ⟨rfl, rfl⟩
  · have d1 : decide (1 ≤ n) = false := decide_eq_false h
    rw [d1, Bool.false_and]
    clear h e0
    go_enter Tryz.func159, Tryz.ntmps159
    go_wp2
    go_ret
    exact ⟨rfl, rfl⟩
set_option maxHeartbeats 1000000 in
theorem isblob_any (n : Int) (w : World) : Calls Tryz.prog 165 #[nu n] w fun e w' => e = .returned (.bool (inB n 0 1099511627776)) ∧ w' = w := by
  have e0 : (inB n 0 1099511627776) = (decide (0 ≤ n) && decide (n ≤ 1099511627776)) := by first | rfl | (unfold inB; congr 1; simp; omega)
  rw [e0]
  by_cases h : 0 ≤ n
  · have d1 : decide (0 ≤ n) = true := decide_eq_true h
    rw [d1, Bool.true_and]
    clear h e0
    go_enter Tryz.func165, Tryz.ntmps165
    go_wp2
    go_ret
    exact ⟨rfl, rfl⟩
  · have d1 : decide (0 ≤ n) = false := decide_eq_false h
    rw [d1, Bool.false_and]
    clear h e0
    go_enter Tryz.func165, Tryz.ntmps165
    go_wp2
    go_ret
    exact ⟨rfl, rfl⟩
set_option maxHeartbeats 1000000 in
theorem isdeed_any (n : Int) (w : World) : Calls Tryz.prog 160 #[nu n] w fun e w' => e = .returned (.bool (inB n 1 2)) ∧ w' = w := by
  by_cases h1 : n = 1
  · subst h1
    go_enter Tryz.func160, Tryz.ntmps160
    go_wp2
    go_ret
    exact ⟨rfl, rfl⟩
  · have d1 : (n == 1) = false := by simpa using h1
    have e0 : inB n 1 2 = (n == 2) := by rw [Bool.eq_iff_iff, inB_iff, beq_iff_eq]; omega
    rw [e0]
    clear h1 e0
    go_enter Tryz.func160, Tryz.ntmps160
    go_wp2
    go_ret
    exact ⟨rfl, rfl⟩
set_option maxHeartbeats 4000000 in
theorem submay_any (x : Sub) (hx : x.Wf) (w : World) : Calls Tryz.prog 124 #[.agg (subC x).toArray] w fun e w' => e = .returned (.bool (subB x)) ∧ Below w.heap.size w w' := by
  have HB0 := hid (below_a1 w (.cells (subC x).toArray 25))
  have r0 := top_obj w (.cells (subC x).toArray 25)
  have c_number := srow_number r0 hx
  have c_kind := srow_kind r0 hx
  have c_target := srow_target r0 hx
  have c_value := srow_value r0 hx
  have K_a := hid (fun W => isnumber_any x.number W)
  have K_b := hid (fun W => isdeed_any x.kind W)
  have K_c := hid (fun W => isclient_any x.target W)
  clear r0
  obtain ⟨S, hS⟩ : ∃ S, S = (subC x).toArray := ⟨_, rfl⟩
  rw [← hS] at HB0 c_number c_kind c_target c_value ⊢
  clear hS
  cases h_a : inB x.number 1 512 with
  | false => as_aux_lemma =>
    have HF : Hid (subB x = false) := by show _ = _; unfold subB asksB; simp [h_a]
    rw [h_a] at K_a
    go_enter Tryz.func124, Tryz.ntmps124
    go_upto_region 1 with fail
    generalize w.alloc (.cells S 25) = W0 at *
    go_wp2_with fail
    refine (K_a.out _).mono ?_
    rintro e v ⟨rfl, hv⟩
    subst v
    go_wp2
    go_ret
    exact ⟨by rw [HF.out]; rfl, HB0.out⟩
  | true =>
    cases h_b : inB x.kind 1 2 with
    | false => as_aux_lemma =>
      have HF : Hid (subB x = false) := by show _ = _; unfold subB asksB; simp [h_a, h_b]
      rw [h_a] at K_a
      rw [h_b] at K_b
      go_enter Tryz.func124, Tryz.ntmps124
      go_upto_region 1 with fail
      generalize w.alloc (.cells S 25) = W0 at *
      go_wp2_with fail
      refine (K_a.out _).mono ?_
      rintro e v ⟨rfl, hv⟩
      subst v
      go_wp2_with fail
      refine (K_b.out _).mono ?_
      rintro e v ⟨rfl, hv⟩
      subst v
      go_wp2
      go_ret
      exact ⟨by rw [HF.out]; rfl, HB0.out⟩
    | true =>
      cases h_c : inB x.target 0 7 with
      | false => as_aux_lemma =>
        have HF : Hid (subB x = false) := by show _ = _; unfold subB asksB; simp [h_a, h_b, h_c]
        rw [h_a] at K_a
        rw [h_b] at K_b
        rw [h_c] at K_c
        go_enter Tryz.func124, Tryz.ntmps124
        go_upto_region 1 with fail
        generalize w.alloc (.cells S 25) = W0 at *
        go_wp2_with fail
        refine (K_a.out _).mono ?_
        rintro e v ⟨rfl, hv⟩
        subst v
        go_wp2_with fail
        refine (K_b.out _).mono ?_
        rintro e v ⟨rfl, hv⟩
        subst v
        go_wp2_with fail
        refine (K_c.out _).mono ?_
        rintro e v ⟨rfl, hv⟩
        subst v
        go_wp2
        go_ret
        exact ⟨by rw [HF.out]; rfl, HB0.out⟩
      | true =>
        cases h_d : decide (x.value.length ≤ 256) with
        | false => as_aux_lemma =>
          have HF : Hid (subB x = false) := by show _ = _; unfold subB asksB; simp [h_a, h_b, h_c, h_d]
          rw [h_a] at K_a
          rw [h_b] at K_b
          rw [h_c] at K_c
          have d_d : decide ((x.value.length : Int) ≤ 256) = false := by rw [← h_d]; simp; omega
          have hl_d : (⟨(x.value).toArray⟩ : ByteArray).size = x.value.length := rfl
          go_enter Tryz.func124, Tryz.ntmps124
          go_upto_region 1 with fail
          generalize w.alloc (.cells S 25) = W0 at *
          go_wp2_with fail
          refine (K_a.out _).mono ?_
          rintro e v ⟨rfl, hv⟩
          subst v
          go_wp2_with fail
          refine (K_b.out _).mono ?_
          rintro e v ⟨rfl, hv⟩
          subst v
          go_wp2_with fail
          refine (K_c.out _).mono ?_
          rintro e v ⟨rfl, hv⟩
          subst v
          go_wp2
          go_ret
          exact ⟨by rw [HF.out]; rfl, HB0.out⟩
        | true =>
          as_aux_lemma =>
          have HF : Hid (subB x = true) := by show _ = _; unfold subB asksB; simp [h_a, h_b, h_c, h_d]
          rw [h_a] at K_a
          rw [h_b] at K_b
          rw [h_c] at K_c
          have d_d : decide ((x.value.length : Int) ≤ 256) = true := by rw [← h_d]; simp; omega
          have hl_d : (⟨(x.value).toArray⟩ : ByteArray).size = x.value.length := rfl
          go_enter Tryz.func124, Tryz.ntmps124
          go_upto_region 1 with fail
          generalize w.alloc (.cells S 25) = W0 at *
          go_wp2_with fail
          refine (K_a.out _).mono ?_
          rintro e v ⟨rfl, hv⟩
          subst v
          go_wp2_with fail
          refine (K_b.out _).mono ?_
          rintro e v ⟨rfl, hv⟩
          subst v
          go_wp2_with fail
          refine (K_c.out _).mono ?_
          rintro e v ⟨rfl, hv⟩
          subst v
          go_wp2
          go_ret
          exact ⟨by rw [HF.out]; rfl, HB0.out⟩
set_option maxHeartbeats 4000000 in
theorem blomay_any (x : Blo) (hx : x.Wf) (w : World) : Calls Tryz.prog 127 #[.agg (bloC x).toArray] w fun e w' => e = .returned (.bool (bloB x)) ∧ Below w.heap.size w w' := by
  have HB0 := hid (below_a1 w (.cells (bloC x).toArray 30))
  have r0 := top_obj w (.cells (bloC x).toArray 30)
  have c_owner := brow_owner r0 hx
  have c_number := brow_number r0 hx
  have c_cipher := brow_cipher r0 hx
  have K_a := hid (fun W => isclient_any x.owner W)
  have K_b := hid (fun W => isblob_any x.number W)
  clear r0
  obtain ⟨S, hS⟩ : ∃ S, S = (bloC x).toArray := ⟨_, rfl⟩
  rw [← hS] at HB0 c_owner c_number c_cipher ⊢
  clear hS
  cases h_a : inB x.owner 0 7 with
  | false => as_aux_lemma =>
    have HF : Hid (bloB x = false) := by show _ = _; unfold bloB; simp [h_a]
    rw [h_a] at K_a
    go_enter Tryz.func127, Tryz.ntmps127
    go_upto_region 1 with fail
    generalize w.alloc (.cells S 30) = W0 at *
    go_wp2_with fail
    refine (K_a.out _).mono ?_
    rintro e v ⟨rfl, hv⟩
    subst v
    go_wp2
    go_ret
    exact ⟨by rw [HF.out]; rfl, HB0.out⟩
  | true =>
    cases h_b : inB x.number 0 1099511627776 with
    | false => as_aux_lemma =>
      have HF : Hid (bloB x = false) := by show _ = _; unfold bloB; simp [h_a, h_b]
      rw [h_a] at K_a
      rw [h_b] at K_b
      go_enter Tryz.func127, Tryz.ntmps127
      go_upto_region 1 with fail
      generalize w.alloc (.cells S 30) = W0 at *
      go_wp2_with fail
      refine (K_a.out _).mono ?_
      rintro e v ⟨rfl, hv⟩
      subst v
      go_wp2_with fail
      refine (K_b.out _).mono ?_
      rintro e v ⟨rfl, hv⟩
      subst v
      go_wp2
      go_ret
      exact ⟨by rw [HF.out]; rfl, HB0.out⟩
    | true =>
      cases h_d : decide (x.cipher.length ≤ 4096) with
      | false => as_aux_lemma =>
        have HF : Hid (bloB x = false) := by show _ = _; unfold bloB; simp [h_a, h_b, h_d]
        rw [h_a] at K_a
        rw [h_b] at K_b
        have d_d : decide ((x.cipher.length : Int) ≤ 4096) = false := by rw [← h_d]; simp; omega
        have hl_d : (⟨(x.cipher).toArray⟩ : ByteArray).size = x.cipher.length := rfl
        go_enter Tryz.func127, Tryz.ntmps127
        go_upto_region 1 with fail
        generalize w.alloc (.cells S 30) = W0 at *
        go_wp2_with fail
        refine (K_a.out _).mono ?_
        rintro e v ⟨rfl, hv⟩
        subst v
        go_wp2_with fail
        refine (K_b.out _).mono ?_
        rintro e v ⟨rfl, hv⟩
        subst v
        go_wp2
        go_ret
        exact ⟨by rw [HF.out]; rfl, HB0.out⟩
      | true =>
        as_aux_lemma =>
        have HF : Hid (bloB x = true) := by show _ = _; unfold bloB; simp [h_a, h_b, h_d]
        rw [h_a] at K_a
        rw [h_b] at K_b
        have d_d : decide ((x.cipher.length : Int) ≤ 4096) = true := by rw [← h_d]; simp; omega
        have hl_d : (⟨(x.cipher).toArray⟩ : ByteArray).size = x.cipher.length := rfl
        go_enter Tryz.func127, Tryz.ntmps127
        go_upto_region 1 with fail
        generalize w.alloc (.cells S 30) = W0 at *
        go_wp2_with fail
        refine (K_a.out _).mono ?_
        rintro e v ⟨rfl, hv⟩
        subst v
        go_wp2_with fail
        refine (K_b.out _).mono ?_
        rintro e v ⟨rfl, hv⟩
        subst v
        go_wp2
        go_ret
        exact ⟨by rw [HF.out]; rfl, HB0.out⟩
set_option maxHeartbeats 4000000 in
theorem penmay_any (x : Pen) (hx : x.Wf) (w : World) : Calls Tryz.prog 164 #[.agg (penC x).toArray] w fun e w' => e = .returned (.bool (penB x)) ∧ Below w.heap.size w w' := by
  have HB0 := hid (below_a1 w (.cells (penC x).toArray 113))
  have r0 := top_obj w (.cells (penC x).toArray 113)
  have c_client := prow_client r0 hx
  have c_number := prow_number r0 hx
  have c_kind := prow_kind r0 hx
  have c_target := prow_target r0 hx
  have K_a := hid (fun W => isclient_any x.client W)
  have K_b := hid (fun W => isnumber_any x.number W)
  have K_c := hid (fun W => isdeed_any x.kind W)
  have K_d := hid (fun W => isclient_any x.target W)
  clear r0
  obtain ⟨S, hS⟩ : ∃ S, S = (penC x).toArray := ⟨_, rfl⟩
  rw [← hS] at HB0 c_client c_number c_kind c_target ⊢
  clear hS
  cases h_a : inB x.client 0 7 with
  | false => as_aux_lemma =>
    have HF : Hid (penB x = false) := by show _ = _; unfold penB asksB; simp [h_a]
    rw [h_a] at K_a
    go_enter Tryz.func164, Tryz.ntmps164
    go_upto_region 1 with fail
    generalize w.alloc (.cells S 113) = W0 at *
    go_wp2_with fail
    refine (K_a.out _).mono ?_
    rintro e v ⟨rfl, hv⟩
    subst v
    go_wp2
    go_ret
    exact ⟨by rw [HF.out]; rfl, HB0.out⟩
  | true =>
    cases h_b : inB x.number 1 512 with
    | false => as_aux_lemma =>
      have HF : Hid (penB x = false) := by show _ = _; unfold penB asksB; simp [h_a, h_b]
      rw [h_a] at K_a
      rw [h_b] at K_b
      go_enter Tryz.func164, Tryz.ntmps164
      go_upto_region 1 with fail
      generalize w.alloc (.cells S 113) = W0 at *
      go_wp2_with fail
      refine (K_a.out _).mono ?_
      rintro e v ⟨rfl, hv⟩
      subst v
      go_wp2_with fail
      refine (K_b.out _).mono ?_
      rintro e v ⟨rfl, hv⟩
      subst v
      go_wp2
      go_ret
      exact ⟨by rw [HF.out]; rfl, HB0.out⟩
    | true =>
      cases h_c : inB x.kind 1 2 with
      | false => as_aux_lemma =>
        have HF : Hid (penB x = false) := by show _ = _; unfold penB asksB; simp [h_a, h_b, h_c]
        rw [h_a] at K_a
        rw [h_b] at K_b
        rw [h_c] at K_c
        go_enter Tryz.func164, Tryz.ntmps164
        go_upto_region 1 with fail
        generalize w.alloc (.cells S 113) = W0 at *
        go_wp2_with fail
        refine (K_a.out _).mono ?_
        rintro e v ⟨rfl, hv⟩
        subst v
        go_wp2_with fail
        refine (K_b.out _).mono ?_
        rintro e v ⟨rfl, hv⟩
        subst v
        go_wp2_with fail
        refine (K_c.out _).mono ?_
        rintro e v ⟨rfl, hv⟩
        subst v
        go_wp2
        go_ret
        exact ⟨by rw [HF.out]; rfl, HB0.out⟩
      | true =>
        cases h_d : inB x.target 0 7 with
        | false => as_aux_lemma =>
          have HF : Hid (penB x = false) := by show _ = _; unfold penB asksB; simp [h_a, h_b, h_c, h_d]
          rw [h_a] at K_a
          rw [h_b] at K_b
          rw [h_c] at K_c
          rw [h_d] at K_d
          go_enter Tryz.func164, Tryz.ntmps164
          go_upto_region 1 with fail
          generalize w.alloc (.cells S 113) = W0 at *
          go_wp2_with fail
          refine (K_a.out _).mono ?_
          rintro e v ⟨rfl, hv⟩
          subst v
          go_wp2_with fail
          refine (K_b.out _).mono ?_
          rintro e v ⟨rfl, hv⟩
          subst v
          go_wp2_with fail
          refine (K_c.out _).mono ?_
          rintro e v ⟨rfl, hv⟩
          subst v
          go_wp2_with fail
          refine (K_d.out _).mono ?_
          rintro e v ⟨rfl, hv⟩
          subst v
          go_wp2
          go_ret
          exact ⟨by rw [HF.out]; rfl, HB0.out⟩
        | true =>
          as_aux_lemma =>
          have HF : Hid (penB x = true) := by show _ = _; unfold penB asksB; simp [h_a, h_b, h_c, h_d]
          rw [h_a] at K_a
          rw [h_b] at K_b
          rw [h_c] at K_c
          rw [h_d] at K_d
          go_enter Tryz.func164, Tryz.ntmps164
          go_upto_region 1 with fail
          generalize w.alloc (.cells S 113) = W0 at *
          go_wp2_with fail
          refine (K_a.out _).mono ?_
          rintro e v ⟨rfl, hv⟩
          subst v
          go_wp2_with fail
          refine (K_b.out _).mono ?_
          rintro e v ⟨rfl, hv⟩
          subst v
          go_wp2_with fail
          refine (K_c.out _).mono ?_
          rintro e v ⟨rfl, hv⟩
          subst v
          go_wp2_with fail
          refine (K_d.out _).mono ?_
          rintro e v ⟨rfl, hv⟩
          subst v
          go_wp2
          go_ret
          exact ⟨by rw [HF.out]; rfl, HB0.out⟩
set_option maxHeartbeats 1000000 in
theorem viewmay_any (v : List UInt8) (w : World) : Calls Tryz.prog 126 #[st v] w fun e w' => e = .returned (.bool (viewB v)) ∧ Below w.heap.size w w' := by
  cases h1 : v.isEmpty with
  | true =>
    have e0 : v = [] := List.isEmpty_iff.1 h1
    subst e0
    clear h1
    go_enter Tryz.func126, Tryz.ntmps126
    go_wp2
    go_ret
    exact ⟨rfl, Below.refl _ _⟩
  | false =>
    have HR := hid (Hist.right_any v 8 w)
    have hne : ¬ v = [] := fun e => by rw [e] at h1; cases h1
    have e0 : viewB v = Hist.rightB v 8 := by unfold viewB; simp [hne]
    rw [e0]
    generalize Hist.rightB v 8 = b at *
    clear e0
    go_enter Tryz.func126, Tryz.ntmps126
    go_wp2_with fail
    refine HR.out.mono ?_
    rintro e w1 ⟨rfl, hb⟩
    have HB := hid hb
    clear hb
    go_wp2
    go_ret
    exact ⟨rfl, HB.out⟩
theorem numsB_len (l : List Int) (h : inB (l.length : Int) 1 64 = false) : numsB l = false := by unfold numsB; rw [h]; simp
theorem numsB_every (l : List Int) (hl : inB (l.length : Int) 1 64 = true) (h : ∀ i, i < l.length → okAt l i = true) : numsB l = true := by rw [numsB_all l h, hl]
set_option maxHeartbeats 4000000 in
theorem numsmay_any {w : World} {v : Value} {l : List Int} (hv : IntsAt w v l) (hmx : l.length ≤ 9223372036854775807) : Calls Tryz.prog 128 #[v] w fun e w' => e = .returned (.bool (numsB l)) ∧ Below w.heap.size w w' := by
  have HV := hid hv
  obtain ⟨a, cap, rfl, -⟩ := hv
  have HB0 := hid (Below.refl w.heap.size w)
  have HBad := hid (numsB_bad l)
  cases hin0 : inB (l.length : Int) 1 64 with
  | false =>
    have HF := hid (numsB_len l hin0)
    rcases (by unfold inB at hin0; simp at hin0; omega : l.length = 0 ∨ (64 : Int) < (l.length : Int)) with h0 | h64
    · as_aux_lemma =>
      have d1 : decide ((l.length : Int) < 1) = true := decide_eq_true (by omega)
      have d1' : decide (l.length < 1) = true := decide_eq_true (by omega)
      clear hin0 HBad h0
      go_enter Tryz.func128, Tryz.ntmps128
      go_wp2
      go_ret
      exact ⟨by rw [HF.out]; rfl, HB0.out⟩
    · as_aux_lemma =>
      have d1 : decide ((l.length : Int) < 1) = false := decide_eq_false (by omega)
      have d1' : decide (l.length < 1) = false := decide_eq_false (by omega)
      have d2 : decide ((64 : Int) < (l.length : Int)) = true := decide_eq_true h64
      have d2' : decide (64 < l.length) = true := decide_eq_true (by omega)
      clear hin0 HBad
      go_enter Tryz.func128, Tryz.ntmps128
      go_wp2
      go_ret
      exact ⟨by rw [HF.out]; rfl, HB0.out⟩
  | true =>
    have hl := (inB_iff _ _ _).1 hin0
    have HAll := hid (numsB_every l hin0)
    have d1 : decide ((l.length : Int) < 1) = false := decide_eq_false (by omega)
    have d1' : decide (l.length < 1) = false := decide_eq_false (by omega)
    have d2 : decide ((64 : Int) < (l.length : Int)) = false := decide_eq_false (by omega)
    have d2' : decide (64 < l.length) = false := decide_eq_false (by omega)
    clear hin0
    go_enter Tryz.func128, Tryz.ntmps128
    go_wp2
    go_loopw [15] (fun i w' => ∃ j : Nat, j ≤ l.length ∧ i = .int .i64 j ∧ Hid (∀ k, k < j → okAt l k = true) ∧ Hid (Below w.heap.size w w')) (fun i _ => l.length - (intOf i).toNat)
    case atStart => exact ⟨0, by omega, rfl, fun k hk => absurd hk (Nat.not_lt_zero k), HB0.out⟩
    case round =>
      obtain ⟨j, hj, rfl, HN, HB⟩ := hrel
      clear d1 d1' d2 d2' HB0
      by_cases hlt : j < l.length
      · have d1 : decide ((j : Int) < (l.length : Int)) = true := decide_eq_true (by omega)
        have d1' : decide (j < l.length) = true := decide_eq_true hlt
        obtain ⟨a', c', e', hc⟩ := HV.out.kept HB.out
        cases e'
        obtain ⟨b, off, rfl, hcc⟩ := hc (fun e => by rw [e] at hlt; exact absurd hlt (Nat.not_lt_zero j))
        have cj : wr.cell? ⟨b, off + j, none⟩ = some (.int .i64 (l.getD j 0)) := hcc j hlt
        have HI := hid (fun W => isblob_any (l.getD j 0) W)
        have hon : Hid (okAt l j = true → ∀ k, k < j + 1 → okAt l k = true) := fun h k hk => by
          by_cases e : k = j
          · rw [e]; exact h
          · exact HN.out k (by omega)
        cases hin : inB (l.getD j 0) 0 1099511627776 with
        | false => as_aux_lemma =>
          have HF := hid (HBad.out j hlt (by unfold okAt; rw [hin]; rfl))
          rw [hin] at HI
          generalize l.getD j 0 = x at *
          clear hin hc hcc hon HN HAll HBad
          go_wp2_with fail
          refine (HI.out _).mono ?_
          rintro e v ⟨rfl, hv⟩
          subst v
          go_wp2
          go_ret
          exact ⟨by rw [HF.out]; rfl, HB.out⟩
        | true =>
          rw [hin] at HI
          by_cases h0 : j = 0
          · as_aux_lemma =>
            subst h0
            have cj0 : wr.cell? ⟨b, off, none⟩ = some (.int .i64 (l.getD 0 0)) := cj
            have HN' := hid (hon.out (by unfold okAt; rw [hin]; rfl))
            generalize l.getD 0 0 = x at *
            clear hin hc hcc hon HN HAll HBad
            go_wp2_with fail
            refine (HI.out _).mono ?_
            rintro e v ⟨rfl, hv⟩
            subst v
            go_wp2
            exact ⟨⟨1, by omega, rfl, HN'.out, HB.out⟩, by simp [intOf]; omega⟩
          · have dz : decide ((0 : Int) < (j : Int)) = true := decide_eq_true (by omega)
            have dz' : decide (0 < j) = true := decide_eq_true (by omega)
            have ck : wr.cell? ⟨b, off + (j - 1), none⟩ = some (.int .i64 (l.getD (j - 1) 0)) := hcc (j - 1) (by omega)
            obtain ⟨i, hi⟩ : ∃ i : Nat, i = j - 1 := ⟨_, rfl⟩
            have hij : (j : Int) - 1 = (i : Int) := by omega
            have hil : i < l.length := by omega
            rw [← hi] at ck
            by_cases hle : l.getD j 0 ≤ l.getD i 0
            · as_aux_lemma =>
              have HF := hid (HBad.out j hlt (by unfold okAt; rw [hin, ← hi, decide_eq_false h0, decide_eq_false (by omega : ¬ l.getD i 0 < l.getD j 0)]; rfl))
              have dl : decide (l.getD j 0 ≤ l.getD i 0) = true := decide_eq_true hle
              generalize l.getD j 0 = x at *
              generalize l.getD i 0 = y at *
              clear hin hc hcc hon HN HAll HBad hle h0 hi
              go_wp2_with fail
              refine (HI.out _).mono ?_
              rintro e v ⟨rfl, hv⟩
              subst v
              go_wp2
              go_ret
              exact ⟨by rw [HF.out]; rfl, HB.out⟩
            · as_aux_lemma =>
              have HN' := hid (hon.out (by unfold okAt; rw [hin, ← hi, decide_eq_false h0, decide_eq_true (by omega : l.getD i 0 < l.getD j 0)]; rfl))
              have dl : decide (l.getD j 0 ≤ l.getD i 0) = false := decide_eq_false hle
              generalize l.getD j 0 = x at *
              generalize l.getD i 0 = y at *
              clear hin hc hcc hon HN HAll HBad hle h0 hi
              go_wp2_with fail
              refine (HI.out _).mono ?_
              rintro e v ⟨rfl, hv⟩
              subst v
              go_wp2
              exact ⟨⟨j + 1, by omega, by go_num, HN'.out, HB.out⟩, by simp [intOf]; omega⟩
      · as_aux_lemma =>
        obtain rfl : j = l.length := by omega
        have HF := hid (HAll.out HN.out)
        clear HN HAll HBad
        go_wp2
        go_ret
        exact ⟨by rw [HF.out]; rfl, HB.out⟩
end Go.Proofs.YtidlgecognedlaaGreatDoor.Ms
