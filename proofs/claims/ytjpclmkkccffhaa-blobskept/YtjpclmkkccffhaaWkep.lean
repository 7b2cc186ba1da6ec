/-
  The walk of BlobsKept: what was put is got as it was, until it is pruned; who puts another one in its place is refused.
-/
import Derived.Test.YtjpclmkkccffhaaBmd
namespace Go.Proofs.Ytjpclmkkccffhaa.Bl
open Go Go.RowKit Go.Maps
set_option maxRecDepth 100000

def ciB (b : Blo) (c : List UInt8) : Blo := ⟨b.owner, b.number, c, b.tag⟩
theorem put_zero {P : List Blo} {b : Blo} (h : putE P b = 0) : mayB b = true ∧ ((∃ x, P.find? (hitB b.owner b.number) = some x ∧ x = b ∧ putD P b = P) ∨ (P.find? (hitB b.owner b.number) = none ∧ roomB P b = true ∧ putD P b = P ++ [b])) := by
  unfold putE at h
  unfold putD
  by_cases hm : mayB b = true
  · rw [if_pos hm] at h
    refine ⟨hm, ?_⟩
    rw [if_pos hm]
    cases hf : P.find? (hitB b.owner b.number) with
    | some x =>
      rw [hf] at h
      by_cases hs : sameB x b = true
      · exact Or.inl ⟨x, rfl, (sameB_iff x b).1 hs, rfl⟩
      · simp [hs] at h
    | none =>
      rw [hf] at h
      by_cases hr : roomB P b = true
      · refine Or.inr ⟨rfl, hr, ?_⟩
        simp [hr]
      · simp [hr] at h
  · rw [if_neg hm] at h
    cases h
theorem kept_find {P : List Blo} (hI : Inv P) {b : Blo} (hw : b.Wf) (h : putE P b = 0) : mayB b = true ∧ (putD P b).find? (hitB b.owner b.number) = some b ∧ Inv (putD P b) := by
  have hI2 := hI.put hw
  obtain ⟨hm, hor⟩ := put_zero h
  refine ⟨hm, ?_, hI2⟩
  rcases hor with ⟨x, h1, rfl, h3⟩ | ⟨h1, h2, h3⟩
  · rw [h3, h1]
  · refine find_of hI2 ?_ ⟨rfl, rfl⟩
    rw [h3]
    simp
section
variable {L : List Blo} {b : Blo}
theorem kept_putD (hf : L.find? (hitB b.owner b.number) = some b) (c : List UInt8) : putD L (ciB b c) = L := by
  unfold putD
  split
  · show (match L.find? (hitB b.owner b.number) with | some _ => L | none => _) = L
    rw [hf]
  · rfl
theorem kept_putE (hm : mayB b = true) (hf : L.find? (hitB b.owner b.number) = some b) (c : List UInt8) (hc : c.length ≤ 4096) : (putE L (ciB b c) == 0) = (b.cipher == c) := by
  have hmm := (mayB_iff b).1 hm
  have hm2 : mayB (ciB b c) = true := (mayB_iff _).2 ⟨hmm.1, hmm.2.1, hc⟩
  have e : putE L (ciB b c) = (if sameB b (ciB b c) then 0 else 10) := by
    unfold putE
    rw [if_pos hm2]
    show (match L.find? (hitB b.owner b.number) with | some x => _ | none => _) = _
    rw [hf]
  rw [e]
  have hs : sameB b (ciB b c) = (b.cipher == c) := by simp [sameB, ciB]
  rw [hs]
  cases (b.cipher == c) <;> rfl
theorem kept_get (hf : L.find? (hitB b.owner b.number) = some b) : getB L b.owner b.number = b ∧ getE L b.owner b.number = 0 := by
  unfold getB getE
  rw [hf]
  exact ⟨rfl, rfl⟩
theorem kept_prune (hf : L.find? (hitB b.owner b.number) = some b) : pruneN L b.owner [b.number] = 1 ∧ pruneD L b.owner [b.number] = dropD L b.owner b.number := by
  have : L.any (hitB b.owner b.number) = true := by rw [any_find, hf]; rfl
  refine ⟨?_, rfl⟩
  simp [pruneN, this]
theorem perm_drop {o n : Int} (hf : L.find? (hitB o n) = some b) : L.Perm (b :: dropD L o n) := by
  unfold dropD
  induction L with
  | nil => simp at hf
  | cons x L ih =>
    rw [List.find?_cons] at hf
    rw [List.eraseP_cons]
    cases hx : hitB o n x with
    | true =>
      rw [hx] at hf
      cases hf
      simp
    | false =>
      rw [hx] at hf
      simp only [cond_false]
      exact ((ih hf).cons x).trans (List.Perm.swap _ _ _)
theorem kept_none (hI : Inv L) (hf : L.find? (hitB b.owner b.number) = some b) : (dropD L b.owner b.number).find? (hitB b.owner b.number) = none := by
  rw [List.find?_eq_none]
  intro x hx e
  have hp := perm_drop hf
  have hpw : (b :: dropD L b.owner b.number).Pairwise fun a c => ¬ (a.owner = c.owner ∧ a.number = c.number) := hI.apart.perm hp (by intro a c h e; exact h ⟨e.1.symm, e.2.symm⟩)
  rw [List.pairwise_cons] at hpw
  have := (hitB_iff _ _ x).1 e
  exact hpw.1 x hx ⟨this.1.symm, this.2.symm⟩
theorem kept_again (hI : Inv L) (hm : mayB b = true) (hf : L.find? (hitB b.owner b.number) = some b) : getE (dropD L b.owner b.number) b.owner b.number = 9 ∧ putE (dropD L b.owner b.number) b = 0 := by
  have hn := kept_none hI hf
  have hp := perm_drop hf
  constructor
  · unfold getE
    rw [hn]
    rfl
  · unfold putE
    rw [if_pos hm, hn]
    have hr : roomB (dropD L b.owner b.number) b = true := by
      rw [roomB_iff]
      have h1 := cnt_perm hp b.owner
      have h2 := byt_perm hp b.owner
      have h3 := hI.cnt b.owner
      have h4 := hI.byt b.owner
      have e1 : cntO (b :: dropD L b.owner b.number) b.owner = cntO (dropD L b.owner b.number) b.owner + 1 := by
        simp [cntO, ownL]
      have e2 : bytO (b :: dropD L b.owner b.number) b.owner = b.cipher.length + bytO (dropD L b.owner b.number) b.owner := by
        simp [bytO, ownL]
      omega
    simp [hr]
end
theorem ci_wf {b : Blo} (h : b.Wf) (c : List UInt8) : (ciB b c).Wf := h

set_option maxHeartbeats 4000000 in
theorem kept_walk {w : World} {x : Option Addr} {cap : Nat} {acs : List Ac} (h : ActsAt w x acs) (b : Blo) (hbw : b.Wf) (other : List UInt8) : Calls Try.prog 4 #[.slice x acs.length cap, .agg (bloC b).toArray, st other] w fun e w' => e = .returned (.bool true) ∧ Below w.heap.size w w' := by
  have B0 := hid (below_a1 w (.cells (bloC b).toArray 33))
  have R0 := hid (top_obj w (.cells (bloC b).toArray 33))
  have HM := hid (mk_any (cap := cap) (h.kept B0.out))
  have Zb := hid (sizeOf_blo hbw)
  have hso : (⟨other.toArray⟩ : ByteArray).size = other.length := rfl
  clear h
  go_enter Try.func4, Try.ntmps4
  go_upto_region 1 with fail
  generalize w.alloc (.cells (bloC b).toArray 33) = W0 at *
  go_upto_region 4 with (first
    | (go_at_call 8; refine HM.out.mono ?_; rintro e W1 ⟨s, m, r, v, rfl, h1, -, b1, hs, hm, -⟩; have H1 := hid h1; have B1 := hid b1; have HX : Hid (W0.heap.size ≤ s ∧ W0.heap.size ≤ m) := ⟨hs, hm⟩; have HA := hid (awake_any W1); clear h1 b1 hs hm)
    | (go_at_call 9; refine HA.out.mono ?_; rintro e W2 ⟨rfl, b2⟩; have B2 := hid (below_two B1.out b2); have H2 := hid (H1.out.kept b2); clear b2))
  have R2 := hid (row_kept R0.out B2.out)
  have BB := hid (below_two B0.out B2.out)
  have G0 : Hid (w.heap.size ≠ m) := by
    have h1 := row_lt R0.out
    have h2 := HX.out
    show _ ≠ _
    omega
  have MB : Hid (w.heap.size ≤ m) := Nat.le_trans B0.out.size HX.out.2
  generalize playD acs (min acs.length 40) = P at *
  have HP1 := hid (put_any H2.out b hbw)
  clear H1 B1 HA HM B2 R0 B0 HX
  by_cases hE : putE P b = 0
  · obtain ⟨hm, hf, hI⟩ := kept_find H2.out.inv hbw hE
    rw [hE] at HP1
    have HPD := hid (kept_putD hf other)
    have HPE := hid (kept_putE hm hf other)
    have HGt := hid (kept_get hf)
    have HPr := hid (kept_prune hf)
    have HAg := hid (kept_again hI hm hf)
    have h64 := hid (may_i64 hm)
    generalize putD P b = L at *
    clear hm hf hE
    have EB : Hid (bloC b = [nu b.owner, nu b.number] ++ ([st b.cipher] ++ dg b.tag)) := by show _ = _; simp [bloC]
    have EC : Hid (bloC (ciB b other) = [nu b.owner, nu b.number] ++ ([st other] ++ dg b.tag)) := by show _ = _; simp [bloC, ciB]
    have Zc := hid (sizeOf_blo (ci_wf hbw other))
    have hcw := ci_wf hbw other
    go_upto_region 8 with (first
      | ((with_reducible refine wl_load 33 (.tmp 4) ?_ w.heap.size 0 ?_ ?_ (bloC b) _ (brow_all R3.out) Try.underlying33 ?_ Zb.out ?_); exact rfl; exact rfl; exact rfl; exact rfl)
      | ((with_reducible refine wl_load 33 (.tmp 4) ?_ w.heap.size 0 ?_ ?_ (bloC b) _ (brow_all R2.out) Try.underlying33 ?_ Zb.out ?_); exact rfl; exact rfl; exact rfl; exact rfl)
      | (go_at_call 11; refine HP1.out.mono ?_; rintro e W3 ⟨rfl, h3, k3⟩; have H3 := hid h3; have K3 := hid k3; have R3 := hid (k3.row R2.out (by simpa using G0.out)); clear h3 k3)
      | ((with_reducible refine wl_allocK 33 ?_ ?_ (bloC zeroB).toArray zeroBl ?_); exact rfl; exact rfl; intro W4 r4 b4 s4; have R4 := hid r4; have B4 := hid b4; clear r4 b4 s4)
      | ((with_reducible refine wl_putK 33 (.tmp 10) (.tmp 32) ?_ ?_ W3.heap.size ?_ ?_ (bloC b) (bloC zeroB) ?_ 33 R4.out ((bloC_len zeroB_wf).trans (bloC_len hbw).symm) (one_blo _) Zb.out ?_); exact rfl; exact rfl; exact rfl; exact rfl; exact rfl; intro W5 r5 k5 s5; have R5 := hid r5; have B5 := hid (B4.out.trans (k5.below (by simp) B4.out.size)); have c5 := brow_c r5; have f5 : W5.frozen? ⟨W3.heap.size, 2, none⟩ = false := (by simp [World.frozen?, r5]); clear r5 k5 s5))
    have R6 : Hid ((W5.setCell ⟨W3.heap.size, 2, none⟩ (st other)).heap[W3.heap.size]? = some (.cells (bloC (ciB b other)).toArray 33)) := by
      have h0 := R5.out
      rw [EB.out] at h0
      show _ = _
      rw [EC.out]
      exact row_set h0 rfl
    have K6 : Hid (Kp [W3.heap.size] W5 (W5.setCell ⟨W3.heap.size, 2, none⟩ (st other))) := (Kp.refl _ _).setCell _ _ (Or.inl (by simp))
    have hB3 : Hid (Below w.heap.size W2 W3) := K3.out.below (by simpa using MB.out) BB.out.size
    generalize W5.setCell ⟨W3.heap.size, 2, none⟩ (st other) = W6 at *
    have B6 : Hid (Below W3.heap.size W3 W6) := B5.out.trans (K6.out.below (by simp) B5.out.size)
    have H6 := hid (H3.out.kept B6.out)
    have Q6 := hid (row_kept R3.out B6.out)
    have BW : Hid (Below w.heap.size W2 W6) := hB3.out.trans (B6.out.mono (Nat.le_trans BB.out.size K3.out.size))
    have HP2 := hid (put_any H6.out (ciB b other) hcw)
    rw [HPD.out] at HP2
    have EQ := hid (fun W => equal_blo W b b hbw hbw)
    rw [sameB_self] at EQ
    generalize W3.heap.size = g at *
    clear HP1 H2 R2 c5 f5 R4 B4 R5 B5 K6 K3 hB3 HPD EB EC
    generalize putE L (ciB b other) = E2 at *
    by_cases hlo : other.length ≤ 4096
    · have dl : decide ((other.length : Int) ≤ 4096) = true := decide_eq_true (by omega)
      have hE2 := HPE.out hlo
      by_cases hco : b.cipher = other
      · have he : (E2 == 0) = true := by rw [hE2]; simpa using hco
        have hE0 : E2 = 0 := by simpa using he
        subst hE0
        clear hE2 HPE he
        subst hco
        go_wp2_with (first
          | ((with_reducible refine wl_load 33 (.tmp 10) ?_ g 0 ?_ ?_ (bloC (ciB b b.cipher)) _ (brow_all R6.out) Try.underlying33 ?_ Zc.out ?_); exact rfl; exact rfl; exact rfl; exact rfl)
          | ((with_reducible refine wl_load 33 (.tmp 12) ?_ W8.heap.size 0 ?_ ?_ (bloC b) _ (brow_all R10.out) Try.underlying33 ?_ Zb.out ?_); exact rfl; exact rfl; exact rfl; exact rfl)
          | ((with_reducible refine wl_load 33 (.tmp 4) ?_ w.heap.size 0 ?_ ?_ (bloC b) _ (brow_all R16.out) Try.underlying33 ?_ Zb.out ?_); exact rfl; exact rfl; exact rfl; exact rfl)
          | ((with_reducible refine wl_load 33 (.tmp 4) ?_ w.heap.size 0 ?_ ?_ (bloC b) _ (brow_all Q10.out) Try.underlying33 ?_ Zb.out ?_); exact rfl; exact rfl; exact rfl; exact rfl)
          | ((with_reducible refine wl_neq ?_ 33 33 (.tmp 62) (.tmp 63) ?_ (bloC b).toArray (bloC b).toArray ?_ ?_ guardBlo true EQ.out ?_); exact rfl; exact rfl; exact rfl; exact rfl)
          | (go_at_call 11; refine HP3.out.mono ?_; rintro e W17 ⟨rfl, -, k17⟩; have K17 := hid k17; clear k17)
          | (go_at_call 11; refine HP2.out.mono ?_; rintro e W7 ⟨rfl, h7, k7⟩; have H7 := hid h7; have K7 := hid k7; have R7 := hid (k7.row Q6.out (by simpa using G0.out)); have c70 := brow_o R7.out; have c71 := brow_n R7.out; have c72 := brow_c R7.out; have HG := hid (get_any h7 b.owner b.number h64.out.1 h64.out.2); rw [HGt.out.1, HGt.out.2] at HG; clear h7 k7)
          | (go_at_call 12; refine HG2.out.mono ?_; rintro e W13 ⟨rfl, b13⟩; have B13 := hid b13; clear b13)
          | (go_at_call 12; refine HG.out.mono ?_; rintro e W8 ⟨rfl, b8⟩; have B8 := hid b8; clear b8 c70 c71 c72)
          | ((with_reducible refine wl_allocK 33 ?_ ?_ (bloC zeroB).toArray zeroBl ?_); exact rfl; exact rfl; first | (intro W14 r14 b14 s14; have R14 := hid r14; have B14 := hid (below_two B13.out b14); clear r14 b14 s14) | (intro W9 r9 b9 s9; have R9 := hid r9; have B9 := hid b9; clear r9 b9 s9))
          | ((with_reducible refine wl_putK 33 (.tmp 12) (.tmp 57) ?_ ?_ W8.heap.size ?_ ?_ (bloC b) (bloC zeroB) ?_ 33 R9.out ((bloC_len zeroB_wf).trans (bloC_len hbw).symm) (one_blo _) Zb.out ?_); exact rfl; exact rfl; exact rfl; exact rfl; exact rfl; intro W10 r10 k10 s10; have R10 := hid r10; have B10 := hid (B8.out.trans ((B9.out.mono B8.out.size).trans (k10.below (by simp; exact B8.out.size) (Nat.le_trans B8.out.size B9.out.size)))); have Q10 := hid (row_kept R7.out B10.out); have c100 := brow_o Q10.out; have c101 := brow_n Q10.out; have B11 := hid (below_a1 W10 (.cells #[nu b.number] 3)); have HPr2 := hid (prune_any ((H7.out.kept B10.out).kept B11.out) b.owner (.slice (some ⟨W10.heap.size, 0, none⟩) 1 1) [b.number] h64.out.1 (by intro k hk; simp at hk; subst hk; exact h64.out.2) (by simp) ⟨_, _, rfl, fun _ => ⟨W10.heap.size, 0, rfl, fun j hj => by rw [cell_of_row _ _ _ _ _ _ (top_obj W10 (.cells #[nu b.number] 3))]; match j, hj with | 0, _ => rfl⟩⟩); rw [HPr.out.1, HPr.out.2] at HPr2; clear r10 k10 s10)
          | (go_at_call 13; refine HPr2.out.mono ?_; rintro e W12 ⟨rfl, h12, k12⟩; have H12 := hid h12; have K12 := hid k12; have R12 := hid (k12.row (row_kept Q10.out B11.out) (by simpa using G0.out)); have c120 := brow_o R12.out; have c121 := brow_n R12.out; have HG2 := hid (get_any h12 b.owner b.number h64.out.1 h64.out.2); rw [HAg.out.1] at HG2; have hzw := hid (getB_wf h12.inv b.owner b.number); generalize getB (dropD L b.owner b.number) b.owner b.number = z at *; clear h12 k12 c100 c101)
          | ((with_reducible refine wl_putK 33 (.tmp 14) (.tmp 83) ?_ ?_ W13.heap.size ?_ ?_ (bloC z) (bloC zeroB) ?_ 33 R14.out ((bloC_len zeroB_wf).trans (bloC_len hzw.out).symm) (one_blo _) (sizeOf_blo hzw.out) ?_); exact rfl; exact rfl; exact rfl; exact rfl; exact rfl; intro W16 r16 k16 s16; have B16 := hid (B14.out.trans (k16.below (by simp; exact B13.out.size) (B14.out.size))); have R16 := hid (row_kept R12.out B16.out); have HP3 := hid (put_any (H12.out.kept B16.out) b hbw); rw [HAg.out.2] at HP3; clear r16 k16 s16))
        go_ret
        have SZ7 : Hid (w.heap.size ≤ W7.heap.size) := Nat.le_trans BB.out.size (Nat.le_trans BW.out.size K7.out.size)
        have hmb := MB.out
        exact ⟨rfl, BB.out.trans (BW.out.trans ((K7.out.below (by simpa using hmb) (Nat.le_trans BB.out.size BW.out.size)).trans ((B10.out.mono SZ7.out).trans ((B11.out.mono (Nat.le_trans SZ7.out B10.out.size)).trans ((K12.out.below (by simpa using hmb) (Nat.le_trans SZ7.out (Nat.le_trans B10.out.size B11.out.size))).trans ((B16.out.mono (Nat.le_trans SZ7.out (Nat.le_trans B10.out.size (Nat.le_trans B11.out.size K12.out.size)))).trans (K17.out.below (by simpa using hmb) (Nat.le_trans SZ7.out (Nat.le_trans B10.out.size (Nat.le_trans B11.out.size (Nat.le_trans K12.out.size B16.out.size)))))))))))⟩
      · have he : (E2 == 0) = false := by rw [hE2]; simpa using hco
        have hco' : ¬ other = b.cipher := fun e => hco e.symm
        have hcb : (b.cipher == other) = false := by simpa using hco
        clear hE2 HPE
        go_wp2_with (first
          | ((with_reducible refine wl_load 33 (.tmp 10) ?_ g 0 ?_ ?_ (bloC (ciB b other)) _ (brow_all R6.out) Try.underlying33 ?_ Zc.out ?_); exact rfl; exact rfl; exact rfl; exact rfl)
          | ((with_reducible refine wl_load 33 (.tmp 12) ?_ W8.heap.size 0 ?_ ?_ (bloC b) _ (brow_all R10.out) Try.underlying33 ?_ Zb.out ?_); exact rfl; exact rfl; exact rfl; exact rfl)
          | ((with_reducible refine wl_load 33 (.tmp 4) ?_ w.heap.size 0 ?_ ?_ (bloC b) _ (brow_all R16.out) Try.underlying33 ?_ Zb.out ?_); exact rfl; exact rfl; exact rfl; exact rfl)
          | ((with_reducible refine wl_load 33 (.tmp 4) ?_ w.heap.size 0 ?_ ?_ (bloC b) _ (brow_all Q10.out) Try.underlying33 ?_ Zb.out ?_); exact rfl; exact rfl; exact rfl; exact rfl)
          | ((with_reducible refine wl_neq ?_ 33 33 (.tmp 62) (.tmp 63) ?_ (bloC b).toArray (bloC b).toArray ?_ ?_ guardBlo true EQ.out ?_); exact rfl; exact rfl; exact rfl; exact rfl)
          | (go_at_call 11; refine HP3.out.mono ?_; rintro e W17 ⟨rfl, -, k17⟩; have K17 := hid k17; clear k17)
          | (go_at_call 11; refine HP2.out.mono ?_; rintro e W7 ⟨rfl, h7, k7⟩; have H7 := hid h7; have K7 := hid k7; have R7 := hid (k7.row Q6.out (by simpa using G0.out)); have c70 := brow_o R7.out; have c71 := brow_n R7.out; have c72 := brow_c R7.out; have HG := hid (get_any h7 b.owner b.number h64.out.1 h64.out.2); rw [HGt.out.1, HGt.out.2] at HG; clear h7 k7)
          | (go_at_call 12; refine HG2.out.mono ?_; rintro e W13 ⟨rfl, b13⟩; have B13 := hid b13; clear b13)
          | (go_at_call 12; refine HG.out.mono ?_; rintro e W8 ⟨rfl, b8⟩; have B8 := hid b8; clear b8 c70 c71 c72)
          | ((with_reducible refine wl_allocK 33 ?_ ?_ (bloC zeroB).toArray zeroBl ?_); exact rfl; exact rfl; first | (intro W14 r14 b14 s14; have R14 := hid r14; have B14 := hid (below_two B13.out b14); clear r14 b14 s14) | (intro W9 r9 b9 s9; have R9 := hid r9; have B9 := hid b9; clear r9 b9 s9))
          | ((with_reducible refine wl_putK 33 (.tmp 12) (.tmp 57) ?_ ?_ W8.heap.size ?_ ?_ (bloC b) (bloC zeroB) ?_ 33 R9.out ((bloC_len zeroB_wf).trans (bloC_len hbw).symm) (one_blo _) Zb.out ?_); exact rfl; exact rfl; exact rfl; exact rfl; exact rfl; intro W10 r10 k10 s10; have R10 := hid r10; have B10 := hid (B8.out.trans ((B9.out.mono B8.out.size).trans (k10.below (by simp; exact B8.out.size) (Nat.le_trans B8.out.size B9.out.size)))); have Q10 := hid (row_kept R7.out B10.out); have c100 := brow_o Q10.out; have c101 := brow_n Q10.out; have B11 := hid (below_a1 W10 (.cells #[nu b.number] 3)); have HPr2 := hid (prune_any ((H7.out.kept B10.out).kept B11.out) b.owner (.slice (some ⟨W10.heap.size, 0, none⟩) 1 1) [b.number] h64.out.1 (by intro k hk; simp at hk; subst hk; exact h64.out.2) (by simp) ⟨_, _, rfl, fun _ => ⟨W10.heap.size, 0, rfl, fun j hj => by rw [cell_of_row _ _ _ _ _ _ (top_obj W10 (.cells #[nu b.number] 3))]; match j, hj with | 0, _ => rfl⟩⟩); rw [HPr.out.1, HPr.out.2] at HPr2; clear r10 k10 s10)
          | (go_at_call 13; refine HPr2.out.mono ?_; rintro e W12 ⟨rfl, h12, k12⟩; have H12 := hid h12; have K12 := hid k12; have R12 := hid (k12.row (row_kept Q10.out B11.out) (by simpa using G0.out)); have c120 := brow_o R12.out; have c121 := brow_n R12.out; have HG2 := hid (get_any h12 b.owner b.number h64.out.1 h64.out.2); rw [HAg.out.1] at HG2; have hzw := hid (getB_wf h12.inv b.owner b.number); generalize getB (dropD L b.owner b.number) b.owner b.number = z at *; clear h12 k12 c100 c101)
          | ((with_reducible refine wl_putK 33 (.tmp 14) (.tmp 83) ?_ ?_ W13.heap.size ?_ ?_ (bloC z) (bloC zeroB) ?_ 33 R14.out ((bloC_len zeroB_wf).trans (bloC_len hzw.out).symm) (one_blo _) (sizeOf_blo hzw.out) ?_); exact rfl; exact rfl; exact rfl; exact rfl; exact rfl; intro W16 r16 k16 s16; have B16 := hid (B14.out.trans (k16.below (by simp; exact B13.out.size) (B14.out.size))); have R16 := hid (row_kept R12.out B16.out); have HP3 := hid (put_any (H12.out.kept B16.out) b hbw); rw [HAg.out.2] at HP3; clear r16 k16 s16))
        go_ret
        have SZ7 : Hid (w.heap.size ≤ W7.heap.size) := Nat.le_trans BB.out.size (Nat.le_trans BW.out.size K7.out.size)
        have hmb := MB.out
        exact ⟨rfl, BB.out.trans (BW.out.trans ((K7.out.below (by simpa using hmb) (Nat.le_trans BB.out.size BW.out.size)).trans ((B10.out.mono SZ7.out).trans ((B11.out.mono (Nat.le_trans SZ7.out B10.out.size)).trans ((K12.out.below (by simpa using hmb) (Nat.le_trans SZ7.out (Nat.le_trans B10.out.size B11.out.size))).trans ((B16.out.mono (Nat.le_trans SZ7.out (Nat.le_trans B10.out.size (Nat.le_trans B11.out.size K12.out.size)))).trans (K17.out.below (by simpa using hmb) (Nat.le_trans SZ7.out (Nat.le_trans B10.out.size (Nat.le_trans B11.out.size (Nat.le_trans K12.out.size B16.out.size)))))))))))⟩
    · have dl : decide ((other.length : Int) ≤ 4096) = false := decide_eq_false (by omega)
      clear HPE
      go_wp2_with (first
        | ((with_reducible refine wl_load 33 (.tmp 10) ?_ g 0 ?_ ?_ (bloC (ciB b other)) _ (brow_all R6.out) Try.underlying33 ?_ Zc.out ?_); exact rfl; exact rfl; exact rfl; exact rfl)
        | ((with_reducible refine wl_load 33 (.tmp 12) ?_ W8.heap.size 0 ?_ ?_ (bloC b) _ (brow_all R10.out) Try.underlying33 ?_ Zb.out ?_); exact rfl; exact rfl; exact rfl; exact rfl)
        | ((with_reducible refine wl_load 33 (.tmp 4) ?_ w.heap.size 0 ?_ ?_ (bloC b) _ (brow_all R16.out) Try.underlying33 ?_ Zb.out ?_); exact rfl; exact rfl; exact rfl; exact rfl)
        | ((with_reducible refine wl_load 33 (.tmp 4) ?_ w.heap.size 0 ?_ ?_ (bloC b) _ (brow_all Q10.out) Try.underlying33 ?_ Zb.out ?_); exact rfl; exact rfl; exact rfl; exact rfl)
        | ((with_reducible refine wl_neq ?_ 33 33 (.tmp 62) (.tmp 63) ?_ (bloC b).toArray (bloC b).toArray ?_ ?_ guardBlo true EQ.out ?_); exact rfl; exact rfl; exact rfl; exact rfl)
        | (go_at_call 11; refine HP3.out.mono ?_; rintro e W17 ⟨rfl, -, k17⟩; have K17 := hid k17; clear k17)
        | (go_at_call 11; refine HP2.out.mono ?_; rintro e W7 ⟨rfl, h7, k7⟩; have H7 := hid h7; have K7 := hid k7; have R7 := hid (k7.row Q6.out (by simpa using G0.out)); have c70 := brow_o R7.out; have c71 := brow_n R7.out; have c72 := brow_c R7.out; have HG := hid (get_any h7 b.owner b.number h64.out.1 h64.out.2); rw [HGt.out.1, HGt.out.2] at HG; clear h7 k7)
        | (go_at_call 12; refine HG2.out.mono ?_; rintro e W13 ⟨rfl, b13⟩; have B13 := hid b13; clear b13)
        | (go_at_call 12; refine HG.out.mono ?_; rintro e W8 ⟨rfl, b8⟩; have B8 := hid b8; clear b8 c70 c71 c72)
        | ((with_reducible refine wl_allocK 33 ?_ ?_ (bloC zeroB).toArray zeroBl ?_); exact rfl; exact rfl; first | (intro W14 r14 b14 s14; have R14 := hid r14; have B14 := hid (below_two B13.out b14); clear r14 b14 s14) | (intro W9 r9 b9 s9; have R9 := hid r9; have B9 := hid b9; clear r9 b9 s9))
        | ((with_reducible refine wl_putK 33 (.tmp 12) (.tmp 57) ?_ ?_ W8.heap.size ?_ ?_ (bloC b) (bloC zeroB) ?_ 33 R9.out ((bloC_len zeroB_wf).trans (bloC_len hbw).symm) (one_blo _) Zb.out ?_); exact rfl; exact rfl; exact rfl; exact rfl; exact rfl; intro W10 r10 k10 s10; have R10 := hid r10; have B10 := hid (B8.out.trans ((B9.out.mono B8.out.size).trans (k10.below (by simp; exact B8.out.size) (Nat.le_trans B8.out.size B9.out.size)))); have Q10 := hid (row_kept R7.out B10.out); have c100 := brow_o Q10.out; have c101 := brow_n Q10.out; have B11 := hid (below_a1 W10 (.cells #[nu b.number] 3)); have HPr2 := hid (prune_any ((H7.out.kept B10.out).kept B11.out) b.owner (.slice (some ⟨W10.heap.size, 0, none⟩) 1 1) [b.number] h64.out.1 (by intro k hk; simp at hk; subst hk; exact h64.out.2) (by simp) ⟨_, _, rfl, fun _ => ⟨W10.heap.size, 0, rfl, fun j hj => by rw [cell_of_row _ _ _ _ _ _ (top_obj W10 (.cells #[nu b.number] 3))]; match j, hj with | 0, _ => rfl⟩⟩); rw [HPr.out.1, HPr.out.2] at HPr2; clear r10 k10 s10)
        | (go_at_call 13; refine HPr2.out.mono ?_; rintro e W12 ⟨rfl, h12, k12⟩; have H12 := hid h12; have K12 := hid k12; have R12 := hid (k12.row (row_kept Q10.out B11.out) (by simpa using G0.out)); have c120 := brow_o R12.out; have c121 := brow_n R12.out; have HG2 := hid (get_any h12 b.owner b.number h64.out.1 h64.out.2); rw [HAg.out.1] at HG2; have hzw := hid (getB_wf h12.inv b.owner b.number); generalize getB (dropD L b.owner b.number) b.owner b.number = z at *; clear h12 k12 c100 c101)
        | ((with_reducible refine wl_putK 33 (.tmp 14) (.tmp 83) ?_ ?_ W13.heap.size ?_ ?_ (bloC z) (bloC zeroB) ?_ 33 R14.out ((bloC_len zeroB_wf).trans (bloC_len hzw.out).symm) (one_blo _) (sizeOf_blo hzw.out) ?_); exact rfl; exact rfl; exact rfl; exact rfl; exact rfl; intro W16 r16 k16 s16; have B16 := hid (B14.out.trans (k16.below (by simp; exact B13.out.size) (B14.out.size))); have R16 := hid (row_kept R12.out B16.out); have HP3 := hid (put_any (H12.out.kept B16.out) b hbw); rw [HAg.out.2] at HP3; clear r16 k16 s16))
      go_ret
      have SZ7 : Hid (w.heap.size ≤ W7.heap.size) := Nat.le_trans BB.out.size (Nat.le_trans BW.out.size K7.out.size)
      have hmb := MB.out
      exact ⟨rfl, BB.out.trans (BW.out.trans ((K7.out.below (by simpa using hmb) (Nat.le_trans BB.out.size BW.out.size)).trans ((B10.out.mono SZ7.out).trans ((B11.out.mono (Nat.le_trans SZ7.out B10.out.size)).trans ((K12.out.below (by simpa using hmb) (Nat.le_trans SZ7.out (Nat.le_trans B10.out.size B11.out.size))).trans ((B16.out.mono (Nat.le_trans SZ7.out (Nat.le_trans B10.out.size (Nat.le_trans B11.out.size K12.out.size)))).trans (K17.out.below (by simpa using hmb) (Nat.le_trans SZ7.out (Nat.le_trans B10.out.size (Nat.le_trans B11.out.size (Nat.le_trans K12.out.size B16.out.size)))))))))))⟩
  · have he : (putE P b != 0) = true := by simpa using hE
    generalize putE P b = E at *
    go_wp2_with (first
      | ((with_reducible refine wl_load 33 (.tmp 4) ?_ w.heap.size 0 ?_ ?_ (bloC b) _ (brow_all R2.out) Try.underlying33 ?_ Zb.out ?_); exact rfl; exact rfl; exact rfl; exact rfl)
      | (go_at_call 11; refine HP1.out.mono ?_; rintro e W3 ⟨rfl, -, k3⟩; have K3 := hid k3; clear k3))
    go_ret
    exact ⟨rfl, BB.out.trans (K3.out.below (by simpa using MB.out) BB.out.size)⟩
end Go.Proofs.Ytjpclmkkccffhaa.Bl
