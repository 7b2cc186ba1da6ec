/-
  Both stores behind some calls; whether both say the same of an owner.
-/
import Derived.Test.YtjpclmkkccffhaaBdm
namespace Go.Proofs.Ytjpclmkkccffhaa.Bl
open Go Go.RowKit Go.Maps
set_option maxRecDepth 100000

def noAc : Ac := ⟨0, 0, 0, zeroB, []⟩
def ActAt (w : World) (b off : Nat) (a : Ac) : Prop := ∃ v, (∀ c y, (acC a v)[c]? = some y → w.cell? ⟨b, off + c, none⟩ = some y) ∧ a.Ok ∧ IntsC w v a.l
def ActsAt (w : World) (x : Option Addr) (acs : List Ac) : Prop := ∀ j, j < acs.length → ∃ b off, x = some ⟨b, off, none⟩ ∧ ActAt w b (off + j * 39) (acs.getD j noAc)
theorem IntsC.kept {B : Nat} {w w' : World} {v : Value} {ks : List Int} (h : IntsC w v ks) (hB : B = w.heap.size) (hb : Below B w w') : IntsC w' v ks := ⟨h.1.kept (hB ▸ hb), h.2⟩
theorem ActsAt.kept {w w' : World} {x : Option Addr} {acs : List Ac} (h : ActsAt w x acs) (hb : Below w.heap.size w w') : ActsAt w' x acs := by
  intro j hj
  obtain ⟨b, off, rfl, v, h1, h2, h3⟩ := h j hj
  exact ⟨b, off, rfl, v, fun c y hy => (hb.cell (p := ⟨b, off + j * 39 + c, none⟩) (World.block_lt_of_cell? w _ (h1 c y hy))).trans (h1 c y hy), h2, h3.kept rfl hb⟩
def playD (acs : List Ac) : Nat → List Blo
  | 0 => []
  | k + 1 => doD (playD acs k) (acs.getD k noAc)
theorem acC_len {a : Ac} (h : a.b.Wf) (v : Value) : (acC a v).length = 39 := by simp [acC, bloC_len h]
theorem sizeAc : (Try.prog.info? 42).map (·.size) = some 39 := by kernel_rfl
theorem play_bound (n k : Nat) (hk : k ≤ min n 40) : (k ≤ 40) ∧ (((k : Int) < (n : Int) ∧ (k : Int) < 40) → k + 1 ≤ min n 40 ∧ k < n) ∧ (¬ ((k : Int) < (n : Int) ∧ (k : Int) < 40) → k = min n 40) := by omega

set_option maxHeartbeats 4000000 in
theorem mk_any {w : World} {x : Option Addr} {cap : Nat} {acs : List Ac} (h : ActsAt w x acs) : Calls Try.prog 8 #[.slice x acs.length cap] w fun e w' =>
    ∃ s m r v, e = .returned (.tuple #[ptr s 0, ptr r 0, .bool true]) ∧ StAt w' s m (playD acs (min acs.length 40)) ∧ RfAt w' r v (playD acs (min acs.length 40)) ∧ Below w.heap.size w w' ∧ w.heap.size ≤ s ∧ w.heap.size ≤ m ∧ w.heap.size ≤ r := by
  have H := hid h
  have HN := hid (new_any w)
  clear h
  go_enter Try.func8, Try.ntmps8
  go_wp2_with (go_at_call 15; refine HN.out.mono ?_; rintro e W1 ⟨rfl, h1, k1⟩; have H1 := hid h1; have K1 := hid k1; clear h1 k1)
  have B2 := hid (below_a1 W1 (.cells #[.slice none 0 0] 45))
  have S2 := hid (H1.out.kept B2.out)
  have F2 : Hid (RfAt (W1.alloc (.cells #[.slice none 0 0] 45)) W1.heap.size (.slice none 0 0) []) := ⟨top_obj W1 _, World.ownsRow_nil _ _ _ _, inv_nil⟩
  have BB := hid (below_two K1.out B2.out)
  have hr : Hid (w.heap.size ≤ W1.heap.size) := K1.out.size
  generalize W1.alloc (.cells #[.slice none 0 0] 45) = W2 at *
  generalize W1.heap.size = r at *
  obtain ⟨s, hs⟩ : ∃ s, w.heap.size + 1 = s := ⟨_, rfl⟩
  obtain ⟨m, hm⟩ : ∃ m, w.heap.size = m := ⟨_, rfl⟩
  have S2' : Hid (StAt W2 s m []) := by rw [← hs, ← hm]; exact S2.out
  have hsm : Hid (w.heap.size ≤ s ∧ w.heap.size ≤ m) := by show _ ∧ _; omega
  rw [hs]
  clear hs hm S2 H1 K1 B2 HN
  go_loopw [7] (fun i wr => ∃ k : Nat, k ≤ min acs.length 40 ∧ i = nu k ∧ Hid (StAt wr s m (playD acs k)) ∧ Hid (∃ v, RfAt wr r v (playD acs k)) ∧ Hid (Below w.heap.size w wr)) (fun i _ => min acs.length 40 - (intOf i).toNat)
  case atStart => exact ⟨0, Nat.zero_le _, rfl, S2', ⟨_, F2.out⟩, BB⟩
  case round =>
    clear F2 BB S2'
    obtain ⟨k, hk, rfl, HS, HF, HB⟩ := hrel
    have hpb := play_bound acs.length k hk
    by_cases hc : (k : Int) < (acs.length : Int) ∧ (k : Int) < 40
    · have n1 : decide ((k : Int) < (acs.length : Int)) = true := decide_eq_true hc.1
      have n1' : decide (k < acs.length) = true := decide_eq_true (by omega)
      have n2 : decide ((k : Int) < 40) = true := decide_eq_true hc.2
      have hk1 := hid (hpb.2.1 hc)
      have hk40 := hpb.1
      have hlt : k < acs.length := hk1.out.2
      obtain ⟨b, off, rfl, vl, hcells, hok, hI⟩ := (H.out.kept HB.out) k hk1.out.2
      obtain ⟨v, hf⟩ := HF.out
      have SC := hid hcells
      have ZC : Hid ((Try.prog.info? 42).map (·.size) = some (acC (acs.getD k noAc) vl).length) := by
        show _ = _
        rw [acC_len hok.wf]
        exact sizeAc
      have HD := hid (do_any HS.out hf (acs.getD k noAc) hok vl hI)
      have hP : Hid (playD acs (k + 1) = doD (playD acs k) (acs.getD k noAc)) := rfl
      clear hpb hc hcells hf
      generalize doD (playD acs k) (acs.getD k noAc) = D at *
      generalize acs.getD k noAc = ac at *
      go_wp2_with (first
        | ((with_reducible refine wl_load 42 (.tmp 27) ?_ b (off + k * 39) ?_ ?_ (acC ac vl) _ SC.out Try.underlying42 ?_ ZC.out ?_); exact rfl; exact rfl; exact rfl; exact rfl)
        | (go_at_call 14; refine HD.out.mono ?_; rintro e W5 ⟨rfl, h5, f5, k5⟩; have H5 := hid h5; have F5 := hid f5; have K5 := hid k5; clear h5 f5 k5))
      go_roundw
      case rel => exact ⟨k + 1, hk1.out.1, by go_num, hid (by rw [hP.out]; exact H5.out), hid (by rw [hP.out]; exact F5.out), HB.out.trans (K5.out.below (by have := hsm.out; have := hr.out; simp; omega) HB.out.size)⟩
      case measure => have := hk1.out; simp [intOf]; omega
    · have HJ := hid (hpb.2.2 hc)
      obtain ⟨v, hf⟩ := HF.out
      have HF' := hid hf
      by_cases hc1 : (k : Int) < (acs.length : Int)
      · have n1 : decide ((k : Int) < (acs.length : Int)) = true := decide_eq_true hc1
        have n1' : decide (k < acs.length) = true := decide_eq_true (by omega)
        have n2 : decide ((k : Int) < 40) = false := decide_eq_false (fun h => hc ⟨hc1, h⟩)
        clear hpb hc hc1 hf
        go_wp2
        go_ret3
        rw [← HJ.out]
        exact ⟨s, m, r, v, rfl, HS.out, HF'.out, HB.out, hsm.out.1, hsm.out.2, hr.out⟩
      · have n1 : decide ((k : Int) < (acs.length : Int)) = false := decide_eq_false hc1
        have n1' : decide (k < acs.length) = false := decide_eq_false (by omega)
        clear hpb hc hc1 hf
        go_wp2
        go_ret3
        rw [← HJ.out]
        exact ⟨s, m, r, v, rfl, HS.out, HF'.out, HB.out, hsm.out.1, hsm.out.2, hr.out⟩

set_option maxHeartbeats 4000000 in
theorem same_any {w : World} {s m r : Nat} {v : Value} {L M : List Blo} (h : StAt w s m L) (h' : RfAt w r v M) (o : Int) (hown : ownL L o = ownL M o) : Calls Try.prog 10 #[ptr s 0, ptr r 0, nu o] w fun e w' => e = .returned (.bool true) ∧ Below w.heap.size w w' := by
  have HU := hid (used_any h o)
  have e1 : cntO M o = cntO L o := by unfold cntO; rw [hown]
  have e2 : bytO M o = bytO L o := by unfold bytO; rw [hown]
  have e3 : sortO M o = sortO L o := by unfold sortO numsO; rw [hown]
  have H := hid h
  have H' := hid h'
  have hcl := h.inv.cnt o
  have hl2 := sortO_len L o
  clear h h' hown
  go_enter Try.func10, Try.ntmps10
  go_wp2_with (first
    | (go_at_call 16; refine HU.out.mono ?_; rintro e W1 ⟨rfl, b1⟩; have B1 := hid b1; have HV := hid (rused_any (H'.out.kept b1) o); rw [e1, e2] at HV; have HN := hid (numbers_any (H.out.kept b1) o); clear b1)
    | (go_at_call 18; refine HV.out.mono ?_; rintro e w2 ⟨rfl, hw2⟩; subst w2)
    | (go_at_call 17; refine HN.out.mono ?_; rintro e W3 ⟨v3, rfl, i3, b3⟩; have B3 := hid b3; have I3 := hid i3; have HQ := hid (rnumbers_any ((H'.out.kept B1.out).kept b3) o); rw [e3] at HQ; clear i3 b3)
    | (go_at_call 20; refine HQ.out.mono ?_; rintro e W4 ⟨v4, rfl, i4, b4⟩; have B4 := hid b4; have HT := hid (rints_any (I3.out.kept b4) i4 (by omega)); rw [beq_self_eq_true] at HT; clear i4 b4)
    | (go_at_call 19; refine HT.out.mono ?_; rintro e W5 ⟨rfl, b5⟩; have B5 := hid b5; clear b5))
  go_ret
  exact ⟨rfl, below_two (below_two (below_two B1.out B3.out) B4.out) B5.out⟩
end Go.Proofs.Ytjpclmkkccffhaa.Bl
