/-
  What comes at any rate.
-/
import Derived.Test.YtjpclmkkccffhaaBtw
namespace Go.Proofs.Ytjpclmkkccffhaa.Bl
open Go Go.RowKit Go.Maps
set_option maxRecDepth 100000

def b1 : Blo := ⟨1, 5, [97, 98, 99], List.replicate 32 0⟩
def b2 : Blo := ⟨1, 5, [], List.replicate 32 0⟩
theorem b1_wf : b1.Wf := rfl
theorem b2_wf : b2.Wf := rfl
theorem aw1 : putE [] b1 = 0 ∧ putD [] b1 = [b1] := ⟨by decide, rfl⟩
theorem aw2 : putE [b1] b1 = 0 ∧ putD [b1] b1 = [b1] := ⟨by decide, rfl⟩
theorem aw3 : putE [b1] b2 = 10 ∧ putD [b1] b2 = [b1] := ⟨by decide, rfl⟩
theorem aw4 : getB [b1] 1 5 = b1 ∧ getE [b1] 1 5 = 0 := ⟨rfl, by decide⟩
theorem aw5 : cntO [b1] 1 = 1 ∧ bytO [b1] 1 = 3 := ⟨by decide, by decide⟩
theorem aw6 : pruneN [b1] 1 [5, 6] = 1 := by decide
theorem bl1 (W : World) : (Instr.build 33 #[(0, nu 1), (1, nu 5), (2, .string ⟨#[97, 98, 99]⟩)]).run Try.prog W = .ok (.agg (bloC b1).toArray) W := by kernel_rfl
theorem bl2 (W : World) : (Instr.build 33 #[(0, nu 1), (1, nu 5)]).run Try.prog W = .ok (.agg (bloC b2).toArray) W := by kernel_rfl
section
variable {P : Program} {ops : Array Oper} {rest : List Oper} {o : Oper} {a : Act} {w : World} {Q : Exit → Act → World → Prop}
theorem wl_buildC (ty : TypeId) (parts : Array (Nat × Operand)) (vs : Array (Nat × Value)) (ho : o.op = .build ty parts) (hw : Region.wanted o (yielded ops a.tmps) = true) (hv : (parts.map fun q => (q.1, a.eval q.2)) = vs) (z : Array Value) (hr : (Instr.build ty vs).run P w = .ok (.agg z) w)
    (h : wpList P ops Q rest (a.put o.dst (.agg z)) w) : wpList P ops Q (o :: rest) a w := by
  refine BigFrame.wpList_want hw fun K hK => ?_
  have h' := hK _ _ h
  unfold Oper.wp execOp
  simp only [ho]
  have e : (parts.map fun x => (x.fst, a.eval x.snd)) = vs := hv
  simp only [e, Sem.run_bind, hr, Result.andThen_ok, Sem.run_pure]
  exact h'
end

set_option maxHeartbeats 4000000 in
theorem awake_any (w : World) : Calls Try.prog 9 #[] w fun e w' => e = .returned (.bool true) ∧ Below w.heap.size w w' := by
  have HN := hid (new_any w)
  have Z1 := hid (sizeOf_blo b1_wf)
  have E1 := hid (fun W => equal_blo W b1 b1 b1_wf b1_wf)
  rw [sameB_self] at E1
  go_enter Try.func9, Try.ntmps9
  go_upto_region 2 with (go_at_call 15; refine HN.out.mono ?_; rintro e W1 ⟨rfl, h1, k1⟩; have H1 := hid h1; have K1 := hid k1; clear h1 k1)
  generalize w.heap.size + 1 = s at *
  obtain ⟨m, hm⟩ : ∃ m, w.heap.size = m := ⟨_, rfl⟩
  have H1' : Hid (StAt W1 s m []) := by rw [← hm]; exact H1.out
  have HM : Hid (w.heap.size ≤ m) := by show _ ≤ _; omega
  clear hm H1
  go_upto_region 3 with (first
    | ((with_reducible refine wl_buildC 33 _ #[(0, nu 1), (1, nu 5), (2, .string ⟨#[97, 98, 99]⟩)] ?_ ?_ ?_ (bloC b1).toArray (bl1 _) ?_); exact rfl; exact rfl; exact rfl)
    | ((with_reducible refine wl_allocK 33 ?_ ?_ (bloC zeroB).toArray zeroBl ?_); exact rfl; exact rfl; intro W2 r2 b2' s2; have R2 := hid r2; have B2 := hid b2'; clear r2 b2' s2)
    | ((with_reducible refine wl_putK 33 (.tmp 2) (.tmp 8) ?_ ?_ W1.heap.size ?_ ?_ (bloC b1) (bloC zeroB) ?_ 33 R2.out ((bloC_len zeroB_wf).trans (bloC_len b1_wf).symm) (one_blo _) Z1.out ?_); exact rfl; exact rfl; exact rfl; exact rfl; exact rfl; intro W3 r3 k3 s3; have R3 := hid r3; have K3 := hid k3; clear r3 k3 s3))
  have H3 : Hid (StAt W3 s m []) := (H1'.out.kept B2.out).kp K3.out (by have := row_lt H1'.out.obj; simp; omega) (by have := H1'.out.map.lt; simp; omega)
  have B3 : Hid (Below w.heap.size w W3) := K1.out.trans ((B2.out.mono K1.out.size).trans (K3.out.below (by simp; exact K1.out.size) (Nat.le_trans K1.out.size B2.out.size)))
  have G3 : Hid (W1.heap.size ≠ m) := by have := H1'.out.map.lt; show _ ≠ _; omega
  generalize W1.heap.size = g at *
  have HP1 := hid (put_any H3.out b1 b1_wf)
  rw [aw1.1, aw1.2] at HP1
  clear H1' R2 B2 K3 K1
  go_upto_region 5 with (first
    | ((with_reducible refine wl_load 33 (.tmp 2) ?_ g 0 ?_ ?_ (bloC b1) _ (brow_all R4.out) Try.underlying33 ?_ Z1.out ?_); exact rfl; exact rfl; exact rfl; exact rfl)
    | ((with_reducible refine wl_load 33 (.tmp 2) ?_ g 0 ?_ ?_ (bloC b1) _ (brow_all R3.out) Try.underlying33 ?_ Z1.out ?_); exact rfl; exact rfl; exact rfl; exact rfl)
    | ((with_reducible refine wl_buildC 33 _ #[(0, nu 1), (1, nu 5)] ?_ ?_ ?_ (bloC b2).toArray (bl2 _) ?_); exact rfl; exact rfl; exact rfl)
    | (go_at_call 11; refine HP3.out.mono ?_; rintro e W6 ⟨rfl, h6, k6⟩; have H6 := hid h6; have K6 := hid k6; have R6 := hid (k6.row R5.out (by simpa using G3.out)); clear h6 k6)
    | (go_at_call 11; refine HP2.out.mono ?_; rintro e W5 ⟨rfl, h5, k5⟩; have H5 := hid h5; have K5 := hid k5; have R5 := hid (k5.row R4.out (by simpa using G3.out)); have HP3 := hid (put_any H5.out b2 b2_wf); rw [aw3.1, aw3.2] at HP3; clear h5 k5)
    | (go_at_call 11; refine HP1.out.mono ?_; rintro e W4 ⟨rfl, h4, k4⟩; have H4 := hid h4; have K4 := hid k4; have R4 := hid (k4.row R3.out (by simpa using G3.out)); have HP2 := hid (put_any H4.out b1 b1_wf); rw [aw2.1, aw2.2] at HP2; clear h4 k4))
  have B6 : Hid (Below w.heap.size w W6) := B3.out.trans ((K4.out.below (by simpa using HM.out) B3.out.size).trans ((K5.out.below (by simpa using HM.out) (Nat.le_trans B3.out.size K4.out.size)).trans (K6.out.below (by simpa using HM.out) (Nat.le_trans B3.out.size (Nat.le_trans K4.out.size K5.out.size)))))
  have HG := hid (get_any H6.out 1 5 (by unfold I64; omega) (by unfold I64; omega))
  rw [aw4.1, aw4.2] at HG
  clear H3 H4 H5 HP1 HP2 HP3 R3 R4 R5 K4 K5 K6 B3
  go_wp2_with (first
    | (go_at_call 12; refine HG.out.mono ?_; rintro e W7 ⟨rfl, b7⟩; have B7 := hid b7; clear b7)
    | ((with_reducible refine wl_allocK 33 ?_ ?_ (bloC zeroB).toArray zeroBl ?_); exact rfl; exact rfl; intro W8 r8 b8 s8; have R8 := hid r8; have B8 := hid b8; clear r8 b8 s8)
    | ((with_reducible refine wl_putK 33 (.tmp 3) (.tmp 32) ?_ ?_ W7.heap.size ?_ ?_ (bloC b1) (bloC zeroB) ?_ 33 R8.out ((bloC_len zeroB_wf).trans (bloC_len b1_wf).symm) (one_blo _) Z1.out ?_); exact rfl; exact rfl; exact rfl; exact rfl; exact rfl; intro W9 r9 k9 s9; have R9 := hid r9; have B9 := hid (B7.out.trans ((B8.out.mono B7.out.size).trans (k9.below (by simp; exact B7.out.size) (Nat.le_trans B7.out.size B8.out.size)))); have HU := hid (used_any (H6.out.kept B9.out) 1); rw [aw5.1, aw5.2] at HU; clear r9 k9 s9)
    | (go_at_call 16; refine HU.out.mono ?_; rintro e W10 ⟨rfl, b10⟩; have B10 := hid (B9.out.trans (b10.mono B9.out.size)); have R10 := hid (row_kept R9.out b10); have G10 := hid (row_kept (row_kept R6.out B9.out) b10); have B11 := hid (below_a1 W10 (.cells #[nu 5, nu 6] 3)); have HPr := hid (prune_any ((H6.out.kept B10.out).kept B11.out) 1 (.slice (some ⟨W10.heap.size, 0, none⟩) 2 2) [5, 6] (by unfold I64; omega) (by intro k hk; simp at hk; rcases hk with rfl | rfl <;> (unfold I64; omega)) (by simp) ⟨_, _, rfl, fun _ => ⟨W10.heap.size, 0, rfl, fun j hj => by rw [cell_of_row _ _ _ _ _ _ (top_obj W10 (.cells #[nu 5, nu 6] 3))]; match j, hj with | 0, _ => rfl | 1, _ => rfl⟩⟩); rw [aw6] at HPr; clear b10)
    | ((with_reducible refine wl_load 33 (.tmp 3) ?_ W7.heap.size 0 ?_ ?_ (bloC b1) _ (brow_all R10.out) Try.underlying33 ?_ Z1.out ?_); exact rfl; exact rfl; exact rfl; exact rfl)
    | ((with_reducible refine wl_load 33 (.tmp 2) ?_ g 0 ?_ ?_ (bloC b1) _ (brow_all G10.out) Try.underlying33 ?_ Z1.out ?_); exact rfl; exact rfl; exact rfl; exact rfl)
    | ((with_reducible refine wl_eql ?_ 33 33 (.tmp 39) (.tmp 40) ?_ (bloC b1).toArray (bloC b1).toArray ?_ ?_ guardBlo true E1.out ?_); exact rfl; exact rfl; exact rfl; exact rfl)
    | (go_at_call 13; refine HPr.out.mono ?_; rintro e W12 ⟨rfl, -, k12⟩; have K12 := hid k12; clear k12))
  go_ret
  exact ⟨rfl, B6.out.trans ((B10.out.mono B6.out.size).trans ((B11.out.mono (Nat.le_trans B6.out.size B10.out.size)).trans (K12.out.below (by simpa using HM.out) (Nat.le_trans B6.out.size (Nat.le_trans B10.out.size B11.out.size)))))⟩
end Go.Proofs.Ytjpclmkkccffhaa.Bl
