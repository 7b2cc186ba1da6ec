/-
  The walk of BlobsApart: what is done to one owner's changes nothing of another one's.
-/
import Derived.Test.YtjpclmkkccffhaaBmd
namespace Go.Proofs.Ytjpclmkkccffhaa.Bl
open Go Go.RowKit Go.Maps
set_option maxRecDepth 100000

theorem own_many {b : Blo} {o : Int} (h : b.owner ≠ o) (L : List Blo) : ∀ n, ownL (manyD L b n) o = ownL L o
  | 0 => rfl
  | n + 1 => by rw [manyD, own_put (b := numB b (1000 + n)) h, own_many h L n]
theorem own_do {L : List Blo} {a : Ac} {o : Int} (h1 : a.owner ≠ o) (h2 : a.b.owner ≠ o) : ownL (doD L a) o = ownL L o := by
  unfold doD
  split
  · exact own_prune h1 _ _
  · split
    · rfl
    · split
      · exact own_many (b := cutB a.b) h2 L _
      · exact own_put h2
theorem zeroRf : (Try.prog.info? 45).map (·.size) = some 1 := by kernel_rfl

set_option maxHeartbeats 4000000 in
theorem apart_walk {w : World} {x : Option Addr} {cap : Nat} {acs : List Ac} (h : ActsAt w x acs) (a : Ac) (ha : a.Ok) (vL : Value) (hI : IntsC w vL a.l) (o : Int) : Calls Try.prog 5 #[.slice x acs.length cap, .agg (acC a vL).toArray, nu o] w fun e w' => e = .returned (.bool true) ∧ Below w.heap.size w w' := by
  have B0 := hid (below_a1 w (.cells (acC a vL).toArray 42))
  have R0 := hid (top_obj w (.cells (acC a vL).toArray 42))
  have HM := hid (mk_any (cap := cap) (h.kept B0.out))
  have HI := hid (hI.kept rfl B0.out)
  have hwf := ha.wf
  have ZC : Hid ((Try.prog.info? 42).map (·.size) = some (acC a vL).length) := by
    show _ = _
    rw [acC_len hwf]
    exact sizeAc
  clear h hI
  by_cases h1 : a.owner = o
  · have d1 : (a.owner == o) = true := by simp [h1]
    clear h1
    go_enter Try.func5, Try.ntmps5
    go_upto_region 1 with fail
    generalize w.alloc (.cells (acC a vL).toArray 42) = W0 at *
    go_wp2_with (first
      | (go_at_call 8; refine HM.out.mono ?_; rintro e W1 ⟨s, m, r, v, rfl, h1, f1, b1, -⟩; have B1 := hid b1; have HA := hid (awake_any W1); clear h1 f1 b1)
      | (go_at_call 9; refine HA.out.mono ?_; rintro e W2 ⟨rfl, b2⟩; have B2 := hid b2; have c1 := arow_o (row_kept R0.out (below_two B1.out b2)); have HA2 := hid (awake_any W2); clear b2 HA)
      | (go_at_call 9; refine HA2.out.mono ?_; rintro e W3 ⟨rfl, b3⟩; have B3 := hid b3; clear b3))
    go_ret
    exact ⟨rfl, below_two (below_two (below_two B0.out B1.out) B2.out) B3.out⟩
  · have d1 : (a.owner == o) = false := by simp [h1]
    by_cases h2 : a.b.owner = o
    · have d2 : (a.b.owner == o) = true := by simp [h2]
      clear h1 h2
      go_enter Try.func5, Try.ntmps5
      go_upto_region 1 with fail
      generalize w.alloc (.cells (acC a vL).toArray 42) = W0 at *
      go_wp2_with (first
        | (go_at_call 8; refine HM.out.mono ?_; rintro e W1 ⟨s, m, r, v, rfl, h1, f1, b1, -⟩; have B1 := hid b1; have HA := hid (awake_any W1); clear h1 f1 b1)
        | (go_at_call 9; refine HA.out.mono ?_; rintro e W2 ⟨rfl, b2⟩; have B2 := hid b2; have c1 := arow_o (row_kept R0.out (below_two B1.out b2)); have c3 : W2.cell? ⟨w.heap.size, 3, none⟩ = some (nu a.b.owner) := arow_b (row_kept R0.out (below_two B1.out b2)) 0 _ rfl; have HA2 := hid (awake_any W2); clear b2 HA)
        | (go_at_call 9; refine HA2.out.mono ?_; rintro e W3 ⟨rfl, b3⟩; have B3 := hid b3; clear b3))
      go_ret
      exact ⟨rfl, below_two (below_two (below_two B0.out B1.out) B2.out) B3.out⟩
    · have d2 : (a.b.owner == o) = false := by simp [h2]
      have HO := hid (fun L => own_do (L := L) h1 h2)
      clear h1 h2
      go_enter Try.func5, Try.ntmps5
      go_upto_region 1 with fail
      generalize w.alloc (.cells (acC a vL).toArray 42) = W0 at *
      go_upto_region 5 with (first
        | (go_at_call 8; refine HM.out.mono ?_; rintro e W1 ⟨s, m, r, v, rfl, h1, f1, b1, hs, hm, hr⟩; obtain ⟨va, vc, rfl⟩ := f1.row.nil_val; have H1 := hid h1; have F1 := hid f1; have B1 := hid b1; have HX : Hid (W0.heap.size ≤ s ∧ W0.heap.size ≤ m ∧ W0.heap.size ≤ r) := ⟨hs, hm, hr⟩; have HA := hid (awake_any W1); clear h1 f1 b1 hs hm hr)
        | (go_at_call 9; refine HA.out.mono ?_; rintro e W2 ⟨rfl, b2⟩; have B2 := hid b2; have R2 := hid (row_kept R0.out (below_two B1.out b2)); have c1 := arow_o R2.out; have c3 : W2.cell? ⟨w.heap.size, 3, none⟩ = some (nu a.b.owner) := arow_b R2.out 0 _ rfl; have q0 := (F1.out.kept b2).cell; clear b2))
      have B3 := hid (below_a1 W2 (.cells #[.slice va (playD acs (min acs.length 40)).length vc] 45))
      have Y3 : Hid (RfAt (W2.alloc (.cells #[.slice va (playD acs (min acs.length 40)).length vc] 45)) W2.heap.size (.slice va (playD acs (min acs.length 40)).length vc) (playD acs (min acs.length 40))) := ⟨top_obj W2 _, own_kept (own_kept F1.out.row B2.out) B3.out, F1.out.inv⟩
      have B13 := hid (below_two B2.out B3.out)
      have H3 := hid (H1.out.kept B13.out)
      have F3 := hid (F1.out.kept B13.out)
      have R3 := hid (row_kept R2.out B3.out)
      have SC : Hid (∀ c y, (acC a vL)[c]? = some y → (W2.alloc (.cells #[.slice va (playD acs (min acs.length 40)).length vc] 45)).cell? ⟨w.heap.size, 0 + c, none⟩ = some y) := row_seg (A := []) (C := []) R3.out (by simp) rfl
      have hI3 := hid (HI.out.kept rfl (below_two B1.out B13.out))
      have hyr : Hid (W2.heap.size ≠ m ∧ W2.heap.size ≠ r) := by
        have h1 := (H1.out.kept B2.out).map.lt
        have h2 := row_lt (F1.out.kept B2.out).obj
        show _ ∧ _
        omega
      generalize W2.alloc (.cells #[.slice va (playD acs (min acs.length 40)).length vc] 45) = W3 at *
      generalize W2.heap.size = ry at *
      have HD := hid (do_any H3.out F3.out a ha vL hI3.out)
      generalize playD acs (min acs.length 40) = L at *
      clear q0 c1 c3 HA HM H1 F1
      go_wp2_with (first
        | ((with_reducible refine wl_load 42 (.tmp 4) ?_ w.heap.size 0 ?_ ?_ (acC a vL) _ SC.out Try.underlying42 ?_ ZC.out ?_); exact rfl; exact rfl; exact rfl; exact rfl)
        | (go_at_call 14; refine HD.out.mono ?_; rintro e W5 ⟨rfl, h5, -, k5⟩; have K5 := hid k5; have Y5 := hid (Y3.out.kp k5 (by simpa using hyr.out) (fun q hq => by have n1 := (both_ne H3.out Y3.out).2.2 q hq; have n2 := F3.out.ne q hq; simp; exact ⟨n1.1, n2⟩)); have HS := hid (same_any h5 Y5.out o (HO.out L)); clear h5 k5)
        | (go_at_call 10; refine HS.out.mono ?_; rintro e W6 ⟨rfl, b6⟩; have B6 := hid b6; clear b6))
      go_ret
      have hx := HX.out
      have hB5 : Below W0.heap.size W3 W5 := K5.out.below (by simp; omega) (Nat.le_trans B1.out.size B13.out.size)
      have hB0 := B0.out.size
      exact ⟨rfl, B0.out.trans ((B1.out.mono hB0).trans ((B13.out.mono (Nat.le_trans hB0 B1.out.size)).trans ((hB5.mono hB0).trans (B6.out.mono (Nat.le_trans hB0 (Nat.le_trans B1.out.size (Nat.le_trans B13.out.size K5.out.size)))))))⟩
end Go.Proofs.Ytjpclmkkccffhaa.Bl
