/-
  The walk of KnownDoes: every call is answered as the reference answers it.
-/
import Derived.Test.YtfigbgpfkhcpcaaWkn
namespace Go.Proofs.Ytfigbgpfkhcpcaa.Kn
open Go Go.RowKit
set_option maxRecDepth 100000

set_option maxHeartbeats 16000000 in
theorem does_bad {w : World} (n me ot : Int) {ad : Option Addr} {len cap : Nat}
    (HM : Hid (∀ W, Below w.heap.size w W → Calls Try.prog 9 #[nu n, nu me, .slice ad len cap] W fun e w' => e = .returned (.tuple #[.pointer none, .pointer none, .bool true]) ∧ Below W.heap.size W w'))
    (HA : Hid (∀ W, Calls Try.prog 10 #[] W fun e w' => e = .returned (.bool true) ∧ Below W.heap.size W w')) :
    Calls Try.prog 3 #[.agg #[nu n, nu me, .slice ad len cap, nu ot]] w fun e w' => e = .returned (.bool true) ∧ Below w.heap.size w w' := by
  have B0 := hid (below_a1 w (.cells #[nu n, nu me, .slice ad len cap, nu ot] 24))
  have R0 := hid (top_obj w (.cells #[nu n, nu me, .slice ad len cap, nu ot] 24))
  go_enter Try.func3, Try.ntmps3
  go_upto_region 1 with fail
  generalize w.alloc (.cells #[nu n, nu me, .slice ad len cap, nu ot] 24) = W0 at *
  have p0 : ∀ dd os, (Sort.grow (redrawn W0 dd) os).cell? ⟨w.heap.size, 0, none⟩ = some (nu n) := fun dd os => cell_regrown (row_zeroY (cs := [nu n, nu me, .slice ad len cap, nu ot]) R0.out 0 _ rfl) _ _
  have p1 : ∀ dd os, (Sort.grow (redrawn W0 dd) os).cell? ⟨w.heap.size, 1, none⟩ = some (nu me) := fun dd os => cell_regrown (row_zeroY (cs := [nu n, nu me, .slice ad len cap, nu ot]) R0.out 1 _ rfl) _ _
  have p2 : ∀ dd os, (Sort.grow (redrawn W0 dd) os).cell? ⟨w.heap.size, 2, none⟩ = some (.slice ad len cap) := fun dd os => cell_regrown (row_zeroY (cs := [nu n, nu me, .slice ad len cap, nu ot]) R0.out 2 _ rfl) _ _
  have p3 : ∀ dd os, (Sort.grow (redrawn W0 dd) os).cell? ⟨w.heap.size, 3, none⟩ = some (nu ot) := fun dd os => cell_regrown (row_zeroY (cs := [nu n, nu me, .slice ad len cap, nu ot]) R0.out 3 _ rfl) _ _
  refine wp_region_quiet_below (by kernel_rfl) (by kernel_rfl) ?_
  iterate 12 (first | go_big_quiet_step (fail) | quiet_step (fail))
  refine wpQuiet_nil ?_
  intro _ hw'
  obtain ⟨⟨dq, osq⟩, hw''⟩ := hw'
  subst hw''
  have HBq := hid (below_two B0.out (below_regrown W0 dq osq))
  generalize Sort.grow (redrawn W0 dq) osq = W1 at *
  clear p0 p1 p2 p3 B0 R0
  go_wp2_with fail
  refine (HM.out _ HBq.out).mono ?_
  rintro e W2 ⟨rfl, b2⟩
  have B2 := hid (below_two HBq.out b2)
  clear b2 HM
  go_wp2_with fail
  refine (HA.out _).mono ?_
  rintro e W3 ⟨rfl, b3⟩
  have B3 := hid (below_twoY B2.out b3 B2.out.size)
  clear b3
  go_wp2_with fail
  refine (HA.out _).mono ?_
  rintro e W4 ⟨rfl, b4⟩
  have B4 := hid (below_twoY B3.out b4 B3.out.size)
  clear b4
  go_wp2
  go_ret
  exact ⟨rfl, B4.out⟩

set_option maxHeartbeats 16000000 in
theorem does_core {w : World} (n me ot : Int) {ad : Option Addr} {len cap : Nat} {y : Ln} (hy : y.Wf) {S : Nat → Nat → World → Prop} {wd ow : Int → List UInt8} {SL : List Int} {CN SN : Int} {D0 : List Value}
    (HM : Hid (∀ W, Below w.heap.size w W → Calls Try.prog 9 #[nu n, nu me, .slice ad len cap] W fun e w' => ∃ p q, e = .returned (.tuple #[pt p 0, pt q 0, .bool true]) ∧ S p q w' ∧ Below W.heap.size W w'))
    (HA : Hid (∀ W, Calls Try.prog 10 #[] W fun e w' => e = .returned (.bool true) ∧ Below W.heap.size W w'))
    (HK : Hid (∀ p q W W', S p q W → Below W.heap.size W W' → S p q W'))
    (HW : Hid (∀ p q W c, S p q W → Calls Try.prog 11 #[pt p 0, nu c] W fun e w' => e = .returned (st (wd c)) ∧ Below W.heap.size W w'))
    (HRW : Hid (∀ p q W c, S p q W → Calls Try.prog 12 #[pt q 0, nu c] W fun e w' => e = .returned (st (wd c)) ∧ Below W.heap.size W w'))
    (HO : Hid (∀ p q W c, S p q W → Calls Try.prog 13 #[pt p 0, nu c] W fun e w' => e = .returned (st (ow c)) ∧ Below W.heap.size W w'))
    (HRO : Hid (∀ p q W c, S p q W → Calls Try.prog 14 #[pt q 0, nu c] W fun e w' => e = .returned (st (ow c)) ∧ Below W.heap.size W w'))
    (HL : Hid (∀ p q W, S p q W → Calls Try.prog 15 #[pt p 0] W fun e w' => e = .returned (.tuple #[st y.view, nu y.byc, .agg (dg y.tag).toArray]) ∧ Below W.heap.size W w'))
    (HRL : Hid (∀ p q W, S p q W → Calls Try.prog 16 #[pt q 0] W fun e w' => e = .returned (.agg (lnC y).toArray) ∧ Below W.heap.size W w'))
    (HS : Hid (∀ p q W, S p q W → Calls Try.prog 18 #[pt p 0] W fun e w' => ∃ u, e = .returned u ∧ IntsAt w' u SL ∧ Below W.heap.size W w'))
    (HRS : Hid (∀ p q W, S p q W → Calls Try.prog 19 #[pt q 0] W fun e w' => ∃ u, e = .returned u ∧ IntsAt w' u SL ∧ Below W.heap.size W w'))
    (HI : Hid (∀ W u u', IntsAt W u SL → IntsAt W u' SL → Calls Try.prog 17 #[u, u'] W fun e w' => e = .returned (.bool true) ∧ Below W.heap.size W w'))
    (HC : Hid (∀ p q W, S p q W → Calls Try.prog 20 #[pt p 0] W fun e w' => e = .returned (nu CN) ∧ Below W.heap.size W w'))
    (HRC : Hid (∀ p q W, S p q W → Calls Try.prog 21 #[pt q 0] W fun e w' => e = .returned (nu CN) ∧ Below W.heap.size W w'))
    (HE : Hid (∀ p q W, S p q W → Calls Try.prog 22 #[pt p 0] W fun e w' => e = .returned (nu SN) ∧ Below W.heap.size W w'))
    (HRE : Hid (∀ p q W, S p q W → Calls Try.prog 23 #[pt q 0] W fun e w' => e = .returned (nu SN) ∧ Below W.heap.size W w'))
    (hD0 : dg (List.replicate 32 0) = D0) :
    Calls Try.prog 3 #[.agg #[nu n, nu me, .slice ad len cap, nu ot]] w fun e w' => e = .returned (.bool true) ∧ Below w.heap.size w w' := by
  have B0 := hid (below_a1 w (.cells #[nu n, nu me, .slice ad len cap, nu ot] 24))
  have R0 := hid (top_obj w (.cells #[nu n, nu me, .slice ad len cap, nu ot] 24))
  have hz := zeroDg
  have zl := zeroBl
  have ZY := hid (sizeOf_ln hy)
  have ZD := hid (sizeDg hy)
  have OD := hid (one_dg y.tag)
  have OY := hid (one_ln y)
  have LD : Hid (D0.length = (dg y.tag).length) := hid (by rw [← hD0, dg_len, dg_len, hy, List.length_replicate])
  have LY : Hid ((lnC zeroB).length = (lnC y).length) := hid (by rw [lnC_len hy]; rfl)
  have EQ := hid (fun W => equal_dig W y.tag y.tag hy hy)
  rw [beq_self_eq_true] at EQ
  rw [hD0] at hz
  clear hD0
  go_enter Try.func3, Try.ntmps3
  go_upto_region 1 with fail
  generalize w.alloc (.cells #[nu n, nu me, .slice ad len cap, nu ot] 24) = W0 at *
  have p0 : ∀ dd os, (Sort.grow (redrawn W0 dd) os).cell? ⟨w.heap.size, 0, none⟩ = some (nu n) := fun dd os => cell_regrown (row_zeroY (cs := [nu n, nu me, .slice ad len cap, nu ot]) R0.out 0 _ rfl) _ _
  have p1 : ∀ dd os, (Sort.grow (redrawn W0 dd) os).cell? ⟨w.heap.size, 1, none⟩ = some (nu me) := fun dd os => cell_regrown (row_zeroY (cs := [nu n, nu me, .slice ad len cap, nu ot]) R0.out 1 _ rfl) _ _
  have p2 : ∀ dd os, (Sort.grow (redrawn W0 dd) os).cell? ⟨w.heap.size, 2, none⟩ = some (.slice ad len cap) := fun dd os => cell_regrown (row_zeroY (cs := [nu n, nu me, .slice ad len cap, nu ot]) R0.out 2 _ rfl) _ _
  have p3 : ∀ dd os, (Sort.grow (redrawn W0 dd) os).cell? ⟨w.heap.size, 3, none⟩ = some (nu ot) := fun dd os => cell_regrown (row_zeroY (cs := [nu n, nu me, .slice ad len cap, nu ot]) R0.out 3 _ rfl) _ _
  refine wp_region_quiet_below (by kernel_rfl) (by kernel_rfl) ?_
  iterate 12 (first | go_big_quiet_step (fail) | quiet_step (fail))
  refine wpQuiet_nil ?_
  intro _ hw'
  obtain ⟨⟨dq, osq⟩, hw''⟩ := hw'
  subst hw''
  have HBq := hid (below_two B0.out (below_regrown W0 dq osq))
  generalize Sort.grow (redrawn W0 dq) osq = W1 at *
  clear p0 p1 p2 p3 B0 R0
  go_wp2_with fail
  refine (HM.out _ HBq.out).mono ?_
  rintro e W2 ⟨p, q, rfl, s2, b2⟩
  have B2 := hid (below_two HBq.out b2)
  have S2' := hid s2
  clear b2 HM s2
  go_wp2_with fail
  refine (HA.out _).mono ?_
  rintro e W3 ⟨rfl, b3⟩
  have B3 := hid (below_twoY B2.out b3 B2.out.size)
  have S3 := hid (HK.out _ _ _ _ S2'.out b3)
  clear b3 S2' B2 HA
  go_wp2
  go_loopw [10] (fun i wr => ∃ z : Int, -1 ≤ z ∧ z ≤ 9 ∧ i = nu z ∧ Hid (S p q wr) ∧ Hid (Below w.heap.size w wr)) (fun i _ => (9 - intOf i).toNat)
  case atStart => exact ⟨-1, by omega, by omega, rfl, S3, B3⟩
  case round =>
    obtain ⟨z, hz1, hz9, rfl, HS', HBl⟩ := hrel
    by_cases hlt : z < 9
    · have d1 : decide (z < 9) = true := decide_eq_true hlt
      go_wp2_with fail
      refine (HW.out _ _ _ _ HS'.out).mono ?_
      rintro e W4 ⟨rfl, b4⟩
      have S4 := hid (HK.out _ _ _ _ HS'.out b4)
      have B4 := hid (below_twoY HBl.out b4 HBl.out.size)
      clear b4
      go_wp2_with fail
      refine (HRW.out _ _ _ _ S4.out).mono ?_
      rintro e W5 ⟨rfl, b5⟩
      have S5 := hid (HK.out _ _ _ _ S4.out b5)
      have B5 := hid (below_twoY B4.out b5 B4.out.size)
      clear b5 S4 B4
      go_wp2_with fail
      refine (HO.out _ _ _ _ S5.out).mono ?_
      rintro e W6 ⟨rfl, b6⟩
      have S6 := hid (HK.out _ _ _ _ S5.out b6)
      have B6 := hid (below_twoY B5.out b6 B5.out.size)
      clear b6 S5 B5
      go_wp2_with fail
      refine (HRO.out _ _ _ _ S6.out).mono ?_
      rintro e W7 ⟨rfl, b7⟩
      have S7 := hid (HK.out _ _ _ _ S6.out b7)
      have B7 := hid (below_twoY B6.out b7 B6.out.size)
      clear b7 S6 B6
      have hz2 : I64 (z + 1) := by unfold I64; omega
      go_wp2
      exact ⟨⟨z + 1, by omega, by omega, by go_num, S7, B7⟩, by simp [intOf]; omega⟩
    · have d1 : decide (z < 9) = false := decide_eq_false hlt
      clear hz1 hz9 hlt S3 B3
      go_wp2_with fail
      refine (HL.out _ _ _ HS'.out).mono ?_
      rintro e W4 ⟨rfl, b4⟩
      have S4 := hid (HK.out _ _ _ _ HS'.out b4)
      have B4 := hid (below_twoY HBl.out b4 HBl.out.size)
      clear b4 HBl HS'
      obtain ⟨X, hX⟩ : ∃ X, W4.heap.size = X := ⟨_, rfl⟩
      have T5 := hid (top_obj W4 (.cells D0.toArray 32))
      have B5 := hid (below_a1 W4 (.cells D0.toArray 32))
      rw [hX] at T5
      have HXe := hid hX
      clear hX
      go_upto_region 11 with (first
        | ((with_reducible refine wl_alloc 32 ?_ ?_ D0.toArray hz ?_); exact rfl; exact rfl; rw [HXe.out]; try simp only [Act.put, List.setIfInBounds_toArray, List.set_cons_zero, List.set_cons_succ])
        | ((with_reducible refine wl_put 32 (.tmp 13) (.tmp 70) ?_ ?_ X 0 ?_ ?_ [] (dg y.tag) D0 [] ?_ 32 (row_nilY T5.out) rfl LD.out OD.out ZD.out ?_); exact rfl; exact rfl; exact rfl; exact rfl; exact rfl; intro W6 r6 b6))
      have b6' := b6.below B5.out (by rw [HXe.out]; exact Nat.le_refl _)
      have S6 := hid (HK.out _ _ _ _ S4.out b6')
      have B6 := hid (below_twoY B4.out b6' B4.out.size)
      have R6 : Hid (W6.heap[X]? = some (.cells (dg y.tag).toArray 32)) := by
        show _ = _
        simpa using r6
      clear r6 b6 b6' T5 B5 S4 B4 HXe
      go_wp2_with fail
      refine (HRL.out _ _ _ S6.out).mono ?_
      rintro e W7 ⟨rfl, b7⟩
      have S7 := hid (HK.out _ _ _ _ S6.out b7)
      have B7 := hid (below_twoY B6.out b7 B6.out.size)
      have R7 := hid (row_kept R6.out b7)
      clear b7 S6 B6 R6
      obtain ⟨Z, hZ⟩ : ∃ Z, W7.heap.size = Z := ⟨_, rfl⟩
      have T8 := hid (top_obj W7 (.cells (lnC zeroB).toArray 36))
      have B8 := hid (below_a1 W7 (.cells (lnC zeroB).toArray 36))
      rw [hZ] at T8
      have HZe := hid hZ
      clear hZ
      go_upto_region 12 with (first
        | ((with_reducible refine wl_alloc 36 ?_ ?_ (lnC zeroB).toArray zl ?_); exact rfl; exact rfl; rw [HZe.out]; try simp only [Act.put, List.setIfInBounds_toArray, List.set_cons_zero, List.set_cons_succ])
        | ((with_reducible refine wl_put 36 (.tmp 14) (.tmp 72) ?_ ?_ Z 0 ?_ ?_ [] (lnC y) (lnC zeroB) [] ?_ 36 (row_nilY T8.out) rfl LY.out OY.out ZY.out ?_); exact rfl; exact rfl; exact rfl; exact rfl; exact rfl; intro W9 r9 b9))
      have b9' := b9.below B8.out (by rw [HZe.out]; exact Nat.le_refl _)
      have S9 := hid (HK.out _ _ _ _ S7.out b9')
      have B9 := hid (below_twoY B7.out b9' B7.out.size)
      have RX9 := hid (row_kept R7.out b9')
      have RZ9 : Hid (W9.heap[Z]? = some (.cells (lnC y).toArray 36)) := by
        show _ = _
        simpa using r9
      clear r9 b9 b9' T8 B8 S7 B7 HZe R7
      have CD := hid (fun W (hb : Below W9.heap.size W9 W) => fun j c hc => row_zeroY (row_kept RX9.out hb) j c hc)
      have CY := hid (fun W (hb : Below W9.heap.size W9 W) => fun j c hc => lrow_t (row_kept RZ9.out hb) j c hc)
      have c1 := lrow_n RZ9.out
      have c2 := lrow_c RZ9.out
      have b9 := hid (Below.refl W9.heap.size W9)
      clear RX9 RZ9
      go_wp2_with (first
        | ((with_reducible refine wl_load 32 (.tmp 13) ?_ X 0 ?_ ?_ (dg y.tag) _ (CD.out _ b9.out) Try.underlying32 ?_ ZD.out ?_); exact rfl; exact rfl; exact rfl; exact rfl)
        | ((with_reducible refine wl_load 32 (.tmp 85) ?_ Z 3 ?_ ?_ (dg y.tag) _ (CY.out _ b9.out) Try.underlying32 ?_ ZD.out ?_); exact rfl; exact rfl; exact rfl; exact rfl)
        | ((with_reducible refine wl_eql ?_ 32 32 (.tmp 84) (.tmp 86) ?_ (dg y.tag).toArray (dg y.tag).toArray ?_ ?_ guardDig true EQ.out ?_); exact rfl; exact rfl; exact rfl; exact rfl))
      clear CD CY c1 c2 b9
      refine (HS.out _ _ _ S9.out).mono ?_
      rintro e W10 ⟨u1, rfl, i10, b10⟩
      have S10 := hid (HK.out _ _ _ _ S9.out b10)
      have B10 := hid (below_twoY B9.out b10 B9.out.size)
      have I10 := hid i10
      clear b10 i10 S9 B9
      go_wp2_with fail
      refine (HRS.out _ _ _ S10.out).mono ?_
      rintro e W11 ⟨u2, rfl, i11, b11⟩
      have S11 := hid (HK.out _ _ _ _ S10.out b11)
      have B11 := hid (below_twoY B10.out b11 B10.out.size)
      have HI11 := hid (HI.out W11 u1 u2 (I10.out.kept b11) i11)
      clear b11 i11 S10 B10 I10
      go_wp2_with fail
      refine HI11.out.mono ?_
      rintro e V0 ⟨rfl, b12⟩
      have T0 := hid (HK.out _ _ _ _ S11.out b12)
      have C0 := hid (below_twoY B11.out b12 B11.out.size)
      clear b12 S11 B11 HI11
      go_wp2_with fail
      refine (HC.out _ _ _ T0.out).mono ?_
      rintro e V1 ⟨rfl, bb⟩
      have T1 := hid (HK.out _ _ _ _ T0.out bb)
      have C1 := hid (below_twoY C0.out bb C0.out.size)
      clear bb T0 C0
      go_wp2_with fail
      refine (HRC.out _ _ _ T1.out).mono ?_
      rintro e V2 ⟨rfl, bb⟩
      have T2 := hid (HK.out _ _ _ _ T1.out bb)
      have C2 := hid (below_twoY C1.out bb C1.out.size)
      clear bb T1 C1
      go_wp2_with fail
      refine (HE.out _ _ _ T2.out).mono ?_
      rintro e V3 ⟨rfl, bb⟩
      have T3 := hid (HK.out _ _ _ _ T2.out bb)
      have C3 := hid (below_twoY C2.out bb C2.out.size)
      clear bb T2 C2
      go_wp2_with fail
      refine (HRE.out _ _ _ T3.out).mono ?_
      rintro e V4 ⟨rfl, bb⟩
      have T4 := hid (HK.out _ _ _ _ T3.out bb)
      have C4 := hid (below_twoY C3.out bb C3.out.size)
      clear bb T3 C3
      go_wp2_with fail
      refine (HW.out _ _ _ _ T4.out).mono ?_
      rintro e V5 ⟨rfl, bb⟩
      have T5 := hid (HK.out _ _ _ _ T4.out bb)
      have C5 := hid (below_twoY C4.out bb C4.out.size)
      clear bb T4 C4
      go_wp2_with fail
      refine (HRW.out _ _ _ _ T5.out).mono ?_
      rintro e V6 ⟨rfl, bb⟩
      have T6 := hid (HK.out _ _ _ _ T5.out bb)
      have C6 := hid (below_twoY C5.out bb C5.out.size)
      clear bb T5 C5
      go_wp2
      go_ret
      exact ⟨rfl, C6.out⟩
theorem does_walk (w : World) (n me ot : Int) {ad : Option Addr} {M : List Ln} {cap : Nat} (hM : LinesAt w ad M) :
    Calls Try.prog 3 #[.agg #[nu n, nu me, .slice ad M.length cap, nu ot]] w fun e w' => e = .returned (.bool true) ∧ Below w.heap.size w w' := by
  by_cases hb : n < 2 ∨ 8 < n ∨ me < 0 ∨ n ≤ me
  · exact does_bad n me ot (hid fun W _ => (made_bad n me hb (a := ad) (M := M) (cap := cap) (w := W)).mono fun e w' h => ⟨h.1, h.2 ▸ Below.refl _ _⟩) (hid fun W => awake_any W)
  · obtain ⟨n', rfl⟩ : ∃ n' : Nat, n = (n' : Int) := ⟨n.toNat, by omega⟩
    obtain ⟨me', rfl⟩ : ∃ m' : Nat, me = (m' : Int) := ⟨me.toNat, by omega⟩
    obtain ⟨L, hL⟩ : ∃ L, allL n' (fewL M) = L := ⟨_, rfl⟩
    have hpi : PI n' L := by
      rw [← hL]
      exact all_pi _ _ fun x hx => hM.1 x (few_mem M x hx)
    refine does_core (S := fun p q W => KAt W p n' me' L ∧ ∃ v, RAt W q v n' me' L) (y := topL L) (wd := fun c => word L c) (ow := fun c => ownv L c) (SL := stL n' me' L) (CN := cutN n' me' L) (SN := seenN n' me' L) n' me' ot hpi.topWf ?_ (hid fun W => awake_any W)
      (hid fun p q W W' h b => ⟨h.1.kept b, h.2.imp fun v hv => hv.kept b⟩)
      (hid fun p q W c h => word_any h.1 c)
      (hid fun p q W c h => by obtain ⟨v, hv⟩ := h.2; exact (rword_any hv c).mono fun e w' k => ⟨k.1, k.2 ▸ Below.refl _ _⟩)
      (hid fun p q W c h => own_any h.1 c)
      (hid fun p q W c h => by obtain ⟨v, hv⟩ := h.2; exact (rown_any hv c).mono fun e w' k => ⟨k.1, k.2 ▸ Below.refl _ _⟩)
      (hid fun p q W h => longest_any h.1)
      (hid fun p q W h => by obtain ⟨v, hv⟩ := h.2; exact rlongest_any hv)
      (hid fun p q W h => by
        refine (stable_any h.1).mono ?_
        rintro e w' ⟨g, rfl, -, hg, b⟩
        refine ⟨_, rfl, ?_, b⟩
        have hl := st_len n' me' L
        have hh := ints_row n' hg
        rwa [hl] at hh)
      (hid fun p q W h => by obtain ⟨v, hv⟩ := h.2; exact rstable_any hv)
      (hid fun W u u' h1 h2 => (rints_any h1 h2 (by have := st_len n' me' L; have := hpi; omega)).mono fun e w' hq => ⟨by rw [hq.1, beq_self_eq_true], hq.2⟩)
      (hid fun p q W h => cut_any h.1)
      (hid fun p q W h => by obtain ⟨v, hv⟩ := h.2; exact rcut_any hv)
      (hid fun p q W h => seen_any h.1)
      (hid fun p q W h => by obtain ⟨v, hv⟩ := h.2; exact rseen_any hv)
      rfl
    refine hid fun W hb' => ?_
    refine (made_ok n' me' (by omega) (by omega) (by omega) (hM.kept hb')).mono ?_
    rintro e w' ⟨p, q, v, rfl, k, r, -, -, b'⟩
    rw [hL] at k r
    exact ⟨p, q, rfl, ⟨k, v, r⟩, b'⟩
end Go.Proofs.Ytfigbgpfkhcpcaa.Kn
