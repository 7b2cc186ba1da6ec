/-
  The walk of KnownOrder: the order of views that all fit plays no part.
-/
import Derived.Test.YtfigbgpfkhcpcaaWkg
namespace Go.Proofs.Ytfigbgpfkhcpcaa.Kn
open Go Go.RowKit
set_option maxRecDepth 100000

section
variable {P : Program} {o : Oper} {a : Act} {w : World} {Q : Exit → Act → World → Prop} {K : Act → World → Prop}
theorem op_addT (x y : Tmp) (T R : TypeId) (n m : Int) (ho : o.op = .binOp .add T (.tmp x) (.tmp y) R) (hx : a.tmps.getD x undef = nu n) (hy : a.tmps.getD y undef = nu m) (hr : I64 (n + m)) (h : K (a.put o.dst (nu (n + m))) w) : o.wp P a w K Q := by
  have ex : a.eval (.tmp x) = nu n := hx
  have ey : a.eval (.tmp y) = nu m := hy
  have hw : IntKind.i64.wrap (n + m) = n + m := by have h1 := hr.1; have h2 := hr.2; rw [IntKind.wrap_i64]; omega
  unfold Oper.wp execOp
  simp only [ho, ex, ey]
  simp [binOp, eqGuard, Op.intArith, hw]
  exact h
theorem op_remT (x y : Tmp) (T R : TypeId) (n m : Nat) (hm : 0 < m) (ho : o.op = .binOp .rem T (.tmp x) (.tmp y) R) (hx : a.tmps.getD x undef = nu ((n : Nat) : Int)) (hy : a.tmps.getD y undef = nu ((m : Nat) : Int)) (h : K (a.put o.dst (nu ((n % m : Nat) : Int))) w) : o.wp P a w K Q := by
  have ex : a.eval (.tmp x) = nu ((n : Nat) : Int) := hx
  have ey : a.eval (.tmp y) = nu ((m : Nat) : Int) := hy
  have h0' : ¬ m = 0 := by omega
  have ht : ((n : Nat) : Int).tmod ((m : Nat) : Int) = ((n % m : Nat) : Int) := (Int.ofNat_tmod n m).symm
  unfold Oper.wp execOp
  simp only [ho, ex, ey]
  simp [binOp, eqGuard, Op.intDiv, h0', ht]
  exact h
end
set_option maxHeartbeats 16000000 in
theorem order_bad {w : World} (n me ot : Int) {ad : Option Addr} {len cap : Nat}
    (HM : Hid (∀ W, Below w.heap.size w W → Calls Try.prog 9 #[nu n, nu me, .slice ad len cap] W fun e w' => e = .returned (.tuple #[.pointer none, .pointer none, .bool true]) ∧ Below W.heap.size W w'))
    (HA : Hid (∀ W, Calls Try.prog 10 #[] W fun e w' => e = .returned (.bool true) ∧ Below W.heap.size W w')) :
    Calls Try.prog 6 #[.agg #[nu n, nu me, .slice ad len cap, nu ot]] w fun e w' => e = .returned (.bool true) ∧ Below w.heap.size w w' := by
  have B0 := hid (below_a1 w (.cells #[nu n, nu me, .slice ad len cap, nu ot] 24))
  have R0 := hid (top_obj w (.cells #[nu n, nu me, .slice ad len cap, nu ot] 24))
  go_enter Try.func6, Try.ntmps6
  go_upto_region 1 with fail
  generalize w.alloc (.cells #[nu n, nu me, .slice ad len cap, nu ot] 24) = W0 at *
  have p0 : ∀ dd os, (Sort.grow (redrawn W0 dd) os).cell? ⟨w.heap.size, 0, none⟩ = some (nu n) := fun dd os => cell_regrown (row_zeroY (cs := [nu n, nu me, .slice ad len cap, nu ot]) R0.out 0 _ rfl) _ _
  have p1 : ∀ dd os, (Sort.grow (redrawn W0 dd) os).cell? ⟨w.heap.size, 1, none⟩ = some (nu me) := fun dd os => cell_regrown (row_zeroY (cs := [nu n, nu me, .slice ad len cap, nu ot]) R0.out 1 _ rfl) _ _
  have p2 : ∀ dd os, (Sort.grow (redrawn W0 dd) os).cell? ⟨w.heap.size, 2, none⟩ = some (.slice ad len cap) := fun dd os => cell_regrown (row_zeroY (cs := [nu n, nu me, .slice ad len cap, nu ot]) R0.out 2 _ rfl) _ _
  have p3 : ∀ dd os, (Sort.grow (redrawn W0 dd) os).cell? ⟨w.heap.size, 3, none⟩ = some (nu ot) := fun dd os => cell_regrown (row_zeroY (cs := [nu n, nu me, .slice ad len cap, nu ot]) R0.out 3 _ rfl) _ _
  refine wp_region_quiet_below (by kernel_rfl) (by kernel_rfl) ?_
  iterate 13 (first | go_big_quiet_step (fail) | quiet_step (fail))
  refine wpQuiet_nil ?_
  intro _ hw'
  obtain ⟨⟨dq, osq⟩, hw''⟩ := hw'
  subst hw''
  have HBq := hid (below_two B0.out (below_regrown W0 dq osq))
  generalize Sort.grow (redrawn W0 dq) osq = W1 at *
  clear p0 p1 p2 p3 B0 R0
  go_wp2_with fail
  refine (HM.out _ HBq.out).mono ?_
  rintro e W2 ⟨rfl, b2⟩
  have B2 := hid (below_two HBq.out b2)
  clear b2 HM
  go_wp2_with fail
  refine (HA.out _).mono ?_
  rintro e W3 ⟨rfl, b3⟩
  have B3 := hid (below_twoY B2.out b3 B2.out.size)
  clear b3
  go_wp2_with fail
  refine (HA.out _).mono ?_
  rintro e W4 ⟨rfl, b4⟩
  have B4 := hid (below_twoY B3.out b4 B3.out.size)
  clear b4
  go_wp2
  go_ret
  exact ⟨rfl, B4.out⟩
set_option maxHeartbeats 16000000 in
theorem order_core {w : World} (n : Nat) (me ot : Int) (hn8 : n ≤ 8) {ad : Option Addr} {len cap s LL : Nat} {R : List Ln} (hs : IntKind.u8.wrap ot = (s : Int)) (hs2 : s < 256) (hLL : LL ≤ 25) (hR : R.length = LL) (hw : ∀ x ∈ R, x.Wf) {S0 : Nat → Nat → Option Addr → Nat → World → Prop} {S : Nat → Nat → Option Addr → Nat → Nat → Nat → World → Prop} {T : List UInt8} {b1 b2 : Int} {t1 t2 : List UInt8} (ht1 : t1.length = 32) (ht2 : t2.length = 32) {wd ow : Int → List UInt8} {SL : List Int} {CN SN : Int} {D0 : List Value}
    (HM : Hid (∀ W, Below w.heap.size w W → Calls Try.prog 9 #[nu n, nu me, .slice ad len cap] W fun e w' => ∃ p q va vc, e = .returned (.tuple #[pt p 0, pt q 0, .bool true]) ∧ S0 p q va vc w' ∧ Below W.heap.size W w'))
    (HA : Hid (∀ W, Calls Try.prog 10 #[] W fun e w' => e = .returned (.bool true) ∧ Below W.heap.size W w'))
    (HK0 : Hid (∀ p q va vc W W', S0 p q va vc W → Below W.heap.size W W' → S0 p q va vc W'))
    (HN : Hid (∀ p q va vc W, Below w.heap.size w W → S0 p q va vc W → Calls Try.prog 27 #[nu n, nu me] W fun e w' => ∃ p2, e = .returned (.tuple #[pt p2 0, nu 0]) ∧ S p q va vc p2 0 w' ∧ Below W.heap.size W w' ∧ w.heap.size ≤ p2))
    (HK : Hid (∀ p q va vc p2 k W W', S p q va vc p2 k W → Below W.heap.size W W' → S p q va vc p2 k W'))
    (HLn : Hid (∀ p q va vc p2 k W (hk : k < R.length), S p q va vc p2 k W → Calls Try.prog 29 #[pt p2 0, nu R[k].fro, nu R[k].byc, st R[k].view, .agg (dg R[k].tag).toArray] W fun e w' => e = .returned (nu 0) ∧ S p q va vc p2 (k + 1) w' ∧ Kp [p2] W w'))
    (HC2 : Hid (∀ p q va vc p2 k W, S p q va vc p2 k W → W.cell? ⟨q, 2, none⟩ = some (.slice va LL vc)))
    (HCx : Hid (∀ p q va vc p2 k W (hk : k < R.length), S p q va vc p2 k W → ∃ g, va = some ⟨g, 0, none⟩ ∧ ∀ W', Below W.heap.size W W' → ∀ j c, (lnC R[k])[j]? = some c → W'.cell? ⟨g, 0 + (k + s) % LL * 35 + j, none⟩ = some c))
    (HW : Hid (∀ p q va vc p2 W c, S p q va vc p2 LL W → Calls Try.prog 11 #[pt p 0, nu c] W fun e w' => e = .returned (st (wd c)) ∧ Below W.heap.size W w'))
    (HW2 : Hid (∀ p q va vc p2 W c, S p q va vc p2 LL W → Calls Try.prog 11 #[pt p2 0, nu c] W fun e w' => e = .returned (st (wd c)) ∧ Below W.heap.size W w'))
    (HO : Hid (∀ p q va vc p2 W c, S p q va vc p2 LL W → Calls Try.prog 13 #[pt p 0, nu c] W fun e w' => e = .returned (st (ow c)) ∧ Below W.heap.size W w'))
    (HO2 : Hid (∀ p q va vc p2 W c, S p q va vc p2 LL W → Calls Try.prog 13 #[pt p2 0, nu c] W fun e w' => e = .returned (st (ow c)) ∧ Below W.heap.size W w'))
    (HL : Hid (∀ p q va vc p2 W, S p q va vc p2 LL W → Calls Try.prog 15 #[pt p 0] W fun e w' => e = .returned (.tuple #[st T, nu b1, .agg (dg t1).toArray]) ∧ Below W.heap.size W w'))
    (HL2 : Hid (∀ p q va vc p2 W, S p q va vc p2 LL W → Calls Try.prog 15 #[pt p2 0] W fun e w' => e = .returned (.tuple #[st T, nu b2, .agg (dg t2).toArray]) ∧ Below W.heap.size W w'))
    (HS : Hid (∀ p q va vc p2 W, S p q va vc p2 LL W → Calls Try.prog 18 #[pt p 0] W fun e w' => ∃ u, e = .returned u ∧ IntsAt w' u SL ∧ Below W.heap.size W w'))
    (HS2 : Hid (∀ p q va vc p2 W, S p q va vc p2 LL W → Calls Try.prog 18 #[pt p2 0] W fun e w' => ∃ u, e = .returned u ∧ IntsAt w' u SL ∧ Below W.heap.size W w'))
    (HI : Hid (∀ W u u', IntsAt W u SL → IntsAt W u' SL → Calls Try.prog 17 #[u, u'] W fun e w' => e = .returned (.bool true) ∧ Below W.heap.size W w'))
    (HC : Hid (∀ p q va vc p2 W, S p q va vc p2 LL W → Calls Try.prog 20 #[pt p 0] W fun e w' => e = .returned (nu CN) ∧ Below W.heap.size W w'))
    (HCB : Hid (∀ p q va vc p2 W, S p q va vc p2 LL W → Calls Try.prog 20 #[pt p2 0] W fun e w' => e = .returned (nu CN) ∧ Below W.heap.size W w'))
    (HE : Hid (∀ p q va vc p2 W, S p q va vc p2 LL W → Calls Try.prog 22 #[pt p 0] W fun e w' => e = .returned (nu SN) ∧ Below W.heap.size W w'))
    (HEB : Hid (∀ p q va vc p2 W, S p q va vc p2 LL W → Calls Try.prog 22 #[pt p2 0] W fun e w' => e = .returned (nu SN) ∧ Below W.heap.size W w'))
    (hD0 : dg (List.replicate 32 0) = D0) :
    Calls Try.prog 6 #[.agg #[nu n, nu me, .slice ad len cap, nu ot]] w fun e w' => e = .returned (.bool true) ∧ Below w.heap.size w w' := by
  have HFw := hid hw
  have hz := zeroDg
  have zl := zeroBl
  have LZ : (lnC zeroB).length = 35 := rfl
  have LD1 : Hid (D0.length = (dg t1).length) := hid (by rw [← hD0, dg_len, dg_len, ht1, List.length_replicate])
  have LD2 : Hid (D0.length = (dg t2).length) := hid (by rw [← hD0, dg_len, dg_len, ht2, List.length_replicate])
  have OD1 := hid (one_dg t1)
  have OD2 := hid (one_dg t2)
  have ZD1 := hid (sizeDg ht1)
  have ZD2 := hid (sizeDg ht2)
  rw [hD0] at hz
  clear hD0 hw ht1 ht2
  have B0 := hid (below_a1 w (.cells #[nu n, nu me, .slice ad len cap, nu ot] 24))
  have R0 := hid (top_obj w (.cells #[nu n, nu me, .slice ad len cap, nu ot] 24))
  go_enter Try.func6, Try.ntmps6
  go_upto_region 1 with fail
  generalize w.alloc (.cells #[nu n, nu me, .slice ad len cap, nu ot] 24) = W0 at *
  have p0 : ∀ dd os, (Sort.grow (redrawn W0 dd) os).cell? ⟨w.heap.size, 0, none⟩ = some (nu n) := fun dd os => cell_regrown (row_zeroY (cs := [nu n, nu me, .slice ad len cap, nu ot]) R0.out 0 _ rfl) _ _
  have p1 : ∀ dd os, (Sort.grow (redrawn W0 dd) os).cell? ⟨w.heap.size, 1, none⟩ = some (nu me) := fun dd os => cell_regrown (row_zeroY (cs := [nu n, nu me, .slice ad len cap, nu ot]) R0.out 1 _ rfl) _ _
  have p2 : ∀ dd os, (Sort.grow (redrawn W0 dd) os).cell? ⟨w.heap.size, 2, none⟩ = some (.slice ad len cap) := fun dd os => cell_regrown (row_zeroY (cs := [nu n, nu me, .slice ad len cap, nu ot]) R0.out 2 _ rfl) _ _
  have p3 : ∀ dd os, (Sort.grow (redrawn W0 dd) os).cell? ⟨w.heap.size, 3, none⟩ = some (nu ot) := fun dd os => cell_regrown (row_zeroY (cs := [nu n, nu me, .slice ad len cap, nu ot]) R0.out 3 _ rfl) _ _
  refine wp_region_quiet_below (by kernel_rfl) (by kernel_rfl) ?_
  iterate 13 (first | go_big_quiet_step (fail) | quiet_step (fail))
  refine wpQuiet_nil ?_
  intro _ hw'
  obtain ⟨⟨dq, osq⟩, hw''⟩ := hw'
  subst hw''
  have HBq := hid (below_two B0.out (below_regrown W0 dq osq))
  generalize Sort.grow (redrawn W0 dq) osq = W1 at *
  clear p0 p1 p2 p3 B0 R0
  go_wp2_with fail
  refine (HM.out _ HBq.out).mono ?_
  rintro e W2 ⟨p, q, va, vc, rfl, s2, bb⟩
  have B2 := hid (below_two HBq.out bb)
  have S2' := hid s2
  clear bb HM s2
  go_wp2_with fail
  refine (HA.out _).mono ?_
  rintro e W3 ⟨rfl, bb⟩
  have B3 := hid (below_twoY B2.out bb B2.out.size)
  have S3 := hid (HK0.out _ _ _ _ _ _ S2'.out bb)
  clear bb S2' B2 HA HK0
  go_wp2_with fail
  refine (HN.out _ _ _ _ _ B3.out S3.out).mono ?_
  rintro e W4 ⟨p2, rfl, s4, bb, hpw⟩
  have B4 := hid (below_twoY B3.out bb B3.out.size)
  have S4 := hid s4
  have c2 := HC2.out _ _ _ _ _ _ _ s4
  clear bb s4 B3 S3 HN
  try rw [hs]
  go_wp2
  go_loopw [13] (fun i wr => ∃ k : Nat, k ≤ LL ∧ i = nu k ∧ Hid (S p q va vc p2 k wr) ∧ Hid (Below w.heap.size w wr)) (fun i _ => LL - (intOf i).toNat)
  case atStart => exact ⟨0, by omega, rfl, S4, B4⟩
  case round =>
    obtain ⟨k, hk, rfl, HS', HBl⟩ := hrel
    clear S4 B4 c2
    by_cases hlt : k < LL
    · have d1 : decide ((k : Int) < (LL : Int)) = true := decide_eq_true (by omega)
      have d1' : decide (k < LL) = true := decide_eq_true hlt
      have hlt' : k < R.length := by omega
      obtain ⟨g, ev, hcx⟩ := HCx.out _ _ _ _ _ _ _ hlt' HS'.out
      cases ev
      have hmd : (k + s) % LL < LL := Nat.mod_lt _ (by omega)
      have hxw : R[k].Wf := HFw.out _ (List.getElem_mem hlt')
      have HLr : Hid (∀ W, S p q (some ⟨g, 0, none⟩) vc p2 k W → Calls Try.prog 29 #[pt p2 0, nu R[k].fro, nu R[k].byc, st R[k].view, .agg (dg R[k].tag).toArray] W fun e w' => e = .returned (nu 0) ∧ S p q (some ⟨g, 0, none⟩) vc p2 (k + 1) w' ∧ Kp [p2] W w') := fun W h => HLn.out _ _ _ _ _ _ W hlt' h
      have CX : Hid (∀ W', Below wr.heap.size wr W' → ∀ j c, (lnC R[k])[j]? = some c → W'.cell? ⟨g, 0 + (k + s) % LL * 35 + j, none⟩ = some c) := hcx
      have C2 := hid (fun W' (hb : Below wr.heap.size wr W') => HC2.out _ _ _ _ _ _ _ (HK.out _ _ _ _ _ _ _ _ HS'.out hb))
      have ZT := hid (sizeDg hxw)
      have ZX := hid (sizeOf_ln hxw)
      have OX := hid (one_ln R[k])
      have LX : (lnC R[k]).length = 35 := lnC_len hxw
      generalize R[k] = x at *
      obtain ⟨fr, bc, vw, tx⟩ := x
      simp only at *
      clear hcx
      go_upto_region 10 with fail
      refine wp_region_nj (N := 149) 12 13 14 36 35 (lnC ⟨fr, bc, vw, tx⟩) wr.heap.size [(pt q 0), (pt q 0), (pt q 2), (Value.slice (some ⟨g, 0, none⟩) LL vc), (nu (k : Int)), (.int .u8 (s : Int)), (nu (s : Int)), (nu ((k : Int) + (s : Int))), (nu (LL : Int)), (nu (((k + s) % LL : Nat) : Int)), (pt g (0 + (k + s) % LL * 35)), (.agg (lnC ⟨fr, bc, vw, tx⟩).toArray), undef, undef] (fun _ w1 => Below wr.heap.size wr w1) (fun g14 => [(69, (pt q 0)), (70, (pt q 0)), (71, (pt q 2)), (72, (Value.slice (some ⟨g, 0, none⟩) LL vc)), (73, (nu (k : Int))), (74, (.int .u8 (s : Int))), (75, (nu (s : Int))), (76, (nu ((k : Int) + (s : Int)))), (77, (nu (LL : Int))), (78, (nu (((k + s) % LL : Nat) : Int))), (79, (pt g (0 + (k + s) % LL * 35))), (80, (.agg (lnC ⟨fr, bc, vw, tx⟩).toArray)), (14, (pt g14 0))]) (by kernel_rfl) (by kernel_rfl) rfl (by kernel_rfl) (by decide) (by simp) (fun g14 => by kernel_rfl) (fun _ h => h) ?_ ?_
      · intro i o ho
        match i, ho with
        | 0, ho => cases ho; exact oweN (pt q 0) (by decide) (by decide) rfl (fun L a w1 hLi hJ hw hnot hk hv K h => op_move 8 _ rfl (hk 8 (by kernel_rfl)) (h _ hJ (fun _ _ _ e => e)))
        | 1, ho => cases ho; exact oweN (pt q 0) (by decide) (by decide) rfl (fun L a w1 hLi hJ hw hnot hk hv K h => op_nil 69 q 0 rfl (hv 0 69 (by kernel_rfl) (by decide) (by kernel_rfl)) (h _ hJ (fun _ _ _ e => e)))
        | 2, ho => cases ho; exact oweN (pt q 2) (by decide) (by decide) rfl (fun L a w1 hLi hJ hw hnot hk hv K h => op_fa 70 _ 2 q 0 2 rfl (fun W => by kernel_rfl) (hv 1 70 (by kernel_rfl) (by decide) (by kernel_rfl)) (h _ hJ (fun _ _ _ e => e)))
        | 3, ho => cases ho; exact oweN (Value.slice (some ⟨g, 0, none⟩) LL vc) (by decide) (by decide) rfl (fun L a w1 hLi hJ hw hnot hk hv K h => op_load1 _ (.tmp 71) rfl q 2 (hv 2 71 (by kernel_rfl) (by decide) (by kernel_rfl)) (Value.slice (some ⟨g, 0, none⟩) LL vc) _ (C2.out _ hJ) Try.underlying22 rfl (h _ hJ (fun _ _ _ e => e)))
        | 4, ho => cases ho; exact oweN (nu (k : Int)) (by decide) (by decide) rfl (fun L a w1 hLi hJ hw hnot hk hv K h => op_move 13 _ rfl (hk 13 (by kernel_rfl)) (h _ hJ (fun _ _ _ e => e)))
        | 5, ho => cases ho; exact oweN (.int .u8 (s : Int)) (by decide) (by decide) rfl (fun L a w1 hLi hJ hw hnot hk hv K h => op_move 6 _ rfl (hk 6 (by kernel_rfl)) (h _ hJ (fun _ _ _ e => e)))
        | 6, ho => cases ho; exact oweN (nu (s : Int)) (by decide) (by decide) rfl (fun L a w1 hLi hJ hw hnot hk hv K h => op_conv 74 _ _ _ _ rfl (hv 5 74 (by kernel_rfl) (by decide) (by kernel_rfl)) (conv_byte _ _ ⟨by omega, by omega⟩) (h _ hJ (fun _ _ _ e => e)))
        | 7, ho => cases ho; exact oweN (nu ((k : Int) + (s : Int))) (by decide) (by decide) rfl (fun L a w1 hLi hJ hw hnot hk hv K h => op_addT 73 75 _ _ _ _ rfl (hv 4 73 (by kernel_rfl) (by decide) (by kernel_rfl)) (hv 6 75 (by kernel_rfl) (by decide) (by kernel_rfl)) (by unfold I64; omega) (h _ hJ (fun _ _ _ e => e)))
        | 8, ho => cases ho; exact oweN (nu (LL : Int)) (by decide) (by decide) rfl (fun L a w1 hLi hJ hw hnot hk hv K h => op_move 12 _ rfl (hk 12 (by kernel_rfl)) (h _ hJ (fun _ _ _ e => e)))
        | 9, ho => cases ho; exact oweN (nu (((k + s) % LL : Nat) : Int)) (by decide) (by decide) rfl (fun L a w1 hLi hJ hw hnot hk hv K h => op_remT 76 77 _ _ (k + s) LL (by omega) rfl (by rw [(hv 7 76 (by kernel_rfl) (by decide) (by kernel_rfl))]; congr 1) (hv 8 77 (by kernel_rfl) (by decide) (by kernel_rfl)) (h _ hJ (fun _ _ _ e => e)))
        | 10, ho => cases ho; exact oweN (pt g (0 + (k + s) % LL * 35)) (by decide) (by decide) rfl (fun L a w1 hLi hJ hw hnot hk hv K h => op_indexS 72 78 _ 36 rfl Try.underlying22 35 sizeLn g 0 LL vc ((k + s) % LL) hmd (hv 3 72 (by kernel_rfl) (by decide) (by kernel_rfl)) (hv 9 78 (by kernel_rfl) (by decide) (by kernel_rfl)) (h _ hJ (fun _ _ _ e => e)))
        | 11, ho => cases ho; exact oweN (.agg (lnC ⟨fr, bc, vw, tx⟩).toArray) (by decide) (by decide) rfl (fun L a w1 hLi hJ hw hnot hk hv K h => op_load _ (.tmp 79) rfl g (0 + (k + s) % LL * 35) (hv 10 79 (by kernel_rfl) (by decide) (by kernel_rfl)) (lnC ⟨fr, bc, vw, tx⟩) _ (CX.out _ hJ) Try.underlying36 rfl ZX.out (h _ hJ (fun _ _ _ e => e)))
        | 12, ho => cases ho; exact oweN_alloc rfl (lnC zeroB) zl LZ _ rfl (by kernel_rfl) (by decide) (fun _ _ h => h.size) (fun _ w o h => h.trans ((below_a1 w o).mono h.size))
        | 13, ho => cases ho; exact oweN_store 14 80 rfl rfl (by kernel_rfl) 11 (by kernel_rfl) (by decide) (by kernel_rfl) (by kernel_rfl) rfl LX OX.out ZX.out (fun _ w w2 g _ h hg _ hb => hb.below h hg)
        | (i + 14), ho => exact absurd ho (by simp)
      intro g14 LL' W8 hg8 hr8 _ hJ
      simp only [List.foldl_cons, List.foldl_nil, List.setIfInBounds_toArray, List.set_cons_zero, List.set_cons_succ]
      have S8 := hid (HK.out _ _ _ _ _ _ _ _ HS'.out hJ)
      have B8 := hid (below_twoY HBl.out hJ HBl.out.size)
      have c0 := lrow_o hr8
      have c1 := lrow_n hr8
      have c2 := lrow_c hr8
      have CT := hid (lrow_t hr8)
      have HL8 := hid (HLr.out _ S8.out)
      clear hr8 hJ CX C2 HS' HBl
      go_wp2_with ((with_reducible refine wl_load 32 (.tmp 88) ?_ g14 3 ?_ ?_ (dg tx) _ CT.out Try.underlying32 ?_ ZT.out ?_); exact rfl; exact rfl; exact rfl; exact rfl)
      refine HL8.out.mono ?_
      rintro e W9 ⟨rfl, s9, k9⟩
      have S9 := hid s9
      have B9 : Hid (Below w.heap.size w W9) := B8.out.trans (k9.below (by simpa using hpw) B8.out.size)
      clear s9 k9 S8 B8 HL8 CT c0 c1 c2
      go_wp2
      exact ⟨⟨k + 1, by omega, by go_num, S9, B9⟩, by simp [intOf]; omega⟩
    · have d1 : decide ((k : Int) < (LL : Int)) = false := decide_eq_false (by omega)
      have d1' : decide (k < LL) = false := decide_eq_false hlt
      have hkl : LL = k := by omega
      clear HLn HC2 HCx
      subst hkl
      go_wp2
      go_loopw [15] (fun i wr2 => ∃ j : Nat, j ≤ n ∧ i = nu j ∧ Hid (S p q va vc p2 LL wr2) ∧ Hid (Below w.heap.size w wr2)) (fun i _ => n - (intOf i).toNat)
      case atStart => exact ⟨0, by omega, rfl, HS', HBl⟩
      case round =>
        obtain ⟨j, hj, rfl, S0', B0'⟩ := hrel
        clear HS' HBl
        by_cases hjn : j < n
        · have d2 : decide ((j : Int) < (n : Int)) = true := decide_eq_true (by omega)
          have d2' : decide (j < n) = true := decide_eq_true hjn
          go_wp2_with fail
          refine (HW2.out _ _ _ _ _ _ _ S0'.out).mono ?_
          rintro e V1 ⟨rfl, bb⟩
          have S21 := hid (HK.out _ _ _ _ _ _ _ _ S0'.out bb)
          have B21 := hid (below_twoY B0'.out bb B0'.out.size)
          clear bb S0' B0'
          go_wp2_with fail
          refine (HW.out _ _ _ _ _ _ _ S21.out).mono ?_
          rintro e V2 ⟨rfl, bb⟩
          have S22 := hid (HK.out _ _ _ _ _ _ _ _ S21.out bb)
          have B22 := hid (below_twoY B21.out bb B21.out.size)
          clear bb S21 B21
          go_wp2_with fail
          refine (HO2.out _ _ _ _ _ _ _ S22.out).mono ?_
          rintro e V3 ⟨rfl, bb⟩
          have S23 := hid (HK.out _ _ _ _ _ _ _ _ S22.out bb)
          have B23 := hid (below_twoY B22.out bb B22.out.size)
          clear bb S22 B22
          go_wp2_with fail
          refine (HO.out _ _ _ _ _ _ _ S23.out).mono ?_
          rintro e V4 ⟨rfl, bb⟩
          have S24 := hid (HK.out _ _ _ _ _ _ _ _ S23.out bb)
          have B24 := hid (below_twoY B23.out bb B23.out.size)
          clear bb S23 B23
          go_wp2
          exact ⟨⟨j + 1, by omega, by go_num, S24, B24⟩, by simp [intOf]; omega⟩
        · have d2 : decide ((j : Int) < (n : Int)) = false := decide_eq_false (by omega)
          have d2' : decide (j < n) = false := decide_eq_false hjn
          go_wp2_with fail
          refine (HL.out _ _ _ _ _ _ S0'.out).mono ?_
          rintro e V1 ⟨rfl, bb⟩
          have S31 := hid (HK.out _ _ _ _ _ _ _ _ S0'.out bb)
          have B31 := hid (below_twoY B0'.out bb B0'.out.size)
          clear bb S0' B0'
          obtain ⟨X1, hX⟩ : ∃ X, V1.heap.size = X := ⟨_, rfl⟩
          have T1 := hid (top_obj V1 (.cells D0.toArray 32))
          have A1 := hid (below_a1 V1 (.cells D0.toArray 32))
          rw [hX] at T1
          have HXe1 := hid hX
          clear hX
          go_upto_region 19 with (first
            | ((with_reducible refine wl_alloc 32 ?_ ?_ D0.toArray hz ?_); exact rfl; exact rfl; rw [HXe1.out]; try simp only [Act.put, List.setIfInBounds_toArray, List.set_cons_zero, List.set_cons_succ])
            | ((with_reducible refine wl_put 32 (.tmp 18) (.tmp 118) ?_ ?_ X1 0 ?_ ?_ [] (dg t1) D0 [] ?_ 32 (row_nilY T1.out) rfl LD1.out OD1.out ZD1.out ?_); exact rfl; exact rfl; exact rfl; exact rfl; exact rfl; intro U1 r6 b6))
          have b6' := b6.below A1.out (by rw [HXe1.out]; exact Nat.le_refl _)
          have S41 := hid (HK.out _ _ _ _ _ _ _ _ S31.out b6')
          have B41 := hid (below_twoY B31.out b6' B31.out.size)
          clear r6 b6 b6' T1 A1 S31 B31 HXe1
          go_wp2_with fail
          refine (HL2.out _ _ _ _ _ _ S41.out).mono ?_
          rintro e V2 ⟨rfl, bb⟩
          have S32 := hid (HK.out _ _ _ _ _ _ _ _ S41.out bb)
          have B32 := hid (below_twoY B41.out bb B41.out.size)
          clear bb S41 B41
          obtain ⟨X2, hX⟩ : ∃ X, V2.heap.size = X := ⟨_, rfl⟩
          have T2 := hid (top_obj V2 (.cells D0.toArray 32))
          have A2 := hid (below_a1 V2 (.cells D0.toArray 32))
          rw [hX] at T2
          have HXe2 := hid hX
          clear hX
          go_upto_region 20 with (first
            | ((with_reducible refine wl_alloc 32 ?_ ?_ D0.toArray hz ?_); exact rfl; exact rfl; rw [HXe2.out]; try simp only [Act.put, List.setIfInBounds_toArray, List.set_cons_zero, List.set_cons_succ])
            | ((with_reducible refine wl_put 32 (.tmp 21) (.tmp 124) ?_ ?_ X2 0 ?_ ?_ [] (dg t2) D0 [] ?_ 32 (row_nilY T2.out) rfl LD2.out OD2.out ZD2.out ?_); exact rfl; exact rfl; exact rfl; exact rfl; exact rfl; intro U2 r6 b6))
          have b6' := b6.below A2.out (by rw [HXe2.out]; exact Nat.le_refl _)
          have S42 := hid (HK.out _ _ _ _ _ _ _ _ S32.out b6')
          have B42 := hid (below_twoY B32.out b6' B32.out.size)
          clear r6 b6 b6' T2 A2 S32 B32 HXe2
          go_wp2_with fail
          refine (HS.out _ _ _ _ _ _ S42.out).mono ?_
          rintro e V3 ⟨u1, rfl, i1, bb⟩
          have S51 := hid (HK.out _ _ _ _ _ _ _ _ S42.out bb)
          have B51 := hid (below_twoY B42.out bb B42.out.size)
          have I1 := hid i1
          clear bb i1 S42 B42
          go_wp2_with fail
          refine (HS2.out _ _ _ _ _ _ S51.out).mono ?_
          rintro e V4 ⟨u2, rfl, i2, bb⟩
          have S52 := hid (HK.out _ _ _ _ _ _ _ _ S51.out bb)
          have B52 := hid (below_twoY B51.out bb B51.out.size)
          have HI2 := hid (HI.out V4 u1 u2 (I1.out.kept bb) i2)
          clear bb i2 I1 S51 B51
          go_wp2_with fail
          refine (HI2.out).mono ?_
          rintro e V5 ⟨rfl, bb⟩
          have S53 := hid (HK.out _ _ _ _ _ _ _ _ S52.out bb)
          have B53 := hid (below_twoY B52.out bb B52.out.size)
          clear bb HI2 S52 B52
          go_wp2_with fail
          refine (HC.out _ _ _ _ _ _ S53.out).mono ?_
          rintro e V53 ⟨rfl, bb⟩
          have S54 := hid (HK.out _ _ _ _ _ _ _ _ S53.out bb)
          have B54 := hid (below_twoY B53.out bb B53.out.size)
          clear bb S53 B53
          go_wp2_with fail
          refine (HCB.out _ _ _ _ _ _ S54.out).mono ?_
          rintro e V54 ⟨rfl, bb⟩
          have S55 := hid (HK.out _ _ _ _ _ _ _ _ S54.out bb)
          have B55 := hid (below_twoY B54.out bb B54.out.size)
          clear bb S54 B54
          go_wp2_with fail
          refine (HE.out _ _ _ _ _ _ S55.out).mono ?_
          rintro e V55 ⟨rfl, bb⟩
          have S56 := hid (HK.out _ _ _ _ _ _ _ _ S55.out bb)
          have B56 := hid (below_twoY B55.out bb B55.out.size)
          clear bb S55 B55
          go_wp2_with fail
          refine (HEB.out _ _ _ _ _ _ S56.out).mono ?_
          rintro e V56 ⟨rfl, bb⟩
          have S57 := hid (HK.out _ _ _ _ _ _ _ _ S56.out bb)
          have B57 := hid (below_twoY B56.out bb B56.out.size)
          clear bb S56 B56
          go_wp2
          go_ret
          exact ⟨rfl, B57.out⟩
theorem order_walk (w : World) (n me ot : Int) {ad : Option Addr} {M : List Ln} {cap : Nat} (hM : LinesAt w ad M) :
    Calls Try.prog 6 #[.agg #[nu n, nu me, .slice ad M.length cap, nu ot]] w fun e w' => e = .returned (.bool true) ∧ Below w.heap.size w w' := by
  by_cases hb : n < 2 ∨ 8 < n ∨ me < 0 ∨ n ≤ me
  · exact order_bad n me ot (hid fun W _ => (made_bad n me hb (a := ad) (M := M) (cap := cap) (w := W)).mono fun e w' h => ⟨h.1, h.2 ▸ Below.refl _ _⟩) (hid fun W => awake_any W)
  · obtain ⟨n', rfl⟩ : ∃ n' : Nat, n = (n' : Int) := ⟨n.toNat, by omega⟩
    obtain ⟨me', rfl⟩ : ∃ m' : Nat, me = (m' : Int) := ⟨me.toNat, by omega⟩
    obtain ⟨L, hL⟩ : ∃ L, allL n' (fewL M) = L := ⟨_, rfl⟩
    have hpi : PI n' L := by
      rw [← hL]
      exact all_pi _ _ fun x hx => hM.1 x (few_mem M x hx)
    have hLL : L.length ≤ 25 := by
      have h1 := all_len n' (fewL M)
      have h2 := few_len M
      rw [hL] at h1
      omega
    have hwr : IntKind.u8.wrap ot = ((ot % 256).toNat : Int) := by
      rw [IntKind.wrap_u8]
      omega
    obtain ⟨s, hs⟩ : ∃ s, (ot % 256).toNat = s := ⟨_, rfl⟩
    rw [hs] at hwr
    have hs2 : s < 256 := by omega
    obtain ⟨R, hRe⟩ : ∃ R, rotL L s = R := ⟨_, rfl⟩
    have hRl : R.length = L.length := by rw [← hRe, rot_len]
    have hRm : ∀ x, x ∈ R ↔ x ∈ L := fun x => by rw [← hRe]; exact rot_mem L s x
    have hRa : ∀ k, k < L.length → R[k]? = L[(k + s) % L.length]? := fun k hk => by rw [← hRe]; exact rot_at L s k hk
    have hsm : SameL L R := same_of hpi (fun x hx => (hRm x).1 hx) (fun x hx => (hRm x).2 hx)
    have hpr : PI n' R := pi_sub hpi fun x hx => (hRm x).1 hx
    have htk : R.take L.length = R := List.take_of_length_le (by omega)
    refine order_core (R := R) (LL := L.length) (s := s) (S0 := fun p q va vc W => KAt W p n' me' L ∧ RAt W q (.slice va L.length vc) n' me' L) (S := fun p q va vc p2 k W => (KAt W p n' me' L ∧ RAt W q (.slice va L.length vc) n' me' L) ∧ KAt W p2 n' me' (R.take k) ∧ p2 ≠ p) (T := longL L) (b1 := (topL L).byc) (b2 := (topL R).byc) (t1 := (topL L).tag) (t2 := (topL R).tag) (wd := fun c => word L c) (ow := fun c => ownv L c) (SL := stL n' me' L) (CN := cutN n' me' L) (SN := seenN n' me' L) n' me' ot (by omega) hwr hs2 hLL hRl (fun x hx => hpr.wf x hx) hpi.tag hpr.tag
      ?_ (hid fun W => awake_any W)
      (hid fun p q va vc W W' h b => ⟨h.1.kept b, h.2.kept b⟩)
      ?_
      (hid fun p q va vc p2 k W W' h b => ⟨⟨h.1.1.kept b, h.1.2.kept b⟩, h.2.1.kept b, h.2.2⟩)
      ?_
      (hid fun p q va vc p2 k W h => h.1.2.c2)
      ?_
      (hid fun p q va vc p2 W c h => word_any h.1.1 c)
      (hid fun p q va vc p2 W c h => by
        have h2 := h.2.1
        rw [htk] at h2
        have := word_any h2 c
        rwa [hsm.word] at this)
      (hid fun p q va vc p2 W c h => own_any h.1.1 c)
      (hid fun p q va vc p2 W c h => by
        have h2 := h.2.1
        rw [htk] at h2
        have := own_any h2 c
        rwa [hsm.own] at this)
      (hid fun p q va vc p2 W h => longest_any h.1.1)
      (hid fun p q va vc p2 W h => by
        have h2 := h.2.1
        rw [htk] at h2
        have := longest_any h2
        rwa [hsm.long] at this)
      (hid fun p q va vc p2 W h => by
        refine (stable_any h.1.1).mono ?_
        rintro e w' ⟨g, rfl, -, hg, b⟩
        refine ⟨_, rfl, ?_, b⟩
        have hl := st_len n' me' L
        have hh := ints_row n' hg
        rwa [hl] at hh)
      (hid fun p q va vc p2 W h => by
        have h2 := h.2.1
        rw [htk] at h2
        refine (stable_any h2).mono ?_
        rintro e w' ⟨g, rfl, -, hg, b⟩
        refine ⟨_, rfl, ?_, b⟩
        rw [hsm.st] at hg
        have hl := st_len n' me' L
        have hh := ints_row n' hg
        rwa [hl] at hh)
      (hid fun W u u' h1 h2 => (rints_any h1 h2 (by have := st_len n' me' L; omega)).mono fun e w' hq => ⟨by rw [hq.1, beq_self_eq_true], hq.2⟩)
      (hid fun p q va vc p2 W h => cut_any h.1.1)
      (hid fun p q va vc p2 W h => by
        have h2 := h.2.1
        rw [htk] at h2
        have := cut_any h2
        rwa [hsm.cut] at this)
      (hid fun p q va vc p2 W h => seen_any h.1.1)
      (hid fun p q va vc p2 W h => by
        have h2 := h.2.1
        rw [htk] at h2
        have := seen_any h2
        rwa [hsm.seen] at this)
      rfl
    · refine hid fun W hb' => ?_
      refine (made_ok n' me' (by omega) (by omega) (by omega) (hM.kept hb')).mono ?_
      rintro e w' ⟨p, q, v, rfl, k, r, -, -, b'⟩
      rw [hL] at k r
      obtain ⟨va, vc, hv⟩ := r.row.nil_val
      subst hv
      exact ⟨p, q, va, vc, rfl, ⟨k, r⟩, b'⟩
    · refine hid fun p q va vc W hb' h => ?_
      refine (new_ok n' me' (by omega) (by omega) (by omega) W).mono ?_
      rintro e w' ⟨rfl, k, b'⟩
      exact ⟨_, rfl, ⟨⟨h.1.kept b', h.2.kept b'⟩, k, by have := h.1.lt; omega⟩, b', hb'.size⟩
    · refine hid fun p q va vc p2 k W hk h => ?_
      have hxR : R[k] ∈ R := List.getElem_mem hk
      have hxL := (hRm _).1 hxR
      have hag := again_ok (R := R.take k) hpi (fun x hx => (hRm x).1 (List.mem_of_mem_take hx)) hxL
      refine (learn_any h.2.1 R[k] (hpr.wf _ hxR) (by have := long_ge L _ hxL; have := hpi.long; omega)).mono ?_
      rintro e w' ⟨rfl, k', kp⟩
      rw [hag.2] at k'
      refine ⟨by rw [hag.1], ⟨⟨h.1.1.kp kp (by simpa using Ne.symm h.2.2), RAt.keepK h.1.2 h.2.1 kp⟩, ?_, h.2.2⟩, kp⟩
      rw [List.take_succ_eq_append_getElem hk]
      exact k'
    · refine hid fun p q va vc p2 k W hk h => ?_
      have hm : (k + s) % L.length < L.length := Nat.mod_lt _ (by omega)
      obtain ⟨g, cap', ev, -⟩ := h.1.2.at hm
      cases ev
      refine ⟨g, rfl, fun W' hb' j c hj => ?_⟩
      obtain ⟨g2, cap2, ev2, hc⟩ := (h.1.2.kept hb').at hm
      cases ev2
      have he : R[k] = L[(k + s) % L.length] := by
        have := hRa k (by omega)
        rw [List.getElem?_eq_getElem hk, List.getElem?_eq_getElem hm] at this
        exact Option.some.inj this
      rw [he] at hj
      rw [Nat.zero_add]
      exact hc j c hj
end Go.Proofs.Ytfigbgpfkhcpcaa.Kn
