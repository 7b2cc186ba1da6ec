/-
  What the reference of histories (R09) answers: the same as hist.
-/
import Derived.Test.YtekfcbedlokidaaGreatDoorH29
import Derived.Test.YtekfcbedlokidaaGreatDoorZse
namespace Go.Proofs.YtekfcbedlokidaaGreatDoor.Hist
open Go Go.RowKit
set_option maxRecDepth 100000
set_option maxHeartbeats 2000000 in
theorem rcount_any (h : List UInt8) (hl : h.length < 9223372036854775807) (c : Int) (w : World) : Calls Tryz.prog 46 #[.string ⟨h.toArray⟩, .int .i64 c] w fun e w' => e = .returned (.int .i64 (cnt h c)) ∧ w' = w := by
  have hss : (⟨h.toArray⟩ : ByteArray).size = h.length := rfl
  go_enter Tryz.func46, Tryz.ntmps46
  go_wp2
  go_loopw [5, 6] (fun v i w' => ∃ j : Nat, j ≤ h.length ∧ i = .int .i64 j ∧ v = .int .i64 (cnt (h.take j) c) ∧ w' = w) (fun _ i _ => h.length - (intOf i).toNat)
  case atStart => exact ⟨0, by omega, rfl, rfl, rfl⟩
  case round =>
    obtain ⟨j, hj, rfl, rfl, hw⟩ := hrel
    subst wr
    by_cases hlt : j < h.length
    · have d1 : decide ((j : Int) < (h.length : Int)) = true := by simp; omega
      have hq : ((⟨h.toArray⟩ : ByteArray)[j]'(by rw [hss]; exact hlt)).toNat = (h.getD j 0).toNat := getD_byte h j _
      have hs := cnt_step h j hlt c
      have hx : bv (h.getD j 0) = ((h.getD j 0).toNat : Int) := rfl
      have hx2 : (h.getD j 0).toNat < 256 := (h.getD j 0).toNat_lt
      have hcl := Nat.le_trans (cnt_take_le h j c) (cnt_le h c)
      have HS := hid hs
      generalize (h.getD j 0).toNat = x at *
      clear hs
      by_cases he : bv (h.getD j 0) = c
      · have HS' := HS.out
        rw [if_pos he] at HS'
        have HS2 := hid HS'
        have d2 : ((x : Int) == c) = true := by rw [← hx]; simpa using he
        clear HS HS' he hx
        generalize cnt (h.take j) c = m at *
        go_wp2
        exact ⟨⟨j + 1, by omega, by go_num, by rw [HS2.out]; go_num, trivial⟩, by simp [intOf]; omega⟩
      · have HS' := HS.out
        rw [if_neg he] at HS'
        have HS2 := hid HS'
        have d2 : ((x : Int) == c) = false := by rw [← hx]; simpa using he
        clear HS HS' he hx
        generalize cnt (h.take j) c = m at *
        go_wp2
        exact ⟨⟨j + 1, by omega, by go_num, by rw [HS2.out]; rfl, trivial⟩, by simp [intOf]; omega⟩
    · obtain rfl : j = h.length := by omega
      have e := cnt_all h c
      rw [e]
      go_wp2
      go_ret
      exact ⟨rfl, rfl⟩
theorem gt_sub (x : Nat) (n : Int) (b : Bool) (h : decide (n ≤ (x : Int)) = b) : decide (n - 1 < (x : Int)) = b := by
  rw [← h]
  by_cases e : n ≤ (x : Int)
  · rw [decide_eq_true e, decide_eq_true (by omega)]
  · rw [decide_eq_false e, decide_eq_false (by omega)]
set_option maxHeartbeats 2000000 in
theorem rright_any (h : List UInt8) (n : Int) (w : World) : Calls Tryz.prog 45 #[.string ⟨h.toArray⟩, .int .i64 n] w fun e w' => e = .returned (.bool (rightB h n)) ∧ w' = w := by
  have hss : (⟨h.toArray⟩ : ByteArray).size = h.length := rfl
  by_cases h1 : n < 1
  · rw [right_false1 h n h1]
    have d1 : decide (n < 1) = true := decide_eq_true h1
    go_enter Tryz.func45, Tryz.ntmps45
    go_wp2
    go_ret
    exact ⟨rfl, rfl⟩
  by_cases h2 : 256 < n
  · rw [right_false2 h n h2]
    have d1 : decide (n < 1) = false := decide_eq_false h1
    have d2 : decide (256 < n) = true := decide_eq_true h2
    clear h1 h2
    go_enter Tryz.func45, Tryz.ntmps45
    go_wp2
    go_ret
    exact ⟨rfl, rfl⟩
  by_cases h3 : 512 < h.length
  · rw [right_false3 h n h3]
    have d1 : decide (n < 1) = false := decide_eq_false h1
    have d2 : decide (256 < n) = false := decide_eq_false h2
    have d3 : decide ((512 : Int) < (h.length : Int)) = true := by simp; omega
    clear h1 h2 h3
    go_enter Tryz.func45, Tryz.ntmps45
    go_wp2
    go_ret
    exact ⟨rfl, rfl⟩
  have d1 : decide (n < 1) = false := decide_eq_false h1
  have d2 : decide (256 < n) = false := decide_eq_false h2
  have d3 : decide ((512 : Int) < (h.length : Int)) = false := by simp; omega
  have HR := hid (right_true h n h1 h2 h3)
  have hn1 : 1 ≤ n ∧ n ≤ 256 := by omega
  have h3' : h.length ≤ 512 := by omega
  clear h1 h2 h3
  go_enter Tryz.func45, Tryz.ntmps45
  go_wp2
  go_loopw [5] (fun i w' => ∃ j : Nat, j ≤ h.length ∧ i = .int .i64 j ∧ Hid (∀ k, k < j → bv (h.getD k 0) < n) ∧ w' = w) (fun i _ => h.length - (intOf i).toNat)
  case atStart => exact ⟨0, by omega, rfl, fun k hk => absurd hk (Nat.not_lt_zero k), rfl⟩
  case round =>
    obtain ⟨j, hj, rfl, HN, hw⟩ := hrel
    subst wr
    by_cases hlt : j < h.length
    · have e1 : decide ((j : Int) < (h.length : Int)) = true := by simp; omega
      have hq : ((⟨h.toArray⟩ : ByteArray)[j]'(by rw [hss]; exact hlt)).toNat = (h.getD j 0).toNat := getD_byte h j _
      have hx : bv (h.getD j 0) = ((h.getD j 0).toNat : Int) := rfl
      have hx2 : (h.getD j 0).toNat < 256 := (h.getD j 0).toNat_lt
      by_cases he : n ≤ bv (h.getD j 0)
      · have HP := hid (right_false4 h n j hlt he)
        have d4 : decide (n - 1 < ((h.getD j 0).toNat : Int)) = true := gt_sub _ n _ (decide_eq_true (by rw [← hx]; exact he))
        generalize (h.getD j 0).toNat = x at *
        clear he hx HR HN
        go_wp2
        go_ret
        exact ⟨by rw [HP.out]; rfl, rfl⟩
      · have HN' : Hid (∀ k, k < j + 1 → bv (h.getD k 0) < n) := fun k hk => by
          by_cases e : k = j
          · rw [e]; omega
          · exact HN.out k (by omega)
        have d4 : decide (n - 1 < ((h.getD j 0).toNat : Int)) = false := gt_sub _ n _ (decide_eq_false (by rw [← hx]; exact he))
        generalize (h.getD j 0).toNat = x at *
        clear he hx HR HN
        go_wp2
        exact ⟨⟨j + 1, by omega, by go_num, HN'.out, trivial⟩, by simp [intOf]; omega⟩
    · obtain rfl : j = h.length := by omega
      have HP := hid (HR.out HN.out)
      clear HR HN
      go_wp2
      go_ret
      exact ⟨by rw [HP.out]; rfl, rfl⟩
end Go.Proofs.YtekfcbedlokidaaGreatDoor.Hist
namespace Go.Proofs.YtekfcbedlokidaaGreatDoor.Ms
open Go Go.RowKit
set_option maxRecDepth 100000
def rrE (E3 : Nat) (n3 : Int) (E7 N3 N7 len : Nat) (okv okw : Bool) : Int :=
  if E3 ≠ 0 then E3 else if n3 ≠ 0 ∧ n3 ≠ 1 then 6 else if n3 = 1 ∧ E7 ≠ 0 then E7 else if (if n3 = 1 then N7 else N3) ≠ len then 6 else if okv = false then 6 else if n3 = 0 then 0 else if okw = true then 0 else 6
theorem hsq {W : World} {X k : Nat} {V : List Value} {t : TypeId} {v : Value} (h : W.heap[X]? = some (.cells V.toArray t)) (hv : V[k]? = some v) : ∀ dd os, (Sort.grow (redrawn W dd) os).cell? ⟨X, k, none⟩ = some v := fun _ _ => cell_regrown (by rw [cell_of_row _ _ _ _ _ _ h]; simpa using hv) _ _
theorem row_backY {w : World} {g : Nat} {L : List Value} {t : TypeId} (h : w.heap[g]? = some (.cells ([] ++ (L ++ [])).toArray t)) : w.heap[g]? = some (.cells L.toArray t) := by simpa using h
theorem touch_kp {w W W' : World} {x G : Nat} (low : Below w.heap.size w W) (hk : Kp [x, G] W W') (hG : w.heap.size ≤ G) : Touch x w W' :=
  ⟨hk.os.trans low.os, hk.tape.trans low.tape, hk.output.trans low.output, Nat.le_trans low.size hk.size, fun k hk1 hne => (hk.block k (Nat.lt_of_lt_of_le hk1 low.size) (by simp only [List.mem_cons, List.not_mem_nil, or_false, not_or]; exact ⟨hne, by omega⟩)).trans (low.block k hk1)⟩
def RRd (w : World) (x : Nat) (AE : Int) (RF : List Value) (e : Ending) (w' : World) : Prop := ∃ G, w.heap.size ≤ G ∧ e = .returned (.tuple #[if AE = 0 then pt G 0 else .pointer none, nu AE]) ∧ (AE = 0 → w'.heap[G]? = some (.cells RF.toArray 56)) ∧ Touch x w w'
theorem RRd.no {w w' : World} {x : Nat} {AE k : Int} {RF : List Value} (h : AE = k) (hk : k ≠ 0) (ht : Touch x w w') : RRd w x AE RF (.returned (.tuple #[.pointer none, nu k])) w' := by
  subst h
  refine ⟨w.heap.size, Nat.le_refl _, ?_, fun h => absurd h hk, ht⟩
  rw [if_neg hk]
theorem RRd.yes {w w' : World} {x G : Nat} {AE : Int} {RF R : List Value} (h : AE = 0) (hG : w.heap.size ≤ G) (hF : RF = R) (hr : w'.heap[G]? = some (.cells R.toArray 56)) (ht : Touch x w w') : RRd w x AE RF (.returned (.tuple #[pt G 0, nu 0])) w' := by
  subst h
  subst hF
  refine ⟨G, hG, ?_, fun _ => hr, ht⟩
  rw [if_pos rfl]
set_option maxHeartbeats 32000000 in
theorem rread_core {w : World} {x n : Nat} {me n3 n4 n5 n6 cn rE AE : Int} {t v1 v2 v7 : List UInt8} {E3 E7 N3 N7 : Nat} {Bv : Bool} {Z2 P1 P2 P3 P4 P5 P6 P7 ZS VX R0 R2 RF : List Value} {RA : World → Prop}
    (HAE : Hid (AE = rrE E3 n3 E7 N3 N7 t.length (Bv && (decide (v2.length ≤ 256) && (v1.isEmpty || (lastI v1 == me)))) (n4 == cn + 1 && (rE == 0 && v7 == v2))))
    (HRF : Hid (RF = (if n3 = 1 then R2 else R0))) (kA : Hid (∀ W W', RA W → Below W.heap.size W W' → RA W')) (K0 : Hid (RA w)) (CX1 : Hid (∀ W, RA W → W.cell? ⟨x, 1, none⟩ = some (nu (n : Int)))) (IN : I64 (cn + 1)) (hv1 : v1.length ≤ 16384)
    (BZ : Hid (∀ W, (Instr.build 113 #[]).run Tryz.prog W = .ok (.agg Z2.toArray) W)) (ZZ2 : (Tryz.prog.info? 113).map (·.zero) = some (some (.agg Z2.toArray)))
    (S1 : Hid (∀ W, Calls Tryz.prog 43 #[st t, .agg Z2.toArray] W fun e w' => e = .returned (.tuple #[st v1, .agg P1.toArray]) ∧ Below W.heap.size W w'))
    (S2 : Hid (∀ W, Calls Tryz.prog 43 #[st t, .agg P1.toArray] W fun e w' => e = .returned (.tuple #[st v2, .agg P2.toArray]) ∧ Below W.heap.size W w'))
    (S3 : Hid (∀ W, Calls Tryz.prog 44 #[st t, .agg P2.toArray] W fun e w' => e = .returned (.tuple #[nu n3, .agg P3.toArray]) ∧ Below W.heap.size W w'))
    (S4 : Hid (∀ W, Calls Tryz.prog 44 #[st t, .agg P3.toArray] W fun e w' => e = .returned (.tuple #[nu n4, .agg P4.toArray]) ∧ Below W.heap.size W w'))
    (S5 : Hid (∀ W, Calls Tryz.prog 44 #[st t, .agg P4.toArray] W fun e w' => e = .returned (.tuple #[nu n5, .agg P5.toArray]) ∧ Below W.heap.size W w'))
    (S6 : Hid (∀ W, Calls Tryz.prog 44 #[st t, .agg P5.toArray] W fun e w' => e = .returned (.tuple #[nu n6, .agg P6.toArray]) ∧ Below W.heap.size W w'))
    (S7 : Hid (∀ W, Calls Tryz.prog 43 #[st t, .agg P6.toArray] W fun e w' => e = .returned (.tuple #[st v7, .agg P7.toArray]) ∧ Below W.heap.size W w'))
    (LZ : Z2.length = 2) (L1 : P1.length = 2) (L2 : P2.length = 2) (L3 : P3.length = 2) (L4 : P4.length = 2) (L5 : P5.length = 2) (L6 : P6.length = 2) (L7 : P7.length = 2)
    (O1 : Hid (∀ v ∈ P1, v.oneCell' = true)) (O2 : Hid (∀ v ∈ P2, v.oneCell' = true)) (O3 : Hid (∀ v ∈ P3, v.oneCell' = true)) (O4 : Hid (∀ v ∈ P4, v.oneCell' = true)) (O5 : Hid (∀ v ∈ P5, v.oneCell' = true)) (O6 : Hid (∀ v ∈ P6, v.oneCell' = true)) (O7 : Hid (∀ v ∈ P7, v.oneCell' = true))
    (HP3 : Hid (P3[0]? = some (nu (N3 : Int)) ∧ P3[1]? = some (nu (E3 : Int)))) (HP7 : Hid (P7[0]? = some (nu (N7 : Int)) ∧ P7[1]? = some (nu (E7 : Int))))
    (BS0 : Hid (∀ W, (Instr.build 25 #[]).run Tryz.prog W = .ok (.agg ZS.toArray) W)) (ZZS : (Tryz.prog.info? 25).map (·.zero) = some (some (.agg ZS.toArray))) (OZS : Hid (∀ v ∈ ZS, v.oneCell' = true)) (SZS : (Tryz.prog.info? 25).map (·.size) = some ZS.length)
    (BS4 : Hid (∀ W, (Instr.build 25 #[(0, nu n4), (1, nu n5), (2, nu n6), (3, st v7)]).run Tryz.prog W = .ok (.agg VX.toArray) W)) (LVX : ZS.length = VX.length) (OVX : Hid (∀ v ∈ VX, v.oneCell' = true)) (SVX : (Tryz.prog.info? 25).map (·.size) = some VX.length)
    (HVX : Hid (VX[0]? = some (nu n4) ∧ VX[1]? = some (nu n5) ∧ VX[2]? = some (nu n6) ∧ VX[3]? = some (st v7)))
    (BR : Hid (∀ W, (Instr.build 56 #[(0, pt x 0), (1, nu me), (2, st v1), (3, st v2)]).run Tryz.prog W = .ok (.agg R0.toArray) W))
    (HRi : Hid (∀ W, Calls Tryz.prog 45 #[st v1, nu (n : Int)] W fun e w' => e = .returned (.bool Bv) ∧ w' = W))
    (HCn : Hid (∀ W, Calls Tryz.prog 46 #[st v1, nu me] W fun e w' => e = .returned (nu cn) ∧ Below W.heap.size W w'))
    (HBd : Hid (∀ W G, W.heap[G]? = some (.cells R0.toArray 56) → RA W → Calls Tryz.prog 47 #[pt G 0, nu n5, nu n6, st v7] W fun e w' => e = .returned (nu rE) ∧ Below W.heap.size W w'))
    (HSe : Hid (Bv = true → v2.length ≤ 256 → n3 = 1 → E3 = 0 → E7 = 0 → v7 = v2 → ∀ W G, W.heap[G]? = some (.cells R0.toArray 56) → RA W → w.heap.size ≤ G → Calls Tryz.prog 48 #[pt G 0, nu n5, nu n6, st v7] W fun e w' => e = .returned (.tuple #[]) ∧ w'.heap[G]? = some (.cells R2.toArray 56) ∧ Kp [x, G] W w')) :
    Calls Tryz.prog 12 #[pt x 0, nu me, st t] w (RRd w x AE RF) := by
  show Calls _ _ _ _ (fun e w' => RRd w x AE RF e w')
  have SZ2 : ∀ P : List Value, P.length = 2 → (Tryz.prog.info? 113).map (·.size) = some P.length := fun P h => by rw [h]; exact sizeAt
  have hz : (⟨t.toArray⟩ : ByteArray).size = t.length := rfl
  have hz2 : (⟨v2.toArray⟩ : ByteArray).size = v2.length := rfl
  have hw1 : wrap64 (cn + 1) = cn + 1 := by obtain ⟨i1, i2⟩ := IN; unfold wrap64; omega
  go_enter Tryz.func12, Tryz.ntmps12
  go_wp2_with ((with_reducible refine wl_buildY 113 [] ?_ ?_ Z2.toArray ?_ ?_); exact rfl; exact rfl; exact (BZ.out _))
  refine (S1.out _).mono ?_
  rintro e W1 ⟨rfl, b1⟩
  have RA1 := hid (top_obj W1 (.cells P1.toArray 113))
  have LO1 := hid (below_two b1 (below_a1 W1 (.cells P1.toArray 113)))
  have hA0 := b1.size
  clear b1 S1
  go_upto_region 2 with (first
    | ((with_reducible refine wl_alloc 113 ?_ ?_ Z2.toArray ZZ2 ?_); exact rfl; exact rfl)
    | ((with_reducible refine wl_store_top 113 (.tmp 9) (.tmp 24) ?_ ?_ ?_ ?_ P1 Z2 ?_ 113 (LZ.trans L1.symm) O1.out (SZ2 P1 L1) ?_); exact rfl; exact rfl; exact rfl; exact rfl; exact rfl))
  try simp only [Act.put, List.setIfInBounds_toArray, List.set_cons_zero, List.set_cons_succ]
  generalize W1.alloc (.cells P1.toArray 113) = W2 at *
  generalize W1.heap.size = A at *
  go_wp2_with ((with_reducible refine wl_load 113 (.tmp 9) ?_ A 0 ?_ ?_ P1 _ (row_zeroY RA1.out) Tryz.underlying113 ?_ (SZ2 P1 L1) ?_); exact rfl; exact rfl; exact rfl; exact rfl)
  refine (S2.out _).mono ?_
  rintro e W3 ⟨rfl, b3⟩
  have RA3 := hid (row_kept RA1.out b3)
  have LO3 := hid (LO1.out.trans (b3.mono LO1.out.size))
  clear b3 S2 RA1 LO1
  go_upto_region 3 with ((with_reducible refine wl_put 113 (.tmp 9) (.tmp 30) ?_ ?_ A 0 ?_ ?_ [] P2 P1 [] ?_ 113 (row_nilY RA3.out) rfl (L1.trans L2.symm) O2.out (SZ2 P2 L2) ?_); exact rfl; exact rfl; exact rfl; exact rfl; exact rfl; intro W4 hrW4 hbW4)
  have RA4 := hid (row_backY hrW4)
  have LO4 := hid (hbW4.below LO3.out hA0)
  clear hrW4 hbW4 RA3 LO3
  go_wp2_with ((with_reducible refine wl_load 113 (.tmp 9) ?_ A 0 ?_ ?_ P2 _ (row_zeroY RA4.out) Tryz.underlying113 ?_ (SZ2 P2 L2) ?_); exact rfl; exact rfl; exact rfl; exact rfl)
  refine (S3.out _).mono ?_
  rintro e W5 ⟨rfl, b5⟩
  have RA5 := hid (row_kept RA4.out b5)
  have LO5 := hid (LO4.out.trans (b5.mono LO4.out.size))
  clear b5 S3 RA4 LO4
  go_upto_region 4 with ((with_reducible refine wl_put 113 (.tmp 9) (.tmp 36) ?_ ?_ A 0 ?_ ?_ [] P3 P2 [] ?_ 113 (row_nilY RA5.out) rfl (L2.trans L3.symm) O3.out (SZ2 P3 L3) ?_); exact rfl; exact rfl; exact rfl; exact rfl; exact rfl; intro W6 hrW6 hbW6)
  have RA6 := hid (row_backY hrW6)
  have LO6 := hid (hbW6.below LO5.out hA0)
  clear hrW6 hbW6 RA5 LO5
  have cE : W6.cell? ⟨A, 1, none⟩ = some (nu (E3 : Int)) := by rw [cell_of_row _ _ _ _ _ _ RA6.out]; simpa using HP3.out.2
  by_cases hE3 : E3 = 0
  · subst hE3
    by_cases hn : n3 = 0 ∨ n3 = 1
    · rcases hn with hn | hn
      · subst hn
        have RX := hid (top_obj W6 (.cells ZS.toArray 25))
        have RA7 := hid (row_kept RA6.out (below_a1 W6 (.cells ZS.toArray 25)))
        have LO7 := hid (LO6.out.trans ((below_a1 W6 (.cells ZS.toArray 25)).mono LO6.out.size))
        have hXw : w.heap.size ≤ W6.heap.size := LO6.out.size
        go_upto_region 7 with (first
          | ((with_reducible refine wl_buildY 25 [] ?_ ?_ ZS.toArray ?_ ?_); exact rfl; exact rfl; exact (BS0.out _))
          | ((with_reducible refine wl_alloc 25 ?_ ?_ ZS.toArray ZZS ?_); exact rfl; exact rfl)
          | ((with_reducible refine wl_store_top 25 (.tmp 12) (.tmp 48) ?_ ?_ ?_ ?_ ZS ZS ?_ 25 rfl OZS.out SZS ?_); exact rfl; exact rfl; exact rfl; exact rfl; exact rfl))
        try simp only [Act.put, List.setIfInBounds_toArray, List.set_cons_zero, List.set_cons_succ]
        generalize W6.alloc (.cells ZS.toArray 25) = W7 at *
        generalize W6.heap.size = X at *
        clear RA6 LO6 cE
        have cE : W7.cell? ⟨A, 1, none⟩ = some (nu 0) := by rw [cell_of_row _ _ _ _ _ _ RA7.out]; simpa using HP3.out.2
        go_upto_region 16 with fail
        have RG := hid (top_obj W7 (.cells R0.toArray 56))
        have RA9 := hid (row_kept RA7.out (below_a1 W7 (.cells R0.toArray 56)))
        have LO9 := hid (LO7.out.trans ((below_a1 W7 (.cells R0.toArray 56)).mono LO7.out.size))
        have hGw : w.heap.size ≤ W7.heap.size := LO7.out.size
        go_upto_region 17 with ((with_reducible refine wl_buildY 56 [(0, .tmp 91), (1, .tmp 92), (2, .tmp 93), (3, .tmp 94)] ?_ ?_ R0.toArray ?_ ?_); exact rfl; exact rfl; exact (BR.out _))
        try simp only [Act.put, List.setIfInBounds_toArray, List.set_cons_zero, List.set_cons_succ]
        generalize W7.alloc (.cells R0.toArray 56) = W9 at *
        generalize W7.heap.size = G at *
        have c9 : W9.cell? ⟨A, 0, none⟩ = some (nu (N3 : Int)) := by rw [cell_of_row _ _ _ _ _ _ RA9.out]; simpa using HP3.out.1
        have KA9 := hid (kA.out _ _ K0.out LO9.out)
        have x9 := CX1.out _ KA9.out
        clear cE
        by_cases hN : N3 = t.length
        · have dN : ((N3 : Int) != (t.length : Int)) = false := by simp; omega
          have dN' : (N3 != t.length) = false := by simp; omega
          cases Bv with
          | false =>
            have HA : Hid (AE = 6) := by show _ = _; rw [HAE.out]; simp [rrE, hN]
            clear HAE hN
            go_wp2_with fail
            refine (HRi.out _).mono ?_
            rintro e w1 ⟨rfl, hw1⟩
            subst w1
            go_wp2
            go_ret2
            exact RRd.no HA.out (by decide) (Touch.of LO9.out)
          | true =>
            by_cases hl : 256 < v2.length
            · have d1 : decide ((256 : Int) < (v2.length : Int)) = true := decide_eq_true (by omega)
              have d3 : decide (256 < v2.length) = true := decide_eq_true hl
              have hl' : ¬ v2.length ≤ 256 := by omega
              have HA : Hid (AE = 6) := by show _ = _; rw [HAE.out]; simp [rrE, hN, hl']
              clear HAE hN hl hl'
              go_wp2_with fail
              refine (HRi.out _).mono ?_
              rintro e w1 ⟨rfl, hw1⟩
              subst w1
              go_wp2
              go_ret2
              exact RRd.no HA.out (by decide) (Touch.of LO9.out)
            · have d1 : decide ((256 : Int) < (v2.length : Int)) = false := decide_eq_false (by omega)
              have d3 : decide (256 < v2.length) = false := decide_eq_false hl
              have hl' : v2.length ≤ 256 := by omega
              cases he : v1.isEmpty
              · obtain ⟨m, hm⟩ : ∃ m, v1.length = m + 1 := by
                  cases v1 with
                  | nil => cases he
                  | cons a l => exact ⟨l.length, rfl⟩
                have hss : (⟨v1.toArray⟩ : ByteArray).size = m + 1 := hm
                have hq : ((⟨v1.toArray⟩ : ByteArray)[m]'(by rw [hss]; omega)).toNat = (v1.getD m 0).toNat := byte_atZ v1 m _
                have HLI : Hid (lastI v1 = (((v1.getD m 0).toNat : Nat) : Int)) := by show _ = _; unfold lastI; rw [hm]; rfl
                obtain ⟨bb, HBB⟩ : ∃ bb : Nat, Hid (bb = (v1.getD m 0).toNat) := ⟨_, rfl⟩
                have hbb : bb < 256 := by rw [HBB.out]; exact UInt8.toNat_lt _
                rw [← HBB.out] at hq HLI
                have hmB : m < 16384 := by omega
                clear hm hv1
                by_cases hme : (bb : Int) = me
                · have dm : ((bb : Int) != me) = false := by simpa using hme
                  have hv : (lastI v1 == me) = true := by rw [HLI.out]; simpa using hme
                  have HAE2 := hid HAE.out
                  rw [he, hv] at HAE2
                  clear HAE HBB HLI hme hv
                  go_wp2_with fail
                  refine (HRi.out _).mono ?_
                  rintro e w1 ⟨rfl, hw1⟩
                  subst w1
                  have HA : Hid (AE = 0) := by show _ = _; rw [HAE2.out]; simp [rrE, hN, hl']
                  clear HAE2 hN hl hl'
                  go_wp2
                  go_ret2
                  exact RRd.yes (RF := RF) (R := R0) HA.out hGw (by show RF = R0; rw [HRF.out]; simp) RG.out (Touch.of LO9.out)
                · have dm : ((bb : Int) != me) = true := by simpa using hme
                  have hv : (lastI v1 == me) = false := by rw [HLI.out]; simpa using hme
                  have HA : Hid (AE = 6) := by show _ = _; rw [HAE.out, he, hv]; simp [rrE, hN]
                  clear HAE hN hl HBB HLI hme hv
                  go_wp2_with fail
                  refine (HRi.out _).mono ?_
                  rintro e w1 ⟨rfl, hw1⟩
                  subst w1
                  go_wp2
                  go_ret2
                  exact RRd.no HA.out (by decide) (Touch.of LO9.out)
              · have hnil : v1 = [] := by cases v1 with | nil => rfl | cons a l => cases he
                have HAE2 := hid HAE.out
                rw [he] at HAE2
                have hnil2 := hid hnil
                clear HAE
                have he2 : (v1 != []) = false := by rw [hnil]; rfl
                subst hnil
                go_wp2_with fail
                refine (HRi.out _).mono ?_
                rintro e w1 ⟨rfl, hw1⟩
                subst w1
                have HA : Hid (AE = 0) := by show _ = _; rw [HAE2.out]; simp [rrE, hN, hl']
                clear HAE2 hN hl hl'
                go_wp2
                go_ret2
                exact RRd.yes (RF := RF) (R := R0) HA.out hGw (by show RF = R0; rw [HRF.out]; simp) RG.out (Touch.of LO9.out)
        · have dN : ((N3 : Int) != (t.length : Int)) = true := by simp; omega
          have dN' : (N3 != t.length) = true := by simp; omega
          have HA : Hid (AE = 6) := by show _ = _; rw [HAE.out]; simp [rrE, hN]
          clear HAE hN
          go_wp2
          go_ret2
          exact RRd.no HA.out (by decide) (Touch.of LO9.out)
      · subst hn
        have RX := hid (top_obj W6 (.cells ZS.toArray 25))
        have RA7 := hid (row_kept RA6.out (below_a1 W6 (.cells ZS.toArray 25)))
        have LO7 := hid (LO6.out.trans ((below_a1 W6 (.cells ZS.toArray 25)).mono LO6.out.size))
        have hXw : w.heap.size ≤ W6.heap.size := LO6.out.size
        go_upto_region 7 with (first
          | ((with_reducible refine wl_buildY 25 [] ?_ ?_ ZS.toArray ?_ ?_); exact rfl; exact rfl; exact (BS0.out _))
          | ((with_reducible refine wl_alloc 25 ?_ ?_ ZS.toArray ZZS ?_); exact rfl; exact rfl)
          | ((with_reducible refine wl_store_top 25 (.tmp 12) (.tmp 48) ?_ ?_ ?_ ?_ ZS ZS ?_ 25 rfl OZS.out SZS ?_); exact rfl; exact rfl; exact rfl; exact rfl; exact rfl))
        try simp only [Act.put, List.setIfInBounds_toArray, List.set_cons_zero, List.set_cons_succ]
        generalize W6.alloc (.cells ZS.toArray 25) = W7 at *
        generalize W6.heap.size = X at *
        clear RA6 LO6 cE
        have cE7 : W7.cell? ⟨A, 1, none⟩ = some (nu 0) := by rw [cell_of_row _ _ _ _ _ _ RA7.out]; simpa using HP3.out.2
        have hAX : A ≠ X := ty_ne RX.out RA7.out (by decide)
        go_upto_region 8 with fail
        go_wp2_with ((with_reducible refine wl_load 113 (.tmp 9) ?_ A 0 ?_ ?_ P3 _ (row_zeroY RA7.out) Tryz.underlying113 ?_ (SZ2 P3 L3) ?_); exact rfl; exact rfl; exact rfl; exact rfl)
        refine (S4.out _).mono ?_
        rintro e V1 ⟨rfl, b⟩
        have RAa := hid (row_kept RA7.out (below_two b (below_a1 V1 (.cells P4.toArray 113))))
        have RXa := hid (row_kept RX.out (below_two b (below_a1 V1 (.cells P4.toArray 113))))
        have LOa := hid (LO7.out.trans ((below_two b (below_a1 V1 (.cells P4.toArray 113))).mono LO7.out.size))
        have RBa := hid (top_obj V1 (.cells P4.toArray 113))
        have hBw : w.heap.size ≤ V1.heap.size := (LO7.out.trans (b.mono LO7.out.size)).size
        have hAB : A ≠ V1.heap.size := by have := row_ltA (row_kept RA7.out b); omega
        clear b S4 RA7 RX LO7 cE7
        go_upto_region 9 with (first
          | ((with_reducible refine wl_alloc 113 ?_ ?_ Z2.toArray ZZ2 ?_); exact rfl; exact rfl)
          | ((with_reducible refine wl_store_top 113 (.tmp 14) (.tmp 61) ?_ ?_ ?_ ?_ P4 Z2 ?_ 113 (LZ.trans L4.symm) O4.out (SZ2 P4 L4) ?_); exact rfl; exact rfl; exact rfl; exact rfl; exact rfl))
        try simp only [Act.put, List.setIfInBounds_toArray, List.set_cons_zero, List.set_cons_succ]
        generalize V1.alloc (.cells P4.toArray 113) = V2 at *
        generalize V1.heap.size = B at *
        go_wp2_with ((with_reducible refine wl_load 113 (.tmp 14) ?_ B 0 ?_ ?_ P4 _ (row_zeroY RBa.out) Tryz.underlying113 ?_ (SZ2 P4 L4) ?_); exact rfl; exact rfl; exact rfl; exact rfl)
        refine (S5.out _).mono ?_
        rintro e V3 ⟨rfl, b⟩
        have RAb := hid (row_kept RAa.out b)
        have RXb := hid (row_kept RXa.out b)
        have RBb := hid (row_kept RBa.out b)
        have LOb := hid (LOa.out.trans (b.mono LOa.out.size))
        clear b S5 RAa RXa RBa LOa
        have hBX : B ≠ X := ty_ne RXb.out RBb.out (by decide)
        go_upto_region 10 with ((with_reducible refine wl_put 113 (.tmp 14) (.tmp 67) ?_ ?_ B 0 ?_ ?_ [] P5 P4 [] ?_ 113 (row_nilY RBb.out) rfl (L4.trans L5.symm) O5.out (SZ2 P5 L5) ?_); exact rfl; exact rfl; exact rfl; exact rfl; exact rfl; intro V4 hrV4 hbV4)
        have RAc := hid (hbV4.row RAb.out hAB)
        have RXc := hid (hbV4.row RXb.out (Ne.symm hBX))
        have RBc := hid (row_backY hrV4)
        have LOc := hid (hbV4.below LOb.out hBw)
        clear hrV4 hbV4 RAb RXb RBb LOb
        go_wp2_with ((with_reducible refine wl_load 113 (.tmp 14) ?_ B 0 ?_ ?_ P5 _ (row_zeroY RBc.out) Tryz.underlying113 ?_ (SZ2 P5 L5) ?_); exact rfl; exact rfl; exact rfl; exact rfl)
        refine (S6.out _).mono ?_
        rintro e V5 ⟨rfl, b⟩
        have RAd := hid (row_kept RAc.out b)
        have RXd := hid (row_kept RXc.out b)
        have RBd := hid (row_kept RBc.out b)
        have LOd := hid (LOc.out.trans (b.mono LOc.out.size))
        clear b S6 RAc RXc RBc LOc
        go_upto_region 11 with ((with_reducible refine wl_put 113 (.tmp 14) (.tmp 73) ?_ ?_ B 0 ?_ ?_ [] P6 P5 [] ?_ 113 (row_nilY RBd.out) rfl (L5.trans L6.symm) O6.out (SZ2 P6 L6) ?_); exact rfl; exact rfl; exact rfl; exact rfl; exact rfl; intro V6 hrV6 hbV6)
        have RAe := hid (hbV6.row RAd.out hAB)
        have RXe := hid (hbV6.row RXd.out (Ne.symm hBX))
        have RBe := hid (row_backY hrV6)
        have LOe := hid (hbV6.below LOd.out hBw)
        clear hrV6 hbV6 RAd RXd RBd LOd
        go_wp2_with ((with_reducible refine wl_load 113 (.tmp 14) ?_ B 0 ?_ ?_ P6 _ (row_zeroY RBe.out) Tryz.underlying113 ?_ (SZ2 P6 L6) ?_); exact rfl; exact rfl; exact rfl; exact rfl)
        refine (S7.out _).mono ?_
        rintro e V7 ⟨rfl, b⟩
        have RAf := hid (row_kept RAe.out b)
        have RXf := hid (row_kept RXe.out b)
        have RBf := hid (row_kept RBe.out b)
        have LOf := hid (LOe.out.trans (b.mono LOe.out.size))
        clear b S7 RAe RXe RBe LOe
        go_upto_region 12 with ((with_reducible refine wl_put 113 (.tmp 14) (.tmp 79) ?_ ?_ B 0 ?_ ?_ [] P7 P6 [] ?_ 113 (row_nilY RBf.out) rfl (L6.trans L7.symm) O7.out (SZ2 P7 L7) ?_); exact rfl; exact rfl; exact rfl; exact rfl; exact rfl; intro V8 hrV8 hbV8)
        have RAg := hid (hbV8.row RAf.out hAB)
        have RXg := hid (hbV8.row RXf.out (Ne.symm hBX))
        have RBg := hid (row_backY hrV8)
        have LOg := hid (hbV8.below LOf.out hBw)
        clear hrV8 hbV8 RAf RXf RBf LOf
        go_upto_region 13 with (first
          | ((with_reducible refine wl_buildY 25 [(0, .tmp 80), (1, .tmp 81), (2, .tmp 82), (3, .tmp 83)] ?_ ?_ VX.toArray ?_ ?_); exact rfl; exact rfl; exact (BS4.out _))
          | ((with_reducible refine wl_put 25 (.tmp 12) (.tmp 84) ?_ ?_ X 0 ?_ ?_ [] VX ZS [] ?_ 25 (row_nilY RXg.out) rfl LVX OVX.out SVX ?_); exact rfl; exact rfl; exact rfl; exact rfl; exact rfl; intro V9 hrV9 hbV9))
        have RAh := hid (hbV9.row RAg.out hAX)
        have RBh := hid (hbV9.row RBg.out hBX)
        have RXh := hid (row_backY hrV9)
        have LOh := hid (hbV9.below LOg.out hXw)
        clear hrV9 hbV9 RAg RXg RBg LOg
        go_upto_region 14 with (first
          | ((with_reducible refine wl_load 113 (.tmp 14) ?_ B 0 ?_ ?_ P7 _ (row_zeroY RBh.out) Tryz.underlying113 ?_ (SZ2 P7 L7) ?_); exact rfl; exact rfl; exact rfl; exact rfl)
          | ((with_reducible refine wl_put 113 (.tmp 9) (.tmp 85) ?_ ?_ A 0 ?_ ?_ [] P7 P3 [] ?_ 113 (row_nilY RAh.out) rfl (L3.trans L7.symm) O7.out (SZ2 P7 L7) ?_); exact rfl; exact rfl; exact rfl; exact rfl; exact rfl; intro VA hrVA hbVA))
        have RAi := hid (row_backY hrVA)
        have RXi := hid (hbVA.row RXh.out (Ne.symm hAX))
        have LOi := hid (hbVA.below LOh.out hA0)
        clear hrVA hbVA RAh RXh RBh LOh
        by_cases hE7 : E7 = 0
        · subst hE7
          have cE : VA.cell? ⟨A, 1, none⟩ = some (nu 0) := by rw [cell_of_row _ _ _ _ _ _ RAi.out]; simpa using HP7.out.2
          go_upto_region 16 with fail
          have RG := hid (top_obj VA (.cells R0.toArray 56))
          have RA9 := hid (row_kept RAi.out (below_a1 VA (.cells R0.toArray 56)))
          have LO9 := hid (LOi.out.trans ((below_a1 VA (.cells R0.toArray 56)).mono LOi.out.size))
          have hGw : w.heap.size ≤ VA.heap.size := LOi.out.size
          have RX9 := hid (row_kept RXi.out (below_a1 VA (.cells R0.toArray 56)))
          go_upto_region 17 with ((with_reducible refine wl_buildY 56 [(0, .tmp 91), (1, .tmp 92), (2, .tmp 93), (3, .tmp 94)] ?_ ?_ R0.toArray ?_ ?_); exact rfl; exact rfl; exact (BR.out _))
          try simp only [Act.put, List.setIfInBounds_toArray, List.set_cons_zero, List.set_cons_succ]
          generalize VA.alloc (.cells R0.toArray 56) = W9 at *
          generalize VA.heap.size = G at *
          have c9 : W9.cell? ⟨A, 0, none⟩ = some (nu (N7 : Int)) := by rw [cell_of_row _ _ _ _ _ _ RA9.out]; simpa using HP7.out.1
          have KA9 := hid (kA.out _ _ K0.out LO9.out)
          have x9 := CX1.out _ KA9.out
          clear cE
          by_cases hN : N7 = t.length
          · have dN : ((N7 : Int) != (t.length : Int)) = false := by simp; omega
            have dN' : (N7 != t.length) = false := by simp; omega
            cases Bv with
            | false =>
              have HA : Hid (AE = 6) := by show _ = _; rw [HAE.out]; simp [rrE, hN]
              clear HAE hN
              go_wp2_with fail
              refine (HRi.out _).mono ?_
              rintro e w1 ⟨rfl, hw1⟩
              subst w1
              go_wp2
              go_ret2
              exact RRd.no HA.out (by decide) (Touch.of LO9.out)
            | true =>
              by_cases hl : 256 < v2.length
              · have d1 : decide ((256 : Int) < (v2.length : Int)) = true := decide_eq_true (by omega)
                have d3 : decide (256 < v2.length) = true := decide_eq_true hl
                have hl' : ¬ v2.length ≤ 256 := by omega
                have HA : Hid (AE = 6) := by show _ = _; rw [HAE.out]; simp [rrE, hN, hl']
                clear HAE hN hl hl'
                go_wp2_with fail
                refine (HRi.out _).mono ?_
                rintro e w1 ⟨rfl, hw1⟩
                subst w1
                go_wp2
                go_ret2
                exact RRd.no HA.out (by decide) (Touch.of LO9.out)
              · have d1 : decide ((256 : Int) < (v2.length : Int)) = false := decide_eq_false (by omega)
                have d3 : decide (256 < v2.length) = false := decide_eq_false hl
                have hl' : v2.length ≤ 256 := by omega
                cases he : v1.isEmpty
                · obtain ⟨m, hm⟩ : ∃ m, v1.length = m + 1 := by
                    cases v1 with
                    | nil => cases he
                    | cons a l => exact ⟨l.length, rfl⟩
                  have hss : (⟨v1.toArray⟩ : ByteArray).size = m + 1 := hm
                  have hq : ((⟨v1.toArray⟩ : ByteArray)[m]'(by rw [hss]; omega)).toNat = (v1.getD m 0).toNat := byte_atZ v1 m _
                  have HLI : Hid (lastI v1 = (((v1.getD m 0).toNat : Nat) : Int)) := by show _ = _; unfold lastI; rw [hm]; rfl
                  obtain ⟨bb, HBB⟩ : ∃ bb : Nat, Hid (bb = (v1.getD m 0).toNat) := ⟨_, rfl⟩
                  have hbb : bb < 256 := by rw [HBB.out]; exact UInt8.toNat_lt _
                  rw [← HBB.out] at hq HLI
                  have hmB : m < 16384 := by omega
                  clear hm hv1
                  by_cases hme : (bb : Int) = me
                  · have dm : ((bb : Int) != me) = false := by simpa using hme
                    have hv : (lastI v1 == me) = true := by rw [HLI.out]; simpa using hme
                    have HAE2 := hid HAE.out
                    rw [he, hv] at HAE2
                    clear HAE HBB HLI hme hv
                    go_wp2_with fail
                    refine (HRi.out _).mono ?_
                    rintro e w1 ⟨rfl, hw1⟩
                    subst w1
                    cases g1 : (n4 == cn + 1)
                    · have g1' : (n4 != cn + 1) = true := by simp only [bne, g1]; rfl
                      rw [g1] at HAE2
                      have HA : Hid (AE = 6) := by show _ = _; rw [HAE2.out]; simp [rrE, hN, hl']
                      clear HAE2 hN hl hl'
                      go_upto_region 21 with fail
                      have H1 := regr (w := W9) (fun W _ => HCn.out W)
                      have H2 := regr (w := W9) (fun W hb => HBd.out W G (row_kept RG.out hb) (kA.out _ _ KA9.out hb))
                      have hs0 : ∀ dd os, (Sort.grow (redrawn W9 dd) os).cell? ⟨X, 0, none⟩ = some (nu n4) := hsq RX9.out HVX.out.1
                      have hs1 : ∀ dd os, (Sort.grow (redrawn W9 dd) os).cell? ⟨X, 1, none⟩ = some (nu n5) := hsq RX9.out HVX.out.2.1
                      have hs2 : ∀ dd os, (Sort.grow (redrawn W9 dd) os).cell? ⟨X, 2, none⟩ = some (nu n6) := hsq RX9.out HVX.out.2.2.1
                      have hs3 : ∀ dd os, (Sort.grow (redrawn W9 dd) os).cell? ⟨X, 3, none⟩ = some (st v7) := hsq RX9.out HVX.out.2.2.2
                      refine wp_region_quiet_below (by kernel_rfl) (by kernel_rfl) ?_
                      iterate 5 (first | go_big_quiet_step (exact H1.out _ _) | quiet_step (exact H1.out _ _))
                      repeat (first | go_big_quiet_step (exact H2.out _ _) | quiet_step (exact H2.out _ _))
                      refine wpQuiet_nil ?_
                      intro _ hw'
                      obtain ⟨⟨dq, osq⟩, hw''⟩ := hw'
                      subst hw''
                      have bq := below_regrown W9 dq osq
                      have LO10 := hid (LO9.out.trans (bq.mono LO9.out.size))
                      have RG10 := hid (row_kept RG.out bq)
                      have RX10 := hid (row_kept RX9.out bq)
                      have KA10 := hid (kA.out _ _ KA9.out bq)
                      clear hs0 hs1 hs2 hs3 H1 H2 bq c9 x9
                      generalize Sort.grow (redrawn W9 dq) osq = W10 at *
                      go_wp2
                      go_ret2
                      exact RRd.no HA.out (by decide) (Touch.of LO10.out)
                    · have g1' : (n4 != cn + 1) = false := by simp only [bne, g1]; rfl
                      rw [g1] at HAE2
                      cases g2 : (v7 == v2)
                      · have g2' : (v7 != v2) = true := by simp only [bne, g2]; rfl
                        rw [g2] at HAE2
                        have HA : Hid (AE = 6) := by show _ = _; rw [HAE2.out]; simp [rrE, hN, hl']
                        clear HAE2 hN hl hl'
                        go_upto_region 21 with fail
                        have H1 := regr (w := W9) (fun W _ => HCn.out W)
                        have H2 := regr (w := W9) (fun W hb => HBd.out W G (row_kept RG.out hb) (kA.out _ _ KA9.out hb))
                        have hs0 : ∀ dd os, (Sort.grow (redrawn W9 dd) os).cell? ⟨X, 0, none⟩ = some (nu n4) := hsq RX9.out HVX.out.1
                        have hs1 : ∀ dd os, (Sort.grow (redrawn W9 dd) os).cell? ⟨X, 1, none⟩ = some (nu n5) := hsq RX9.out HVX.out.2.1
                        have hs2 : ∀ dd os, (Sort.grow (redrawn W9 dd) os).cell? ⟨X, 2, none⟩ = some (nu n6) := hsq RX9.out HVX.out.2.2.1
                        have hs3 : ∀ dd os, (Sort.grow (redrawn W9 dd) os).cell? ⟨X, 3, none⟩ = some (st v7) := hsq RX9.out HVX.out.2.2.2
                        refine wp_region_quiet_below (by kernel_rfl) (by kernel_rfl) ?_
                        iterate 5 (first | go_big_quiet_step (exact H1.out _ _) | quiet_step (exact H1.out _ _))
                        repeat (first | go_big_quiet_step (exact H2.out _ _) | quiet_step (exact H2.out _ _))
                        refine wpQuiet_nil ?_
                        intro _ hw'
                        obtain ⟨⟨dq, osq⟩, hw''⟩ := hw'
                        subst hw''
                        have bq := below_regrown W9 dq osq
                        have LO10 := hid (LO9.out.trans (bq.mono LO9.out.size))
                        have RG10 := hid (row_kept RG.out bq)
                        have RX10 := hid (row_kept RX9.out bq)
                        have KA10 := hid (kA.out _ _ KA9.out bq)
                        clear hs0 hs1 hs2 hs3 H1 H2 bq c9 x9
                        generalize Sort.grow (redrawn W9 dq) osq = W10 at *
                        go_wp2
                        go_ret2
                        exact RRd.no HA.out (by decide) (Touch.of LO10.out)
                      · have g2' : (v7 != v2) = false := by simp only [bne, g2]; rfl
                        rw [g2] at HAE2
                        cases g3 : (rE == 0)
                        · have g3' : (rE != 0) = true := by simp only [bne, g3]; rfl
                          rw [g3] at HAE2
                          have HA : Hid (AE = 6) := by show _ = _; rw [HAE2.out]; simp [rrE, hN, hl']
                          clear HAE2 hN hl hl'
                          go_upto_region 21 with fail
                          have H1 := regr (w := W9) (fun W _ => HCn.out W)
                          have H2 := regr (w := W9) (fun W hb => HBd.out W G (row_kept RG.out hb) (kA.out _ _ KA9.out hb))
                          have hs0 : ∀ dd os, (Sort.grow (redrawn W9 dd) os).cell? ⟨X, 0, none⟩ = some (nu n4) := hsq RX9.out HVX.out.1
                          have hs1 : ∀ dd os, (Sort.grow (redrawn W9 dd) os).cell? ⟨X, 1, none⟩ = some (nu n5) := hsq RX9.out HVX.out.2.1
                          have hs2 : ∀ dd os, (Sort.grow (redrawn W9 dd) os).cell? ⟨X, 2, none⟩ = some (nu n6) := hsq RX9.out HVX.out.2.2.1
                          have hs3 : ∀ dd os, (Sort.grow (redrawn W9 dd) os).cell? ⟨X, 3, none⟩ = some (st v7) := hsq RX9.out HVX.out.2.2.2
                          refine wp_region_quiet_below (by kernel_rfl) (by kernel_rfl) ?_
                          iterate 5 (first | go_big_quiet_step (exact H1.out _ _) | quiet_step (exact H1.out _ _))
                          repeat (first | go_big_quiet_step (exact H2.out _ _) | quiet_step (exact H2.out _ _))
                          refine wpQuiet_nil ?_
                          intro _ hw'
                          obtain ⟨⟨dq, osq⟩, hw''⟩ := hw'
                          subst hw''
                          have bq := below_regrown W9 dq osq
                          have LO10 := hid (LO9.out.trans (bq.mono LO9.out.size))
                          have RG10 := hid (row_kept RG.out bq)
                          have RX10 := hid (row_kept RX9.out bq)
                          have KA10 := hid (kA.out _ _ KA9.out bq)
                          clear hs0 hs1 hs2 hs3 H1 H2 bq c9 x9
                          generalize Sort.grow (redrawn W9 dq) osq = W10 at *
                          go_wp2
                          go_ret2
                          exact RRd.no HA.out (by decide) (Touch.of LO10.out)
                        · have g3' : (rE != 0) = false := by simp only [bne, g3]; rfl
                          rw [g3] at HAE2
                          have hvv : v7 = v2 := by simpa using g2
                          have HA : Hid (AE = 0) := by show _ = _; rw [HAE2.out]; simp [rrE, hN, hl']
                          have HS := hid (HSe.out (by first | rfl | trivial) hl' (by first | rfl | trivial) (by first | rfl | trivial) (by first | rfl | trivial) hvv)
                          clear HAE2 hN hl hl' hvv HSe
                          go_upto_region 21 with fail
                          have H1 := regr (w := W9) (fun W _ => HCn.out W)
                          have H2 := regr (w := W9) (fun W hb => HBd.out W G (row_kept RG.out hb) (kA.out _ _ KA9.out hb))
                          have hs0 : ∀ dd os, (Sort.grow (redrawn W9 dd) os).cell? ⟨X, 0, none⟩ = some (nu n4) := hsq RX9.out HVX.out.1
                          have hs1 : ∀ dd os, (Sort.grow (redrawn W9 dd) os).cell? ⟨X, 1, none⟩ = some (nu n5) := hsq RX9.out HVX.out.2.1
                          have hs2 : ∀ dd os, (Sort.grow (redrawn W9 dd) os).cell? ⟨X, 2, none⟩ = some (nu n6) := hsq RX9.out HVX.out.2.2.1
                          have hs3 : ∀ dd os, (Sort.grow (redrawn W9 dd) os).cell? ⟨X, 3, none⟩ = some (st v7) := hsq RX9.out HVX.out.2.2.2
                          refine wp_region_quiet_below (by kernel_rfl) (by kernel_rfl) ?_
                          iterate 5 (first | go_big_quiet_step (exact H1.out _ _) | quiet_step (exact H1.out _ _))
                          repeat (first | go_big_quiet_step (exact H2.out _ _) | quiet_step (exact H2.out _ _))
                          refine wpQuiet_nil ?_
                          intro _ hw'
                          obtain ⟨⟨dq, osq⟩, hw''⟩ := hw'
                          subst hw''
                          have bq := below_regrown W9 dq osq
                          have LO10 := hid (LO9.out.trans (bq.mono LO9.out.size))
                          have RG10 := hid (row_kept RG.out bq)
                          have RX10 := hid (row_kept RX9.out bq)
                          have KA10 := hid (kA.out _ _ KA9.out bq)
                          clear hs0 hs1 hs2 hs3 H1 H2 bq c9 x9
                          generalize Sort.grow (redrawn W9 dq) osq = W10 at *
                          have k1 : W10.cell? ⟨X, 1, none⟩ = some (nu n5) := by rw [cell_of_row _ _ _ _ _ _ RX10.out]; simpa using HVX.out.2.1
                          have k2 : W10.cell? ⟨X, 2, none⟩ = some (nu n6) := by rw [cell_of_row _ _ _ _ _ _ RX10.out]; simpa using HVX.out.2.2.1
                          have k3 : W10.cell? ⟨X, 3, none⟩ = some (st v7) := by rw [cell_of_row _ _ _ _ _ _ RX10.out]; simpa using HVX.out.2.2.2
                          go_wp2_with fail
                          refine (HS.out W10 G RG10.out KA10.out hGw).mono ?_
                          rintro e W11 ⟨rfl, g11, kp11⟩
                          have G11 := hid g11
                          have T11 := hid (touch_kp LO10.out kp11 hGw)
                          clear g11 kp11 k1 k2 k3
                          go_wp2
                          go_ret2
                          exact RRd.yes (RF := RF) (R := R2) HA.out hGw (by show RF = R2; rw [HRF.out]; simp) G11.out T11.out
                  · have dm : ((bb : Int) != me) = true := by simpa using hme
                    have hv : (lastI v1 == me) = false := by rw [HLI.out]; simpa using hme
                    have HA : Hid (AE = 6) := by show _ = _; rw [HAE.out, he, hv]; simp [rrE, hN]
                    clear HAE hN hl HBB HLI hme hv
                    go_wp2_with fail
                    refine (HRi.out _).mono ?_
                    rintro e w1 ⟨rfl, hw1⟩
                    subst w1
                    go_wp2
                    go_ret2
                    exact RRd.no HA.out (by decide) (Touch.of LO9.out)
                · have hnil : v1 = [] := by cases v1 with | nil => rfl | cons a l => cases he
                  have HAE2 := hid HAE.out
                  rw [he] at HAE2
                  have hnil2 := hid hnil
                  clear HAE
                  have he2 : (v1 != []) = false := by rw [hnil]; rfl
                  subst hnil
                  go_wp2_with fail
                  refine (HRi.out _).mono ?_
                  rintro e w1 ⟨rfl, hw1⟩
                  subst w1
                  cases g1 : (n4 == cn + 1)
                  · have g1' : (n4 != cn + 1) = true := by simp only [bne, g1]; rfl
                    rw [g1] at HAE2
                    have HA : Hid (AE = 6) := by show _ = _; rw [HAE2.out]; simp [rrE, hN, hl']
                    clear HAE2 hN hl hl'
                    go_upto_region 21 with fail
                    have H1 := regr (w := W9) (fun W _ => HCn.out W)
                    have H2 := regr (w := W9) (fun W hb => HBd.out W G (row_kept RG.out hb) (kA.out _ _ KA9.out hb))
                    have hs0 : ∀ dd os, (Sort.grow (redrawn W9 dd) os).cell? ⟨X, 0, none⟩ = some (nu n4) := hsq RX9.out HVX.out.1
                    have hs1 : ∀ dd os, (Sort.grow (redrawn W9 dd) os).cell? ⟨X, 1, none⟩ = some (nu n5) := hsq RX9.out HVX.out.2.1
                    have hs2 : ∀ dd os, (Sort.grow (redrawn W9 dd) os).cell? ⟨X, 2, none⟩ = some (nu n6) := hsq RX9.out HVX.out.2.2.1
                    have hs3 : ∀ dd os, (Sort.grow (redrawn W9 dd) os).cell? ⟨X, 3, none⟩ = some (st v7) := hsq RX9.out HVX.out.2.2.2
                    refine wp_region_quiet_below (by kernel_rfl) (by kernel_rfl) ?_
                    iterate 5 (first | go_big_quiet_step (exact H1.out _ _) | quiet_step (exact H1.out _ _))
                    repeat (first | go_big_quiet_step (exact H2.out _ _) | quiet_step (exact H2.out _ _))
                    refine wpQuiet_nil ?_
                    intro _ hw'
                    obtain ⟨⟨dq, osq⟩, hw''⟩ := hw'
                    subst hw''
                    have bq := below_regrown W9 dq osq
                    have LO10 := hid (LO9.out.trans (bq.mono LO9.out.size))
                    have RG10 := hid (row_kept RG.out bq)
                    have RX10 := hid (row_kept RX9.out bq)
                    have KA10 := hid (kA.out _ _ KA9.out bq)
                    clear hs0 hs1 hs2 hs3 H1 H2 bq c9 x9
                    generalize Sort.grow (redrawn W9 dq) osq = W10 at *
                    go_wp2
                    go_ret2
                    exact RRd.no HA.out (by decide) (Touch.of LO10.out)
                  · have g1' : (n4 != cn + 1) = false := by simp only [bne, g1]; rfl
                    rw [g1] at HAE2
                    cases g2 : (v7 == v2)
                    · have g2' : (v7 != v2) = true := by simp only [bne, g2]; rfl
                      rw [g2] at HAE2
                      have HA : Hid (AE = 6) := by show _ = _; rw [HAE2.out]; simp [rrE, hN, hl']
                      clear HAE2 hN hl hl'
                      go_upto_region 21 with fail
                      have H1 := regr (w := W9) (fun W _ => HCn.out W)
                      have H2 := regr (w := W9) (fun W hb => HBd.out W G (row_kept RG.out hb) (kA.out _ _ KA9.out hb))
                      have hs0 : ∀ dd os, (Sort.grow (redrawn W9 dd) os).cell? ⟨X, 0, none⟩ = some (nu n4) := hsq RX9.out HVX.out.1
                      have hs1 : ∀ dd os, (Sort.grow (redrawn W9 dd) os).cell? ⟨X, 1, none⟩ = some (nu n5) := hsq RX9.out HVX.out.2.1
                      have hs2 : ∀ dd os, (Sort.grow (redrawn W9 dd) os).cell? ⟨X, 2, none⟩ = some (nu n6) := hsq RX9.out HVX.out.2.2.1
                      have hs3 : ∀ dd os, (Sort.grow (redrawn W9 dd) os).cell? ⟨X, 3, none⟩ = some (st v7) := hsq RX9.out HVX.out.2.2.2
                      refine wp_region_quiet_below (by kernel_rfl) (by kernel_rfl) ?_
                      iterate 5 (first | go_big_quiet_step (exact H1.out _ _) | quiet_step (exact H1.out _ _))
                      repeat (first | go_big_quiet_step (exact H2.out _ _) | quiet_step (exact H2.out _ _))
                      refine wpQuiet_nil ?_
                      intro _ hw'
                      obtain ⟨⟨dq, osq⟩, hw''⟩ := hw'
                      subst hw''
                      have bq := below_regrown W9 dq osq
                      have LO10 := hid (LO9.out.trans (bq.mono LO9.out.size))
                      have RG10 := hid (row_kept RG.out bq)
                      have RX10 := hid (row_kept RX9.out bq)
                      have KA10 := hid (kA.out _ _ KA9.out bq)
                      clear hs0 hs1 hs2 hs3 H1 H2 bq c9 x9
                      generalize Sort.grow (redrawn W9 dq) osq = W10 at *
                      go_wp2
                      go_ret2
                      exact RRd.no HA.out (by decide) (Touch.of LO10.out)
                    · have g2' : (v7 != v2) = false := by simp only [bne, g2]; rfl
                      rw [g2] at HAE2
                      cases g3 : (rE == 0)
                      · have g3' : (rE != 0) = true := by simp only [bne, g3]; rfl
                        rw [g3] at HAE2
                        have HA : Hid (AE = 6) := by show _ = _; rw [HAE2.out]; simp [rrE, hN, hl']
                        clear HAE2 hN hl hl'
                        go_upto_region 21 with fail
                        have H1 := regr (w := W9) (fun W _ => HCn.out W)
                        have H2 := regr (w := W9) (fun W hb => HBd.out W G (row_kept RG.out hb) (kA.out _ _ KA9.out hb))
                        have hs0 : ∀ dd os, (Sort.grow (redrawn W9 dd) os).cell? ⟨X, 0, none⟩ = some (nu n4) := hsq RX9.out HVX.out.1
                        have hs1 : ∀ dd os, (Sort.grow (redrawn W9 dd) os).cell? ⟨X, 1, none⟩ = some (nu n5) := hsq RX9.out HVX.out.2.1
                        have hs2 : ∀ dd os, (Sort.grow (redrawn W9 dd) os).cell? ⟨X, 2, none⟩ = some (nu n6) := hsq RX9.out HVX.out.2.2.1
                        have hs3 : ∀ dd os, (Sort.grow (redrawn W9 dd) os).cell? ⟨X, 3, none⟩ = some (st v7) := hsq RX9.out HVX.out.2.2.2
                        refine wp_region_quiet_below (by kernel_rfl) (by kernel_rfl) ?_
                        iterate 5 (first | go_big_quiet_step (exact H1.out _ _) | quiet_step (exact H1.out _ _))
                        repeat (first | go_big_quiet_step (exact H2.out _ _) | quiet_step (exact H2.out _ _))
                        refine wpQuiet_nil ?_
                        intro _ hw'
                        obtain ⟨⟨dq, osq⟩, hw''⟩ := hw'
                        subst hw''
                        have bq := below_regrown W9 dq osq
                        have LO10 := hid (LO9.out.trans (bq.mono LO9.out.size))
                        have RG10 := hid (row_kept RG.out bq)
                        have RX10 := hid (row_kept RX9.out bq)
                        have KA10 := hid (kA.out _ _ KA9.out bq)
                        clear hs0 hs1 hs2 hs3 H1 H2 bq c9 x9
                        generalize Sort.grow (redrawn W9 dq) osq = W10 at *
                        go_wp2
                        go_ret2
                        exact RRd.no HA.out (by decide) (Touch.of LO10.out)
                      · have g3' : (rE != 0) = false := by simp only [bne, g3]; rfl
                        rw [g3] at HAE2
                        have hvv : v7 = v2 := by simpa using g2
                        have HA : Hid (AE = 0) := by show _ = _; rw [HAE2.out]; simp [rrE, hN, hl']
                        have HS := hid (HSe.out (by first | rfl | trivial) hl' (by first | rfl | trivial) (by first | rfl | trivial) (by first | rfl | trivial) hvv)
                        clear HAE2 hN hl hl' hvv HSe
                        go_upto_region 21 with fail
                        have H1 := regr (w := W9) (fun W _ => HCn.out W)
                        have H2 := regr (w := W9) (fun W hb => HBd.out W G (row_kept RG.out hb) (kA.out _ _ KA9.out hb))
                        have hs0 : ∀ dd os, (Sort.grow (redrawn W9 dd) os).cell? ⟨X, 0, none⟩ = some (nu n4) := hsq RX9.out HVX.out.1
                        have hs1 : ∀ dd os, (Sort.grow (redrawn W9 dd) os).cell? ⟨X, 1, none⟩ = some (nu n5) := hsq RX9.out HVX.out.2.1
                        have hs2 : ∀ dd os, (Sort.grow (redrawn W9 dd) os).cell? ⟨X, 2, none⟩ = some (nu n6) := hsq RX9.out HVX.out.2.2.1
                        have hs3 : ∀ dd os, (Sort.grow (redrawn W9 dd) os).cell? ⟨X, 3, none⟩ = some (st v7) := hsq RX9.out HVX.out.2.2.2
                        refine wp_region_quiet_below (by kernel_rfl) (by kernel_rfl) ?_
                        iterate 5 (first | go_big_quiet_step (exact H1.out _ _) | quiet_step (exact H1.out _ _))
                        repeat (first | go_big_quiet_step (exact H2.out _ _) | quiet_step (exact H2.out _ _))
                        refine wpQuiet_nil ?_
                        intro _ hw'
                        obtain ⟨⟨dq, osq⟩, hw''⟩ := hw'
                        subst hw''
                        have bq := below_regrown W9 dq osq
                        have LO10 := hid (LO9.out.trans (bq.mono LO9.out.size))
                        have RG10 := hid (row_kept RG.out bq)
                        have RX10 := hid (row_kept RX9.out bq)
                        have KA10 := hid (kA.out _ _ KA9.out bq)
                        clear hs0 hs1 hs2 hs3 H1 H2 bq c9 x9
                        generalize Sort.grow (redrawn W9 dq) osq = W10 at *
                        have k1 : W10.cell? ⟨X, 1, none⟩ = some (nu n5) := by rw [cell_of_row _ _ _ _ _ _ RX10.out]; simpa using HVX.out.2.1
                        have k2 : W10.cell? ⟨X, 2, none⟩ = some (nu n6) := by rw [cell_of_row _ _ _ _ _ _ RX10.out]; simpa using HVX.out.2.2.1
                        have k3 : W10.cell? ⟨X, 3, none⟩ = some (st v7) := by rw [cell_of_row _ _ _ _ _ _ RX10.out]; simpa using HVX.out.2.2.2
                        go_wp2_with fail
                        refine (HS.out W10 G RG10.out KA10.out hGw).mono ?_
                        rintro e W11 ⟨rfl, g11, kp11⟩
                        have G11 := hid g11
                        have T11 := hid (touch_kp LO10.out kp11 hGw)
                        clear g11 kp11 k1 k2 k3
                        go_wp2
                        go_ret2
                        exact RRd.yes (RF := RF) (R := R2) HA.out hGw (by show RF = R2; rw [HRF.out]; simp) G11.out T11.out
          · have dN : ((N7 : Int) != (t.length : Int)) = true := by simp; omega
            have dN' : (N7 != t.length) = true := by simp; omega
            have HA : Hid (AE = 6) := by show _ = _; rw [HAE.out]; simp [rrE, hN]
            clear HAE hN
            go_wp2
            go_ret2
            exact RRd.no HA.out (by decide) (Touch.of LO9.out)
        · have de : ((E7 : Int) != 0) = true := by simp; omega
          have de' : (E7 != 0) = true := by simp; omega
          have HA : Hid (AE = E7) := by show _ = _; rw [HAE.out]; simp [rrE, hE7]
          have HNE := hid hE7
          clear HAE hE7
          have CE : Hid (VA.cell? ⟨A, 1, none⟩ = some (nu (E7 : Int))) := by show _ = _; rw [cell_of_row _ _ _ _ _ _ RAi.out]; simpa using HP7.out.2
          have cE := CE.out
          go_upto_region 15 with fail
          clear cE
          refine wp_region_cs (N := 166) [(pt A 1), (nu (E7 : Int)), (Value.pointer none), (nu (E7 : Int))] (fun L W => Below VA.heap.size VA W) [(89, (pt A 1)), (90, (nu (E7 : Int))), (6, (Value.pointer none)), (7, (nu (E7 : Int)))] (by kernel_rfl) (by kernel_rfl) rfl (fun w1 hb => hb) (by kernel_rfl) ?_ ?_
          · intro i o ho
            match i, ho with
            | 0, ho => cases ho; exact fun L a w hLi hw hnot hJ hk hv K h => op_fa 9 _ 1 A 0 1 rfl (fun W => by kernel_rfl) (hk 9 (by kernel_rfl)) (h _ hJ)
            | 1, ho => cases ho; exact fun L a w hLi hw hnot hJ hk hv K h => op_load1 _ (.tmp 89) rfl A 1 (hv 0 89 (by kernel_rfl) (by kernel_rfl)) (nu (E7 : Int)) _ (cell_keptY CE.out hJ) Tryz.underlying35 rfl (h _ hJ)
            | 2, ho => cases ho; exact fun L a w hLi hw hnot hJ hk hv K h => op_assignC _ rfl (h _ hJ)
            | 3, ho => cases ho; exact fun L a w hLi hw hnot hJ hk hv K h => op_assign 90 _ rfl (hv 1 90 (by kernel_rfl) (by kernel_rfl)) (h _ hJ)
            | (i + 4), ho => exact absurd ho (by simp)
          intro LL W8 hall hJ
          simp only [List.foldl_cons, List.foldl_nil, List.setIfInBounds_toArray, List.set_cons_zero, List.set_cons_succ]
          have LO8 := hid (LOi.out.trans (hJ.mono LOi.out.size))
          clear hJ hall
          go_wp2
          go_ret2
          exact RRd.no HA.out (by have := HNE.out; omega) (Touch.of LO8.out)
    · have dn0 : (n3 != 0) = true := by simp; intro h; exact hn (Or.inl h)
      have dn1 : (n3 != 1) = true := by simp; intro h; exact hn (Or.inr h)
      have e0 : ¬ n3 = 0 := fun h => hn (Or.inl h)
      have e1 : ¬ n3 = 1 := fun h => hn (Or.inr h)
      have HA : Hid (AE = 6) := by show _ = _; rw [HAE.out]; simp [rrE, e0, e1]
      clear HAE
      go_wp2
      go_ret2
      exact RRd.no HA.out (by decide) (Touch.of LO6.out)
  · have de : ((E3 : Int) == 0) = false := by simp; omega
    have de' : (E3 == 0) = false := by simp; omega
    have de2 : ((E3 : Int) != 0) = true := by simp; omega
    have de3 : (E3 != 0) = true := by simp; omega
    have HA : Hid (AE = E3) := by show _ = _; rw [HAE.out]; simp [rrE, hE3]
    have HNE := hid hE3
    clear HAE hE3
    have RX := hid (top_obj W6 (.cells ZS.toArray 25))
    have RA7 := hid (row_kept RA6.out (below_a1 W6 (.cells ZS.toArray 25)))
    have LO7 := hid (LO6.out.trans ((below_a1 W6 (.cells ZS.toArray 25)).mono LO6.out.size))
    have hXw : w.heap.size ≤ W6.heap.size := LO6.out.size
    go_upto_region 7 with (first
      | ((with_reducible refine wl_buildY 25 [] ?_ ?_ ZS.toArray ?_ ?_); exact rfl; exact rfl; exact (BS0.out _))
      | ((with_reducible refine wl_alloc 25 ?_ ?_ ZS.toArray ZZS ?_); exact rfl; exact rfl)
      | ((with_reducible refine wl_store_top 25 (.tmp 12) (.tmp 48) ?_ ?_ ?_ ?_ ZS ZS ?_ 25 rfl OZS.out SZS ?_); exact rfl; exact rfl; exact rfl; exact rfl; exact rfl))
    try simp only [Act.put, List.setIfInBounds_toArray, List.set_cons_zero, List.set_cons_succ]
    generalize W6.alloc (.cells ZS.toArray 25) = W7 at *
    generalize W6.heap.size = X at *
    clear RA6 LO6 cE
    have CE : Hid (W7.cell? ⟨A, 1, none⟩ = some (nu (E3 : Int))) := by show _ = _; rw [cell_of_row _ _ _ _ _ _ RA7.out]; simpa using HP3.out.2
    have cE := CE.out
    go_upto_region 15 with fail
    clear cE
    refine wp_region_cs (N := 166) [(pt A 1), (nu (E3 : Int)), (Value.pointer none), (nu (E3 : Int))] (fun L W => Below W7.heap.size W7 W) [(89, (pt A 1)), (90, (nu (E3 : Int))), (6, (Value.pointer none)), (7, (nu (E3 : Int)))] (by kernel_rfl) (by kernel_rfl) rfl (fun w1 hb => hb) (by kernel_rfl) ?_ ?_
    · intro i o ho
      match i, ho with
      | 0, ho => cases ho; exact fun L a w hLi hw hnot hJ hk hv K h => op_fa 9 _ 1 A 0 1 rfl (fun W => by kernel_rfl) (hk 9 (by kernel_rfl)) (h _ hJ)
      | 1, ho => cases ho; exact fun L a w hLi hw hnot hJ hk hv K h => op_load1 _ (.tmp 89) rfl A 1 (hv 0 89 (by kernel_rfl) (by kernel_rfl)) (nu (E3 : Int)) _ (cell_keptY CE.out hJ) Tryz.underlying35 rfl (h _ hJ)
      | 2, ho => cases ho; exact fun L a w hLi hw hnot hJ hk hv K h => op_assignC _ rfl (h _ hJ)
      | 3, ho => cases ho; exact fun L a w hLi hw hnot hJ hk hv K h => op_assign 90 _ rfl (hv 1 90 (by kernel_rfl) (by kernel_rfl)) (h _ hJ)
      | (i + 4), ho => exact absurd ho (by simp)
    intro LL W8 hall hJ
    simp only [List.foldl_cons, List.foldl_nil, List.setIfInBounds_toArray, List.set_cons_zero, List.set_cons_succ]
    have LO8 := hid (LO7.out.trans (hJ.mono LO7.out.size))
    clear hJ hall
    go_wp2
    go_ret2
    exact RRd.no HA.out (by have := HNE.out; omega) (Touch.of LO8.out)
end Go.Proofs.YtekfcbedlokidaaGreatDoor.Ms
