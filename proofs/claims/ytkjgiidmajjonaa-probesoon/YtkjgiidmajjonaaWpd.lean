/-
  A call of both, over what the program answers.
-/
import Derived.Test.YtkjgiidmajjonaaWpn
namespace Go.Proofs.Ytkjgiidmajjonaa.Kn
open Go Go.RowKit
set_option maxRecDepth 100000

theorem op_eqlB {P : Program} {o : Oper} {a : Act} {w : World} {Q : Exit → Act → World → Prop} {K : Act → World → Prop} (x y : Tmp) (T R : TypeId) (b c : Bool) (ht : P.underlying T = some .bool) (ho : o.op = .binOp .eql T (.tmp x) (.tmp y) R) (hx : a.tmps.getD x undef = .bool b) (hy : a.tmps.getD y undef = .bool c) (h : K (a.put o.dst (.bool (b == c))) w) : o.wp P a w K Q := by
  have ex : a.eval (.tmp x) = .bool b := hx
  have ey : a.eval (.tmp y) = .bool c := hy
  unfold Oper.wp execOp
  simp only [ho, ex, ey]
  simp [binOp, eqGuard, run_equal_bool (P := P) w T b c ht]
  exact h
/-- The state behind an act. -/
def actP (n me : Nat) (p : Pb) (kd cl : Int) : Pb := if 0 ≤ kd ∧ kd ≤ 4 then tickP n me (kd == 4) p else if kd = 5 then heardPb n me p cl else askedPb me p
theorem XAt.kpx {w w' : World} {q g cap n me : Nat} {S : List Value} {p : Pb} {F : List Nat} (h : XAt w q g cap S n me p) (hk : Kp F w w') (hq : q ∉ F) (hg : g ∉ F) : XAt w' q g cap S n me p := ⟨hk.row h.obj hq, hk.row h.row hg, h.len, h.ne⟩
/-- What a call of both leaves. -/
def DoPost (KS : Nat → List Nat → Pb → World → Prop) (w : World) (pp q g cap n me : Nat) (S : List Value) (F : List Nat) (p' : Pb) (e : Ending) (w' : World) : Prop :=
  ∃ F', e = .returned (.bool true) ∧ KS pp F' p' w' ∧ XAt w' q g cap S n me p' ∧ (q ∉ F' ∧ g ∉ F') ∧ Kp (q :: g :: F) w w' ∧ ∀ x ∈ F', x ∈ F ∨ w.heap.size ≤ x
set_option maxHeartbeats 16000000 in
theorem pdo_core {w : World} (n me : Nat) (h8 : n ≤ 8) (hm : me < n) {pp q g cap : Nat} {S : List Value} {F : List Nat} {p : Pb} (kd cl : Int) {KS : Nat → List Nat → Pb → World → Prop} (hS : KS pp F p w) (hX : XAt w q g cap S n me p) (hq : q ∉ F) (hg : g ∉ F) (hn0 : 0 ≤ p.now) (hn9 : p.now ≤ 90) (hnx : 0 ≤ p.next ∧ p.next < n) (HFl : ∀ x ∈ F, x ≠ w.heap.size)
    (HK : Hid (∀ pp F p W W', KS pp F p W → Below W.heap.size W W' → KS pp F p W'))
    (HKk : Hid (∀ pp F p W W' X, KS pp F p W → Kp X W W' → (∀ x ∈ X, x ∉ F) → KS pp F p W'))
    (HH : Hid (∀ F W c, KS pp F p W → Calls Try.prog 15 #[pt pp 0, nu c] W fun e w' => ∃ F', e = .returned (.bool (othB n me c)) ∧ KS pp F' (heardPb n me p c) w' ∧ Kp F W w' ∧ ∀ x ∈ F', x ∈ F ∨ W.heap.size ≤ x))
    (HS : Hid (∀ F W, KS pp F p W → Calls Try.prog 16 #[pt pp 0] W fun e w' => ∃ F', e = .returned (.bool true) ∧ KS pp F' (askedPb me p) w' ∧ Kp F W w' ∧ ∀ x ∈ F', x ∈ F ∨ W.heap.size ≤ x))
    (HT : Hid (∀ F W b, KS pp F p W → Calls Try.prog 17 #[pt pp 0, .bool b] W fun e w' => ∃ F' u, e = .returned (.tuple #[u, nu (tickN me b p)]) ∧ IntsAt w' u (outT n me p) ∧ KS pp F' (tickP n me b p) w' ∧ Kp F W w' ∧ (∀ b, u.ownBlock = some b → W.heap.size ≤ b) ∧ ∀ x ∈ F', x ∈ F ∨ W.heap.size ≤ x)) :
    Calls Try.prog 11 #[pt pp 0, pt q 0, .agg #[nu kd, nu cl]] w (DoPost KS w pp q g cap n me S F (actP n me p kd cl)) := by
  have hlt := hX.lt
  have B0 := hid (below_a1 w (.cells #[nu kd, nu cl] 32))
  have R0 := hid (top_obj w (.cells #[nu kd, nu cl] 32))
  have S0 := hid (HK.out _ _ _ _ _ hS B0.out)
  have X0 := hid (hX.kept B0.out)
  have hs0 : (w.alloc (.cells #[nu kd, nu cl] 32)).heap.size = w.heap.size + 1 := by simp
  have c0 := lkd0 (x := kd) (y := cl) R0.out
  have c1 := lkd1 (x := kd) (y := cl) R0.out
  have hPO : ∀ F' W p' , p' = actP n me p kd cl → KS pp F' p' W → XAt W q g cap S n me p' → q ∉ F' → g ∉ F' → Kp (q :: g :: F) w W → (∀ x ∈ F', x ∈ F ∨ w.heap.size ≤ x) → DoPost KS w pp q g cap n me S F (actP n me p kd cl) (.returned (.bool true)) W := fun F' W p' e a b c d f h => ⟨F', rfl, e ▸ a, e ▸ b, ⟨c, d⟩, f, h⟩
  have HPO := hid hPO
  clear hS hX hPO
  have HF0 : w.heap.size ∉ F := fun hm0 => HFl _ hm0 rfl
  by_cases h0 : kd = 0
  · have hk := h0
    subst hk
    have hact : tickP n me false p = actP n me p 0 cl := rfl
    go_enter Try.func11, Try.ntmps11
    go_upto_region 1 with fail
    generalize w.alloc (.cells #[nu 0, nu cl] 32) = W0 at *
    go_wp2_with fail
    refine (HT.out _ _ false S0.out).mono ?_
    rintro e W1 ⟨F1, u, rfl, i1, s1, kp, hfr, hsub⟩
    have X1 := hid (X0.out.kpx kp hq hg)
    have S1 := hid s1
    have I1 := hid i1
    have HFR := hid hfr
    have HSB := hid hsub
    have K1 : Hid (Kp F w W1) := (Kp.of B0.out : Kp F w W0).trans kp
    have hsz : W0.heap.size ≤ W1.heap.size := kp.size
    have D0 := (kp.row R0.out HF0)
    clear s1 i1 kp hfr hsub c0 c1 S0 X0
    have c0 := lkd0 (x := 0) (y := cl) D0
    clear D0
    go_wp2_with fail
    refine (rtick_any X1.out hm h8 ⟨hn0, by omega⟩ hnx false).mono ?_
    rintro e W2 ⟨u2, rfl, i2, x2, kp⟩
    have hq1 : q ∉ F1 := fun hx => by rcases HSB.out q hx with h | h; exact hq h; omega
    have hg1 : g ∉ F1 := fun hx => by rcases HSB.out g hx with h | h; exact hg h; omega
    have S2 := hid (HKk.out _ _ _ _ _ _ S1.out kp (fun x hx => by rcases List.mem_cons.1 hx with rfl | hx; exact hq1; rcases List.mem_cons.1 hx with rfl | hx; exact hg1; cases hx))
    have I2 := hid (I1.out.kpb (F := [q, g]) (fun b hb => by have := HFR.out b hb; simp; omega) kp)
    have X2 := hid x2
    have K2 : Hid (Kp (q :: g :: F) w W2) := hid ((K1.out.drop (fun x hx => Or.inl (by simp [hx]))).trans (kp.drop (fun x hx => Or.inl (by simp at hx; simp; omega))))
    have HI := hid (rints_any I2.out i2 (by have := out_len (n := n) (me := me) (p := p); omega))
    rw [beq_self_eq_true] at HI
    clear i2 x2 kp S1 I1 X1 HFR K1
    go_wp2_with fail
    refine HI.out.mono ?_
    rintro e W3 ⟨rfl, bb⟩
    have S3 := hid (HK.out _ _ _ _ _ S2.out bb)
    have X3 := hid (X2.out.kept bb)
    have K3 := hid (K2.out.trans (Kp.of bb))
    clear bb S2 X2 K2 I2 HI
    go_wp2
    go_ret
    exact HPO.out F1 _ _ hact S3.out X3.out hq1 hg1 K3.out (fun x hx => by rcases HSB.out x hx with h | h; exact Or.inl h; right; omega)
  by_cases h1 : kd = 1
  · have hk := h1
    subst hk
    have hact : tickP n me false p = actP n me p 1 cl := rfl
    go_enter Try.func11, Try.ntmps11
    go_upto_region 1 with fail
    generalize w.alloc (.cells #[nu 1, nu cl] 32) = W0 at *
    go_wp2_with fail
    refine (HT.out _ _ false S0.out).mono ?_
    rintro e W1 ⟨F1, u, rfl, i1, s1, kp, hfr, hsub⟩
    have X1 := hid (X0.out.kpx kp hq hg)
    have S1 := hid s1
    have I1 := hid i1
    have HFR := hid hfr
    have HSB := hid hsub
    have K1 : Hid (Kp F w W1) := (Kp.of B0.out : Kp F w W0).trans kp
    have hsz : W0.heap.size ≤ W1.heap.size := kp.size
    have D0 := (kp.row R0.out HF0)
    clear s1 i1 kp hfr hsub c0 c1 S0 X0
    have c0 := lkd0 (x := 1) (y := cl) D0
    clear D0
    go_wp2_with fail
    refine (rtick_any X1.out hm h8 ⟨hn0, by omega⟩ hnx false).mono ?_
    rintro e W2 ⟨u2, rfl, i2, x2, kp⟩
    have hq1 : q ∉ F1 := fun hx => by rcases HSB.out q hx with h | h; exact hq h; omega
    have hg1 : g ∉ F1 := fun hx => by rcases HSB.out g hx with h | h; exact hg h; omega
    have S2 := hid (HKk.out _ _ _ _ _ _ S1.out kp (fun x hx => by rcases List.mem_cons.1 hx with rfl | hx; exact hq1; rcases List.mem_cons.1 hx with rfl | hx; exact hg1; cases hx))
    have I2 := hid (I1.out.kpb (F := [q, g]) (fun b hb => by have := HFR.out b hb; simp; omega) kp)
    have X2 := hid x2
    have K2 : Hid (Kp (q :: g :: F) w W2) := hid ((K1.out.drop (fun x hx => Or.inl (by simp [hx]))).trans (kp.drop (fun x hx => Or.inl (by simp at hx; simp; omega))))
    have HI := hid (rints_any I2.out i2 (by have := out_len (n := n) (me := me) (p := p); omega))
    rw [beq_self_eq_true] at HI
    clear i2 x2 kp S1 I1 X1 HFR K1
    go_wp2_with fail
    refine HI.out.mono ?_
    rintro e W3 ⟨rfl, bb⟩
    have S3 := hid (HK.out _ _ _ _ _ S2.out bb)
    have X3 := hid (X2.out.kept bb)
    have K3 := hid (K2.out.trans (Kp.of bb))
    clear bb S2 X2 K2 I2 HI
    go_wp2
    go_ret
    exact HPO.out F1 _ _ hact S3.out X3.out hq1 hg1 K3.out (fun x hx => by rcases HSB.out x hx with h | h; exact Or.inl h; right; omega)
  by_cases h2 : kd = 2
  · have hk := h2
    subst hk
    have hact : tickP n me false p = actP n me p 2 cl := rfl
    go_enter Try.func11, Try.ntmps11
    go_upto_region 1 with fail
    generalize w.alloc (.cells #[nu 2, nu cl] 32) = W0 at *
    go_wp2_with fail
    refine (HT.out _ _ false S0.out).mono ?_
    rintro e W1 ⟨F1, u, rfl, i1, s1, kp, hfr, hsub⟩
    have X1 := hid (X0.out.kpx kp hq hg)
    have S1 := hid s1
    have I1 := hid i1
    have HFR := hid hfr
    have HSB := hid hsub
    have K1 : Hid (Kp F w W1) := (Kp.of B0.out : Kp F w W0).trans kp
    have hsz : W0.heap.size ≤ W1.heap.size := kp.size
    have D0 := (kp.row R0.out HF0)
    clear s1 i1 kp hfr hsub c0 c1 S0 X0
    have c0 := lkd0 (x := 2) (y := cl) D0
    clear D0
    go_wp2_with fail
    refine (rtick_any X1.out hm h8 ⟨hn0, by omega⟩ hnx false).mono ?_
    rintro e W2 ⟨u2, rfl, i2, x2, kp⟩
    have hq1 : q ∉ F1 := fun hx => by rcases HSB.out q hx with h | h; exact hq h; omega
    have hg1 : g ∉ F1 := fun hx => by rcases HSB.out g hx with h | h; exact hg h; omega
    have S2 := hid (HKk.out _ _ _ _ _ _ S1.out kp (fun x hx => by rcases List.mem_cons.1 hx with rfl | hx; exact hq1; rcases List.mem_cons.1 hx with rfl | hx; exact hg1; cases hx))
    have I2 := hid (I1.out.kpb (F := [q, g]) (fun b hb => by have := HFR.out b hb; simp; omega) kp)
    have X2 := hid x2
    have K2 : Hid (Kp (q :: g :: F) w W2) := hid ((K1.out.drop (fun x hx => Or.inl (by simp [hx]))).trans (kp.drop (fun x hx => Or.inl (by simp at hx; simp; omega))))
    have HI := hid (rints_any I2.out i2 (by have := out_len (n := n) (me := me) (p := p); omega))
    rw [beq_self_eq_true] at HI
    clear i2 x2 kp S1 I1 X1 HFR K1
    go_wp2_with fail
    refine HI.out.mono ?_
    rintro e W3 ⟨rfl, bb⟩
    have S3 := hid (HK.out _ _ _ _ _ S2.out bb)
    have X3 := hid (X2.out.kept bb)
    have K3 := hid (K2.out.trans (Kp.of bb))
    clear bb S2 X2 K2 I2 HI
    go_wp2
    go_ret
    exact HPO.out F1 _ _ hact S3.out X3.out hq1 hg1 K3.out (fun x hx => by rcases HSB.out x hx with h | h; exact Or.inl h; right; omega)
  by_cases h3 : kd = 3
  · have hk := h3
    subst hk
    have hact : tickP n me false p = actP n me p 3 cl := rfl
    go_enter Try.func11, Try.ntmps11
    go_upto_region 1 with fail
    generalize w.alloc (.cells #[nu 3, nu cl] 32) = W0 at *
    go_wp2_with fail
    refine (HT.out _ _ false S0.out).mono ?_
    rintro e W1 ⟨F1, u, rfl, i1, s1, kp, hfr, hsub⟩
    have X1 := hid (X0.out.kpx kp hq hg)
    have S1 := hid s1
    have I1 := hid i1
    have HFR := hid hfr
    have HSB := hid hsub
    have K1 : Hid (Kp F w W1) := (Kp.of B0.out : Kp F w W0).trans kp
    have hsz : W0.heap.size ≤ W1.heap.size := kp.size
    have D0 := (kp.row R0.out HF0)
    clear s1 i1 kp hfr hsub c0 c1 S0 X0
    have c0 := lkd0 (x := 3) (y := cl) D0
    clear D0
    go_wp2_with fail
    refine (rtick_any X1.out hm h8 ⟨hn0, by omega⟩ hnx false).mono ?_
    rintro e W2 ⟨u2, rfl, i2, x2, kp⟩
    have hq1 : q ∉ F1 := fun hx => by rcases HSB.out q hx with h | h; exact hq h; omega
    have hg1 : g ∉ F1 := fun hx => by rcases HSB.out g hx with h | h; exact hg h; omega
    have S2 := hid (HKk.out _ _ _ _ _ _ S1.out kp (fun x hx => by rcases List.mem_cons.1 hx with rfl | hx; exact hq1; rcases List.mem_cons.1 hx with rfl | hx; exact hg1; cases hx))
    have I2 := hid (I1.out.kpb (F := [q, g]) (fun b hb => by have := HFR.out b hb; simp; omega) kp)
    have X2 := hid x2
    have K2 : Hid (Kp (q :: g :: F) w W2) := hid ((K1.out.drop (fun x hx => Or.inl (by simp [hx]))).trans (kp.drop (fun x hx => Or.inl (by simp at hx; simp; omega))))
    have HI := hid (rints_any I2.out i2 (by have := out_len (n := n) (me := me) (p := p); omega))
    rw [beq_self_eq_true] at HI
    clear i2 x2 kp S1 I1 X1 HFR K1
    go_wp2_with fail
    refine HI.out.mono ?_
    rintro e W3 ⟨rfl, bb⟩
    have S3 := hid (HK.out _ _ _ _ _ S2.out bb)
    have X3 := hid (X2.out.kept bb)
    have K3 := hid (K2.out.trans (Kp.of bb))
    clear bb S2 X2 K2 I2 HI
    go_wp2
    go_ret
    exact HPO.out F1 _ _ hact S3.out X3.out hq1 hg1 K3.out (fun x hx => by rcases HSB.out x hx with h | h; exact Or.inl h; right; omega)
  by_cases h4 : kd = 4
  · have hk := h4
    subst hk
    have hact : tickP n me true p = actP n me p 4 cl := rfl
    go_enter Try.func11, Try.ntmps11
    go_upto_region 1 with fail
    generalize w.alloc (.cells #[nu 4, nu cl] 32) = W0 at *
    go_wp2_with fail
    refine (HT.out _ _ true S0.out).mono ?_
    rintro e W1 ⟨F1, u, rfl, i1, s1, kp, hfr, hsub⟩
    have X1 := hid (X0.out.kpx kp hq hg)
    have S1 := hid s1
    have I1 := hid i1
    have HFR := hid hfr
    have HSB := hid hsub
    have K1 : Hid (Kp F w W1) := (Kp.of B0.out : Kp F w W0).trans kp
    have hsz : W0.heap.size ≤ W1.heap.size := kp.size
    have D0 := (kp.row R0.out HF0)
    clear s1 i1 kp hfr hsub c0 c1 S0 X0
    have c0 := lkd0 (x := 4) (y := cl) D0
    clear D0
    go_wp2_with fail
    refine (rtick_any X1.out hm h8 ⟨hn0, by omega⟩ hnx true).mono ?_
    rintro e W2 ⟨u2, rfl, i2, x2, kp⟩
    have hq1 : q ∉ F1 := fun hx => by rcases HSB.out q hx with h | h; exact hq h; omega
    have hg1 : g ∉ F1 := fun hx => by rcases HSB.out g hx with h | h; exact hg h; omega
    have S2 := hid (HKk.out _ _ _ _ _ _ S1.out kp (fun x hx => by rcases List.mem_cons.1 hx with rfl | hx; exact hq1; rcases List.mem_cons.1 hx with rfl | hx; exact hg1; cases hx))
    have I2 := hid (I1.out.kpb (F := [q, g]) (fun b hb => by have := HFR.out b hb; simp; omega) kp)
    have X2 := hid x2
    have K2 : Hid (Kp (q :: g :: F) w W2) := hid ((K1.out.drop (fun x hx => Or.inl (by simp [hx]))).trans (kp.drop (fun x hx => Or.inl (by simp at hx; simp; omega))))
    have HI := hid (rints_any I2.out i2 (by have := out_len (n := n) (me := me) (p := p); omega))
    rw [beq_self_eq_true] at HI
    clear i2 x2 kp S1 I1 X1 HFR K1
    go_wp2_with fail
    refine HI.out.mono ?_
    rintro e W3 ⟨rfl, bb⟩
    have S3 := hid (HK.out _ _ _ _ _ S2.out bb)
    have X3 := hid (X2.out.kept bb)
    have K3 := hid (K2.out.trans (Kp.of bb))
    clear bb S2 X2 K2 I2 HI
    go_wp2
    go_ret
    exact HPO.out F1 _ _ hact S3.out X3.out hq1 hg1 K3.out (fun x hx => by rcases HSB.out x hx with h | h; exact Or.inl h; right; omega)
  by_cases h5 : kd = 5
  · have hk := h5
    subst hk
    have hact : heardPb n me p cl = actP n me p 5 cl := rfl
    go_enter Try.func11, Try.ntmps11
    go_upto_region 1 with fail
    have D0 : Hid ((w.alloc (.cells #[nu 5, nu cl] 32)).heap[w.heap.size]? = some (.cells [nu 5, nu cl].toArray 32)) := R0
    generalize w.alloc (.cells #[nu 5, nu cl] 32) = W0 at *
    go_upto_region 11 with fail
    refine wp_region_cs (N := 58) [(pt pp 0), (pt w.heap.size 1), (nu cl), (.bool (othB n me cl)), (pt q 0), (pt w.heap.size 1), (nu cl), (.bool (othB n me cl)), (.bool true), (.bool true)] (fun L W => ∃ F', (bif L 3 then KS pp F' (heardPb n me p cl) W else KS pp F' p W) ∧ (bif L 7 then XAt W q g cap S n me (heardPb n me p cl) else XAt W q g cap S n me p) ∧ (q ∉ F' ∧ g ∉ F' ∧ w.heap.size ∉ F') ∧ Kp (q :: g :: F) w W ∧ (∀ x ∈ F', x ∈ F ∨ w.heap.size ≤ x) ∧ W.heap[w.heap.size]? = some (.cells [nu 5, nu cl].toArray 32)) [(45, (pt pp 0)), (46, (pt w.heap.size 1)), (47, (nu cl)), (48, (.bool (othB n me cl))), (49, (pt q 0)), (50, (pt w.heap.size 1)), (51, (nu cl)), (52, (.bool (othB n me cl))), (53, (.bool true)), (6, (.bool true))] (by kernel_rfl) (by kernel_rfl) rfl (fun w1 hb => ⟨F, HK.out _ _ _ _ _ S0.out hb, X0.out.kept hb, ⟨hq, hg, HF0⟩, (Kp.of B0.out : Kp (q :: g :: F) w W0).trans (Kp.of hb), fun x hx => Or.inl hx, row_kept D0.out hb⟩) (by kernel_rfl) ?_ ?_
    · intro i o ho
      match i, ho with
      | 0, ho => cases ho; exact fun L a w1 hLi hw hnot hJ hk hv K h => op_move 0 _ rfl (hk 0 (by kernel_rfl)) (h _ hJ)
      | 1, ho => cases ho; exact fun L a w1 hLi hw hnot hJ hk hv K h => op_fa 5 _ 1 w.heap.size 0 1 rfl (fun W => by kernel_rfl) (hk 5 (by kernel_rfl)) (h _ hJ)
      | 2, ho => cases ho; exact fun L a w1 hLi hw hnot hJ hk hv K h => op_load1 _ (.tmp 46) rfl w.heap.size 1 (hv 1 46 (by kernel_rfl) (by kernel_rfl)) (nu cl) _ (by obtain ⟨_, -, -, -, -, -, hr⟩ := hJ; exact lkd1 hr) Try.underlying3 rfl (h _ hJ)
      | 3, ho =>
        cases ho
        intro L a w1 hLi hw hnot hJ hk hv K h
        refine op_call 15 [.tmp 45, .tmp 47] _ #[(pt pp 0), (nu cl)] (.bool (othB n me cl)) rfl (fun _ _ => by kernel_rfl) (args2 (hv 0 45 (by kernel_rfl) (by kernel_rfl)) (hv 2 47 (by kernel_rfl) (by kernel_rfl))) (J := fun w2 => ∃ F'', KS pp F'' (heardPb n me p cl) w2 ∧ XAt w2 q g cap S n me p ∧ (q ∉ F'' ∧ g ∉ F'' ∧ w.heap.size ∉ F'') ∧ Kp (q :: g :: F) w w2 ∧ (∀ x ∈ F'', x ∈ F ∨ w.heap.size ≤ x) ∧ w2.heap[w.heap.size]? = some (.cells [nu 5, nu cl].toArray 32)) ?_ ?_
        · obtain ⟨F', j1, j2, j3, j4, j5, j6⟩ := hJ
          have h7 : L 7 = false := hnot 7 _ rfl (by kernel_rfl)
          rw [hLi, cond_false] at j1
          rw [h7, cond_false] at j2
          refine (HH.out F' w1 cl j1).mono ?_
          rintro e w2 ⟨F2, rfl, s2, kp, hsub⟩
          have hsz := row_lt j6
          have hszw := j4.size
          refine ⟨rfl, F2, s2, j2.kpx kp j3.1 j3.2.1, ⟨fun hx => ?_, fun hx => ?_, fun hx => ?_⟩, ?_, fun x hx => ?_, kp.row j6 j3.2.2⟩
          · rcases hsub q hx with h | h
            · exact j3.1 h
            · omega
          · rcases hsub g hx with h | h
            · exact j3.2.1 h
            · omega
          · rcases hsub _ hx with h | h
            · exact j3.2.2 h
            · omega
          · refine ⟨kp.os.trans j4.os, kp.tape.trans j4.tape, kp.output.trans j4.output, Nat.le_trans j4.size kp.size, fun kk hkk hX => ?_⟩
            rw [kp.block kk (by omega) (fun hx => ?_)]
            · exact j4.block kk hkk hX
            · rcases j5 kk hx with h | h
              · exact hX (by simp [h])
              · omega
          · rcases hsub x hx with h | h
            · exact j5 x h
            · right; omega
        · rintro w2 ⟨F2, i1, i2, i3, i4, i5, i6⟩
          refine h _ ⟨F2, ?_, ?_, i3, i4, i5, i6⟩
          · show (bif up L 3 3 then _ else _)
            rw [up_self]
            exact i1
          · have h7 : L 7 = false := hnot 7 _ rfl (by kernel_rfl)
            show (bif up L 3 7 then _ else _)
            rw [up_ne (by decide), h7]
            exact i2
      | 4, ho => cases ho; exact fun L a w1 hLi hw hnot hJ hk hv K h => op_move 1 _ rfl (hk 1 (by kernel_rfl)) (h _ hJ)
      | 5, ho => cases ho; exact fun L a w1 hLi hw hnot hJ hk hv K h => op_fa 5 _ 1 w.heap.size 0 1 rfl (fun W => by kernel_rfl) (hk 5 (by kernel_rfl)) (h _ hJ)
      | 6, ho => cases ho; exact fun L a w1 hLi hw hnot hJ hk hv K h => op_load1 _ (.tmp 50) rfl w.heap.size 1 (hv 5 50 (by kernel_rfl) (by kernel_rfl)) (nu cl) _ (by obtain ⟨_, -, -, -, -, -, hr⟩ := hJ; exact lkd1 hr) Try.underlying3 rfl (h _ hJ)
      | 7, ho =>
        cases ho
        intro L a w1 hLi hw hnot hJ hk hv K h
        refine op_call 23 [.tmp 49, .tmp 51] _ #[(pt q 0), (nu cl)] (.bool (othB n me cl)) rfl (fun _ _ => by kernel_rfl) (args2 (hv 4 49 (by kernel_rfl) (by kernel_rfl)) (hv 6 51 (by kernel_rfl) (by kernel_rfl))) (J := fun w2 => ∃ F'', KS pp F'' (heardPb n me p cl) w2 ∧ XAt w2 q g cap S n me (heardPb n me p cl) ∧ (q ∉ F'' ∧ g ∉ F'' ∧ w.heap.size ∉ F'') ∧ Kp (q :: g :: F) w w2 ∧ (∀ x ∈ F'', x ∈ F ∨ w.heap.size ≤ x) ∧ w2.heap[w.heap.size]? = some (.cells [nu 5, nu cl].toArray 32)) ?_ ?_
        · obtain ⟨F', j1, j2, j3, j4, j5, j6⟩ := hJ
          rw [hw 3 (by kernel_rfl), cond_true] at j1
          rw [hLi, cond_false] at j2
          refine (rheard_any j2 ⟨hn0, by omega⟩ cl).mono ?_
          rintro e w2 ⟨rfl, x2, kp⟩
          refine ⟨rfl, F', HKk.out _ _ _ _ _ _ j1 kp (fun x hx => by rcases List.mem_cons.1 hx with rfl | hx; exact j3.1; rcases List.mem_cons.1 hx with rfl | hx; exact j3.2.1; cases hx), x2, j3, j4.trans (kp.drop (fun x hx => Or.inl (by simp at hx; simp; omega))), j5, kp.row j6 (by simp; omega)⟩
        · rintro w2 ⟨F2, i1, i2, i3, i4, i5, i6⟩
          refine h _ ⟨F2, ?_, ?_, i3, i4, i5, i6⟩
          · show (bif up L 7 3 then _ else _)
            rw [up_ne (by decide), hw 3 (by kernel_rfl), cond_true]
            exact i1
          · show (bif up L 7 7 then _ else _)
            rw [up_self]
            exact i2
      | 8, ho => cases ho; exact fun L a w1 hLi hw hnot hJ hk hv K h => op_eqlB 48 52 _ _ (othB n me cl) (othB n me cl) Try.underlying4 rfl (hv 3 48 (by kernel_rfl) (by kernel_rfl)) (hv 7 52 (by kernel_rfl) (by kernel_rfl)) (by rw [beq_self_eq_true]; exact h _ hJ)
      | 9, ho => cases ho; exact fun L a w1 hLi hw hnot hJ hk hv K h => op_assign 53 _ rfl (hv 8 53 (by kernel_rfl) (by kernel_rfl)) (h _ hJ)
      | (i + 10), ho => exact absurd ho (by simp)
    intro LL W5 hall hJ
    simp only [List.foldl_cons, List.foldl_nil, List.setIfInBounds_toArray, List.set_cons_zero, List.set_cons_succ]
    obtain ⟨F', j1, j2, j3, j4, j5, -⟩ := hJ
    rw [hall 3 (by decide), cond_true] at j1
    rw [hall 7 (by decide), cond_true] at j2
    have HP5 := hid (HPO.out F' W5 _ hact j1 j2 j3.1 j3.2.1 j4 j5)
    clear j1 j2 j3 j4 j5 hall
    go_wp2
    go_ret
    exact HP5.out
  · have hact : askedPb me p = actP n me p kd cl := by unfold actP; rw [if_neg (by omega), if_neg h5]
    have e0 : (kd == 0) = false := beq_false_of_ne h0
    have e1 : (kd == 1) = false := beq_false_of_ne h1
    have e2 : (kd == 2) = false := beq_false_of_ne h2
    have e3 : (kd == 3) = false := beq_false_of_ne h3
    have e4 : (kd == 4) = false := beq_false_of_ne h4
    have e5 : (kd == 5) = false := beq_false_of_ne h5
    clear h0 h1 h2 h3 h4 h5
    go_enter Try.func11, Try.ntmps11
    go_upto_region 1 with fail
    generalize w.alloc (.cells #[nu kd, nu cl] 32) = W0 at *
    go_wp2_with fail
    refine (rasked_any X0.out hm ⟨hn0, by omega⟩).mono ?_
    rintro e W1 ⟨rfl, x1, kp⟩
    have S1 := hid (HKk.out _ _ _ _ _ _ S0.out kp (fun x hx => by rcases List.mem_cons.1 hx with rfl | hx; exact hq; rcases List.mem_cons.1 hx with rfl | hx; exact hg; cases hx))
    have X1 := hid x1
    have K1 : Hid (Kp (q :: g :: F) w W1) := hid ((Kp.of B0.out : Kp (q :: g :: F) w W0).trans (kp.drop (fun x hx => Or.inl (by simp at hx; simp; omega))))
    have hsz : W0.heap.size ≤ W1.heap.size := kp.size
    clear x1 kp S0 X0 c0 c1
    go_wp2_with fail
    refine (HS.out _ _ S1.out).mono ?_
    rintro e W2 ⟨F2, rfl, s2, kp, hsub⟩
    have HP := hid (HPO.out F2 W2 _ hact s2 (X1.out.kpx kp hq hg) (fun hx => by rcases hsub q hx with h | h; exact hq h; omega) (fun hx => by rcases hsub g hx with h | h; exact hg h; omega) (K1.out.trans (kp.drop (fun x hx => Or.inl (by simp [hx])))) (fun x hx => by rcases hsub x hx with h | h; exact Or.inl h; right; omega))
    clear s2 kp hsub
    go_wp2
    go_ret
    exact HP.out
end Go.Proofs.Ytkjgiidmajjonaa.Kn
