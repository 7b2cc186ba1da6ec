/-
  What the law VeilNothing answers at every input.
-/
import Derived.Test.YtfkfjopjnfeahaaDoorWshape
namespace Go.Proofs.YtfkfjopjnfeahaaDoor
open Go Go.RowKit Go.Joins
set_option maxRecDepth 100000

def rowsL (k : List UInt8) (n : Int) (a b : Nat) : Array Value := #[.string ⟨k.toArray⟩, .int .i64 n, .int .u16 (a : Int), .int .u16 (b : Int)]

theorem conv_made (n : Nat) (W : World) : (convert 36 9 (.slice (some ⟨W.heap.size, 0, none⟩) n n)).run Tryd.prog (W.alloc (.cells ((List.replicate n 0).map cb).toArray 5)) = .ok (.string ⟨(List.replicate n (0 : UInt8)).toArray⟩) (W.alloc (.cells ((List.replicate n 0).map cb).toArray 5)) :=
  conv_row _ W.heap.size n (List.replicate n 0) n (by simp) 5 (top_row W _)

theorem conv_u16 (m : Nat) (hm : m < 300) (W : World) : (convert 33 3 (.int .u16 (m : Int))).run Tryd.prog W = .ok (.int .i64 (m : Int)) W := by
  have e : IntKind.i64.wrap (m : Int) = (m : Int) := by rw [IntKind.wrap_i64]; omega
  simp [convert, run_underlying Tryd.underlying33, run_underlying Tryd.underlying3, Conv.intToInt, e]

theorem wpQuiet_conv {ops : Array Oper} {C : World → Prop} {Q : Act → Prop} {a : Act} {o : Oper} {rest : List Oper} (hw : Region.wanted o (yielded ops a.tmps) = true) (x : Operand) (ho : o.op = .convert 33 3 x)
    (z : Int) (hx : a.eval x = .int .u16 z) (m : Nat) (hm : m < 300) (hz : z = (m : Int)) (h : wpQuiet Tryd.prog ops C Q rest (a.put o.dst (.int .i64 (m : Int)))) : wpQuiet Tryd.prog ops C Q (o :: rest) a := by
  subst hz
  unfold wpQuiet
  rw [if_pos hw]
  refine ⟨.int .i64 (m : Int), fun w hC => ?_, h⟩
  unfold Oper.quietAt execOp
  simp [ho, hx, conv_u16 m hm, Oper.quietUpon]

set_option maxHeartbeats 4000000 in
theorem veilNothing_any (k : List UInt8) (hk : k.length ≤ 140737488351232) (n : Int) (p q : Nat) (hp : p < 65536) (hq : q < 65536) (w : World) (hK : Ktab w) (hT : Lay.Tabs w) :
    Calls Tryd.prog 7 #[.agg (rowsL k n p q)] w fun e w' => e = .returned (.bool true) ∧ Below w.heap.size w w' := by
  have HQ0 := hid (top_row w (.cells (rowsL k n p q) 35))
  have HB0 := hid (below_a1 w (.cells (rowsL k n p q) 35))
  have hkl := fewB_le k
  have HKb : Hid (∀ V, Below w.heap.size w V → Ktab V) := fun V h => hK.stays h hK.pos
  have HTb : Hid (∀ V, Below w.heap.size w V → Lay.Tabs V) := fun V h => hT.stays h
  have HA := hid (fun W a b => awake_any W a b)
  have HCk := hid (fun W dd os => few_regrown k W dd os)
  generalize fewB k = x at *
  obtain ⟨a, ha⟩ : ∃ a, a = p % 300 := ⟨_, rfl⟩
  obtain ⟨b, hb⟩ : ∃ b, b = q % 300 := ⟨_, rfl⟩
  have ha3 : a < 300 := by omega
  have hb3 : b < 300 := by omega
  have hpa : (p : Int) % 300 = (a : Int) := by omega
  have hqb : (q : Int) % 300 = (b : Int) := by omega
  clear hK hT
  go_enter Tryd.func7, Tryd.ntmps7
  go_upto_region 1 with fail
  change Code.wp _ _ _ _ (w.alloc (.cells (rowsL k n p q) 35))
  generalize w.alloc (.cells (rowsL k n p q) 35) = w1 at *
  have c0 : ∀ dd os, (Sort.grow (redrawn w1 dd) os).cell? ⟨w.heap.size, 0, none⟩ = some (.string ⟨k.toArray⟩) := fun dd os => cell_regrown (by rw [cell_of_row _ _ _ _ _ _ HQ0.out]; rfl) _ _
  have c1 : ∀ dd os, (Sort.grow (redrawn w1 dd) os).cell? ⟨w.heap.size, 1, none⟩ = some (.int .i64 n) := fun dd os => cell_regrown (by rw [cell_of_row _ _ _ _ _ _ HQ0.out]; rfl) _ _
  refine wp_region_quiet_below (by kernel_rfl) (by kernel_rfl) ?_
  iterate 2 (first | go_big_quiet_step (fail) | quiet_step (fail))
  iterate 1 (first | go_big_quiet_step (exact HCk.out w1 _ _) | quiet_step (exact HCk.out w1 _ _))
  repeat (first | go_big_quiet_step (fail) | quiet_step (fail))
  refine wpQuiet_nil ?_
  intro _ hw'
  obtain ⟨⟨dq, osq⟩, hw''⟩ := hw'
  subst hw''
  have HB2 : Hid (Below w.heap.size w (Sort.grow (redrawn w1 dq) osq)) := HB0.out.trans ((below_regrown w1 dq osq).mono HB0.out.size)
  have HQ2 := hid (row_kept HQ0.out (below_regrown w1 dq osq))
  generalize Sort.grow (redrawn w1 dq) osq = w2 at *
  clear c0 c1 HCk HQ0 HB0
  have c2 : ∀ dd os, (Sort.grow (redrawn w2 dd) os).cell? ⟨w.heap.size, 2, none⟩ = some (.int .u16 (p : Int)) := fun dd os => cell_regrown (by rw [cell_of_row _ _ _ _ _ _ HQ2.out]; rfl) _ _
  have c3 : ∀ dd os, (Sort.grow (redrawn w2 dd) os).cell? ⟨w.heap.size, 3, none⟩ = some (.int .u16 (q : Int)) := fun dd os => cell_regrown (by rw [cell_of_row _ _ _ _ _ _ HQ2.out]; rfl) _ _
  go_upto_region 2 with fail
  refine wp_region_quiet_below (by kernel_rfl) (by kernel_rfl) ?_
  have M1 := hid hpa
  have M2 := hid hqb
  clear hpa hqb
  iterate 3 (first | go_big_quiet_step (fail) | quiet_step (fail))
  refine wpQuiet_conv rfl _ rfl _ rfl a ha3 M1.out ?_
  simp only [Act.put, List.setIfInBounds_toArray, List.set_cons_zero, List.set_cons_succ]
  iterate 3 (first | go_big_quiet_step (fail) | quiet_step (fail))
  refine wpQuiet_conv rfl _ rfl _ rfl b hb3 M2.out ?_
  simp only [Act.put, List.setIfInBounds_toArray, List.set_cons_zero, List.set_cons_succ]
  repeat (first | go_big_quiet_step (fail) | quiet_step (fail))
  refine wpQuiet_nil ?_
  intro _ hw'
  obtain ⟨⟨dq, osq⟩, hw''⟩ := hw'
  subst hw''
  have HB3 : Hid (Below w.heap.size w (Sort.grow (redrawn w2 dq) osq)) := HB2.out.trans ((below_regrown w2 dq osq).mono HB2.out.size)
  generalize Sort.grow (redrawn w2 dq) osq = w3 at *
  clear c2 c3 HQ2 HB2 M1 M2
  clear ha hb hp hq
  have hmk := make_bytes a (by omega)
  have hcv := conv_made a
  have HZl : Hid ((List.replicate a (0 : UInt8)).length = a) := by show _ = _; simp
  by_cases hn : 0 ≤ n ∧ n ≤ 1099511627776
  · obtain ⟨h0, h1⟩ := hn
    have HRa := hid (row_ok x (by omega) n h0 h1 a (by omega) w3 (HKb.out _ HB3.out) (HTb.out _ HB3.out))
    have HRb := hid (fun W h h' => row_ok x (by omega) n h0 h1 b (by omega) W h h')
    have HVz : Hid (∀ W, Ktab W → Lay.Tabs W → Calls Tryd.prog 9 #[.string ⟨x.toArray⟩, .int .i64 n, .string ⟨(List.replicate a (0 : UInt8)).toArray⟩] W fun e w' => e = .returned (.tuple #[.string ⟨(rowB x n a).toArray⟩, .int .i64 0]) ∧ Below W.heap.size W w') := fun W h h' => by
      have hh := veil_ok x (by omega) n h0 h1 (List.replicate a 0) (by rw [HZl.out]; omega) W h h'
      rw [veilB_zeros] at hh
      exact hh
    have hRa := rowB_len x n a
    have hRb := rowB_len x n b
    obtain ⟨K, hK⟩ : ∃ K, K = if b < a then b else a := ⟨_, rfl⟩
    have hKa : K ≤ a := by rw [hK]; split <;> omega
    have hKb : K ≤ b := by rw [hK]; split <;> omega
    have hmin : min (a : Int) (b : Int) = (K : Int) := by rw [hK]; split <;> omega
    have HXa : Hid ((⟨(rowB x n a).toArray⟩ : ByteArray).extract 0 K = ⟨(rowB x n K).toArray⟩) := by show _ = _; rw [cut_take, show (rowB x n a).take K = rowB x n K from rowOf_pre _ (blkB_len x n) K a hKa]
    have HXb : Hid ((⟨(rowB x n b).toArray⟩ : ByteArray).extract 0 K = ⟨(rowB x n K).toArray⟩) := by show _ = _; rw [cut_take, show (rowB x n b).take K = rowB x n K from rowOf_pre _ (blkB_len x n) K b hKb]
    generalize rowB x n a = A at *
    generalize rowB x n b = B at *
    generalize rowB x n K = P at *
    have hsA : (⟨A.toArray⟩ : ByteArray).size = a := hRa
    have hsB : (⟨B.toArray⟩ : ByteArray).size = b := hRb
    generalize ((List.replicate a (0 : UInt8)).map cb).toArray = Z at *
    generalize List.replicate a (0 : UInt8) = zs at *
    have d1 : decide (n < 0) = false := decide_eq_false (by omega)
    have d2 : decide (1099511627776 < n) = false := decide_eq_false (by omega)
    have k0 : (0 : Int) ≤ (K : Int) := Int.natCast_nonneg _
    have k1 : (K : Int) ≤ (a : Int) := by omega
    have k2 : (K : Int) ≤ (b : Int) := by omega
    clear hK hkl hk HZl
    go_wp2_with (first | (go_at_call 12; refine Calls.mono HRa.out ?_))
    rintro e w4 ⟨rfl, hb4⟩
    have HB4 : Hid (Below w.heap.size w w4) := HB3.out.trans (hb4.mono HB3.out.size)
    clear hb4 HB3 HRa
    go_wp2_with (first | (go_at_call 12; refine (HRb.out w4 (HKb.out _ HB4.out) (HTb.out _ HB4.out)).mono ?_))
    rintro e w5 ⟨rfl, hb5⟩
    have HB5 : Hid (Below w.heap.size w (w5.alloc (.cells Z 5))) := below_more (HB4.out.trans (hb5.mono HB4.out.size)) _ (Nat.le_refl _)
    clear hb5 HB4 HRb
    go_wp2_with (first | (go_at_call 9; refine (HVz.out _ (HKb.out _ HB5.out) (HTb.out _ HB5.out)).mono ?_))
    rintro e w6 ⟨rfl, hb6⟩
    have HB6 : Hid (Below w.heap.size w w6) := HB5.out.trans (hb6.mono HB5.out.size)
    clear hb6 HB5 HVz hmk hcv
    have HC : Hid (∀ dd os, Calls Tryd.prog 11 #[] (Sort.grow (redrawn w6 dd) os) fun e w'' => e = .returned (.bool true) ∧ ∃ p : Regrown, w'' = Sort.grow (redrawn w6 p.d) p.os) := fun dd os => Calls.regrown_of (HA.out _ (HKb.out _ (HB6.out.trans ((below_regrown w6 dd os).mono HB6.out.size))) (HTb.out _ (HB6.out.trans ((below_regrown w6 dd os).mono HB6.out.size))))
    go_upto_region 9 with fail
    have hXa := HXa.out
    have hXb := HXb.out
    refine wp_region_quiet_below (by kernel_rfl) (by kernel_rfl) ?_
    iterate 1 (first | go_big_quiet_step (exact HC.out _ _) | quiet_step (exact HC.out _ _))
    repeat (first | go_big_quiet_step (fail) | quiet_step (fail))
    refine wpQuiet_nil ?_
    intro _ hw'
    obtain ⟨⟨dq, osq⟩, hw''⟩ := hw'
    subst hw''
    have HB7 : Hid (Below w.heap.size w (Sort.grow (redrawn w6 dq) osq)) := HB6.out.trans ((below_regrown w6 dq osq).mono HB6.out.size)
    generalize Sort.grow (redrawn w6 dq) osq = w7 at *
    clear HC HB6
    go_wp2
    go_ret
    exact ⟨rfl, HB7.out⟩
  · have hra : rErr n (a : Int) = 3 := by unfold rErr; rw [if_pos (by omega)]
    have hrb : rErr n (b : Int) = 3 := by unfold rErr; rw [if_pos (by omega)]
    have HRa : Hid (∀ W, Calls Tryd.prog 12 #[.string ⟨x.toArray⟩, .int .i64 n, .int .i64 (a : Int)] W fun e w' => e = .returned (.tuple #[.string ⟨#[]⟩, .int .i64 3]) ∧ w' = W) := fun W => by
      have h := row_bad x n a (by rw [hra]; decide) W
      rw [hra] at h
      exact h
    have HRb : Hid (∀ W, Calls Tryd.prog 12 #[.string ⟨x.toArray⟩, .int .i64 n, .int .i64 (b : Int)] W fun e w' => e = .returned (.tuple #[.string ⟨#[]⟩, .int .i64 3]) ∧ w' = W) := fun W => by
      have h := row_bad x n b (by rw [hrb]; decide) W
      rw [hrb] at h
      exact h
    have HVz : Hid (∀ W, Calls Tryd.prog 9 #[.string ⟨x.toArray⟩, .int .i64 n, .string ⟨(List.replicate a (0 : UInt8)).toArray⟩] W fun e w' => e = .returned (.tuple #[.string ⟨#[]⟩, .int .i64 3]) ∧ w' = W) := fun W => by
      have h := veil_bad x (List.replicate a 0) n (by rw [HZl.out, hra]; decide) W
      rw [HZl.out, hra] at h
      exact h
    generalize ((List.replicate a (0 : UInt8)).map cb).toArray = Z at *
    generalize List.replicate a (0 : UInt8) = zs at *
    have HB5 : Hid (Below w.heap.size w (w3.alloc (.cells Z 5))) := below_more HB3.out _ (Nat.le_refl _)
    have happ : (⟨#[]⟩ : ByteArray) ++ (⟨#[]⟩ : ByteArray) = ⟨#[]⟩ := ByteArray.mk_append_mk [] []
    clear hra hrb hkl hk HZl
    by_cases hn0 : n < 0
    · have d1 : decide (n < 0) = true := decide_eq_true hn0
      clear hn
      go_wp2_with fail
      refine (HRa.out _).mono ?_
      rintro e W ⟨rfl, rfl⟩
      go_wp2_with fail
      refine (HRb.out _).mono ?_
      rintro e W' ⟨rfl, rfl⟩
      go_wp2_with fail
      refine (HVz.out _).mono ?_
      rintro e W'' ⟨rfl, rfl⟩
      clear hmk hcv
      generalize W'.alloc (.cells Z 5) = w5 at *
      go_wp2_with (first | (go_at_call 11; refine (HA.out _ (HKb.out _ HB5.out) (HTb.out _ HB5.out)).mono ?_))
      rintro e w6 ⟨rfl, hb6⟩
      have HB6 : Hid (Below w.heap.size w w6) := HB5.out.trans (hb6.mono HB5.out.size)
      clear hb6 HB5
      go_wp2
      go_ret
      exact ⟨rfl, HB6.out⟩
    · have d1 : decide (n < 0) = false := decide_eq_false hn0
      have d2 : decide (1099511627776 < n) = true := decide_eq_true (by omega)
      clear hn hn0
      go_wp2_with fail
      refine (HRa.out _).mono ?_
      rintro e W ⟨rfl, rfl⟩
      go_wp2_with fail
      refine (HRb.out _).mono ?_
      rintro e W' ⟨rfl, rfl⟩
      go_wp2_with fail
      refine (HVz.out _).mono ?_
      rintro e W'' ⟨rfl, rfl⟩
      clear hmk hcv
      generalize W'.alloc (.cells Z 5) = w5 at *
      go_wp2_with (first | (go_at_call 11; refine (HA.out _ (HKb.out _ HB5.out) (HTb.out _ HB5.out)).mono ?_))
      rintro e w6 ⟨rfl, hb6⟩
      have HB6 : Hid (Below w.heap.size w w6) := HB5.out.trans (hb6.mono HB5.out.size)
      clear hb6 HB5
      go_wp2
      go_ret
      exact ⟨rfl, HB6.out⟩

end Go.Proofs.YtfkfjopjnfeahaaDoor
