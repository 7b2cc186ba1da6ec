/-
  What the law VeilShape answers at every input.
-/
import Derived.Test.YtfkfjopjnfeahaaDoorWawk
namespace Go.Proofs.YtfkfjopjnfeahaaDoor
open Go Go.RowKit Go.Joins
set_option maxRecDepth 100000

def fourL (k : List UInt8) (n : Int) (a b : List UInt8) : Array Value := #[.string ⟨k.toArray⟩, .int .i64 n, .string ⟨a.toArray⟩, .string ⟨b.toArray⟩]

theorem few_regrown (l : List UInt8) (w : World) (dd : Nat) (os : Array Obj) : Calls Tryd.prog 8 #[.string ⟨l.toArray⟩] (Sort.grow (redrawn w dd) os) fun e w'' => e = .returned (.string ⟨(fewB l).toArray⟩) ∧ ∃ p : Regrown, w'' = Sort.grow (redrawn w p.d) p.os :=
  (few_any l _).mono fun _ _ ⟨he, hw⟩ => ⟨he, ⟨dd, os⟩, hw⟩

theorem eq_bytes (p q : UInt8) (h : p ≠ q) : (((p.toNat : Nat) : Int) == ((q.toNat : Nat) : Int)) = false := by
  simp; intro e; exact h (UInt8.toNat_inj.1 (by omega))

set_option maxHeartbeats 4000000 in
theorem veilShape_any (k : List UInt8) (hk : k.length ≤ 140737488351232) (n : Int) (s t : List UInt8) (w : World) (hK : Ktab w) (hT : Lay.Tabs w) :
    Calls Tryd.prog 6 #[.agg (fourL k n s t)] w fun e w' => e = .returned (.bool true) ∧ Below w.heap.size w w' := by
  have HQ0 := hid (top_row w (.cells (fourL k n s t) 31))
  have HB0 := hid (below_a1 w (.cells (fourL k n s t) 31))
  have hkl := fewB_le k
  have HKb : Hid (∀ V, Below w.heap.size w V → Ktab V) := fun V h => hK.stays h hK.pos
  have HTb : Hid (∀ V, Below w.heap.size w V → Lay.Tabs V) := fun V h => hT.stays h
  have HA := hid (fun W a b => awake_any W a b)
  have HCk := hid (fun W dd os => few_regrown k W dd os)
  have HCs := hid (fun W dd os => few_regrown s W dd os)
  have HCt := hid (fun W dd os => few_regrown t W dd os)
  generalize fewB k = x at *
  generalize fewB s = a at *
  generalize fewB t = b at *
  clear hK hT
  go_enter Tryd.func6, Tryd.ntmps6
  go_upto_region 1 with fail
  change Code.wp _ _ _ _ (w.alloc (.cells (fourL k n s t) 31))
  generalize w.alloc (.cells (fourL k n s t) 31) = w1 at *
  have c0 : ∀ dd os, (Sort.grow (redrawn w1 dd) os).cell? ⟨w.heap.size, 0, none⟩ = some (.string ⟨k.toArray⟩) := fun dd os => cell_regrown (by rw [cell_of_row _ _ _ _ _ _ HQ0.out]; rfl) _ _
  have c1 : ∀ dd os, (Sort.grow (redrawn w1 dd) os).cell? ⟨w.heap.size, 1, none⟩ = some (.int .i64 n) := fun dd os => cell_regrown (by rw [cell_of_row _ _ _ _ _ _ HQ0.out]; rfl) _ _
  have c2 : ∀ dd os, (Sort.grow (redrawn w1 dd) os).cell? ⟨w.heap.size, 2, none⟩ = some (.string ⟨s.toArray⟩) := fun dd os => cell_regrown (by rw [cell_of_row _ _ _ _ _ _ HQ0.out]; rfl) _ _
  have c3 : ∀ dd os, (Sort.grow (redrawn w1 dd) os).cell? ⟨w.heap.size, 3, none⟩ = some (.string ⟨t.toArray⟩) := fun dd os => cell_regrown (by rw [cell_of_row _ _ _ _ _ _ HQ0.out]; rfl) _ _
  refine wp_region_quiet_below (by kernel_rfl) (by kernel_rfl) ?_
  iterate 2 (first | go_big_quiet_step (fail) | quiet_step (fail))
  iterate 1 (first | go_big_quiet_step (exact HCk.out w1 _ _) | quiet_step (exact HCk.out w1 _ _))
  iterate 4 (first | go_big_quiet_step (fail) | quiet_step (fail))
  iterate 1 (first | go_big_quiet_step (exact HCs.out w1 _ _) | quiet_step (exact HCs.out w1 _ _))
  iterate 2 (first | go_big_quiet_step (fail) | quiet_step (fail))
  iterate 1 (first | go_big_quiet_step (exact HCt.out w1 _ _) | quiet_step (exact HCt.out w1 _ _))
  repeat (first | go_big_quiet_step (fail) | quiet_step (fail))
  refine wpQuiet_nil ?_
  intro _ hw'
  obtain ⟨⟨dq, osq⟩, hw''⟩ := hw'
  subst hw''
  have HB2 : Hid (Below w.heap.size w (Sort.grow (redrawn w1 dq) osq)) := HB0.out.trans ((below_regrown w1 dq osq).mono HB0.out.size)
  generalize Sort.grow (redrawn w1 dq) osq = w2 at *
  clear c0 c1 c2 c3 HCk HCs HCt HQ0 HB0
  by_cases ha : rErr n a.length = 0
  · obtain ⟨h0, h1, -, h3⟩ := (rErr_ok n a.length).1 ha
    have HVa := hid (veil_ok x (by omega) n h0 h1 a (by omega) w2 (HKb.out _ HB2.out) (HTb.out _ HB2.out))
    by_cases hb : rErr n b.length = 0
    · obtain ⟨-, -, -, h3'⟩ := (rErr_ok n b.length).1 hb
      have HVb := hid (fun W h h' => veil_ok x (by omega) n h0 h1 b (by omega) W h h')
      have hXl := veilB_len x n a
      have hYl := veilB_len x n b
      have HXO : Hid (∀ j, j < a.length → j < b.length → (veilB x n a).getD j 0 ^^^ (veilB x n b).getD j 0 = a.getD j 0 ^^^ b.getD j 0) := fun j h h' => veil_xor (blkB x n) (blkB_len x n) a b j h h'
      generalize veilB x n a = X at *
      generalize veilB x n b = Y at *
      have hsX : (⟨X.toArray⟩ : ByteArray).size = a.length := hXl
      have hsY : (⟨Y.toArray⟩ : ByteArray).size = b.length := hYl
      have hsa : (⟨a.toArray⟩ : ByteArray).size = a.length := rfl
      have hsb : (⟨b.toArray⟩ : ByteArray).size = b.length := rfl
      have ha16 : a.length ≤ 16384 := by omega
      clear h0 h1 h3 h3' ha hb hkl hk
      go_wp2_with (first | (go_at_call 9; refine Calls.mono HVa.out ?_))
      rintro e w3 ⟨rfl, hb3⟩
      have HB3 : Hid (Below w.heap.size w w3) := HB2.out.trans (hb3.mono HB2.out.size)
      clear hb3 HB2 HVa
      go_wp2_with (first | (go_at_call 9; refine (HVb.out w3 (HKb.out _ HB3.out) (HTb.out _ HB3.out)).mono ?_))
      rintro e w4 ⟨rfl, hb4⟩
      have HB4 : Hid (Below w.heap.size w w4) := HB3.out.trans (hb4.mono HB3.out.size)
      clear hb4 HB3 HVb
      go_wp2
      go_loopw [11] (fun i w' => ∃ j : Nat, j ≤ a.length ∧ j ≤ b.length ∧ i = .int .i64 j ∧ Hid (Below w.heap.size w w')) (fun i _ => a.length - (intOf i).toNat)
      case atStart => exact ⟨0, by omega, by omega, rfl, HB4⟩
      case round =>
        clear HB4
        obtain ⟨j, hja, hjb, rfl, HB⟩ := hrel
        by_cases hla : j < a.length
        · have d1 : decide ((j : Int) < (a.length : Int)) = true := decide_eq_true (by omega)
          by_cases hlb : j < b.length
          · have d2 : decide ((j : Int) < (b.length : Int)) = true := decide_eq_true (by omega)
            have q1 := byte_at X j (by rw [hXl]; exact hla)
            have q2 := byte_at Y j (by rw [hYl]; exact hlb)
            have q3 := byte_at a j hla
            have q4 := byte_at b j hlb
            have hxo := hid (HXO.out j hla hlb)
            have hx1 : bits .xor .u8 ((X.getD j 0).toNat : Int) ((Y.getD j 0).toNat : Int) = bv (a.getD j 0 ^^^ b.getD j 0) := by rw [← hxo.out]; exact bv_xor (X.getD j 0) (Y.getD j 0)
            have hx2 : bits .xor .u8 ((a.getD j 0).toNat : Int) ((b.getD j 0).toNat : Int) = bv (a.getD j 0 ^^^ b.getD j 0) := bv_xor (a.getD j 0) (b.getD j 0)
            have hj0 : (0 : Int) ≤ (j : Int) := Int.natCast_nonneg _
            have hj1 : (j : Int) < (a.length : Int) := by omega
            have hj2 : (j : Int) < (b.length : Int) := by omega
            generalize X.getD j 0 = p at *
            generalize Y.getD j 0 = q at *
            generalize a.getD j 0 = r at *
            generalize b.getD j 0 = u at *
            by_cases hru : r = u
            · have hpq : p = q := by
                have h := hxo.out
                rw [hru, UInt8.xor_self] at h
                exact UInt8.xor_eq_zero_iff.1 h
              subst hru hpq
              generalize r ^^^ r = v at *
              clear hxo
              go_upto_region 9 with fail
              go_quiet (fail)
              go_wp2
              go_roundw
              case rel => exact ⟨j + 1, by omega, by omega, by go_num, below_drawn HB.out _⟩
              case measure => simp [intOf]; omega
            · have hpq : p ≠ q := by
                intro e
                apply hru
                have h := hxo.out
                rw [e, UInt8.xor_self] at h
                exact UInt8.xor_eq_zero_iff.1 h.symm
              have e1 := eq_bytes p q hpq
              have e2 := eq_bytes r u hru
              generalize r ^^^ u = v at *
              clear hxo hpq hru
              go_upto_region 9 with fail
              go_quiet (fail)
              go_wp2
              go_roundw
              case rel => exact ⟨j + 1, by omega, by omega, by go_num, below_drawn HB.out _⟩
              case measure => simp [intOf]; omega
          · have d2 : decide ((j : Int) < (b.length : Int)) = false := decide_eq_false (by omega)
            have d3 : decide (j < b.length) = false := decide_eq_false hlb
            clear hlb
            go_wp2_with (first | (go_at_call 11; refine (HA.out wr (HKb.out _ HB.out) (HTb.out _ HB.out)).mono ?_))
            rintro e w5 ⟨rfl, hb5⟩
            have HB5 : Hid (Below w.heap.size w w5) := HB.out.trans (hb5.mono HB.out.size)
            clear hb5 HB
            go_wp2
            go_ret
            exact ⟨rfl, HB5.out⟩
        · have d1 : decide ((j : Int) < (a.length : Int)) = false := decide_eq_false (by omega)
          have d3 : decide (j < a.length) = false := decide_eq_false hla
          clear hla
          go_wp2_with (first | (go_at_call 11; refine (HA.out wr (HKb.out _ HB.out) (HTb.out _ HB.out)).mono ?_))
          rintro e w5 ⟨rfl, hb5⟩
          have HB5 : Hid (Below w.heap.size w w5) := HB.out.trans (hb5.mono HB.out.size)
          clear hb5 HB
          go_wp2
          go_ret
          exact ⟨rfl, HB5.out⟩
    · have HVb := hid (fun W => veil_bad x b n hb W)
      generalize veilB x n a = X at *
      generalize rErr n b.length = r at *
      have hr : (((r : Nat) : Int) != 0) = true := by simp; omega
      have hr2 : (((r : Nat) : Int) == 0) = false := by simp; omega
      clear h0 h1 h3 ha hb hkl hk
      go_wp2_with (first | (go_at_call 9; refine Calls.mono HVa.out ?_))
      rintro e w3 ⟨rfl, hb3⟩
      have HB3 : Hid (Below w.heap.size w w3) := HB2.out.trans (hb3.mono HB2.out.size)
      clear hb3 HB2 HVa
      go_wp2_with fail
      refine (HVb.out w3).mono ?_
      rintro e W ⟨rfl, rfl⟩
      go_wp2_with (first | (go_at_call 11; refine (HA.out W (HKb.out _ HB3.out) (HTb.out _ HB3.out)).mono ?_))
      rintro e w5 ⟨rfl, hb5⟩
      have HB5 : Hid (Below w.heap.size w w5) := HB3.out.trans (hb5.mono HB3.out.size)
      clear hb5 HB3
      go_wp2
      go_ret
      exact ⟨rfl, HB5.out⟩
  · have HVa := hid (fun W => veil_bad x a n ha W)
    have HVb := hid (fun W h h' => veil_any x (by omega) n b W h h')
    generalize vOut x n b = Y at *
    generalize rErr n b.length = r' at *
    generalize rErr n a.length = r at *
    have hr : (((r : Nat) : Int) != 0) = true := by simp; omega
    have hr2 : (((r : Nat) : Int) == 0) = false := by simp; omega
    clear ha hkl hk
    go_wp2_with fail
    refine (HVa.out w2).mono ?_
    rintro e W ⟨rfl, rfl⟩
    go_wp2_with (first | (go_at_call 9; refine (HVb.out W (HKb.out _ HB2.out) (HTb.out _ HB2.out)).mono ?_))
    rintro e w3 ⟨rfl, hb3⟩
    have HB3 : Hid (Below w.heap.size w w3) := HB2.out.trans (hb3.mono HB2.out.size)
    clear hb3 HB2 HVa
    go_wp2_with (first | (go_at_call 11; refine (HA.out w3 (HKb.out _ HB3.out) (HTb.out _ HB3.out)).mono ?_))
    rintro e w5 ⟨rfl, hb5⟩
    have HB5 : Hid (Below w.heap.size w w5) := HB3.out.trans (hb5.mono HB3.out.size)
    clear hb5 HB3
    go_wp2
    go_ret
    exact ⟨rfl, HB5.out⟩

end Go.Proofs.YtfkfjopjnfeahaaDoor
