/-
  The queue's place and move.
-/
import Derived.Test.YtkjgiidmajjonaaQpo
namespace Go.Proofs.Ytkjgiidmajjonaa.Kn
open Go Go.RowKit
set_option maxRecDepth 100000

section
variable {w w' : World} {pp g cap : Nat} {n me now nx : Int} {L : List En} {S : List Value}
theorem isw_any (W : World) (e : En) (x : Int) (bx : Nat) (hc : W.cell? ⟨bx, 0, none⟩ = some (nu x)) : Calls Try.prog 34 #[.agg (ec e).toArray, pt bx 0] W fun e' w' => e' = .returned (.bool (e.2 == x)) ∧ Below W.heap.size W w' := by
  obtain ⟨t, k⟩ := e
  have ee : ec (t, k) = [nu t, nu k] := rfl
  rw [ee]
  have hc' := cell_keptY hc (below_a1 W (.cells #[nu t, nu k] 49))
  have B := hid (below_a1 W (.cells #[nu t, nu k] 49))
  clear hc
  go_enter Try.func34, Try.ntmps34
  go_wp2
  go_ret
  exact ⟨rfl, B.out⟩
set_option maxHeartbeats 8000000 in
theorem index_any (h : RAt w pp g cap n me now nx L S) (hL : L.length ≤ 1000) {x : Int} {bx : Nat} (hc : w.cell? ⟨bx, 0, none⟩ = some (nu x)) {k : Nat} (hk : k < L.length) (hx : (at_ L k).2 = x) (hb : ∀ j, j < k → (at_ L j).2 ≠ x) : Calls Try.prog 33 #[.slice (some ⟨g, 0, none⟩) L.length cap, .func (.func 34) #[] #[pt bx 0]] w fun e w' => e = .returned (nu k) ∧ Below w.heap.size w w' := by
  have H := hid h
  have HC := hid hc
  have HB := hid hb
  have HX := hid hx
  have B0 := hid (Below.refl w.heap.size w)
  clear h hc hb hx
  go_enter Try.func33, Try.ntmps33
  go_wp2
  go_loopw [8] (fun iv wr => ∃ i : Nat, iv = nu i ∧ i ≤ k ∧ Hid (Below w.heap.size w wr)) (fun iv _ => 2000 - (intOf iv).toNat)
  case atStart => exact ⟨0, rfl, Nat.zero_le _, B0⟩
  case round =>
    obtain ⟨i, rfl, hi, B⟩ := hrel
    clear B0
    have d1 : decide ((i : Int) < (L.length : Int)) = true := decide_eq_true (by omega)
    have d1' : decide (i < L.length) = true := decide_eq_true (by omega)
    have R := hid (H.out.kept B.out)
    have e0 := R.out.e0 (show i < L.length by omega)
    have e1 := R.out.e1 (show i < L.length by omega)
    rw [Nat.zero_add] at e0 e1
    have SD := sizeD
    have HI := hid (isw_any wr (at_ L i) x bx (cell_keptY HC.out B.out))
    by_cases he : i = k
    · subst he
      have hq : ((at_ L i).2 == x) = true := by rw [HX.out]; simp
      rw [hq] at HI
      go_wp2_with fail
      refine HI.out.mono ?_
      rintro e W2 ⟨rfl, bb⟩
      have B2 := hid (below_twoY B.out bb B.out.size)
      clear bb HI e0 e1
      go_wp2
      go_ret
      exact ⟨rfl, B2.out⟩
    · have hq : ((at_ L i).2 == x) = false := by rw [beq_eq_false_iff_ne]; exact HB.out i (by omega)
      rw [hq] at HI
      have I1 : I64 ((i : Int) + 1) := by unfold I64; omega
      go_wp2_with fail
      refine HI.out.mono ?_
      rintro e W2 ⟨rfl, bb⟩
      have B2 := hid (below_twoY B.out bb B.out.size)
      clear bb HI e0 e1
      go_wp2
      exact ⟨⟨i + 1, by go_num, by omega, B2⟩, by simp [intOf]; omega⟩
/-- Where somebody stands first. -/
theorem first_at {L : List En} {x : Int} (h : x ∈ L.map (·.2)) : ∃ k, k < L.length ∧ (at_ L k).2 = x ∧ ∀ j, j < k → (at_ L j).2 ≠ x := by
  induction L with
  | nil => simp at h
  | cons a L ih =>
    by_cases ha : a.2 = x
    · exact ⟨0, by simp, ha, fun j hj => by omega⟩
    · have h2 : x ∈ L.map (·.2) := by
        simp only [List.map_cons, List.mem_cons] at h
        exact h.resolve_left (fun e => ha e.symm)
      obtain ⟨k, h1, h3, h4⟩ := ih h2
      refine ⟨k + 1, by simp; omega, h3, fun j hj => ?_⟩
      match j, hj with
      | 0, _ => exact ha
      | j + 1, hj => exact h4 j (by omega)
set_option maxHeartbeats 4000000 in
theorem place_any (h : RAt w pp g cap n me now nx L S) (hL : L.length ≤ 1000) {x : Int} {k : Nat} (hk : k < L.length) (hx : (at_ L k).2 = x) (hb : ∀ j, j < k → (at_ L j).2 ≠ x) : Calls Try.prog 27 #[pt pp 4, nu x] w fun e w' => e = .returned (nu k) ∧ Below w.heap.size w w' := by
  have B := hid (below_a1 w (.cells #[nu x] 3))
  have R := hid (h.kept B.out)
  have c4 := R.out.c4
  have HC := hid (row_cell (A := []) (C := []) (v := nu x) (top_obj w (.cells #[nu x] 3)) rfl rfl)
  have HI := hid (index_any R.out hL HC.out hk hx hb)
  clear h
  go_enter Try.func27, Try.ntmps27
  go_wp2_with fail
  refine HI.out.mono ?_
  rintro e W2 ⟨rfl, bb⟩
  have B2 := hid (below_twoY B.out bb B.out.size)
  clear bb HI
  go_wp2
  go_ret
  exact ⟨rfl, B2.out⟩
set_option maxHeartbeats 4000000 in
theorem move_any (h : RAt w pp g cap n me now nx L S) (hL : L.length ≤ 1000) (hh : Hp L L.length) {x : Int} (hm : x ∈ L.map (·.2)) (t : Int) : Calls Try.prog 28 #[pt pp 4, nu x, nu t] w fun e w' => e = .returned (.tuple #[]) ∧ ∃ k L', (k < L.length ∧ (at_ L k).2 = x) ∧ (L'.Perm (L.set k (t, x)) ∧ Hp L' L'.length) ∧ RAt w' pp g cap n me now nx L' S ∧ Kp [g] w w' := by
  obtain ⟨k, hk, hx, hb⟩ := first_at hm
  have HP := hid (place_any h hL hk hx hb)
  have H := hid h
  have d1 : decide ((k : Int) < (L.length : Int)) = true := decide_eq_true (by omega)
  have d1' : decide (k < L.length) = true := decide_eq_true (by omega)
  have SD := sizeD
  clear h hb
  go_enter Try.func28, Try.ntmps28
  go_wp2_with fail
  refine HP.out.mono ?_
  rintro e W1 ⟨rfl, bb⟩
  have R := hid (H.out.kept bb)
  have K1 : Hid (Kp [g] w W1) := hid (Kp.of bb)
  clear bb HP H
  have c4 := R.out.c4
  have RW : Hid (W1.heap[g]? = some (.cells (ecs (L.take k) ++ ([nu (at_ L k).1] ++ (nu (at_ L k).2 :: (ecs (L.drop (k + 1)) ++ S)))).toArray 49)) := hid (by
    have e := R.out.row
    rw [ecs_split L S hk] at e
    exact e)
  have LA : Hid ((ecs (L.take k)).length = k * 2) := hid (by have := ecs_off L hk; omega)
  go_upto_region 2 with (first
    | ((with_reducible refine wl_put1 3 (.tmp 17) (.tmp 15) ?_ ?_ g (k * 2) ?_ ?_ (ecs (L.take k)) (nu (at_ L k).2 :: (ecs (L.drop (k + 1)) ++ S)) (nu (at_ L k).1) (nu t) ?_ 49 RW.out ?_ ?_ ?_ ?_); exact rfl; exact rfl; exact rfl; exact rfl; exact rfl; exact LA.out; exact rfl; exact size3; intro W4 r4 b4))
  have R4 := hid (R.out.set hk (t, x) b4 (by rw [← hx]; exact r4))
  have K4 : Hid (Kp [g] w W4) := hid ⟨b4.os.trans K1.out.os, b4.tape.trans K1.out.tape, b4.output.trans K1.out.output, by rw [b4.size]; exact K1.out.size, fun k hk hX => (b4.block k (by simpa using hX)).trans (K1.out.block k hk hX)⟩
  have HF := hid (fix_any R4.out (by rw [List.length_set]; exact hL) (i := k) (by rw [List.length_set]; exact hk) (by rw [List.length_set]; exact fix_fx hh hk (t, x)))
  clear r4 b4 R K1 RW LA c4
  go_wp2_with fail
  refine HF.out.mono ?_
  rintro e W5 ⟨rfl, L5, hp5, r5, k5⟩
  have R5 := hid r5
  have K5 := hid (K4.out.trans k5)
  clear r5 k5 HF R4 K4
  go_wp2
  refine bodyPost_end (results_none rfl _ _ _) rfl ?_
  exact ⟨rfl, k, L5, ⟨hk, hx⟩, hp5, R5.out, K5.out⟩
end
end Go.Proofs.Ytkjgiidmajjonaa.Kn
