/-
  container/heap's Push; the queue's Pop, container/heap's Pop.
-/
import Derived.Test.YtkjgiidmajjonaaQpu
namespace Go.Proofs.Ytkjgiidmajjonaa.Kn
open Go Go.RowKit
set_option maxRecDepth 100000

section
variable {w w' : World} {pp g cap : Nat} {n me now nx : Int} {L : List En} {S : List Value}
theorem OAt.row {v : Value} (h : OAt w pp n me now nx v L) (hne : L.length ≠ 0) : ∃ g cap S, v.ownBlock = some g ∧ RAt w pp g cap n me now nx L S := by
  obtain ⟨hl, h0 | ⟨g, cap, cur, rfl, hb, hg, hn, hm, hs, ht⟩⟩ := h.own
  · exact absurd h0.2 hne
  · refine ⟨g, cap, cur.toList.drop (L.length * 2), rfl, ⟨h.obj, ?_, fun e => h.ne (by rw [e]; rfl), ?_, hn, hm⟩⟩
    · rw [hg, ← ht, List.take_append_drop]
    · rw [List.length_drop, Array.length_toList, hs]; omega
theorem RAt.o (h : RAt w pp g cap n me now nx L S) : OAt w pp n me now nx (.slice (some ⟨g, 0, none⟩) L.length cap) L := by
  refine ⟨h.obj, ⟨ecs_len L, Or.inr ⟨g, cap, _, rfl, Nat.zero_le _, h.row, h.sz.2.1, h.sz.2.2, ?_, ?_⟩⟩, fun e => h.ne (by cases e; rfl)⟩
  · have := h.sz.1
    have := h.sz.2.1
    simp only [List.size_toArray, List.length_append, ecs_len]
    omega
  · show (ecs L ++ S).take (L.length * 2) = ecs L
    rw [← ecs_len, List.take_left']
    rfl
theorem Kp.transN {X Z : List Nat} {a b c : World} (h : Kp X a b) (k : Kp Z b c) (hz : ∀ z ∈ Z, z ∈ X ∨ a.heap.size ≤ z) : Kp X a c :=
  ⟨k.os.trans h.os, k.tape.trans h.tape, k.output.trans h.output, Nat.le_trans h.size k.size, fun i hi hX => (k.block i (Nat.lt_of_lt_of_le hi h.size) (fun hm => by rcases hz i hm with e | e; exact hX e; omega)).trans (h.block i hi hX)⟩
theorem hpush_any {v : Value} (h : OAt w pp n me now nx v L) (hL : L.length ≤ 900) (hh : Hp L L.length) (e : En) : Calls Try.prog 20 #[qI pp, .iface 49 (.agg (ec e).toArray)] w fun e' w' => e' = .returned (.tuple #[]) ∧ ∃ g' cap' L' S', (L'.Perm (e :: L) ∧ Hp L' L'.length) ∧ RAt w' pp g' cap' n me now nx L' S' ∧ Kp (pp :: v.ownBlock.toList) w w' ∧ (v.ownBlock = some g' ∨ w.heap.size ≤ g') := by
  have HP := hid (push_any h (by omega) e)
  clear h
  go_enter Try.func20, Try.ntmps20
  go_wp2_with fail
  refine HP.out.mono ?_
  rintro e1 W1 ⟨rfl, v1, o1, k1, f1⟩
  obtain ⟨g1, cap1, S1, hg1, r1⟩ := o1.row (by simp)
  have R1 := hid r1
  have K1 := hid k1
  have hg := f1 g1 hg1
  have hlen : (L ++ [e]).length = L.length + 1 := by simp
  have HLe := hid (len_any r1)
  have HU := hid (up_any r1 (by rw [hlen]; omega) (j0 := L.length) (by rw [hlen]; omega) (push_up hh e))
  rw [hlen] at HLe
  have I1 : I64 (((L.length + 1 : Nat) : Int) - 1) := by unfold I64; omega
  have hs : ((L.length + 1 : Nat) : Int) - 1 = (L.length : Int) := by omega
  clear r1 k1 o1 f1 HP
  go_wp2_with fail
  refine HLe.out.mono ?_
  rintro e2 W2 ⟨rfl, hw⟩
  subst W2
  go_wp2_with fail
  refine HU.out.mono ?_
  rintro e2 W2 ⟨rfl, L2, ⟨hp2, hh2⟩, r2, k2⟩
  have R2 := hid r2
  have K2 := hid (K1.out.transN k2 (fun x hx => by
    simp at hx
    subst hx
    rcases hg with e | e
    · exact Or.inl (List.mem_cons_of_mem _ (mem_ob.2 e))
    · exact Or.inr e))
  clear r2 k2 HU
  go_wp2
  refine bodyPost_end (results_none rfl _ _ _) rfl ?_
  exact ⟨rfl, g1, cap1, L2, S1, ⟨hp2.trans (List.perm_append_comm.trans (List.Perm.refl _)), hh2⟩, R2.out, K2.out, hg⟩
set_option maxHeartbeats 8000000 in
theorem pop_any {m : Nat} (h : RAt w pp g cap n me now nx L S) (hL : L.length ≤ 1000) (hm : L.length = m + 1) : Calls Try.prog 57 #[pt pp 4] w fun e' w' => e' = .returned (.iface 49 (.agg (ec (at_ L m)).toArray)) ∧ RAt w' pp g cap n me now nx (L.take m) (ec (at_ L m) ++ S) ∧ Kp [pp] w w' := by
  have c4 := h.c4
  have e0 := h.e0 (show m < L.length by omega)
  have e1 := h.e1 (show m < L.length by omega)
  rw [Nat.zero_add] at e0 e1
  have H := hid h
  have I1 : I64 (((m + 1 : Nat) : Int) - 1) := by unfold I64; omega
  have hs : ((m + 1 : Nat) : Int) - 1 = (m : Int) := by omega
  have d1 : decide ((m : Int) < ((m + 1 : Nat) : Int)) = true := decide_eq_true (by omega)
  have d1' : decide (m < m + 1) = true := decide_eq_true (by omega)
  have SD := sizeD
  have ZD := zeroD
  have hcap : m ≤ cap := by have := h.sz.2.1; omega
  rw [hm] at c4
  clear h
  go_enter Try.func57, Try.ntmps57
  go_upto_region 3 with fail
  have B1 := hid (below_a1 w (.cells #[nu (at_ L m).1, nu (at_ L m).2] 49))
  have D1 := hid (top_obj w (.cells #[nu (at_ L m).1, nu (at_ L m).2] 49))
  have R1 := hid (H.out.kept B1.out)
  have hXp : w.heap.size ≠ pp := by have := H.out.lt; omega
  obtain ⟨X, hX⟩ : ∃ X, w.heap.size = X := ⟨_, rfl⟩
  have HB1 := hid (show Kp [pp] w _ from Kp.of B1.out)
  rw [hX] at D1 hXp ⊢
  clear hX c4 e0 e1 B1 H
  generalize w.alloc (.cells #[nu (at_ L m).1, nu (at_ L m).2] 49) = W1 at *
  have c4 := R1.out.c4
  rw [hm] at c4
  have CUT : (Instr.slice 50 (.slice (some ⟨g, 0, none⟩) (m + 1) cap) none (some (nu m)) none).run Try.prog W1 = .ok (.slice (some ⟨g, 0, none⟩) m cap) W1 := by
    rw [run_cutTo 50 _ Try.underlying50 2 sizeD _ _ _ _ hcap]
    split <;> simp [add_none]
  have OBJ : Hid (W1.heap[pp]? = some (.cells ([nu n, nu me, nu now, nu nx] ++ ([Value.slice (some ⟨g, 0, none⟩) (m + 1) cap] ++ [fnA])).toArray 54)) := hid (by have h1 := R1.out.obj; rw [hm] at h1; exact h1)
  go_upto_region 4 with (first
    | ((with_reducible refine wl_put1 50 (.tmp 26) (.tmp 24) ?_ ?_ pp 4 ?_ ?_ [nu n, nu me, nu now, nu nx] [fnA] (Value.slice (some ⟨g, 0, none⟩) (m + 1) cap) (Value.slice (some ⟨g, 0, none⟩) m cap) ?_ 54 OBJ.out ?_ ?_ ?_ ?_); exact rfl; exact rfl; exact rfl; exact rfl; exact rfl; exact rfl; exact rfl; exact sizeQ; intro W4 r4 b4))
  have D4 := hid (b4.row D1.out hXp)
  have x0 : W4.cell? ⟨X, 0, none⟩ = some (nu (at_ L m).1) := row_cell (A := []) (C := [nu (at_ L m).2]) D4.out rfl rfl
  have x1 : W4.cell? ⟨X, 1, none⟩ = some (nu (at_ L m).2) := row_cell (A := [nu (at_ L m).1]) (C := []) D4.out rfl rfl
  have RG := hid (b4.row R1.out.row R1.out.ne)
  have K4 : Hid (Kp [pp] w W4) := hid ⟨b4.os.trans HB1.out.os, b4.tape.trans HB1.out.tape, b4.output.trans HB1.out.output, by rw [b4.size]; exact HB1.out.size, fun k hk hX => (b4.block k (by simpa using hX)).trans (HB1.out.block k hk hX)⟩
  have OB4 := hid r4
  have HN := hid R1.out.ne
  have HSZ := hid R1.out.sz
  clear r4 b4 D1 D4 c4 CUT OBJ R1 HB1
  go_wp2
  go_ret
  refine ⟨rfl, ⟨?_, ?_, HN.out, ?_⟩, K4.out⟩
  · rw [List.length_take, Nat.min_eq_left (by omega)]
    exact OB4.out
  · have e := ecs_split L S (show m < L.length by omega)
    rw [List.drop_eq_nil_of_le (show L.length ≤ m + 1 by omega)] at e
    have e2 : ecs (L.take m) ++ (ec (at_ L m) ++ S) = ecs L ++ S := by rw [e]; rfl
    rw [e2]
    exact RG.out
  · have := HSZ.out
    rw [hm] at this
    rw [List.length_take, Nat.min_eq_left (by omega), List.length_append]
    refine ⟨?_, hcap, this.2.2⟩
    show 2 + S.length = _
    omega
theorem hpop_any {m : Nat} (h : RAt w pp g cap n me now nx L S) (hL : L.length ≤ 1000) (hm : L.length = m + 1) (hh : Hp L L.length) : Calls Try.prog 37 #[qI pp] w fun e' w' => e' = .returned (.iface 49 (.agg (ec (at_ L 0)).toArray)) ∧ ∃ L' S', ((at_ L 0 :: L').Perm L ∧ Hp L' L'.length ∧ L'.length = m ∧ ∀ e ∈ L', leE (at_ L 0) e) ∧ RAt w' pp g cap n me now nx L' S' ∧ Kp [pp, g] w w' := by
  have HLe := hid (len_any h)
  have HS := hid (swap_any h (show 0 < L.length by omega) (show m < L.length by omega))
  have I1 : I64 (((m + 1 : Nat) : Int) - 1) := by unfold I64; omega
  have hs : ((m + 1 : Nat) : Int) - 1 = (m : Int) := by omega
  rw [hm] at hh HLe
  clear h
  go_enter Try.func37, Try.ntmps37
  go_wp2_with fail
  refine HLe.out.mono ?_
  rintro e W1 ⟨rfl, hw⟩
  subst W1
  clear HLe
  go_wp2_with fail
  refine HS.out.mono ?_
  rintro e W2 ⟨rfl, r2, k2⟩
  have R2 := hid r2
  have K2 := hid k2
  clear r2 k2 HS
  have HD := hid (down_any R2.out (by rw [swp_len]; exact hL) (nn := m) (i0 := 0) (by rw [swp_len]; omega) (by omega) (pop_fx hh hm))
  go_wp2_with fail
  refine HD.out.mono ?_
  rintro e W3 ⟨b, L3, rfl, ⟨hl3, hp3, hf3⟩, ⟨hb1, hb0⟩, r3, k3⟩
  have hh3 : Hp L3 m := by
    cases b with
    | true => exact hb1 rfl
    | false => exact up_top (hb0 rfl)
  have PE := hid (pop_end hh hm hp3 hf3 hh3)
  have R3 := hid r3
  have K3 := hid (K2.out.trans k3)
  rw [swp_len] at hl3
  clear r3 k3 HD hb1 hb0 R2 K2 hh3
  have HP := hid (pop_any R3.out (by omega) (show L3.length = m + 1 by omega))
  rw [PE.out.1] at HP
  go_wp2_with fail
  refine HP.out.mono ?_
  rintro e W4 ⟨rfl, r4, k4⟩
  have R4 := hid r4
  have K4 : Hid (Kp [pp, g] w W4) := hid ((K3.out.drop (Y := [pp, g]) (fun x hx => Or.inl (by simp at hx; simp [hx]))).transN k4 (fun x hx => by simp at hx; simp [hx]))
  clear r4 k4 HP R3 K3
  go_wp2
  go_ret
  exact ⟨rfl, _, _, PE.out.2, R4.out, K4.out⟩
end
end Go.Proofs.Ytkjgiidmajjonaa.Kn
