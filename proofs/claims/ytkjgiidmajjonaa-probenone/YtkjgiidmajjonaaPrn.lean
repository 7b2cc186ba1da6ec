/-
  The reference's New.
-/
import Derived.Test.YtkjgiidmajjonaaPti
namespace Go.Proofs.Ytkjgiidmajjonaa.Kn
open Go Go.RowKit
set_option maxRecDepth 100000

theorem build_rp (W : World) (n me x : Int) : (Instr.build 36 #[(0, nu n), (1, nu me), (3, nu x)]).run Try.prog W = .ok (.agg #[nu n, nu me, nu 0, nu x, .slice none 0 0]) W := by kernel_rfl
theorem row_of_own {w : World} {base n : Nat} {v : Value} {l : List Int} (h : w.ownsRow base 3 1 v n (ic l)) (hn : 0 < n) : ∃ g cap S, v = .slice (some ⟨g, 0, none⟩) n cap ∧ base ≤ g ∧ w.heap[g]? = some (.cells (ic l ++ S).toArray 3) := by
  rcases h.2 with ⟨-, h0⟩ | ⟨g, cap, cur, rfl, hb, hg, -, -, -, h4⟩
  · omega
  · refine ⟨g, cap, cur.toList.drop n, rfl, hb, ?_⟩
    rw [hg]
    congr 2
    apply Array.ext'
    rw [List.toList_toArray, ← h4, Nat.mul_one, List.take_append_drop]
theorem ic_snoc (l : List Int) (z : Int) : ic l ++ [nu z] = ic (l ++ [z]) := by simp [ic]
set_option maxHeartbeats 8000000 in
theorem rnew_any (n me : Nat) (h2 : 2 ≤ n) (h8 : n ≤ 8) (hm : me < n) (w : World) : Calls Try.prog 10 #[nu n, nu me] w fun e w' => e = .returned (pt w.heap.size 0) ∧ (∃ g cap S, XAt w' w.heap.size g cap S n me (newPb n me) ∧ w.heap.size < g) ∧ Below w.heap.size w w' := by
  have HB := hid (fun W x => build_rp W n me x)
  have IM : I64 ((me : Int) + 1) := by unfold I64; omega
  have hn0 : (n : Int) ≠ 0 := by omega
  have ht : ((me : Int) + 1).tmod (n : Int) = ((me : Int) + 1) % n := Int.tmod_eq_emod_of_nonneg (by omega)
  obtain ⟨nx, hnx⟩ : ∃ nx : Int, ((me : Int) + 1) % n = nx := ⟨_, rfl⟩
  have HNX := hid hnx
  rw [hnx] at ht
  clear hnx
  go_enter Try.func10, Try.ntmps10
  go_upto_region 3 with ((with_reducible refine wl_buildY 36 [(0, .tmp 7), (1, .tmp 8), (3, .tmp 12)] ?_ ?_ #[nu n, nu me, nu 0, nu nx, .slice none 0 0] ?_ ?_); exact rfl; exact rfl; exact HB.out _ _)
  have B0 := hid (below_a1 w (.cells #[nu n, nu me, nu 0, nu nx, .slice none 0 0] 36))
  have R0 := hid (top_obj w (.cells #[nu n, nu me, nu 0, nu nx, .slice none 0 0] 36))
  have hs0 : (w.alloc (.cells #[nu n, nu me, nu 0, nu nx, .slice none 0 0] 36)).heap.size = w.heap.size + 1 := by simp
  generalize w.alloc (.cells #[nu n, nu me, nu 0, nu nx, .slice none 0 0] 36) = W0 at *
  have O0 : Hid (W0.ownsRow (w.heap.size + 1) 3 1 (.slice none 0 0) 0 (ic (List.replicate 0 4))) := World.ownsRow_nil _ _ _ _
  obtain ⟨q, hq⟩ : ∃ q, w.heap.size = q := ⟨_, rfl⟩
  have HQ := hid hq
  rw [hq] at R0 O0 hs0 ⊢
  go_loopw [6] (fun i wr => ∃ (k : Nat) (v : Value), k ≤ n ∧ i = nu k ∧ Hid (wr.ownsRow (q + 1) 3 1 v k (ic (List.replicate k 4))) ∧ Hid (wr.heap[q]? = some (.cells #[nu n, nu me, nu 0, nu nx, v] 36)) ∧ Hid (Below w.heap.size w wr) ∧ q + 1 ≤ wr.heap.size) (fun i _ => n - (intOf i).toNat)
  case atStart => exact ⟨0, _, by omega, rfl, O0, R0, B0, by omega⟩
  case round =>
    obtain ⟨k, v, hk, rfl, HO, HR, HBl, hsz⟩ := hrel
    obtain ⟨ao, cp, hv⟩ := own_val HO.out
    subst hv
    have c4 : wr.cell? ⟨q, 4, none⟩ = some (.slice ao k cp) := by rw [cell_of_row _ _ _ _ _ _ HR.out]; rfl
    clear O0 R0 B0
    by_cases hlt : k < n
    · have d1 : decide ((k : Int) < (n : Int)) = true := decide_eq_true (by omega)
      have d1' : decide (k < n) = true := decide_eq_true hlt
      go_wp2_with (first
        | (at_builtin; (refine wpList_push (W := wr) rfl (.tmp 24) (.tmp 25) 34 3 rfl _ 8 Try.underlying34 info3 rfl (by omega) (q + 1) (.slice ao k cp) (nu 4) k (ic (List.replicate k 4)) rfl rfl HO.out rfl (by omega) hsz ?_); intro v3 w3 hr3 hg3 hat3; have HB3 : Hid (Below (q + 1) wr w3) := ((Below.refl (q + 1) wr).alloc hsz _).grown hg3 (by simp; omega) (own_ge HO.out); have HR3 := hid hr3; have Q3 : Hid (w3.heap[q]? = some (.cells ([nu n, nu me, nu 0, nu nx] ++ ([Value.slice ao k cp] ++ [])).toArray 36)) := (HB3.out.block q (by omega)).trans HR.out; clear hr3 hg3 hat3; obtain ⟨a3, c3, hv3⟩ := own_val HR3.out; subst hv3)
        | ((with_reducible refine wl_put1 34 (.tmp 28) (.tmp 26) ?_ ?_ q 4 ?_ ?_ [nu n, nu me, nu 0, nu nx] [] (Value.slice ao k cp) (Value.slice a3 (k + 1) c3) ?_ 36 Q3.out ?_ ?_ ?_ ?_); exact rfl; exact rfl; exact rfl; exact rfl; exact rfl; exact rfl; exact rfl; kernel_rfl; intro W4 r4 b4))
      have hsz4 : q + 1 ≤ W4.heap.size := by rw [b4.size]; exact Nat.le_trans hsz HB3.out.size
      have O4 : Hid (W4.ownsRow (q + 1) 3 1 (.slice a3 (k + 1) c3) (k + 1) (ic (List.replicate (k + 1) 4))) := by
        have := own_same HR3.out (fun kk hkk => b4.block kk (by have := own_ge HR3.out kk hkk; omega))
        rwa [ic_snoc, ← List.replicate_succ'] at this
      have B4 : Hid (Below w.heap.size w W4) := b4.below (HBl.out.trans (HB3.out.mono (by have := HQ.out; omega))) (by have := HQ.out; omega)
      have R4 := hid r4
      clear r4 b4 HB3 HR3 Q3 HO HR HBl c4
      go_wp2
      exact ⟨⟨k + 1, _, by omega, by go_num, O4, R4, B4, hsz4⟩, by simp [intOf]; omega⟩
    · have d1 : decide ((k : Int) < (n : Int)) = false := decide_eq_false (by omega)
      have d1' : decide (k < n) = false := decide_eq_false hlt
      have hkn : k = n := by omega
      subst hkn
      obtain ⟨g, cap, S, ev, hg, hrow⟩ := row_of_own HO.out (by omega)
      cases ev
      have hlr : me < (List.replicate k (4 : Int)).length := by rw [List.length_replicate]; exact hm
      have hsp := due_split (List.replicate k 4) S me hlr 7
      have RW : Hid (wr.heap[g]? = some (.cells (ic ((List.replicate k (4 : Int)).take me) ++ ([nu (duI (List.replicate k (4 : Int)) (me : Int))] ++ (ic ((List.replicate k (4 : Int)).drop (me + 1)) ++ S))).toArray 3)) := by
        show _ = _
        rw [← hsp.1]
        exact hrow
      have LA := hid hsp.2.2
      have RN := hid hsp.2.1
      clear hsp hrow
      go_wp2_with ((with_reducible refine wl_put1 3 (.tmp 34) (.const (nu 7)) ?_ ?_ g me ?_ ?_ (ic ((List.replicate k (4 : Int)).take me)) (ic ((List.replicate k (4 : Int)).drop (me + 1)) ++ S) (nu (duI (List.replicate k (4 : Int)) (me : Int))) (nu 7) ?_ 3 RW.out ?_ ?_ ?_ ?_); exact rfl; exact rfl; exact rfl; exact rfl; exact rfl; exact LA.out; exact rfl; exact size3; intro W5 r5 b5)
      go_ret
      rw [HQ.out]
      refine ⟨rfl, ⟨g, cp, S, ⟨?_, ?_, new_len _ _, by omega⟩, by omega⟩, by have := b5.below HBl.out (by have := HQ.out; omega); rwa [HQ.out] at this⟩
      · have := b5.row HR.out (by omega)
        rw [← HNX.out] at this
        exact this
      · show W5.heap[g]? = some (.cells (ic ((List.replicate k (4 : Int)).set me 7) ++ S).toArray 3)
        rw [RN.out]
        exact r5
end Go.Proofs.Ytkjgiidmajjonaa.Kn
