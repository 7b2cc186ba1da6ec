/-
  The reference's Heard and Asked.
-/
import Derived.Test.YtkjgiidmajjonaaPmm
namespace Go.Proofs.Ytkjgiidmajjonaa.Kn
open Go Go.RowKit
set_option maxRecDepth 100000

theorem size3 : (Try.prog.info? 3).map (·.size) = some 1 := by kernel_rfl
theorem jb {b : Bool} {A B : Prop} (h : bif b then A else B) (hb : b = false) : B := by subst hb; exact h
section
variable {w w' : World} {q g cap n me : Nat} {S : List Value} {p : Pb}
/-- One number of the row anew. -/
theorem XAt.set {W W1 W2 : World} (h : XAt W q g cap S n me p) (hb : Below W.heap.size W W1) (hbut : But g W1 W2) {c : Nat} (hc : c < n) (v : Int) (hr : W2.heap[g]? = some (.cells (ic (p.due.take c) ++ ([nu v] ++ (ic (p.due.drop (c + 1)) ++ S))).toArray 3)) : XAt W2 q g cap S n me ⟨p.now, p.next, p.due.set c v⟩ ∧ Kp [q, g] W W2 := by
  refine ⟨⟨hbut.row (row_kept h.obj hb) (Ne.symm h.ne), ?_, ?_, h.ne⟩, ?_⟩
  · show W2.heap[g]? = some (.cells (ic (p.due.set c v) ++ S).toArray 3)
    rw [(due_split p.due S c (by rw [h.len]; exact hc) v).2.1]
    exact hr
  · show (p.due.set c v).length = n
    rw [List.length_set, h.len]
  · exact ⟨hbut.os.trans hb.os, hbut.tape.trans hb.tape, hbut.output.trans hb.output, by rw [hbut.size]; exact hb.size, fun k hk hX => (hbut.block k (by simp at hX; exact hX.2)).trans (hb.block k hk)⟩
set_option maxHeartbeats 4000000 in
theorem rheard_any (h : XAt w q g cap S n me p) (hn : 0 ≤ p.now ∧ p.now ≤ 4611686018427387904) (c : Int) : Calls Try.prog 23 #[pt q 0, nu c] w fun e w' => e = .returned (.bool (othB n me c)) ∧ XAt w' q g cap S n me (heardPb n me p c) ∧ Kp [q, g] w w' := by
  have HO := hid (rother_any h c)
  cases ho : othB n me c with
  | false =>
    rw [ho] at HO
    have hE : heardPb n me p c = p := by unfold heardPb; rw [ho]; rfl
    rw [hE]
    have H := hid h
    clear h hE ho hn
    go_enter Try.func23, Try.ntmps23
    go_wp2_with fail
    refine HO.out.mono ?_
    rintro e W1 ⟨rfl, hw1⟩
    subst W1
    go_wp2
    go_ret
    exact ⟨rfl, H.out, Kp.refl _ _⟩
  | true =>
    rw [ho] at HO
    have hc := ((oth_iff _ _ _).1 ho).1
    obtain ⟨c', rfl⟩ : ∃ c' : Nat, c = (c' : Int) := ⟨c.toNat, by omega⟩
    have hcn : c' < n := by omega
    have hE : heardPb n me p (c' : Int) = ⟨p.now, p.next, p.due.set c' (p.now + 4)⟩ := by unfold heardPb; rw [ho, if_pos rfl, Int.toNat_natCast]
    rw [hE]
    have IN : I64 (p.now + 4) := by unfold I64; omega
    have C0 := hid (fun W' (hb : Below w.heap.size w W') => (XAt.kept h hb).c0)
    have C1 := hid (fun W' (hb : Below w.heap.size w W') => (XAt.kept h hb).c1)
    have C2 := hid (fun W' (hb : Below w.heap.size w W') => (XAt.kept h hb).c2)
    have C4 := hid (fun W' (hb : Below w.heap.size w W') => (XAt.kept h hb).c4)
    have LA := hid ((due_split p.due S c' (by rw [h.len]; exact hcn) (p.now + 4)).2.2)
    have RW := hid (fun W' (hb : Below w.heap.size w W') => (by rw [← (due_split p.due S c' (by rw [h.len]; exact hcn) (p.now + 4)).1]; exact row_kept h.row hb : W'.heap[g]? = some (.cells (ic (p.due.take c') ++ ([nu (duI p.due (c' : Int))] ++ (ic (p.due.drop (c' + 1)) ++ S))).toArray 3)))
    have RN := hid ((due_split p.due S c' (by rw [h.len]; exact hcn) (p.now + 4)).2.1)
    have HX : Hid (∀ W1 W2, Below w.heap.size w W1 → But g W1 W2 → W2.heap[g]? = some (.cells (ic (p.due.take c') ++ ([nu (p.now + 4)] ++ (ic (p.due.drop (c' + 1)) ++ S))).toArray 3) → XAt W2 q g cap S n me ⟨p.now, p.next, p.due.set c' (p.now + 4)⟩ ∧ Kp [q, g] w W2) := fun W1 W2 hb hbut hr => h.set hb hbut hcn _ hr
    clear h hE ho hn hc
    go_enter Try.func23, Try.ntmps23
    go_wp2_with fail
    refine HO.out.mono ?_
    rintro e W1 ⟨rfl, hw1⟩
    subst W1
    go_upto_region 2 with fail
    refine wp_region_cs (N := 19) [(pt q 0), (pt q 0), (pt q 4), (Value.slice (some ⟨g, 0, none⟩) n cap), (nu (c' : Int)), (pt q 0), (pt q 0), (pt q 2), (nu (p.now)), (nu ((p.now) + 4)), (pt g (0 + c' * 1)), undef] (fun L W => bif L 11 then (∃ W', Below w.heap.size w W' ∧ But g W' W ∧ W.heap[g]? = some (.cells (ic (p.due.take c') ++ ([nu (p.now + 4)] ++ (ic (p.due.drop (c' + 1)) ++ S))).toArray 3)) else Below w.heap.size w W) [(8, (pt q 0)), (9, (pt q 0)), (10, (pt q 4)), (11, (Value.slice (some ⟨g, 0, none⟩) n cap)), (12, (nu (c' : Int))), (13, (pt q 0)), (14, (pt q 0)), (15, (pt q 2)), (16, (nu (p.now))), (17, (nu ((p.now) + 4))), (18, (pt g (0 + c' * 1)))] (by kernel_rfl) (by kernel_rfl) rfl (fun w1 hb => hb) (by kernel_rfl) ?_ ?_
    · intro i o ho
      match i, ho with
      | 0, ho => cases ho; exact fun L a w1 hLi hw hnot hJ hk hv K h => op_move 0 _ rfl (hk 0 (by kernel_rfl)) (h _ hJ)
      | 1, ho => cases ho; exact fun L a w1 hLi hw hnot hJ hk hv K h => op_nil 8 q 0 rfl (hv 0 8 (by kernel_rfl) (by kernel_rfl)) (h _ hJ)
      | 2, ho => cases ho; exact fun L a w1 hLi hw hnot hJ hk hv K h => op_fa 9 _ 4 q 0 4 rfl (fun W => by kernel_rfl) (hv 1 9 (by kernel_rfl) (by kernel_rfl)) (h _ hJ)
      | 3, ho => cases ho; exact fun L a w1 hLi hw hnot hJ hk hv K h => op_load1 _ (.tmp 10) rfl q 4 (hv 2 10 (by kernel_rfl) (by kernel_rfl)) (Value.slice (some ⟨g, 0, none⟩) n cap) _ (C4.out _ (jb hJ (hnot 11 _ rfl (by kernel_rfl)))) Try.underlying34 rfl (h _ hJ)
      | 4, ho => cases ho; exact fun L a w1 hLi hw hnot hJ hk hv K h => op_move 1 _ rfl (hk 1 (by kernel_rfl)) (h _ hJ)
      | 5, ho => cases ho; exact fun L a w1 hLi hw hnot hJ hk hv K h => op_move 0 _ rfl (hk 0 (by kernel_rfl)) (h _ hJ)
      | 6, ho => cases ho; exact fun L a w1 hLi hw hnot hJ hk hv K h => op_nil 13 q 0 rfl (hv 5 13 (by kernel_rfl) (by kernel_rfl)) (h _ hJ)
      | 7, ho => cases ho; exact fun L a w1 hLi hw hnot hJ hk hv K h => op_fa 14 _ 2 q 0 2 rfl (fun W => by kernel_rfl) (hv 6 14 (by kernel_rfl) (by kernel_rfl)) (h _ hJ)
      | 8, ho => cases ho; exact fun L a w1 hLi hw hnot hJ hk hv K h => op_load1 _ (.tmp 15) rfl q 2 (hv 7 15 (by kernel_rfl) (by kernel_rfl)) (nu (p.now)) _ (C2.out _ (jb hJ (hnot 11 _ rfl (by kernel_rfl)))) Try.underlying3 rfl (h _ hJ)
      | 9, ho => cases ho; exact fun L a w1 hLi hw hnot hJ hk hv K h => op_addC 16 _ _ (p.now) 4 rfl (hv 8 16 (by kernel_rfl) (by kernel_rfl)) IN (h _ hJ)
      | 10, ho => cases ho; exact fun L a w1 hLi hw hnot hJ hk hv K h => op_indexS 11 12 _ 3 rfl Try.underlying34 1 size3 g 0 n cap c' hcn (hv 3 11 (by kernel_rfl) (by kernel_rfl)) (hv 4 12 (by kernel_rfl) (by kernel_rfl)) (h _ hJ)
      | 11, ho => cases ho; exact fun L a w1 hLi hw hnot hJ hk hv K h => op_put1 3 18 17 rfl rfl g (0 + c' * 1) (hv 10 18 (by kernel_rfl) (by kernel_rfl)) (ic (p.due.take c')) (ic (p.due.drop (c' + 1)) ++ S) (nu (duI p.due (c' : Int))) (nu (p.now + 4)) (hv 9 17 (by kernel_rfl) (by kernel_rfl)) 3 (RW.out _ (jb hJ hLi)) (by rw [LA.out]; omega) rfl size3 (fun w2 hr hbut => h _ (by show (bif up L 11 11 then _ else _); rw [up_self]; exact ⟨w1, jb hJ hLi, hbut, hr⟩))
      | (i + 12), ho => exact absurd ho (by simp)
    intro LL W5 hall hJ
    simp only [List.foldl_cons, List.foldl_nil, List.setIfInBounds_toArray, List.set_cons_zero, List.set_cons_succ]
    rw [hall 11 (by decide), cond_true] at hJ
    obtain ⟨W4, b4, hbut, hr5⟩ := hJ
    have HX5 := hid (HX.out _ _ b4 hbut hr5)
    clear b4 hbut hr5 hall
    go_wp2
    go_ret
    exact ⟨rfl, HX5.out.1, HX5.out.2⟩
set_option maxHeartbeats 4000000 in
theorem rasked_any (h : XAt w q g cap S n me p) (hm : me < n) (hn : 0 ≤ p.now ∧ p.now ≤ 4611686018427387904) : Calls Try.prog 24 #[pt q 0] w fun e w' => e = .returned (.tuple #[]) ∧ XAt w' q g cap S n me (askedPb me p) ∧ Kp [q, g] w w' := by
  have hE : askedPb me p = ⟨p.now, p.next, p.due.set me (p.now + 7)⟩ := by unfold askedPb; rw [Int.toNat_natCast]
  rw [hE]
  have IN : I64 (p.now + 7) := by unfold I64; omega
  have C0 := hid (fun W' (hb : Below w.heap.size w W') => (XAt.kept h hb).c0)
  have C1 := hid (fun W' (hb : Below w.heap.size w W') => (XAt.kept h hb).c1)
  have C2 := hid (fun W' (hb : Below w.heap.size w W') => (XAt.kept h hb).c2)
  have C4 := hid (fun W' (hb : Below w.heap.size w W') => (XAt.kept h hb).c4)
  have LA := hid ((due_split p.due S me (by rw [h.len]; exact hm) (p.now + 7)).2.2)
  have RW := hid (fun W' (hb : Below w.heap.size w W') => (by rw [← (due_split p.due S me (by rw [h.len]; exact hm) (p.now + 7)).1]; exact row_kept h.row hb : W'.heap[g]? = some (.cells (ic (p.due.take me) ++ ([nu (duI p.due (me : Int))] ++ (ic (p.due.drop (me + 1)) ++ S))).toArray 3)))
  have RN := hid ((due_split p.due S me (by rw [h.len]; exact hm) (p.now + 7)).2.1)
  have HX : Hid (∀ W1 W2, Below w.heap.size w W1 → But g W1 W2 → W2.heap[g]? = some (.cells (ic (p.due.take me) ++ ([nu (p.now + 7)] ++ (ic (p.due.drop (me + 1)) ++ S))).toArray 3) → XAt W2 q g cap S n me ⟨p.now, p.next, p.due.set me (p.now + 7)⟩ ∧ Kp [q, g] w W2) := fun W1 W2 hb hbut hr => h.set hb hbut hm _ hr
  clear h hE hn
  go_enter Try.func24, Try.ntmps24
  go_upto_region 0 with fail
  refine wp_region_cs (N := 16) [(pt q 0), (pt q 0), (pt q 4), (Value.slice (some ⟨g, 0, none⟩) n cap), (pt q 0), (pt q 0), (pt q 1), (nu me), (pt q 0), (pt q 0), (pt q 2), (nu (p.now)), (nu ((p.now) + 7)), (pt g (0 + me * 1)), undef] (fun L W => bif L 14 then (∃ W', Below w.heap.size w W' ∧ But g W' W ∧ W.heap[g]? = some (.cells (ic (p.due.take me) ++ ([nu (p.now + 7)] ++ (ic (p.due.drop (me + 1)) ++ S))).toArray 3)) else Below w.heap.size w W) [(2, (pt q 0)), (3, (pt q 0)), (4, (pt q 4)), (5, (Value.slice (some ⟨g, 0, none⟩) n cap)), (6, (pt q 0)), (7, (pt q 0)), (8, (pt q 1)), (9, (nu me)), (10, (pt q 0)), (11, (pt q 0)), (12, (pt q 2)), (13, (nu (p.now))), (14, (nu ((p.now) + 7))), (15, (pt g (0 + me * 1)))] (by kernel_rfl) (by kernel_rfl) rfl (fun w1 hb => hb) (by kernel_rfl) ?_ ?_
  · intro i o ho
    match i, ho with
    | 0, ho => cases ho; exact fun L a w1 hLi hw hnot hJ hk hv K h => op_move 0 _ rfl (hk 0 (by kernel_rfl)) (h _ hJ)
    | 1, ho => cases ho; exact fun L a w1 hLi hw hnot hJ hk hv K h => op_nil 2 q 0 rfl (hv 0 2 (by kernel_rfl) (by kernel_rfl)) (h _ hJ)
    | 2, ho => cases ho; exact fun L a w1 hLi hw hnot hJ hk hv K h => op_fa 3 _ 4 q 0 4 rfl (fun W => by kernel_rfl) (hv 1 3 (by kernel_rfl) (by kernel_rfl)) (h _ hJ)
    | 3, ho => cases ho; exact fun L a w1 hLi hw hnot hJ hk hv K h => op_load1 _ (.tmp 4) rfl q 4 (hv 2 4 (by kernel_rfl) (by kernel_rfl)) (Value.slice (some ⟨g, 0, none⟩) n cap) _ (C4.out _ (jb hJ (hnot 14 _ rfl (by kernel_rfl)))) Try.underlying34 rfl (h _ hJ)
    | 4, ho => cases ho; exact fun L a w1 hLi hw hnot hJ hk hv K h => op_move 0 _ rfl (hk 0 (by kernel_rfl)) (h _ hJ)
    | 5, ho => cases ho; exact fun L a w1 hLi hw hnot hJ hk hv K h => op_nil 6 q 0 rfl (hv 4 6 (by kernel_rfl) (by kernel_rfl)) (h _ hJ)
    | 6, ho => cases ho; exact fun L a w1 hLi hw hnot hJ hk hv K h => op_fa 7 _ 1 q 0 1 rfl (fun W => by kernel_rfl) (hv 5 7 (by kernel_rfl) (by kernel_rfl)) (h _ hJ)
    | 7, ho => cases ho; exact fun L a w1 hLi hw hnot hJ hk hv K h => op_load1 _ (.tmp 8) rfl q 1 (hv 6 8 (by kernel_rfl) (by kernel_rfl)) (nu me) _ (C1.out _ (jb hJ (hnot 14 _ rfl (by kernel_rfl)))) Try.underlying3 rfl (h _ hJ)
    | 8, ho => cases ho; exact fun L a w1 hLi hw hnot hJ hk hv K h => op_move 0 _ rfl (hk 0 (by kernel_rfl)) (h _ hJ)
    | 9, ho => cases ho; exact fun L a w1 hLi hw hnot hJ hk hv K h => op_nil 10 q 0 rfl (hv 8 10 (by kernel_rfl) (by kernel_rfl)) (h _ hJ)
    | 10, ho => cases ho; exact fun L a w1 hLi hw hnot hJ hk hv K h => op_fa 11 _ 2 q 0 2 rfl (fun W => by kernel_rfl) (hv 9 11 (by kernel_rfl) (by kernel_rfl)) (h _ hJ)
    | 11, ho => cases ho; exact fun L a w1 hLi hw hnot hJ hk hv K h => op_load1 _ (.tmp 12) rfl q 2 (hv 10 12 (by kernel_rfl) (by kernel_rfl)) (nu (p.now)) _ (C2.out _ (jb hJ (hnot 14 _ rfl (by kernel_rfl)))) Try.underlying3 rfl (h _ hJ)
    | 12, ho => cases ho; exact fun L a w1 hLi hw hnot hJ hk hv K h => op_addC 13 _ _ (p.now) 7 rfl (hv 11 13 (by kernel_rfl) (by kernel_rfl)) IN (h _ hJ)
    | 13, ho => cases ho; exact fun L a w1 hLi hw hnot hJ hk hv K h => op_indexS 5 9 _ 3 rfl Try.underlying34 1 size3 g 0 n cap me hm (hv 3 5 (by kernel_rfl) (by kernel_rfl)) (hv 7 9 (by kernel_rfl) (by kernel_rfl)) (h _ hJ)
    | 14, ho => cases ho; exact fun L a w1 hLi hw hnot hJ hk hv K h => op_put1 3 15 14 rfl rfl g (0 + me * 1) (hv 13 15 (by kernel_rfl) (by kernel_rfl)) (ic (p.due.take me)) (ic (p.due.drop (me + 1)) ++ S) (nu (duI p.due (me : Int))) (nu (p.now + 7)) (hv 12 14 (by kernel_rfl) (by kernel_rfl)) 3 (RW.out _ (jb hJ hLi)) (by rw [LA.out]; omega) rfl size3 (fun w2 hr hbut => h _ (by show (bif up L 14 14 then _ else _); rw [up_self]; exact ⟨w1, jb hJ hLi, hbut, hr⟩))
    | (i + 15), ho => exact absurd ho (by simp)
  intro LL W5 hall hJ
  simp only [List.foldl_cons, List.foldl_nil, List.setIfInBounds_toArray, List.set_cons_zero, List.set_cons_succ]
  rw [hall 14 (by decide), cond_true] at hJ
  obtain ⟨W4, b4, hbut, hr5⟩ := hJ
  have HX5 := hid (HX.out _ _ b4 hbut hr5)
  clear b4 hbut hr5 hall
  go_wp2
  go_end0
  exact ⟨rfl, HX5.out.1, HX5.out.2⟩
end
end Go.Proofs.Ytkjgiidmajjonaa.Kn
