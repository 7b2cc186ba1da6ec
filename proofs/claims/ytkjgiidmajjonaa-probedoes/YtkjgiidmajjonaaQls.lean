/-
  The queue: Less and Swap.
-/
import Derived.Test.YtkjgiidmajjonaaQme
import Derived.Test.YtkjgiidmajjonaaPhr
namespace Go.Proofs.Ytkjgiidmajjonaa.Kn
open Go Go.RowKit
set_option maxRecDepth 100000

theorem op_mkI {P : Program} {o : Oper} {a : Act} {w : World} {Q : Exit → Act → World → Prop} {K : Act → World → Prop} (x : Tmp) (T : TypeId) (u : Value) (ho : o.op = .makeInterface T (.tmp x)) (hx : a.tmps.getD x undef = u) (hr : (Instr.makeInterface T u).run P w = .ok (.iface T u) w) (h : K (a.put o.dst (.iface T u)) w) : o.wp P a w K Q := by
  have ex : a.eval (.tmp x) = u := hx
  unfold Oper.wp execOp
  simp only [ho, ex, Sem.run_bind, hr, Result.andThen_ok, Sem.run_pure]
  exact h
section
variable {w w' : World} {pp g cap : Nat} {n me now nx : Int} {L : List En} {S : List Value}
theorem RAt.elem (h : RAt w pp g cap n me now nx L S) {i : Nat} (hi : i < L.length) (W : World) (hb : Below w.heap.size w W) : ∀ j v, (ec (at_ L i))[j]? = some v → W.cell? ⟨g, 0 + i * 2 + j, none⟩ = some v := (h.kept hb).en hi
set_option maxHeartbeats 4000000 in
theorem less_any (h : RAt w pp g cap n me now nx L S) {x1 x2 : Nat} (hi : x1 < L.length) (hj : x2 < L.length) : Calls Try.prog 56 #[pt pp 4, nu x1, nu x2] w fun e w' => e = .returned (.bool (ltE (at_ L x1) (at_ L x2))) ∧ Below w.heap.size w w' := by
  have C4 := hid (fun W (hb : Below w.heap.size w W) => (h.kept hb).c4)
  have C5 := hid (fun W (hb : Below w.heap.size w W) => (h.kept hb).c5)
  have EI := hid (fun W (hb : Below w.heap.size w W) => (h.kept hb).en hi)
  have EJ := hid (fun W (hb : Below w.heap.size w W) => (h.kept hb).en hj)
  clear h
  go_enter Try.func56, Try.ntmps56
  go_upto_region 1 with fail
  refine wp_region_cs (N := 26) [(pt pp 4), (pt pp 4), (pt pp 5), fnA, (pt pp 4), (pt pp 4), (pt pp 4), (Value.slice (some ⟨g, 0, none⟩) L.length cap), (nu (x1 : Int)), (pt g (0 + x1 * 2)), (.agg (ec (at_ L x1)).toArray), (pt pp 4), (pt pp 4), (pt pp 4), (Value.slice (some ⟨g, 0, none⟩) L.length cap), (nu (x2 : Int)), (pt g (0 + x2 * 2)), (.agg (ec (at_ L x2)).toArray), (.bool (ltE (at_ L x1) (at_ L x2))), (.bool (ltE (at_ L x1) (at_ L x2)))] (fun _ W => Below w.heap.size w W) [(7, (pt pp 4)), (8, (pt pp 4)), (9, (pt pp 5)), (10, fnA), (11, (pt pp 4)), (12, (pt pp 4)), (13, (pt pp 4)), (14, (Value.slice (some ⟨g, 0, none⟩) L.length cap)), (15, (nu (x1 : Int))), (16, (pt g (0 + x1 * 2))), (17, (.agg (ec (at_ L x1)).toArray)), (18, (pt pp 4)), (19, (pt pp 4)), (20, (pt pp 4)), (21, (Value.slice (some ⟨g, 0, none⟩) L.length cap)), (22, (nu (x2 : Int))), (23, (pt g (0 + x2 * 2))), (24, (.agg (ec (at_ L x2)).toArray)), (25, (.bool (ltE (at_ L x1) (at_ L x2)))), (6, (.bool (ltE (at_ L x1) (at_ L x2))))] (by kernel_rfl) (by kernel_rfl) rfl (fun w1 hb => hb) (by kernel_rfl) ?_ ?_
  · intro i o ho
    match i, ho with
    | 0, ho => cases ho; exact fun L1 a w1 hLi hw hnot hJ hk hv K h => op_move 0 _ rfl (hk 0 (by kernel_rfl)) (h _ hJ)
    | 1, ho => cases ho; exact fun L1 a w1 hLi hw hnot hJ hk hv K h => op_nil 7 pp 4 rfl (hv 0 7 (by kernel_rfl) (by kernel_rfl)) (h _ hJ)
    | 2, ho => cases ho; exact fun L1 a w1 hLi hw hnot hJ hk hv K h => op_fa 8 _ 1 pp 4 1 rfl (fun W => by kernel_rfl) (hv 1 8 (by kernel_rfl) (by kernel_rfl)) (h _ hJ)
    | 3, ho => cases ho; exact fun L1 a w1 hLi hw hnot hJ hk hv K h => op_load1 _ (.tmp 9) rfl pp 5 (hv 2 9 (by kernel_rfl) (by kernel_rfl)) fnA _ (C5.out _ hJ) Try.underlying46 rfl (h _ hJ)
    | 4, ho => cases ho; exact fun L1 a w1 hLi hw hnot hJ hk hv K h => op_move 0 _ rfl (hk 0 (by kernel_rfl)) (h _ hJ)
    | 5, ho => cases ho; exact fun L1 a w1 hLi hw hnot hJ hk hv K h => op_nil 11 pp 4 rfl (hv 4 11 (by kernel_rfl) (by kernel_rfl)) (h _ hJ)
    | 6, ho => cases ho; exact fun L1 a w1 hLi hw hnot hJ hk hv K h => op_fa 12 _ 0 pp 4 0 rfl (fun W => by kernel_rfl) (hv 5 12 (by kernel_rfl) (by kernel_rfl)) (h _ hJ)
    | 7, ho => cases ho; exact fun L1 a w1 hLi hw hnot hJ hk hv K h => op_load1 _ (.tmp 13) rfl pp 4 (hv 6 13 (by kernel_rfl) (by kernel_rfl)) (Value.slice (some ⟨g, 0, none⟩) L.length cap) _ (C4.out _ hJ) Try.underlying50 rfl (h _ hJ)
    | 8, ho => cases ho; exact fun L1 a w1 hLi hw hnot hJ hk hv K h => op_move 1 _ rfl (hk 1 (by kernel_rfl)) (h _ hJ)
    | 9, ho => cases ho; exact fun L1 a w1 hLi hw hnot hJ hk hv K h => op_indexS 14 15 _ 49 rfl Try.underlying50 2 sizeD g 0 (L.length) (cap) (x1) (hi) (hv 7 14 (by kernel_rfl) (by kernel_rfl)) (hv 8 15 (by kernel_rfl) (by kernel_rfl)) (h _ hJ)
    | 10, ho => cases ho; exact fun L1 a w1 hLi hw hnot hJ hk hv K h => op_load _ (.tmp 16) rfl g (0 + x1 * 2) (hv 9 16 (by kernel_rfl) (by kernel_rfl)) (ec (at_ L x1)) _ (EI.out _ hJ) Try.underlying49 rfl sizeD (h _ hJ)
    | 11, ho => cases ho; exact fun L1 a w1 hLi hw hnot hJ hk hv K h => op_move 0 _ rfl (hk 0 (by kernel_rfl)) (h _ hJ)
    | 12, ho => cases ho; exact fun L1 a w1 hLi hw hnot hJ hk hv K h => op_nil 18 pp 4 rfl (hv 11 18 (by kernel_rfl) (by kernel_rfl)) (h _ hJ)
    | 13, ho => cases ho; exact fun L1 a w1 hLi hw hnot hJ hk hv K h => op_fa 19 _ 0 pp 4 0 rfl (fun W => by kernel_rfl) (hv 12 19 (by kernel_rfl) (by kernel_rfl)) (h _ hJ)
    | 14, ho => cases ho; exact fun L1 a w1 hLi hw hnot hJ hk hv K h => op_load1 _ (.tmp 20) rfl pp 4 (hv 13 20 (by kernel_rfl) (by kernel_rfl)) (Value.slice (some ⟨g, 0, none⟩) L.length cap) _ (C4.out _ hJ) Try.underlying50 rfl (h _ hJ)
    | 15, ho => cases ho; exact fun L1 a w1 hLi hw hnot hJ hk hv K h => op_move 2 _ rfl (hk 2 (by kernel_rfl)) (h _ hJ)
    | 16, ho => cases ho; exact fun L1 a w1 hLi hw hnot hJ hk hv K h => op_indexS 21 22 _ 49 rfl Try.underlying50 2 sizeD g 0 (L.length) (cap) (x2) (hj) (hv 14 21 (by kernel_rfl) (by kernel_rfl)) (hv 15 22 (by kernel_rfl) (by kernel_rfl)) (h _ hJ)
    | 17, ho => cases ho; exact fun L1 a w1 hLi hw hnot hJ hk hv K h => op_load _ (.tmp 23) rfl g (0 + x2 * 2) (hv 16 23 (by kernel_rfl) (by kernel_rfl)) (ec (at_ L x2)) _ (EJ.out _ hJ) Try.underlying49 rfl sizeD (h _ hJ)
    | 18, ho => cases ho; exact fun L1 a w1 hLi hw hnot hJ hk hv K h => op_callV 10 18 #[] [.tmp 17, .tmp 24] _ #[(.agg (ec (at_ L x1)).toArray), (.agg (ec (at_ L x2)).toArray)] (.bool (ltE (at_ L x1) (at_ L x2))) rfl (hv 3 10 (by kernel_rfl) (by kernel_rfl)) (fun _ _ => by kernel_rfl) (args2 (hv 10 17 (by kernel_rfl) (by kernel_rfl)) (hv 17 24 (by kernel_rfl) (by kernel_rfl))) (ahead_any _ _ _) (fun w1 e1 => h _ (below_two hJ e1))
    | 19, ho => cases ho; exact fun L1 a w1 hLi hw hnot hJ hk hv K h => op_assign 25 _ rfl (hv 18 25 (by kernel_rfl) (by kernel_rfl)) (h _ hJ)
    | (i + 20), ho => exact absurd ho (by simp)
  intro LL W5 hall hJ
  simp only [List.foldl_cons, List.foldl_nil, List.setIfInBounds_toArray, List.set_cons_zero, List.set_cons_succ]
  go_wp2
  go_ret
  exact ⟨rfl, hJ⟩
/-- What Swap has done when so much has come up. -/
def SwJ (w : World) (pp g cap : Nat) (n me now nx : Int) (L : List En) (S : List Value) (i j : Nat) (F : Nat → Bool) (W : World) : Prop :=
  RAt W pp g cap n me now nx (bif F 27 then swp L i j else bif F 25 then L.set i (at_ L j) else L) S ∧ Kp [g] w W
theorem SwJ.c4 {i j : Nat} {F : Nat → Bool} {W : World} (h : SwJ w pp g cap n me now nx L S i j F W) : W.cell? ⟨pp, 4, none⟩ = some (.slice (some ⟨g, 0, none⟩) L.length cap) := by
  have e := h.1.c4
  have el : (bif F 27 then swp L i j else bif F 25 then L.set i (at_ L j) else L).length = L.length := by
    cases F 27 <;> cases F 25 <;> simp [swp_len]
  rw [el] at e
  exact e
theorem SwJ.els {i j k : Nat} {F : Nat → Bool} {W : World} (h : SwJ w pp g cap n me now nx L S i j F W) (h1 : F 25 = false) (h2 : F 27 = false) (hk : k < L.length) : ∀ u v, (ec (at_ L k))[u]? = some v → W.cell? ⟨g, 0 + k * 2 + u, none⟩ = some v := by
  have e := h.1
  rw [h1, h2] at e
  exact RAt.en e hk
theorem SwJ.st1 {i j : Nat} {F : Nat → Bool} {W W' : World} (h : SwJ w pp g cap n me now nx L S i j F W) (h1 : F 25 = false) (h2 : F 27 = false) (hi : i < L.length) (hb : But g W W') (hr : W'.heap[g]? = some (.cells (ecs (L.take i) ++ (ec (at_ L j) ++ (ecs (L.drop (i + 1)) ++ S))).toArray 49)) : SwJ w pp g cap n me now nx L S i j (up F 25) W' := by
  have e := h.1
  rw [h1, h2] at e
  have e2 := RAt.set e hi (at_ L j) hb hr
  refine ⟨?_, ⟨hb.os.trans h.2.os, hb.tape.trans h.2.tape, hb.output.trans h.2.output, by rw [hb.size]; exact h.2.size, fun k hk hX => (hb.block k (by simpa using hX)).trans (h.2.block k hk hX)⟩⟩
  rw [up_ne (by decide), h2, up_self]
  exact e2
theorem SwJ.row2 {i j : Nat} {F : Nat → Bool} {W : World} (h : SwJ w pp g cap n me now nx L S i j F W) (h1 : F 25 = true) (h2 : F 27 = false) (hj : j < L.length) : W.heap[g]? = some (.cells (ecs ((L.set i (at_ L j)).take j) ++ (ec (at_ (L.set i (at_ L j)) j) ++ (ecs ((L.set i (at_ L j)).drop (j + 1)) ++ S))).toArray 49) := by
  have e := h.1
  rw [h1, h2] at e
  have e2 := RAt.row e
  rw [← ecs_split (L.set i (at_ L j)) S (by rw [List.length_set]; exact hj)]
  exact e2
theorem SwJ.row1 {i j : Nat} {F : Nat → Bool} {W : World} (h : SwJ w pp g cap n me now nx L S i j F W) (h1 : F 25 = false) (h2 : F 27 = false) (hi : i < L.length) : W.heap[g]? = some (.cells (ecs (L.take i) ++ (ec (at_ L i) ++ (ecs (L.drop (i + 1)) ++ S))).toArray 49) := by
  have e := h.1
  rw [h1, h2] at e
  rw [← ecs_split L S hi]
  exact RAt.row e
theorem SwJ.st2 {i j : Nat} {F : Nat → Bool} {W W' : World} (h : SwJ w pp g cap n me now nx L S i j F W) (h1 : F 25 = true) (h2 : F 27 = false) (hj : j < L.length) (hb : But g W W') (hr : W'.heap[g]? = some (.cells (ecs ((L.set i (at_ L j)).take j) ++ (ec (at_ L i) ++ (ecs ((L.set i (at_ L j)).drop (j + 1)) ++ S))).toArray 49)) : SwJ w pp g cap n me now nx L S i j (up F 27) W' := by
  have e := h.1
  rw [h1, h2] at e
  have e2 := RAt.set e (i := j) (by show j < (L.set i (at_ L j)).length; rw [List.length_set]; exact hj) (at_ L i) hb hr
  refine ⟨?_, ⟨hb.os.trans h.2.os, hb.tape.trans h.2.tape, hb.output.trans h.2.output, by rw [hb.size]; exact h.2.size, fun k hk hX => (hb.block k (by simpa using hX)).trans (h.2.block k hk hX)⟩⟩
  rw [up_self]
  exact e2
theorem SwJ.end {i j : Nat} {F : Nat → Bool} {W : World} (h : SwJ w pp g cap n me now nx L S i j F W) (h2 : F 27 = true) : RAt W pp g cap n me now nx (swp L i j) S ∧ Kp [g] w W := by
  have e := h.1
  rw [h2] at e
  exact ⟨e, h.2⟩
theorem SwJ.ups {i j k : Nat} {F : Nat → Bool} {W : World} (h : SwJ w pp g cap n me now nx L S i j F W) (h1 : k ≠ 25) (h2 : k ≠ 27) : SwJ w pp g cap n me now nx L S i j (up F k) W := by
  unfold SwJ
  rw [up_ne h1, up_ne h2]
  exact h
set_option maxHeartbeats 8000000 in
theorem swap_any (h : RAt w pp g cap n me now nx L S) {x1 x2 : Nat} (hi : x1 < L.length) (hj : x2 < L.length) : Calls Try.prog 59 #[pt pp 4, nu x1, nu x2] w fun e w' => e = .returned (.tuple #[]) ∧ RAt w' pp g cap n me now nx (swp L x1 x2) S ∧ Kp [g] w w' := by
  have H0 : Hid (∀ W, Below w.heap.size w W → SwJ w pp g cap n me now nx L S x1 x2 (fun _ => false) W) := fun W hb => ⟨h.kept hb, Kp.of hb⟩
  clear h
  go_enter Try.func59, Try.ntmps59
  go_upto_region 0 with fail
  refine wp_region_cs (N := 32) [(pt pp 4), (pt pp 4), (pt pp 4), (Value.slice (some ⟨g, 0, none⟩) L.length cap), (nu (x1 : Int)), (pt pp 4), (pt pp 4), (pt pp 4), (Value.slice (some ⟨g, 0, none⟩) L.length cap), (nu (x2 : Int)), (pt pp 4), (pt pp 4), (pt pp 4), (Value.slice (some ⟨g, 0, none⟩) L.length cap), (nu (x2 : Int)), (pt g (0 + x2 * 2)), (.agg (ec (at_ L x2)).toArray), (pt pp 4), (pt pp 4), (pt pp 4), (Value.slice (some ⟨g, 0, none⟩) L.length cap), (nu (x1 : Int)), (pt g (0 + x1 * 2)), (.agg (ec (at_ L x1)).toArray), (pt g (0 + x1 * 2)), undef, (pt g (0 + x2 * 2)), undef] (SwJ w pp g cap n me now nx L S x1 x2) [(6, (pt pp 4)), (7, (pt pp 4)), (8, (pt pp 4)), (9, (Value.slice (some ⟨g, 0, none⟩) L.length cap)), (10, (nu (x1 : Int))), (11, (pt pp 4)), (12, (pt pp 4)), (13, (pt pp 4)), (14, (Value.slice (some ⟨g, 0, none⟩) L.length cap)), (15, (nu (x2 : Int))), (16, (pt pp 4)), (17, (pt pp 4)), (18, (pt pp 4)), (19, (Value.slice (some ⟨g, 0, none⟩) L.length cap)), (20, (nu (x2 : Int))), (21, (pt g (0 + x2 * 2))), (22, (.agg (ec (at_ L x2)).toArray)), (23, (pt pp 4)), (24, (pt pp 4)), (25, (pt pp 4)), (26, (Value.slice (some ⟨g, 0, none⟩) L.length cap)), (27, (nu (x1 : Int))), (28, (pt g (0 + x1 * 2))), (29, (.agg (ec (at_ L x1)).toArray)), (30, (pt g (0 + x1 * 2))), (31, (pt g (0 + x2 * 2)))] (by kernel_rfl) (by kernel_rfl) rfl (fun w1 hb => H0.out w1 hb) (by kernel_rfl) ?_ ?_
  · intro i o ho
    match i, ho with
    | 0, ho => cases ho; exact fun L1 a w1 hLi hw hnot hJ hk hv K h => op_move 0 _ rfl (hk 0 (by kernel_rfl)) (h _ (hJ.ups (by decide) (by decide)))
    | 1, ho => cases ho; exact fun L1 a w1 hLi hw hnot hJ hk hv K h => op_nil 6 pp 4 rfl (hv 0 6 (by kernel_rfl) (by kernel_rfl)) (h _ (hJ.ups (by decide) (by decide)))
    | 2, ho => cases ho; exact fun L1 a w1 hLi hw hnot hJ hk hv K h => op_fa 7 _ 0 pp 4 0 rfl (fun W => by kernel_rfl) (hv 1 7 (by kernel_rfl) (by kernel_rfl)) (h _ (hJ.ups (by decide) (by decide)))
    | 3, ho => cases ho; exact fun L1 a w1 hLi hw hnot hJ hk hv K h => op_load1 _ (.tmp 8) rfl pp 4 (hv 2 8 (by kernel_rfl) (by kernel_rfl)) (Value.slice (some ⟨g, 0, none⟩) L.length cap) _ hJ.c4 Try.underlying50 rfl (h _ (hJ.ups (by decide) (by decide)))
    | 4, ho => cases ho; exact fun L1 a w1 hLi hw hnot hJ hk hv K h => op_move 1 _ rfl (hk 1 (by kernel_rfl)) (h _ (hJ.ups (by decide) (by decide)))
    | 5, ho => cases ho; exact fun L1 a w1 hLi hw hnot hJ hk hv K h => op_move 0 _ rfl (hk 0 (by kernel_rfl)) (h _ (hJ.ups (by decide) (by decide)))
    | 6, ho => cases ho; exact fun L1 a w1 hLi hw hnot hJ hk hv K h => op_nil 11 pp 4 rfl (hv 5 11 (by kernel_rfl) (by kernel_rfl)) (h _ (hJ.ups (by decide) (by decide)))
    | 7, ho => cases ho; exact fun L1 a w1 hLi hw hnot hJ hk hv K h => op_fa 12 _ 0 pp 4 0 rfl (fun W => by kernel_rfl) (hv 6 12 (by kernel_rfl) (by kernel_rfl)) (h _ (hJ.ups (by decide) (by decide)))
    | 8, ho => cases ho; exact fun L1 a w1 hLi hw hnot hJ hk hv K h => op_load1 _ (.tmp 13) rfl pp 4 (hv 7 13 (by kernel_rfl) (by kernel_rfl)) (Value.slice (some ⟨g, 0, none⟩) L.length cap) _ hJ.c4 Try.underlying50 rfl (h _ (hJ.ups (by decide) (by decide)))
    | 9, ho => cases ho; exact fun L1 a w1 hLi hw hnot hJ hk hv K h => op_move 2 _ rfl (hk 2 (by kernel_rfl)) (h _ (hJ.ups (by decide) (by decide)))
    | 10, ho => cases ho; exact fun L1 a w1 hLi hw hnot hJ hk hv K h => op_move 0 _ rfl (hk 0 (by kernel_rfl)) (h _ (hJ.ups (by decide) (by decide)))
    | 11, ho => cases ho; exact fun L1 a w1 hLi hw hnot hJ hk hv K h => op_nil 16 pp 4 rfl (hv 10 16 (by kernel_rfl) (by kernel_rfl)) (h _ (hJ.ups (by decide) (by decide)))
    | 12, ho => cases ho; exact fun L1 a w1 hLi hw hnot hJ hk hv K h => op_fa 17 _ 0 pp 4 0 rfl (fun W => by kernel_rfl) (hv 11 17 (by kernel_rfl) (by kernel_rfl)) (h _ (hJ.ups (by decide) (by decide)))
    | 13, ho => cases ho; exact fun L1 a w1 hLi hw hnot hJ hk hv K h => op_load1 _ (.tmp 18) rfl pp 4 (hv 12 18 (by kernel_rfl) (by kernel_rfl)) (Value.slice (some ⟨g, 0, none⟩) L.length cap) _ hJ.c4 Try.underlying50 rfl (h _ (hJ.ups (by decide) (by decide)))
    | 14, ho => cases ho; exact fun L1 a w1 hLi hw hnot hJ hk hv K h => op_move 2 _ rfl (hk 2 (by kernel_rfl)) (h _ (hJ.ups (by decide) (by decide)))
    | 15, ho => cases ho; exact fun L1 a w1 hLi hw hnot hJ hk hv K h => op_indexS 19 20 _ 49 rfl Try.underlying50 2 sizeD g 0 (L.length) (cap) (x2) (hj) (hv 13 19 (by kernel_rfl) (by kernel_rfl)) (hv 14 20 (by kernel_rfl) (by kernel_rfl)) (h _ (hJ.ups (by decide) (by decide)))
    | 16, ho => cases ho; exact fun L1 a w1 hLi hw hnot hJ hk hv K h => op_load _ (.tmp 21) rfl g (0 + x2 * 2) (hv 15 21 (by kernel_rfl) (by kernel_rfl)) (ec (at_ L x2)) _ (SwJ.els hJ (hnot 25 _ rfl (by kernel_rfl)) (hnot 27 _ rfl (by kernel_rfl)) hj) Try.underlying49 rfl sizeD (h _ (hJ.ups (by decide) (by decide)))
    | 17, ho => cases ho; exact fun L1 a w1 hLi hw hnot hJ hk hv K h => op_move 0 _ rfl (hk 0 (by kernel_rfl)) (h _ (hJ.ups (by decide) (by decide)))
    | 18, ho => cases ho; exact fun L1 a w1 hLi hw hnot hJ hk hv K h => op_nil 23 pp 4 rfl (hv 17 23 (by kernel_rfl) (by kernel_rfl)) (h _ (hJ.ups (by decide) (by decide)))
    | 19, ho => cases ho; exact fun L1 a w1 hLi hw hnot hJ hk hv K h => op_fa 24 _ 0 pp 4 0 rfl (fun W => by kernel_rfl) (hv 18 24 (by kernel_rfl) (by kernel_rfl)) (h _ (hJ.ups (by decide) (by decide)))
    | 20, ho => cases ho; exact fun L1 a w1 hLi hw hnot hJ hk hv K h => op_load1 _ (.tmp 25) rfl pp 4 (hv 19 25 (by kernel_rfl) (by kernel_rfl)) (Value.slice (some ⟨g, 0, none⟩) L.length cap) _ hJ.c4 Try.underlying50 rfl (h _ (hJ.ups (by decide) (by decide)))
    | 21, ho => cases ho; exact fun L1 a w1 hLi hw hnot hJ hk hv K h => op_move 1 _ rfl (hk 1 (by kernel_rfl)) (h _ (hJ.ups (by decide) (by decide)))
    | 22, ho => cases ho; exact fun L1 a w1 hLi hw hnot hJ hk hv K h => op_indexS 26 27 _ 49 rfl Try.underlying50 2 sizeD g 0 (L.length) (cap) (x1) (hi) (hv 20 26 (by kernel_rfl) (by kernel_rfl)) (hv 21 27 (by kernel_rfl) (by kernel_rfl)) (h _ (hJ.ups (by decide) (by decide)))
    | 23, ho => cases ho; exact fun L1 a w1 hLi hw hnot hJ hk hv K h => op_load _ (.tmp 28) rfl g (0 + x1 * 2) (hv 22 28 (by kernel_rfl) (by kernel_rfl)) (ec (at_ L x1)) _ (SwJ.els hJ (hnot 25 _ rfl (by kernel_rfl)) (hnot 27 _ rfl (by kernel_rfl)) hi) Try.underlying49 rfl sizeD (h _ (hJ.ups (by decide) (by decide)))
    | 24, ho => cases ho; exact fun L1 a w1 hLi hw hnot hJ hk hv K h => op_indexS 9 10 _ 49 rfl Try.underlying50 2 sizeD g 0 (L.length) (cap) (x1) (hi) (hv 3 9 (by kernel_rfl) (by kernel_rfl)) (hv 4 10 (by kernel_rfl) (by kernel_rfl)) (h _ (hJ.ups (by decide) (by decide)))
    | 25, ho => cases ho; exact fun L1 a w1 hLi hw hnot hJ hk hv K h => op_put _ 30 22 rfl rfl g (0 + x1 * 2) (hv 24 30 (by kernel_rfl) (by kernel_rfl)) (ecs (L.take x1)) (ec (at_ L x2)) (ec (at_ L x1)) (ecs (L.drop (x1 + 1)) ++ S) (hv 16 22 (by kernel_rfl) (by kernel_rfl)) 49 (hJ.row1 hLi (hnot 27 _ rfl (by kernel_rfl)) hi) (ecs_off L hi) rfl (oneD _) sizeD (fun w2 hr hbut => h _ (hJ.st1 hLi (hnot 27 _ rfl (by kernel_rfl)) hi hbut hr))
    | 26, ho => cases ho; exact fun L1 a w1 hLi hw hnot hJ hk hv K h => op_indexS 14 15 _ 49 rfl Try.underlying50 2 sizeD g 0 (L.length) (cap) (x2) (hj) (hv 8 14 (by kernel_rfl) (by kernel_rfl)) (hv 9 15 (by kernel_rfl) (by kernel_rfl)) (h _ (hJ.ups (by decide) (by decide)))
    | 27, ho => cases ho; exact fun L1 a w1 hLi hw hnot hJ hk hv K h => op_put _ 31 29 rfl rfl g (0 + x2 * 2) (hv 26 31 (by kernel_rfl) (by kernel_rfl)) (ecs ((L.set x1 (at_ L x2)).take x2)) (ec (at_ L x1)) (ec (at_ (L.set x1 (at_ L x2)) x2)) (ecs ((L.set x1 (at_ L x2)).drop (x2 + 1)) ++ S) (hv 23 29 (by kernel_rfl) (by kernel_rfl)) 49 (hJ.row2 (hw 25 (by kernel_rfl)) hLi hj) (ecs_off _ (by rw [List.length_set]; exact hj)) rfl (oneD _) sizeD (fun w2 hr hbut => h _ (hJ.st2 (hw 25 (by kernel_rfl)) hLi hj hbut hr))
    | (i + 28), ho => exact absurd ho (by simp)
  intro LL W5 hall hJ
  simp only [List.foldl_cons, List.foldl_nil, List.setIfInBounds_toArray, List.set_cons_zero, List.set_cons_succ]
  have hE := hid (hJ.end (hall 27 (by decide)))
  clear hJ hall
  go_wp2
  refine bodyPost_end (results_none rfl _ _ _) rfl ?_
  exact ⟨rfl, hE.out⟩
end
end Go.Proofs.Ytkjgiidmajjonaa.Kn
