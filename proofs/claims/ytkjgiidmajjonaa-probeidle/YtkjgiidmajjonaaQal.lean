/-
  all, over takeDue: what is due, in order.
-/
import Derived.Test.YtkjgiidmajjonaaQtk
namespace Go.Proofs.Ytkjgiidmajjonaa.Kn
open Go Go.RowKit
set_option maxRecDepth 100000

/-- Those who have been taken, and those who wait. -/
structure TkI (now : Int) (L T M : List En) : Prop where
  perm : (T ++ M).Perm L
  hp : Hp M M.length
  pw : T.Pairwise leE
  due : ∀ a ∈ T, a.1 ≤ now
  cross : ∀ a ∈ T, ∀ b ∈ M, leE a b
theorem TkI.zero {now : Int} {L : List En} (h : Hp L L.length) : TkI now L [] L := ⟨.refl _, h, .nil, fun a ha => by simp at ha, fun a ha => by simp at ha⟩
theorem TkI.step {now : Int} {L T M N : List En} {e : En} (h : TkI now L T M) (hp : (e :: N).Perm M) (hh : Hp N N.length) (hd : e.1 ≤ now) (hle : ∀ a ∈ N, leE e a) : TkI now L (T ++ [e]) N := by
  have hm : ∀ b ∈ e :: N, b ∈ M := fun b hb => hp.mem_iff.1 hb
  refine ⟨?_, hh, ?_, ?_, ?_⟩
  · rw [List.append_assoc]
    exact (List.Perm.append_left T hp).trans h.perm
  · rw [List.pairwise_append]
    refine ⟨h.pw, List.pairwise_singleton _ _, fun a ha b hb => ?_⟩
    rw [List.mem_singleton] at hb
    subst hb
    exact h.cross a ha _ (hm _ (by simp))
  · intro a ha
    rw [List.mem_append, List.mem_singleton] at ha
    rcases ha with ha | rfl
    · exact h.due a ha
    · exact hd
  · intro a ha b hb
    rw [List.mem_append, List.mem_singleton] at ha
    rcases ha with ha | rfl
    · exact h.cross a ha b (hm b (by simp [hb]))
    · exact hle b hb
section
variable {w : World} {pp g cap : Nat} {n me now nx : Int} {L : List En} {S : List Value}
/-- What a call of takeDue does: who is first, if that one is due. -/
theorem take_any (h : RAt w pp g cap n me now nx L S) (hL : L.length ≤ 1000) (hh : Hp L L.length) : Calls Try.prog 30 #[pt pp 0] w fun e w' => ∃ (t k : Int) (b : Bool) (M : List En) (S' : List Value), e = .returned (.tuple #[.agg #[nu t, nu k], .bool b]) ∧ RAt w' pp g cap n me now nx M S' ∧ Kp [pp, g] w w' ∧ (b = true → ((t, k) :: M).Perm L ∧ Hp M M.length ∧ t ≤ now ∧ ∀ e ∈ M, leE (t, k) e) ∧ (b = false → M = L ∧ ∀ e ∈ L, now < e.1) := by
  by_cases h0 : L.length = 0
  · refine (take_none h h0).mono ?_
    rintro e w' ⟨rfl, bb⟩
    exact ⟨0, 0, false, L, S, rfl, h.kept bb, Kp.of bb, (fun hb => by cases hb), fun _ => ⟨rfl, fun e he => by rw [List.eq_nil_of_length_eq_zero h0] at he; simp at he⟩⟩
  · by_cases hn : now < (at_ L 0).1
    · refine (take_late h h0 hn).mono ?_
      rintro e w' ⟨rfl, bb⟩
      refine ⟨0, 0, false, L, S, rfl, h.kept bb, Kp.of bb, (fun hb => by cases hb), fun _ => ⟨rfl, fun e he => ?_⟩⟩
      obtain ⟨j, hj, rfl⟩ := List.getElem_of_mem he
      rw [← at_get hj]
      have := hp_min hh j hj
      unfold leE at this
      omega
    · refine (take_due h hL hh h0 (by omega)).mono ?_
      rintro e w' ⟨rfl, M, S', ⟨hp, hhM, hle⟩, r, k⟩
      exact ⟨_, _, true, M, S', rfl, r, k, fun _ => ⟨hp, hhM, by omega, hle⟩, fun hb => by cases hb⟩
theorem wpList_pushD {W : World} {ops : Array Oper} {rest : List Oper} {o : Oper} {a : Act} {Q : Exit → Act → World → Prop} (hgd : o.guard = none) (s x : Operand)
    (ho : o.op = .call { callee := .builtin .append, args := #[s, x], argTypes := #[50, 50] }) (base : Nat) (v : Value) (t k : Int) (n : Nat) (xs : List Value) (hs : a.eval s = v) (hx : a.eval x = .slice (some ⟨W.heap.size, 0, none⟩) 1 1) (hown : W.ownsRow base 49 2 v n xs)
    (hn : n < 1000000) (hbase : base ≤ W.heap.size)
    (h : ∀ v' w', w'.ownsRow base 49 2 v' (n + 1) (xs ++ [nu t, nu k]) → (W.alloc (.cells #[nu t, nu k] 49)).grownBy w' v.ownBlock → (v'.ownBlock = v.ownBlock ∨ v'.ownBlock = some (W.heap.size + 1)) → wpList Try.prog ops Q rest (a.put o.dst v') w') :
    wpList Try.prog ops Q (o :: rest) a (W.alloc (.cells #[nu t, nu k] 49)) := by
  obtain ⟨i, hi, hz0, hz1, hz2⟩ := info_parts infoD
  refine wpList_append_own_at (W.alloc (.cells #[nu t, nu k] 49)) hgd s x 50 ho base 49 i _ 2 16 Try.underlying50 hi hz0 hz1 hz2 rfl (by decide) v n xs hs (hown.alloc _) ⟨W.heap.size, 0, none⟩ 1 1 [nu t, nu k] hx rfl (fun j u hj => by rw [add_none]; exact row_zeroY (top_obj W _) j u hj) (oneD (t, k)) (by unfold maxLen; omega) ?_ (by simp; omega) (fun v' w' g1 g2 _ g4 => h v' w' g1 g2 (by simpa using g4))
  omega
def slLen : Value → Nat
  | .slice _ l _ => l
  | _ => 0
theorem slLen_own {W : World} {base e size n : Nat} {v : Value} {xs : List Value} (h : W.ownsRow base e size v n xs) : slLen v = n := by
  rcases h.2 with ⟨rfl, rfl⟩ | ⟨g, cap, cur, rfl, -⟩ <;> rfl
/-- The state ahead of each test of the loop. -/
structure AlI (w : World) (pp g cap : Nat) (n me now nx : Int) (L : List En) (u : Value) (X : Nat) (t k : Int) (b : Bool) (T M : List En) (S : List Value) (W : World) : Prop where
  r : RAt W pp g cap n me now nx M S
  i : TkI now L (bif b then T ++ [(t, k)] else T) M
  late : b = false → ∀ e ∈ M, now < e.1
  x : W.heap[X]? = some (.cells #[nu t, nu k] 49)
  xw : w.heap.size ≤ X
  own : W.ownsRow w.heap.size 49 2 u T.length (ecs T)
  xo : u.ownBlock ≠ some X
  lt : pp < w.heap.size ∧ g < w.heap.size
  kp : Kp [pp, g] w W
/-- .. and behind the append. -/
structure AlA (w : World) (pp g cap : Nat) (n me now nx : Int) (L : List En) (u : Value) (X : Nat) (t k : Int) (T M : List En) (S : List Value) (W : World) : Prop where
  r : RAt W pp g cap n me now nx M S
  i : TkI now L (T ++ [(t, k)]) M
  x : W.heap[X]? = some (.cells #[nu t, nu k] 49)
  own : W.ownsRow w.heap.size 49 2 u (T ++ [(t, k)]).length (ecs (T ++ [(t, k)]))
  ol : ∀ b, u.ownBlock = some b → b < W.heap.size
  kp : Kp [pp, g] w W
theorem AlPost {u u' : Value} {X : Nat} {t k : Int} {T M : List En} {W W' : World} (h : AlI w pp g cap n me now nx L u X t k true T M S W) (hr : W'.ownsRow w.heap.size 49 2 u' (T.length + 1) (ecs T ++ [nu t, nu k])) (hg : (W.alloc (.cells #[nu t, nu k] 49)).grownBy W' u.ownBlock) : AlA w pp g cap n me now nx L u' X t k T M S W' := by
  have hb := below_a1 W (.cells #[nu t, nu k] 49)
  have hge := own_ge h.own
  have kp1 : Kp [pp, g] w (W.alloc (.cells #[nu t, nu k] 49)) := h.kp.alloc _
  have r1 := h.r.kept hb
  have x1 := row_kept h.x hb
  have hB : ∀ j o, (W.alloc (.cells #[nu t, nu k] 49)).heap[j]? = some o → u.ownBlock ≠ some j → W'.heap[j]? = some o := fun j o ho hne => (hg.block j (row_lt ho) (fun e => hne e.symm)).trans ho
  have hlw := h.lt
  refine ⟨⟨hB _ _ r1.obj (fun e => ?_), hB _ _ r1.row (fun e => ?_), h.r.ne, h.r.sz⟩, h.i, hB _ _ x1 h.xo, ?_, own_lt hr, kp1.grown hg (fun k hk => Or.inr (hge k hk))⟩
  · have := hge _ e; omega
  · have := hge _ e; omega
  · rw [List.length_append, ecs_snoc]; exact hr
set_option maxHeartbeats 16000000 in
theorem all_any (h : RAt w pp g cap n me now nx L S) (hL : L.length ≤ 1000) (hh : Hp L L.length) : Calls Try.prog 29 #[.func (.func 30) #[pt pp 0] #[]] w fun e w' => ∃ (u : Value) (T M : List En) (S' : List Value), e = .returned u ∧ TkI now L T M ∧ (∀ e ∈ M, now < e.1) ∧ RAt w' pp g cap n me now nx M S' ∧ w'.ownsRow w.heap.size 49 2 u T.length (ecs T) ∧ Kp [pp, g] w w' := by
  have H := hid h
  have hlt := h.lt
  have HT0 := hid (take_any h hL hh)
  have HHp := hid hh
  clear h hh
  go_enter Try.func29, Try.ntmps29
  go_wp2_with fail
  refine HT0.out.mono ?_
  rintro e W1 ⟨t, k, b, M, S1, rfl, r1, k1, hb1, hb0⟩
  have A1 : Hid (AlI w pp g cap n me now nx L (.slice none 0 0) W1.heap.size t k b [] M S1 (W1.alloc (.cells #[nu t, nu k] 49))) := hid (by
    refine ⟨r1.kept (below_a1 _ _), ?_, ?_, top_obj _ _, k1.size, World.ownsRow_nil _ _ _ _, fun e => (by cases e), hlt, k1.alloc _⟩
    · cases b with
      | true => obtain ⟨a1, a2, a3, a4⟩ := hb1 rfl; exact (TkI.zero HHp.out).step a1 a2 a3 a4
      | false => obtain ⟨rfl, -⟩ := hb0 rfl; exact TkI.zero HHp.out
    · intro e; obtain ⟨rfl, a2⟩ := hb0 e; exact a2)
  clear r1 k1 hb1 hb0 HT0
  go_wp2
  go_loopw [3, 4, 5] (fun u d is wr => ∃ (X : Nat) (t k : Int) (b : Bool) (T M : List En) (S' : List Value), d = pt X 0 ∧ is = .bool b ∧ Hid (AlI w pp g cap n me now nx L u X t k b T M S' wr)) (fun u _ _ _ => 2000 - slLen u)
  case atStart => exact ⟨_, t, k, b, [], M, S1, rfl, rfl, A1⟩
  case round =>
    obtain ⟨X, t, k, b, T, M, S2, rfl, rfl, A⟩ := hrel
    clear A1
    cases b with
    | false =>
      go_wp2
      go_ret
      exact ⟨_, T, M, S2, rfl, A.out.i, A.out.late rfl, A.out.r, A.out.own, A.out.kp⟩
    | true =>
      have hsl := slLen_own A.out.own
      have htl : T.length + 1 + M.length = L.length := by have := A.out.i.perm.length_eq; simp at this; omega
      have x0 : wr.cell? ⟨X, 0, none⟩ = some (nu t) := row_cell (A := []) (C := [nu k]) A.out.x rfl rfl
      have x1 : wr.cell? ⟨X, 1, none⟩ = some (nu k) := row_cell (A := [nu t]) (C := []) A.out.x rfl rfl
      have hsz := A.out.kp.size
      have HOw := hid A.out.own
      go_wp2_with (first
        | (at_builtin; (refine wpList_pushD (W := wr) rfl (.tmp 17) (.tmp 19) rfl w.heap.size _ t k T.length (ecs T) rfl rfl HOw.out (by omega) hsz ?_); intro v3 w3 hr3 hg3 hat3; have P3 := hid (AlPost A.out hr3 hg3); clear hr3 hg3 hat3; have y0 : w3.cell? ⟨X, 0, none⟩ = some (nu t) := row_cell (A := []) (C := [nu k]) P3.out.x rfl rfl; have y1 : w3.cell? ⟨X, 1, none⟩ = some (nu k) := row_cell (A := [nu t]) (C := []) P3.out.x rfl rfl))
      have hlen : M.length ≤ 1000 := by omega
      have hxw := A.out.xw
      have hlw := A.out.lt
      clear x0 x1 y0 y1 HOw A
      have B4 := hid (below_a1 w3 (.cells #[nu t, nu k] 49))
      have Y4 := hid (top_obj w3 (.cells #[nu t, nu k] 49))
      have K4 := hid (P3.out.kp.alloc (.cells #[nu t, nu k] 49))
      have hs3 := P3.out.kp.size
      obtain ⟨Y, hY⟩ : ∃ Y, w3.heap.size = Y := ⟨_, rfl⟩
      rw [hY] at Y4 hs3 ⊢
      have HY := hid hY
      clear hY
      have R4 := hid (P3.out.r.kept B4.out)
      have OL := hid (fun b hb => HY.out ▸ P3.out.ol b hb)
      have O4 := hid (own_kept P3.out.own B4.out)
      have I3 := hid P3.out.i
      clear P3
      generalize w3.alloc (.cells #[nu t, nu k] 49) = W4 at *
      refine (take_any R4.out hlen I3.out.hp).mono ?_
      rintro e W5 ⟨t5, k5, b5, M5, S5, rfl, r5, kp5, hb1, hb0⟩
      have hYg : Y ∉ [pp, g] := by simp; omega
      have D5 := hid (kp5.row Y4.out hYg)
      have R5 := hid r5
      have K5 := hid (K4.out.trans kp5)
      have O5 := hid (own_same O4.out (fun b hb => kp5.block b (own_lt O4.out b hb) (by have := own_ge O4.out b hb; simp; omega)))
      have I5 : Hid (TkI now L (bif b5 then (T ++ [(t, k)]) ++ [(t5, k5)] else T ++ [(t, k)]) M5) := hid (by
        cases b5 with
        | true => obtain ⟨a1, a2, a3, a4⟩ := hb1 rfl; exact I3.out.step a1 a2 a3 a4
        | false => obtain ⟨rfl, -⟩ := hb0 rfl; exact I3.out)
      have J5 : Hid (b5 = false → ∀ e ∈ M5, now < e.1) := hid (fun e => by obtain ⟨rfl, a2⟩ := hb0 e; exact a2)
      have hsl5 := slLen_own O5.out
      clear r5 kp5 hb1 hb0 I3 R4 Y4 K4 O4
      go_wp2_with (first
        | ((with_reducible refine wl_put 49 (.tmp 4) (.tmp 15) ?_ ?_ Y 0 ?_ ?_ [] [nu t5, nu k5] [nu t, nu k] [] ?_ 49 (rowD D5.out) rfl rfl ?_ ?_ ?_); exact rfl; exact rfl; exact rfl; exact rfl; exact rfl; exact oneD (t5, k5); exact sizeD; intro W6 r6 b6))
      refine ⟨⟨Y, t5, k5, b5, T ++ [(t, k)], M5, S5, rfl, rfl, hid ⟨⟨b6.row R5.out.obj (by omega), b6.row R5.out.row (by omega), R5.out.ne, R5.out.sz⟩, I5.out, J5.out, r6, hs3, own_same O5.out (fun b hb => b6.block b (by have := OL.out b hb; omega)), fun e => (by have := OL.out _ e; omega), hlw, ⟨b6.os.trans K5.out.os, b6.tape.trans K5.out.tape, b6.output.trans K5.out.output, by rw [b6.size]; exact K5.out.size, fun k hk hX => (b6.block k (by omega)).trans (K5.out.block k hk hX)⟩⟩⟩, ?_⟩
      rw [hsl5, List.length_append, List.length_singleton]
      omega
end
end Go.Proofs.Ytkjgiidmajjonaa.Kn
