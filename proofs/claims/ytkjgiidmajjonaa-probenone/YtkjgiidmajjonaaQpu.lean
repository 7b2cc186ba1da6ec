/-
  The queue's Push.
-/
import Derived.Test.YtkjgiidmajjonaaQdn
namespace Go.Proofs.Ytkjgiidmajjonaa.Kn
open Go Go.RowKit
set_option maxRecDepth 100000

theorem infoD : (Try.prog.info? 49).map (fun i => (i.zero, i.size, i.bytes)) = some (some (.agg [nu 0, nu 0].toArray), 2, 16) := by kernel_rfl
theorem sizeQ : (Try.prog.info? 50).map (·.size) = some 1 := by kernel_rfl
/-- The prober with a heap that may be none yet. -/
structure OAt (w : World) (pp : Nat) (n me now nx : Int) (v : Value) (L : List En) : Prop where
  obj : w.heap[pp]? = some (.cells #[nu n, nu me, nu now, nu nx, v, fnA] 54)
  own : w.ownsRow 0 49 2 v L.length (ecs L)
  ne : v.ownBlock ≠ some pp
section
variable {w w' : World} {pp g cap : Nat} {n me now nx : Int} {L : List En} {S : List Value}
theorem OAt.kept {v : Value} (h : OAt w pp n me now nx v L) (hb : Below w.heap.size w w') : OAt w' pp n me now nx v L := ⟨row_kept h.obj hb, own_kept h.own hb, h.ne⟩
theorem op_appendF {P : Program} {o : Oper} {a : Act} {w : World} {Q : Exit → Act → World → Prop} {K : Act → World → Prop} (s x : Tmp) (base : Nat) (t e : TypeId) (z : Value) (size bytes : Nat) (ho : o.op = .call { callee := .builtin .append, args := #[.tmp s, .tmp x], argTypes := #[t, t] }) (ht : P.underlying t = some (.slice e)) (hinfo : (P.info? e).map (fun i => (i.zero, i.size, i.bytes)) = some (some z, size, bytes)) (hzs : z.cells.size = size) (hsz : 0 < size)
    (n m : Nat) (xs news : List Value) (v y : Value) (hs : a.tmps.getD s undef = v) (hx : a.tmps.getD x undef = y) (hown : w.ownsRow base e size v n xs) (hp : Pc w size y m news) (h1 : ∀ u ∈ news, u.oneCell' = true) (hnm : n + m ≤ 1000000) (hby : bytes ≤ 1000) (hbase : base ≤ w.heap.size)
    (h : ∀ v' w', w'.ownsRow base e size v' (n + m) (xs ++ news) → w.grownBy w' v.ownBlock → Fr w v v' → K (a.put o.dst v') w') : o.wp P a w K Q := by
  obtain ⟨v', w', hr, g1, g2, g3⟩ := run_append_pc (P := P) (w := w) base t o.type e z size bytes ht hinfo hzs hsz _ _ n m xs news hown hp h1 hnm hby hbase
  have e1 : a.eval (.tmp s) = v := hs
  have e2 : a.eval (.tmp x) = y := hx
  unfold Oper.wp execOp
  simp only [ho, resolve, invoke, builtin, Sem.run_bind, Sem.run_pure, Result.andThen_ok, List.map_toArray, List.map_cons, List.map_nil, e1, e2, hr]
  refine h v' w' g1 g2 (fun k hk => ?_)
  rcases g3 with e | e
  · exact Or.inl (by rw [← e]; exact hk)
  · rw [e] at hk
    cases hk
    exact Or.inr (Nat.le_refl _)
def puS (w : World) (v : Value) (L : List En) (e : En) (F : Nat → Bool) (i : Nat) (u : Value) (W : World) : Prop :=
  if i = 6 then (F 7 = true ∨ ∃ g2, u = .slice (some ⟨g2, 0, none⟩) 1 1 ∧ W.heap[g2]? = some (.cells (ec e).toArray 49))
  else (F 10 = true ∨ (W.ownsRow 0 49 2 u (L.length + 1) (ecs L ++ ec e) ∧ Fr w v u))
theorem puS_up {v : Value} {e : En} {i : Nat} (h7 : i ≠ 7) (h10 : i ≠ 10) (F : Nat → Bool) (j : Nat) (u : Value) (W : World) (h : puS w v L e F j u W) : puS w v L e (up F i) j u W := by
  unfold puS at h ⊢
  rw [up_ne h7, up_ne h10]
  exact h
/-- What Push leaves. -/
def PuP (w : World) (pp : Nat) (n me now nx : Int) (v : Value) (L : List En) (e : En) (W : World) : Prop := ∃ v', OAt W pp n me now nx v' (L ++ [e]) ∧ Kp (pp :: v.ownBlock.toList) w W ∧ Fr w v v'
def puJ (w W0 : World) (pp : Nat) (n me now nx : Int) (v : Value) (L : List En) (e : En) (F : Nat → Bool) (W : World) : Prop :=
  bif F 10 then PuP w pp n me now nx v L e W else (Kp v.ownBlock.toList W0 W ∧ (F 7 = false → Below W0.heap.size W0 W))
theorem puJ.up {W0 W : World} {v : Value} {e : En} {F : Nat → Bool} {i : Nat} (h7 : i ≠ 7) (h10 : i ≠ 10) (h : puJ w W0 pp n me now nx v L e F W) : puJ w W0 pp n me now nx v L e (up F i) W := by
  unfold puJ at h ⊢
  rw [up_ne h7, up_ne h10]
  exact h
theorem puJ.at {W0 W : World} {v : Value} {e : En} {F : Nat → Bool} (h : puJ w W0 pp n me now nx v L e F W) (hF : F 10 = false) : Kp v.ownBlock.toList W0 W ∧ (F 7 = false → Below W0.heap.size W0 W) := by
  unfold puJ at h
  rw [hF] at h
  exact h
theorem mem_ob {v : Value} {k : Nat} : k ∈ v.ownBlock.toList ↔ v.ownBlock = some k := by
  cases v.ownBlock <;> simp [eq_comm]
theorem ecs_snoc (L : List En) (e : En) : ecs (L ++ [e]) = ecs L ++ ec e := by rw [ecs_app]; simp [ecs]
set_option maxHeartbeats 8000000 in
theorem push_any {v : Value} (h : OAt w pp n me now nx v L) (hL : L.length ≤ 1000) (e : En) : Calls Try.prog 58 #[pt pp 4, .iface 49 (.agg (ec e).toArray)] w fun e' w' => e' = .returned (.tuple #[]) ∧ PuP w pp n me now nx v L e w' := by
  obtain ⟨t, kk⟩ := e
  have ee : ec (t, kk) = [nu t, nu kk] := rfl
  rw [ee]
  have TA : (Instr.typeAssert (.iface 49 (.agg #[nu t, nu kk])) 20 49 true).run Try.prog w = .ok (.tuple #[.agg #[nu t, nu kk], .bool true]) w := by kernel_rfl
  have ZD := zeroD
  have SD := sizeD
  have HO := hid h
  have HOX : Hid (∀ k, v.ownBlock = some k → k < w.heap.size) := hid (own_lt h.own)
  clear h
  go_enter Try.func58, Try.ntmps58
  go_upto_region 2 with fail
  have B0 := hid (below_a1 w (.cells #[nu t, nu kk] 49))
  have R0 := hid (top_obj w (.cells #[nu t, nu kk] 49))
  have O0 := hid (HO.out.kept B0.out)
  obtain ⟨X, hX⟩ : ∃ X, w.heap.size = X := ⟨_, rfl⟩
  rw [hX] at R0
  have HX := hid hX
  have hXv : X ∉ v.ownBlock.toList := fun hm => by have := HOX.out X (mem_ob.1 hm); omega
  have hPv : pp ∉ v.ownBlock.toList := fun hm => HO.out.ne (mem_ob.1 hm)
  rw [hX]
  clear TA ZD SD hX
  generalize w.alloc (.cells #[nu t, nu kk] 49) = W0 at *
  have HC4 : ∀ W, Kp v.ownBlock.toList W0 W → W.cell? ⟨pp, 4, none⟩ = some v := fun W hk => by rw [cell_of_row _ _ _ _ _ _ (hk.row O0.out.obj hPv)]; rfl
  refine wp_region_sj (N := 22) [6, 7] (puS w v L (t, kk)) [(pt pp 4), (pt pp 4), (pt pp 4), (pt pp 4), v, (.agg ([nu t, nu kk]).toArray), undef, undef, (pt pp 4), (pt pp 4), undef] (puJ w W0 pp n me now nx v L (t, kk)) (fun u => [(12, (pt pp 4)), (13, (pt pp 4)), (14, (pt pp 4)), (15, (pt pp 4)), (16, v), (17, (.agg ([nu t, nu kk]).toArray)), (18, u 6), (19, u 7), (20, (pt pp 4)), (21, (pt pp 4))]) (by kernel_rfl) (by kernel_rfl) rfl (fun u => by kernel_rfl) (fun w1 hb => ⟨Kp.of hb, fun _ => hb⟩) ?_ ?_
  · intro i o ho
    match i, ho with
    | 0, ho => cases ho; exact oweQ (pt pp 4) (by decide) rfl (fun L j v w _ h => puS_up (by decide) (by decide) L j v w h) (fun L w h => h.up (by decide) (by decide)) (fun L a w1 hLi hJ hnot hk hv hS K h => op_move 0 _ rfl (hk 0 (by kernel_rfl)) h)
    | 1, ho => cases ho; exact oweQ (pt pp 4) (by decide) rfl (fun L j v w _ h => puS_up (by decide) (by decide) L j v w h) (fun L w h => h.up (by decide) (by decide)) (fun L a w1 hLi hJ hnot hk hv hS K h => op_move 0 _ rfl (hk 0 (by kernel_rfl)) h)
    | 2, ho => cases ho; exact oweQ (pt pp 4) (by decide) rfl (fun L j v w _ h => puS_up (by decide) (by decide) L j v w h) (fun L w h => h.up (by decide) (by decide)) (fun L a w1 hLi hJ hnot hk hv hS K h => op_nil 13 pp 4 rfl (hv 1 13 (by kernel_rfl) (by decide) (by kernel_rfl)) h)
    | 3, ho => cases ho; exact oweQ (pt pp 4) (by decide) rfl (fun L j v w _ h => puS_up (by decide) (by decide) L j v w h) (fun L w h => h.up (by decide) (by decide)) (fun L a w1 hLi hJ hnot hk hv hS K h => op_fa 14 _ 0 pp 4 0 rfl (fun W => by kernel_rfl) (hv 2 14 (by kernel_rfl) (by decide) (by kernel_rfl)) h)
    | 4, ho => cases ho; exact oweQ v (by decide) rfl (fun L j v w _ h => puS_up (by decide) (by decide) L j v w h) (fun L w h => h.up (by decide) (by decide)) (fun L a w1 hLi hJ hnot hk hv hS K h => op_load1 _ (.tmp 15) rfl pp 4 (hv 3 15 (by kernel_rfl) (by decide) (by kernel_rfl)) v _ (HC4 _ (hJ.at (hnot 10 _ rfl (by kernel_rfl))).1) Try.underlying50 rfl h)
    | 5, ho => cases ho; exact oweQ (.agg ([nu t, nu kk]).toArray) (by decide) rfl (fun L j v w _ h => puS_up (by decide) (by decide) L j v w h) (fun L w h => h.up (by decide) (by decide)) (fun L a w1 hLi hJ hnot hk hv hS K h => op_load _ (.tmp 4) rfl X 0 (hk 4 (by kernel_rfl)) ([nu t, nu kk]) _ (row_zeroY ((hJ.at (hnot 10 _ rfl (by kernel_rfl))).1.row R0.out hXv)) Try.underlying49 rfl sizeD h)
    | 6, ho =>
      cases ho
      intro F a W hLi hw hnot hJ hk hv K h
      have h7 := hnot 7 _ rfl (by kernel_rfl)
      have h10 : F 10 = false := hnot 10 _ rfl (by kernel_rfl)
      have e17 := vL_c (hv 5 17 (hw 5 (by kernel_rfl)) (by kernel_rfl)) (by decide)
      refine op_bs1 _ 49 17 rfl Try.underlying50 _ 2 16 infoD (by decide) (by decide) (.agg [nu t, nu kk].toArray) e17 #[nu t, nu kk] rfl rfl ?_
      have hj := hJ.at h10
      refine h _ _ (fun _ => ?_) ?_ (fun j d hj hjs hd => ?_)
      · unfold vL
        rw [if_pos (by decide)]
        unfold puS
        rw [if_pos rfl]
        exact .inr ⟨_, rfl, top_obj W _⟩
      · unfold puJ
        rw [up_ne (by decide), h10]
        have hb := (hj.2 h7).alloc (hj.2 h7).size (.cells #[nu t, nu kk] 49)
        exact ⟨Kp.of hb, fun _ => hb⟩
      · simp only [List.mem_cons, List.not_mem_nil, or_false] at hjs
        rcases hjs with e | e
        · subst e; rw [hLi] at hj; cases hj
        · subst e; rw [h7] at hj; cases hj
    | 7, ho =>
      cases ho
      intro F a W hLi hw hnot hJ hk hv K h
      have h10 : F 10 = false := hnot 10 _ rfl (by kernel_rfl)
      have e16 := vL_c (hv 4 16 (hw 4 (by kernel_rfl)) (by kernel_rfl)) (by decide)
      have e18 := vL_s (hv 6 18 (hw 6 (by kernel_rfl)) (by kernel_rfl)) (by decide)
      unfold puS at e18
      rw [if_pos rfl, hLi] at e18
      have hj := hJ.at h10
      have hb := hj.2 hLi
      rcases e18 with e18 | ⟨g2, e18, hg⟩
      · cases e18
      · refine op_appendF 16 18 0 _ _ _ 2 16 rfl Try.underlying50 infoD rfl (by decide) L.length 1 (ecs L) [nu t, nu kk] v _ e16 e18 (own_kept O0.out.own hb) (own_one1 (cs := [nu t, nu kk]) rfl hg) (oneD (t, kk)) (by omega) (by decide) (Nat.zero_le _) (fun v' w' g1 g2 g3 => ?_)
        refine h _ _ (fun _ => ?_) ?_ (fun j d hj hjs hd => ?_)
        · unfold vL
          rw [if_pos (by decide)]
          unfold puS
          rw [if_neg (by decide)]
          exact .inr ⟨g1, fun k hk => (g3 k hk).imp id (fun h2 => Nat.le_trans (Nat.le_trans B0.out.size hb.size) h2)⟩
        · unfold puJ
          rw [up_ne (by decide), h10]
          refine ⟨(Kp.of hb : Kp v.ownBlock.toList W0 W).grown g2 (fun k hk => Or.inl (mem_ob.2 hk)), fun e => ?_⟩
          rw [up_self] at e
          cases e
        · simp only [List.mem_cons, List.not_mem_nil, or_false] at hjs
          rcases hjs with e | e
          · subst e
            unfold puS
            rw [if_pos rfl, up_self]
            exact .inl rfl
          · subst e; rw [hLi] at hj; cases hj
    | 8, ho => cases ho; exact oweQ (pt pp 4) (by decide) rfl (fun L j v w _ h => puS_up (by decide) (by decide) L j v w h) (fun L w h => h.up (by decide) (by decide)) (fun L a w1 hLi hJ hnot hk hv hS K h => op_nil 12 pp 4 rfl (hv 0 12 (by kernel_rfl) (by decide) (by kernel_rfl)) h)
    | 9, ho => cases ho; exact oweQ (pt pp 4) (by decide) rfl (fun L j v w _ h => puS_up (by decide) (by decide) L j v w h) (fun L w h => h.up (by decide) (by decide)) (fun L a w1 hLi hJ hnot hk hv hS K h => op_fa 20 _ 0 pp 4 0 rfl (fun W => by kernel_rfl) (hv 8 20 (by kernel_rfl) (by decide) (by kernel_rfl)) h)
    | 10, ho =>
      cases ho
      intro F a W hLi hw hnot hJ hk hv K h
      have e21 := vL_c (hv 9 21 (hw 9 (by kernel_rfl)) (by kernel_rfl)) (by decide)
      have e19 := vL_s (hv 7 19 (hw 7 (by kernel_rfl)) (by kernel_rfl)) (by decide)
      unfold puS at e19
      rw [if_neg (by decide), hLi] at e19
      have hj := hJ.at hLi
      rcases e19 with e19 | ⟨g1, g3⟩
      · cases e19
      · obtain ⟨v', hv'⟩ : ∃ v', a.tmps.getD 19 undef = v' := ⟨_, rfl⟩
        rw [hv'] at g1 g3
        have hobj := hj.1.row O0.out.obj hPv
        have hpl : pp < w.heap.size := row_lt HO.out.obj
        have hne : v'.ownBlock ≠ some pp := fun e => by
          rcases g3 pp e with h1 | h1
          · exact HO.out.ne h1
          · omega
        refine op_put1 _ 21 19 rfl rfl pp 4 e21 [nu n, nu me, nu now, nu nx] [fnA] v v' hv' 54 hobj rfl (own_slice g1) sizeQ (fun w2 hr hbut => ?_)
        refine h undef _ (fun e => by cases e) ?_ (fun j d hj hjs hd => ?_)
        · unfold puJ
          rw [up_self, cond_true]
          refine ⟨v', ⟨hr, ?_, hne⟩, ?_, g3⟩
          · rw [ecs_snoc, List.length_append]
            exact own_same g1 (fun k hk => hbut.block k (fun e => hne (by rw [hk, e])))
          · have k1 : Kp (pp :: v.ownBlock.toList) w W := (Kp.of B0.out).trans (hj.1.drop (fun x hx => Or.inl (List.mem_cons_of_mem _ hx)))
            exact ⟨hbut.os.trans k1.os, hbut.tape.trans k1.tape, hbut.output.trans k1.output, by rw [hbut.size]; exact k1.size, fun k hk hX => (hbut.block k (fun e => hX (by simp [e]))).trans (k1.block k hk hX)⟩
        · simp only [List.mem_cons, List.not_mem_nil, or_false] at hjs
          rcases hjs with e | e
          · subst e
            have h1 := vL_s (hv 6 d hj hd) (by decide)
            unfold puS at h1 ⊢
            rw [if_pos rfl] at h1 ⊢
            exact .inl (by rw [up_ne (by decide)]; exact hw 7 (by kernel_rfl))
          · subst e
            unfold puS
            rw [if_neg (by decide), up_self]
            exact .inl rfl
    | (i + 11), ho => exact absurd ho (by simp)
  intro u LL W hall hJ hsp
  simp only [List.foldl_cons, List.foldl_nil, List.setIfInBounds_toArray, List.set_cons_zero, List.set_cons_succ]
  unfold puJ at hJ
  rw [hall 10 (by decide), cond_true] at hJ
  have HJ := hid hJ
  clear hsp hJ hall
  go_wp2
  refine bodyPost_end (results_none rfl _ _ _) rfl ?_
  exact ⟨rfl, HJ.out⟩
end
end Go.Proofs.Ytkjgiidmajjonaa.Kn
