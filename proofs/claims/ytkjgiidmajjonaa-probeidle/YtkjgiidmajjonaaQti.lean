/-
  The state of a tick's loop.
-/
import Derived.Test.YtkjgiidmajjonaaQtp
namespace Go.Proofs.Ytkjgiidmajjonaa.Kn
open Go Go.RowKit
set_option maxRecDepth 100000

section
variable {w : World} {pp g cap : Nat} {n me now nx : Int} {L : List En} {S : List Value}
/-- What container/heap's Push leaves. -/
def PuR (w : World) (pp g : Nat) (n me now nx : Int) (L : List En) (e : En) (W : World) : Prop := ∃ g2 cap2 L3 S3, (L3.Perm (e :: L) ∧ Hp L3 L3.length) ∧ RAt W pp g2 cap2 n me now nx L3 S3 ∧ Kp [pp, g] w W ∧ (g2 = g ∨ w.heap.size ≤ g2)
theorem hpush_r (h : RAt w pp g cap n me now nx L S) (hL : L.length ≤ 900) (hh : Hp L L.length) (e : En) (W : World) (hb : Below w.heap.size w W) : Calls Try.prog 20 #[qI pp, .iface 49 (.agg (ec e).toArray)] W fun e' w' => e' = .returned (.tuple #[]) ∧ PuR w pp g n me now nx L e w' := by
  refine (hpush_any (h.kept hb).o hL hh e).mono ?_
  rintro e' w' ⟨rfl, g2, cap2, L3, S3, hp, r, k, hg⟩
  refine ⟨rfl, g2, cap2, L3, S3, hp, r, (Kp.of hb).trans k, ?_⟩
  rcases hg with e | e
  · cases e; exact .inl rfl
  · exact .inr (Nat.le_trans hb.size e)
theorem own_shape {W : World} {base e size n : Nat} {v : Value} {xs : List Value} (h : W.ownsRow base e size v n xs) : ∃ ax cx, v = .slice ax n cx := by
  rcases h.2 with ⟨rfl, rfl⟩ | ⟨g, cap, cur, rfl, -⟩
  · exact ⟨_, _, rfl⟩
  · exact ⟨_, _, rfl⟩
theorem own_at {W : World} {base : Nat} {v : Value} {T : List En} (h : W.ownsRow base 49 2 v T.length (ecs T)) {i : Nat} (hi : i < T.length) : ∃ gu cu, v = .slice (some ⟨gu, 0, none⟩) T.length cu ∧ W.cell? ⟨gu, i * 2, none⟩ = some (nu (at_ T i).1) ∧ W.cell? ⟨gu, i * 2 + 1, none⟩ = some (nu (at_ T i).2) := by
  obtain ⟨hl, h0 | ⟨g, cap, cur, rfl, hb, hg, hn, hm, hs, ht⟩⟩ := h
  · omega
  · have hrow : W.heap[g]? = some (.cells (ecs T ++ cur.toList.drop (T.length * 2)).toArray 49) := by
      rw [hg, ← ht, List.take_append_drop]
    have hc := row_seg hrow (ecs_split T _ hi) (ecs_off T hi)
    have h0 := hc 0 _ rfl
    have h1 := hc 1 _ rfl
    rw [Nat.zero_add] at h0 h1
    exact ⟨g, cap, rfl, h0, h1⟩
end
/-- The state of the loop: TI has been put back, TN has turned next, TA has been asked. -/
structure TiI (w : World) (pp g n me : Nat) (p : Pb) (busy : Bool) (T M : List En) (u : Value) (TI TN TA : List En) (ua : Value) (g' cap' : Nat) (L2 : List En) (S2 : List Value) (W : World) : Prop where
  r : RAt W pp g' cap' n me (p.now + 1) (if rdB busy TN then nxP n me p.next else p.next) L2 S2
  perm : L2.Perm (TI.map (updT (p.now + 1) busy) ++ M)
  hp : Hp L2 L2.length
  tl : W.ownsRow w.heap.size 49 2 u T.length (ecs T)
  un : u.ownBlock ≠ some g'
  ow : W.ownsRow w.heap.size 3 1 ua (askL TA).length (ic (askL TA))
  an : ua.ownBlock ≠ some g'
  au : ∀ b, ua.ownBlock = some b → u.ownBlock ≠ some b
  lt : pp < w.heap.size ∧ g < w.heap.size
  gg : g' = g ∨ w.heap.size ≤ g'
  kp : Kp [pp, g] w W
section
variable {w : World} {pp g n me : Nat} {p : Pb} {busy : Bool} {T M : List En} {u : Value} {TI TN TA : List En} {ua : Value} {g' cap' : Nat} {L2 : List En} {S2 : List Value} {W W' : World}
theorem TiI.kept (h : TiI w pp g n me p busy T M u TI TN TA ua g' cap' L2 S2 W) (hb : Below W.heap.size W W') : TiI w pp g n me p busy T M u TI TN TA ua g' cap' L2 S2 W' :=
  ⟨h.r.kept hb, h.perm, h.hp, own_kept h.tl hb, h.un, own_kept h.ow hb, h.an, h.au, h.lt, h.gg, h.kp.trans (Kp.of hb)⟩
theorem TiI.but {X : Nat} (h : TiI w pp g n me p busy T M u TI TN TA ua g' cap' L2 S2 W) (hb : But X W W') (hX : w.heap.size ≤ X) (h1 : pp ≠ X) (h2 : g' ≠ X) (h3 : u.ownBlock ≠ some X) (h4 : ua.ownBlock ≠ some X) : TiI w pp g n me p busy T M u TI TN TA ua g' cap' L2 S2 W' :=
  ⟨⟨hb.row h.r.obj h1, hb.row h.r.row h2, h.r.ne, h.r.sz⟩, h.perm, h.hp, own_same h.tl (fun k hk => hb.block k (fun e => h3 (by rw [hk, e]))), h.un, own_same h.ow (fun k hk => hb.block k (fun e => h4 (by rw [hk, e]))), h.an, h.au, h.lt, h.gg,
    ⟨hb.os.trans h.kp.os, hb.tape.trans h.kp.tape, hb.output.trans h.kp.output, by rw [hb.size]; exact h.kp.size, fun k hk hx => (hb.block k (by omega)).trans (h.kp.block k hk hx)⟩⟩
theorem TiI.asked {ua' : Value} {k : Int} {TA' : List En} (h : TiI w pp g n me p busy T M u TI TN TA ua g' cap' L2 S2 W) (hTA : askL TA' = askL TA ++ [k]) (hr : W'.ownsRow w.heap.size 3 1 ua' ((askL TA).length + 1) (ic (askL TA) ++ [nu k])) (hg : (W.alloc (.cells #[nu k] 3)).grownBy W' ua.ownBlock) (hat : ua'.ownBlock = ua.ownBlock ∨ ua'.ownBlock = some (W.heap.size + 1)) : TiI w pp g n me p busy T M u TI TN TA' ua' g' cap' L2 S2 W' := by
  have hb := below_a1 W (.cells #[nu k] 3)
  have hge := own_ge h.ow
  have h1 := h.kept hb
  have hB : ∀ j o, (W.alloc (.cells #[nu k] 3)).heap[j]? = some o → ua.ownBlock ≠ some j → W'.heap[j]? = some o := fun j o ho hne => (hg.block j (row_lt ho) (fun e => hne e.symm)).trans ho
  have hlw := h.lt
  have hrl := h.r.lt
  have hul := own_lt h.tl
  refine ⟨⟨hB _ _ h1.r.obj (fun e => ?_), hB _ _ h1.r.row h.an, h.r.ne, h.r.sz⟩, h.perm, h.hp, own_same h1.tl (fun j hj => hg.block j (own_lt h1.tl j hj) (fun e => h.au j e.symm hj)), h.un, ?_, ?_, ?_, h.lt, h.gg, h1.kp.grown hg (fun k hk => Or.inr (hge k hk))⟩
  · have := hge _ e; omega
  · rw [hTA, List.length_append]
    unfold ic
    rw [List.map_append]
    exact hr
  · rcases hat with e | e
    · rw [e]; exact h.an
    · rw [e]; intro e2; cases e2; omega
  · intro b hb2
    rcases hat with e | e
    · rw [e] at hb2; exact h.au b hb2
    · rw [e] at hb2; cases hb2; intro e2; have := hul _ e2; omega
theorem TiI.next {TN' : List En} {c : Int} (h : TiI w pp g n me p busy T M u TI TN TA ua g' cap' L2 S2 W) (hc : (if rdB busy TN' then nxP n me p.next else p.next) = c) (hb : But pp W W') (hr : W'.heap[pp]? = some (.cells #[nu n, nu me, nu (p.now + 1), nu c, .slice (some ⟨g', 0, none⟩) L2.length cap', fnA] 54)) : TiI w pp g n me p busy T M u TI TN' TA ua g' cap' L2 S2 W' := by
  have hge := own_ge h.ow
  have hge2 := own_ge h.tl
  have hlw := h.lt
  refine ⟨⟨by rw [hc]; exact hr, hb.row h.r.row h.r.ne, h.r.ne, h.r.sz⟩, h.perm, h.hp, own_same h.tl (fun k hk => hb.block k (by have := hge2 k hk; omega)), h.un, own_same h.ow (fun k hk => hb.block k (by have := hge k hk; omega)), h.an, h.au, h.lt, h.gg, ?_⟩
  exact ⟨hb.os.trans h.kp.os, hb.tape.trans h.kp.tape, hb.output.trans h.kp.output, by rw [hb.size]; exact h.kp.size, fun k hk hx => (hb.block k (fun e => hx (by simp [e]))).trans (h.kp.block k hk hx)⟩
theorem TiI.push {TI' : List En} {e : En} (h : TiI w pp g n me p busy T M u TI TN TA ua g' cap' L2 S2 W) (hTI : TI' = TI ++ [e]) (hP : PuR W pp g' n me (p.now + 1) (if rdB busy TN then nxP n me p.next else p.next) L2 (updT (p.now + 1) busy e) W') : ∃ g2 cap2 L3 S3, TiI w pp g n me p busy T M u TI' TN TA ua g2 cap2 L3 S3 W' := by
  obtain ⟨g2, cap2, L3, S3, ⟨hp, hh⟩, r, k, hg⟩ := hP
  have hge := own_ge h.ow
  have hge2 := own_ge h.tl
  have hlo := own_lt h.ow
  have hlt := own_lt h.tl
  have hlw := h.lt
  have hs := h.kp.size
  refine ⟨g2, cap2, L3, S3, ⟨r, ?_, hh, own_same h.tl (fun b hb => k.block b (hlt b hb) ?_), ?_, own_same h.ow (fun b hb => k.block b (hlo b hb) ?_), ?_, h.au, h.lt, ?_, h.kp.transN k ?_⟩⟩
  · subst hTI
    refine hp.trans ((h.perm.cons _).trans ?_)
    rw [List.map_append, List.append_assoc]
    exact List.perm_middle.symm
  · have := hge2 b hb
    have : b ≠ g' := fun e => h.un (by rw [hb, e])
    simp
    omega
  · rcases hg with e | e
    · rw [e]; exact h.un
    · intro e2; have := hlt _ e2; omega
  · have := hge b hb
    have : b ≠ g' := fun e => h.an (by rw [hb, e])
    simp
    omega
  · rcases hg with e | e
    · rw [e]; exact h.an
    · intro e2; have := hlo _ e2; omega
  · rcases hg with e | e
    · rw [e]; exact h.gg
    · exact .inr (Nat.le_trans hs e)
  · intro z hz
    simp at hz
    rcases hz with rfl | rfl
    · exact .inl (by simp)
    · rcases h.gg with e | e
      · exact .inl (by simp [e])
      · exact .inr e
end
end Go.Proofs.Ytkjgiidmajjonaa.Kn
