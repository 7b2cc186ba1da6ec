/-
  The walk of RegsAgain.
-/
import Derived.Test.YtoneoocihfjfgaaGreatDoorG26
namespace Go.Proofs.YtoneoocihfjfgaaGreatDoor.Ms
open Go Go.RowKit
set_option maxRecDepth 100000
theorem subE_zeroT {R : Rs} {c : Int} {x : Sub} (h : subE R c x = 0) : subOk R c x = true := by
  unfold subE at h
  cases e : subOk R c x
  · rw [if_pos e] at h; cases h
  · rfl
theorem subOk_n {R R' : Rs} (h : R'.n = R.n) (c : Int) (s : Sub) : subOk R' c s = subOk R c s := by unfold subOk; rw [h]
theorem subN_reg {R : Rs} (h : RInv R) {c : Int} (hc : 0 ≤ c ∧ c < (R.n : Int)) (s : Sub) : (subN R c s).reg c = { R.reg c with asked := s, ans := ansR R s } := by
  have h8 := h.n
  exact getD_set_same R.regs c.toNat _ zeroG (by rw [h.len]; omega)
theorem sub_twice {R : Rs} (h : RInv R) (c : Int) (s : Sub) : subR (subR R c s) c s = subR R c s := by
  by_cases h0 : subE R c s ≠ 0
  · have e : subR R c s = R := by unfold subR; rw [if_pos h0]
    rw [e, e]
  · by_cases h1 : s.number = (R.reg c).asked.number
    · have e : subR R c s = R := by unfold subR; rw [if_neg h0, if_pos h1]
      rw [e, e]
    · have e : subR R c s = subN R c s := by unfold subR; rw [if_neg h0, if_neg h1]
      rw [e]
      obtain ⟨hc, -⟩ := subOk_parts (subE_zeroT (by omega : subE R c s = 0))
      have e2 : s.number = ((subN R c s).reg c).asked.number := by rw [subN_reg h hc]
      unfold subR
      by_cases h3 : subE (subN R c s) c s ≠ 0
      · rw [if_pos h3]
      · rw [if_neg h3, if_pos e2]
def OInv (R : Rs) : Prop := ∀ c, hasB R.n c = true → 0 < (R.reg c).asked.number → subOk R c (R.reg c).asked = true
theorem OInv.new (n : Nat) : OInv (newR n) := by
  intro c _ h
  have e : (newR n).reg c = zeroG := by
    unfold Rs.reg newR
    simp only [List.getD_eq_getElem?_getD, List.getElem?_replicate]
    split <;> rfl
  rw [e] at h
  exact absurd h (by decide)
theorem OInv.sub {R : Rs} (h : OInv R) (hi : RInv R) (c : Int) (s : Sub) : OInv (subR R c s) := by
  unfold subR
  split
  · exact h
  · rename_i h0
    split
    · exact h
    · have hok := subE_zeroT (by omega : subE R c s = 0)
      obtain ⟨hc, -⟩ := subOk_parts hok
      intro c' hb hn
      by_cases e : c' = c
      · subst e
        rw [subN_reg hi hc]
        exact hok
      · have hb' := (hasB_iff _ _).1 hb
        have e2 : (subN R c s).reg c' = R.reg c' := getD_set_other R.regs c.toNat c'.toNat _ zeroG (by omega)
        rw [e2] at hn ⊢
        exact h c' hb hn
theorem comS_asked (R : Rs) (c : Int) (v t : List UInt8) (c' : Int) : ((comS R c v t).reg c').asked = (R.reg c').asked := by
  show ((R.regs.set c.toNat { R.reg c with view := v, tag := t }).getD c'.toNat zeroG).asked = _
  by_cases e : c'.toNat = c.toNat
  · by_cases hl : c.toNat < R.regs.length
    · rw [e, getD_set_same _ _ _ _ hl]
      unfold Rs.reg
      rw [e]
    · rw [List.set_eq_of_length_le (by omega)]
      rfl
  · rw [getD_set_other _ _ _ _ _ e]
    rfl
theorem OInv.com {R : Rs} (h : OInv R) (c : Int) (v t : List UInt8) : OInv (comR R c v t) := by
  have h0 : OInv (comS R c v t) := fun c' hb hn => by
    rw [comS_asked] at hn ⊢
    exact h c' hb hn
  unfold comR
  split
  · exact h
  · split
    · exact h0
    · exact h0
theorem OInv.doR {R : Rs} (h : OInv R) (hi : RInv R) (a : Rac) : OInv (doR R a) := by
  unfold Ms.doR
  split
  · exact h.com _ _ _
  · exact h.sub hi _ _
theorem again_D {R : Rs} (h : OInv R) {c : Int} {s : Sub} (hb : hasB R.n c = true) (he : (R.reg c).asked = s) (hn : 0 < s.number) : subE R c s = 0 ∧ subY R c s = (R.reg c).ans := by
  have hok := h c hb (by rw [he]; exact hn)
  rw [he] at hok
  have h1 : s.number = (R.reg c).asked.number := by rw [he]
  have h2 : sameS s (R.reg c).asked = true := (sameS_iff _ _).2 he.symm
  have e0 : subE R c s = 0 := by unfold subE; rw [if_neg (by rw [hok]; simp), if_pos h1, if_pos h2]
  exact ⟨e0, by unfold subY; rw [if_neg (by rw [e0]; decide), if_pos h1]⟩
theorem lp_inv {w W : World} {p xx : Nat} {R : Rs} (h : Lp w W p xx R) : RInv R := by
  obtain ⟨F, G, h1, -⟩ := h
  exact h1.inv
def Lq (w W : World) (p xx k : Nat) (R : Rs) : Prop := ∃ F G, RX W p F R ∧ RY W xx G R ∧ (∀ b ∈ F, b ∉ G) ∧ (∀ b ∈ F, w.heap.size ≤ b) ∧ (∀ b ∈ G, w.heap.size ≤ b) ∧ Below w.heap.size w W ∧ KInv R ∧ k ∉ F ∧ k ∉ G
theorem Lq.lp {w W : World} {p xx k : Nat} {R : Rs} (h : Lq w W p xx k R) : Lp w W p xx R := by
  obtain ⟨F, G, h1, h2, h3, h4, h5, h6, h7, -⟩ := h
  exact ⟨F, G, h1, h2, h3, h4, h5, h6, h7⟩
theorem Lq.kept {w W W' : World} {p xx k : Nat} {R : Rs} (h : Lq w W p xx k R) (hb : Below W.heap.size W W') : Lq w W' p xx k R := by
  obtain ⟨F, G, h1, h2, h3, h4, h5, h6, h7, h8⟩ := h
  exact ⟨F, G, h1.kept hb, h2.kept hb, h3, h4, h5, below_two h6 hb, h7, h8⟩
theorem Lp.mark {w W W' : World} {p xx : Nat} {R : Rs} (h : Lp w W p xx R) (hb : Below W.heap.size W W') : Lq w W' p xx W.heap.size R := by
  obtain ⟨F, G, h1, h2, h3, h4, h5, h6, h7⟩ := h
  exact ⟨F, G, h1.kept hb, h2.kept hb, h3, h4, h5, below_two h6 hb, h7, fun hx => Nat.lt_irrefl _ (h1.lt _ hx), fun hx => Nat.lt_irrefl _ (h2.lt _ hx)⟩
theorem do_q {w W : World} {p xx k : Nat} {R : Rs} (h : Lq w W p xx k R) {a : Rac} (ha : a.Ok) (ht : Tb w) (hk : k < W.heap.size) :
    Calls Tryz.prog 8 #[pt p 0, pt xx 0, .agg (racC a).toArray] W fun e W' => e = .returned (.bool true) ∧ Lq w W' p xx k (doR R a) ∧ ∀ o, W.heap[k]? = some o → W'.heap[k]? = some o := by
  obtain ⟨F, G, h1, h2, h3, h4, h5, h6, h7, h8, h9⟩ := h
  refine (do_any h1 h2 h3 h7 ha (ht.stays h6)).mono ?_
  rintro e W' ⟨rfl, F', G', q1, q2, q3, q4, q5, q6⟩
  refine ⟨rfl, ⟨F', G', q1, q2, q3, fun b hb => ?_, fun b hb => ?_, h6.trans (q4.below (fun b hb => ?_) h6.size), h7.doR h1.inv ha, fun hx => ?_, fun hx => ?_⟩, fun o ho => q4.row ho (fun hx => ?_)⟩
  · rcases q5 b hb with e | e
    · exact h4 b e
    · exact Nat.le_trans h6.size e
  · rcases q6 b hb with e | e
    · exact h5 b e
    · exact Nat.le_trans h6.size e
  · rcases List.mem_append.1 hb with e | e
    · exact h4 b e
    · exact h5 b e
  · rcases q5 k hx with e | e
    · exact h8 e
    · omega
  · rcases q6 k hx with e | e
    · exact h9 e
    · omega
  · rcases List.mem_append.1 hx with e | e
    · exact h8 e
    · exact h9 e
theorem of_l {w W : World} {p xx : Nat} {R : Rs} (h : Lp w W p xx R) {a : Rac} (ha : a.Ok) :
    Calls Tryz.prog 10 #[pt xx 0, .agg (racC a).toArray] W fun e w' => e = .returned (.tuple #[.agg (subC (ofS R a)).toArray, st (ofV R a)]) ∧ Below W.heap.size W w' := by
  obtain ⟨F, G, h1, h2, -⟩ := h
  exact of_any h2 ha
theorem order_l {w W : World} {p xx k : Nat} {R : Rs} (h : Lq w W p xx k R) : Calls Tryz.prog 12 #[.pointer (some ⟨p, 0, none⟩)] W fun e w' => e = .returned (st (orderR R)) ∧ Below W.heap.size W w' := by
  obtain ⟨F, G, h1, -⟩ := h
  exact order_x h1
def isRepB (o : Option Obj) : Bool := match o with
  | some (.cells _ t _) => t == 45
  | _ => false
theorem not_rep {w : World} {b : Nat} (h : (!isRepB w.heap[b]?) = true) (cs : Array Value) : w.heap[b]? ≠ some (.cells cs 45) := fun hx => by
  rw [hx] at h
  exact absurd h (by simp [isRepB])
theorem RX.typed {w : World} {p : Nat} {F : List Nat} {R : Rs} (h : RX w p F R) : ∃ F1, (∀ b ∈ F1, b ∈ F) ∧ RX w p F1 R ∧ ∀ b ∈ F1, ∀ cs, w.heap[b]? ≠ some (.cells cs 45) := by
  obtain ⟨q, rs, vs, vP, h1, h2, h3⟩ := h
  have hP : ∀ {v : Value} {l : List Pen}, OwnP w v l → ∀ b, v.ownBlock = some b → (!isRepB w.heap[b]?) = true := by
    intro v l ho b hb
    rcases ho.form with ⟨rfl, rfl⟩ | ⟨g, cap, cur, rfl, hg, -⟩
    · cases hb
    · cases hb
      rw [hg]
      rfl
  refine ⟨p :: (q.filter (fun b => !isRepB w.heap[b]?) ++ rs.filter (fun b => !isRepB w.heap[b]?)), fun b hb => h2 b ?_, ⟨_, _, vs, vP, ⟨h1.inv, h1.vlen, h1.row, h1.reps, fun i hi b hb => List.mem_filter.2 ⟨h1.rblk i hi b hb, hP (h1.reps i hi) b hb⟩, h1.own, fun b hb => List.mem_filter.2 ⟨h1.blk b hb, hP h1.own b hb⟩, ⟨fun hx => h1.ne.1 (List.mem_filter.1 hx).1, fun hx => h1.ne.2.1 (List.mem_filter.1 hx).1, fun b hb hx => h1.ne.2.2 b (List.mem_filter.1 hb).1 (List.mem_filter.1 hx).1⟩, fun b hb => h1.lt b ?_⟩, fun b hb => hb, fun b hb => h3 b (h2 b ?_)⟩, fun b hb cs => ?_⟩
  · simp only [List.mem_cons, List.mem_append, List.mem_filter] at hb ⊢
    rcases hb with hb | hb | hb
    · exact Or.inl hb
    · exact Or.inr (Or.inl hb.1)
    · exact Or.inr (Or.inr hb.1)
  · simp only [List.mem_append, List.mem_filter] at hb ⊢
    rcases hb with hb | hb
    · exact Or.inl hb.1
    · exact Or.inr hb.1
  · simp only [List.mem_cons, List.mem_append, List.mem_filter] at hb ⊢
    rcases hb with hb | hb | hb
    · exact Or.inl hb
    · exact Or.inr (Or.inl hb.1)
    · exact Or.inr (Or.inr hb.1)
  · simp only [List.mem_cons, List.mem_append, List.mem_filter] at hb
    rcases hb with rfl | hb | hb
    · intro hcs
      rw [h1.row] at hcs
      simp at hcs
    · exact not_rep hb.2 cs
    · exact not_rep hb.2 cs
section
variable {P : Program} {o : Oper} {a : Act} {w : World} {Q : Exit → Act → World → Prop} {K : Act → World → Prop}
theorem op_indexT (x y : Tmp) (t e : TypeId) (ho : o.op = .indexAddr t (.tmp x) (.tmp y)) (ht : P.underlying t = some (.slice e)) (size : Nat) (hi : (P.info? e).map (·.size) = some size) (g off len cap k : Nat) (hk : k < len)
    (hx : a.tmps.getD x undef = .slice (some ⟨g, off, none⟩) len cap) (hy : a.tmps.getD y undef = nu k) (h : K (a.put o.dst (pt g (off + k * size))) w) : o.wp P a w K Q := by
  have ex : a.eval (.tmp x) = .slice (some ⟨g, off, none⟩) len cap := hx
  have ey : a.eval (.tmp y) = nu k := hy
  cases hq : P.info? e with
  | none => simp [hq] at hi
  | some i =>
    have hs : i.size = size := by simpa [hq] using hi
    unfold Oper.wp execOp
    simp [ho, ex, ey, Instr.indexAt, asIntOf, run_underlying ht, sizeOf, typeInfo, hq, hs, hk, add_none]
    exact h
end
def vAg (Y : Rep) (E : Int) (B : Nat) (L : Nat → Bool) (i : Nat) (u : Value) (w : World) : Prop :=
  if i = 7 then ∃ v, u = .tuple #[.agg (repC Y v).toArray, nu E] ∧ OwnP w v Y.pend
  else if i = 8 then ∃ v, u = .tuple #[.agg (repC Y v).toArray, nu E] ∧ OwnP w v Y.pend
  else if i = 9 then ∃ v, u = .agg (repC Y v).toArray ∧ OwnP w v Y.pend
  else if i = 10 then u = nu E
  else ∃ g row, u = pt g 0 ∧ B ≤ g ∧ w.heap[g]? = some (.cells (List.toArray row) 45) ∧ row.length = 103 ∧ (L 12 = true → ∃ v, row = repC Y v ∧ OwnP w v Y.pend)
section
variable {Y : Rep} {E : Int} {B : Nat} {L : Nat → Bool} {u : Value} {w w' : World}
theorem vAg7 : vAg Y E B L 7 u w ↔ ∃ v, u = .tuple #[.agg (repC Y v).toArray, nu E] ∧ OwnP w v Y.pend := by unfold vAg; simp
theorem vAg8 : vAg Y E B L 8 u w ↔ ∃ v, u = .tuple #[.agg (repC Y v).toArray, nu E] ∧ OwnP w v Y.pend := by unfold vAg; simp
theorem vAg9 : vAg Y E B L 9 u w ↔ ∃ v, u = .agg (repC Y v).toArray ∧ OwnP w v Y.pend := by unfold vAg; simp
theorem vAg10 : vAg Y E B L 10 u w ↔ u = nu E := by unfold vAg; simp
theorem vAg11 : vAg Y E B L 11 u w ↔ ∃ g row, u = pt g 0 ∧ B ≤ g ∧ w.heap[g]? = some (.cells (List.toArray row) 45) ∧ row.length = 103 ∧ (L 12 = true → ∃ v, row = repC Y v ∧ OwnP w v Y.pend) := by unfold vAg; simp
theorem vAg_up {i : Nat} (hi : i ≠ 12) (j : Nat) (h : vAg Y E B L j u w) : vAg Y E B (up L i) j u w := by
  unfold vAg at h ⊢
  rw [up_ne hi]
  exact h
theorem vAg_kept (hb : Below w.heap.size w w') (j : Nat) (h : vAg Y E B L j u w) : vAg Y E B L j u w' := by
  unfold vAg at h ⊢
  split
  · rename_i e
    rw [if_pos e] at h
    obtain ⟨v, h1, h2⟩ := h
    exact ⟨v, h1, h2.kept hb⟩
  · rename_i e
    rw [if_neg e] at h
    split
    · rename_i e
      rw [if_pos e] at h
      obtain ⟨v, h1, h2⟩ := h
      exact ⟨v, h1, h2.kept hb⟩
    · rename_i e
      rw [if_neg e] at h
      split
      · rename_i e
        rw [if_pos e] at h
        obtain ⟨v, h1, h2⟩ := h
        exact ⟨v, h1, h2.kept hb⟩
      · rename_i e
        rw [if_neg e] at h
        split
        · rename_i e
          rw [if_pos e] at h
          exact h
        · rename_i e
          rw [if_neg e] at h
          obtain ⟨g, row, h1, h2, h3, h4, h5⟩ := h
          refine ⟨g, row, h1, h2, row_kept h3 hb, h4, fun hL => ?_⟩
          obtain ⟨v, q1, q2⟩ := h5 hL
          exact ⟨v, q1, q2.kept hb⟩
end
theorem enterSu (args : Array Value) (w : World) : (callFunc 13 args).run Tryz.prog w = .ok (.enter 13 args) w := by kernel_rfl
def JAg (W7 : World) (p xx : Nat) (F1 G1 : List Nat) (R1 : Rs) (L : Nat → Bool) (w : World) : Prop :=
  (L 7 = false → Below W7.heap.size W7 w) ∧ Kp F1 W7 w ∧ (L 7 = true → ∃ F', RX w p F' R1 ∧ RY w xx G1 R1 ∧ (∀ b ∈ F', b ∉ G1) ∧ (∀ b ∈ F', b ∈ F1 ∨ W7.heap.size ≤ b) ∧ ∀ b ∈ F', ∀ cs, w.heap[b]? ≠ some (.cells cs 45))
theorem JAg_up {W7 : World} {p xx : Nat} {F1 G1 : List Nat} {R1 : Rs} {L : Nat → Bool} {w : World} {i : Nat} (hi : i ≠ 7) (h : JAg W7 p xx F1 G1 R1 L w) : JAg W7 p xx F1 G1 R1 (up L i) w := by
  unfold JAg at h ⊢
  rw [up_ne hi]
  exact h
theorem JAg_kept {W7 : World} {p xx : Nat} {F1 G1 : List Nat} {R1 : Rs} {L : Nat → Bool} {w w' : World} (h : JAg W7 p xx F1 G1 R1 L w) (hb : Below w.heap.size w w') : JAg W7 p xx F1 G1 R1 L w' := by
  obtain ⟨h1, h2, h3⟩ := h
  refine ⟨fun hL => below_two (h1 hL) hb, h2.trans (Kp.of hb), fun hL => ?_⟩
  obtain ⟨F', q1, q2, q3, q4, q5⟩ := h3 hL
  refine ⟨F', q1.kept hb, q2.kept hb, q3, q4, fun b hb' cs hcs => q5 b hb' cs ?_⟩
  rw [← hb.block b (q1.lt b hb')]
  exact hcs
theorem JAg_but {W7 : World} {p xx : Nat} {F1 G1 : List Nat} {R1 : Rs} {L : Nat → Bool} {w w' : World} {g : Nat} {row : Array Value} (hL : L 7 = true) (h : JAg W7 p xx F1 G1 R1 L w) (hg : w.heap[g]? = some (.cells row 45)) (hge : W7.heap.size ≤ g) (hG : ∀ b ∈ G1, b < W7.heap.size) (hb : But g w w') : JAg W7 p xx F1 G1 R1 L w' := by
  obtain ⟨h1, h2, h3⟩ := h
  obtain ⟨F', q1, q2, q3, q4, q5⟩ := h3 hL
  have k1 : Kp [g] w w' := (Kp.refl _ _).but hb (Or.inl (by simp))
  have hn : ∀ b ∈ F', b ≠ g := fun b hb' e => q5 b hb' row (by rw [e]; exact hg)
  refine ⟨fun h => (by rw [hL] at h; cases h), h2.but hb (Or.inr hge), fun _ => ⟨F', q1.kp k1 (fun b hb' hx => hn b hb' (by simpa using hx)), q2.kp k1 (fun b hb' hx => ?_), q3, q4, fun b hb' cs hcs => q5 b hb' cs ?_⟩⟩
  · have := hG b hb'
    simp at hx
    omega
  · rw [← hb.block b (hn b hb')]
    exact hcs
theorem cj_frame {ops : Array Oper} {a a0 : Act} (c : Nat → Value) (ds : List (Nat × Value)) (hk : ∀ t, noneW ops t = true → a.tmps.getD t undef = a0.tmps.getD t undef) (hs : a.tmps.size = a0.tmps.size) (hv : ∀ i d, dstOf ops i = some d → a.tmps.getD d undef = c i)
    (hds : (List.range ops.size).filterMap (fun i => (dstOf ops i).map fun d => (d, c i)) = ds) : a.tmps = ds.foldl (fun B p => B.setIfInBounds p.1 p.2) a0.tmps := by
  rw [← hds]
  exact (frame_of hs hk hv).trans (fold_pairs (fun i => dstOf ops i) c (List.range ops.size) a0.tmps)
set_option maxHeartbeats 8000000 in
theorem again_walk (w : World) (ht : Tb w) (x : Option Addr) (acs : List Rac) (cap : Nat) (h : RactsAt w x acs) :
    Calls Tryz.prog 4 #[.slice x acs.length cap] w fun e w' => e = .returned (.bool true) ∧ Below w.heap.size w w' := by
  have HN := hid (new_s w 4 ⟨by decide, by decide⟩)
  have HA := hid h
  have HT := hid ht
  clear h ht
  go_enter Tryz.func4, Tryz.ntmps4
  go_upto_region 2 with (go_at_call 5; refine HN.out.mono ?_; rintro e W1 ⟨rfl, h1⟩; have H1 := hid h1; clear h1)
  have HM := hid (r12new_any W1 4 ⟨by decide, by decide⟩)
  go_upto_region 3 with (go_at_call 7; refine HM.out.mono ?_; rintro e W2 ⟨xx, G, rfl, y2, g2, b2⟩; have H2 := hid (Lp.new H1.out y2 g2 b2); clear y2 g2 b2)
  have AW := hid (rawake_any W2 (HT.out.stays H2.out.bl))
  generalize hp : w.heap.size = p at *
  go_upto_region 6 with (go_at_call 6; refine AW.out.mono ?_; rintro e W3 ⟨rfl, b3⟩; have H3 := hid (H2.out.kept b3); clear b3)
  clear H1 H2 HN HM AW
  go_loopw [6] (fun i wr => ∃ (j : Nat) (R : Rs), j ≤ 40 ∧ j ≤ acs.length ∧ i = nu j ∧ Hid (Lp w wr p xx R) ∧ Hid (OInv R)) (fun i _ => 40 - (intOf i).toNat)
  case atStart => exact ⟨0, newR 4, by omega, by omega, rfl, H3, OInv.new 4⟩
  case round =>
    clear H3
    obtain ⟨j, R, hj40, hjl, rfl, HL, HOi⟩ := hrel
    by_cases hc : j < acs.length ∧ j < 40
    · have d3 : decide ((j : Int) < (acs.length : Int)) = true := decide_eq_true (by omega)
      have d3' : decide (j < acs.length) = true := decide_eq_true hc.1
      have d4 : decide ((j : Int) < 40) = true := decide_eq_true (by omega)
      have hj : j < acs.length := hc.1
      have hj39 : j < 40 := hc.2
      obtain ⟨b, off, rfl, hok, hcells⟩ := HA.out j hc.1
      have HCs := hid hcells
      have HK := hid hok
      have ZC := hid (szA hok)
      have HOf := hid (of_l HL.out hok)
      obtain ⟨o1, o2, o3, o4⟩ := ofS_ok (lp_inv HL.out) (by obtain ⟨F, G, h1, h2, h3, h4, h5, h6, h7⟩ := HL.out; exact h7) hok
      have hrg := sub_rngD hok.c o2 o3 o4
      obtain ⟨s, HS⟩ : ∃ s, Hid (s = ofS R (acs.getD j noRac)) := ⟨_, rfl⟩
      rw [← HS.out] at HOf o1 hrg
      have HW := hid o1
      have HR := hid hrg
      clear hok hcells hc o1 o2 o3 o4 hrg
      generalize acs.getD j noRac = a at *
      have SCW : Hid (∀ W, Below w.heap.size w W → ∀ c y, (racC a)[c]? = some y → W.cell? ⟨b, off + j * 103 + c, none⟩ = some y) := fun W hW c y hy => cell_kp (HCs.out c y hy) hW
      have S0 := hid (SCW.out wr HL.out.bl)
      go_upto_region 9 with (first
        | ((with_reducible refine wl_load 36 (.tmp 41) ?_ b (off + j * 103) ?_ ?_ (racC a) _ S0.out Tryz.underlying36 ?_ ZC.out ?_); exact rfl; exact rfl; exact rfl; exact rfl)
        | (go_at_call 10; refine HOf.out.mono ?_; rintro e W4 ⟨rfl, b4⟩; have L4 := hid (HL.out.kept b4); clear b4)
        | ((with_reducible refine wl_alloc 34 ?_ ?_ (subC zeroS).toArray zeroSub ?_); exact rfl; exact rfl)
        | ((with_reducible refine wl_store_top 34 (.tmp 7) (.tmp 44) ?_ ?_ ?_ ?_ (subC s) (subC zeroS) ?_ 34 (lnS HW.out) (one_sub s) (szS HW.out) ?_); exact rfl; exact rfl; exact rfl; exact rfl; exact rfl))
      have L5 := hid (L4.out.mark (below_a1 W4 (.cells (subC s).toArray 34)))
      have T5 := hid (top_obj W4 (.cells (subC s).toArray 34))
      generalize W4.alloc (.cells (subC s).toArray 34) = W5 at *
      generalize W4.heap.size = gS at *
      have S5 := hid (SCW.out W5 L5.out.lp.bl)
      have HDo := hid (do_q L5.out HK.out HT.out (row_ltA T5.out))
      clear L4 S0 HOf
      go_upto_region 11 with (first
        | ((with_reducible refine wl_load 36 (.tmp 50) ?_ b (off + j * 103) ?_ ?_ (racC a) _ S5.out Tryz.underlying36 ?_ ZC.out ?_); exact rfl; exact rfl; exact rfl; exact rfl)
        | (go_at_call 8; refine HDo.out.mono ?_; rintro e W6 ⟨rfl, l6, t6⟩; have L6 := hid l6; have T6 := hid (t6 _ T5.out); clear l6 t6))
      have O6 := hid (HOi.out.doR (lp_inv HL.out) a)
      have S6 := hid (SCW.out W6 L6.out.lp.bl)
      have HCm := hid (commits_any W6 a)
      clear HDo S5 T5 L5
      cases hcb : comB a with
      | true => as_aux_lemma =>
        rw [hcb] at HCm
        go_wp2_with ((with_reducible refine wl_load 36 (.tmp 56) ?_ b (off + j * 103) ?_ ?_ (racC a) _ S6.out Tryz.underlying36 ?_ ZC.out ?_); exact rfl; exact rfl; exact rfl; exact rfl)
        refine HCm.out.mono ?_
        rintro e W7 ⟨rfl, b7⟩
        have L7 := hid (L6.out.lp.kept b7)
        clear b7
        go_wp2
        exact ⟨⟨j + 1, doR R a, by omega, by omega, by go_num, L7, O6⟩, by simp [intOf]; omega⟩
      | false =>
        rw [hcb] at HCm
        obtain ⟨c, hcc⟩ : ∃ c, c = a.client := ⟨_, rfl⟩
        have hR1 : doR R a = subR R c s := by unfold doR; rw [if_neg (by rw [hcb]; decide), hcc, HS.out]
        rw [hR1] at L6 O6
        have HIr := hid (lp_inv HL.out)
        have HAg : Hid (subR (subR R c s) c s = subR R c s) := sub_twice HIr.out c s
        rw [← hcc] at HR
        have HCc := hid hcc
        clear hR1 hcc hcb
        obtain ⟨R1, hR1⟩ : ∃ R1, R1 = subR R c s := ⟨_, rfl⟩
        rw [← hR1] at L6 O6 HAg
        clear hR1
        go_upto_region 12 with (first
          | ((with_reducible refine wl_load 36 (.tmp 56) ?_ b (off + j * 103) ?_ ?_ (racC a) _ S6.out Tryz.underlying36 ?_ ZC.out ?_); exact rfl; exact rfl; exact rfl; exact rfl)
          | (go_at_call 11; refine HCm.out.mono ?_; rintro e W6b ⟨rfl, b7⟩; have L6b := hid (L6.out.kept b7); have T6b := hid (row_kept T6.out b7); clear b7))
        have HOd := hid (order_l L6b.out)
        obtain ⟨O, HOr⟩ : ∃ O, Hid (O = orderR R1) := ⟨_, rfl⟩
        rw [← HOr.out] at HOd
        go_upto_region 13 with (go_at_call 12; refine HOd.out.mono ?_; rintro e W7 ⟨rfl, b7⟩; have L7 := hid (L6b.out.kept b7); have T7 := hid (row_kept T6b.out b7); clear b7)
        clear L6 L6b T6 T6b S6 HCm HOd
        obtain ⟨F1, G1, x7, y7, d7, f7, g7, bl7, ki7, nf7, ng7⟩ := L7.out
        have HX7 := hid x7
        have HY7 := hid y7
        have HD7 := hid d7
        have HF7 := hid f7
        have HG7 := hid g7
        have HB7 := hid bl7
        have HKi := hid ki7
        have HNf := hid nf7
        have HFl := hid x7.lt
        have HGl := hid y7.lt
        have HT7 := hid (HT.out.stays bl7)
        have hbw : Hid (b < w.heap.size) := World.block_lt_of_cell? w _ (HCs.out 0 _ rfl)
        have HCl : Hid (∀ W, Kp F1 W7 W → W.cell? ⟨b, off + j * 103 + 1, none⟩ = some (nu c)) := fun W hW => by
          rw [HCc.out]
          refine cell_kpX hW (fun hx => ?_) (SCW.out W7 HB7.out 1 _ rfl)
          have h1 := HF7.out b hx
          have h2 := hbw.out
          omega
        have HSr : Hid (∀ W, Kp F1 W7 W → W.heap[gS]? = some (.cells (subC s).toArray 34)) := fun W hW => hW.row T7.out HNf.out
        obtain ⟨Y, HY⟩ : ∃ Y, Hid (Y = subY R1 c s) := ⟨_, rfl⟩
        obtain ⟨E, HE⟩ : ∃ E, Hid (E = subE R1 c s) := ⟨_, rfl⟩
        have YW : Hid Y.Wf := by rw [HY.out]; exact subY_wf x7.inv c s
        clear x7 y7 d7 f7 g7 bl7 ki7 nf7 ng7
        refine wp_region_cj (N := 128) 13 [7, 8, 9, 10, 11, 12] (vAg Y E W7.heap.size) [pt p 0, .slice (some ⟨b, off, none⟩) acs.length cap, nu j, pt b (off + j * 103), pt b (off + j * 103 + 1), nu c, .agg (subC s).toArray, undef, undef, undef, undef, undef, undef, undef] (JAg W7 p xx F1 G1 R1) (by kernel_rfl) (by kernel_rfl) (by kernel_rfl) rfl (fun w1 h1 => ⟨fun _ => h1, Kp.of h1, fun h => Bool.noConfusion h⟩) (fun i hi _ L w h => JAg_up (by rintro rfl; simp at hi) h) (fun i hi _ L j u w h => vAg_up (by rintro rfl; simp at hi) j h) ?_ ?_ ?_
        · intro i o hi hiS ho
          match i, ho with
          | 0, ho => cases ho; exact fun L a w hLi hw hnot hJ hk hcst K h => op_move 3 _ rfl (hk 3 (by kernel_rfl)) h
          | 1, ho => cases ho; exact fun L a w hLi hw hnot hJ hk hcst K h => op_move 0 _ rfl (hk 0 (by kernel_rfl)) h
          | 2, ho => cases ho; exact fun L a w hLi hw hnot hJ hk hcst K h => op_move 6 _ rfl (hk 6 (by kernel_rfl)) h
          | 3, ho => cases ho; exact fun L a w hLi hw hnot hJ hk hcst K h => op_indexT 63 64 _ _ rfl Tryz.underlying22 103 sizeRac b off acs.length cap j hj (hcst 1 63 (by kernel_rfl) (by decide) (by kernel_rfl)) (hcst 2 64 (by kernel_rfl) (by decide) (by kernel_rfl)) h
          | 4, ho => cases ho; exact fun L a w hLi hw hnot hJ hk hcst K h => op_fa 65 _ 1 b (off + j * 103) 1 rfl (fun W => fq48_1 _ _ W) (hcst 3 65 (by kernel_rfl) (by decide) (by kernel_rfl)) h
          | 5, ho => cases ho; exact fun L a w hLi hw hnot hJ hk hcst K h => op_load1 _ (.tmp 66) rfl b (off + j * 103 + 1) (hcst 4 66 (by kernel_rfl) (by decide) (by kernel_rfl)) _ _ (HCl.out _ hJ.2.1) Tryz.underlying3 rfl h
          | 6, ho => cases ho; exact fun L a w hLi hw hnot hJ hk hcst K h => op_load _ (.tmp 7) rfl gS 0 (hk 7 (by kernel_rfl)) (subC s) _ (row_zero (HSr.out _ hJ.2.1)) Tryz.underlying34 rfl (szS HW.out) h
          | 7, ho => exact absurd hiS (by decide)
          | 8, ho => exact absurd hiS (by decide)
          | 9, ho => exact absurd hiS (by decide)
          | 10, ho => exact absurd hiS (by decide)
          | 11, ho => exact absurd hiS (by decide)
          | 12, ho => exact absurd hiS (by decide)
          | (i + 13), ho => exact absurd hi (by omega)
        · intro i o hi hiS ho
          match i, ho with
          | 7, ho =>
            cases ho
            intro L a w hLi hw hnot hclos hJ hk' hcst hvs
            have hb := hJ.1 hLi
            have h12 : L 12 = false := hnot 12 _ rfl (by kernel_rfl)
            refine op_callE 13 [.tmp 62, .tmp 67, .tmp 68] _ #[pt p 0, nu c, .agg (subC s).toArray] rfl enterSu ?_ (J := fun u w' => vAg Y E W7.heap.size (up L 7) 7 u w' ∧ JAg W7 p xx F1 G1 R1 (up L 7) w' ∧ Kp F1 w w') ((submit_x (HX7.out.kept hb) (c := c) HW.out HR.out (HT7.out.stays hb)).mono ?_) (fun v w' hv => ⟨v, rfl, fun _ => hv.1, hv.2.1, fun i d hi his hd => ?_⟩)
            · have e1 : a.eval (.tmp 62) = pt p 0 := hcst 0 62 (by kernel_rfl) (by decide) (by kernel_rfl)
              have e2 : a.eval (.tmp 67) = nu c := hcst 5 67 (by kernel_rfl) (by decide) (by kernel_rfl)
              have e3 : a.eval (.tmp 68) = .agg (subC s).toArray := hcst 6 68 (by kernel_rfl) (by decide) (by kernel_rfl)
              simp only [List.map_cons, List.map_nil, e1, e2, e3]
            · rintro e w' ⟨v', F', rfl, z1, z2, z3, z4, z5⟩
              rw [HAg.out] at z1
              rw [← HY.out] at z2
              obtain ⟨F2, t1, t2, t3⟩ := z1.typed
              obtain ⟨y1, y2⟩ := duo1 (HY7.out.kept hb) HD7.out z4 (fun b hb => z5 b (t1 b hb))
              refine ⟨_, rfl, vAg7.2 ⟨v', by rw [HY.out, HE.out], z2⟩, ⟨fun h => ?_, (Kp.of hb).trans z4, fun _ => ⟨F2, t2, y1, y2, fun b hb' => ?_, t3⟩⟩, z4⟩
              · rw [up_self] at h
                cases h
              · rcases z5 b (t1 b hb') with e | e
                · exact Or.inl e
                · exact Or.inr (Nat.le_trans hb.size e)
            · have h0 := hvs i d hi his hd
              simp only [List.mem_cons, List.not_mem_nil, or_false] at his
              rcases his with rfl | rfl | rfl | rfl | rfl | rfl
              · rw [hLi] at hi; cases hi
              · rw [hnot 8 _ rfl (by kernel_rfl)] at hi; cases hi
              · have h8 := hclos 9 _ rfl hi 8 (by kernel_rfl); rw [hnot 8 _ rfl (by kernel_rfl)] at h8; cases h8
              · have h8 := hclos 10 _ rfl hi 8 (by kernel_rfl); rw [hnot 8 _ rfl (by kernel_rfl)] at h8; cases h8
              · rw [vAg11] at h0 ⊢
                obtain ⟨g, row, e1, e2, e3, e4, -⟩ := h0
                refine ⟨g, row, e1, e2, hv.2.2.row e3 (fun hx => ?_), e4, fun h => ?_⟩
                · have := HFl.out g hx
                  omega
                · rw [up_ne (by decide), h12] at h
                  cases h
              · rw [h12] at hi; cases hi
          | 8, ho =>
            cases ho
            intro L a w hLi hw hnot hclos hJ hk' hcst hvs
            obtain ⟨v, e, hov⟩ := vAg7.1 (hvs 7 69 (hw 7 (by kernel_rfl)) (by decide) (by kernel_rfl))
            refine op_move 69 _ rfl e ⟨_, rfl, fun _ => vAg8.2 ⟨v, rfl, hov⟩, JAg_up (by decide) hJ, fun i d hi his hd => vAg_up (by decide) i (hvs i d hi his hd)⟩
          | 9, ho =>
            cases ho
            intro L a w hLi hw hnot hclos hJ hk' hcst hvs
            obtain ⟨v, e, hov⟩ := vAg8.1 (hvs 8 61 (hw 8 (by kernel_rfl)) (by decide) (by kernel_rfl))
            refine op_extract 61 0 _ (.agg (repC Y v).toArray) rfl e rfl ⟨_, rfl, fun _ => vAg9.2 ⟨v, rfl, hov⟩, JAg_up (by decide) hJ, fun i d hi his hd => vAg_up (by decide) i (hvs i d hi his hd)⟩
          | 10, ho =>
            cases ho
            intro L a w hLi hw hnot hclos hJ hk' hcst hvs
            obtain ⟨v, e, -⟩ := vAg8.1 (hvs 8 61 (hw 8 (by kernel_rfl)) (by decide) (by kernel_rfl))
            refine op_extract 61 1 _ (nu E) rfl e rfl ⟨_, rfl, fun _ => vAg10.2 rfl, JAg_up (by decide) hJ, fun i d hi his hd => vAg_up (by decide) i (hvs i d hi his hd)⟩
          | 11, ho =>
            cases ho
            intro L a w hLi hw hnot hclos hJ hk' hcst hvs
            have h12 : L 12 = false := hnot 12 _ rfl (by kernel_rfl)
            refine op_alloc 45 rfl (repC zeroR (.slice none 0 0)).toArray zeroRep ⟨_, rfl, fun _ => vAg11.2 ⟨w.heap.size, repC zeroR (.slice none 0 0), rfl, hJ.2.1.size, top_obj w _, repC_len wfZeroR _, fun h => ?_⟩, JAg_up (by decide) (JAg_kept hJ (below_a1 w _)), fun i d hi his hd => vAg_up (by decide) i (vAg_kept (below_a1 w _) i (hvs i d hi his hd))⟩
            rw [up_ne (by decide), h12] at h
            cases h
          | 12, ho =>
            cases ho
            intro L a w hLi hw hnot hclos hJ hk' hcst hvs
            obtain ⟨g, row, e1, e2, e3, e4, -⟩ := vAg11.1 (hvs 11 10 (hw 11 (by kernel_rfl)) (by decide) (by kernel_rfl))
            obtain ⟨v, ev, hov⟩ := vAg9.1 (hvs 9 70 (hw 9 (by kernel_rfl)) (by decide) (by kernel_rfl))
            refine op_put 45 10 70 rfl rfl g 0 e1 [] (repC Y v) row [] ev 45 (by simpa using e3) rfl (by rw [e4, repC_len YW.out]) (one_rep _ _ hov.one) (szR YW.out v) ?_
            intro w1 r1 b1
            have r1' : w1.heap[g]? = some (.cells (repC Y v).toArray 45) := by simpa using r1
            have k1 : Kp [g] w w1 := (Kp.refl _ _).but b1 (Or.inl (by simp))
            have hkp : ∀ {v2 : Value}, OwnP w v2 Y.pend → OwnP w1 v2 Y.pend := fun ho2 => ho2.kp k1 (fun b hb hx => ho2.ne e3 (by decide) b hb (by simpa using hx))
            refine ⟨undef, rfl, (fun h => by cases h), JAg_up (by decide) (JAg_but (hw 7 (by kernel_rfl)) hJ e3 e2 HGl.out b1), fun i d hi his hd => ?_⟩
            have h0 := hvs i d hi his hd
            simp only [List.mem_cons, List.not_mem_nil, or_false] at his
            rcases his with rfl | rfl | rfl | rfl | rfl | rfl
            · obtain ⟨v2, q1, q2⟩ := vAg7.1 h0
              exact vAg7.2 ⟨v2, q1, hkp q2⟩
            · obtain ⟨v2, q1, q2⟩ := vAg8.1 h0
              exact vAg8.2 ⟨v2, q1, hkp q2⟩
            · obtain ⟨v2, q1, q2⟩ := vAg9.1 h0
              exact vAg9.2 ⟨v2, q1, hkp q2⟩
            · exact vAg10.2 (vAg10.1 h0)
            · cases hd
              exact vAg11.2 ⟨g, repC Y v, e1, e2, r1', repC_len YW.out _, fun _ => ⟨v, rfl, hkp hov⟩⟩
            · cases hd
          | 0, _ | 1, _ | 2, _ | 3, _ | 4, _ | 5, _ | 6, _ => exact absurd hiS (by decide)
          | (i + 13), ho => exact absurd hi (by omega)
        · intro L o a' Wc hall hLn ho hJ hs hdf hk' hc hv hkeep
          cases ho
          have h10 := vAg10.1 (hv 10 71 (by decide) (by decide) (by kernel_rfl))
          obtain ⟨g, row, e1, e2, e3, e4, e5⟩ := vAg11.1 (hv 11 10 (by decide) (by decide) (by kernel_rfl))
          obtain ⟨v, rfl, hov⟩ := e5 (hall 12 (by decide))
          obtain ⟨F', q1, q2, q3, q4, q5⟩ := hJ.2.2 (hall 7 (by decide))
          obtain ⟨u69, h69⟩ : ∃ u69, a'.tmps.getD 69 undef = u69 := ⟨_, rfl⟩
          obtain ⟨u61, h61⟩ : ∃ u61, a'.tmps.getD 61 undef = u61 := ⟨_, rfl⟩
          obtain ⟨u70, h70⟩ : ∃ u70, a'.tmps.getD 70 undef = u70 := ⟨_, rfl⟩
          have hKc := hJ.2.1
          have HXc := hid q1
          have HYc := hid q2
          have POc := hid hov
          have RGc := hid e3
          have TSc := hid (HSr.out _ hKc)
          have cC := HCl.out _ hKc
          have hsz7 := HB7.out.size
          have LC : Hid (Lp w Wc p xx R1) := ⟨F', G1, q1, q2, q3, fun b hb => (q4 b hb).elim (HF7.out b) (fun e => Nat.le_trans hsz7 e), HG7.out, HB7.out.trans (hKc.below HF7.out hsz7), HKi.out⟩
          have HO1 := hid O6.out
          obtain ⟨u11, h11⟩ : ∃ u11, a'.tmps.getD 11 undef = u11 := ⟨_, rfl⟩
          obtain ⟨tm, df⟩ := a'
          obtain rfl : df = [] := hdf
          have e := cj_frame (a := ⟨tm, []⟩) (fun i => ([pt p 0, .slice (some ⟨b, off, none⟩) acs.length cap, nu j, pt b (off + j * 103), pt b (off + j * 103 + 1), nu c, .agg (subC s).toArray, u69, u61, u70, nu E, pt g 0, undef, u11] : List Value).getD i undef) [(62, pt p 0), (63, .slice (some ⟨b, off, none⟩) acs.length cap), (64, nu j), (65, pt b (off + j * 103)), (66, pt b (off + j * 103 + 1)), (67, nu c), (68, .agg (subC s).toArray), (69, u69), (61, u61), (70, u70), (71, nu E), (10, pt g 0), (11, u11)] hkeep hs (fun i d hd => by
            have hi : i < 14 := dst_lt hd
            match i, hi with
            | 0, _ | 1, _ | 2, _ | 3, _ | 4, _ | 5, _ | 6, _ =>
              rw [hc _ d (by decide) (by decide) hd]
              rfl
            | 7, _ => cases hd; exact h69
            | 8, _ => cases hd; exact h61
            | 9, _ => cases hd; exact h70
            | 10, _ => cases hd; exact h10
            | 11, _ => cases hd; exact e1
            | 12, _ => cases hd
            | 13, _ => cases hd; exact h11
            | (i + 14), h => omega) (by kernel_rfl)
          have e2 : tm = _ := e
          clear e hc hv hkeep hs hall hk' h69 h61 h70 h10 e1 hLn q1 q2 q3 q4 q5 hJ hov e3 e4 hsz7 hKc h11
          rw [e2]
          clear e2
          simp only [List.foldl_cons, List.foldl_nil, List.setIfInBounds_toArray, List.set_cons_zero, List.set_cons_succ]
          refine op_assign 71 (nu E) rfl rfl ?_
          go_upto_region 14 with fail
          have hq0 : ∀ dd os, (Sort.grow (redrawn Wc dd) os).cell? ⟨b, off + j * 103 + 1, none⟩ = some (nu c) := fun dd os => cell_regrown cC _ _
          have hqS : ∀ dd os, (Sort.grow (redrawn Wc dd) os).cell? ⟨gS, 0, none⟩ = some (nu s.number) := fun dd os => cell_regrown (srow_number TSc.out HW.out) _ _
          have K1 : Hid (∀ dd os, Calls Tryz.prog 14 #[pt xx 0, nu c] (Sort.grow (redrawn Wc dd) os) fun e w'' => e = .returned (.bool (hasB R1.n c)) ∧ ∃ p : Regrown, w'' = Sort.grow (redrawn Wc p.d) p.os) := fun dd os => Calls.regrown_of ((r12is_any (HYc.out.kept (below_regrown Wc dd os)) c).mono (fun _ _ h => ⟨h.1, by rw [h.2]; exact Below.refl _ _⟩))
          have K2 : Hid (∀ dd os, Calls Tryz.prog 12 #[pt p 0] (Sort.grow (redrawn Wc dd) os) fun e w'' => e = .returned (st O) ∧ ∃ p : Regrown, w'' = Sort.grow (redrawn Wc p.d) p.os) := fun dd os => by rw [HOr.out]; exact Calls.regrown_of (order_x (HXc.out.kept (below_regrown Wc dd os)))
          cases hB : hasB R1.n c with
          | false => as_aux_lemma =>
            have hb0 := hid hB
            rw [hb0.out] at K1
            refine wp_region_quiet_below (by kernel_rfl) (by kernel_rfl) ?_
            iterate 6 (first | go_big_quiet_step (fail) | quiet_step (fail))
            (first | go_big_quiet_step (exact K1.out _ _) | quiet_step (exact K1.out _ _))
            iterate 42 (first | go_big_quiet_step (fail) | quiet_step (fail))
            (first | go_big_quiet_step (exact K2.out _ _) | quiet_step (exact K2.out _ _))
            iterate 3 (first | go_big_quiet_step (fail) | quiet_step (fail))
            refine wpQuiet_nil ?_
            intro _ hw'
            obtain ⟨⟨dq, osq⟩, hw''⟩ := hw'
            subst hw''
            have L9 := hid (LC.out.kept (below_regrown Wc dq osq))
            clear K1 K2 hq0 hqS
            generalize Sort.grow (redrawn Wc dq) osq = W9 at *
            go_wp2
            exact ⟨⟨j + 1, R1, by omega, by omega, by go_num, L9, HO1⟩, by simp [intOf]; omega⟩
          | true =>
            have hcB := (hasB_iff _ _).1 hB
            obtain ⟨cn, hcn⟩ : ∃ cn : Nat, c = (cn : Int) := ⟨c.toNat, by omega⟩
            subst hcn
            have hcn8 : cn < R1.n := by omega
            rw [hB] at K1
            obtain ⟨bs, br, bv, bt, ps, vP, Yb, hz, -⟩ := HYc.out
            have q0 : ∀ dd os, (Sort.grow (redrawn Wc dd) os).cell? ⟨xx, 0, none⟩ = some (.slice (some ⟨bs, 0, none⟩) R1.n R1.n) := fun dd os => cell_regrown hz.cS _ _
            have q1 : ∀ dd os, (Sort.grow (redrawn Wc dd) os).cell? ⟨xx, 1, none⟩ = some (.slice (some ⟨br, 0, none⟩) R1.n R1.n) := fun dd os => cell_regrown hz.cR _ _
            obtain ⟨AC, HAC⟩ : ∃ AC, Hid (AC = subC (R1.reg (cn : Int)).asked) := ⟨_, rfl⟩
            obtain ⟨SC2, HSC2⟩ : ∃ SC2, Hid (SC2 = subC s) := ⟨_, rfl⟩
            have SA := hid (fun (W : World) (hW : ∃ p : Regrown, W = Sort.grow (redrawn Wc p.d) p.os) => (by obtain ⟨p, rfl⟩ := hW; exact fun i u hi => cell_regrown (hz.sub hcn8 i u (by rw [← HAC.out]; exact hi)) _ _ : ∀ i u, AC[i]? = some u → W.cell? ⟨bs, cn * 68 + i, none⟩ = some u))
            have SB := hid (fun (W : World) (hW : ∃ p : Regrown, W = Sort.grow (redrawn Wc p.d) p.os) => (by obtain ⟨p, rfl⟩ := hW; exact fun i u hi => cell_regrown (row_zero TSc.out i u (by rw [← HSC2.out]; exact hi)) _ _ : ∀ i u, SC2[i]? = some u → W.cell? ⟨gS, 0 + i, none⟩ = some u))
            have hwa := (hz.inv.reg (cn : Int)).asked
            have ZA : (Tryz.prog.info? 34).map (·.size) = some AC.length := by rw [HAC.out]; exact szS hwa
            have ZB : (Tryz.prog.info? 34).map (·.size) = some SC2.length := by rw [HSC2.out]; exact szS HW.out
            have EQ0 : ∀ W, (Op.equalIn 10000 34 (.agg AC.toArray) (.agg SC2.toArray)).run Tryz.prog W = .ok (sameS (R1.reg (cn : Int)).asked s) W := fun W => by rw [HAC.out, HSC2.out]; exact equal_sub W _ _ hwa HW.out
            cases hS : sameS (R1.reg (cn : Int)).asked s with
            | false => as_aux_lemma =>
              rw [hS] at EQ0
              have EQ := EQ0
              clear EQ0 hz
              refine wp_region_quiet_below (by kernel_rfl) (by kernel_rfl) ?_
              iterate 6 (first | go_big_quiet_step (fail) | quiet_step (fail))
              (first | go_big_quiet_step (exact K1.out _ _) | quiet_step (exact K1.out _ _))
              iterate 11 (first | go_big_quiet_step (fail) | quiet_step (fail))
              refine wq_load 34 (.tmp 89) rfl bs (cn * 68) rfl rfl AC _ (fun w' hw' => SA.out w' hw') Tryz.underlying34 rfl ZA ?_
              simp only [Act.put, List.setIfInBounds_toArray, List.set_cons_zero, List.set_cons_succ]
              refine wq_load 34 (.tmp 7) rfl gS 0 rfl rfl SC2 _ (fun w' hw' => SB.out w' hw') Tryz.underlying34 rfl ZB ?_
              simp only [Act.put, List.setIfInBounds_toArray, List.set_cons_zero, List.set_cons_succ]
              refine wq_eql rfl 34 34 (.tmp 90) (.tmp 91) rfl AC.toArray SC2.toArray rfl rfl guardSub false EQ ?_
              simp only [Act.put, List.setIfInBounds_toArray, List.set_cons_zero, List.set_cons_succ]
              iterate 28 (first | go_big_quiet_step (fail) | quiet_step (fail))
              (first | go_big_quiet_step (exact K2.out _ _) | quiet_step (exact K2.out _ _))
              iterate 3 (first | go_big_quiet_step (fail) | quiet_step (fail))
              refine wpQuiet_nil ?_
              intro _ hw'
              obtain ⟨⟨dq, osq⟩, hw''⟩ := hw'
              subst hw''
              have L9 := hid (LC.out.kept (below_regrown Wc dq osq))
              clear K1 K2 hq0 hqS
              generalize Sort.grow (redrawn Wc dq) osq = W9 at *
              go_wp2
              exact ⟨⟨j + 1, R1, by omega, by omega, by go_num, L9, HO1⟩, by simp [intOf]; omega⟩
            | true =>
              rw [hS] at EQ0
              have EQ := EQ0
              have hse : (R1.reg (cn : Int)).asked = s := (sameS_iff _ _).1 hS
              by_cases hn0 : 0 < s.number
              · have dn : decide (0 < s.number) = true := decide_eq_true hn0
                obtain ⟨hE0, hY0⟩ := again_D HO1.out hB hse hn0
                have hE1 : E = 0 := by rw [HE.out]; exact hE0
                have hY1 : Hid (Y = (R1.reg (cn : Int)).ans) := by rw [HY.out]; exact hY0
                obtain ⟨u, hpu, SRr⟩ := hz.rep hcn8
                obtain ⟨RA1, HRA1⟩ : ∃ RA1, Hid (RA1 = repC (R1.reg (cn : Int)).ans u) := ⟨_, rfl⟩
                obtain ⟨RB1, HRB1⟩ : ∃ RB1, Hid (RB1 = repC Y v) := ⟨_, rfl⟩
                have SR := hid (fun (W : World) (hW : ∃ p : Regrown, W = Sort.grow (redrawn Wc p.d) p.os) => (by obtain ⟨p, rfl⟩ := hW; exact fun i u2 hi => cell_regrown (SRr i u2 (by rw [← HRA1.out]; exact hi)) _ _ : ∀ i u2, RA1[i]? = some u2 → W.cell? ⟨br, cn * 103 + i, none⟩ = some u2))
                have SY := hid (fun (W : World) (hW : ∃ p : Regrown, W = Sort.grow (redrawn Wc p.d) p.os) => (by obtain ⟨p, rfl⟩ := hW; exact fun i u2 hi => cell_regrown (row_zero RGc.out i u2 (by rw [← HRB1.out]; exact hi)) _ _ : ∀ i u2, RB1[i]? = some u2 → W.cell? ⟨g, 0 + i, none⟩ = some u2))
                have hwr := (hz.inv.reg (cn : Int)).ans
                have ZRA : (Tryz.prog.info? 45).map (·.size) = some RA1.length := by rw [HRA1.out]; exact szR hwr u
                have ZRB : (Tryz.prog.info? 45).map (·.size) = some RB1.length := by rw [HRB1.out]; exact szR YW.out v
                have hplY : Y.pend.length ≤ 9223372036854775807 := by
                  rw [hY1.out]
                  have := (hz.inv.reg (cn : Int)).apend
                  omega
                have K3 : Hid (∀ dd os, Calls Tryz.prog 15 #[.agg RB1.toArray, .agg RA1.toArray] (Sort.grow (redrawn Wc dd) os) fun e w'' => e = .returned (.bool true) ∧ ∃ p : Regrown, w'' = Sort.grow (redrawn Wc p.d) p.os) := fun dd os => by
                  have h0 := Calls.regrown_of (d := dd) (os := os) (samereply_any YW.out hwr ((POc.out.kept (below_regrown Wc dd os)).pens YW.out.pend) (hpu.pens.kept (below_regrown Wc dd os)) hplY)
                  rw [(sameR_iff _ _).2 hY1.out] at h0
                  rw [HRA1.out, HRB1.out]
                  exact h0
                clear EQ0 hz SRr hpu hE0 hY0 hS hse HE
                subst hE1
                as_aux_lemma =>
                  refine wp_region_quiet_below (by kernel_rfl) (by kernel_rfl) ?_
                  iterate 6 (first | go_big_quiet_step (fail) | quiet_step (fail))
                  (first | go_big_quiet_step (exact K1.out _ _) | quiet_step (exact K1.out _ _))
                  iterate 11 (first | go_big_quiet_step (fail) | quiet_step (fail))
                  refine wq_load 34 (.tmp 89) rfl bs (cn * 68) rfl rfl AC _ (fun w' hw' => SA.out w' hw') Tryz.underlying34 rfl ZA ?_
                  simp only [Act.put, List.setIfInBounds_toArray, List.set_cons_zero, List.set_cons_succ]
                  refine wq_load 34 (.tmp 7) rfl gS 0 rfl rfl SC2 _ (fun w' hw' => SB.out w' hw') Tryz.underlying34 rfl ZB ?_
                  simp only [Act.put, List.setIfInBounds_toArray, List.set_cons_zero, List.set_cons_succ]
                  refine wq_eql rfl 34 34 (.tmp 90) (.tmp 91) rfl AC.toArray SC2.toArray rfl rfl guardSub true EQ ?_
                  simp only [Act.put, List.setIfInBounds_toArray, List.set_cons_zero, List.set_cons_succ]
                  iterate 10 (first | go_big_quiet_step (fail) | quiet_step (fail))
                  refine wq_load 45 (.tmp 10) rfl g 0 rfl rfl RB1 _ (fun w' hw' => SY.out w' hw') Tryz.underlying45 rfl ZRB ?_
                  simp only [Act.put, List.setIfInBounds_toArray, List.set_cons_zero, List.set_cons_succ]
                  iterate 10 (first | go_big_quiet_step (fail) | quiet_step (fail))
                  refine wq_load 45 (.tmp 113) rfl br (cn * 103) rfl rfl RA1 _ (fun w' hw' => SR.out w' hw') Tryz.underlying45 rfl ZRA ?_
                  simp only [Act.put, List.setIfInBounds_toArray, List.set_cons_zero, List.set_cons_succ]
                  (first | go_big_quiet_step (exact K3.out _ _) | quiet_step (exact K3.out _ _))
                  iterate 5 (first | go_big_quiet_step (fail) | quiet_step (fail))
                  (first | go_big_quiet_step (exact K2.out _ _) | quiet_step (exact K2.out _ _))
                  iterate 3 (first | go_big_quiet_step (fail) | quiet_step (fail))
                  refine wpQuiet_nil ?_
                  intro _ hw'
                  obtain ⟨⟨dq, osq⟩, hw''⟩ := hw'
                  subst hw''
                  have L9 := hid (LC.out.kept (below_regrown Wc dq osq))
                  clear K1 K2 hq0 hqS
                  generalize Sort.grow (redrawn Wc dq) osq = W9 at *
                  go_wp2
                  exact ⟨⟨j + 1, R1, by omega, by omega, by go_num, L9, HO1⟩, by simp [intOf]; omega⟩
              · have dn : decide (0 < s.number) = false := decide_eq_false hn0
                clear EQ0 hz
                as_aux_lemma =>
                  refine wp_region_quiet_below (by kernel_rfl) (by kernel_rfl) ?_
                  iterate 6 (first | go_big_quiet_step (fail) | quiet_step (fail))
                  (first | go_big_quiet_step (exact K1.out _ _) | quiet_step (exact K1.out _ _))
                  iterate 11 (first | go_big_quiet_step (fail) | quiet_step (fail))
                  refine wq_load 34 (.tmp 89) rfl bs (cn * 68) rfl rfl AC _ (fun w' hw' => SA.out w' hw') Tryz.underlying34 rfl ZA ?_
                  simp only [Act.put, List.setIfInBounds_toArray, List.set_cons_zero, List.set_cons_succ]
                  refine wq_load 34 (.tmp 7) rfl gS 0 rfl rfl SC2 _ (fun w' hw' => SB.out w' hw') Tryz.underlying34 rfl ZB ?_
                  simp only [Act.put, List.setIfInBounds_toArray, List.set_cons_zero, List.set_cons_succ]
                  refine wq_eql rfl 34 34 (.tmp 90) (.tmp 91) rfl AC.toArray SC2.toArray rfl rfl guardSub true EQ ?_
                  simp only [Act.put, List.setIfInBounds_toArray, List.set_cons_zero, List.set_cons_succ]
                  iterate 28 (first | go_big_quiet_step (fail) | quiet_step (fail))
                  (first | go_big_quiet_step (exact K2.out _ _) | quiet_step (exact K2.out _ _))
                  iterate 3 (first | go_big_quiet_step (fail) | quiet_step (fail))
                  refine wpQuiet_nil ?_
                  intro _ hw'
                  obtain ⟨⟨dq, osq⟩, hw''⟩ := hw'
                  subst hw''
                  have L9 := hid (LC.out.kept (below_regrown Wc dq osq))
                  clear K1 K2 hq0 hqS
                  generalize Sort.grow (redrawn Wc dq) osq = W9 at *
                  go_wp2
                  exact ⟨⟨j + 1, R1, by omega, by omega, by go_num, L9, HO1⟩, by simp [intOf]; omega⟩
    · have hbl := hid HL.out.bl
      have HSm := hid (same_l HL.out)
      by_cases h1 : j < acs.length
      · have d3 : decide ((j : Int) < (acs.length : Int)) = true := decide_eq_true (by omega)
        have d3' : decide (j < acs.length) = true := decide_eq_true h1
        have d4 : decide ((j : Int) < 40) = false := decide_eq_false (by omega)
        go_wp2_with fail
        refine HSm.out.mono ?_
        rintro e W4 ⟨rfl, b4⟩
        have B4 := hid (HL.out.kept b4)
        go_wp2
        go_ret
        exact ⟨rfl, B4.out.bl⟩
      · have d3 : decide ((j : Int) < (acs.length : Int)) = false := decide_eq_false (by omega)
        have d3' : decide (j < acs.length) = false := decide_eq_false h1
        go_wp2_with fail
        refine HSm.out.mono ?_
        rintro e W4 ⟨rfl, b4⟩
        have B4 := hid (HL.out.kept b4)
        go_wp2
        go_ret
        exact ⟨rfl, B4.out.bl⟩
end Go.Proofs.YtoneoocihfjfgaaGreatDoor.Ms
