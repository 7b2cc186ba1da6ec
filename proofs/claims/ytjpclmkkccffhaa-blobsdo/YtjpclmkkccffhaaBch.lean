/-
  A region that draws its order and builds lists piece by piece: one law; literals, cuts and appends as single operations.
-/
import Derived.Test.YtjpclmkkccffhaaBrf
import Derived.Great.BuildSlice
namespace Go.Proofs.Ytjpclmkkccffhaa.Bl
open Go Go.RowKit Go.Maps
set_option maxRecDepth 100000

/-- What the slots hold: those of S something that hangs on what has come up, the others one value each. -/
def vS (S : List Nat) (vs : (Nat → Bool) → Nat → Value → World → Prop) (cs : List Value) (L : Nat → Bool) (i : Nat) (v : Value) (w : World) : Prop := if i ∈ S then vs L i v w else v = cs.getD i undef
section
variable {P : Program} {ops : Array Oper} {Q : Exit → Act → World → Prop} {N : Nat} {a0 : Act} {w0 : World} {S : List Nat} {vs : (Nat → Bool) → Nat → Value → World → Prop} {cs : List Value}
theorem vS_c {L : Nat → Bool} {i : Nat} {v : Value} {w : World} (h : vS S vs cs L i v w) (hi : i ∉ S) : v = cs.getD i undef := by
  unfold vS at h
  rwa [if_neg hi] at h
theorem vS_s {L : Nat → Bool} {i : Nat} {v : Value} {w : World} (h : vS S vs cs L i v w) (hi : i ∈ S) : vs L i v w := by
  unfold vS at h
  rwa [if_pos hi] at h
def Cst (ops : Array Oper) (S : List Nat) (cs : List Value) (a : Act) (o : Oper) : Prop := ∀ j d, waits o j = true → j ∉ S → dstOf ops j = some d → a.tmps.getD d undef = cs.getD j undef
def Kpt (ops : Array Oper) (a0 a : Act) (i : Nat) : Prop := ∀ t, keepOk ops i t = true → a.tmps.getD t undef = a0.tmps.getD t undef
/-- An operation that only answers. -/
def OweC (P : Program) (ops : Array Oper) (Q : Exit → Act → World → Prop) (a0 : Act) (w0 : World) (S : List Nat) (cs : List Value) (i : Nat) (o : Oper) : Prop :=
  ∀ (a : Act) (w : World), Below w0.heap.size w0 w → Kpt ops a0 a i → Cst ops S cs a o → ∀ K : Act → World → Prop, K (a.put o.dst (cs.getD i undef)) w → o.wp P a w K Q
/-- An operation that makes memory. -/
def OweS (P : Program) (ops : Array Oper) (Q : Exit → Act → World → Prop) (a0 : Act) (w0 : World) (S : List Nat) (vs : (Nat → Bool) → Nat → Value → World → Prop) (cs : List Value) (i : Nat) (o : Oper) : Prop :=
  ∀ (L : Nat → Bool) (a : Act) (w : World), L i = false → (∀ j, waits o j = true → L j = true) → (∀ j oj, ops[j]? = some oj → waits oj i = true → L j = false) → (∀ j oj, ops[j]? = some oj → L j = true → ∀ q, waits oj q = true → L q = true) → Below w0.heap.size w0 w → Kpt ops a0 a i → Cst ops S cs a o →
    (∀ j d, L j = true → j ∈ S → dstOf ops j = some d → vs L j (a.tmps.getD d undef) w) →
    o.wp P a w (fun a' w' => ∃ v, a' = a.put o.dst v ∧ vs (up L i) i v w' ∧ Below w0.heap.size w0 w' ∧ ∀ j d, L j = true → j ∈ S → dstOf ops j = some d → vs (up L i) j (a.tmps.getD d undef) w') Q
theorem wp_region_chain {id : Nat} (n : Nat) (S : List Nat) (vs : (Nat → Bool) → Nat → Value → World → Prop) (cs : List Value) (hf : P.follows .mixedOrders = true) (hok : okMd ops N = true) (hlast : lastOk ops n = true) (hN : a0.tmps.size = N)
    (hvs : ∀ i, i ∉ S → i < n → ∀ L j u w, vs L j u w → vs (up L i) j u w)
    (hc : ∀ i o, i < n → i ∉ S → ops[i]? = some o → OweC P ops Q a0 w0 S cs i o)
    (hs : ∀ i o, i < n → i ∈ S → ops[i]? = some o → OweS P ops Q a0 w0 S vs cs i o)
    (hlo : ∀ L o a w, (∀ i, i < n → L i = true) → L n = false → ops[n]? = some o → Below w0.heap.size w0 w → a.tmps.size = N → a.defers = a0.defers → Kpt ops a0 a n → (∀ i d, i < n → i ∉ S → dstOf ops i = some d → a.tmps.getD d undef = cs.getD i undef) → (∀ i d, i < n → i ∈ S → dstOf ops i = some d → vs L i (a.tmps.getD d undef) w) → o.wp P a w (Q .normal) Q) :
    (Code.region id ops true).wp P Q a0 w0 := by
  have hsz : n + 1 = ops.size ∧ ∀ i, i < n → ∀ o, ops[n]? = some o → waits o i = true ∨ ∃ j oj, waits o j = true ∧ ops[j]? = some oj ∧ waits oj i = true := by
    unfold lastOk at hlast
    rw [Bool.and_eq_true, decide_eq_true_eq, List.all_eq_true] at hlast
    refine ⟨hlast.1, fun i hi o ho => ?_⟩
    have h1 := hlast.2 i (List.mem_range.2 hi)
    rw [ho] at h1
    simp only [Bool.or_eq_true, List.any_eq_true, List.mem_range, Bool.and_eq_true] at h1
    rcases h1 with h1 | ⟨j, -, h1, h2⟩
    · exact Or.inl h1
    · cases hoj : ops[j]? with
      | none => rw [hoj] at h2; cases h2
      | some oj => rw [hoj] at h2; exact Or.inr ⟨j, oj, h1, hoj, h2⟩
  refine wp_region_inv (fun L a w => (L n = true → Q .normal a w ∧ ∀ i, i < ops.size → L i = true) ∧ (L n = false → Md ops N a0 (vS S vs cs) (fun _ w => Below w0.heap.size w0 w) L a w)) hf (okMd_at hok).1 (fun w1 hw1 => ⟨fun h => Bool.noConfusion h, fun _ => ⟨hN, rfl, fun _ _ => rfl, by simp, by simp, hw1⟩⟩) ?_ ?_
  · intro L a w i o ho hI hLi hw
    have hi : i < ops.size := (Array.getElem?_eq_some_iff.1 ho).1
    cases hLn : L n with
    | true =>
      rw [(hI.1 hLn).2 i hi] at hLi
      cases hLi
    | false =>
      have hm := hI.2 hLn
      by_cases hin : i = n
      · subst hin
        have hall : ∀ j, j < i → L j = true := by
          intro j hj
          rcases hsz.2 j hj o ho with h1 | ⟨k, ok, h1, h2, h3⟩
          · exact hw j h1
          · exact hm.clos k ok h2 (hw k h1) j h3
        refine Oper.wp_mono ?_ (hlo L o a w hall hLn ho hm.inv hm.size hm.defs (hm.keepAt hLi) (fun j d hj hjs hd => vS_c (hm.done j d (hall j hj) hd) hjs) (fun j d hj hjs hd => vS_s (hm.done j d (hall j hj) hd) hjs))
        intro a' w' hQ
        refine ⟨fun _ => ⟨hQ, fun j hj => ?_⟩, fun h => ?_⟩
        · unfold up
          split
          · rfl
          · exact hall j (by omega)
        · rw [up_self] at h
          cases h
      · have hil : i < n := by omega
        have hcst : Cst ops S cs a o := fun j d hj hjs hd => vS_c (hm.done j d (hw j hj) hd) hjs
        by_cases hiS : i ∈ S
        · refine Oper.wp_mono ?_ (hs i o hil hiS ho L a w hLi hw (hm.not hLi) hm.clos hm.inv (hm.keepAt hLi) hcst (fun j d hj hjs hd => vS_s (hm.done j d hj hd) hjs))
          rintro a' w' ⟨v, rfl, hv, hB, hmono⟩
          refine ⟨fun h => ?_, fun _ => hm.step hok ho hw (fun _ => ?_) hB (fun j d hj hd => ?_)⟩
          · rw [up_ne hin, hLn] at h
            cases h
          · unfold vS
            rw [if_pos hiS]
            exact hv
          · have h0 := hm.done j d hj hd
            unfold vS at h0 ⊢
            by_cases hjs : j ∈ S
            · rw [if_pos hjs]
              exact hmono j d hj hjs hd
            · rw [if_neg hjs] at h0 ⊢
              exact h0
        · refine hc i o hil hiS ho a w hm.inv (hm.keepAt hLi) hcst _ ⟨fun h => ?_, fun _ => hm.step hok ho hw (fun _ => ?_) hm.inv (fun j d hj hd => ?_)⟩
          · rw [up_ne hin, hLn] at h
            cases h
          · unfold vS
            rw [if_neg hiS]
          · have h0 := hm.done j d hj hd
            unfold vS at h0 ⊢
            by_cases hjs : j ∈ S
            · rw [if_pos hjs] at h0 ⊢
              exact hvs i hiS hil L j _ w h0
            · rw [if_neg hjs] at h0 ⊢
              exact h0
  · intro L a w hall hI
    exact (hI.1 (hall n (by omega))).1
end
/-- A piece of a list: m elements, whose cells are news. -/
def Pc (w : World) (size : Nat) (x : Value) (m : Nat) (news : List Value) : Prop := news.length = m * size ∧ ∃ a c, x = .slice a m c ∧ (m ≠ 0 → ∃ ad, a = some ad ∧ ∀ j u, news[j]? = some u → w.cell? (ad.add j) = some u)
section
variable {P : Program} {w : World} {o : Oper} {a : Act} {Q : Exit → Act → World → Prop} {K : Act → World → Prop}
theorem run_append_pc (base : Nat) (t ty e : TypeId) (z : Value) (size bytes : Nat) (ht : P.underlying t = some (.slice e)) (hinfo : (P.info? e).map (fun i => (i.zero, i.size, i.bytes)) = some (some z, size, bytes)) (hzs : z.cells.size = size) (hsz : 0 < size)
    (v x : Value) (n m : Nat) (xs news : List Value) (hown : w.ownsRow base e size v n xs) (hp : Pc w size x m news) (h1 : ∀ u ∈ news, u.oneCell' = true) (hnm : n + m ≤ 1000000) (hby : bytes ≤ 1000) (hbase : base ≤ w.heap.size) :
    ∃ v' w', (Builtin.append_ #[t, t] ty #[v, x]).run P w = .ok v' w' ∧ w'.ownsRow base e size v' (n + m) (xs ++ news) ∧ w.grownBy w' v.ownBlock ∧ (v'.ownBlock = v.ownBlock ∨ v'.ownBlock = some w.heap.size) := by
  obtain ⟨i, hi, hz0, hz1, hz2⟩ := info_parts hinfo
  obtain ⟨hl, ax, c, rfl, hc⟩ := hp
  have hb : (n + m) * bytes ≤ 140737488355328 := by
    have := Nat.mul_le_mul hnm hby
    omega
  cases ax with
  | some ad =>
    have hnews : ∀ j u, news[j]? = some u → w.cell? (ad.add j) = some u := by
      intro j u hj
      by_cases hm : m = 0
      · subst hm
        have : news = [] := List.eq_nil_of_length_eq_zero (by simpa using hl)
        rw [this] at hj
        simp at hj
      · obtain ⟨ad', e1, h2⟩ := hc hm
        cases e1
        exact h2 j u hj
    obtain ⟨v', w', g1, g2, g3, -, g5⟩ := run_append_own_at (P := P) w base t ty e i z size bytes ht hi hz0 hz1 hz2 hzs hsz v n xs hown ad m c news hl hnews h1 (by unfold maxLen; omega) hb hbase
    exact ⟨v', w', g1, g2, g3, g5⟩
  | none =>
    have hm : m = 0 := by
      by_cases hm : m = 0
      · exact hm
      · obtain ⟨ad', e1, -⟩ := hc hm
        cases e1
    subst hm
    have hn : news = [] := List.eq_nil_of_length_eq_zero (by simpa using hl)
    subst hn
    refine ⟨v, w, ?_, by simpa using hown, ⟨rfl, rfl, rfl, Nat.le_refl _, fun _ _ _ => rfl⟩, Or.inl rfl⟩
    rcases hown.2 with ⟨rfl, rfl⟩ | ⟨g, cap, cur, rfl, -, -, hnc, -⟩
    · simp [Builtin.append_, run_underlying ht, sizeOf, typeInfo, hi, Builtin.lenOf, Builtin.firstCells]
    · simp [Builtin.append_, run_underlying ht, sizeOf, typeInfo, hi, Builtin.lenOf, Builtin.firstCells, hnc, storeCells]
theorem op_append (s x : Tmp) (base : Nat) (t e : TypeId) (z : Value) (size bytes : Nat) (ho : o.op = .call { callee := .builtin .append, args := #[.tmp s, .tmp x], argTypes := #[t, t] }) (ht : P.underlying t = some (.slice e)) (hinfo : (P.info? e).map (fun i => (i.zero, i.size, i.bytes)) = some (some z, size, bytes)) (hzs : z.cells.size = size) (hsz : 0 < size)
    (n m : Nat) (xs news : List Value) (hown : w.ownsRow base e size (a.tmps.getD s undef) n xs) (hp : Pc w size (a.tmps.getD x undef) m news) (h1 : ∀ u ∈ news, u.oneCell' = true) (hnm : n + m ≤ 1000000) (hby : bytes ≤ 1000) (hbase : base ≤ w.heap.size)
    (h : ∀ v' w', w'.ownsRow base e size v' (n + m) (xs ++ news) → w.grownBy w' (a.tmps.getD s undef).ownBlock → K (a.put o.dst v') w') : o.wp P a w K Q := by
  obtain ⟨v', w', hr, g1, g2, -⟩ := run_append_pc (P := P) (w := w) base t o.type e z size bytes ht hinfo hzs hsz _ _ n m xs news hown hp h1 hnm hby hbase
  have e1 : a.eval (.tmp s) = a.tmps.getD s undef := rfl
  have e2 : a.eval (.tmp x) = a.tmps.getD x undef := rfl
  unfold Oper.wp execOp
  simp only [ho, resolve, invoke, builtin, Sem.run_bind, Sem.run_pure, Result.andThen_ok, List.map_toArray, List.map_cons, List.map_nil, e1, e2, hr]
  exact h v' w' g1 g2
theorem op_bs0 (t e : TypeId) (ho : o.op = .buildSlice t 0 #[]) (ht : P.underlying t = some (.slice e)) (size : Nat) (hi : (P.info? e).map (·.size) = some size)
    (h : K (a.put o.dst (.slice (some ⟨w.heap.size, 0, none⟩) 0 0)) (w.alloc (.cells #[] e))) : o.wp P a w K Q := by
  cases hq : P.info? e with
  | none => simp [hq] at hi
  | some i =>
    have e0 : Array.map (fun _ => (default : Value)) (Array.range 0) = #[] := by simp
    have hr : (Instr.buildSlice t 0 #[]).run P w = .ok (.slice (some ⟨w.heap.size, 0, none⟩) 0 0) (w.alloc (.cells #[] e)) := by
      simp [Instr.buildSlice, run_underlying ht, sizeOf, typeInfo, hq, Instr.fill, newRow]
      rw [e0]
    unfold Oper.wp execOp
    simp only [ho, List.map_toArray, List.map_nil, Sem.run_bind, hr, Result.andThen_ok, Sem.run_pure]
    exact h
theorem op_bs1 (t e : TypeId) (y : Tmp) (ho : o.op = .buildSlice t 1 #[(0, .tmp y)]) (ht : P.underlying t = some (.slice e)) (z : Value) (size bytes : Nat) (hinfo : (P.info? e).map (fun i => (i.zero, i.size, i.bytes)) = some (some z, size, bytes)) (hsz : 0 < size) (hsm : size ≤ 1000)
    (v : Value) (hy : a.tmps.getD y undef = v) (cs : Array Value) (hcs : v.cells = cs) (hs : cs.size = size)
    (h : K (a.put o.dst (.slice (some ⟨w.heap.size, 0, none⟩) 1 1)) (w.alloc (.cells cs e))) : o.wp P a w K Q := by
  obtain ⟨i, hi, hz0, hz1, hz2⟩ := info_parts hinfo
  have hfill := Great.fill_whole (s := size) hsz [v] ((Array.range (1 * size)).map (z.cells[· % z.cells.size]!)) (by simp [hcs, hs]) (by simp)
  have e1 : ([v].flatMap fun v => v.cells.toList).toArray = cs := by simp [hcs]
  rw [e1] at hfill
  have ey : a.eval (.tmp y) = v := hy
  refine wp_buildSlice t e 1 _ ho cs i z ht hi hz0 (by rw [hz1]; omega) (by rw [hz1]; omega) (by rw [hz1]; simpa [ey] using hfill) h
theorem run_cutTo (t e : TypeId) (ht : P.underlying t = some (.slice e)) (size : Nat) (hi : (P.info? e).map (·.size) = some size) (ax : Option Addr) (len cap k : Nat) (hk : k ≤ cap) :
    (Instr.slice t (.slice ax len cap) none (some (nu k)) none).run P w = .ok (.slice (if cap = 0 then ax else ax.map (·.add 0)) k cap) w := by
  cases hq : P.info? e with
  | none => simp [hq] at hi
  | some i =>
    simp [Instr.slice, run_underlying ht, Instr.sliceBounds, Instr.sliceBound, asIntOf, sizeOf, typeInfo, hq]
    intro h
    omega
theorem run_cutFrom (t e : TypeId) (ht : P.underlying t = some (.slice e)) (size : Nat) (hi : (P.info? e).map (·.size) = some size) (ax : Option Addr) (len cap k : Nat) (hk : k ≤ len) :
    (Instr.slice t (.slice ax len cap) (some (nu k)) none none).run P w = .ok (.slice (if cap = k then ax else ax.map (·.add (k * size))) (len - k) (cap - k)) w := by
  cases hq : P.info? e with
  | none => simp [hq] at hi
  | some i =>
    have hs : i.size = size := by simpa [hq] using hi
    simp [Instr.slice, run_underlying ht, Instr.sliceBounds, Instr.sliceBound, asIntOf, sizeOf, typeInfo, hq, hs]
    intro h
    omega
theorem op_cutTo (x y : Tmp) (t e : TypeId) (ho : o.op = .slice t (.tmp x) none (some (.tmp y)) none) (ht : P.underlying t = some (.slice e)) (size : Nat) (hi : (P.info? e).map (·.size) = some size) (ax : Option Addr) (len cap k : Nat) (hk : k ≤ cap)
    (hx : a.tmps.getD x undef = .slice ax len cap) (hy : a.tmps.getD y undef = nu k) (h : K (a.put o.dst (.slice (if cap = 0 then ax else ax.map (·.add 0)) k cap)) w) : o.wp P a w K Q := by
  have ex : a.eval (.tmp x) = .slice ax len cap := hx
  have ey : a.eval (.tmp y) = nu k := hy
  unfold Oper.wp execOp
  simp [ho, ex, ey, Instr.sliceAt, run_underlying ht, run_cutTo (w := w) t e ht size hi ax len cap k hk]
  exact h
theorem op_cutFrom (x y : Tmp) (t e : TypeId) (ho : o.op = .slice t (.tmp x) (some (.tmp y)) none none) (ht : P.underlying t = some (.slice e)) (size : Nat) (hi : (P.info? e).map (·.size) = some size) (ax : Option Addr) (len cap k : Nat) (hk : k ≤ len)
    (hx : a.tmps.getD x undef = .slice ax len cap) (hy : a.tmps.getD y undef = nu k) (h : K (a.put o.dst (.slice (if cap = k then ax else ax.map (·.add (k * size))) (len - k) (cap - k))) w) : o.wp P a w K Q := by
  have ex : a.eval (.tmp x) = .slice ax len cap := hx
  have ey : a.eval (.tmp y) = nu k := hy
  unfold Oper.wp execOp
  simp [ho, ex, ey, Instr.sliceAt, run_underlying ht, run_cutFrom (w := w) t e ht size hi ax len cap k hk]
  exact h
end
/-- Pieces of a list of one's own. -/
theorem own_pc {w : World} {base e size n : Nat} {v : Value} {xs : List Value} (h : w.ownsRow base e size v n xs) : Pc w size v n xs := by
  refine ⟨h.1, ?_⟩
  have hc : ∀ {g : Nat}, v.ownBlock = some g → _ := fun {g} hg => h.cells (g := g) hg
  rcases h.2 with ⟨rfl, h0⟩ | ⟨g, cap, cur, rfl, -⟩
  · exact ⟨none, 0, by rw [h0], fun h => absurd h0 h⟩
  · exact ⟨_, cap, rfl, fun _ => ⟨_, rfl, hc rfl⟩⟩
theorem pc_kept {w w' : World} {size m : Nat} {x : Value} {news : List Value} {B : Nat} (h : Pc w size x m news) (hb : Below B w w') (hlt : ∀ k, x.ownBlock = some k → k < B) (hg : ∀ ad m' c, x = .slice (some ad) m' c → ad.block < B) : Pc w' size x m news := by
  obtain ⟨hl, ax, c, rfl, hc⟩ := h
  refine ⟨hl, ax, c, rfl, fun hm => ?_⟩
  obtain ⟨ad, rfl, h1⟩ := hc hm
  refine ⟨ad, rfl, fun j u hj => ?_⟩
  have h2 := h1 j u hj
  have : (ad.add j).block = ad.block := by unfold Addr.add; split <;> rfl
  rw [← h2]
  exact hb.cell (p := ad.add j) (by rw [this]; exact hg ad m c rfl)
end Go.Proofs.Ytjpclmkkccffhaa.Bl
