/-
  The reference's registers in memory (R12.Regs): four lists side by side, and a struct that names them.
-/
import Derived.Test.YtoneoocihfjfgaaGreatDoorG20
import Derived.Test.YtoneoocihfjfgaaGreatDoorErg
import Derived.Test.YtoneoocihfjfgaaGreatDoorG12
import Derived.Test.YtoneoocihfjfgaaGreatDoorG01
import Derived.Laws.Concat
import Derived.Test.YtoneoocihfjfgaaGreatDoorJhm
namespace Go.Proofs.YtoneoocihfjfgaaGreatDoor.Ms
open Go Go.RowKit
set_option maxRecDepth 100000
section
variable {α : Type}
theorem fm_len (f : α → List Value) (k : Nat) : ∀ l : List α, (∀ a ∈ l, (f a).length = k) → (l.flatMap f).length = l.length * k
  | [], _ => by simp
  | a :: l, h => by
    have h1 := h a (by simp)
    have h2 := fm_len f k l (fun b hb => h b (by simp [hb]))
    rw [List.flatMap_cons, List.length_append, h1, h2, List.length_cons, Nat.add_mul, Nat.one_mul, Nat.add_comm]
theorem fm_split (f : α → List Value) (l : List α) (c : Nat) (h : c < l.length) : l.flatMap f = (l.take c).flatMap f ++ (f l[c] ++ (l.drop (c + 1)).flatMap f) := by
  conv => lhs; rw [← List.take_append_drop c l, List.drop_eq_getElem_cons h]
  rw [List.flatMap_append, List.flatMap_cons]
theorem fm_set (f : α → List Value) (l : List α) (c : Nat) (a : α) (h : c < l.length) : (l.set c a).flatMap f = (l.take c).flatMap f ++ (f a ++ (l.drop (c + 1)).flatMap f) := by
  rw [List.set_eq_take_append_cons_drop, if_pos h, List.flatMap_append, List.flatMap_cons]
theorem fm_pre (f : α → List Value) (k : Nat) (l : List α) (hk : ∀ a ∈ l, (f a).length = k) (c : Nat) (h : c < l.length) : ((l.take c).flatMap f).length = c * k := by
  rw [fm_len f k _ (fun a ha => hk a (List.mem_of_mem_take ha)), List.length_take, Nat.min_eq_left (by omega)]
theorem fm_seg {w : World} {g : Nat} {t : TypeId} (f : α → List Value) (k : Nat) (l : List α) (hk : ∀ a ∈ l, (f a).length = k) (h : w.heap[g]? = some (.cells (l.flatMap f).toArray t)) (c : Nat) (hc : c < l.length) : ∀ j v, (f l[c])[j]? = some v → w.cell? ⟨g, c * k + j, none⟩ = some v :=
  row_seg h (fm_split f l c hc) (fm_pre f k l hk c hc)
end
abbrev RG : Type := Reg × Value
def fS (q : RG) : List Value := subC q.1.asked
def fR (q : RG) : List Value := repC q.1.ans q.2
def fV (q : RG) : List Value := [st q.1.view]
def fT (q : RG) : List Value := dg q.1.tag
def sl (g n : Nat) : Value := .slice (some ⟨g, 0, none⟩) n n
def refC (R : Rs) (bs br bv bt : Nat) (vP : Value) : List Value := [sl bs R.n, sl br R.n, sl bv R.n, sl bt R.n, nu R.who, st R.long] ++ (dg R.ltag ++ [vP])
def PensG (w : World) (Y : List Nat) (v : Value) (l : List Pen) : Prop := ∃ a cap, v = .slice a l.length cap ∧ l.length ≤ cap ∧ (l ≠ [] → ∃ b off, a = some ⟨b, off, none⟩ ∧ b ∈ Y ∧ ∀ j, j < l.length → ∀ i c, (penC (l.getD j noPen))[i]? = some c → w.cell? ⟨b, off + j * 68 + i, none⟩ = some c)
theorem PensG.pens {w : World} {Y : List Nat} {v : Value} {l : List Pen} (h : PensG w Y v l) : PensAt w v l := by
  obtain ⟨a, cap, rfl, -, h2⟩ := h
  refine ⟨a, cap, rfl, fun hn => ?_⟩
  obtain ⟨b, off, h3, -, h4⟩ := h2 hn
  exact ⟨b, off, h3, h4⟩
theorem PensG.nil (w : World) (Y : List Nat) : PensG w Y (.slice none 0 0) [] := ⟨none, 0, rfl, Nat.le_refl _, fun h => absurd rfl h⟩
theorem PensG.more {w : World} {Y Y' : List Nat} {v : Value} {l : List Pen} (h : PensG w Y v l) (hY : ∀ b ∈ Y, b ∈ Y') : PensG w Y' v l := by
  obtain ⟨a, cap, rfl, h1, h2⟩ := h
  refine ⟨a, cap, rfl, h1, fun hn => ?_⟩
  obtain ⟨b, off, h3, h4, h5⟩ := h2 hn
  exact ⟨b, off, h3, hY b h4, h5⟩
theorem cell_kpX {X : List Nat} {w w' : World} {b i : Nat} {u : Value} (hk : Kp X w w') (hb : b ∉ X) (h : w.cell? ⟨b, i, none⟩ = some u) : w'.cell? ⟨b, i, none⟩ = some u := by
  have hl : b < w.heap.size := World.block_lt_of_cell? w _ h
  have e := hk.block b hl hb
  unfold World.cell? at h ⊢
  rw [e]
  exact h
theorem PensG.kp {X Y : List Nat} {w w' : World} {v : Value} {l : List Pen} (h : PensG w Y v l) (hk : Kp X w w') (hX : ∀ b ∈ Y, b ∉ X) : PensG w' Y v l := by
  obtain ⟨a, cap, rfl, h1, h2⟩ := h
  refine ⟨a, cap, rfl, h1, fun hn => ?_⟩
  obtain ⟨b, off, h3, h4, h5⟩ := h2 hn
  exact ⟨b, off, h3, h4, fun j hj i c hi => cell_kpX hk (hX b h4) (h5 j hj i c hi)⟩
theorem PensG.one {w : World} {Y : List Nat} {v : Value} {l : List Pen} (h : PensG w Y v l) : v.oneCell' = true := by obtain ⟨a, cap, rfl, -⟩ := h; rfl
theorem OwnP.gens {w : World} {v : Value} {ps : List Pen} (h : OwnP w v ps) (hw : ∀ p ∈ ps, p.Wf) (Y : List Nat) (hY : ∀ b, v.ownBlock = some b → b ∈ Y) : PensG w Y v ps := by
  rcases h.form with ⟨rfl, rfl⟩ | ⟨g, cap, cur, rfl, h1, h2, -⟩
  · exact PensG.nil w Y
  · refine ⟨_, cap, rfl, h2, fun _ => ⟨g, 0, rfl, hY g rfl, fun j hj i c hi => ?_⟩⟩
    have e := h.cell (j * 68 + i) c (flatQ_at hw j hj i c hi)
    rw [show 0 + j * 68 + i = j * 68 + i by omega]
    exact e
theorem PensG.pc {w : World} {Y : List Nat} {v : Value} {l : List Pen} (h : PensG w Y v l) (hw : ∀ p ∈ l, p.Wf) : Pc w 68 v l.length (flatQ l) := by
  obtain ⟨a, cap, rfl, -, h2⟩ := h
  refine ⟨flatQ_len hw, a, cap, rfl, fun hn => ?_⟩
  obtain ⟨b, off, rfl, -, h4⟩ := h2 (fun e => hn (by rw [e]; rfl))
  refine ⟨_, rfl, fun j u hj => ?_⟩
  rw [add_none]
  have hl : j < l.length * 68 := by
    have := (List.getElem?_eq_some_iff.1 hj).1
    rw [flatQ_len hw] at this
    exact this
  have hq : j / 68 < l.length := by omega
  have e : j = j / 68 * 68 + j % 68 := by omega
  have hp := getD_wf hw (j / 68) hq
  have hi : j % 68 < (penC (l.getD (j / 68) noPen)).length := by rw [penC_len hp]; omega
  have h5 := flatQ_at hw (j / 68) hq (j % 68) _ (List.getElem?_eq_getElem hi)
  rw [← e, hj] at h5
  have h6 := h4 (j / 68) hq (j % 68) u (by rw [List.getElem?_eq_getElem hi]; exact h5.symm)
  rw [show off + j / 68 * 68 + j % 68 = off + j by omega] at h6
  exact h6
structure RZ (w : World) (x bs br bv bt : Nat) (R : Rs) (ps : List RG) (vP : Value) (Y : List Nat) : Prop where
  inv : RInv R
  row : w.heap[x]? = some (.cells (refC R bs br bv bt vP).toArray 54)
  subs : w.heap[bs]? = some (.cells (ps.flatMap fS).toArray 34)
  reps : w.heap[br]? = some (.cells (ps.flatMap fR).toArray 45)
  views : w.heap[bv]? = some (.cells (ps.flatMap fV).toArray 9)
  tags : w.heap[bt]? = some (.cells (ps.flatMap fT).toArray 32)
  regs : ps.map (·.1) = R.regs.take R.n
  pens : PensG w Y vP R.pend
  all : ∀ q ∈ ps, PensG w Y q.2 q.1.ans.pend
  away : ∀ b ∈ Y, b ∉ [x, bs, br, bv, bt]
section
variable {w w' : World} {x bs br bv bt : Nat} {R : Rs} {ps : List RG} {vP : Value} {Y X : List Nat}
theorem RZ.len (h : RZ w x bs br bv bt R ps vP Y) : ps.length = R.n := by
  have e := congrArg List.length h.regs
  rw [List.length_map, List.length_take, h.inv.len, Nat.min_eq_left h.inv.n.2] at e
  exact e
theorem RZ.at (h : RZ w x bs br bv bt R ps vP Y) {c : Nat} (hc : c < ps.length) : (ps[c]).1 = R.reg (c : Int) := by
  have e : (ps.map (·.1))[c]? = (R.regs.take R.n)[c]? := by rw [h.regs]
  have hn : c < R.n := by rw [← h.len]; exact hc
  rw [List.getElem?_map, List.getElem?_eq_getElem hc, List.getElem?_take_of_lt hn] at e
  rw [reg_nat, List.getD_eq_getElem?_getD, ← e]
  rfl
theorem RZ.ok (h : RZ w x bs br bv bt R ps vP Y) : ∀ q ∈ ps, GOk q.1 := by
  intro q hq
  obtain ⟨c, hc, rfl⟩ := List.getElem_of_mem hq
  rw [h.at hc]
  exact h.inv.reg _
theorem RZ.kS (h : RZ w x bs br bv bt R ps vP Y) : ∀ q ∈ ps, (fS q).length = 68 := fun q hq => subC_len (h.ok q hq).asked
theorem RZ.kR (h : RZ w x bs br bv bt R ps vP Y) : ∀ q ∈ ps, (fR q).length = 103 := fun q hq => repC_len (h.ok q hq).ans _
theorem RZ.kV (_h : RZ w x bs br bv bt R ps vP Y) : ∀ q ∈ ps, (fV q).length = 1 := fun _ _ => rfl
theorem RZ.kT (h : RZ w x bs br bv bt R ps vP Y) : ∀ q ∈ ps, (fT q).length = 32 := fun q hq => by rw [fT, dg_len]; exact (h.ok q hq).tag
theorem RZ.sub (h : RZ w x bs br bv bt R ps vP Y) {c : Nat} (hc : c < R.n) : ∀ j v, (subC (R.reg (c : Int)).asked)[j]? = some v → w.cell? ⟨bs, c * 68 + j, none⟩ = some v := by
  have hc' : c < ps.length := by rw [h.len]; exact hc
  have e := fm_seg fS 68 ps h.kS h.subs c hc'
  rw [fS, h.at hc'] at e
  exact e
theorem RZ.rep (h : RZ w x bs br bv bt R ps vP Y) {c : Nat} (hc : c < R.n) : ∃ v, PensG w Y v (R.reg (c : Int)).ans.pend ∧ ∀ j u, (repC (R.reg (c : Int)).ans v)[j]? = some u → w.cell? ⟨br, c * 103 + j, none⟩ = some u := by
  have hc' : c < ps.length := by rw [h.len]; exact hc
  have e := fm_seg fR 103 ps h.kR h.reps c hc'
  have e2 := h.all _ (List.getElem_mem hc')
  rw [fR, h.at hc'] at e
  rw [h.at hc'] at e2
  exact ⟨_, e2, e⟩
theorem RZ.view (h : RZ w x bs br bv bt R ps vP Y) {c : Nat} (hc : c < R.n) : w.cell? ⟨bv, c, none⟩ = some (st (R.reg (c : Int)).view) := by
  have hc' : c < ps.length := by rw [h.len]; exact hc
  have e := fm_seg fV 1 ps h.kV h.views c hc' 0 _ rfl
  rw [h.at hc', Nat.mul_one, Nat.add_zero] at e
  exact e
theorem RZ.tag (h : RZ w x bs br bv bt R ps vP Y) {c : Nat} (hc : c < R.n) : ∀ j v, (dg (R.reg (c : Int)).tag)[j]? = some v → w.cell? ⟨bt, c * 32 + j, none⟩ = some v := by
  have hc' : c < ps.length := by rw [h.len]; exact hc
  have e := fm_seg fT 32 ps h.kT h.tags c hc'
  rw [fT, h.at hc'] at e
  exact e
theorem RZ.cS (h : RZ w x bs br bv bt R ps vP Y) : w.cell? ⟨x, 0, none⟩ = some (sl bs R.n) := row_cell (A := []) h.row rfl rfl
theorem RZ.cR (h : RZ w x bs br bv bt R ps vP Y) : w.cell? ⟨x, 1, none⟩ = some (sl br R.n) := row_cell (A := [sl bs R.n]) h.row rfl rfl
theorem RZ.cV (h : RZ w x bs br bv bt R ps vP Y) : w.cell? ⟨x, 2, none⟩ = some (sl bv R.n) := row_cell (A := [sl bs R.n, sl br R.n]) h.row rfl rfl
theorem RZ.cT (h : RZ w x bs br bv bt R ps vP Y) : w.cell? ⟨x, 3, none⟩ = some (sl bt R.n) := row_cell (A := [sl bs R.n, sl br R.n, sl bv R.n]) h.row rfl rfl
theorem RZ.cW (h : RZ w x bs br bv bt R ps vP Y) : w.cell? ⟨x, 4, none⟩ = some (nu R.who) := row_cell (A := [sl bs R.n, sl br R.n, sl bv R.n, sl bt R.n]) h.row rfl rfl
theorem RZ.cL (h : RZ w x bs br bv bt R ps vP Y) : w.cell? ⟨x, 5, none⟩ = some (st R.long) := row_cell (A := [sl bs R.n, sl br R.n, sl bv R.n, sl bt R.n, nu R.who]) h.row rfl rfl
theorem RZ.cG (h : RZ w x bs br bv bt R ps vP Y) : ∀ j v, (dg R.ltag)[j]? = some v → w.cell? ⟨x, 6 + j, none⟩ = some v := row_seg (A := [sl bs R.n, sl br R.n, sl bv R.n, sl bt R.n, nu R.who, st R.long]) (C := [vP]) h.row rfl rfl
theorem RZ.cP (h : RZ w x bs br bv bt R ps vP Y) : w.cell? ⟨x, 38, none⟩ = some vP := row_cell (A := [sl bs R.n, sl br R.n, sl bv R.n, sl bt R.n, nu R.who, st R.long] ++ dg R.ltag) (C := []) h.row (by simp [refC]) (by simp [dg_len, h.inv.ltag])
theorem RZ.kp (h : RZ w x bs br bv bt R ps vP Y) (hk : Kp X w w') (hX : ∀ b ∈ [x, bs, br, bv, bt] ++ Y, b ∉ X) : RZ w' x bs br bv bt R ps vP Y :=
  ⟨h.inv, hk.row h.row (hX _ (by simp)), hk.row h.subs (hX _ (by simp)), hk.row h.reps (hX _ (by simp)), hk.row h.views (hX _ (by simp)), hk.row h.tags (hX _ (by simp)), h.regs, h.pens.kp hk (fun b hb => hX b (by simp [hb])), fun q hq => (h.all q hq).kp hk (fun b hb => hX b (by simp [hb])), h.away⟩
theorem RZ.kept (h : RZ w x bs br bv bt R ps vP Y) (hb : Below w.heap.size w w') : RZ w' x bs br bv bt R ps vP Y := h.kp (X := []) (Kp.of hb) (fun _ _ => by simp)
theorem typ_ne {w : World} {a b : Nat} {c d : Array Value} {s t : TypeId} {f g : Nat × Nat} (h1 : w.heap[a]? = some (.cells c s f)) (h2 : w.heap[b]? = some (.cells d t g)) (h : s ≠ t) : a ≠ b := by
  rintro rfl
  rw [h1] at h2
  cases h2
  exact h rfl
end
def RY (w : World) (x : Nat) (G : List Nat) (R : Rs) : Prop := ∃ bs br bv bt ps vP Y, RZ w x bs br bv bt R ps vP Y ∧ (∀ b ∈ [x, bs, br, bv, bt] ++ Y, b ∈ G) ∧ ∀ b ∈ G, b < w.heap.size
theorem RY.kp {w w' : World} {x : Nat} {G X : List Nat} {R : Rs} (h : RY w x G R) (hk : Kp X w w') (hX : ∀ b ∈ G, b ∉ X) : RY w' x G R := by
  obtain ⟨bs, br, bv, bt, ps, vP, Y, h1, h2, h3⟩ := h
  exact ⟨bs, br, bv, bt, ps, vP, Y, h1.kp hk (fun b hb => hX b (h2 b hb)), h2, fun b hb => Nat.lt_of_lt_of_le (h3 b hb) hk.size⟩
theorem RY.kept {w w' : World} {x : Nat} {G : List Nat} {R : Rs} (h : RY w x G R) (hb : Below w.heap.size w w') : RY w' x G R := h.kp (X := []) (Kp.of hb) (fun _ _ => by simp)
theorem RY.inv {w : World} {x : Nat} {G : List Nat} {R : Rs} (h : RY w x G R) : RInv R := by
  obtain ⟨bs, br, bv, bt, ps, vP, Y, h1, -⟩ := h
  exact h1.inv
open Go Go.RowKit
set_option maxRecDepth 100000
def vG (S : List Nat) (sp : Nat → Value → World → Prop) (cs : List Value) (i : Nat) (v : Value) (w : World) : Prop := if i ∈ S then sp i v w else v = cs.getD i undef
section
variable {S : List Nat} {sp : Nat → Value → World → Prop} {cs : List Value} {i : Nat} {v : Value} {w : World}
theorem vG_c (h : vG S sp cs i v w) (hi : i ∉ S) : v = cs.getD i undef := by
  unfold vG at h
  rwa [if_neg hi] at h
theorem vG_s (h : vG S sp cs i v w) (hi : i ∈ S) : sp i v w := by
  unfold vG at h
  rwa [if_pos hi] at h
theorem mkC (hi : i ∉ S) (h : v = cs.getD i undef) : vG S sp cs i v w := by
  unfold vG
  rwa [if_neg hi]
theorem mkS (hi : i ∈ S) (h : sp i v w) : vG S sp cs i v w := by
  unfold vG
  rwa [if_pos hi]
theorem vG_mono (hsp : ∀ i v w w', sp i v w → Below w.heap.size w w' → sp i v w') : ∀ i v w w', vG S sp cs i v w → Below w.heap.size w w' → vG S sp cs i v w' := by
  intro i v w w' h hb
  unfold vG at h ⊢
  by_cases hi : i ∈ S
  · rw [if_pos hi] at h ⊢
    exact hsp i v w w' h hb
  · rw [if_neg hi] at h ⊢
    exact h
end
theorem fq25_0 (g off : Nat) (w : World) : (Instr.fieldAt 34 (.pointer (some ⟨g, off, none⟩)) 0).run Tryz.prog w = .ok (.pointer (some ⟨g, off + 0, none⟩)) w := by kernel_rfl
theorem fq25_1 (g off : Nat) (w : World) : (Instr.fieldAt 34 (.pointer (some ⟨g, off, none⟩)) 1).run Tryz.prog w = .ok (.pointer (some ⟨g, off + 1, none⟩)) w := by kernel_rfl
theorem fq25_2 (g off : Nat) (w : World) : (Instr.fieldAt 34 (.pointer (some ⟨g, off, none⟩)) 2).run Tryz.prog w = .ok (.pointer (some ⟨g, off + 2, none⟩)) w := by kernel_rfl
theorem fq25_4 (g off : Nat) (w : World) : (Instr.fieldAt 34 (.pointer (some ⟨g, off, none⟩)) 4).run Tryz.prog w = .ok (.pointer (some ⟨g, off + 4, none⟩)) w := by kernel_rfl
theorem fq70_4 (g off : Nat) (w : World) : (Instr.fieldAt 54 (.pointer (some ⟨g, off, none⟩)) 4).run Tryz.prog w = .ok (.pointer (some ⟨g, off + 4, none⟩)) w := by kernel_rfl
theorem fq70_5 (g off : Nat) (w : World) : (Instr.fieldAt 54 (.pointer (some ⟨g, off, none⟩)) 5).run Tryz.prog w = .ok (.pointer (some ⟨g, off + 5, none⟩)) w := by kernel_rfl
theorem fq70_6 (g off : Nat) (w : World) : (Instr.fieldAt 54 (.pointer (some ⟨g, off, none⟩)) 6).run Tryz.prog w = .ok (.pointer (some ⟨g, off + 6, none⟩)) w := by kernel_rfl
theorem fq70_7 (g off : Nat) (w : World) : (Instr.fieldAt 54 (.pointer (some ⟨g, off, none⟩)) 7).run Tryz.prog w = .ok (.pointer (some ⟨g, off + 38, none⟩)) w := by kernel_rfl
theorem fq48_1 (g off : Nat) (w : World) : (Instr.fieldAt 36 (.pointer (some ⟨g, off, none⟩)) 1).run Tryz.prog w = .ok (.pointer (some ⟨g, off + 1, none⟩)) w := by kernel_rfl
theorem fq48_2 (g off : Nat) (w : World) : (Instr.fieldAt 36 (.pointer (some ⟨g, off, none⟩)) 2).run Tryz.prog w = .ok (.pointer (some ⟨g, off + 2, none⟩)) w := by kernel_rfl
theorem fq48_3 (g off : Nat) (w : World) : (Instr.fieldAt 36 (.pointer (some ⟨g, off, none⟩)) 3).run Tryz.prog w = .ok (.pointer (some ⟨g, off + 70, none⟩)) w := by kernel_rfl
theorem fq48_4 (g off : Nat) (w : World) : (Instr.fieldAt 36 (.pointer (some ⟨g, off, none⟩)) 4).run Tryz.prog w = .ok (.pointer (some ⟨g, off + 71, none⟩)) w := by kernel_rfl
open Go Go.RowKit
set_option maxRecDepth 100000
theorem rep_at (L : List Value) (hL : 0 < L.length) : ∀ (n i : Nat), i < n * L.length → ((List.replicate n L).flatten)[i]? = L[i % L.length]?
  | 0, i, h => absurd h (by simp)
  | n + 1, i, h => by
    rw [List.replicate_succ, List.flatten_cons]
    by_cases hi : i < L.length
    · rw [List.getElem?_append_left hi, Nat.mod_eq_of_lt hi]
    · rw [List.getElem?_append_right (by omega), rep_at L hL n (i - L.length) (by rw [Nat.succ_mul] at h; omega), Nat.mod_eq_sub_mod (a := i) (by omega)]
theorem rep_len (L : List Value) : ∀ n : Nat, ((List.replicate n L).flatten).length = n * L.length
  | 0 => by simp
  | n + 1 => by rw [List.replicate_succ, List.flatten_cons, List.length_append, rep_len L n, Nat.succ_mul]; omega
theorem made_list (L : List Value) (hL : 0 < L.length) (n : Nat) : madeCells L.toArray (n * L.length) = ((List.replicate n L).flatten).toArray := by
  apply Array.ext_getElem?
  intro i
  by_cases hi : i < n * L.length
  · rw [Array.getElem?_eq_getElem (by rw [size_madeCells]; exact hi), List.getElem?_toArray, rep_at L hL n i hi]
    have hm : i % L.length < L.length := Nat.mod_lt _ hL
    simp only [madeCells, Array.getElem_map, Array.getElem_range]
    rw [List.getElem?_eq_getElem hm]
    simp [hm]
  · rw [Array.getElem?_eq_none (by rw [size_madeCells]; omega), List.getElem?_toArray, List.getElem?_eq_none (by rw [rep_len]; omega)]
open Go Go.RowKit
set_option maxRecDepth 100000
theorem fm_rep {α : Type} (f : α → List Value) (n : Nat) (a : α) : (List.replicate n a).flatMap f = (List.replicate n (f a)).flatten := by
  induction n with
  | zero => rfl
  | succ n ih => rw [List.replicate_succ, List.flatMap_cons, ih, List.replicate_succ, List.flatten_cons]
theorem infoSub : (Tryz.prog.info? 34).map (fun i => (i.zero, i.size, i.bytes)) = some (some (.agg (subC zeroS).toArray), 68, 104) := by kernel_rfl
theorem infoRep : (Tryz.prog.info? 45).map (fun i => (i.zero, i.size, i.bytes)) = some (some (.agg (repC zeroR (.slice none 0 0)).toArray), 103, 192) := by kernel_rfl
theorem infoDig : (Tryz.prog.info? 32).map (fun i => (i.zero, i.size, i.bytes)) = some (some (.agg (dg zeroD).toArray), 32, 32) := by kernel_rfl
theorem infoSt : (Tryz.prog.info? 9).map (fun i => (i.zero, i.size, i.bytes)) = some (some (st []), 1, 16) := by kernel_rfl
theorem make_row {T e : TypeId} {z : Value} {L : List Value} {k by' : Nat} (hT : Tryz.prog.underlying T = some (.slice e)) (hI : (Tryz.prog.info? e).map (fun i => (i.zero, i.size, i.bytes)) = some (some z, k, by')) (hz : z.cells = L.toArray) (hL : L.length = k) (hk : 0 < k ∧ k ≤ 1000) (hb : by' ≤ 1000) (n : Nat) (hn : n ≤ 8) (W : World) :
    (Instr.makeSlice T (.int .i64 (n : Int)) (.int .i64 (n : Int))).run Tryz.prog W = .ok (sl W.heap.size n) (W.alloc (.cells ((List.replicate n L).flatten).toArray e)) := by
  cases hi : Tryz.prog.info? e with
  | none => rw [hi] at hI; cases hI
  | some i =>
    rw [hi] at hI
    simp only [Option.map_some, Option.some.injEq, Prod.mk.injEq] at hI
    obtain ⟨hz0, hz1, hz2⟩ := hI
    have hnk : n * k ≤ 8 * 1000 := Nat.mul_le_mul hn hk.2
    have hnb : n * by' ≤ 8 * 1000 := Nat.mul_le_mul hn hb
    have h := run_makeSlice (P := Tryz.prog) W T e i _ hT hi hz0 .i64 .i64 n n (by omega) (by omega) (by rw [hz1, Int.toNat_natCast]; omega) (by rw [hz2, Int.mul_comm]; omega) (by omega)
    rw [hz1] at h
    simp only [Int.toNat_natCast] at h
    rw [hz, ← hL, made_list L (by omega) n] at h
    exact h
section
variable {w : World} {o : Oper} {a : Act} {Q : Exit → Act → World → Prop} {K : Act → World → Prop}
theorem op_make {T e : TypeId} {z : Value} {L : List Value} {k by' : Nat} (x : Tmp) (ho : o.op = .makeSlice T (.tmp x) (.tmp x)) (hT : Tryz.prog.underlying T = some (.slice e)) (hI : (Tryz.prog.info? e).map (fun i => (i.zero, i.size, i.bytes)) = some (some z, k, by')) (hz : z.cells = L.toArray) (hL : L.length = k) (hk : 0 < k ∧ k ≤ 1000) (hb : by' ≤ 1000) (n : Nat) (hn : n ≤ 8)
    (hx : a.tmps.getD x undef = nu (n : Int)) (h : K (a.put o.dst (sl w.heap.size n)) (w.alloc (.cells ((List.replicate n L).flatten).toArray e))) : o.wp Tryz.prog a w K Q := by
  have ex : a.eval (.tmp x) = nu (n : Int) := hx
  have hr := make_row hT hI hz hL hk hb n hn w
  unfold Oper.wp execOp
  simp only [ho, ex, Sem.run_bind, hr, Result.andThen_ok, Sem.run_pure]
  exact h
theorem op_box (T : TypeId) (x : Tmp) (cs : List Value) (ho : o.op = .box T (.tmp x)) (hx : a.tmps.getD x undef = .agg cs.toArray) (hr : ∀ w, (Instr.box T (.agg cs.toArray)).run Tryz.prog w = .ok (pt w.heap.size 0) (w.alloc (.cells cs.toArray T))) (h : K (a.put o.dst (pt w.heap.size 0)) (w.alloc (.cells cs.toArray T))) : o.wp Tryz.prog a w K Q := by
  have ex : a.eval (.tmp x) = .agg cs.toArray := hx
  unfold Oper.wp execOp
  simp only [ho, ex, Sem.run_bind, hr, Result.andThen_ok, Sem.run_pure]
  exact h
end
theorem build_ref (W : World) (n gs gr gv gt : Nat) : (Instr.build 54 #[(0, sl gs n), (1, sl gr n), (2, sl gv n), (3, sl gt n), (4, .int .i64 (-1))]).run Tryz.prog W = .ok (.agg (refC (newR n) gs gr gv gt (.slice none 0 0)).toArray) W := by kernel_rfl
def rowS (n : Nat) : List Value := (List.replicate n (subC zeroS)).flatten
def rowRp (n : Nat) : List Value := (List.replicate n (repC zeroR (.slice none 0 0))).flatten
def rowV (n : Nat) : List Value := (List.replicate n [st []]).flatten
def rowT (n : Nat) : List Value := (List.replicate n (dg zeroD)).flatten
def vN (B n : Nat) (i : Nat) (v : Value) (w : World) : Prop :=
  if i = 1 then ∃ g, v = sl g n ∧ B ≤ g ∧ w.heap[g]? = some (.cells (rowS n).toArray 34)
  else if i = 3 then ∃ g, v = sl g n ∧ B ≤ g ∧ w.heap[g]? = some (.cells (rowRp n).toArray 45)
  else if i = 5 then ∃ g, v = sl g n ∧ B ≤ g ∧ w.heap[g]? = some (.cells (rowV n).toArray 9)
  else if i = 7 then ∃ g, v = sl g n ∧ B ≤ g ∧ w.heap[g]? = some (.cells (rowT n).toArray 32)
  else ∃ gs gr gv gt, (if i = 8 then v = .agg (refC (newR n) gs gr gv gt (.slice none 0 0)).toArray else ∃ x, v = pt x 0 ∧ B ≤ x ∧ w.heap[x]? = some (.cells (refC (newR n) gs gr gv gt (.slice none 0 0)).toArray 54)) ∧
    (B ≤ gs ∧ w.heap[gs]? = some (.cells (rowS n).toArray 34)) ∧ (B ≤ gr ∧ w.heap[gr]? = some (.cells (rowRp n).toArray 45)) ∧ (B ≤ gv ∧ w.heap[gv]? = some (.cells (rowV n).toArray 9)) ∧ (B ≤ gt ∧ w.heap[gt]? = some (.cells (rowT n).toArray 32))
theorem vN_mono (B n : Nat) : ∀ i v w w', vN B n i v w → Below w.heap.size w w' → vN B n i v w' := by
  intro i v w w' h hb
  unfold vN at h ⊢
  split
  · rename_i e
    rw [if_pos e] at h
    obtain ⟨g, h1, h2, h3⟩ := h
    exact ⟨g, h1, h2, row_kept h3 hb⟩
  · rename_i e1
    rw [if_neg e1] at h
    split
    · rename_i e
      rw [if_pos e] at h
      obtain ⟨g, h1, h2, h3⟩ := h
      exact ⟨g, h1, h2, row_kept h3 hb⟩
    · rename_i e2
      rw [if_neg e2] at h
      split
      · rename_i e
        rw [if_pos e] at h
        obtain ⟨g, h1, h2, h3⟩ := h
        exact ⟨g, h1, h2, row_kept h3 hb⟩
      · rename_i e3
        rw [if_neg e3] at h
        split
        · rename_i e
          rw [if_pos e] at h
          obtain ⟨g, h1, h2, h3⟩ := h
          exact ⟨g, h1, h2, row_kept h3 hb⟩
        · rename_i e4
          rw [if_neg e4] at h
          obtain ⟨gs, gr, gv, gt, h0, h1, h2, h3, h4⟩ := h
          refine ⟨gs, gr, gv, gt, ?_, ⟨h1.1, row_kept h1.2 hb⟩, ⟨h2.1, row_kept h2.2 hb⟩, ⟨h3.1, row_kept h3.2 hb⟩, ⟨h4.1, row_kept h4.2 hb⟩⟩
          split
          · rename_i e
            rw [if_pos e] at h0
            exact h0
          · rename_i e
            rw [if_neg e] at h0
            obtain ⟨x, h5, h6, h7⟩ := h0
            exact ⟨x, h5, h6, row_kept h7 hb⟩
theorem zeroPs (n : Nat) (hn : n ≤ 8) : (List.replicate n (zeroG, Value.slice none 0 0)).map (·.1) = (newR n).regs.take (newR n).n := by
  show _ = (List.replicate 8 zeroG).take n
  rw [List.map_replicate, List.take_replicate, Nat.min_eq_left hn]
theorem new_rz {w : World} {n x gs gr gv gt : Nat} (hn : 2 ≤ n ∧ n ≤ 8) (hx : w.heap[x]? = some (.cells (refC (newR n) gs gr gv gt (.slice none 0 0)).toArray 54)) (h1 : w.heap[gs]? = some (.cells (rowS n).toArray 34)) (h2 : w.heap[gr]? = some (.cells (rowRp n).toArray 45)) (h3 : w.heap[gv]? = some (.cells (rowV n).toArray 9)) (h4 : w.heap[gt]? = some (.cells (rowT n).toArray 32)) :
    RZ w x gs gr gv gt (newR n) (List.replicate n (zeroG, Value.slice none 0 0)) (.slice none 0 0) [] :=
  ⟨RInv.new n hn, hx, by rw [fm_rep]; exact h1, by rw [fm_rep]; exact h2, by rw [fm_rep]; exact h3, by rw [fm_rep]; exact h4, zeroPs n hn.2, PensG.nil w [], fun q hq => by rw [List.eq_of_mem_replicate hq]; exact PensG.nil w [], fun b hb => by cases hb⟩
set_option maxHeartbeats 4000000 in
theorem r12new_any (w : World) (n : Nat) (hn : 2 ≤ n ∧ n ≤ 8) : Calls Tryz.prog 7 #[nu (n : Int)] w fun e w' => ∃ x G, e = .returned (pt x 0) ∧ RY w' x G (newR n) ∧ (∀ b ∈ G, w.heap.size ≤ b) ∧ Below w.heap.size w w' := by
  have hn8 := hn.2
  go_enter Tryz.func7, Tryz.ntmps7
  go_upto_region 1 with fail
  refine wp_region_grow (N := 13) 10 (vG [1, 3, 5, 7, 8, 9] (vN w.heap.size n) [nu (n : Int), undef, nu (n : Int), undef, nu (n : Int), undef, nu (n : Int)]) (by kernel_rfl) (by kernel_rfl) (by kernel_rfl) rfl (vG_mono (vN_mono w.heap.size n)) ?_ ?_
  · intro i o hi ho
    match i, ho with
    | 0, ho => cases ho; exact fun a w hB hk hD => op_move 0 _ rfl (hk 0 (by kernel_rfl)) ⟨_, rfl, mkC (by decide) rfl, Below.refl _ _⟩
    | 1, ho => cases ho; exact fun a w hB hk hD => op_make 3 rfl Tryz.underlying49 infoSub rfl (subC_len wfZeroS) ⟨by decide, by decide⟩ (by decide) n hn8 (vG_c (hD 0 3 (by kernel_rfl) (by kernel_rfl)) (by decide)) ⟨_, rfl, mkS (by decide) ⟨w.heap.size, rfl, hB.size, top_obj w _⟩, below_a1 _ _⟩
    | 2, ho => cases ho; exact fun a w hB hk hD => op_move 0 _ rfl (hk 0 (by kernel_rfl)) ⟨_, rfl, mkC (by decide) rfl, Below.refl _ _⟩
    | 3, ho => cases ho; exact fun a w hB hk hD => op_make 5 rfl Tryz.underlying50 infoRep rfl (repC_len wfZeroR _) ⟨by decide, by decide⟩ (by decide) n hn8 (vG_c (hD 2 5 (by kernel_rfl) (by kernel_rfl)) (by decide)) ⟨_, rfl, mkS (by decide) ⟨w.heap.size, rfl, hB.size, top_obj w _⟩, below_a1 _ _⟩
    | 4, ho => cases ho; exact fun a w hB hk hD => op_move 0 _ rfl (hk 0 (by kernel_rfl)) ⟨_, rfl, mkC (by decide) rfl, Below.refl _ _⟩
    | 5, ho => cases ho; exact fun a w hB hk hD => op_make 7 rfl Tryz.underlying51 infoSt rfl rfl ⟨by decide, by decide⟩ (by decide) n hn8 (vG_c (hD 4 7 (by kernel_rfl) (by kernel_rfl)) (by decide)) ⟨_, rfl, mkS (by decide) ⟨w.heap.size, rfl, hB.size, top_obj w _⟩, below_a1 _ _⟩
    | 6, ho => cases ho; exact fun a w hB hk hD => op_move 0 _ rfl (hk 0 (by kernel_rfl)) ⟨_, rfl, mkC (by decide) rfl, Below.refl _ _⟩
    | 7, ho => cases ho; exact fun a w hB hk hD => op_make 9 rfl Tryz.underlying52 infoDig rfl rfl ⟨by decide, by decide⟩ (by decide) n hn8 (vG_c (hD 6 9 (by kernel_rfl) (by kernel_rfl)) (by decide)) ⟨_, rfl, mkS (by decide) ⟨w.heap.size, rfl, hB.size, top_obj w _⟩, below_a1 _ _⟩
    | 8, ho =>
      cases ho
      intro a w hB hk hD
      obtain ⟨gs, e1, b1, r1⟩ := vG_s (hD 1 4 (by kernel_rfl) (by kernel_rfl)) (by decide)
      obtain ⟨gr, e2, b2, r2⟩ := vG_s (hD 3 6 (by kernel_rfl) (by kernel_rfl)) (by decide)
      obtain ⟨gv, e3, b3, r3⟩ := vG_s (hD 5 8 (by kernel_rfl) (by kernel_rfl)) (by decide)
      obtain ⟨gt, e4, b4, r4⟩ := vG_s (hD 7 10 (by kernel_rfl) (by kernel_rfl)) (by decide)
      have hb := build_ref w n gs gr gv gt
      rw [← e1, ← e2, ← e3, ← e4] at hb
      exact op_build _ _ rfl _ (by simp only [List.map_toArray, List.map_cons, List.map_nil]; exact hb) ⟨_, rfl, mkS (by decide) ⟨gs, gr, gv, gt, rfl, ⟨b1, r1⟩, ⟨b2, r2⟩, ⟨b3, r3⟩, ⟨b4, r4⟩⟩, Below.refl _ _⟩
    | 9, ho =>
      cases ho
      intro a w hB hk hD
      obtain ⟨gs, gr, gv, gt, e0, h1, h2, h3, h4⟩ := vG_s (hD 8 11 (by kernel_rfl) (by kernel_rfl)) (by decide)
      refine op_box _ 11 _ rfl e0 (fun W => rfl) ⟨_, rfl, mkS (by decide) ⟨gs, gr, gv, gt, ⟨w.heap.size, rfl, hB.size, top_obj w _⟩, ⟨h1.1, row_kept h1.2 (below_a1 _ _)⟩, ⟨h2.1, row_kept h2.2 (below_a1 _ _)⟩, ⟨h3.1, row_kept h3.2 (below_a1 _ _)⟩, ⟨h4.1, row_kept h4.2 (below_a1 _ _)⟩⟩, below_a1 _ _⟩
    | (i + 10), ho => omega
  · intro o a w' ho hB hs hd hk hv
    cases ho
    obtain ⟨gs, gr, gv, gt, ⟨x, e0, b0, r0⟩, h1, h2, h3, h4⟩ := vG_s (hv 9 12 (by omega) (by kernel_rfl)) (by decide)
    refine op_assign 12 _ rfl e0 ?_
    obtain ⟨tm, df⟩ := a
    obtain rfl : df = [] := hd
    have h5 : 2 < tm.size := by
      have : tm.size = 13 := hs
      omega
    have HZ := hid (new_rz hn r0 h1.2 h2.2 h3.2 h4.2)
    have HB := hid hB
    have HG : Hid (∀ b ∈ [x, gs, gr, gv, gt], w.heap.size ≤ b) := by
      intro b hb
      simp only [List.mem_cons, List.not_mem_nil, or_false] at hb
      rcases hb with rfl | rfl | rfl | rfl | rfl
      · exact b0
      · exact h1.1
      · exact h2.1
      · exact h3.1
      · exact h4.1
    have HL : Hid (∀ b ∈ [x, gs, gr, gv, gt], b < w'.heap.size) := by
      intro b hb
      simp only [List.mem_cons, List.not_mem_nil, or_false] at hb
      rcases hb with rfl | rfl | rfl | rfl | rfl
      · exact row_ltA r0
      · exact row_ltA h1.2
      · exact row_ltA h2.2
      · exact row_ltA h3.2
      · exact row_ltA h4.2
    clear hv hk hs r0 h1 h2 h3 h4 b0 hB
    go_wp2
    go_ret
    exact ⟨x, by simp [h5], [x, gs, gr, gv, gt], ⟨gs, gr, gv, gt, _, _, [], HZ.out, by simp, HL.out⟩, HG.out, HB.out⟩
set_option maxHeartbeats 2000000 in
theorem r12is_any {w : World} {x : Nat} {G : List Nat} {R : Rs} (h : RY w x G R) (c : Int) : Calls Tryz.prog 14 #[pt x 0, nu c] w fun e w' => e = .returned (.bool (hasB R.n c)) ∧ w' = w := by
  obtain ⟨bs, br, bv, bt, ps, vP, Y, hz, -⟩ := h
  have c1 := hz.cS
  unfold sl at c1
  unfold hasB
  clear hz
  by_cases h0 : 0 ≤ c
  · have d0 : decide (0 ≤ c) = true := decide_eq_true h0
    rw [d0, Bool.true_and]
    go_enter Tryz.func14, Tryz.ntmps14
    go_wp2
    go_ret
    exact ⟨rfl, rfl⟩
  · have d0 : decide (0 ≤ c) = false := decide_eq_false h0
    rw [d0, Bool.false_and]
    go_enter Tryz.func14, Tryz.ntmps14
    go_wp2
    go_ret
    exact ⟨rfl, rfl⟩
open Go Go.RowKit
set_option maxRecDepth 100000
theorem fm_same {α : Type} (f : α → List Value) (l : List α) (c : Nat) (h : c < l.length) (a : α) (e : f a = f l[c]) : (l.set c a).flatMap f = l.flatMap f := by
  rw [fm_set f l c a h, fm_split f l c h, e]
theorem map_set_take {R R' : Rs} {ps : List RG} {c : Nat} {g' : Reg} (v' : Value) (h : ps.map (·.1) = R.regs.take R.n) (e1 : R'.n = R.n) (e2 : R'.regs = R.regs.set c g') : (ps.set c (g', v')).map (·.1) = R'.regs.take R'.n := by
  rw [List.map_set, h, e1, e2, List.take_set]
def setG (R : Rs) (c : Nat) (g : Reg) : Rs := { R with regs := R.regs.set c g }
section
variable {w w' : World} {x bs br bv bt : Nat} {R : Rs} {ps : List RG} {vP : Value} {Y : List Nat}
theorem RZ.snd (h : RZ w x bs br bv bt R ps vP Y) {c : Nat} (hc : c < R.n) : ∃ u, ps[c]? = some (R.reg (c : Int), u) ∧ PensG w Y u (R.reg (c : Int)).ans.pend := by
  have hc' : c < ps.length := by rw [h.len]; exact hc
  refine ⟨(ps[c]).2, ?_, ?_⟩
  · rw [List.getElem?_eq_getElem hc', ← h.at hc']
  · have := h.all _ (List.getElem_mem hc')
    rwa [h.at hc'] at this
theorem RZ.open (h : RZ w x bs br bv bt R ps vP Y) {c : Nat} (hc : c < R.n) {u : Value} (hu : ps[c]? = some (R.reg (c : Int), u)) :
    (ps.flatMap fS = (ps.take c).flatMap fS ++ (subC (R.reg (c : Int)).asked ++ (ps.drop (c + 1)).flatMap fS)) ∧ (ps.flatMap fR = (ps.take c).flatMap fR ++ (repC (R.reg (c : Int)).ans u ++ (ps.drop (c + 1)).flatMap fR)) ∧
    (ps.flatMap fV = (ps.take c).flatMap fV ++ ([st (R.reg (c : Int)).view] ++ (ps.drop (c + 1)).flatMap fV)) ∧ (ps.flatMap fT = (ps.take c).flatMap fT ++ (dg (R.reg (c : Int)).tag ++ (ps.drop (c + 1)).flatMap fT)) := by
  have hc' : c < ps.length := by rw [h.len]; exact hc
  have e : ps[c] = (R.reg (c : Int), u) := by
    rw [List.getElem?_eq_getElem hc'] at hu
    exact Option.some.inj hu
  refine ⟨?_, ?_, ?_, ?_⟩
  · have := fm_split fS ps c hc'
    rwa [e] at this
  · have := fm_split fR ps c hc'
    rwa [e] at this
  · have := fm_split fV ps c hc'
    rwa [e] at this
  · have := fm_split fT ps c hc'
    rwa [e] at this
theorem RZ.nes (h : RZ w x bs br bv bt R ps vP Y) : x ≠ bs ∧ x ≠ br ∧ x ≠ bv ∧ x ≠ bt ∧ bs ≠ br ∧ bs ≠ bv ∧ bs ≠ bt ∧ br ≠ bv ∧ br ≠ bt ∧ bv ≠ bt :=
  ⟨typ_ne h.row h.subs (by decide), typ_ne h.row h.reps (by decide), typ_ne h.row h.views (by decide), typ_ne h.row h.tags (by decide), typ_ne h.subs h.reps (by decide), typ_ne h.subs h.views (by decide), typ_ne h.subs h.tags (by decide), typ_ne h.reps h.views (by decide), typ_ne h.reps h.tags (by decide), typ_ne h.views h.tags (by decide)⟩
theorem PensG.but {v : Value} {l : List Pen} {g : Nat} (h : PensG w Y v l) (hb : But g w w') (hg : g ∉ Y) : PensG w' Y v l := h.kp (X := [g]) ((Kp.refl _ _).but hb (Or.inl (by simp))) (fun b hb' hx => by rw [List.mem_singleton] at hx; subst hx; exact hg hb')
theorem mem_setC {α : Type} {l : List α} {c : Nat} {a q : α} (h : q ∈ l.set c a) : q ∈ l ∨ q = a := List.mem_or_eq_of_mem_set h
theorem RZ.putView (h : RZ w x bs br bv bt R ps vP Y) {c : Nat} (hc : c < R.n) {u : Value} (hu : ps[c]? = some (R.reg (c : Int), u)) (hp : PensG w Y u (R.reg (c : Int)).ans.pend) {v : List UInt8} (hv : RInv (setG R c { R.reg (c : Int) with view := v }))
    (hr : w'.heap[bv]? = some (.cells ((ps.take c).flatMap fV ++ ([st v] ++ (ps.drop (c + 1)).flatMap fV)).toArray 9)) (hb : But bv w w') :
    RZ w' x bs br bv bt (setG R c { R.reg (c : Int) with view := v }) (ps.set c ({ R.reg (c : Int) with view := v }, u)) vP Y := by
  have hc' : c < ps.length := by rw [h.len]; exact hc
  have e : ps[c] = (R.reg (c : Int), u) := by
    rw [List.getElem?_eq_getElem hc'] at hu
    exact Option.some.inj hu
  obtain ⟨-, -, n3, -, -, n6, -, n8, -, n10⟩ := h.nes
  have hY : bv ∉ Y := fun hy => h.away bv hy (by simp)
  refine ⟨hv, hb.row h.row n3, ?_, ?_, ?_, ?_, map_set_take u h.regs rfl rfl, h.pens.but hb hY, fun q hq => ?_, h.away⟩
  · rw [fm_same fS ps c hc' _ (by rw [e]; rfl)]
    exact hb.row h.subs n6
  · rw [fm_same fR ps c hc' _ (by rw [e]; rfl)]
    exact hb.row h.reps n8
  · rw [fm_set fV ps c _ hc']
    exact hr
  · rw [fm_same fT ps c hc' _ (by rw [e]; rfl)]
    exact hb.row h.tags n10.symm
  · rcases mem_setC hq with hq | rfl
    · exact (h.all q hq).but hb hY
    · exact hp.but hb hY
theorem RZ.putTag (h : RZ w x bs br bv bt R ps vP Y) {c : Nat} (hc : c < R.n) {u : Value} (hu : ps[c]? = some (R.reg (c : Int), u)) (hp : PensG w Y u (R.reg (c : Int)).ans.pend) {t : List UInt8} (hv : RInv (setG R c { R.reg (c : Int) with tag := t }))
    (hr : w'.heap[bt]? = some (.cells ((ps.take c).flatMap fT ++ (dg t ++ (ps.drop (c + 1)).flatMap fT)).toArray 32)) (hb : But bt w w') :
    RZ w' x bs br bv bt (setG R c { R.reg (c : Int) with tag := t }) (ps.set c ({ R.reg (c : Int) with tag := t }, u)) vP Y := by
  have hc' : c < ps.length := by rw [h.len]; exact hc
  have e : ps[c] = (R.reg (c : Int), u) := by
    rw [List.getElem?_eq_getElem hc'] at hu
    exact Option.some.inj hu
  obtain ⟨-, -, -, n4, -, -, n7, -, n9, n10⟩ := h.nes
  have hY : bt ∉ Y := fun hy => h.away bt hy (by simp)
  refine ⟨hv, hb.row h.row n4, ?_, ?_, ?_, ?_, map_set_take u h.regs rfl rfl, h.pens.but hb hY, fun q hq => ?_, h.away⟩
  · rw [fm_same fS ps c hc' _ (by rw [e]; rfl)]
    exact hb.row h.subs n7
  · rw [fm_same fR ps c hc' _ (by rw [e]; rfl)]
    exact hb.row h.reps n9
  · rw [fm_same fV ps c hc' _ (by rw [e]; rfl)]
    exact hb.row h.views n10
  · rw [fm_set fT ps c _ hc']
    exact hr
  · rcases mem_setC hq with hq | rfl
    · exact (h.all q hq).but hb hY
    · exact hp.but hb hY
theorem RZ.putSub (h : RZ w x bs br bv bt R ps vP Y) {c : Nat} (hc : c < R.n) {u : Value} (hu : ps[c]? = some (R.reg (c : Int), u)) (hp : PensG w Y u (R.reg (c : Int)).ans.pend) {s : Sub} (hv : RInv (setG R c { R.reg (c : Int) with asked := s }))
    (hr : w'.heap[bs]? = some (.cells ((ps.take c).flatMap fS ++ (subC s ++ (ps.drop (c + 1)).flatMap fS)).toArray 34)) (hb : But bs w w') :
    RZ w' x bs br bv bt (setG R c { R.reg (c : Int) with asked := s }) (ps.set c ({ R.reg (c : Int) with asked := s }, u)) vP Y := by
  have hc' : c < ps.length := by rw [h.len]; exact hc
  have e : ps[c] = (R.reg (c : Int), u) := by
    rw [List.getElem?_eq_getElem hc'] at hu
    exact Option.some.inj hu
  obtain ⟨n1, -, -, -, n5, n6, n7, -, -, -⟩ := h.nes
  have hY : bs ∉ Y := fun hy => h.away bs hy (by simp)
  refine ⟨hv, hb.row h.row n1, ?_, ?_, ?_, ?_, map_set_take u h.regs rfl rfl, h.pens.but hb hY, fun q hq => ?_, h.away⟩
  · rw [fm_set fS ps c _ hc']
    exact hr
  · rw [fm_same fR ps c hc' _ (by rw [e]; rfl)]
    exact hb.row h.reps n5.symm
  · rw [fm_same fV ps c hc' _ (by rw [e]; rfl)]
    exact hb.row h.views n6.symm
  · rw [fm_same fT ps c hc' _ (by rw [e]; rfl)]
    exact hb.row h.tags n7.symm
  · rcases mem_setC hq with hq | rfl
    · exact (h.all q hq).but hb hY
    · exact hp.but hb hY
theorem RZ.putRep (h : RZ w x bs br bv bt R ps vP Y) {c : Nat} (hc : c < R.n) {u : Value} (hu : ps[c]? = some (R.reg (c : Int), u)) {y : Rep} {u' : Value} (hp : PensG w Y u' y.pend) (hv : RInv (setG R c { R.reg (c : Int) with ans := y }))
    (hr : w'.heap[br]? = some (.cells ((ps.take c).flatMap fR ++ (repC y u' ++ (ps.drop (c + 1)).flatMap fR)).toArray 45)) (hb : But br w w') :
    RZ w' x bs br bv bt (setG R c { R.reg (c : Int) with ans := y }) (ps.set c ({ R.reg (c : Int) with ans := y }, u')) vP Y := by
  have hc' : c < ps.length := by rw [h.len]; exact hc
  have e : ps[c] = (R.reg (c : Int), u) := by
    rw [List.getElem?_eq_getElem hc'] at hu
    exact Option.some.inj hu
  obtain ⟨-, n2, -, -, n5, -, -, n8, n9, -⟩ := h.nes
  have hY : br ∉ Y := fun hy => h.away br hy (by simp)
  refine ⟨hv, hb.row h.row n2, ?_, ?_, ?_, ?_, map_set_take u' h.regs rfl rfl, h.pens.but hb hY, fun q hq => ?_, h.away⟩
  · rw [fm_same fS ps c hc' _ (by rw [e]; rfl)]
    exact hb.row h.subs n5
  · rw [fm_set fR ps c _ hc']
    exact hr
  · rw [fm_same fV ps c hc' _ (by rw [e]; rfl)]
    exact hb.row h.views n8.symm
  · rw [fm_same fT ps c hc' _ (by rw [e]; rfl)]
    exact hb.row h.tags n9.symm
  · rcases mem_setC hq with hq | rfl
    · exact (h.all q hq).but hb hY
    · exact hp.but hb hY
theorem RZ.more (h : RZ w x bs br bv bt R ps vP Y) {Y' : List Nat} (hY : ∀ b ∈ Y, b ∈ Y') (ha : ∀ b ∈ Y', b ∉ [x, bs, br, bv, bt]) : RZ w x bs br bv bt R ps vP Y' := ⟨h.inv, h.row, h.subs, h.reps, h.views, h.tags, h.regs, h.pens.more hY, fun q hq => (h.all q hq).more hY, ha⟩
end
theorem ref_pend (R : Rs) (bs br bv bt : Nat) (vP : Value) : refC R bs br bv bt vP = ([sl bs R.n, sl br R.n, sl bv R.n, sl bt R.n, nu R.who, st R.long] ++ dg R.ltag) ++ ([vP] ++ []) := by simp [refC]
theorem setG_reg {R : Rs} (h : RInv R) {c : Nat} (hc : c < R.n) (g : Reg) : (setG R c g).reg (c : Int) = g := by
  rw [reg_nat]
  have h8 := h.n
  exact getD_set_same R.regs c g zeroG (by rw [h.len]; omega)
theorem setG_two (R : Rs) (c : Nat) (g g' : Reg) : setG (setG R c g) c g' = setG R c g' := by
  unfold setG
  simp [List.set_set]
end Go.Proofs.YtoneoocihfjfgaaGreatDoor.Ms
