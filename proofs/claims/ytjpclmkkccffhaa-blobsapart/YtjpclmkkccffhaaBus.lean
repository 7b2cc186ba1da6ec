/-
  What a store tells: which blobs may be, how many and how many bytes an owner has, whether there is room.
-/
import Derived.Test.YtjpclmkkccffhaaBst
namespace Go.Proofs.Ytjpclmkkccffhaa.Bl
open Go Go.RowKit Go.Maps
set_option maxRecDepth 100000

/-! ### Blobs back from an entry -/
def unB : Value × Value → Blo
  | (_, .agg cs) => match cs.toList with
    | .int _ o :: .int _ n :: .string s :: rest => ⟨o, n, s.data.toList, rest.map fun v => match v with | .int _ x => UInt8.ofNat x.toNat | _ => 0⟩
    | _ => ⟨0, 0, [], []⟩
  | _ => ⟨0, 0, [], []⟩
theorem un_kv (b : Blo) : unB (kvB b) = b := by
  obtain ⟨o, n, c, t⟩ := b
  simp only [unB, kvB, bloC, List.cons_append, List.nil_append]
  congr 1
  simp only [dg, List.map_map]
  conv => rhs; rw [← List.map_id t]
  apply List.map_congr_left
  intro x _
  simp [bv]
theorem un_map (l : List Blo) : (l.map kvB).map unB = l := by
  rw [List.map_map]
  conv => rhs; rw [← List.map_id l]
  apply List.map_congr_left
  intro x _
  exact un_kv x
/-- A range over a store's map: what has come, and what is still to come. -/
def RB (w : World) (m r : Nat) (L dn left : List Blo) : Prop := ∃ D E, RAt w m r (L.map kvB) D E ∧ D.map unB = dn ∧ E.map unB = left
section
variable {w w' : World} {m r : Nat} {L dn left : List Blo}
theorem RB.perm (h : RB w m r L dn left) : (dn ++ left).Perm L := by
  obtain ⟨D, E, h1, rfl, rfl⟩ := h
  have := h1.2.1.map unB
  rw [un_map, List.map_append] at this
  exact this
theorem RB.kept (h : RB w m r L dn left) (hk : Below w.heap.size w w') : RB w' m r L dn left := by
  obtain ⟨D, E, h1, h2⟩ := h
  exact ⟨D, E, h1.kept hk, h2⟩
theorem RB.left_eq (h : RB w m r L dn left) : w.rangeLeft m r = left.length := by
  obtain ⟨D, E, h1, -, rfl⟩ := h
  obtain ⟨hne, hp, es, clock, seen, since, c0, hb, hM, hs, hn, hr, hold, hsc, hsk, hl⟩ := h1
  unfold World.rangeLeft
  rw [hr, hb, ← hl]
  simp
theorem RB.map (h : RB w m r L dn left) : MapAt w m (L.map kvB) := by
  obtain ⟨D, E, h1, -⟩ := h
  exact h1.map
theorem RB.lt (h : RB w m r L dn left) : m < w.heap.size ∧ r < w.heap.size ∧ r ≠ m := by
  obtain ⟨D, E, h1, -⟩ := h
  exact ⟨h1.lt.1, h1.lt.2, h1.1⟩
end
section
variable {P : Program} {w : World} {ops : Array Oper} {rest : List Oper} {o : Oper} {a : Act} {Q : Exit → Act → World → Prop} {t k e : TypeId} {m r : Nat} {L dn left : List Blo}
theorem wl_rangeB (hg : o.guard = none) (x : Operand) (hop : o.op = Op.range t x) (ht : P.underlying t = some (.map k e)) (hm : a.eval x = .map (some m)) (h : MapAt w m (L.map kvB))
    (hK : ∀ w', RB w' m w.heap.size L [] L → Below w.heap.size w w' → wpList P ops Q rest (a.put o.dst (ptr w.heap.size 0)) w') : wpList P ops Q (o :: rest) a w :=
  wl_range hg x hop ht hm h (fun w' h1 h2 => hK w' ⟨_, _, h1, rfl, un_map L⟩ h2)
theorem wl_nextB (hg : o.guard = none) (it : Operand) (hop : o.op = Op.next it false) (hit : a.eval it = ptr r 0) (h : RB w m r L dn left)
    (hDone : left = [] → wpList P ops Q rest (a.put o.dst (.tuple #[.bool false])) w)
    (hMore : ∀ x left' w', x ∈ L → (x :: left').Perm left → RB w' m r L (dn ++ [x]) left' → Kp [r] w w' → w'.heap.size = w.heap.size → (Instr.entry (ptr r 0)).run P w' = .ok (.tuple #[pk x.owner x.number, .agg (bloC x).toArray]) w' → wpList P ops Q rest (a.put o.dst (.tuple #[.bool true, pk x.owner x.number, .agg (bloC x).toArray])) w') :
    wpList P ops Q (o :: rest) a w := by
  obtain ⟨D, E, h1, h2, h3⟩ := h
  refine wl_next hg it hop hit h1 (fun e0 => hDone (by rw [← h3, e0]; rfl)) (fun kx vx left' w' hp hR hk hs he => ?_)
  have hmem : (kx, vx) ∈ L.map kvB := h1.2.1.mem_iff.1 (List.mem_append_right D (hp.mem_iff.1 (by simp)))
  obtain ⟨x, hx, e1⟩ := List.mem_map.1 hmem
  have ek : kx = pk x.owner x.number := (congrArg Prod.fst e1).symm
  have ev : vx = .agg (bloC x).toArray := (congrArg Prod.snd e1).symm
  have e2 : unB (kx, vx) = x := by rw [← e1, un_kv]
  subst ek
  subst ev
  refine hMore x (left'.map unB) w' hx ?_ ⟨_, _, hR, ?_, rfl⟩ hk hs he
  · have := hp.map unB
    rw [h3, List.map_cons, e2] at this
    exact this
  · rw [List.map_append, h2]
    simp [e2]
end
theorem cnt_snoc (dn : List Blo) (x : Blo) (o : Int) : cntO (dn ++ [x]) o = cntO dn o + (if x.owner = o then 1 else 0) := by
  unfold cntO
  rw [own_app, own_one]
  by_cases h : x.owner = o <;> simp [h]
theorem byt_snoc (dn : List Blo) (x : Blo) (o : Int) : bytO (dn ++ [x]) o = bytO dn o + (if x.owner = o then x.cipher.length else 0) := by
  unfold bytO
  rw [own_app, own_one]
  by_cases h : x.owner = o <;> simp [h]
theorem nums_snoc (dn : List Blo) (x : Blo) (o : Int) : numsO (dn ++ [x]) o = numsO dn o ++ (if x.owner = o then [x.number] else []) := by
  unfold numsO
  rw [own_app, own_one]
  by_cases h : x.owner = o <;> simp [h]
theorem cnt_perm {l l' : List Blo} (h : l.Perm l') (o : Int) : cntO l o = cntO l' o := (h.filter _).length_eq
theorem byt_perm {l l' : List Blo} (h : l.Perm l') (o : Int) : bytO l o = bytO l' o := ((h.filter _).map _).sum_nat
theorem nums_perm {l l' : List Blo} (h : l.Perm l') (o : Int) : (numsO l o).Perm (numsO l' o) := (h.filter _).map _
theorem cnt_le {dn left L : List Blo} (h : (dn ++ left).Perm L) (hI : Inv L) (o : Int) : cntO dn o ≤ 256 ∧ bytO dn o ≤ 32768 := by
  have h1 := cnt_perm h o
  have h2 := byt_perm h o
  have h3 := hI.cnt o
  have h4 := hI.byt o
  unfold cntO at *
  unfold bytO at *
  rw [own_app] at h1 h2
  simp only [List.length_append, List.map_append, List.sum_append_nat] at h1 h2
  omega
theorem zeroPl : (Try.prog.info? 57).map (·.zero) = some (some (.agg #[nu 0, nu 0])) := by kernel_rfl
theorem sizePl : (Try.prog.info? 57).map (·.size) = some 2 := by kernel_rfl
def zeroB : Blo := ⟨0, 0, [], List.replicate 32 0⟩
theorem zeroB_wf : zeroB.Wf := rfl
theorem zeroBl : (Try.prog.info? 33).map (·.zero) = some (some (.agg (bloC zeroB).toArray)) := by kernel_rfl
theorem sizeOf_blo {b : Blo} (h : b.Wf) : (Try.prog.info? 33).map (·.size) = some (bloC b).length := by rw [bloC_len h]; exact sizeBlo
section
variable {w w' : World} {g : Nat} {b : Blo} {t : TypeId}
theorem brow_o (h : w.heap[g]? = some (.cells (bloC b).toArray t)) : w.cell? ⟨g, 0, none⟩ = some (nu b.owner) := row_cell (A := []) (C := [nu b.number, st b.cipher] ++ dg b.tag) h (by simp [bloC]) rfl
theorem brow_n (h : w.heap[g]? = some (.cells (bloC b).toArray t)) : w.cell? ⟨g, 1, none⟩ = some (nu b.number) := row_cell (A := [nu b.owner]) (C := [st b.cipher] ++ dg b.tag) h (by simp [bloC]) rfl
theorem brow_c (h : w.heap[g]? = some (.cells (bloC b).toArray t)) : w.cell? ⟨g, 2, none⟩ = some (st b.cipher) := row_cell (A := [nu b.owner, nu b.number]) (C := dg b.tag) h (by simp [bloC]) rfl
theorem brow_all (h : w.heap[g]? = some (.cells (bloC b).toArray t)) : ∀ j v, (bloC b)[j]? = some v → w.cell? ⟨g, 0 + j, none⟩ = some v := row_seg (A := []) (C := []) h (by simp) rfl
end

theorem ne_of_size {a b : Nat} (h : b = a + 1) : b ∉ [a] := by simp; omega
theorem ne_of_size' {a b : Nat} (h : b = a + 1) : a ∉ [b] := by simp; omega
section
variable {P : Program} {ops : Array Oper} {rest : List Oper} {o : Oper} {a : Act} {w : World} {Q : Exit → Act → World → Prop}
/-- A new struct, a store of a whole struct, a comparison of two: each with what it leaves. -/
theorem wl_allocK (ty : TypeId) (ho : o.op = .alloc ty) (hw : Region.wanted o (yielded ops a.tmps) = true) (z : Array Value) (hi : (P.info? ty).map (·.zero) = some (some (.agg z)))
    (h : ∀ w1, w1.heap[w.heap.size]? = some (.cells z ty) → Below w.heap.size w w1 → w1.heap.size = w.heap.size + 1 → wpList P ops Q rest (a.put o.dst (ptr w.heap.size 0)) w1) : wpList P ops Q (o :: rest) a w :=
  wl_alloc ty ho hw z hi (h _ (top_obj _ _) (below_a1 _ _) (by simp))
theorem wl_putK (ty : TypeId) (x y : Operand) (ho : o.op = .store ty x y) (hn : o.dst = none) (g : Nat) (hx : a.eval x = ptr g 0) (hw : Region.wanted o (yielded ops a.tmps) = true)
    (cs old : List Value) (hy : a.eval y = .agg cs.toArray) (t : TypeId) (hg : w.heap[g]? = some (.cells old.toArray t)) (hold : old.length = cs.length) (h1 : ∀ v ∈ cs, v.oneCell' = true) (hi : (P.info? ty).map (·.size) = some cs.length)
    (h : ∀ w1, w1.heap[g]? = some (.cells cs.toArray t) → Kp [g] w w1 → w1.heap.size = w.heap.size → wpList P ops Q rest a w1) : wpList P ops Q (o :: rest) a w := by
  refine wl_store ty x y ho hn g 0 hx hw [] cs old [] hy t (by simpa using hg) rfl hold h1 hi ?_
  simp only [List.nil_append, List.append_nil]
  exact h _ (setRow_heap w g _ _ t (0, 0) hg) ((Kp.refl _ _).setRow g _ (Or.inl (by simp))) (by simp)
theorem wl_eql (hw : Region.wanted o (yielded ops a.tmps) = true) (ty rt : TypeId) (x y : Operand) (ho : o.op = .binOp .eql ty x y rt)
    (X Y : Array Value) (hx : a.eval x = .agg X) (hy : a.eval y = .agg Y) (hgt : P.eqGuardType P.depth ty = false) (B : Bool) (he : ∀ w, (Op.equalIn 10000 ty (.agg X) (.agg Y)).run P w = .ok B w)
    (h : wpList P ops Q rest (a.put o.dst (.bool B)) w) : wpList P ops Q (o :: rest) a w := by
  refine BigFrame.wpList_want hw fun K hK => ?_
  have h' := hK _ _ h
  have hq : ∀ w, (Op.equal ty (.agg X) (.agg Y)).run P w = .ok B w := he
  unfold Oper.wp execOp
  simp [ho, hx, hy, eqGuard, binOp, Sem.run_bind, hgt, hq]
  exact h'
theorem wl_neq (hw : Region.wanted o (yielded ops a.tmps) = true) (ty rt : TypeId) (x y : Operand) (ho : o.op = .binOp .neq ty x y rt)
    (X Y : Array Value) (hx : a.eval x = .agg X) (hy : a.eval y = .agg Y) (hgt : P.eqGuardType P.depth ty = false) (B : Bool) (he : ∀ w, (Op.equalIn 10000 ty (.agg X) (.agg Y)).run P w = .ok B w)
    (h : wpList P ops Q rest (a.put o.dst (.bool (!B))) w) : wpList P ops Q (o :: rest) a w := by
  refine BigFrame.wpList_want hw fun K hK => ?_
  have h' := hK _ _ h
  have hq : ∀ w, (Op.equal ty (.agg X) (.agg Y)).run P w = .ok B w := he
  unfold Oper.wp execOp
  simp [ho, hx, hy, eqGuard, binOp, Sem.run_bind, hgt, hq]
  exact h'
end
theorem one_pk (o n : Int) : ∀ v ∈ [nu o, nu n], v.oneCell' = true := by simp [Value.oneCell']
theorem prow_o {w : World} {g : Nat} {o n : Int} {t : TypeId} (h : w.heap[g]? = some (.cells [nu o, nu n].toArray t)) : w.cell? ⟨g, 0, none⟩ = some (nu o) ∧ w.cell? ⟨g, 1, none⟩ = some (nu n) := by
  rw [cell_of_row _ _ _ _ _ _ h, cell_of_row _ _ _ _ _ _ h]
  exact ⟨rfl, rfl⟩

set_option maxHeartbeats 2000000 in
theorem used_any {w : World} {s m : Nat} {L : List Blo} (h : StAt w s m L) (o : Int) : Calls Try.prog 16 #[ptr s 0, nu o] w fun e w' =>
    e = .returned (.tuple #[nu (cntO L o), nu (bytO L o)]) ∧ Below w.heap.size w w' := by
  have H := hid h
  have HM := hid (made_any h)
  have c0 := h.cell
  clear h
  go_enter Try.func16, Try.ntmps16
  go_wp2_with (first
    | (go_at_call 21; refine HM.out.mono ?_; rintro e w1 ⟨rfl, hw1⟩; subst w1)
    | (at_range; refine wl_rangeB rfl _ rfl Try.underlying59 rfl H.out.map ?_; intro w0 hR0 hB0))
  go_frame
  have HR0 := hid hR0
  have HB0 := hid hB0
  clear hR0 hB0
  go_loopw [6, 7] (fun c n wr => ∃ dn left, Hid (RB wr m w.heap.size L dn left) ∧ c = nu (cntO dn o) ∧ n = nu (bytO dn o) ∧ Hid (Below w.heap.size w wr)) (fun _ _ wr => wr.rangeLeft m w.heap.size)
  case atStart => exact ⟨[], L, HR0, rfl, rfl, HB0⟩
  case round =>
    obtain ⟨dn, left, HR, rfl, rfl, HB⟩ := hrel
    have hcl := cnt_le HR.out.perm H.out.inv o
    go_wp2_with (at_next; refine wl_nextB rfl _ rfl rfl HR.out ?_ ?_)
    · intro hl
      have hP := HR.out.perm
      rw [hl, List.append_nil] at hP
      go_wp2
      go_ret2
      exact ⟨by rw [cnt_perm hP, byt_perm hP]; rfl, HB.out⟩
    · intro x left' w1 hx hp hR hk hs hen
      have hw1 : Hid (Below w.heap.size w w1) := HB.out.trans (hk.below (by simp) HB.out.size)
      have HR1 := hid hR
      have hxw : x.Wf := (H.out.inv.ok x hx).2
      have hcl1 := cnt_le HR1.out.perm H.out.inv o
      rw [cnt_snoc, byt_snoc] at hcl1
      have hlen := hp.length_eq
      have HM1 : Hid (w1.rangeLeft m w.heap.size < wr.rangeLeft m w.heap.size) := by
        show _ < _
        rw [HR1.out.left_eq, HR.out.left_eq, ← hlen]
        simp
      have HS := hid hs
      clear hR hk HM HR0 HB0 hlen hp hs
      have hsz : (⟨x.cipher.toArray⟩ : ByteArray).size = x.cipher.length := rfl
      by_cases hxo : x.owner = o
      · have d1 : (x.owner == o) = true := by simp [hxo]
        rw [if_pos hxo, if_pos hxo] at hcl1
        have HC : Hid (cntO (dn ++ [x]) o = cntO dn o + 1 ∧ bytO (dn ++ [x]) o = bytO dn o + x.cipher.length) := by
          show _ ∧ _
          rw [cnt_snoc, byt_snoc, if_pos hxo, if_pos hxo]
          exact ⟨rfl, rfl⟩
        clear hxo
        go_wp2_with (first
          | ((with_reducible refine wl_allocK 57 ?_ ?_ #[nu 0, nu 0] zeroPl ?_); exact rfl; exact rfl; intro W2 r2 b2 s2; have R2 := hid r2; have B2 := hid b2; have S2 := hid s2; clear r2 b2 s2)
          | ((with_reducible refine wl_allocK 33 ?_ ?_ (bloC zeroB).toArray zeroBl ?_); exact rfl; exact rfl; intro W3 r3 b3 s3; have R3 := hid r3; have B3 := hid b3; have S3 := hid s3; clear r3 b3 s3)
          | ((with_reducible refine wl_putK 57 (.tmp 8) (.tmp 21) ?_ ?_ w1.heap.size ?_ ?_ [nu x.owner, nu x.number] [nu 0, nu 0] ?_ 57 (row_kept R2.out B3.out) ?_ (one_pk _ _) ?_ ?_); exact rfl; exact rfl; exact rfl; exact rfl; exact rfl; exact rfl; exact sizePl; intro W4 r4 k4 s4; have R4 := hid r4; have K4 := hid k4; have S4 := hid s4; clear r4 k4 s4)
          | ((with_reducible refine wl_putK 33 (.tmp 9) (.tmp 22) ?_ ?_ W2.heap.size ?_ ?_ (bloC x) (bloC zeroB) ?_ 33 (K4.out.row R3.out (ne_of_size S2.out)) ((bloC_len zeroB_wf).trans (bloC_len hxw).symm) (one_blo x) (sizeOf_blo hxw) ?_); exact rfl; exact rfl; exact rfl; exact rfl; exact rfl; intro W5 r5 k5 s5; have R5 := hid r5; have K5 := hid k5; have c8 := (prow_o (k5.row R4.out (ne_of_size' S2.out))).1; have c9 := brow_c r5; clear r5 k5 s5))
        have hB5 : Below w1.heap.size w1 W5 := B2.out.trans ((B3.out.mono B2.out.size).trans ((K4.out.below (by simp) (by have := B2.out.size; have := B3.out.size; omega)).trans (K5.out.below (by simp; exact B2.out.size) (by have := B2.out.size; have := B3.out.size; have := K4.out.size; omega))))
        have HR5 := hid (HR1.out.kept hB5)
        have HB5 := hid hB5
        clear hB5
        go_roundw
        case rel => exact ⟨dn ++ [x], left', HR5, by rw [HC.out.1]; go_num, by rw [HC.out.2]; go_num, hw1.out.trans (HB5.out.mono hw1.out.size)⟩
        case measure =>
          have h1 := HM1.out
          rw [HR1.out.left_eq] at h1
          rw [HR5.out.left_eq]
          exact h1
      · have d1 : (x.owner == o) = false := by simp [hxo]
        have HC : Hid (cntO (dn ++ [x]) o = cntO dn o ∧ bytO (dn ++ [x]) o = bytO dn o) := by
          show _ ∧ _
          rw [cnt_snoc, byt_snoc, if_neg hxo, if_neg hxo]
          exact ⟨rfl, rfl⟩
        clear hxo hcl1
        go_wp2_with (first
          | ((with_reducible refine wl_allocK 57 ?_ ?_ #[nu 0, nu 0] zeroPl ?_); exact rfl; exact rfl; intro W2 r2 b2 s2; have R2 := hid r2; have B2 := hid b2; have S2 := hid s2; clear r2 b2 s2)
          | ((with_reducible refine wl_allocK 33 ?_ ?_ (bloC zeroB).toArray zeroBl ?_); exact rfl; exact rfl; intro W3 r3 b3 s3; have R3 := hid r3; have B3 := hid b3; have S3 := hid s3; clear r3 b3 s3)
          | ((with_reducible refine wl_putK 57 (.tmp 8) (.tmp 21) ?_ ?_ w1.heap.size ?_ ?_ [nu x.owner, nu x.number] [nu 0, nu 0] ?_ 57 (row_kept R2.out B3.out) ?_ (one_pk _ _) ?_ ?_); exact rfl; exact rfl; exact rfl; exact rfl; exact rfl; exact rfl; exact sizePl; intro W4 r4 k4 s4; have R4 := hid r4; have K4 := hid k4; have S4 := hid s4; clear r4 k4 s4)
          | ((with_reducible refine wl_putK 33 (.tmp 9) (.tmp 22) ?_ ?_ W2.heap.size ?_ ?_ (bloC x) (bloC zeroB) ?_ 33 (K4.out.row R3.out (ne_of_size S2.out)) ((bloC_len zeroB_wf).trans (bloC_len hxw).symm) (one_blo x) (sizeOf_blo hxw) ?_); exact rfl; exact rfl; exact rfl; exact rfl; exact rfl; intro W5 r5 k5 s5; have R5 := hid r5; have K5 := hid k5; have c8 := (prow_o (k5.row R4.out (ne_of_size' S2.out))).1; clear r5 k5 s5))
        have hB5 : Below w1.heap.size w1 W5 := B2.out.trans ((B3.out.mono B2.out.size).trans ((K4.out.below (by simp) (by have := B2.out.size; have := B3.out.size; omega)).trans (K5.out.below (by simp; exact B2.out.size) (by have := B2.out.size; have := B3.out.size; have := K4.out.size; omega))))
        have HR5 := hid (HR1.out.kept hB5)
        have HB5 := hid hB5
        clear hB5
        go_roundw
        case rel => exact ⟨dn ++ [x], left', HR5, by rw [HC.out.1], by rw [HC.out.2], hw1.out.trans (HB5.out.mono hw1.out.size)⟩
        case measure =>
          have h1 := HM1.out
          rw [HR1.out.left_eq] at h1
          rw [HR5.out.left_eq]
          exact h1

theorem used_nil (w : World) (o : Int) : Calls Try.prog 16 #[.pointer none, nu o] w fun e w' => e = .returned (.tuple #[nu 0, nu 0]) ∧ w' = w := by
  have HM := hid (made_nil w)
  go_enter Try.func16, Try.ntmps16
  go_wp2_with (go_at_call 21; refine HM.out.mono ?_; rintro e w1 ⟨rfl, hw1⟩; subst w1)
  go_ret2
  exact ⟨rfl, rfl⟩

set_option maxHeartbeats 2000000 in
theorem may_any (b : Blo) (w : World) : Calls Try.prog 22 #[.agg (bloC b).toArray] w fun e w' => e = .returned (.bool (mayB b)) ∧ Below w.heap.size w w' := by
  have hr := top_obj w (.cells (bloC b).toArray 33)
  have c0 := brow_o hr
  have c1 := brow_n hr
  have c2 := brow_c hr
  have HB := hid (below_a1 w (.cells (bloC b).toArray 33))
  have hsz : (⟨b.cipher.toArray⟩ : ByteArray).size = b.cipher.length := rfl
  obtain ⟨R, hR⟩ : ∃ R, R = mayB b := ⟨_, rfl⟩
  rw [← hR]
  have HR := hid hR
  clear hR hr
  unfold mayB at HR
  obtain ⟨B1, d1⟩ : ∃ B, decide (0 ≤ b.owner) = B := ⟨_, rfl⟩
  obtain ⟨B2, d2⟩ : ∃ B, decide (b.owner < 8) = B := ⟨_, rfl⟩
  obtain ⟨B3, d3⟩ : ∃ B, decide (0 ≤ b.number) = B := ⟨_, rfl⟩
  obtain ⟨B4, d4⟩ : ∃ B, decide (b.number ≤ 1099511627776) = B := ⟨_, rfl⟩
  obtain ⟨B5, d5⟩ : ∃ B, decide ((b.cipher.length : Int) ≤ 4096) = B := ⟨_, rfl⟩
  have d6 : decide (b.cipher.length ≤ 4096) = B5 := by rw [← d5]; apply decide_eq_decide.2; omega
  rw [d1, d2, d3, d4, d6] at HR
  clear d6
  cases B1 <;> cases B2 <;> cases B3 <;> cases B4 <;> cases B5
  all_goals
    go_enter Try.func22, Try.ntmps22
    go_wp2
    go_ret
    exact ⟨by rw [HR.out]; rfl, HB.out⟩

set_option maxHeartbeats 2000000 in
theorem again_any (x b : Blo) (hx : x.Wf) (hb : b.Wf) (w : World) : Calls Try.prog 23 #[.agg (bloC x).toArray, .agg (bloC b).toArray] w fun e w' => e = .returned (nu (if sameB x b then 0 else 10)) ∧ Below w.heap.size w w' := by
  have HB1 := hid (below_a1 w (.cells (bloC x).toArray 33))
  have r1 := hid (top_obj w (.cells (bloC x).toArray 33))
  have HE := hid (fun W => equal_blo W x b hx hb)
  have Zx := hid (sizeOf_blo hx)
  have Zb := hid (sizeOf_blo hb)
  obtain ⟨B, hB⟩ : ∃ B, sameB x b = B := ⟨_, rfl⟩
  rw [hB] at HE ⊢
  clear hB
  cases B
  all_goals
    go_enter Try.func23, Try.ntmps23
    go_upto_region 1 with fail
    generalize hW1 : w.alloc (.cells (bloC x).toArray 33) = W1 at *
    have HB2 := hid (below_a1 W1 (.cells (bloC b).toArray 33))
    have r2 := hid (top_obj W1 (.cells (bloC b).toArray 33))
    have S1 := hid (brow_all (row_kept r1.out HB2.out))
    have S2 := hid (brow_all r2.out)
    have e1 : W1.heap.size = w.heap.size + 1 := by rw [← hW1]; simp
    rw [← e1]
    generalize W1.alloc (.cells (bloC b).toArray 33) = W2 at *
    go_wp2_with (first
      | ((with_reducible refine wl_load 33 (.tmp 2) ?_ w.heap.size 0 ?_ ?_ (bloC x) _ S1.out Try.underlying33 ?_ Zx.out ?_); exact rfl; exact rfl; exact rfl; exact rfl)
      | ((with_reducible refine wl_load 33 (.tmp 3) ?_ W1.heap.size 0 ?_ ?_ (bloC b) _ S2.out Try.underlying33 ?_ Zb.out ?_); exact rfl; exact rfl; exact rfl; exact rfl)
      | ((with_reducible refine wl_neq ?_ 33 33 (.tmp 5) (.tmp 6) ?_ (bloC x).toArray (bloC b).toArray ?_ ?_ guardBlo _ HE.out ?_); exact rfl; exact rfl; exact rfl; exact rfl))
    go_ret
    exact ⟨rfl, below_two HB1.out HB2.out⟩

set_option maxHeartbeats 2000000 in
theorem room_any {w : World} {s m : Nat} {L : List Blo} (h : StAt w s m L) (b : Blo) (hc : b.cipher.length ≤ 4096) : Calls Try.prog 24 #[ptr s 0, .agg (bloC b).toArray] w fun e w' => e = .returned (.bool (roomB L b)) ∧ Below w.heap.size w w' := by
  have hr := hid (top_obj w (.cells (bloC b).toArray 33))
  have c0 := brow_o hr.out
  have HB := hid (below_a1 w (.cells (bloC b).toArray 33))
  have HU := hid (used_any (h.kept HB.out) b.owner)
  have hsz : (⟨b.cipher.toArray⟩ : ByteArray).size = b.cipher.length := rfl
  have h1 := h.inv.cnt b.owner
  have h2 := h.inv.byt b.owner
  obtain ⟨R, hR⟩ : ∃ R, R = roomB L b := ⟨_, rfl⟩
  rw [← hR]
  have HR := hid hR
  clear hR h
  unfold roomB at HR
  generalize cntO L b.owner = cn at *
  generalize bytO L b.owner = bn at *
  obtain ⟨B1, d1⟩ : ∃ B, decide ((cn : Int) < 256) = B := ⟨_, rfl⟩
  obtain ⟨B2, d2⟩ : ∃ B, decide ((bn : Int) + (b.cipher.length : Int) ≤ 32768) = B := ⟨_, rfl⟩
  have d3 : decide (cn < 256) = B1 := by rw [← d1]; apply decide_eq_decide.2; omega
  have d4 : decide (bn + b.cipher.length ≤ 32768) = B2 := by rw [← d2]; apply decide_eq_decide.2; omega
  rw [d3, d4] at HR
  clear d3 d4
  cases B1 <;> cases B2
  all_goals
    go_enter Try.func24, Try.ntmps24
    go_upto_region 1 with fail
    generalize w.alloc (.cells (bloC b).toArray 33) = W1 at *
    go_wp2_with (go_at_call 16; refine HU.out.mono ?_; rintro e W2 ⟨rfl, hb2⟩; have HB2 := hid hb2; have c2 := brow_c (row_kept hr.out hb2); clear hb2)
    go_ret
    exact ⟨by rw [HR.out]; rfl, below_two HB.out HB2.out⟩
end Go.Proofs.Ytjpclmkkccffhaa.Bl
