/-
  Lists of numbers of one's own; sorted by the library; an owner's numbers.
-/
import Derived.Test.YtjpclmkkccffhaaBpt
import Derived.Maps.AppendAt
import Derived.Sort.OwnSortedInts
namespace Go.Proofs.Ytjpclmkkccffhaa.Bl
open Go Go.RowKit Go.Maps
set_option maxRecDepth 100000

theorem info3 : (Try.prog.info? 3).map (fun i => (i.zero, i.size, i.bytes)) = some (some (.int .i64 0), 1, 8) := by kernel_rfl
/-- One cell more, of whatever type, behind a row of one's own. -/
theorem wpList_push {W : World} {ops : Array Oper} {rest : List Oper} {o : Oper} {a : Act} {Q : Exit → Act → World → Prop} (hgd : o.guard = none) (s x : Operand) (t e : TypeId)
    (ho : o.op = .call { callee := .builtin .append, args := #[s, x], argTypes := #[t, t] }) (z : Value) (by' : Nat) (ht : Try.prog.underlying t = some (.slice e)) (hinfo : (Try.prog.info? e).map (fun i => (i.zero, i.size, i.bytes)) = some (some z, 1, by'))
    (hzs : z.cells.size = 1) (hby : by' ≤ 16) (base : Nat) (v u : Value) (n : Nat) (xs : List Value) (hs : a.eval s = v) (hx : a.eval x = .slice (some ⟨W.heap.size, 0, none⟩) 1 1) (hown : W.ownsRow base e 1 v n xs) (h1 : u.oneCell' = true)
    (hn : n < 1000000) (hbase : base ≤ W.heap.size)
    (h : ∀ v' w', w'.ownsRow base e 1 v' (n + 1) (xs ++ [u]) → (W.alloc (.cells #[u] e)).grownBy w' v.ownBlock → (v'.ownBlock = v.ownBlock ∨ v'.ownBlock = some (W.heap.size + 1)) → wpList Try.prog ops Q rest (a.put o.dst v') w') :
    wpList Try.prog ops Q (o :: rest) a (W.alloc (.cells #[u] e)) := by
  obtain ⟨i, hi, hz0, hz1, hz2⟩ := info_parts hinfo
  refine wpList_append_own_at (W.alloc (.cells #[u] e)) hgd s x t ho base e i z 1 by' ht hi hz0 hz1 hz2 hzs (by decide) v n xs hs (hown.alloc _) ⟨W.heap.size, 0, none⟩ 1 1 [u] hx rfl (cell_one_new _ _ _) (fun y hy => by simp at hy; subst hy; exact h1) (by unfold maxLen; omega) ?_ (by simp; omega) (fun v' w' g1 g2 _ g4 => h v' w' g1 g2 (by simpa using g4))
  have := Nat.mul_le_mul (show n + 1 ≤ 1000000 by omega) hby
  omega
theorem own_ge {w : World} {base e size n : Nat} {v : Value} {xs : List Value} (h : w.ownsRow base e size v n xs) : ∀ k, v.ownBlock = some k → base ≤ k := by
  intro k hk
  rcases h.2 with ⟨rfl, -⟩ | ⟨g, cap, cur, rfl, hg, -⟩
  · cases hk
  · cases hk
    exact hg
def ic (l : List Int) : List Value := l.map nu
theorem ints_of {w : World} {base : Nat} {v : Value} {l : List Int} (h : w.ownsRow base 3 1 v l.length (ic l)) : IntsAt w v l := by
  have hc : ∀ {g : Nat}, v.ownBlock = some g → _ := fun {g} hg => h.cells (g := g) hg
  rcases h.2 with ⟨rfl, h0⟩ | ⟨g, cap, cur, rfl, hb, hg, hl, -⟩
  · have : l = [] := List.eq_nil_of_length_eq_zero h0
    subst this
    exact IntsAt.nil w
  · refine ⟨some ⟨g, 0, none⟩, cap, rfl, fun _ => ⟨g, 0, rfl, fun j hj => ?_⟩⟩
    have := hc (g := g) rfl j (nu (l.getD j 0)) (by
      unfold ic
      rw [List.getElem?_map, List.getElem?_eq_getElem hj]
      simp [List.getD, List.getElem?_eq_getElem hj])
    rw [add_none] at this
    exact this
theorem sort_any {w : World} {base : Nat} {v : Value} {zs : List Int} (h : w.ownsRow base 3 1 v zs.length (ic zs)) (hz : zs.length ≤ 2048) : Calls Try.prog 29 #[v] w fun e w' =>
    e = .returned (.tuple #[]) ∧ w'.ownsRow base 3 1 v zs.length (ic (zs.mergeSort fun x y => decide (x ≤ y))) ∧ w.grownBy w' v.ownBlock := by
  have hl := List.length_mergeSort (le := fun x y : Int => decide (x ≤ y)) zs
  rcases h.2 with ⟨rfl, h0⟩ | ⟨g, cap, cur, rfl, hb, hg, hlc, hcap, hcur, htk⟩
  · have : zs = [] := List.eq_nil_of_length_eq_zero h0
    subst this
    refine (Try.slices_Sort_int_none none 0 w).mono ?_
    rintro e w' ⟨rfl, rfl⟩
    exact ⟨rfl, by simpa [ic] using h, ⟨rfl, rfl, rfl, Nat.le_refl _, fun _ _ _ => rfl⟩⟩
  · rw [Nat.mul_one] at htk
    refine (Try.slices_Sort_int g 0 cap zs w (holds_of_blockI hg htk) (row_lt hg) (by omega)).mono ?_
    rintro e w' ⟨rfl, n, os, rfl⟩
    exact ⟨rfl, ownsRow_sortedI hl hb hg hlc hcap hcur, grownBy_sortedI _⟩
theorem RB.grown {w w' : World} {m r : Nat} {L dn left : List Blo} {row : Option Nat} (h : RB w m r L dn left) (hg : w.grownBy w' row) (hr : ∀ k, row = some k → k ≠ m ∧ k ≠ r) : RB w' m r L dn left := by
  obtain ⟨D, E, h1, h2⟩ := h
  refine ⟨D, E, h1.same (hg.block m h1.lt.1 ?_) (hg.block r h1.lt.2 ?_), h2⟩
  · intro e; exact (hr m e.symm).1 rfl
  · intro e; exact (hr r e.symm).2 rfl
theorem nums_le {dn left L : List Blo} (h : (dn ++ left).Perm L) (hI : Inv L) (o : Int) : (numsO dn o).length ≤ 256 := by
  have := (cnt_le h hI o).1
  simpa [numsO, cntO] using this

theorem own_same {w w' : World} {base e size n : Nat} {v : Value} {xs : List Value} (h : w.ownsRow base e size v n xs) (hb : ∀ k, v.ownBlock = some k → w'.heap[k]? = w.heap[k]?) : w'.ownsRow base e size v n xs := by
  refine ⟨h.1, ?_⟩
  rcases h.2 with h0 | ⟨g, cap, cur, rfl, h1, h2, h3⟩
  · exact Or.inl h0
  · exact Or.inr ⟨g, cap, cur, rfl, h1, (hb g rfl).trans h2, h3⟩
theorem own_lt {w : World} {base e size n : Nat} {v : Value} {xs : List Value} (h : w.ownsRow base e size v n xs) : ∀ k, v.ownBlock = some k → k < w.heap.size := by
  intro k hk
  rcases h.2 with ⟨rfl, -⟩ | ⟨g, cap, cur, rfl, hg, h2, -⟩
  · cases hk
  · cases hk
    exact row_lt h2
theorem own_kept {w w' : World} {base e size n : Nat} {v : Value} {xs : List Value} (h : w.ownsRow base e size v n xs) (hb : Below w.heap.size w w') : w'.ownsRow base e size v n xs := own_same h (fun k hk => hb.block k (own_lt h k hk))
theorem own_kp {w w' : World} {base e size n : Nat} {v : Value} {xs : List Value} {X : List Nat} (h : w.ownsRow base e size v n xs) (hb : Kp X w w') (hX : ∀ x ∈ X, x < base) : w'.ownsRow base e size v n xs :=
  own_same h (fun k hk => hb.block k (own_lt h k hk) (fun hx => by have := hX k hx; have := own_ge h k hk; omega))

set_option maxHeartbeats 4000000 in
theorem numbers_any {w : World} {s m : Nat} {L : List Blo} (h : StAt w s m L) (o : Int) : Calls Try.prog 17 #[ptr s 0, nu o] w fun e w' =>
    ∃ v, e = .returned v ∧ IntsAt w' v (sortO L o) ∧ Below w.heap.size w w' := by
  have H := hid h
  have HM := hid (made_any h)
  have c0 := h.cell
  have hm : Hid (m < w.heap.size) := h.map.lt
  clear h
  go_enter Try.func17, Try.ntmps17
  go_wp2_with (first
    | (go_at_call 21; refine HM.out.mono ?_; rintro e w1 ⟨rfl, hw1⟩; subst w1)
    | (at_range; refine wl_rangeB rfl _ rfl uMap rfl H.out.map ?_; intro w0 hR0 hB0))
  go_frame
  have HR0 := hid hR0
  have HB0 := hid hB0
  have hlt0 : Hid (w.heap.size + 1 ≤ w0.heap.size) := by have := hR0.lt.2.1; exact this
  clear hR0 hB0 HM
  go_loopw [5] (fun v wr => ∃ dn left, Hid (RB wr m w.heap.size L dn left) ∧ Hid (wr.ownsRow (w.heap.size + 1) 3 1 v (numsO dn o).length (ic (numsO dn o))) ∧ Hid (Below w.heap.size w wr) ∧ Hid (w.heap.size + 1 ≤ wr.heap.size)) (fun _ wr => wr.rangeLeft m w.heap.size)
  case atStart => exact ⟨[], L, HR0, World.ownsRow_nil _ _ _ _, HB0, hlt0⟩
  case round =>
    obtain ⟨dn, left, HR, HO, HB, HZ⟩ := hrel
    clear HR0 HB0 hlt0
    go_wp2_with (at_next; refine wl_nextB rfl _ rfl rfl HR.out ?_ ?_)
    · intro hl
      have hP := HR.out.perm
      rw [hl, List.append_nil] at hP
      have HS := hid (sort_any HO.out (by have := nums_le HR.out.perm H.out.inv o; omega))
      rw [sort_is (nums_perm hP o)] at HS
      have hlen : (numsO dn o).length = (sortO L o).length := by
        have h1 := (nums_perm hP o).length_eq
        have h2 := (insAll_perm (numsO L o) []).length_eq
        unfold sortO
        simpa using h1.trans h2.symm
      rw [hlen] at HS
      have HW := hid (own_ge HO.out)
      clear hP hlen
      go_wp2_with (go_at_call 29; refine HS.out.mono ?_; rintro e W2 ⟨rfl, h2, g2⟩; have H2 := hid h2; have G2 := hid g2; clear h2 g2)
      go_ret
      exact ⟨_, rfl, ints_of H2.out, HB.out.grown G2.out HB.out.size (fun k hk => by have := HW.out k hk; omega)⟩
    · intro x left' w1 hx hp hR hk hs hen
      have hw1 : Hid (Below w.heap.size w w1) := HB.out.trans (hk.below (by simp) HB.out.size)
      have HR1 := hid hR
      have HO1 : Hid (w1.ownsRow (w.heap.size + 1) 3 1 u5 (numsO dn o).length (ic (numsO dn o))) := own_kp HO.out hk (by simp)
      have hlen := hp.length_eq
      have HM1 : Hid (left'.length < wr.rangeLeft m w.heap.size) := by
        show _ < _
        rw [HR.out.left_eq, ← hlen]
        simp
      have HZ1 : Hid (w.heap.size + 1 ≤ w1.heap.size) := by show _ ≤ _; rw [hs]; exact HZ.out
      have hnl := hid (nums_le HR.out.perm H.out.inv o)
      clear hR hk hlen hp hs
      by_cases hxo : x.owner = o
      · have d1 : (x.owner == o) = true := by simp [hxo]
        have HC : Hid (numsO (dn ++ [x]) o = numsO dn o ++ [x.number]) := by
          show _ = _
          rw [nums_snoc, if_pos hxo]
        clear hxo
        go_upto_region 8 with (first
          | ((with_reducible refine wl_allocK 57 ?_ ?_ #[nu 0, nu 0] zeroPl ?_); exact rfl; exact rfl; intro W2 r2 b2 s2; have R2 := hid r2; have B2 := hid b2; have S2 := hid s2; clear r2 b2 s2)
          | ((with_reducible refine wl_putK 57 (.tmp 6) (.tmp 18) ?_ ?_ w1.heap.size ?_ ?_ [nu x.owner, nu x.number] [nu 0, nu 0] ?_ 57 R2.out ?_ (one_pk _ _) ?_ ?_); exact rfl; exact rfl; exact rfl; exact rfl; exact rfl; exact rfl; exact sizePl; intro W3 r3 k3 s3; have R3 := hid r3; have K3 := hid k3; have S3 := hid s3; have c8 := (prow_o r3).1; have c9 := (prow_o r3).2; clear r3 k3 s3))
        have B3 : Hid (Below w1.heap.size w1 W3) := B2.out.trans (K3.out.below (by simp) B2.out.size)
        have HR3 := hid (HR1.out.kept B3.out)
        have HO3 := hid (own_kept HO1.out B3.out)
        have HB3 : Hid (Below w.heap.size w W3) := hw1.out.trans (B3.out.mono hw1.out.size)
        have hsz : w.heap.size + 1 ≤ W3.heap.size := Nat.le_trans HZ1.out B3.out.size
        go_wp2_with (first | (at_builtin; (refine wpList_push (W := W3) rfl (.tmp 23) (.tmp 26) 39 3 rfl _ 8 Try.underlying39 info3 rfl (by omega) (w.heap.size + 1) u5 (nu x.number) (numsO dn o).length (ic (numsO dn o)) rfl rfl HO3.out rfl ?c1 hsz ?_)))
        case c1 => have := hnl.out; omega
        intro v3 w3 hr3 hg3 _
        have HG := hid (own_ge HO3.out)
        have hm' := hm.out
        have HB4 : Hid (Below w.heap.size w w3) := (HB3.out.alloc HB3.out.size _).grown hg3 (by simp; omega) (fun k hk => by have := HG.out k hk; omega)
        have HR4 : Hid (RB w3 m w.heap.size L (dn ++ [x]) left') := (HR3.out.kept (below_a1 W3 _)).grown hg3 (fun k hk => by have := HG.out k hk; omega)
        have HO4 : Hid (w3.ownsRow (w.heap.size + 1) 3 1 v3 (numsO (dn ++ [x]) o).length (ic (numsO (dn ++ [x]) o))) := by
          show World.ownsRow _ _ _ _ _ _ _
          rw [HC.out]
          simpa [ic] using hr3
        have HZ4 : Hid (w.heap.size + 1 ≤ w3.heap.size) := by
          have h1 := hg3.size
          simp at h1
          show _ ≤ _
          omega
        clear hr3 hg3 HC
        go_wp2
        go_roundw
        case rel => exact ⟨dn ++ [x], left', HR4, HO4, HB4, HZ4⟩
        case measure => rw [HR4.out.left_eq]; exact HM1.out
      · have d1 : (x.owner == o) = false := by simp [hxo]
        have HC : Hid (numsO (dn ++ [x]) o = numsO dn o) := by
          show _ = _
          rw [nums_snoc, if_neg hxo, List.append_nil]
        clear hxo
        go_wp2_with (first
          | ((with_reducible refine wl_allocK 57 ?_ ?_ #[nu 0, nu 0] zeroPl ?_); exact rfl; exact rfl; intro W2 r2 b2 s2; have R2 := hid r2; have B2 := hid b2; have S2 := hid s2; clear r2 b2 s2)
          | ((with_reducible refine wl_putK 57 (.tmp 6) (.tmp 18) ?_ ?_ w1.heap.size ?_ ?_ [nu x.owner, nu x.number] [nu 0, nu 0] ?_ 57 R2.out ?_ (one_pk _ _) ?_ ?_); exact rfl; exact rfl; exact rfl; exact rfl; exact rfl; exact rfl; exact sizePl; intro W3 r3 k3 s3; have R3 := hid r3; have K3 := hid k3; have S3 := hid s3; have c8 := (prow_o r3).1; have c9 := (prow_o r3).2; clear r3 k3 s3))
        have B3 : Hid (Below w1.heap.size w1 W3) := B2.out.trans (K3.out.below (by simp) B2.out.size)
        have HR3 := hid (HR1.out.kept B3.out)
        have HO3 : Hid (W3.ownsRow (w.heap.size + 1) 3 1 u5 (numsO (dn ++ [x]) o).length (ic (numsO (dn ++ [x]) o))) := by
          show World.ownsRow _ _ _ _ _ _ _
          rw [HC.out]
          exact own_kept HO1.out B3.out
        have HB3 : Hid (Below w.heap.size w W3) := hw1.out.trans (B3.out.mono hw1.out.size)
        have hsz : Hid (w.heap.size + 1 ≤ W3.heap.size) := Nat.le_trans HZ1.out B3.out.size
        go_roundw
        case rel => exact ⟨dn ++ [x], left', HR3, HO3, HB3, hsz⟩
        case measure => rw [HR3.out.left_eq]; exact HM1.out
theorem numbers_nil (w : World) (o : Int) : Calls Try.prog 17 #[.pointer none, nu o] w fun e w' => e = .returned (.slice none 0 0) ∧ w' = w := by
  have HM := hid (made_nil w)
  go_enter Try.func17, Try.ntmps17
  go_wp2_with (go_at_call 21; refine HM.out.mono ?_; rintro e w1 ⟨rfl, hw1⟩; subst w1)
  go_ret
  exact ⟨rfl, rfl⟩
end Go.Proofs.Ytjpclmkkccffhaa.Bl
