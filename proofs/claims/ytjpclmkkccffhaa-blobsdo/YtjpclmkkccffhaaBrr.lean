/-
  What the document's Prune takes away.
-/
import Derived.Test.YtjpclmkkccffhaaBrp
namespace Go.Proofs.Ytjpclmkkccffhaa.Bl
open Go Go.RowKit Go.Maps
set_option maxRecDepth 100000

section
variable {w : World} {base e size n k : Nat} {ax : Option Addr} {len cap : Nat} {xs : List Value}
theorem pc_to (h : w.ownsRow base e size (.slice ax len cap) n xs) (hk : k ≤ n) : Pc w size (.slice (if cap = 0 then ax else ax.map (·.add 0)) k cap) k (xs.take (k * size)) := by
  have hl := h.1
  have hks := Nat.mul_le_mul_right size hk
  refine ⟨by rw [List.length_take]; omega, _, _, rfl, fun hk0 => ?_⟩
  have hc : ∀ {g : Nat}, (Value.slice ax len cap).ownBlock = some g → _ := fun {g} hg => h.cells (g := g) hg
  rcases h.2 with ⟨-, h0⟩ | ⟨g, cap', cur, e1, -, -, hnc, -⟩
  · omega
  · cases e1
    have hcap : ¬ cap = 0 := by omega
    rw [if_neg hcap]
    refine ⟨(⟨g, 0, none⟩ : Addr).add 0, rfl, fun j u hj => ?_⟩
    have h1 := hc (g := g) rfl j u (by
      rw [List.getElem?_take] at hj
      split at hj
      · exact hj
      · cases hj)
    rw [add_none] at h1 ⊢
    rw [add_none]
    exact h1
theorem pc_from (h : w.ownsRow base e size (.slice ax len cap) n xs) (hk : k ≤ n) : Pc w size (.slice (if cap = k then ax else ax.map (·.add (k * size))) (n - k) (cap - k)) (n - k) (xs.drop (k * size)) := by
  have hl := h.1
  refine ⟨by rw [List.length_drop, hl, Nat.sub_mul], _, _, rfl, fun hk0 => ?_⟩
  have hc : ∀ {g : Nat}, (Value.slice ax len cap).ownBlock = some g → _ := fun {g} hg => h.cells (g := g) hg
  rcases h.2 with ⟨-, h0⟩ | ⟨g, cap', cur, e1, -, -, hnc, -⟩
  · omega
  · cases e1
    have hcap : ¬ cap = k := by omega
    rw [if_neg hcap]
    refine ⟨(⟨g, 0, none⟩ : Addr).add (k * size), rfl, fun j u hj => ?_⟩
    have h1 := hc (g := g) rfl (k * size + j) u (by
      rw [List.getElem?_drop] at hj
      exact hj)
    rw [add_none] at h1 ⊢
    rw [add_none]
    simpa using h1
theorem own_len1 (h : w.ownsRow base e size (.slice ax len cap) n xs) : len = n ∧ n ≤ cap := by
  rcases h.2 with ⟨e1, h0⟩ | ⟨g, cap', cur, e1, -, -, hnc, -⟩
  · cases e1
    omega
  · cases e1
    exact ⟨rfl, hnc⟩
end
theorem flat_take {L : List Blo} (hw : ∀ b ∈ L, b.Wf) {k : Nat} (hk : k ≤ L.length) : (flatB L).take (k * 35) = flatB (L.take k) := by
  conv => lhs; rw [← List.take_append_drop k L, flat_app]
  have : (flatB (L.take k)).length = k * 35 := by
    rw [flat_len (fun b hb => hw b (List.take_subset _ _ hb)), List.length_take]
    congr 1
    omega
  rw [← this]
  exact List.take_left
theorem flat_drop {L : List Blo} (hw : ∀ b ∈ L, b.Wf) {k : Nat} (hk : k ≤ L.length) : (flatB L).drop (k * 35) = flatB (L.drop k) := by
  conv => lhs; rw [← List.take_append_drop k L, flat_app]
  have : (flatB (L.take k)).length = k * 35 := by
    rw [flat_len (fun b hb => hw b (List.take_subset _ _ hb)), List.length_take]
    congr 1
    omega
  rw [← this]
  exact List.drop_left
section
variable {P : Program} {o : Oper} {a : Act} {w : World} {Q : Exit → Act → World → Prop} {K : Act → World → Prop}
theorem op_add1 (x : Tmp) (T R : TypeId) (k : Nat) (hk : k < 1000000) (ho : o.op = .binOp .add T (.tmp x) (.const (nu 1)) R) (hx : a.tmps.getD x undef = nu k) (h : K (a.put o.dst (nu ((k + 1 : Nat) : Int))) w) : o.wp P a w K Q := by
  have ex : a.eval (.tmp x) = nu k := hx
  have ew : IntKind.i64.wrap ((k : Int) + 1) = ((k + 1 : Nat) : Int) := by
    rw [IntKind.wrap_i64]
    omega
  have ey : a.eval (.const (nu 1)) = nu 1 := rfl
  unfold Oper.wp execOp
  have hr : (binOp .add T (nu k) (nu 1)).run P w = .ok (nu (IntKind.i64.wrap ((k : Int) + 1))) w := by
    simp [binOp, Op.intArith]
  simp [ho, ex, ey, hr, eqGuard]
  rw [ew]
  exact h
end

theorem keep_none {ops : Array Oper} {n : Nat} {t : Tmp} (h : noneW ops t = true) : keepOk ops n t = true := by
  unfold noneW at h
  unfold keepOk
  rw [List.all_eq_true] at h ⊢
  intro j hj
  have h1 := h j hj
  unfold dstOf at h1
  cases ho : ops[j]? with
  | none => rfl
  | some oj =>
    rw [ho] at h1
    have h2 : (oj.dst != some t) = true := h1
    simp [h2]
/-- What the slots of the region hold that takes a blob out of a list. -/
def vR (B : Nat) (Ls Ms : List Blo) (L : Nat → Bool) (i : Nat) (v : Value) (w : World) : Prop :=
  if i = 1 then L 8 = true ∨ (∃ g, v = .slice (some ⟨g, 0, none⟩) 0 0 ∧ B ≤ g ∧ w.heap[g]? = some (.cells #[] 33))
  else if i = 8 then L 16 = true ∨ OwnB w B v Ls
  else OwnB w B v Ms
section
variable {B : Nat} {Ls Ms : List Blo} {L : Nat → Bool} {v : Value} {w : World}
theorem vR1 : vR B Ls Ms L 1 v w ↔ (L 8 = true ∨ (∃ g, v = .slice (some ⟨g, 0, none⟩) 0 0 ∧ B ≤ g ∧ w.heap[g]? = some (.cells #[] 33))) := by unfold vR; simp
theorem vR8 : vR B Ls Ms L 8 v w ↔ (L 16 = true ∨ OwnB w B v Ls) := by unfold vR; simp
theorem vR16 : vR B Ls Ms L 16 v w ↔ OwnB w B v Ms := by unfold vR; simp
theorem vR_up {i : Nat} (hi : i ≠ 8) (hi' : i ≠ 16) (j : Nat) (h : vR B Ls Ms L j v w) : vR B Ls Ms (up L i) j v w := by
  unfold vR at h ⊢
  rw [up_ne hi, up_ne hi']
  exact h
theorem vR_kept {w' : World} (hb : Below w.heap.size w w') (j : Nat) (h : vR B Ls Ms L j v w) : vR B Ls Ms L j v w' := by
  by_cases e1 : j = 1
  · subst e1
    rw [vR1] at h ⊢
    rcases h with h | ⟨g, h1, h2, h3⟩
    · exact Or.inl h
    · exact Or.inr ⟨g, h1, h2, row_kept h3 hb⟩
  · by_cases e6 : j = 8
    · subst e6
      rw [vR8] at h ⊢
      exact h.imp id (fun h => own_kept h hb)
    · unfold vR at h ⊢
      rw [if_neg e1, if_neg e6] at h ⊢
      exact own_kept h hb
end
theorem fa_z (g : Nat) : ptr g (0 + 0) = ptr g 0 := rfl
theorem ref_nocell {w : World} {r : Nat} {v : Value} {L : List Blo} (h : RfAt w r v L) (j : Nat) (z : Int) : w.cell? ⟨r, j, none⟩ ≠ some (nu z) := by
  rw [cell_of_row _ _ _ _ _ _ h.obj]
  have hv := own_slice h.row
  intro e
  have e1 : #[v][j]? = some (nu z) := e
  cases j with
  | zero =>
    have : v = nu z := by simpa using e1
    rcases h.row.2 with ⟨rfl, -⟩ | ⟨g, cap, cur, rfl, -⟩ <;> cases this
  | succ j => simp at e1

set_option maxHeartbeats 4000000 in
theorem rprune_any {w : World} {r : Nat} {v : Value} {L : List Blo} (h : RfAt w r v L) (o : Int) (x : Value) (ks : List Int) (hlen : ks.length < 1000000) (hx : IntsAt w x ks) : Calls Try.prog 26 #[ptr r 0, nu o, x] w fun e w' =>
    e = .returned (nu (pruneN L o ks)) ∧ (∃ v', RfAt w' r v' (pruneD L o ks)) ∧ Kp [r] w w' := by
  have H := hid h
  have HV := hid hx
  obtain ⟨a, cap, rfl, -⟩ := hx
  clear h
  go_enter Try.func26, Try.ntmps26
  go_wp2
  go_loopw [7, 8] (fun c i wr => ∃ k : Nat, k ≤ ks.length ∧ c = nu (pruneN L o (ks.take k)) ∧ i = nu k ∧ Hid (∃ v', RfAt wr r v' (pruneD L o (ks.take k))) ∧ Hid (Kp [r] w wr)) (fun _ i _ => ks.length - (intOf i).toNat)
  case atStart => exact ⟨0, by omega, rfl, rfl, ⟨v, H.out⟩, Kp.refl _ _⟩
  case round =>
    obtain ⟨k, hk, rfl, rfl, HS, HK⟩ := hrel
    obtain ⟨v', hR⟩ := HS.out
    have HR := hid hR
    clear hR HS
    by_cases hlt : k < ks.length
    · have d1 : decide ((k : Int) < (ks.length : Int)) = true := by simpa using hlt
      obtain ⟨bb, off, rfl, hcell⟩ := (HV.out.kp HK.out (by simp; exact fun j z => ref_nocell H.out j z)).at hlt
      have HD := hid (prune_take o ks k hlt L)
      have HN := hid (pruneN_take o ks k hlt L)
      have HT := hid (at_any HR.out o (ks.getD k 0))
      have hpl := prune_len o (ks.take k) L
      have hLl := H.out.inv.len
      generalize ks.getD k 0 = kn at *
      generalize pruneD L o (ks.take k) = M at *
      generalize pruneN L o (ks.take k) = cn at *
      have hMl := HR.out.inv.len
      cases hf : M.find? (hitB o kn) with
      | none =>
        have hat := at_none hf
        rw [hat] at HT
        have hany : M.any (hitB o kn) = false := by rw [any_find, hf]; rfl
        have HD2 : Hid (pruneD L o (ks.take (k + 1)) = M ∧ pruneN L o (ks.take (k + 1)) = cn) := by
          show _ ∧ _
          rw [HD.out, HN.out, drop_none hany, hany]
          exact ⟨rfl, by simp⟩
        clear hf hat hany HD HN
        go_wp2_with (go_at_call 27; refine HT.out.mono ?_; rintro e w1 ⟨rfl, hw1⟩; subst w1)
        go_roundw
        case rel => exact ⟨k + 1, by omega, by rw [HD2.out.2], by go_num, hid ⟨v', by rw [HD2.out.1]; exact HR.out⟩, HK⟩
        case measure => simp [intOf]; omega
      | some b =>
        obtain ⟨p, hp, hbp, hat⟩ := at_some HR.out.inv hf
        rw [hat] at HT
        have hany : M.any (hitB o kn) = true := by rw [any_find, hf]; rfl
        have hbn := (find_some hf).2
        have HD2 : Hid (pruneD L o (ks.take (k + 1)) = M.take p ++ M.drop (p + 1) ∧ pruneN L o (ks.take (k + 1)) = cn + 1) := by
          show _ ∧ _
          rw [HD.out, HN.out, hany]
          refine ⟨?_, by simp⟩
          unfold dropD
          rw [erase_hit HR.out.inv.apart (show M[p]? = some b by rw [List.getElem?_eq_getElem hp, hbp]) hbn, List.eraseIdx_eq_take_drop_succ]
        have HI2 : Hid (Inv (M.take p ++ M.drop (p + 1))) := by
          have := HR.out.inv.drop o kn
          rw [← HD.out, HD2.out.1] at this
          exact this
        have dp : decide ((0 : Int) ≤ (p : Int)) = true := decide_eq_true (by omega)
        obtain ⟨va, vc, hv⟩ := HR.out.row.nil_val
        subst hv
        have HO := hid HR.out.row
        have hvc := (own_len1 HO.out).2
        have LR : Hid (r < wr.heap.size) := row_lt HR.out.obj
        have hwf : Hid (∀ b ∈ M, b.Wf) := fun b hb => (HR.out.inv.ok b hb).2
        clear hf hat hany hbn hbp HD HN
        go_upto_region 7 with (go_at_call 27; refine HT.out.mono ?_; rintro e w1 ⟨rfl, hw1⟩; subst w1)
        have dV := HO.out
        generalize hC7 : (Value.slice (if vc = 0 then va else va.map (·.add 0)) p vc) = C7 at *
        generalize hC15 : (Value.slice (if vc = p + 1 then va else va.map (·.add ((p + 1) * 35))) (M.length - (p + 1)) (vc - (p + 1))) = C15 at *
        have P7 : Hid (∀ W, Below wr.heap.size wr W → Pc W 35 C7 p (flatB (M.take p))) := fun W hW => by
          rw [← hC7, ← flat_take hwf.out (Nat.le_of_lt hp)]
          exact pc_to (own_kept HO.out hW) (Nat.le_of_lt hp)
        have P15 : Hid (∀ W, Below wr.heap.size wr W → Pc W 35 C15 (M.length - (p + 1)) (flatB (M.drop (p + 1)))) := fun W hW => by
          rw [← hC15, ← flat_drop hwf.out hp]
          exact pc_from (own_kept HO.out hW) hp
        have H7 := hid hC7
        have H15 := hid hC15
        clear hC7 hC15 dV
        refine wp_region_chain (N := 47) 19 [1, 8, 16] (vR wr.heap.size (M.take p) (M.take p ++ M.drop (p + 1))) [ptr r 0, undef, ptr r 0, ptr r 0, ptr r (0 + 0), .slice va M.length vc, nu p, C7, undef, ptr r 0, ptr r 0, ptr r (0 + 0), .slice va M.length vc, nu p, nu ((p + 1 : Nat) : Int), C15, undef, ptr r 0, ptr r (0 + 0)] (by kernel_rfl) (by kernel_rfl) (by kernel_rfl) rfl ?_ ?_ ?_ ?_
        · intro i hi hn L' j u w' h
          exact vR_up (by rintro rfl; simp at hi) (by rintro rfl; simp at hi) j h
        · intro i o hi hS ho
          match i, ho with
          | 0, ho => cases ho; exact fun a w hB hk hc K h => op_move 0 _ rfl (hk 0 (by kernel_rfl)) h
          | 2, ho => cases ho; exact fun a w hB hk hc K h => op_move 0 _ rfl (hk 0 (by kernel_rfl)) h
          | 3, ho => cases ho; exact fun a w hB hk hc K h => op_nil 27 r 0 rfl (hc 2 27 (by kernel_rfl) (by decide) (by kernel_rfl)) h
          | 4, ho => cases ho; exact fun a w hB hk hc K h => op_fa 28 _ 0 r 0 0 rfl (fun W => fa_ref r W) (hc 3 28 (by kernel_rfl) (by decide) (by kernel_rfl)) h
          | 5, ho => cases ho; exact fun a w hB hk hc K h => op_load1 _ (.tmp 29) rfl r (0 + 0) (hc 4 29 (by kernel_rfl) (by decide) (by kernel_rfl)) _ _ (HR.out.kept hB).cell uBlos rfl h
          | 6, ho => cases ho; exact fun a w hB hk hc K h => op_move 9 _ rfl (hk 9 (by kernel_rfl)) h
          | 7, ho => cases ho; exact fun a w hB hk hc K h => op_cutTo 30 31 43 33 rfl uBlos 35 sizeBlo va M.length vc p (by omega) (hc 5 30 (by kernel_rfl) (by decide) (by kernel_rfl)) (hc 6 31 (by kernel_rfl) (by decide) (by kernel_rfl)) (by rw [H7.out]; exact h)
          | 9, ho => cases ho; exact fun a w hB hk hc K h => op_move 0 _ rfl (hk 0 (by kernel_rfl)) h
          | 10, ho => cases ho; exact fun a w hB hk hc K h => op_nil 34 r 0 rfl (hc 9 34 (by kernel_rfl) (by decide) (by kernel_rfl)) h
          | 11, ho => cases ho; exact fun a w hB hk hc K h => op_fa 35 _ 0 r 0 0 rfl (fun W => fa_ref r W) (hc 10 35 (by kernel_rfl) (by decide) (by kernel_rfl)) h
          | 12, ho => cases ho; exact fun a w hB hk hc K h => op_load1 _ (.tmp 36) rfl r (0 + 0) (hc 11 36 (by kernel_rfl) (by decide) (by kernel_rfl)) _ _ (HR.out.kept hB).cell uBlos rfl h
          | 13, ho => cases ho; exact fun a w hB hk hc K h => op_move 9 _ rfl (hk 9 (by kernel_rfl)) h
          | 14, ho => cases ho; exact fun a w hB hk hc K h => op_add1 38 _ _ p (by omega) rfl (hc 13 38 (by kernel_rfl) (by decide) (by kernel_rfl)) h
          | 15, ho => cases ho; exact fun a w hB hk hc K h => op_cutFrom 37 39 43 33 rfl uBlos 35 sizeBlo va M.length vc (p + 1) (by omega) (hc 12 37 (by kernel_rfl) (by decide) (by kernel_rfl)) (hc 14 39 (by kernel_rfl) (by decide) (by kernel_rfl)) (by rw [H15.out]; exact h)
          | 17, ho => cases ho; exact fun a w hB hk hc K h => op_nil 25 r 0 rfl (hc 0 25 (by kernel_rfl) (by decide) (by kernel_rfl)) h
          | 18, ho => cases ho; exact fun a w hB hk hc K h => op_fa 42 _ 0 r 0 0 rfl (fun W => fa_ref r W) (hc 17 42 (by kernel_rfl) (by decide) (by kernel_rfl)) h
          | 1, ho | 8, ho | 16, ho => simp at hS
          | (i + 19), ho => omega
        · intro i o hi hS ho
          match i, ho with
          | 1, ho =>
            cases ho
            intro L' a V hLi hw hnot hcl hB hk hc hv
            refine op_bs0 43 33 rfl uBlos 35 sizeBlo ⟨_, rfl, ?_, hB.trans ((below_a1 V _).mono hB.size), fun j d hj hjs hd => ?_⟩
            · rw [vR1]
              exact Or.inr ⟨V.heap.size, rfl, hB.size, top_obj V _⟩
            · exact vR_up (by decide) (by decide) j (vR_kept (below_a1 V _) j (hv j d hj hjs hd))
          | 8, ho =>
            cases ho
            intro L' a V hLi hw hnot hcl hB hk hc hv
            have h1' := vR1.1 (hv 1 26 (hw 1 (by kernel_rfl)) (by decide) (by kernel_rfl))
            rw [hLi] at h1'
            obtain ⟨g, e72, hge, hrow⟩ := h1'.resolve_left Bool.noConfusion
            have e76 : a.tmps.getD 32 undef = C7 := hc 7 32 (by kernel_rfl) (by decide) (by kernel_rfl)
            refine op_append 26 32 wr.heap.size 43 33 _ 35 64 rfl uBlos infoB (by simpa [Value.cells] using bloC_len zeroB_wf) (by decide) 0 p [] (flatB (M.take p)) (by rw [e72]; exact own_none hge hrow) (by rw [e76]; exact P7.out V hB) (one_flat _) (by omega) (by decide) hB.size ?_
            intro v1 w' g1 g2
            rw [e72] at g2
            refine ⟨v1, rfl, ?_, below_grown hB g2 (fun k hk => by cases hk; exact hge) hB.size, fun j d hj hjs hd => ?_⟩
            · rw [vR8]
              refine Or.inr ?_
              have e3 : (M.take p).length = p := by rw [List.length_take]; omega
              show World.ownsRow _ _ _ _ _ _ _
              rw [e3]
              simpa using g1
            · simp only [List.mem_cons, List.not_mem_nil, or_false] at hjs
              rcases hjs with rfl | rfl | rfl
              · rw [vR1]
                exact Or.inl (up_self _ _)
              · rw [hLi] at hj
                cases hj
              · rw [hnot 16 _ rfl (by kernel_rfl)] at hj
                cases hj
          | 16, ho =>
            cases ho
            intro L' a V hLi hw hnot hcl hB hk hc hv
            have h6 := vR8.1 (hv 8 33 (hw 8 (by kernel_rfl)) (by decide) (by kernel_rfl))
            rw [hLi] at h6
            have hO := h6.resolve_left Bool.noConfusion
            have e3 : (M.take p).length = p := by rw [List.length_take]; omega
            have e40 : a.tmps.getD 40 undef = C15 := hc 15 40 (by kernel_rfl) (by decide) (by kernel_rfl)
            refine op_append 33 40 wr.heap.size 43 33 _ 35 64 rfl uBlos infoB (by simpa [Value.cells] using bloC_len zeroB_wf) (by decide) (M.take p).length (M.length - (p + 1)) (flatB (M.take p)) (flatB (M.drop (p + 1))) hO (by rw [e40]; exact P15.out V hB) (one_flat _) (by omega) (by decide) hB.size ?_
            intro v1 w' g1 g2
            refine ⟨v1, rfl, ?_, below_grown hB g2 (own_ge hO) hB.size, fun j d hj hjs hd => ?_⟩
            · rw [vR16]
              show World.ownsRow _ _ _ _ _ _ _
              rw [flat_app, List.length_append, List.length_drop]
              exact g1
            · simp only [List.mem_cons, List.not_mem_nil, or_false] at hjs
              rcases hjs with rfl | rfl | rfl
              · rw [vR1]
                exact Or.inl (by rw [up_ne (by decide)]; exact hw 8 (by kernel_rfl))
              · rw [vR8]
                exact Or.inl (up_self _ _)
              · rw [hLi] at hj
                cases hj
          | 0, ho | 2, ho | 3, ho | 4, ho | 5, ho | 6, ho | 7, ho | 9, ho | 10, ho | 11, ho | 12, ho | 13, ho | 14, ho | 15, ho | 17, ho | 18, ho => simp at hS
          | (i + 19), ho => omega
        · intro L' o' a V hall hLn ho hB hs hd hk hcs hvs
          cases ho
          have hO := vR16.1 (hvs 16 41 (by decide) (by decide) (by kernel_rfl))
          have hobj := row_kept HR.out.obj hB
          refine op_store1 43 43 41 rfl rfl r (hcs 18 43 (by decide) (by decide) (by kernel_rfl)) _ rfl (own_slice hO) 45 _ hobj sizeBlos ?_
          have e := frame_of (c := fun i => if i = 1 then a.tmps.getD 26 undef else if i = 8 then a.tmps.getD 33 undef else if i = 16 then a.tmps.getD 41 undef else ([ptr r 0, undef, ptr r 0, ptr r 0, ptr r (0 + 0), .slice va M.length vc, nu p, C7, undef, ptr r 0, ptr r 0, ptr r (0 + 0), .slice va M.length vc, nu p, nu ((p + 1 : Nat) : Int), C15, undef, ptr r 0, ptr r (0 + 0)] : List Value).getD i undef) hs (fun t ht => hk t (keep_none ht)) (fun i d hd => by
            by_cases i1 : i = 1
            · subst i1
              have h1 : some 26 = some d := hd
              cases h1
              simp
            · by_cases i8 : i = 8
              · subst i8
                have h1 : some 33 = some d := hd
                cases h1
                simp
              · by_cases i16 : i = 16
                · subst i16
                  have h1 : some 41 = some d := hd
                  cases h1
                  simp
                · have hin : i < 19 := by
                    have h1 := dst_lt hd
                    have h2 : i < 20 := h1
                    by_cases e19 : i = 19
                    · subst e19
                      cases hd
                    · omega
                  rw [if_neg i1, if_neg i8, if_neg i16]
                  exact hcs i d hin (by simp [i1, i8, i16]) hd)
          generalize a.tmps.getD 26 undef = v26 at e
          generalize a.tmps.getD 33 undef = v33 at e
          generalize a.tmps.getD 41 undef = v41 at e hO ⊢
          have HR9 : Hid (RfAt (V.setRow r #[v41]) r v41 (M.take p ++ M.drop (p + 1))) := by
            refine ⟨setRow_heap V r _ _ _ (0, 0) hobj, own_same (own_zero hO) (fun k hk => setRow_other V r k _ ?_), HI2.out⟩
            have h1 := own_ge hO k hk
            have h2 := LR.out
            omega
          have HK9 : Hid (Kp [r] w (V.setRow r #[v41])) := HK.out.trans ((Kp.of hB).setRow r _ (Or.inl (by simp)))
          obtain ⟨tm, df⟩ := a
          obtain rfl : df = [] := hd
          have hA : tm = #[ptr r 0, nu o, .slice (some ⟨bb, off, none⟩) ks.length cap, undef, undef, undef, .int .i64 0, nu cn, nu k, nu p, nu k, .slice (some ⟨bb, off, none⟩) ks.length cap, nu ks.length, .bool true, u14, u15, ptr r 0, nu o, .slice (some ⟨bb, off, none⟩) ks.length cap, nu k, ptr bb (off + k), nu kn, nu p, nu p, .bool true, ptr r 0, v26, ptr r 0, ptr r 0, ptr r (0 + 0), .slice va M.length vc, nu p, C7, v33, ptr r 0, ptr r 0, ptr r (0 + 0), .slice va M.length vc, nu p, nu ((p + 1 : Nat) : Int), C15, v41, ptr r 0, ptr r (0 + 0), u44, u45, undef] := e.trans (by kernel_rfl)
          clear e hk hcs hvs hs hall hO hobj
          subst hA
          generalize V.setRow r #[v41] = V9 at *
          go_wp2
          go_roundw
          case rel => exact ⟨k + 1, by omega, by rw [HD2.out.2]; go_num, by go_num, hid ⟨v41, by rw [HD2.out.1]; exact HR9.out⟩, HK9⟩
          case measure => simp [intOf]; omega
    · have d1 : decide ((k : Int) < (ks.length : Int)) = false := by simpa using hlt
      have hke : ks.take k = ks := List.take_of_length_le (by omega)
      rw [hke] at HR ⊢
      go_wp2
      go_ret
      exact ⟨rfl, ⟨v', HR.out⟩, HK.out⟩
end Go.Proofs.Ytjpclmkkccffhaa.Bl
