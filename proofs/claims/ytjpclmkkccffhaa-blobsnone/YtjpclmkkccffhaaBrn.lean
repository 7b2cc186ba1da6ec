/-
  An owner's numbers as the document tells them: each laid where it belongs.
-/
import Derived.Test.YtjpclmkkccffhaaBrr
namespace Go.Proofs.Ytjpclmkkccffhaa.Bl
open Go Go.RowKit Go.Maps
set_option maxRecDepth 100000

theorem uInts : Try.prog.underlying 39 = some (.slice 3) := Try.underlying39
theorem size3 : (Try.prog.info? 3).map (·.size) = some 1 := by kernel_rfl
abbrev OwnI (w : World) (base : Nat) (v : Value) (l : List Int) : Prop := w.ownsRow base 3 1 v l.length (ic l)
theorem ic_app (l m : List Int) : ic (l ++ m) = ic l ++ ic m := by simp [ic]
theorem one_ic (l : List Int) : ∀ u ∈ ic l, u.oneCell' = true := by
  intro u hu
  simp only [ic, List.mem_map] at hu
  obtain ⟨x, -, rfl⟩ := hu
  rfl
theorem ic_take (l : List Int) (k : Nat) : (ic l).take (k * 1) = ic (l.take k) := by simp [ic, List.map_take]
theorem ic_drop (l : List Int) (k : Nat) : (ic l).drop (k * 1) = ic (l.drop k) := by simp [ic, List.map_drop]
/-- How many are below. -/
def lowN (out : List Int) (x : Int) : Nat := (out.takeWhile fun y => decide (y < x)).length
theorem low_le (out : List Int) (x : Int) : lowN out x ≤ out.length := by
  unfold lowN
  exact (List.takeWhile_sublist _).length_le
theorem cut_app {A B out : List Int} (h : A ++ B = out) : out.take A.length = A ∧ out.drop A.length = B := by
  subst h
  exact ⟨List.take_left, List.drop_left⟩
theorem ins_is (out : List Int) (x : Int) : insO out x = out.take (lowN out x) ++ ([x] ++ out.drop (lowN out x)) := by
  have h := cut_app (List.takeWhile_append_dropWhile (p := fun y => decide (y < x)) (l := out))
  unfold insO lowN
  rw [h.1, h.2]
theorem low_step {out : List Int} {x : Int} : ∀ {j : Nat}, j < out.length → j ≤ lowN out x → out.getD j 0 < x → j + 1 ≤ lowN out x := by
  induction out with
  | nil => intro j h; simp at h
  | cons y out ih =>
    intro j hj hl hx
    unfold lowN at hl ⊢
    rw [List.takeWhile_cons] at hl ⊢
    cases j with
    | zero =>
      have : y < x := by simpa using hx
      simp [this]
    | succ j =>
      by_cases hy : y < x
      · simp only [hy, decide_true, if_true, List.length_cons] at hl ⊢
        have := ih (j := j) (by simpa using hj) (by unfold lowN; omega) (by simpa using hx)
        unfold lowN at this
        omega
      · simp [hy] at hl
theorem low_stop {out : List Int} {x : Int} : ∀ {j : Nat}, j < out.length → j ≤ lowN out x → ¬ out.getD j 0 < x → j = lowN out x := by
  induction out with
  | nil => intro j h; simp at h
  | cons y out ih =>
    intro j hj hl hx
    unfold lowN at hl ⊢
    rw [List.takeWhile_cons] at hl ⊢
    cases j with
    | zero =>
      have : ¬ y < x := by simpa using hx
      simp [this]
    | succ j =>
      by_cases hy : y < x
      · simp only [hy, decide_true, if_true, List.length_cons] at hl ⊢
        have := ih (j := j) (by simpa using hj) (by unfold lowN; omega) (by simpa using hx)
        unfold lowN at this
        omega
      · simp [hy] at hl
section
variable {P : Program} {o : Oper} {a : Act} {w : World} {Q : Exit → Act → World → Prop} {K : Act → World → Prop}
theorem op_assignD (t d : Tmp) (c : Value) (ho : o.op = .assign (.tmp t)) (hd : o.dst = some d) (hx : a.tmps.getD t undef = c) (h : K (a.put (some d) c) w) : o.wp P a w K Q := op_assign t c ho hx (by rw [hd]; exact h)
theorem op_index (x y : Tmp) (t e : TypeId) (ho : o.op = .indexAddr t (.tmp x) (.tmp y)) (ht : P.underlying t = some (.slice e)) (size : Nat) (hi : (P.info? e).map (·.size) = some size) (g len cap k : Nat) (hk : k < len)
    (hx : a.tmps.getD x undef = .slice (some ⟨g, 0, none⟩) len cap) (hy : a.tmps.getD y undef = nu k) (h : K (a.put o.dst (ptr g (k * size))) w) : o.wp P a w K Q := by
  have ex : a.eval (.tmp x) = .slice (some ⟨g, 0, none⟩) len cap := hx
  have ey : a.eval (.tmp y) = nu k := hy
  cases hq : P.info? e with
  | none => simp [hq] at hi
  | some i =>
    have hs : i.size = size := by simpa [hq] using hi
    unfold Oper.wp execOp
    simp [ho, ex, ey, Instr.indexAt, asIntOf, run_underlying ht, sizeOf, typeInfo, hq, hs, hk, add_none]
    exact h
end

/-- What the slots of the region hold that lays a number into a list. -/
def vT (B : Nat) (la lb lc : List Int) (x : Int) (L : Nat → Bool) (i : Nat) (v : Value) (w : World) : Prop :=
  if i = 0 then L 4 = true ∨ (∃ g, v = .slice (some ⟨g, 0, none⟩) 0 0 ∧ B ≤ g ∧ w.heap[g]? = some (.cells #[] 3))
  else if i = 4 then L 14 = true ∨ OwnI w B v la
  else if i = 13 then L 14 = true ∨ (∃ g, v = .slice (some ⟨g, 0, none⟩) 1 1 ∧ B ≤ g ∧ w.heap[g]? = some (.cells #[nu x] 3))
  else if i = 14 then L 18 = true ∨ OwnI w B v lb
  else OwnI w B v lc
section
variable {B : Nat} {la lb lc : List Int} {x : Int} {L : Nat → Bool} {v : Value} {w : World}
theorem vT0 : vT B la lb lc x L 0 v w ↔ (L 4 = true ∨ (∃ g, v = .slice (some ⟨g, 0, none⟩) 0 0 ∧ B ≤ g ∧ w.heap[g]? = some (.cells #[] 3))) := by unfold vT; simp
theorem vT4 : vT B la lb lc x L 4 v w ↔ (L 14 = true ∨ OwnI w B v la) := by unfold vT; simp
theorem vT13 : vT B la lb lc x L 13 v w ↔ (L 14 = true ∨ (∃ g, v = .slice (some ⟨g, 0, none⟩) 1 1 ∧ B ≤ g ∧ w.heap[g]? = some (.cells #[nu x] 3))) := by unfold vT; simp
theorem vT14 : vT B la lb lc x L 14 v w ↔ (L 18 = true ∨ OwnI w B v lb) := by unfold vT; simp
theorem vT18 : vT B la lb lc x L 18 v w ↔ OwnI w B v lc := by unfold vT; simp
theorem vT_up {i : Nat} (h1 : i ≠ 4) (h2 : i ≠ 14) (h3 : i ≠ 18) (j : Nat) (h : vT B la lb lc x L j v w) : vT B la lb lc x (up L i) j v w := by
  unfold vT at h ⊢
  rw [up_ne h1, up_ne h2, up_ne h3]
  exact h
theorem vT_kept {w' : World} (hb : Below w.heap.size w w') (j : Nat) (h : vT B la lb lc x L j v w) : vT B la lb lc x L j v w' := by
  by_cases e0 : j = 0
  · subst e0
    rw [vT0] at h ⊢
    rcases h with h | ⟨g, h1, h2, h3⟩
    · exact Or.inl h
    · exact Or.inr ⟨g, h1, h2, row_kept h3 hb⟩
  · by_cases e4 : j = 4
    · subst e4
      rw [vT4] at h ⊢
      exact h.imp id (fun h => own_kept h hb)
    · by_cases e13 : j = 13
      · subst e13
        rw [vT13] at h ⊢
        rcases h with h | ⟨g, h1, h2, h3⟩
        · exact Or.inl h
        · exact Or.inr ⟨g, h1, h2, row_kept h3 hb⟩
      · by_cases e14 : j = 14
        · subst e14
          rw [vT14] at h ⊢
          exact h.imp id (fun h => own_kept h hb)
        · unfold vT at h ⊢
          rw [if_neg e0, if_neg e4, if_neg e13, if_neg e14] at h ⊢
          exact own_kept h hb
end
theorem own_mono {w : World} {base base' e size n : Nat} {v : Value} {xs : List Value} (h : w.ownsRow base e size v n xs) (hb : base' ≤ base) : w.ownsRow base' e size v n xs := by
  refine ⟨h.1, ?_⟩
  rcases h.2 with h0 | ⟨g, cap, cur, h1, h2, h3⟩
  · exact Or.inl h0
  · exact Or.inr ⟨g, cap, cur, h1, Nat.le_trans hb h2, h3⟩
theorem fa_num (g off : Nat) (w : World) : (Instr.fieldAt 33 (ptr g off) 1).run Try.prog w = .ok (ptr g (off + 1)) w := by kernel_rfl
theorem nums_take {L : List Blo} {k : Nat} (hk : k < L.length) (o : Int) : numsO (L.take (k + 1)) o = numsO (L.take k) o ++ (if L[k].owner = o then [L[k].number] else []) := by
  rw [List.take_succ_eq_append_getElem hk, nums_snoc]
theorem OwnI.val {w : World} {base : Nat} {v : Value} {l : List Int} (h : OwnI w base v l) : ∃ a cap, v = .slice a l.length cap := by
  rcases h.2 with ⟨rfl, h0⟩ | ⟨g, cap, cur, rfl, -⟩
  · exact ⟨none, 0, by rw [h0]⟩
  · exact ⟨_, _, rfl⟩
theorem OwnI.at {w : World} {base : Nat} {ax : Option Addr} {cap len : Nat} {l : List Int} (h : OwnI w base (.slice ax len cap) l) {j : Nat} (hj : j < l.length) : ∃ g, ax = some ⟨g, 0, none⟩ ∧ w.cell? ⟨g, j, none⟩ = some (nu (l.getD j 0)) := by
  have hc : ∀ {g : Nat}, (Value.slice ax len cap).ownBlock = some g → _ := fun {g} hg => h.cells (g := g) hg
  rcases h.2 with ⟨-, h0⟩ | ⟨g, cap', cur, e1, -⟩
  · omega
  · cases e1
    refine ⟨g, rfl, ?_⟩
    have := hc (g := g) rfl j (nu (l.getD j 0)) (by
      unfold ic
      rw [List.getElem?_map, List.getElem?_eq_getElem hj]
      simp [List.getD, List.getElem?_eq_getElem hj])
    rw [add_none] at this
    simpa using this

set_option maxHeartbeats 4000000 in
theorem rnumbers_any {w : World} {r : Nat} {v : Value} {L : List Blo} (h : RfAt w r v L) (o : Int) : Calls Try.prog 20 #[ptr r 0, nu o] w fun e w' =>
    ∃ v', e = .returned v' ∧ IntsAt w' v' (sortO L o) ∧ Below w.heap.size w w' := by
  have H := hid h
  have hLl := h.inv.len
  obtain ⟨va, vc, hv⟩ := h.row.nil_val
  subst hv
  clear h
  go_enter Try.func20, Try.ntmps20
  go_wp2
  go_loopw [5, 6] (fun u i wr => ∃ k : Nat, k ≤ L.length ∧ i = nu k ∧ Hid (OwnI wr w.heap.size u (insAll [] (numsO (L.take k) o))) ∧ Hid (Below w.heap.size w wr)) (fun _ i _ => L.length - (intOf i).toNat)
  case atStart => exact ⟨0, by omega, rfl, World.ownsRow_nil _ _ _ _, Below.refl _ _⟩
  case round =>
    obtain ⟨k, hk, rfl, HO, HB⟩ := hrel
    have HR := hid (H.out.kept HB.out)
    have c0 := HR.out.cell
    by_cases hlt : k < L.length
    · have d1 : decide ((k : Int) < (L.length : Int)) = true := by simpa using hlt
      obtain ⟨g, cap, e1, hc⟩ := HR.out.row.at HR.out.inv hlt
      cases e1
      have b0 : wr.cell? ⟨g, k * 35, none⟩ = some (nu L[k].owner) := hc 0 _ rfl
      have b1 : wr.cell? ⟨g, k * 35 + 1, none⟩ = some (nu L[k].number) := hc 1 _ rfl
      have HT := hid (nums_take hlt o)
      have hlen0 : (insAll [] (numsO (L.take k) o)).length ≤ 2048 := by
        have h1 := (insAll_perm (numsO (L.take k) o) []).length_eq
        have h2 := nums_le (dn := L.take k) (left := L.drop k) (L := L) (by rw [List.take_append_drop]) H.out.inv o
        simp at h1
        omega
      clear hc
      generalize L[k] = b at *
      generalize hout : insAll [] (numsO (L.take k) o) = out at *
      by_cases hbo : b.owner = o
      · have d2 : (b.owner == o) = true := by simp [hbo]
        have HI : Hid (insAll [] (numsO (L.take (k + 1)) o) = insO out b.number) := by
          show _ = _
          rw [HT.out, if_pos hbo, insAll_app, hout]
          rfl
        clear hbo HT hout
        generalize b.number = x at *
        generalize wr = w1 at *
        obtain ⟨ox, oc, hov⟩ := HO.out.val
        subst hov
        have hoc := (own_len1 HO.out).2
        have hll := low_le out x
        go_wp2
        go_loopw [7] (fun n wi => ∃ j : Nat, j ≤ lowN out x ∧ n = nu j ∧ Hid (Below w1.heap.size w1 wi)) (fun n _ => out.length - (intOf n).toNat)
        case atStart => exact ⟨0, by omega, rfl, Below.refl _ _⟩
        case round =>
          obtain ⟨j, hj, rfl, HBi⟩ := hrel
          have HRi := hid (HR.out.kept HBi.out)
          have HOi := hid (own_kept HO.out HBi.out)
          have q0 := HRi.out.cell
          have q1 : wr.cell? ⟨g, k * 35 + 1, none⟩ = some (nu x) := (HBi.out.cell (p := ⟨g, k * 35 + 1, none⟩) (World.block_lt_of_cell? w1 _ b1)).trans b1
          by_cases hjl : j < out.length
          · have d3 : decide ((j : Int) < (out.length : Int)) = true := by simpa using hjl
            obtain ⟨go, hox, q2⟩ := OwnI.at HOi.out hjl
            subst hox
            have HS1 := hid (low_step hjl hj)
            have HS2 := hid (low_stop hjl hj)
            have p0 : ∀ dd os, (Sort.grow (redrawn wr dd) os).cell? ⟨r, 0, none⟩ = some (.slice (some ⟨g, 0, none⟩) L.length vc) := fun dd os => cell_regrown q0 _ _
            have p1 : ∀ dd os, (Sort.grow (redrawn wr dd) os).cell? ⟨g, k * 35 + 1, none⟩ = some (nu x) := fun dd os => cell_regrown q1 _ _
            have p2 : ∀ dd os, (Sort.grow (redrawn wr dd) os).cell? ⟨go, j, none⟩ = some (nu (out.getD j 0)) := fun dd os => cell_regrown q2 _ _
            generalize out.getD j 0 = y at *
            by_cases hy : y < x
            · have d4 : decide (y < x) = true := decide_eq_true hy
              have hj1 := hid (HS1.out hy)
              clear HS1 HS2 hy
              go_wp2_with fail
              refine wp_region_quiet_below (by kernel_rfl) (by kernel_rfl) ?_
              iterate 19 (first | go_big_quiet_step (fail) | quiet_step (fail))
              refine wpQuiet_nil ?_
              intro _ hw'
              obtain ⟨⟨dq, osq⟩, hw''⟩ := hw'
              subst hw''
              have HBq := hid (HBi.out.trans ((below_regrown wr dq osq).mono HBi.out.size))
              generalize Sort.grow (redrawn wr dq) osq = w5 at *
              clear p0 p1 p2
              go_wp2
              go_roundw
              case rel => exact ⟨j + 1, hj1.out, by go_num, HBq⟩
              case measure => simp [intOf]; omega
            · have d4 : decide (y < x) = false := decide_eq_false hy
              have HJ := hid (HS2.out hy)
              clear HS1 HS2 hy
              go_wp2_with fail
              refine wp_region_quiet_below (by kernel_rfl) (by kernel_rfl) ?_
              iterate 19 (first | go_big_quiet_step (fail) | quiet_step (fail))
              refine wpQuiet_nil ?_
              intro _ hw'
              obtain ⟨⟨dq, osq⟩, hw''⟩ := hw'
              subst hw''
              have HBq := hid (HBi.out.trans ((below_regrown wr dq osq).mono HBi.out.size))
              generalize Sort.grow (redrawn wr dq) osq = w5 at *
              clear p0 p1 p2
              go_wp2_with fail
              generalize hC3 : (Value.slice (if oc = 0 then (some (⟨go, 0, none⟩ : Addr)) else Option.map (fun ad : Addr => ad.add 0) (some (⟨go, 0, none⟩ : Addr))) j oc) = C3 at *
              generalize hC17 : (Value.slice (if oc = j then (some (⟨go, 0, none⟩ : Addr)) else Option.map (fun ad : Addr => ad.add (j * 1)) (some (⟨go, 0, none⟩ : Addr))) (out.length - j) (oc - j)) = C17 at *
              have hjl2 : j ≤ out.length := by have := HJ.out; omega
              have HO5 := hid (own_kept HO.out HBq.out)
              have HR5 := hid (HR.out.kept HBq.out)
              have P3 : Hid (∀ W, Below w5.heap.size w5 W → Pc W 1 C3 j (ic (out.take j))) := fun W hW => by
                rw [← hC3, ← ic_take]
                exact pc_to (own_kept HO5.out hW) hjl2
              have P17 : Hid (∀ W, Below w5.heap.size w5 W → Pc W 1 C17 (out.length - j) (ic (out.drop j))) := fun W hW => by
                rw [← hC17, ← ic_drop]
                exact pc_from (own_kept HO5.out hW) hjl2
              have H3 := hid hC3
              have H17 := hid hC17
              have HBw : Hid (Below w.heap.size w w5) := HB.out.trans (HBq.out.mono HB.out.size)
              have HIN : Hid (insO out x = out.take j ++ ([x] ++ out.drop j)) := by
                show _ = _
                rw [ins_is, ← HJ.out]
              have q15 : Hid (w5.cell? ⟨g, k * 35 + 1, none⟩ = some (nu x)) := (HBq.out.cell (p := ⟨g, k * 35 + 1, none⟩) (World.block_lt_of_cell? w1 _ b1)).trans b1
              clear hC3 hC17
              refine wp_region_chain (N := 68) 19 [0, 4, 13, 14, 18] (vT w5.heap.size (out.take j) (out.take j ++ [x]) (insO out x) x) [undef, .slice (some ⟨go, 0, none⟩) out.length oc, nu j, C3, undef, ptr r 0, ptr r 0, ptr r (0 + 0), .slice (some ⟨g, 0, none⟩) L.length vc, nu k, ptr g (k * 35), ptr g (k * 35 + 1), nu x, undef, undef, .slice (some ⟨go, 0, none⟩) out.length oc, nu j, C17, undef] (by kernel_rfl) (by kernel_rfl) (by kernel_rfl) rfl ?_ ?_ ?_ ?_
              · intro i hi hn L' q u w' h
                exact vT_up (by rintro rfl; simp at hi) (by rintro rfl; simp at hi) (by rintro rfl; simp at hi) q h
              · intro i o' hi hS ho
                match i, ho with
                | 1, ho => cases ho; exact fun a w hB hk hc K h => op_move 5 _ rfl (hk 5 (by kernel_rfl)) h
                | 2, ho => cases ho; exact fun a w hB hk hc K h => op_move 7 _ rfl (hk 7 (by kernel_rfl)) h
                | 3, ho => cases ho; exact fun a w hB hk hc K h => op_cutTo 49 50 39 3 rfl uInts 1 size3 (some ⟨go, 0, none⟩) out.length oc j (by omega) (hc 1 49 (by kernel_rfl) (by decide) (by kernel_rfl)) (hc 2 50 (by kernel_rfl) (by decide) (by kernel_rfl)) (by rw [H3.out]; exact h)
                | 5, ho => cases ho; exact fun a w hB hk hc K h => op_move 0 _ rfl (hk 0 (by kernel_rfl)) h
                | 6, ho => cases ho; exact fun a w hB hk hc K h => op_nil 53 r 0 rfl (hc 5 53 (by kernel_rfl) (by decide) (by kernel_rfl)) h
                | 7, ho => cases ho; exact fun a w hB hk hc K h => op_fa 54 _ 0 r 0 0 rfl (fun W => fa_ref r W) (hc 6 54 (by kernel_rfl) (by decide) (by kernel_rfl)) h
                | 8, ho => cases ho; exact fun a w hB hk hc K h => op_load1 _ (.tmp 55) rfl r (0 + 0) (hc 7 55 (by kernel_rfl) (by decide) (by kernel_rfl)) _ _ (HR5.out.kept hB).cell uBlos rfl h
                | 9, ho => cases ho; exact fun a w hB hk hc K h => op_move 6 _ rfl (hk 6 (by kernel_rfl)) h
                | 10, ho => cases ho; exact fun a w hB hk hc K h => op_index 56 57 43 33 rfl uBlos 35 sizeBlo g L.length vc k hlt (hc 8 56 (by kernel_rfl) (by decide) (by kernel_rfl)) (hc 9 57 (by kernel_rfl) (by decide) (by kernel_rfl)) h
                | 11, ho => cases ho; exact fun a w hB hk hc K h => op_fa 58 _ 1 g (k * 35) 1 rfl (fun W => fa_num g (k * 35) W) (hc 10 58 (by kernel_rfl) (by decide) (by kernel_rfl)) h
                | 12, ho => cases ho; exact fun a w hB hk hc K h => op_load1 _ (.tmp 59) rfl g (k * 35 + 1) (hc 11 59 (by kernel_rfl) (by decide) (by kernel_rfl)) _ _ ((hB.cell (p := ⟨g, k * 35 + 1, none⟩) (World.block_lt_of_cell? w5 _ q15.out)).trans q15.out) Try.underlying3 rfl h
                | 15, ho => cases ho; exact fun a w hB hk hc K h => op_move 5 _ rfl (hk 5 (by kernel_rfl)) h
                | 16, ho => cases ho; exact fun a w hB hk hc K h => op_move 7 _ rfl (hk 7 (by kernel_rfl)) h
                | 17, ho => cases ho; exact fun a w hB hk hc K h => op_cutFrom 63 64 39 3 rfl uInts 1 size3 (some ⟨go, 0, none⟩) out.length oc j hjl2 (hc 15 63 (by kernel_rfl) (by decide) (by kernel_rfl)) (hc 16 64 (by kernel_rfl) (by decide) (by kernel_rfl)) (by rw [H17.out]; exact h)
                | 0, ho | 4, ho | 13, ho | 14, ho | 18, ho => simp at hS
                | (i + 19), ho => omega
              · intro i o' hi hS ho
                match i, ho with
                | 0, ho =>
                  cases ho
                  intro L' a V hLi hw hnot hcl hB hk hc hv
                  refine op_bs0 39 3 rfl uInts 1 size3 ⟨_, rfl, ?_, hB.trans ((below_a1 V _).mono hB.size), fun q d hq hqs hd => ?_⟩
                  · rw [vT0]
                    exact Or.inr ⟨V.heap.size, rfl, hB.size, top_obj V _⟩
                  · exact vT_up (by decide) (by decide) (by decide) q (vT_kept (below_a1 V _) q (hv q d hq hqs hd))
                | 4, ho =>
                  cases ho
                  intro L' a V hLi hw hnot hcl hB hk hc hv
                  have h1' := vT0.1 (hv 0 48 (hw 0 (by kernel_rfl)) (by decide) (by kernel_rfl))
                  rw [hLi] at h1'
                  obtain ⟨g4, e48, hge, hrow⟩ := h1'.resolve_left Bool.noConfusion
                  have e51 : a.tmps.getD 51 undef = C3 := hc 3 51 (by kernel_rfl) (by decide) (by kernel_rfl)
                  refine op_append 48 51 w5.heap.size 39 3 _ 1 8 rfl uInts info3 rfl (by decide) 0 j [] (ic (out.take j)) (by rw [e48]; exact own_none hge hrow) (by rw [e51]; exact P3.out V hB) (one_ic _) (by omega) (by decide) hB.size ?_
                  intro v1 w' g1 g2
                  rw [e48] at g2
                  refine ⟨v1, rfl, ?_, below_grown hB g2 (fun k hk => by cases hk; exact hge) hB.size, fun q d hq hqs hd => ?_⟩
                  · rw [vT4]
                    refine Or.inr ?_
                    have e3 : (out.take j).length = j := by rw [List.length_take]; omega
                    show World.ownsRow _ _ _ _ _ _ _
                    rw [e3]
                    simpa using g1
                  · have h0 := hv q d hq hqs hd
                    simp only [List.mem_cons, List.not_mem_nil, or_false] at hqs
                    rcases hqs with rfl | rfl | rfl | rfl | rfl
                    · rw [vT0]
                      exact Or.inl (up_self _ _)
                    · rw [hLi] at hq
                      cases hq
                    · rw [vT13] at h0 ⊢
                      rcases h0 with h0 | ⟨g8, e8, hg8, hr8⟩
                      · exact Or.inl (by rw [up_ne (by decide)]; exact h0)
                      · refine Or.inr ⟨g8, e8, hg8, (g2.block g8 (row_lt hr8) ?_).trans hr8⟩
                        intro e
                        cases e
                        rw [hrow] at hr8
                        simp at hr8
                    · rw [hnot 14 _ rfl (by kernel_rfl)] at hq
                      cases hq
                    · have h14 := hcl 18 _ rfl hq 14 (by kernel_rfl)
                      rw [hnot 14 _ rfl (by kernel_rfl)] at h14
                      cases h14
                | 13, ho =>
                  cases ho
                  intro L' a V hLi hw hnot hcl hB hk hc hv
                  refine op_bs1 39 3 60 rfl uInts _ 1 8 info3 (by decide) (by decide) (nu x) (hc 12 60 (by kernel_rfl) (by decide) (by kernel_rfl)) #[nu x] rfl rfl ⟨_, rfl, ?_, hB.trans ((below_a1 V _).mono hB.size), fun q d hq hqs hd => ?_⟩
                  · rw [vT13]
                    exact Or.inr ⟨V.heap.size, rfl, hB.size, top_obj V _⟩
                  · exact vT_up (by decide) (by decide) (by decide) q (vT_kept (below_a1 V _) q (hv q d hq hqs hd))
                | 14, ho =>
                  cases ho
                  intro L' a V hLi hw hnot hcl hB hk hc hv
                  have h4 := vT4.1 (hv 4 52 (hw 4 (by kernel_rfl)) (by decide) (by kernel_rfl))
                  have h13 := vT13.1 (hv 13 61 (hw 13 (by kernel_rfl)) (by decide) (by kernel_rfl))
                  rw [hLi] at h4 h13
                  have hO := h4.resolve_left Bool.noConfusion
                  obtain ⟨g8, e8, hg8, hr8⟩ := h13.resolve_left Bool.noConfusion
                  have e3 : (out.take j).length = j := by rw [List.length_take]; omega
                  refine op_append 52 61 w5.heap.size 39 3 _ 1 8 rfl uInts info3 rfl (by decide) (out.take j).length 1 (ic (out.take j)) [nu x] hO (by rw [e8]; exact own_one1 rfl hr8) (by simp [Value.oneCell']) (by omega) (by decide) hB.size ?_
                  intro v1 w' g1 g2
                  refine ⟨v1, rfl, ?_, below_grown hB g2 (own_ge hO) hB.size, fun q d hq hqs hd => ?_⟩
                  · rw [vT14]
                    refine Or.inr ?_
                    show World.ownsRow _ _ _ _ _ _ _
                    rw [ic_app, List.length_append]
                    exact g1
                  · simp only [List.mem_cons, List.not_mem_nil, or_false] at hqs
                    rcases hqs with rfl | rfl | rfl | rfl | rfl
                    · rw [vT0]
                      exact Or.inl (by rw [up_ne (by decide)]; exact hw 4 (by kernel_rfl))
                    · rw [vT4]
                      exact Or.inl (up_self _ _)
                    · rw [vT13]
                      exact Or.inl (up_self _ _)
                    · rw [hLi] at hq
                      cases hq
                    · rw [hnot 18 _ rfl (by kernel_rfl)] at hq
                      cases hq
                | 18, ho =>
                  cases ho
                  intro L' a V hLi hw hnot hcl hB hk hc hv
                  have h14 := vT14.1 (hv 14 62 (hw 14 (by kernel_rfl)) (by decide) (by kernel_rfl))
                  rw [hLi] at h14
                  have hO := h14.resolve_left Bool.noConfusion
                  have e65 : a.tmps.getD 65 undef = C17 := hc 17 65 (by kernel_rfl) (by decide) (by kernel_rfl)
                  have e3 : (out.take j ++ [x]).length = j + 1 := by rw [List.length_append, List.length_take]; simp; omega
                  refine op_append 62 65 w5.heap.size 39 3 _ 1 8 rfl uInts info3 rfl (by decide) (out.take j ++ [x]).length (out.length - j) (ic (out.take j ++ [x])) (ic (out.drop j)) hO (by rw [e65]; exact P17.out V hB) (one_ic _) (by omega) (by decide) hB.size ?_
                  intro v1 w' g1 g2
                  refine ⟨v1, rfl, ?_, below_grown hB g2 (own_ge hO) hB.size, fun q d hq hqs hd => ?_⟩
                  · rw [vT18]
                    show World.ownsRow _ _ _ _ _ _ _
                    rw [HIN.out, ← List.append_assoc, ic_app, List.length_append, List.length_drop]
                    exact g1
                  · simp only [List.mem_cons, List.not_mem_nil, or_false] at hqs
                    rcases hqs with rfl | rfl | rfl | rfl | rfl
                    · rw [vT0]
                      exact Or.inl (by rw [up_ne (by decide)]; exact hcl 14 _ rfl (hw 14 (by kernel_rfl)) 4 (by kernel_rfl))
                    · rw [vT4]
                      exact Or.inl (by rw [up_ne (by decide)]; exact hw 14 (by kernel_rfl))
                    · rw [vT13]
                      exact Or.inl (by rw [up_ne (by decide)]; exact hw 14 (by kernel_rfl))
                    · rw [vT14]
                      exact Or.inl (up_self _ _)
                    · rw [hLi] at hq
                      cases hq
                | 1, ho | 2, ho | 3, ho | 5, ho | 6, ho | 7, ho | 8, ho | 9, ho | 10, ho | 11, ho | 12, ho | 15, ho | 16, ho | 17, ho => simp at hS
                | (i + 19), ho => omega
              · intro L' o' a V hall hLn ho hB hs hd hk hcs hvs
                cases ho
                have hO := vT18.1 (hvs 18 66 (by decide) (by decide) (by kernel_rfl))
                refine op_assignD 66 5 _ rfl rfl rfl ?_
                have e := frame_of (a := a.put (some 5) (a.tmps.getD 66 undef)) (c := fun i => if i = 0 then a.tmps.getD 48 undef else if i = 4 then a.tmps.getD 52 undef else if i = 13 then a.tmps.getD 61 undef else if i = 14 then a.tmps.getD 62 undef else if i = 18 then a.tmps.getD 66 undef else if i = 19 then a.tmps.getD 66 undef else ([undef, .slice (some ⟨go, 0, none⟩) out.length oc, nu j, C3, undef, ptr r 0, ptr r 0, ptr r (0 + 0), .slice (some ⟨g, 0, none⟩) L.length vc, nu k, ptr g (k * 35), ptr g (k * 35 + 1), nu x, undef, undef, .slice (some ⟨go, 0, none⟩) out.length oc, nu j, C17, undef] : List Value).getD i undef) (by exact (put_size _ _ _).trans hs) (fun t ht => (put_ne a 5 t _ (fun e => by subst e; have h0 : false = true := ht; cases h0)).trans (hk t (keep_none ht))) (fun i d hd => by
                  by_cases i19 : i = 19
                  · subst i19
                    have h1 : some 5 = some d := hd
                    cases h1
                    rw [put_eq _ _ _ (by rw [hs]; decide)]
                    rfl
                  · have hin : i < 19 := by
                      have h2 : i < 20 := dst_lt hd
                      omega
                    have hd5 : d ≠ 5 := by
                      rintro rfl
                      have h3 := (okMd_at (ops := _) (N := 68) (by kernel_rfl)).2 i 5 hd
                      have h4 := h3.2 19 (by kernel_rfl)
                      omega
                    rw [put_ne _ _ _ _ (fun e => hd5 e.symm)]
                    by_cases i0 : i = 0
                    · subst i0
                      have h1 : some 48 = some d := hd
                      cases h1
                      rfl
                    · by_cases i4 : i = 4
                      · subst i4
                        have h1 : some 52 = some d := hd
                        cases h1
                        rfl
                      · by_cases i13 : i = 13
                        · subst i13
                          have h1 : some 61 = some d := hd
                          cases h1
                          rfl
                        · by_cases i14 : i = 14
                          · subst i14
                            have h1 : some 62 = some d := hd
                            cases h1
                            rfl
                          · by_cases i18 : i = 18
                            · subst i18
                              have h1 : some 66 = some d := hd
                              cases h1
                              rfl
                            · rw [if_neg i0, if_neg i4, if_neg i13, if_neg i14, if_neg i18, if_neg i19]
                              exact hcs i d hin (by simp [i0, i4, i13, i14, i18]) hd)
                have hdf : (a.put (some 5) (a.tmps.getD 66 undef)).defers = [] := hd
                generalize a.put (some 5) (a.tmps.getD 66 undef) = a' at e hdf ⊢
                generalize a.tmps.getD 48 undef = v48 at e
                generalize a.tmps.getD 52 undef = v52 at e
                generalize a.tmps.getD 61 undef = v61 at e
                generalize a.tmps.getD 62 undef = v62 at e
                generalize a.tmps.getD 66 undef = v66 at e hO
                have HO9 : Hid (OwnI V w.heap.size v66 (insO out x)) := own_mono hO HBw.out.size
                have HB9 : Hid (Below w.heap.size w V) := HBw.out.trans (hB.mono HBw.out.size)
                obtain ⟨tm, df⟩ := a'
                obtain rfl : df = [] := hdf
                have hA : tm = #[ptr r 0, nu o, undef, undef, Value.slice none 0 0, v66, nu k, nu j, nu k, ptr r 0, ptr r 0, ptr r 0, .slice (some ⟨g, 0, none⟩) L.length vc, nu L.length, .bool true, u15, u16, ptr r 0, ptr r 0, ptr r 0, .slice (some ⟨g, 0, none⟩) L.length vc, nu k, ptr g (k * 35), ptr g (k * 35), nu b.owner, nu o, .bool (b.owner != o), nu j, .slice (some ⟨go, 0, none⟩) out.length oc, nu out.length, .bool true, .bool true, .slice (some ⟨go, 0, none⟩) out.length oc, nu j, ptr go j, nu y, ptr r 0, ptr r 0, ptr r 0, .slice (some ⟨g, 0, none⟩) L.length vc, nu k, ptr g (k * 35), ptr g (k * 35 + 1), nu x, .bool false, .bool false, u46, u47, v48, .slice (some ⟨go, 0, none⟩) out.length oc, nu j, C3, v52, ptr r 0, ptr r 0, ptr r (0 + 0), .slice (some ⟨g, 0, none⟩) L.length vc, nu k, ptr g (k * 35), ptr g (k * 35 + 1), nu x, v61, v62, .slice (some ⟨go, 0, none⟩) out.length oc, nu j, C17, v66, undef] := e.trans (by kernel_rfl)
                clear e hk hcs hvs hs hall hO
                subst hA
                go_wp2
                go_roundw
                case rel => exact ⟨k + 1, by omega, by go_num, hid (by rw [HI.out]; exact HO9.out), HB9⟩
                case measure => simp [intOf]; omega
          · have d3 : decide ((j : Int) < (out.length : Int)) = false := by simpa using hjl
            have HJ : Hid (j = lowN out x) := by show _ = _; omega
            go_wp2_with fail
            refine wp_region_quiet_below (by kernel_rfl) (by kernel_rfl) ?_
            iterate 19 (first | go_big_quiet_step (fail) | quiet_step (fail))
            refine wpQuiet_nil ?_
            intro _ hw'
            obtain ⟨⟨dq, osq⟩, hw''⟩ := hw'
            subst hw''
            have HBq := hid (HBi.out.trans ((below_regrown wr dq osq).mono HBi.out.size))
            generalize Sort.grow (redrawn wr dq) osq = w5 at *
            go_wp2_with fail
            generalize hC3 : (Value.slice (if oc = 0 then ox else Option.map (fun ad : Addr => ad.add 0) ox) j oc) = C3 at *
            generalize hC17 : (Value.slice (if oc = j then ox else Option.map (fun ad : Addr => ad.add (j * 1)) ox) (out.length - j) (oc - j)) = C17 at *
            have hjl2 : j ≤ out.length := by have := HJ.out; omega
            have HO5 := hid (own_kept HO.out HBq.out)
            have HR5 := hid (HR.out.kept HBq.out)
            have P3 : Hid (∀ W, Below w5.heap.size w5 W → Pc W 1 C3 j (ic (out.take j))) := fun W hW => by
              rw [← hC3, ← ic_take]
              exact pc_to (own_kept HO5.out hW) hjl2
            have P17 : Hid (∀ W, Below w5.heap.size w5 W → Pc W 1 C17 (out.length - j) (ic (out.drop j))) := fun W hW => by
              rw [← hC17, ← ic_drop]
              exact pc_from (own_kept HO5.out hW) hjl2
            have H3 := hid hC3
            have H17 := hid hC17
            have HBw : Hid (Below w.heap.size w w5) := HB.out.trans (HBq.out.mono HB.out.size)
            have HIN : Hid (insO out x = out.take j ++ ([x] ++ out.drop j)) := by
              show _ = _
              rw [ins_is, ← HJ.out]
            have q15 : Hid (w5.cell? ⟨g, k * 35 + 1, none⟩ = some (nu x)) := (HBq.out.cell (p := ⟨g, k * 35 + 1, none⟩) (World.block_lt_of_cell? w1 _ b1)).trans b1
            clear hC3 hC17
            refine wp_region_chain (N := 68) 19 [0, 4, 13, 14, 18] (vT w5.heap.size (out.take j) (out.take j ++ [x]) (insO out x) x) [undef, .slice ox out.length oc, nu j, C3, undef, ptr r 0, ptr r 0, ptr r (0 + 0), .slice (some ⟨g, 0, none⟩) L.length vc, nu k, ptr g (k * 35), ptr g (k * 35 + 1), nu x, undef, undef, .slice ox out.length oc, nu j, C17, undef] (by kernel_rfl) (by kernel_rfl) (by kernel_rfl) rfl ?_ ?_ ?_ ?_
            · intro i hi hn L' q u w' h
              exact vT_up (by rintro rfl; simp at hi) (by rintro rfl; simp at hi) (by rintro rfl; simp at hi) q h
            · intro i o' hi hS ho
              match i, ho with
              | 1, ho => cases ho; exact fun a w hB hk hc K h => op_move 5 _ rfl (hk 5 (by kernel_rfl)) h
              | 2, ho => cases ho; exact fun a w hB hk hc K h => op_move 7 _ rfl (hk 7 (by kernel_rfl)) h
              | 3, ho => cases ho; exact fun a w hB hk hc K h => op_cutTo 49 50 39 3 rfl uInts 1 size3 ox out.length oc j (by omega) (hc 1 49 (by kernel_rfl) (by decide) (by kernel_rfl)) (hc 2 50 (by kernel_rfl) (by decide) (by kernel_rfl)) (by rw [H3.out]; exact h)
              | 5, ho => cases ho; exact fun a w hB hk hc K h => op_move 0 _ rfl (hk 0 (by kernel_rfl)) h
              | 6, ho => cases ho; exact fun a w hB hk hc K h => op_nil 53 r 0 rfl (hc 5 53 (by kernel_rfl) (by decide) (by kernel_rfl)) h
              | 7, ho => cases ho; exact fun a w hB hk hc K h => op_fa 54 _ 0 r 0 0 rfl (fun W => fa_ref r W) (hc 6 54 (by kernel_rfl) (by decide) (by kernel_rfl)) h
              | 8, ho => cases ho; exact fun a w hB hk hc K h => op_load1 _ (.tmp 55) rfl r (0 + 0) (hc 7 55 (by kernel_rfl) (by decide) (by kernel_rfl)) _ _ (HR5.out.kept hB).cell uBlos rfl h
              | 9, ho => cases ho; exact fun a w hB hk hc K h => op_move 6 _ rfl (hk 6 (by kernel_rfl)) h
              | 10, ho => cases ho; exact fun a w hB hk hc K h => op_index 56 57 43 33 rfl uBlos 35 sizeBlo g L.length vc k hlt (hc 8 56 (by kernel_rfl) (by decide) (by kernel_rfl)) (hc 9 57 (by kernel_rfl) (by decide) (by kernel_rfl)) h
              | 11, ho => cases ho; exact fun a w hB hk hc K h => op_fa 58 _ 1 g (k * 35) 1 rfl (fun W => fa_num g (k * 35) W) (hc 10 58 (by kernel_rfl) (by decide) (by kernel_rfl)) h
              | 12, ho => cases ho; exact fun a w hB hk hc K h => op_load1 _ (.tmp 59) rfl g (k * 35 + 1) (hc 11 59 (by kernel_rfl) (by decide) (by kernel_rfl)) _ _ ((hB.cell (p := ⟨g, k * 35 + 1, none⟩) (World.block_lt_of_cell? w5 _ q15.out)).trans q15.out) Try.underlying3 rfl h
              | 15, ho => cases ho; exact fun a w hB hk hc K h => op_move 5 _ rfl (hk 5 (by kernel_rfl)) h
              | 16, ho => cases ho; exact fun a w hB hk hc K h => op_move 7 _ rfl (hk 7 (by kernel_rfl)) h
              | 17, ho => cases ho; exact fun a w hB hk hc K h => op_cutFrom 63 64 39 3 rfl uInts 1 size3 ox out.length oc j hjl2 (hc 15 63 (by kernel_rfl) (by decide) (by kernel_rfl)) (hc 16 64 (by kernel_rfl) (by decide) (by kernel_rfl)) (by rw [H17.out]; exact h)
              | 0, ho | 4, ho | 13, ho | 14, ho | 18, ho => simp at hS
              | (i + 19), ho => omega
            · intro i o' hi hS ho
              match i, ho with
              | 0, ho =>
                cases ho
                intro L' a V hLi hw hnot hcl hB hk hc hv
                refine op_bs0 39 3 rfl uInts 1 size3 ⟨_, rfl, ?_, hB.trans ((below_a1 V _).mono hB.size), fun q d hq hqs hd => ?_⟩
                · rw [vT0]
                  exact Or.inr ⟨V.heap.size, rfl, hB.size, top_obj V _⟩
                · exact vT_up (by decide) (by decide) (by decide) q (vT_kept (below_a1 V _) q (hv q d hq hqs hd))
              | 4, ho =>
                cases ho
                intro L' a V hLi hw hnot hcl hB hk hc hv
                have h1' := vT0.1 (hv 0 48 (hw 0 (by kernel_rfl)) (by decide) (by kernel_rfl))
                rw [hLi] at h1'
                obtain ⟨g4, e48, hge, hrow⟩ := h1'.resolve_left Bool.noConfusion
                have e51 : a.tmps.getD 51 undef = C3 := hc 3 51 (by kernel_rfl) (by decide) (by kernel_rfl)
                refine op_append 48 51 w5.heap.size 39 3 _ 1 8 rfl uInts info3 rfl (by decide) 0 j [] (ic (out.take j)) (by rw [e48]; exact own_none hge hrow) (by rw [e51]; exact P3.out V hB) (one_ic _) (by omega) (by decide) hB.size ?_
                intro v1 w' g1 g2
                rw [e48] at g2
                refine ⟨v1, rfl, ?_, below_grown hB g2 (fun k hk => by cases hk; exact hge) hB.size, fun q d hq hqs hd => ?_⟩
                · rw [vT4]
                  refine Or.inr ?_
                  have e3 : (out.take j).length = j := by rw [List.length_take]; omega
                  show World.ownsRow _ _ _ _ _ _ _
                  rw [e3]
                  simpa using g1
                · have h0 := hv q d hq hqs hd
                  simp only [List.mem_cons, List.not_mem_nil, or_false] at hqs
                  rcases hqs with rfl | rfl | rfl | rfl | rfl
                  · rw [vT0]
                    exact Or.inl (up_self _ _)
                  · rw [hLi] at hq
                    cases hq
                  · rw [vT13] at h0 ⊢
                    rcases h0 with h0 | ⟨g8, e8, hg8, hr8⟩
                    · exact Or.inl (by rw [up_ne (by decide)]; exact h0)
                    · refine Or.inr ⟨g8, e8, hg8, (g2.block g8 (row_lt hr8) ?_).trans hr8⟩
                      intro e
                      cases e
                      rw [hrow] at hr8
                      simp at hr8
                  · rw [hnot 14 _ rfl (by kernel_rfl)] at hq
                    cases hq
                  · have h14 := hcl 18 _ rfl hq 14 (by kernel_rfl)
                    rw [hnot 14 _ rfl (by kernel_rfl)] at h14
                    cases h14
              | 13, ho =>
                cases ho
                intro L' a V hLi hw hnot hcl hB hk hc hv
                refine op_bs1 39 3 60 rfl uInts _ 1 8 info3 (by decide) (by decide) (nu x) (hc 12 60 (by kernel_rfl) (by decide) (by kernel_rfl)) #[nu x] rfl rfl ⟨_, rfl, ?_, hB.trans ((below_a1 V _).mono hB.size), fun q d hq hqs hd => ?_⟩
                · rw [vT13]
                  exact Or.inr ⟨V.heap.size, rfl, hB.size, top_obj V _⟩
                · exact vT_up (by decide) (by decide) (by decide) q (vT_kept (below_a1 V _) q (hv q d hq hqs hd))
              | 14, ho =>
                cases ho
                intro L' a V hLi hw hnot hcl hB hk hc hv
                have h4 := vT4.1 (hv 4 52 (hw 4 (by kernel_rfl)) (by decide) (by kernel_rfl))
                have h13 := vT13.1 (hv 13 61 (hw 13 (by kernel_rfl)) (by decide) (by kernel_rfl))
                rw [hLi] at h4 h13
                have hO := h4.resolve_left Bool.noConfusion
                obtain ⟨g8, e8, hg8, hr8⟩ := h13.resolve_left Bool.noConfusion
                have e3 : (out.take j).length = j := by rw [List.length_take]; omega
                refine op_append 52 61 w5.heap.size 39 3 _ 1 8 rfl uInts info3 rfl (by decide) (out.take j).length 1 (ic (out.take j)) [nu x] hO (by rw [e8]; exact own_one1 rfl hr8) (by simp [Value.oneCell']) (by omega) (by decide) hB.size ?_
                intro v1 w' g1 g2
                refine ⟨v1, rfl, ?_, below_grown hB g2 (own_ge hO) hB.size, fun q d hq hqs hd => ?_⟩
                · rw [vT14]
                  refine Or.inr ?_
                  show World.ownsRow _ _ _ _ _ _ _
                  rw [ic_app, List.length_append]
                  exact g1
                · simp only [List.mem_cons, List.not_mem_nil, or_false] at hqs
                  rcases hqs with rfl | rfl | rfl | rfl | rfl
                  · rw [vT0]
                    exact Or.inl (by rw [up_ne (by decide)]; exact hw 4 (by kernel_rfl))
                  · rw [vT4]
                    exact Or.inl (up_self _ _)
                  · rw [vT13]
                    exact Or.inl (up_self _ _)
                  · rw [hLi] at hq
                    cases hq
                  · rw [hnot 18 _ rfl (by kernel_rfl)] at hq
                    cases hq
              | 18, ho =>
                cases ho
                intro L' a V hLi hw hnot hcl hB hk hc hv
                have h14 := vT14.1 (hv 14 62 (hw 14 (by kernel_rfl)) (by decide) (by kernel_rfl))
                rw [hLi] at h14
                have hO := h14.resolve_left Bool.noConfusion
                have e65 : a.tmps.getD 65 undef = C17 := hc 17 65 (by kernel_rfl) (by decide) (by kernel_rfl)
                have e3 : (out.take j ++ [x]).length = j + 1 := by rw [List.length_append, List.length_take]; simp; omega
                refine op_append 62 65 w5.heap.size 39 3 _ 1 8 rfl uInts info3 rfl (by decide) (out.take j ++ [x]).length (out.length - j) (ic (out.take j ++ [x])) (ic (out.drop j)) hO (by rw [e65]; exact P17.out V hB) (one_ic _) (by omega) (by decide) hB.size ?_
                intro v1 w' g1 g2
                refine ⟨v1, rfl, ?_, below_grown hB g2 (own_ge hO) hB.size, fun q d hq hqs hd => ?_⟩
                · rw [vT18]
                  show World.ownsRow _ _ _ _ _ _ _
                  rw [HIN.out, ← List.append_assoc, ic_app, List.length_append, List.length_drop]
                  exact g1
                · simp only [List.mem_cons, List.not_mem_nil, or_false] at hqs
                  rcases hqs with rfl | rfl | rfl | rfl | rfl
                  · rw [vT0]
                    exact Or.inl (by rw [up_ne (by decide)]; exact hcl 14 _ rfl (hw 14 (by kernel_rfl)) 4 (by kernel_rfl))
                  · rw [vT4]
                    exact Or.inl (by rw [up_ne (by decide)]; exact hw 14 (by kernel_rfl))
                  · rw [vT13]
                    exact Or.inl (by rw [up_ne (by decide)]; exact hw 14 (by kernel_rfl))
                  · rw [vT14]
                    exact Or.inl (up_self _ _)
                  · rw [hLi] at hq
                    cases hq
              | 1, ho | 2, ho | 3, ho | 5, ho | 6, ho | 7, ho | 8, ho | 9, ho | 10, ho | 11, ho | 12, ho | 15, ho | 16, ho | 17, ho => simp at hS
              | (i + 19), ho => omega
            · intro L' o' a V hall hLn ho hB hs hd hk hcs hvs
              cases ho
              have hO := vT18.1 (hvs 18 66 (by decide) (by decide) (by kernel_rfl))
              refine op_assignD 66 5 _ rfl rfl rfl ?_
              have e := frame_of (a := a.put (some 5) (a.tmps.getD 66 undef)) (c := fun i => if i = 0 then a.tmps.getD 48 undef else if i = 4 then a.tmps.getD 52 undef else if i = 13 then a.tmps.getD 61 undef else if i = 14 then a.tmps.getD 62 undef else if i = 18 then a.tmps.getD 66 undef else if i = 19 then a.tmps.getD 66 undef else ([undef, .slice ox out.length oc, nu j, C3, undef, ptr r 0, ptr r 0, ptr r (0 + 0), .slice (some ⟨g, 0, none⟩) L.length vc, nu k, ptr g (k * 35), ptr g (k * 35 + 1), nu x, undef, undef, .slice ox out.length oc, nu j, C17, undef] : List Value).getD i undef) (by exact (put_size _ _ _).trans hs) (fun t ht => (put_ne a 5 t _ (fun e => by subst e; have h0 : false = true := ht; cases h0)).trans (hk t (keep_none ht))) (fun i d hd => by
                by_cases i19 : i = 19
                · subst i19
                  have h1 : some 5 = some d := hd
                  cases h1
                  rw [put_eq _ _ _ (by rw [hs]; decide)]
                  rfl
                · have hin : i < 19 := by
                    have h2 : i < 20 := dst_lt hd
                    omega
                  have hd5 : d ≠ 5 := by
                    rintro rfl
                    have h3 := (okMd_at (ops := _) (N := 68) (by kernel_rfl)).2 i 5 hd
                    have h4 := h3.2 19 (by kernel_rfl)
                    omega
                  rw [put_ne _ _ _ _ (fun e => hd5 e.symm)]
                  by_cases i0 : i = 0
                  · subst i0
                    have h1 : some 48 = some d := hd
                    cases h1
                    rfl
                  · by_cases i4 : i = 4
                    · subst i4
                      have h1 : some 52 = some d := hd
                      cases h1
                      rfl
                    · by_cases i13 : i = 13
                      · subst i13
                        have h1 : some 61 = some d := hd
                        cases h1
                        rfl
                      · by_cases i14 : i = 14
                        · subst i14
                          have h1 : some 62 = some d := hd
                          cases h1
                          rfl
                        · by_cases i18 : i = 18
                          · subst i18
                            have h1 : some 66 = some d := hd
                            cases h1
                            rfl
                          · rw [if_neg i0, if_neg i4, if_neg i13, if_neg i14, if_neg i18, if_neg i19]
                            exact hcs i d hin (by simp [i0, i4, i13, i14, i18]) hd)
              have hdf : (a.put (some 5) (a.tmps.getD 66 undef)).defers = [] := hd
              generalize a.put (some 5) (a.tmps.getD 66 undef) = a' at e hdf ⊢
              generalize a.tmps.getD 48 undef = v48 at e
              generalize a.tmps.getD 52 undef = v52 at e
              generalize a.tmps.getD 61 undef = v61 at e
              generalize a.tmps.getD 62 undef = v62 at e
              generalize a.tmps.getD 66 undef = v66 at e hO
              have HO9 : Hid (OwnI V w.heap.size v66 (insO out x)) := own_mono hO HBw.out.size
              have HB9 : Hid (Below w.heap.size w V) := HBw.out.trans (hB.mono HBw.out.size)
              obtain ⟨tm, df⟩ := a'
              obtain rfl : df = [] := hdf
              have hA : tm = #[ptr r 0, nu o, undef, undef, Value.slice none 0 0, v66, nu k, nu j, nu k, ptr r 0, ptr r 0, ptr r 0, .slice (some ⟨g, 0, none⟩) L.length vc, nu L.length, .bool true, u15, u16, ptr r 0, ptr r 0, ptr r 0, .slice (some ⟨g, 0, none⟩) L.length vc, nu k, ptr g (k * 35), ptr g (k * 35), nu b.owner, nu o, .bool (b.owner != o), nu j, .slice ox out.length oc, nu out.length, .bool false, .bool false, undef, undef, undef, undef, undef, undef, undef, undef, undef, undef, undef, undef, undef, .bool false, u46, u47, v48, .slice ox out.length oc, nu j, C3, v52, ptr r 0, ptr r 0, ptr r (0 + 0), .slice (some ⟨g, 0, none⟩) L.length vc, nu k, ptr g (k * 35), ptr g (k * 35 + 1), nu x, v61, v62, .slice ox out.length oc, nu j, C17, v66, undef] := e.trans (by kernel_rfl)
              clear e hk hcs hvs hs hall hO
              subst hA
              go_wp2
              go_roundw
              case rel => exact ⟨k + 1, by omega, by go_num, hid (by rw [HI.out]; exact HO9.out), HB9⟩
              case measure => simp [intOf]; omega
      · have d2 : (b.owner == o) = false := by simp [hbo]
        have HI : Hid (insAll [] (numsO (L.take (k + 1)) o) = out) := by
          show _ = _
          rw [HT.out, if_neg hbo, List.append_nil, hout]
        clear hbo HT hout
        go_wp2
        go_roundw
        case rel => exact ⟨k + 1, by omega, by go_num, hid (by rw [HI.out]; exact HO.out), HB⟩
        case measure => simp [intOf]; omega
    · have d1 : decide ((k : Int) < (L.length : Int)) = false := by simpa using hlt
      have hke : L.take k = L := List.take_of_length_le (by omega)
      have HS : Hid (IntsAt wr u5 (sortO L o)) := by
        have := HO.out
        rw [hke] at this
        exact ints_of this
      clear hke
      go_wp2
      go_ret
      exact ⟨_, rfl, HS.out, HB.out⟩
end Go.Proofs.Ytjpclmkkccffhaa.Bl
