/-
  The prober's Tick.
-/
import Derived.Test.YtkjgiidmajjonaaQti
namespace Go.Proofs.Ytkjgiidmajjonaa.Kn
open Go Go.RowKit
set_option maxRecDepth 100000

theorem rd_nil (b : Bool) : rdB b [] = false := by unfold rdB; simp
section
variable {w : World} {pp g n me : Nat} {p : Pb} {busy : Bool} {T M : List En} {u : Value} {TI TN TA : List En} {ua : Value} {g' cap' : Nat} {L2 : List En} {S2 : List Value} {W W' : World}
theorem TiI.tn {TN' : List En} (h : TiI w pp g n me p busy T M u TI TN TA ua g' cap' L2 S2 W) (he : rdB busy TN' = rdB busy TN) : TiI w pp g n me p busy T M u TI TN' TA ua g' cap' L2 S2 W := ⟨by rw [he]; exact h.r, h.perm, h.hp, h.tl, h.un, h.ow, h.an, h.au, h.lt, h.gg, h.kp⟩
theorem TiI.ta {TA' : List En} (h : TiI w pp g n me p busy T M u TI TN TA ua g' cap' L2 S2 W) (he : askL TA' = askL TA) : TiI w pp g n me p busy T M u TI TN TA' ua g' cap' L2 S2 W := ⟨h.r, h.perm, h.hp, h.tl, h.un, by rw [he]; exact h.ow, h.an, h.au, h.lt, h.gg, h.kp⟩
theorem ow_shape {W : World} {base n : Nat} {v : Value} {xs : List Value} (h : W.ownsRow base 3 1 v n xs) : ∃ ax cx, v = .slice ax n cx := own_shape h
end
/-- A number to be stored ahead of another. -/
theorem rowE {w : World} {X : Nat} {t k : Int} (h : w.heap[X]? = some (.cells #[nu t, nu k] 49)) : w.heap[X]? = some (.cells ([] ++ ([nu t] ++ [nu k])).toArray 49) := h
section
variable {w : World} {base n me pp : Nat} {F : List Nat} {p : Pb}
set_option maxHeartbeats 32000000 in
theorem tick_any (h : KS base n me pp F p w) (hb : base ≤ w.heap.size) (h2 : 2 ≤ n) (h8 : n ≤ 8) (hm : me < n) (hn : 0 ≤ p.now ∧ p.now ≤ 1000) (b : Bool) : Calls Try.prog 17 #[pt pp 0, .bool b] w fun e w' => ∃ F' u, e = .returned (.tuple #[u, nu (tickN me b p)]) ∧ IntsAt w' u (outT n me p) ∧ KS base n me pp F' (tickP n me b p) w' ∧ Kp F w w' ∧ (∀ b, u.ownBlock = some b → w.heap.size ≤ b ∧ b ∉ F' ∧ b < w'.heap.size) ∧ ∀ x ∈ F', x ∈ F ∨ w.heap.size ≤ x := by
  obtain ⟨g, cap, L, S, rfl, hge, R, P, hx⟩ := h
  have HM := hid (made_any R (by omega))
  have hlt := R.lt
  have I1 : I64 (p.now + 1) := by unfold I64; omega
  have c2 := R.c2
  have OBJ : Hid (w.heap[pp]? = some (.cells ([nu n, nu me] ++ ([nu p.now] ++ [nu p.next, Value.slice (some ⟨g, 0, none⟩) L.length cap, fnA])).toArray 54)) := hid R.obj
  have HR := hid R
  have HP := hid P
  have hL9 := P.short h8
  have HGE := hid hge
  have HX := hid hx
  clear R P hge hx
  go_enter Try.func17, Try.ntmps17
  go_wp2_with fail
  refine HM.out.mono ?_
  rintro e W1 ⟨rfl, hw⟩
  subst W1
  clear HM
  go_upto_region 4 with (first
    | ((with_reducible refine wl_put1 3 (.tmp 19) (.tmp 17) ?_ ?_ pp 2 ?_ ?_ [nu n, nu me] [nu p.next, Value.slice (some ⟨g, 0, none⟩) L.length cap, fnA] (nu p.now) (nu (p.now + 1)) ?_ 54 OBJ.out ?_ ?_ ?_ ?_); exact rfl; exact rfl; exact rfl; exact rfl; exact rfl; exact rfl; exact rfl; exact size3; intro W1 r1 b1))
  have R1 : Hid (RAt W1 pp g cap n me (p.now + 1) p.next L S) := hid ⟨r1, b1.row HR.out.row HR.out.ne, HR.out.ne, HR.out.sz⟩
  have K1 : Hid (Kp [pp, g] w W1) := hid ⟨b1.os, b1.tape, b1.output, by rw [b1.size]; exact Nat.le_refl _, fun k hk hX => b1.block k (by simp at hX; exact hX.1)⟩
  have HSZ := hid b1.size
  have HA := hid (all_any R1.out (by omega) HP.out.hp)
  clear r1 b1 c2 OBJ R1
  go_wp2_with fail
  refine HA.out.mono ?_
  rintro e W2 ⟨u, T, M, S2, rfl, hI, hl, r2, o2, k2⟩
  rw [HSZ.out] at o2
  have A2 : Hid (TiI w pp g n me p b T M u [] [] [] (.slice none 0 0) g cap M S2 W2) := hid ⟨by rw [rd_nil]; exact r2, .refl _, hI.hp, o2, (fun e => by have := own_ge o2 _ e; omega), World.ownsRow_nil _ _ _ _, (fun e => by cases e), (fun b hb => by cases hb), hlt, .inl rfl, K1.out.trans k2⟩
  obtain ⟨ax, cx, rfl⟩ := own_shape o2
  have hT9 : T.length ≤ 9 := by have := hI.perm.length_eq; simp at this; omega
  have HI := hid hI
  have HLt := hid hl
  have ND := hid (tk_nodup HP.out h8 hI)
  clear hI hl r2 o2 k2 HA K1
  go_wp2
  go_loopw [6, 7, 24] (fun ua rd iv wr => ∃ (i : Nat) (g' cap' : Nat) (L2 : List En) (S2 : List Value), iv = nu i ∧ i ≤ T.length ∧ rd = nu (if rdB b (T.take i) then p.next else -1) ∧ Hid (TiI w pp g n me p b T M (.slice ax T.length cx) (T.take i) (T.take i) (T.take i) ua g' cap' L2 S2 wr)) (fun _ _ iv _ => T.length - (intOf iv).toNat)
  case atStart => exact ⟨0, g, cap, M, S2, rfl, Nat.zero_le _, by rw [List.take_zero, rd_nil]; rfl, by rw [List.take_zero]; exact A2⟩
  case round =>
    obtain ⟨i, g3, cap3, L3, S3, rfl, hi, rfl, A⟩ := hrel
    clear A2
    by_cases hlt2 : i < T.length
    · have d1 : decide ((i : Int) < (T.length : Int)) = true := decide_eq_true (by omega)
      have d1' : decide (i < T.length) = true := decide_eq_true hlt2
      obtain ⟨gu, cu, eu, e0, e1⟩ := own_at A.out.tl hlt2
      cases eu
      have hTJ : Hid (T.take (i + 1) = T.take i ++ [at_ T i]) := hid (by rw [at_get hlt2, List.take_append_getElem hlt2])
      have hmem : Hid (at_ T i ∈ T) := hid (by rw [at_get hlt2]; exact List.getElem_mem hlt2)
      generalize at_ T i = e at *
      obtain ⟨t, k⟩ := e
      have e0' : wr.cell? ⟨gu, i * 2, none⟩ = some (nu t) := e0
      have e1' : wr.cell? ⟨gu, i * 2 + 1, none⟩ = some (nu k) := e1
      clear e0 e1
      have SD := sizeD
      have ZD := zeroD
      have I2 : I64 ((i : Int) + 1) := by unfold I64; omega
      have hsz := A.out.kp.size
      have hL3 : L3.length ≤ 9 := by
        have h1 := A.out.perm.length_eq
        have h2 := HI.out.perm.length_eq
        simp at h1 h2
        omega
      go_upto_region 9 with fail
      have B0 := hid (below_a1 wr (.cells #[nu t, nu k] 49))
      have X0 := hid (top_obj wr (.cells #[nu t, nu k] 49))
      have hXp : pp < wr.heap.size ∧ g3 < wr.heap.size := A.out.r.lt
      have hXu : ∀ x, (Value.slice (some ⟨gu, 0, none⟩) T.length cx).ownBlock = some x → x < wr.heap.size := own_lt A.out.tl
      have hXa := own_lt A.out.ow
      have A0 := hid (A.out.kept B0.out)
      obtain ⟨X, hX⟩ : ∃ X, wr.heap.size = X := ⟨_, rfl⟩
      rw [hX] at X0 hXp hsz hXu hXa ⊢
      clear hX e0' e1' A
      generalize wr.alloc (.cells #[nu t, nu k] 49) = W0 at *
      have y0 : W0.cell? ⟨X, 0, none⟩ = some (nu t) := row_cell (A := []) (C := [nu k]) X0.out rfl rfl
      have y1 : W0.cell? ⟨X, 1, none⟩ = some (nu k) := row_cell (A := [nu t]) (C := []) X0.out rfl rfl
      by_cases hk8 : k = 8
      · have HK8 := hid hk8
        subst hk8
        have d2 : ((8 : Int) != 8) = false := by decide
        have HAK : Hid (askL (T.take (i + 1)) = askL (T.take i)) := hid (by rw [hTJ.out, askL_snoc, if_pos rfl, List.append_nil])
        cases b with
        | true =>
          have RDE : Hid (rdB true (T.take (i + 1)) = rdB true (T.take i)) := hid (by unfold rdB; rfl)
          have A4 := hid ((A0.out.ta HAK.out).tn RDE.out)
          have UPD : updT (p.now + 1) true (t, 8) = (t, 8) := by unfold updT; rw [if_pos rfl, if_pos rfl]
          clear A0
          go_upto_region 16 with fail
          have HPU : Hid (∀ W, Below W0.heap.size W0 W → Calls Try.prog 20 #[.iface 56 (pt pp 4), .iface 49 (.agg [nu (t), nu (8)].toArray)] W fun e w' => e = .returned (.tuple #[]) ∧ (PuR W0 pp g3 n me (p.now + 1) (if rdB true (T.take (i + 1)) then nxP n me p.next else p.next) L3 ((t), (8)) w' ∧ w'.heap[X]? = some (.cells #[nu (t), nu (8)] 49))) := fun W hbw => by
            refine (hpush_r A4.out.r (by omega) A4.out.hp ((t), (8)) W hbw).mono ?_
            rintro e w' ⟨rfl, g4, cap4, L4, S4, q1, q2, q3, q4⟩
            exact ⟨rfl, ⟨g4, cap4, L4, S4, q1, q2, q3, q4⟩, q3.row X0.out (by simp; omega)⟩
          have HXR : Hid (∀ G W, mvJ 6 W0 (fun W => PuR W0 pp g3 n me (p.now + 1) (if rdB true (T.take (i + 1)) then nxP n me p.next else p.next) L3 ((t), (8)) W ∧ W.heap[X]? = some (.cells #[nu (t), nu (8)] 49)) G W → ∀ j v, [nu (t), nu (8)][j]? = some v → W.cell? ⟨X, 0 + j, none⟩ = some v) := fun G W hJ => hJ.both (fun h => row_zeroY h.2) (fun h => row_zeroY (row_kept X0.out h))
          refine wp_region_cs (N := 72) [(pt pp 0), (pt pp 0), (pt pp 4), (.iface 56 (pt pp 4)), (.agg ([nu (t), nu (8)]).toArray), (.iface 49 (.agg ([nu (t), nu (8)]).toArray)), (.tuple #[])] (mvJ 6 W0 (fun W => PuR W0 pp g3 n me (p.now + 1) (if rdB true (T.take (i + 1)) then nxP n me p.next else p.next) L3 ((t), (8)) W ∧ W.heap[X]? = some (.cells #[nu (t), nu (8)] 49))) [(62, (pt pp 0)), (63, (pt pp 0)), (64, (pt pp 4)), (65, (.iface 56 (pt pp 4))), (66, (.agg ([nu (t), nu (8)]).toArray)), (67, (.iface 49 (.agg ([nu (t), nu (8)]).toArray))), (68, (.tuple #[]))] (by kernel_rfl) (by kernel_rfl) rfl (fun w1 hb => hb) (by kernel_rfl) ?_ ?_
          · intro i1 o ho
            match i1, ho with
            | 0, ho => cases ho; exact fun L1 a w1 hLi hw hnot hJ hk hv K h => op_move 0 _ rfl (hk 0 (by kernel_rfl)) (h _ (hJ.up (by decide)))
            | 1, ho => cases ho; exact fun L1 a w1 hLi hw hnot hJ hk hv K h => op_nil 62 pp 0 rfl (hv 0 62 (by kernel_rfl) (by kernel_rfl)) (h _ (hJ.up (by decide)))
            | 2, ho => cases ho; exact fun L1 a w1 hLi hw hnot hJ hk hv K h => op_fa 63 _ 4 pp 0 4 rfl (fun W => by kernel_rfl) (hv 1 63 (by kernel_rfl) (by kernel_rfl)) (h _ (hJ.up (by decide)))
            | 3, ho => cases ho; exact fun L1 a w1 hLi hw hnot hJ hk hv K h => op_mkI 64 56 (pt pp 4) rfl (hv 2 64 (by kernel_rfl) (by kernel_rfl)) (by kernel_rfl) (h _ (hJ.up (by decide)))
            | 4, ho => cases ho; exact fun L1 a w1 hLi hw hnot hJ hk hv K h => op_load _ (.tmp 9) rfl X 0 (hk 9 (by kernel_rfl)) ([nu (t), nu (8)]) _ (HXR.out _ _ hJ) Try.underlying49 rfl sizeD (h _ (hJ.up (by decide)))
            | 5, ho => cases ho; exact fun L1 a w1 hLi hw hnot hJ hk hv K h => op_mkI 66 49 (.agg ([nu (t), nu (8)]).toArray) rfl (hv 4 66 (by kernel_rfl) (by kernel_rfl)) (by kernel_rfl) (h _ (hJ.up (by decide)))
            | 6, ho => cases ho; exact fun L1 a w1 hLi hw hnot hJ hk hv K h => op_call 20 [.tmp 65, .tmp 67] _ #[(.iface 56 (pt pp 4)), (.iface 49 (.agg ([nu (t), nu (8)]).toArray))] (.tuple #[]) rfl (fun _ _ => by kernel_rfl) (args2 (hv 3 65 (by kernel_rfl) (by kernel_rfl)) (hv 5 67 (by kernel_rfl) (by kernel_rfl))) (HPU.out _ (hJ.no hLi)) (fun w1 e1 => h _ (mvJ.at e1))
            | (i1 + 7), ho => exact absurd ho (by simp)
          intro LL W7 hall hJ
          simp only [List.foldl_cons, List.foldl_nil, List.setIfInBounds_toArray, List.set_cons_zero, List.set_cons_succ]
          have HE := hid (hJ.yes (hall 6 (by decide)))
          clear hJ hall HPU HXR
          obtain ⟨g7, cap7, L7, S7, a7⟩ := TiI.push (TI' := T.take (i + 1)) (e := (t, 8)) A4.out hTJ.out (by rw [UPD]; exact HE.out.1)
          have A7 := hid a7
          have HRD : Hid (rdB true (T.take (i + 1)) = rdB true (T.take i)) := hid (by exact RDE.out)
          clear a7 HE A4
          go_wp2
          exact ⟨⟨i + 1, g7, cap7, L7, S7, by go_num, by omega, by rw [HRD.out], A7⟩, by simp [intOf]; omega⟩
        | false =>
          have hno : Hid (rdB false (T.take i) = false) := hid (by
            have hnd := ND.out
            have hs : ((T.take (i + 1)).map (fun e : En => e.2)).Nodup := (List.Sublist.map _ (List.take_sublist _ _)).nodup hnd
            rw [hTJ.out, List.map_append, List.nodup_append] at hs
            unfold rdB
            rw [Bool.not_false, Bool.true_and, List.any_eq_false]
            intro e he h8'
            exact hs.2.2 e.2 (List.mem_map_of_mem (f := fun e : En => e.2) he) 8 (by simp) (by simpa using h8'))
          have hyes : Hid (rdB false (T.take (i + 1)) = true) := hid (by rw [hTJ.out, rdB_snoc]; simp)
          have UPD : updT (p.now + 1) false (t, 8) = (p.now + 1 + 7, 8) := by unfold updT; rw [if_pos rfl, if_neg (by decide)]
          have I7 : I64 (p.now + 1 + 7) := by unfold I64; omega
          have rr : Hid (RAt W0 pp g3 cap3 n me (p.now + 1) p.next L3 S3) := hid (by have := A0.out.r; rw [hno.out] at this; exact this)
          have c3 := rr.out.c3
          have HBh := hid (behind_any rr.out.c0 rr.out.c1 h2 h8 HX.out hm)
          have OBJ : Hid (W0.heap[pp]? = some (.cells ([nu n, nu me, nu (p.now + 1)] ++ ([nu p.next] ++ [Value.slice (some ⟨g3, 0, none⟩) L3.length cap3, fnA])).toArray 54)) := hid rr.out.obj
          obtain ⟨c, hc⟩ : ∃ c, nxP n me p.next = c := ⟨_, rfl⟩
          have HC := hid hc
          rw [hc] at HBh
          clear hc rr
          go_wp2_with fail
          refine HBh.out.mono ?_
          rintro e W5 ⟨rfl, hw⟩
          subst W5
          clear HBh c3
          go_upto_region 15 with (first
            | ((with_reducible refine wl_put1 3 (.tmp 55) (.tmp 53) ?_ ?_ pp 3 ?_ ?_ [nu n, nu me, nu (p.now + 1)] [Value.slice (some ⟨g3, 0, none⟩) L3.length cap3, fnA] (nu p.next) (nu c) ?_ 54 OBJ.out ?_ ?_ ?_ ?_); exact rfl; exact rfl; exact rfl; exact rfl; exact rfl; exact rfl; exact rfl; exact size3; intro W5 r5 b5))
          have A5 := hid ((A0.out.ta HAK.out).next (TN' := T.take (i + 1)) (c := c) (by rw [hyes.out, if_pos rfl]; exact HC.out) b5 r5)
          have X5 := hid (b5.row X0.out (by omega))
          clear r5 b5 A0 y0 y1 OBJ
          have c2 := A5.out.r.c2
          go_upto_region 16 with (first
            | ((with_reducible refine wl_put1 3 (.tmp 61) (.tmp 60) ?_ ?_ X 0 ?_ ?_ [] [nu 8] (nu t) (nu (p.now + 1 + 7)) ?_ 49 X5.out ?_ ?_ ?_ ?_); exact rfl; exact rfl; exact rfl; exact rfl; exact rfl; exact rfl; exact rfl; exact size3; intro W6 r6 b6)
            | ((with_reducible refine wl_put1 3 (.tmp 61) (.tmp 60) ?_ ?_ X 0 ?_ ?_ [] [nu 8] (nu t) (nu (p.now + 1 + 7)) ?_ 49 (rowE X5.out) ?_ ?_ ?_ ?_); exact rfl; exact rfl; exact rfl; exact rfl; exact rfl; exact rfl; exact rfl; exact size3; intro W6 r6 b6))
          have X6 : Hid (W6.heap[X]? = some (.cells #[nu (p.now + 1 + 7), nu 8] 49)) := hid r6
          have A6 := hid (A5.out.but b6 hsz (by omega) (by omega) (fun e => by have := hXu _ e; omega) (fun e => by have := hXa _ e; omega))
          clear r6 b6 A5 X5 c2
          have HPU : Hid (∀ W, Below W6.heap.size W6 W → Calls Try.prog 20 #[.iface 56 (pt pp 4), .iface 49 (.agg [nu (p.now + 1 + 7), nu (8)].toArray)] W fun e w' => e = .returned (.tuple #[]) ∧ (PuR W6 pp g3 n me (p.now + 1) (if rdB false (T.take (i + 1)) then nxP n me p.next else p.next) L3 ((p.now + 1 + 7), (8)) w' ∧ w'.heap[X]? = some (.cells #[nu (p.now + 1 + 7), nu (8)] 49))) := fun W hbw => by
            refine (hpush_r A6.out.r (by omega) A6.out.hp ((p.now + 1 + 7), (8)) W hbw).mono ?_
            rintro e w' ⟨rfl, g4, cap4, L4, S4, q1, q2, q3, q4⟩
            exact ⟨rfl, ⟨g4, cap4, L4, S4, q1, q2, q3, q4⟩, q3.row X6.out (by simp; omega)⟩
          have HXR : Hid (∀ G W, mvJ 6 W6 (fun W => PuR W6 pp g3 n me (p.now + 1) (if rdB false (T.take (i + 1)) then nxP n me p.next else p.next) L3 ((p.now + 1 + 7), (8)) W ∧ W.heap[X]? = some (.cells #[nu (p.now + 1 + 7), nu (8)] 49)) G W → ∀ j v, [nu (p.now + 1 + 7), nu (8)][j]? = some v → W.cell? ⟨X, 0 + j, none⟩ = some v) := fun G W hJ => hJ.both (fun h => row_zeroY h.2) (fun h => row_zeroY (row_kept X6.out h))
          refine wp_region_cs (N := 72) [(pt pp 0), (pt pp 0), (pt pp 4), (.iface 56 (pt pp 4)), (.agg ([nu (p.now + 1 + 7), nu (8)]).toArray), (.iface 49 (.agg ([nu (p.now + 1 + 7), nu (8)]).toArray)), (.tuple #[])] (mvJ 6 W6 (fun W => PuR W6 pp g3 n me (p.now + 1) (if rdB false (T.take (i + 1)) then nxP n me p.next else p.next) L3 ((p.now + 1 + 7), (8)) W ∧ W.heap[X]? = some (.cells #[nu (p.now + 1 + 7), nu (8)] 49))) [(62, (pt pp 0)), (63, (pt pp 0)), (64, (pt pp 4)), (65, (.iface 56 (pt pp 4))), (66, (.agg ([nu (p.now + 1 + 7), nu (8)]).toArray)), (67, (.iface 49 (.agg ([nu (p.now + 1 + 7), nu (8)]).toArray))), (68, (.tuple #[]))] (by kernel_rfl) (by kernel_rfl) rfl (fun w1 hb => hb) (by kernel_rfl) ?_ ?_
          · intro i1 o ho
            match i1, ho with
            | 0, ho => cases ho; exact fun L1 a w1 hLi hw hnot hJ hk hv K h => op_move 0 _ rfl (hk 0 (by kernel_rfl)) (h _ (hJ.up (by decide)))
            | 1, ho => cases ho; exact fun L1 a w1 hLi hw hnot hJ hk hv K h => op_nil 62 pp 0 rfl (hv 0 62 (by kernel_rfl) (by kernel_rfl)) (h _ (hJ.up (by decide)))
            | 2, ho => cases ho; exact fun L1 a w1 hLi hw hnot hJ hk hv K h => op_fa 63 _ 4 pp 0 4 rfl (fun W => by kernel_rfl) (hv 1 63 (by kernel_rfl) (by kernel_rfl)) (h _ (hJ.up (by decide)))
            | 3, ho => cases ho; exact fun L1 a w1 hLi hw hnot hJ hk hv K h => op_mkI 64 56 (pt pp 4) rfl (hv 2 64 (by kernel_rfl) (by kernel_rfl)) (by kernel_rfl) (h _ (hJ.up (by decide)))
            | 4, ho => cases ho; exact fun L1 a w1 hLi hw hnot hJ hk hv K h => op_load _ (.tmp 9) rfl X 0 (hk 9 (by kernel_rfl)) ([nu (p.now + 1 + 7), nu (8)]) _ (HXR.out _ _ hJ) Try.underlying49 rfl sizeD (h _ (hJ.up (by decide)))
            | 5, ho => cases ho; exact fun L1 a w1 hLi hw hnot hJ hk hv K h => op_mkI 66 49 (.agg ([nu (p.now + 1 + 7), nu (8)]).toArray) rfl (hv 4 66 (by kernel_rfl) (by kernel_rfl)) (by kernel_rfl) (h _ (hJ.up (by decide)))
            | 6, ho => cases ho; exact fun L1 a w1 hLi hw hnot hJ hk hv K h => op_call 20 [.tmp 65, .tmp 67] _ #[(.iface 56 (pt pp 4)), (.iface 49 (.agg ([nu (p.now + 1 + 7), nu (8)]).toArray))] (.tuple #[]) rfl (fun _ _ => by kernel_rfl) (args2 (hv 3 65 (by kernel_rfl) (by kernel_rfl)) (hv 5 67 (by kernel_rfl) (by kernel_rfl))) (HPU.out _ (hJ.no hLi)) (fun w1 e1 => h _ (mvJ.at e1))
            | (i1 + 7), ho => exact absurd ho (by simp)
          intro LL W7 hall hJ
          simp only [List.foldl_cons, List.foldl_nil, List.setIfInBounds_toArray, List.set_cons_zero, List.set_cons_succ]
          have HE := hid (hJ.yes (hall 6 (by decide)))
          clear hJ hall HPU HXR
          obtain ⟨g7, cap7, L7, S7, a7⟩ := TiI.push (TI' := T.take (i + 1)) (e := (t, 8)) A6.out hTJ.out (by rw [UPD]; exact HE.out.1)
          have A7 := hid a7
          have HRD : Hid (rdB false (T.take (i + 1)) = true) := hid (by exact hyes.out)
          clear a7 HE A6
          go_wp2
          exact ⟨⟨i + 1, g7, cap7, L7, S7, by go_num, by omega, by rw [HRD.out, if_pos rfl], A7⟩, by simp [intOf]; omega⟩
      · have d2 : (k != 8) = true := by simp [hk8]
        have d2' : (k == 8) = false := by rw [beq_eq_false_iff_ne]; exact hk8
        have HAK : Hid (askL (T.take (i + 1)) = askL (T.take i) ++ [k]) := hid (by rw [hTJ.out, askL_snoc, if_neg hk8])
        have RDE : Hid (rdB b (T.take (i + 1)) = rdB b (T.take i)) := hid (by rw [hTJ.out, rdB_snoc]; show (_ || (!b && (k == 8))) = _; rw [d2']; simp)
        have UPD : updT (p.now + 1) b (t, k) = (p.now + 1 + 4, k) := by unfold updT; rw [if_neg hk8]
        have I7 : I64 (p.now + 1 + 4) := by unfold I64; omega
        have HOw := hid A0.out.ow
        have hW0s := A0.out.kp.size
        have hal : (askL (T.take i)).length < 1000000 := by
          unfold askL
          rw [List.length_map]
          have h1 := List.length_filter_le (fun e : En => decide (e.2 ≠ 8)) (T.take i)
          rw [List.length_take] at h1
          omega
        go_upto_region 11 with (first
          | (at_builtin; (refine wpList_push (W := W0) rfl (.tmp 32) (.tmp 35) 34 3 rfl _ 8 Try.underlying34 info3 rfl (by omega) w.heap.size _ (nu k) (askL (T.take i)).length (ic (askL (T.take i))) rfl rfl HOw.out rfl hal hW0s ?_); intro v5 W5 hr5 hg5 hat5))
        have A5 := hid (((A0.out.asked (TA' := T.take (i + 1)) HAK.out hr5 hg5 hat5)).tn RDE.out)
        have X5 : Hid (W5.heap[X]? = some (.cells #[nu t, nu k] 49)) := hid ((hg5.block X (row_lt (row_kept X0.out (below_a1 _ _))) (fun e => by have := hXa X e.symm; omega)).trans (row_kept X0.out (below_a1 _ _)))
        have hXv : v5.ownBlock ≠ some X := by
          have hW0 := row_lt X0.out
          rcases hat5 with e | e
          · rw [e]; intro e2; have := hXa _ e2; omega
          · rw [e]; intro e2; cases e2; omega
        clear hr5 hg5 hat5 HOw A0 y0 y1
        have c2 := A5.out.r.c2
        go_upto_region 16 with (first
          | ((with_reducible refine wl_put1 3 (.tmp 42) (.tmp 41) ?_ ?_ X 0 ?_ ?_ [] [nu k] (nu t) (nu (p.now + 1 + 4)) ?_ 49 (rowE X5.out) ?_ ?_ ?_ ?_); exact rfl; exact rfl; exact rfl; exact rfl; exact rfl; exact rfl; exact rfl; exact size3; intro W6 r6 b6))
        have X6 : Hid (W6.heap[X]? = some (.cells #[nu (p.now + 1 + 4), nu k] 49)) := hid r6
        have A6 := hid (A5.out.but b6 hsz (by omega) (by omega) (fun e => by have := hXu _ e; omega) hXv)
        clear r6 b6 A5 X5 c2
        have HPU : Hid (∀ W, Below W6.heap.size W6 W → Calls Try.prog 20 #[.iface 56 (pt pp 4), .iface 49 (.agg [nu (p.now + 1 + 4), nu (k)].toArray)] W fun e w' => e = .returned (.tuple #[]) ∧ (PuR W6 pp g3 n me (p.now + 1) (if rdB b (T.take (i + 1)) then nxP n me p.next else p.next) L3 ((p.now + 1 + 4), (k)) w' ∧ w'.heap[X]? = some (.cells #[nu (p.now + 1 + 4), nu (k)] 49))) := fun W hbw => by
          refine (hpush_r A6.out.r (by omega) A6.out.hp ((p.now + 1 + 4), (k)) W hbw).mono ?_
          rintro e w' ⟨rfl, g4, cap4, L4, S4, q1, q2, q3, q4⟩
          exact ⟨rfl, ⟨g4, cap4, L4, S4, q1, q2, q3, q4⟩, q3.row X6.out (by simp; omega)⟩
        have HXR : Hid (∀ G W, mvJ 6 W6 (fun W => PuR W6 pp g3 n me (p.now + 1) (if rdB b (T.take (i + 1)) then nxP n me p.next else p.next) L3 ((p.now + 1 + 4), (k)) W ∧ W.heap[X]? = some (.cells #[nu (p.now + 1 + 4), nu (k)] 49)) G W → ∀ j v, [nu (p.now + 1 + 4), nu (k)][j]? = some v → W.cell? ⟨X, 0 + j, none⟩ = some v) := fun G W hJ => hJ.both (fun h => row_zeroY h.2) (fun h => row_zeroY (row_kept X6.out h))
        refine wp_region_cs (N := 72) [(pt pp 0), (pt pp 0), (pt pp 4), (.iface 56 (pt pp 4)), (.agg ([nu (p.now + 1 + 4), nu (k)]).toArray), (.iface 49 (.agg ([nu (p.now + 1 + 4), nu (k)]).toArray)), (.tuple #[])] (mvJ 6 W6 (fun W => PuR W6 pp g3 n me (p.now + 1) (if rdB b (T.take (i + 1)) then nxP n me p.next else p.next) L3 ((p.now + 1 + 4), (k)) W ∧ W.heap[X]? = some (.cells #[nu (p.now + 1 + 4), nu (k)] 49))) [(62, (pt pp 0)), (63, (pt pp 0)), (64, (pt pp 4)), (65, (.iface 56 (pt pp 4))), (66, (.agg ([nu (p.now + 1 + 4), nu (k)]).toArray)), (67, (.iface 49 (.agg ([nu (p.now + 1 + 4), nu (k)]).toArray))), (68, (.tuple #[]))] (by kernel_rfl) (by kernel_rfl) rfl (fun w1 hb => hb) (by kernel_rfl) ?_ ?_
        · intro i1 o ho
          match i1, ho with
          | 0, ho => cases ho; exact fun L1 a w1 hLi hw hnot hJ hk hv K h => op_move 0 _ rfl (hk 0 (by kernel_rfl)) (h _ (hJ.up (by decide)))
          | 1, ho => cases ho; exact fun L1 a w1 hLi hw hnot hJ hk hv K h => op_nil 62 pp 0 rfl (hv 0 62 (by kernel_rfl) (by kernel_rfl)) (h _ (hJ.up (by decide)))
          | 2, ho => cases ho; exact fun L1 a w1 hLi hw hnot hJ hk hv K h => op_fa 63 _ 4 pp 0 4 rfl (fun W => by kernel_rfl) (hv 1 63 (by kernel_rfl) (by kernel_rfl)) (h _ (hJ.up (by decide)))
          | 3, ho => cases ho; exact fun L1 a w1 hLi hw hnot hJ hk hv K h => op_mkI 64 56 (pt pp 4) rfl (hv 2 64 (by kernel_rfl) (by kernel_rfl)) (by kernel_rfl) (h _ (hJ.up (by decide)))
          | 4, ho => cases ho; exact fun L1 a w1 hLi hw hnot hJ hk hv K h => op_load _ (.tmp 9) rfl X 0 (hk 9 (by kernel_rfl)) ([nu (p.now + 1 + 4), nu (k)]) _ (HXR.out _ _ hJ) Try.underlying49 rfl sizeD (h _ (hJ.up (by decide)))
          | 5, ho => cases ho; exact fun L1 a w1 hLi hw hnot hJ hk hv K h => op_mkI 66 49 (.agg ([nu (p.now + 1 + 4), nu (k)]).toArray) rfl (hv 4 66 (by kernel_rfl) (by kernel_rfl)) (by kernel_rfl) (h _ (hJ.up (by decide)))
          | 6, ho => cases ho; exact fun L1 a w1 hLi hw hnot hJ hk hv K h => op_call 20 [.tmp 65, .tmp 67] _ #[(.iface 56 (pt pp 4)), (.iface 49 (.agg ([nu (p.now + 1 + 4), nu (k)]).toArray))] (.tuple #[]) rfl (fun _ _ => by kernel_rfl) (args2 (hv 3 65 (by kernel_rfl) (by kernel_rfl)) (hv 5 67 (by kernel_rfl) (by kernel_rfl))) (HPU.out _ (hJ.no hLi)) (fun w1 e1 => h _ (mvJ.at e1))
          | (i1 + 7), ho => exact absurd ho (by simp)
        intro LL W7 hall hJ
        simp only [List.foldl_cons, List.foldl_nil, List.setIfInBounds_toArray, List.set_cons_zero, List.set_cons_succ]
        have HE := hid (hJ.yes (hall 6 (by decide)))
        clear hJ hall HPU HXR
        obtain ⟨g7, cap7, L7, S7, a7⟩ := TiI.push (TI' := T.take (i + 1)) (e := (t, k)) A6.out hTJ.out (by rw [UPD]; exact HE.out.1)
        have A7 := hid a7
        have HRD : Hid (rdB b (T.take (i + 1)) = rdB b (T.take i)) := hid (by exact RDE.out)
        clear a7 HE A6
        go_wp2
        exact ⟨⟨i + 1, g7, cap7, L7, S7, by go_num, by omega, by rw [HRD.out], A7⟩, by simp [intOf]; omega⟩
    · obtain rfl : i = T.length := by omega
      have d1 : decide ((T.length : Int) < (T.length : Int)) = false := decide_eq_false (by omega)
      have d1' : decide (T.length < T.length) = false := decide_eq_false (by omega)
      rw [List.take_length] at A ⊢
      have HO := hid (tick_out HP.out h8 HI.out HLt.out)
      have HRd := hid (tick_rd (busy := b) HP.out h8 HI.out HLt.out)
      have HTP := hid (tick_hps (busy := b) HP.out h8 hm HI.out HLt.out A.out.perm A.out.hp)
      have HTN : Hid ((if rdB b T then p.next else -1) = tickN me b p) := hid (by unfold tickN; rw [HRd.out])
      rw [HTN.out]
      go_wp2
      go_ret2
      refine ⟨[pp, g3], _, rfl, ?_, ⟨g3, cap3, L3, S3, rfl, ⟨HGE.out.1, ?_⟩, ?_, HTP.out, ?_⟩, A.out.kp, fun x hx => ⟨own_ge A.out.ow x hx, ?_, own_lt A.out.ow x hx⟩, ?_⟩
      · rw [HO.out]; exact ints_of A.out.ow
      · rcases A.out.gg with e | e
        · rw [e]; exact HGE.out.2
        · omega
      · have := A.out.r
        rw [tick_now, tick_next, ← HRd.out]
        exact this
      · rw [tick_next]
        split
        · exact nxP_rng hm
        · exact HX.out
      · have h1 := own_ge A.out.ow x hx
        have h2 : x ≠ g3 := fun e => A.out.an (hx.trans (congrArg some e))
        simp
        omega
      · intro x hx
        simp at hx
        rcases hx with rfl | rfl
        · exact .inl (by simp)
        · rcases A.out.gg with e | e
          · exact .inl (by simp [e])
          · exact .inr e
end
end Go.Proofs.Ytkjgiidmajjonaa.Kn
