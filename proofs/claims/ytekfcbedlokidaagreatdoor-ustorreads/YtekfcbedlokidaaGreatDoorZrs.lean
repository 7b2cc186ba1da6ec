/-
  What a client's bytes say (ustor.readState), for every text.
-/
import Derived.Test.YtekfcbedlokidaaGreatDoorZla
import Derived.Test.YtekfcbedlokidaaGreatDoorH33
namespace Go.Proofs.YtekfcbedlokidaaGreatDoor.Ms
open Go Go.RowKit
set_option maxRecDepth 100000
theorem zeroSta : (Tryz.prog.info? 105).map (·.zero) = some (some (.agg (staC [] [] 0 zeroS).toArray)) := by kernel_rfl
theorem sizeSta : (Tryz.prog.info? 105).map (·.size) = some 71 := by kernel_rfl
theorem build_sta (W : World) : (Instr.build 105 #[]).run Tryz.prog W = .ok (.agg (staC [] [] 0 zeroS).toArray) W := by kernel_rfl
theorem staC_len (v u : List UInt8) (n : Int) {x : Sub} (h : x.Wf) : (staC v u n x).length = 71 := by simp [staC, subC_len h]
theorem one_sta (v u : List UInt8) (n : Int) (x : Sub) : ∀ y ∈ staC v u n x, y.oneCell' = true := by
  intro y hy
  simp only [staC, List.cons_append, List.nil_append, List.mem_cons] at hy
  rcases hy with rfl | rfl | rfl | hy
  · rfl
  · rfl
  · rfl
  · exact one_sub x y hy
def stE (E1 : Nat) (n : Int) (E2 : Nat) (l1 l2 : Int) : Int := if E1 ≠ 0 then E1 else if n = 1 then (if E2 ≠ 0 then E2 else if 0 < l2 then 6 else 0) else if n ≠ 0 then 6 else if 0 < l1 then 6 else 0
def spS (G i : Nat) (v : Value) (w : World) : Prop := match i with | 4 => ∃ b, v = fdV false b ∧ FdAt w false G 3 b | 8 => ∃ b, v = fdV false b ∧ FdAt w false G 4 b | 12 => ∃ b, v = fdV false b ∧ FdAt w false G 5 b | 16 => ∃ b, v = fdV true b ∧ FdAt w true G 6 b | 17 => FsAt w v G F2 | _ => True
structure StM (w W : World) (X G SB AT : Nat) (Z RG : List Value) (s : List UInt8) (Q : Nat) : Prop where
  x : W.heap[X]? = some (.cells Z.toArray 105)
  g : W.heap[G]? = some (.cells RG.toArray 105)
  sb : W.heap[SB]? = some (.cells #[st s] 9)
  at' : W.heap[AT]? = some (.cells #[nu Q] 3)
  low : Below w.heap.size w W
theorem StM.kept {w W W' : World} {X G SB AT Q : Nat} {Z RG : List Value} {s : List UInt8} (h : StM w W X G SB AT Z RG s Q) (hb : Below W.heap.size W W') : StM w W' X G SB AT Z RG s Q :=
  ⟨row_kept h.x hb, row_kept h.g hb, row_kept h.sb hb, row_kept h.at' hb, h.low.trans (hb.mono h.low.size)⟩
theorem StM.read {w W W' : World} {X G SB AT Q Q' : Nat} {Z RG RG' : List Value} {s : List UInt8} (h : StM w W X G SB AT Z RG s Q) (hk : Kp [G, AT] W W') (hg : W'.heap[G]? = some (.cells RG'.toArray 105)) (ha : W'.heap[AT]? = some (.cells #[nu Q'] 3)) (hX : X ≠ G) (hG : w.heap.size ≤ G) (hA : w.heap.size ≤ AT) : StM w W' X G SB AT Z RG' s Q' := by
  have n1 : X ≠ AT := ty_ne h.at' h.x (by decide)
  have n2 : SB ≠ G := ty_ne h.g h.sb (by decide)
  have n3 : SB ≠ AT := ty_ne h.at' h.sb (by decide)
  refine ⟨hk.row h.x (by simp [hX, n1]), hg, hk.row h.sb (by simp [n2, n3]), ha, h.low.trans (hk.below (fun y hy => ?_) h.low.size)⟩
  simp only [List.mem_cons, List.not_mem_nil, or_false] at hy
  rcases hy with rfl | rfl
  · exact hG
  · exact hA
set_option maxHeartbeats 16000000 in
theorem rstate_core {w : World} {s : List UInt8} {Z R1 R2 : List Value} {E1 E2 Q1 Q2 : Nat} {l1 l2 n : Int} (hs : s.length ≤ 281474976710656) (ht : ∀ W, Below w.heap.size w W → Tb W)
    (ZZ : (Tryz.prog.info? 105).map (·.zero) = some (some (.agg Z.toArray))) (LZ : Z.length = 71) (OZ : Hid (∀ v ∈ Z, v.oneCell' = true)) (HB : Hid (∀ W, (Instr.build 105 #[]).run Tryz.prog W = .ok (.agg Z.toArray) W))
    (H1 : Hid (rdL s F1 Z 0 = (E1, Q1, R1))) (hl1 : Hid (lftI s (rdL s F1 Z 0) = l1)) (H2 : Hid (E1 = 0 → n = 1 → rdL s F2 R1 Q1 = (E2, Q2, R2) ∧ lftI s (rdL s F2 R1 Q1) = l2 ∧ (E2 = 0 → R2.length = 71 ∧ (∀ v ∈ R2, v.oneCell' = true) ∧ R2[2]? = some (nu n))))
    (HQ1 : Hid (E1 = 0 → Q1 ≤ s.length ∧ R1.length = 71 ∧ (∀ v ∈ R1, v.oneCell' = true) ∧ R1[2]? = some (nu n))) :
    Calls Tryz.prog 39 #[st s] w fun e w' => e = .returned (.tuple #[.agg (if stE E1 n E2 l1 l2 = 0 then (if n = 1 then R2 else R1) else Z).toArray, nu (stE E1 n E2 l1 l2)]) ∧ Below w.heap.size w w' := by
  obtain ⟨AN, hAN⟩ : ∃ AN, AN = (if stE E1 n E2 l1 l2 = 0 then (if n = 1 then R2 else R1) else Z) := ⟨_, rfl⟩
  obtain ⟨AE, hAE⟩ : ∃ AE, AE = stE E1 n E2 l1 l2 := ⟨_, rfl⟩
  rw [← hAN, ← hAE]
  have HAN : Hid (AN = (if stE E1 n E2 l1 l2 = 0 then (if n = 1 then R2 else R1) else Z)) := hAN
  have HAE : Hid (AE = stE E1 n E2 l1 l2) := hAE
  have e1 : (w.alloc (.cells Z.toArray 105)).heap.size = w.heap.size + 1 := by simp
  have T1 := hid (top_obj (w.alloc (.cells Z.toArray 105)) (.cells Z.toArray 105))
  rw [e1] at T1
  have T0 := hid (row_kept (top_obj w (.cells Z.toArray 105)) (below_a1 (w.alloc (.cells Z.toArray 105)) (.cells Z.toArray 105)))
  have B0 := hid (below_two (below_a1 w (.cells Z.toArray 105)) (below_a1 (w.alloc (.cells Z.toArray 105)) (.cells Z.toArray 105)))
  have HT := hid ht
  have HRo := hid (fun W => readerOf_any s W)
  clear hAN hAE ht
  go_enter Tryz.func39, Tryz.ntmps39
  go_upto_region 2 with (first | ((with_reducible refine wl_alloc 105 ?_ ?_ Z.toArray ZZ ?_); exact rfl; exact rfl))
  try simp only [Act.put, List.setIfInBounds_toArray, List.set_cons_zero, List.set_cons_succ, e1]
  generalize (w.alloc (.cells Z.toArray 105)).alloc (.cells Z.toArray 105) = W0 at *
  clear e1
  obtain ⟨G, hG⟩ : ∃ G, G = w.heap.size + 1 := ⟨_, rfl⟩
  obtain ⟨X, hX⟩ : ∃ X, X = w.heap.size := ⟨_, rfl⟩
  rw [← hG] at T1
  rw [← hX] at T0
  try rw [← hG]
  try rw [← hX]
  have HGX := hid (And.intro hG hX)
  clear hG hX
  go_wp2_with fail
  refine (HRo.out _).mono ?_
  rintro e W1 ⟨rfl, hsb, hat, hb1⟩
  have hAT : w.heap.size ≤ W0.heap.size + 1 := Nat.le_succ_of_le B0.out.size
  have M1 : Hid (StM w W1 X G W0.heap.size (W0.heap.size + 1) Z Z s 0) := ⟨row_kept T0.out hb1, row_kept T1.out hb1, hsb, hat, below_two B0.out hb1⟩
  generalize W0.heap.size + 1 = AT at *
  generalize W0.heap.size = SB at *
  have HAT := hid hAT
  clear hsb hat hb1 T0 T1 B0 HRo hAT
  go_wp2_with fail
  refine (mk_t G 0 _).mono ?_
  rintro e W2 ⟨rfl, f0, hb⟩
  have M2 := hid (M1.out.kept hb)
  have F0 := hid f0
  generalize W1.heap.size = b0 at *
  clear f0 hb M1
  go_wp2_with fail
  refine (mk_t G 1 _).mono ?_
  rintro e W3 ⟨rfl, f1, hb⟩
  have M3 := hid (M2.out.kept hb)
  have F1' := hid f1
  have F0 : Hid (FdAt W3 true G 0 b0) := row_kept F0.out hb
  generalize W2.heap.size = b1 at *
  clear f1 hb M2
  go_wp2_with fail
  refine (mk_n G 2 _).mono ?_
  rintro e W4 ⟨rfl, f2, hb⟩
  have M4 := hid (M3.out.kept hb)
  have F2' := hid f2
  have F0 : Hid (FdAt W4 true G 0 b0) := row_kept F0.out hb
  have F1' : Hid (FdAt W4 true G 1 b1) := row_kept F1'.out hb
  generalize W3.heap.size = b2 at *
  clear f2 hb M3
  simp only [fdV, fdFn]
  go_wp2_with fail
  have hfs : FsAt (W4.alloc (.cells #[fdV true b0, fdV true b1, fdV false b2] 154)) (.slice (some ⟨W4.heap.size, 0, none⟩) 3 3) G F1 := by
    have hb := below_a1 W4 (.cells #[fdV true b0, fdV true b1, fdV false b2] 154)
    refine ⟨_, [fdV true b0, fdV true b1, fdV false b2], rfl, top_obj W4 _, rfl, ?_⟩
    intro j f hj
    match j, hj with
    | 0, hj => cases hj; exact ⟨b0, rfl, row_kept F0.out hb⟩
    | 1, hj => cases hj; exact ⟨b1, rfl, row_kept F1'.out hb⟩
    | 2, hj => cases hj; exact ⟨b2, rfl, row_kept F2'.out hb⟩
    | (j + 3), hj => exact absurd hj (by simp [F1])
  have HFs := hid hfs
  have M5 := hid (M4.out.kept (below_a1 W4 (.cells #[fdV true b0, fdV true b1, fdV false b2] 154)))
  clear hfs F0 F1' F2' M4
  have hXG : X ≠ G := by obtain ⟨g1, g2⟩ := HGX.out; omega
  have hGw : w.heap.size ≤ G := by obtain ⟨g1, g2⟩ := HGX.out; omega
  have hXw : w.heap.size ≤ X := by obtain ⟨g1, g2⟩ := HGX.out; omega
  have HIn : Hid (∀ y ∈ [G, AT], w.heap.size ≤ y) := by
    intro y hy
    simp only [List.mem_cons, List.not_mem_nil, or_false] at hy
    rcases hy with rfl | rfl
    · exact hGw
    · exact HAT.out
  have HC1 := readl_any HFs.out (R0 := Z) (s := s) (at' := AT) (sb := SB) (q0 := 0) (by intro f hf; simp only [F1, List.mem_cons, List.not_mem_nil, or_false] at hf; rw [LZ]; rcases hf with rfl | rfl | rfl <;> decide) M5.out.g M5.out.at' M5.out.sb (Nat.zero_le _) hs (by decide) (fun W hk => HT.out W (M5.out.low.trans (hk.below HIn.out M5.out.low.size)))
  rw [hl1.out, H1.out] at HC1
  have HC := hid HC1
  clear HC1 HFs hl1 H1
  refine HC.out.mono ?_
  rintro e W6 ⟨rfl, hg6, ha6, hs6, hk6⟩
  have M6 := hid (M5.out.read hk6 hg6 ha6 hXG hGw HAT.out)
  clear hg6 ha6 hs6 hk6 HC M5
  generalize W4.heap.size = c0 at *
  have ZSZ : (Tryz.prog.info? 105).map (·.size) = some Z.length := by rw [LZ]; exact sizeSta
  by_cases hE1 : E1 = 0
  · subst hE1
    obtain ⟨q1, q2, q3, q4⟩ := HQ1.out rfl
    have HR1 := hid q3
    have LR1 := q2
    have HL1 := hid q1
    have c2 : W6.cell? ⟨G, 2, none⟩ = some (nu n) := by rw [cell_of_row _ _ _ _ _ _ M6.out.g]; simpa using q4
    clear q1 q2 q3 q4 HQ1
    by_cases hn : n = 1
    · subst hn
      obtain ⟨p1, p2, p3⟩ := H2.out rfl rfl
      have HP3 := hid p3
      have HRd : Hid (∀ W v, FsAt W v G F2 → Kp [G, AT] W6 W → W.heap[G]? = some (.cells R1.toArray 105) → W.heap[AT]? = some (.cells #[nu Q1] 3) → W.heap[SB]? = some (.cells #[st s] 9) → Calls Tryz.prog 113 #[v, pt SB 0, pt AT 0] W fun e w1 => e = .returned (.tuple #[nu l2, nu E2]) ∧ w1.heap[G]? = some (.cells R2.toArray 105) ∧ w1.heap[AT]? = some (.cells #[nu Q2] 3) ∧ w1.heap[SB]? = some (.cells #[st s] 9) ∧ Kp [G, AT] W w1) := by
        intro W v hf hk hg ha hsb
        have h9 := readl_any hf (R0 := R1) (s := s) (at' := AT) (sb := SB) (q0 := Q1) (by intro f hf; simp only [F2, List.mem_cons, List.not_mem_nil, or_false] at hf; rw [LR1]; rcases hf with rfl | rfl | rfl | rfl <;> decide) hg ha hsb HL1.out hs (by decide) (fun W' hk' => HT.out W' (M6.out.low.trans ((hk.trans hk').below HIn.out M6.out.low.size)))
        rw [p2, p1] at h9
        exact h9
      clear H2 p1 p2 p3 LR1
      go_upto_region 6 with fail
      have hga : G ≠ AT := ty_ne M6.out.at' M6.out.g (by decide)
      refine wp_region_sp (N := 71) [4, 8, 12, 16, 17] (spS G) [(.func (.func 113) #[] #[pt SB 0, pt AT 0]), (pt G 3), (pt G 3), (pt G 3), undef, (pt G 3), (pt G 3), (pt G 4), undef, (pt G 3), (pt G 3), (pt G 5), undef, (pt G 3), (pt G 3), (pt G 6), undef, undef, (.tuple #[(nu l2), (nu E2)]), (.tuple #[(nu l2), (nu E2)]), (nu l2), (nu E2), (nu l2), (nu E2)] (fun L W => Kp [G, AT] W6 W ∧ W.heap[G]? = some (.cells (bif L 18 then R2 else R1).toArray 105) ∧ W.heap[AT]? = some (.cells #[nu (bif L 18 then Q2 else Q1)] 3) ∧ W.heap[SB]? = some (.cells #[st s] 9)) (Kp [G, AT]) (fun u => [(32, (.func (.func 113) #[] #[pt SB 0, pt AT 0])), (33, (pt G 3)), (34, (pt G 3)), (35, (pt G 3)), (36, u 4), (37, (pt G 3)), (38, (pt G 3)), (39, (pt G 4)), (40, u 8), (41, (pt G 3)), (42, (pt G 3)), (43, (pt G 5)), (44, u 12), (45, (pt G 3)), (46, (pt G 3)), (47, (pt G 6)), (48, u 16), (49, u 17), (50, (.tuple #[(nu l2), (nu E2)])), (31, (.tuple #[(nu l2), (nu E2)])), (51, (nu l2)), (52, (nu E2)), (6, (nu l2)), (7, (nu E2))]) (by kernel_rfl) (by kernel_rfl) rfl (fun u => by kernel_rfl) ?_ (fun w1 hb => ⟨Kp.of hb, row_kept M6.out.g hb, row_kept M6.out.at' hb, row_kept M6.out.sb hb⟩) ?_ ?_
      · intro L L' i v w w' hJ _ hR
        have hX : ∀ x ∈ [G, AT], ∃ cs t, w.heap[x]? = some (.cells cs t) ∧ t ≠ 154 ∧ t ≠ fdTy true ∧ t ≠ fdTy false := by
          intro x hx
          simp only [List.mem_cons, List.not_mem_nil, or_false] at hx
          rcases hx with rfl | rfl
          · exact ⟨_, _, hJ.2.1, by decide, by decide, by decide⟩
          · exact ⟨_, _, hJ.2.2.1, by decide, by decide, by decide⟩
        have hfd : ∀ (k : Bool) (off b : Nat), FdAt w k G off b → FdAt w' k G off b := by
          intro k off b hb
          refine hR.row hb (fun hx => ?_)
          obtain ⟨cs', t, e3, -, e5, e6⟩ := hX _ hx
          refine ty_ne e3 hb ?_ rfl
          cases k
          · exact Ne.symm e6
          · exact Ne.symm e5
        intro h
        unfold spS at h ⊢
        split at h
        · obtain ⟨b, e, f⟩ := h; exact ⟨b, e, hfd _ _ _ f⟩
        · obtain ⟨b, e, f⟩ := h; exact ⟨b, e, hfd _ _ _ f⟩
        · obtain ⟨b, e, f⟩ := h; exact ⟨b, e, hfd _ _ _ f⟩
        · obtain ⟨b, e, f⟩ := h; exact ⟨b, e, hfd _ _ _ f⟩
        · exact FsAt.kp h hR hX
        · trivial
      · intro i o ho
        match i, ho with
        | 0, ho => cases ho; exact oweP (.func (.func 113) #[] #[pt SB 0, pt AT 0]) (by decide) rfl (fun L a w hLi hJ hnot hk hv hS K h => op_move 5 _ rfl (hk 5 (by kernel_rfl)) (h _ (Kp.refl _ _) hJ))
        | 1, ho => cases ho; exact oweP (pt G 3) (by decide) rfl (fun L a w hLi hJ hnot hk hv hS K h => op_move 8 _ rfl (hk 8 (by kernel_rfl)) (h _ (Kp.refl _ _) hJ))
        | 2, ho => cases ho; exact oweP (pt G 3) (by decide) rfl (fun L a w hLi hJ hnot hk hv hS K h => op_nil 33 G 3 rfl (hv 1 33 (by kernel_rfl) (by decide) (by kernel_rfl)) (h _ (Kp.refl _ _) hJ))
        | 3, ho => cases ho; exact oweP (pt G 3) (by decide) rfl (fun L a w hLi hJ hnot hk hv hS K h => op_fa 34 _ 0 G 3 0 rfl (fun W => by kernel_rfl) (hv 2 34 (by kernel_rfl) (by decide) (by kernel_rfl)) (h _ (Kp.refl _ _) hJ))
        | 4, ho => cases ho; exact oweS (by decide) (fun L a w hLi hJ hnot hk hv hS K h => op_call 84 [.tmp 35] _ #[pt G 3] (fdV false w.heap.size) rfl (fun _ _ => by kernel_rfl) (args1 (hv 3 35 (by kernel_rfl) (by decide) (by kernel_rfl))) (J := fun w1 => FdAt w1 false G 3 w.heap.size ∧ Below w.heap.size w w1) (mk_n G 3 w) (fun w1 e1 => h _ _ ⟨_, rfl, e1.1⟩ (Kp.of e1.2) ⟨hJ.1.trans (Kp.of e1.2), row_kept hJ.2.1 e1.2, row_kept hJ.2.2.1 e1.2, row_kept hJ.2.2.2 e1.2⟩))
        | 5, ho => cases ho; exact oweP (pt G 3) (by decide) rfl (fun L a w hLi hJ hnot hk hv hS K h => op_move 8 _ rfl (hk 8 (by kernel_rfl)) (h _ (Kp.refl _ _) hJ))
        | 6, ho => cases ho; exact oweP (pt G 3) (by decide) rfl (fun L a w hLi hJ hnot hk hv hS K h => op_nil 37 G 3 rfl (hv 5 37 (by kernel_rfl) (by decide) (by kernel_rfl)) (h _ (Kp.refl _ _) hJ))
        | 7, ho => cases ho; exact oweP (pt G 4) (by decide) rfl (fun L a w hLi hJ hnot hk hv hS K h => op_fa 38 _ 1 G 3 1 rfl (fun W => by kernel_rfl) (hv 6 38 (by kernel_rfl) (by decide) (by kernel_rfl)) (h _ (Kp.refl _ _) hJ))
        | 8, ho => cases ho; exact oweS (by decide) (fun L a w hLi hJ hnot hk hv hS K h => op_call 84 [.tmp 39] _ #[pt G 4] (fdV false w.heap.size) rfl (fun _ _ => by kernel_rfl) (args1 (hv 7 39 (by kernel_rfl) (by decide) (by kernel_rfl))) (J := fun w1 => FdAt w1 false G 4 w.heap.size ∧ Below w.heap.size w w1) (mk_n G 4 w) (fun w1 e1 => h _ _ ⟨_, rfl, e1.1⟩ (Kp.of e1.2) ⟨hJ.1.trans (Kp.of e1.2), row_kept hJ.2.1 e1.2, row_kept hJ.2.2.1 e1.2, row_kept hJ.2.2.2 e1.2⟩))
        | 9, ho => cases ho; exact oweP (pt G 3) (by decide) rfl (fun L a w hLi hJ hnot hk hv hS K h => op_move 8 _ rfl (hk 8 (by kernel_rfl)) (h _ (Kp.refl _ _) hJ))
        | 10, ho => cases ho; exact oweP (pt G 3) (by decide) rfl (fun L a w hLi hJ hnot hk hv hS K h => op_nil 41 G 3 rfl (hv 9 41 (by kernel_rfl) (by decide) (by kernel_rfl)) (h _ (Kp.refl _ _) hJ))
        | 11, ho => cases ho; exact oweP (pt G 5) (by decide) rfl (fun L a w hLi hJ hnot hk hv hS K h => op_fa 42 _ 2 G 3 2 rfl (fun W => by kernel_rfl) (hv 10 42 (by kernel_rfl) (by decide) (by kernel_rfl)) (h _ (Kp.refl _ _) hJ))
        | 12, ho => cases ho; exact oweS (by decide) (fun L a w hLi hJ hnot hk hv hS K h => op_call 84 [.tmp 43] _ #[pt G 5] (fdV false w.heap.size) rfl (fun _ _ => by kernel_rfl) (args1 (hv 11 43 (by kernel_rfl) (by decide) (by kernel_rfl))) (J := fun w1 => FdAt w1 false G 5 w.heap.size ∧ Below w.heap.size w w1) (mk_n G 5 w) (fun w1 e1 => h _ _ ⟨_, rfl, e1.1⟩ (Kp.of e1.2) ⟨hJ.1.trans (Kp.of e1.2), row_kept hJ.2.1 e1.2, row_kept hJ.2.2.1 e1.2, row_kept hJ.2.2.2 e1.2⟩))
        | 13, ho => cases ho; exact oweP (pt G 3) (by decide) rfl (fun L a w hLi hJ hnot hk hv hS K h => op_move 8 _ rfl (hk 8 (by kernel_rfl)) (h _ (Kp.refl _ _) hJ))
        | 14, ho => cases ho; exact oweP (pt G 3) (by decide) rfl (fun L a w hLi hJ hnot hk hv hS K h => op_nil 45 G 3 rfl (hv 13 45 (by kernel_rfl) (by decide) (by kernel_rfl)) (h _ (Kp.refl _ _) hJ))
        | 15, ho => cases ho; exact oweP (pt G 6) (by decide) rfl (fun L a w hLi hJ hnot hk hv hS K h => op_fa 46 _ 3 G 3 3 rfl (fun W => by kernel_rfl) (hv 14 46 (by kernel_rfl) (by decide) (by kernel_rfl)) (h _ (Kp.refl _ _) hJ))
        | 16, ho => cases ho; exact oweS (by decide) (fun L a w hLi hJ hnot hk hv hS K h => op_call 83 [.tmp 47] _ #[pt G 6] (fdV true w.heap.size) rfl (fun _ _ => by kernel_rfl) (args1 (hv 15 47 (by kernel_rfl) (by decide) (by kernel_rfl))) (J := fun w1 => FdAt w1 true G 6 w.heap.size ∧ Below w.heap.size w w1) (mk_t G 6 w) (fun w1 e1 => h _ _ ⟨_, rfl, e1.1⟩ (Kp.of e1.2) ⟨hJ.1.trans (Kp.of e1.2), row_kept hJ.2.1 e1.2, row_kept hJ.2.2.1 e1.2, row_kept hJ.2.2.2 e1.2⟩))
        | 17, ho => cases ho; exact oweS (by decide) (fun L a w hLi hJ hnot hk hv hS K h => by
          obtain ⟨b0, e0, f0⟩ := hS 4 36 (by kernel_rfl) (by decide) (by kernel_rfl)
          obtain ⟨b1, e1, f1⟩ := hS 8 40 (by kernel_rfl) (by decide) (by kernel_rfl)
          obtain ⟨b2, e2, f2⟩ := hS 12 44 (by kernel_rfl) (by decide) (by kernel_rfl)
          obtain ⟨b3, e3, f3⟩ := hS 16 48 (by kernel_rfl) (by decide) (by kernel_rfl)
          refine op_bsV 188 154 [(0, .tmp 36), (1, .tmp 40), (2, .tmp 44), (3, .tmp 48)] rfl (by decide) (by decide) Tryz.underlying188 .nilFunc 8 (by kernel_rfl) [fdV false b0, fdV false b1, fdV false b2, fdV true b3] rfl ?_ (by intro v hv9; simp only [List.mem_cons, List.not_mem_nil, or_false] at hv9; rcases hv9 with rfl | rfl | rfl | rfl <;> rfl) ?_
          · have g0 : a.eval (.tmp 36) = fdV false b0 := e0
            have g1 : a.eval (.tmp 40) = fdV false b1 := e1
            have g2 : a.eval (.tmp 44) = fdV false b2 := e2
            have g3 : a.eval (.tmp 48) = fdV true b3 := e3
            simp only [List.map_cons, List.map_nil, g0, g1, g2, g3]
            rfl
          · have hb := below_a1 w (.cells [fdV false b0, fdV false b1, fdV false b2, fdV true b3].toArray 154)
            refine h _ _ ⟨w.heap.size, _, rfl, top_obj w _, rfl, ?_⟩ (Kp.of hb) ⟨hJ.1.trans (Kp.of hb), row_kept hJ.2.1 hb, row_kept hJ.2.2.1 hb, row_kept hJ.2.2.2 hb⟩
            intro j f hj
            match j, hj with
            | 0, hj => cases hj; exact ⟨b0, rfl, row_kept f0 hb⟩
            | 1, hj => cases hj; exact ⟨b1, rfl, row_kept f1 hb⟩
            | 2, hj => cases hj; exact ⟨b2, rfl, row_kept f2 hb⟩
            | 3, hj => cases hj; exact ⟨b3, rfl, row_kept f3 hb⟩
            | (j + 4), hj => exact absurd hj (by simp [F2]))
        | 18, ho => cases ho; exact oweP (.tuple #[nu l2, nu E2]) (by decide) rfl (fun L a w hLi hJ hnot hk hv hS K h => by
          have hfs := hS 17 49 (by kernel_rfl) (by decide) (by kernel_rfl)
          obtain ⟨j1, j2, j3, j4⟩ := hJ
          rw [hLi, cond_false] at j2 j3
          refine op_callV 32 113 #[pt SB 0, pt AT 0] [.tmp 49] _ #[a.tmps.getD 49 undef] (.tuple #[nu l2, nu E2]) rfl (hv 0 32 (by kernel_rfl) (by decide) (by kernel_rfl)) (fun _ _ => by kernel_rfl) rfl (J := fun w1 => w1.heap[G]? = some (.cells R2.toArray 105) ∧ w1.heap[AT]? = some (.cells #[nu Q2] 3) ∧ w1.heap[SB]? = some (.cells #[st s] 9) ∧ Kp [G, AT] w w1) (HRd.out _ _ hfs j1 j2 j3 j4) (fun w1 e1 => ?_)
          refine h _ e1.2.2.2 ⟨j1.trans e1.2.2.2, ?_, ?_, e1.2.2.1⟩
          · show w1.heap[G]? = some (.cells (bif up L 18 18 then R2 else R1).toArray _)
            rw [up_self]; exact e1.1
          · show w1.heap[AT]? = some (.cells #[nu (bif up L 18 18 then Q2 else Q1)] 3)
            rw [up_self]; exact e1.2.1)
        | 19, ho => cases ho; exact oweP (.tuple #[(nu l2), (nu E2)]) (by decide) rfl (fun L a w hLi hJ hnot hk hv hS K h => op_move 50 _ rfl (hv 18 50 (by kernel_rfl) (by decide) (by kernel_rfl)) (h _ (Kp.refl _ _) hJ))
        | 20, ho => cases ho; exact oweP (nu l2) (by decide) rfl (fun L a w hLi hJ hnot hk hv hS K h => op_extract 31 0 #[(nu l2), (nu E2)] _ rfl (hv 19 31 (by kernel_rfl) (by decide) (by kernel_rfl)) rfl (h _ (Kp.refl _ _) hJ))
        | 21, ho => cases ho; exact oweP (nu E2) (by decide) rfl (fun L a w hLi hJ hnot hk hv hS K h => op_extract 31 1 #[(nu l2), (nu E2)] _ rfl (hv 19 31 (by kernel_rfl) (by decide) (by kernel_rfl)) rfl (h _ (Kp.refl _ _) hJ))
        | 22, ho => cases ho; exact oweP (nu l2) (by decide) rfl (fun L a w hLi hJ hnot hk hv hS K h => op_assign 51 _ rfl (hv 20 51 (by kernel_rfl) (by decide) (by kernel_rfl)) (h _ (Kp.refl _ _) hJ))
        | 23, ho => cases ho; exact oweP (nu E2) (by decide) rfl (fun L a w hLi hJ hnot hk hv hS K h => op_assign 52 _ rfl (hv 21 52 (by kernel_rfl) (by decide) (by kernel_rfl)) (h _ (Kp.refl _ _) hJ))
        | (i + 24), ho => exact absurd ho (by simp)
      intro u LL W7 hall hJ
      simp only [List.foldl_cons, List.foldl_nil, List.setIfInBounds_toArray, List.set_cons_zero, List.set_cons_succ]
      have g7 := hJ.2.1
      rw [hall 18 (by decide), cond_true] at g7
      have a7 := hJ.2.2.1
      rw [hall 18 (by decide), cond_true] at a7
      have M7 := hid (M6.out.read hJ.1 g7 a7 hXG hGw HAT.out)
      clear hJ g7 a7 hall M6 HRd hga c2
      by_cases hE2 : E2 = 0
      · subst hE2
        obtain ⟨p3, p4, p5⟩ := HP3.out rfl
        have HR2 := hid p4
        have ZR2 : (Tryz.prog.info? 105).map (·.size) = some R2.length := by rw [p3]; exact sizeSta
        have LR2 : Z.length = R2.length := by rw [p3, LZ]
        have c2 : W7.cell? ⟨G, 2, none⟩ = some (nu 1) := by rw [cell_of_row _ _ _ _ _ _ M7.out.g]; simpa using p5
        clear p3 p4 p5 HP3
        by_cases hl2 : 0 < l2
        · have HA : Hid (AN = Z ∧ AE = 6) := by
            have e : stE 0 1 0 l1 l2 = 6 := by unfold stE; rw [if_neg (by decide), if_pos rfl, if_neg (by decide), if_pos hl2]
            exact ⟨by rw [HAN.out, e]; rfl, by rw [HAE.out, e]⟩
          have d2 : decide ((0 : Int) < l2) = true := decide_eq_true hl2
          clear HAN HAE hl2
          go_wp2_with (first
              | ((with_reducible refine wl_build 105 ?_ ?_ Z.toArray (HB.out _) ?_); exact rfl; exact rfl)
              | ((with_reducible refine wl_put 105 (.tmp 2) (.tmp 69) ?_ ?_ X 0 ?_ ?_ [] Z Z [] ?_ 105 (row_nilY M7.out.x) rfl rfl OZ.out ZSZ ?_); exact rfl; exact rfl; exact rfl; exact rfl; exact rfl; intro W8 hr8 hb8))
          have hr7 : W8.heap[X]? = some (.cells Z.toArray 105) := by simpa using hr8
          obtain ⟨a1, a2⟩ := HA.out
          rw [a1, a2]
          refine bodyPost_ret_by (results_ctY (fn := Tryz.f39) (p := 2) (u := 3) (ty := 105) (by kernel_rfl) _ _ X 105 Z.toArray (0, 0) _ rfl hr7 Tryz.underlying105 rfl (by rw [List.size_toArray]; exact ZSZ)) rfl ?_
          exact ⟨rfl, hb8.below M7.out.low hXw⟩
        · have HA : Hid (AN = R2 ∧ AE = 0) := by
            have e : stE 0 1 0 l1 l2 = 0 := by unfold stE; rw [if_neg (by decide), if_pos rfl, if_neg (by decide), if_neg hl2]
            exact ⟨by rw [HAN.out, e]; rfl, by rw [HAE.out, e]⟩
          have d2 : decide ((0 : Int) < l2) = false := decide_eq_false hl2
          clear HAN HAE hl2
          go_wp2_with (first
              | ((with_reducible refine wl_load 105 (.tmp 4) ?_ G 0 ?_ ?_ R2 _ (row_zeroY M7.out.g) Tryz.underlying105 ?_ ZR2 ?_); exact rfl; exact rfl; exact rfl; exact rfl)
              | ((with_reducible refine wl_put 105 (.tmp 2) (.tmp 70) ?_ ?_ X 0 ?_ ?_ [] R2 Z [] ?_ 105 (row_nilY M7.out.x) rfl LR2 HR2.out ZR2 ?_); exact rfl; exact rfl; exact rfl; exact rfl; exact rfl; intro W8 hr8 hb8))
          have hr7 : W8.heap[X]? = some (.cells R2.toArray 105) := by simpa using hr8
          obtain ⟨a1, a2⟩ := HA.out
          rw [a1, a2]
          refine bodyPost_ret_by (results_ctY (fn := Tryz.f39) (p := 2) (u := 3) (ty := 105) (by kernel_rfl) _ _ X 105 R2.toArray (0, 0) _ rfl hr7 Tryz.underlying105 rfl (by rw [List.size_toArray]; exact ZR2)) rfl ?_
          exact ⟨rfl, hb8.below M7.out.low hXw⟩
      · have HA : Hid (AN = Z ∧ AE = E2) := by
          have e : stE 0 1 E2 l1 l2 = E2 := by unfold stE; rw [if_neg (by decide), if_pos rfl, if_pos hE2]
          exact ⟨by rw [HAN.out, e, if_neg (by omega)], by rw [HAE.out, e]⟩
        have de : ((E2 : Int) != 0) = true := by simp; omega
        have de' : (E2 != 0) = true := by simp; omega
        clear HAN HAE hE2
        go_wp2_with (first
            | ((with_reducible refine wl_build 105 ?_ ?_ Z.toArray (HB.out _) ?_); exact rfl; exact rfl)
            | ((with_reducible refine wl_put 105 (.tmp 2) (.tmp 55) ?_ ?_ X 0 ?_ ?_ [] Z Z [] ?_ 105 (row_nilY M7.out.x) rfl rfl OZ.out ZSZ ?_); exact rfl; exact rfl; exact rfl; exact rfl; exact rfl; intro W8 hr8 hb8))
        have hr7 : W8.heap[X]? = some (.cells Z.toArray 105) := by simpa using hr8
        obtain ⟨a1, a2⟩ := HA.out
        rw [a1, a2]
        refine bodyPost_ret_by (results_ctY (fn := Tryz.f39) (p := 2) (u := 3) (ty := 105) (by kernel_rfl) _ _ X 105 Z.toArray (0, 0) _ rfl hr7 Tryz.underlying105 rfl (by rw [List.size_toArray]; exact ZSZ)) rfl ?_
        exact ⟨rfl, hb8.below M7.out.low hXw⟩
    · have dn1 : (n == 1) = false := by simpa using hn
      have dn2 : (n != 1) = true := by simpa using hn
      clear H2
      by_cases hz : n = 0
      · subst hz
        by_cases hl1 : 0 < l1
        · have HA : Hid (AN = Z ∧ AE = 6) := by
            have e : stE 0 0 E2 l1 l2 = 6 := by unfold stE; rw [if_neg (by decide), if_neg (by decide), if_neg (by decide), if_pos hl1]
            exact ⟨by rw [HAN.out, e]; rfl, by rw [HAE.out, e]⟩
          have d2 : decide ((0 : Int) < l1) = true := decide_eq_true hl1
          clear HAN HAE hl1
          go_wp2_with (first
              | ((with_reducible refine wl_build 105 ?_ ?_ Z.toArray (HB.out _) ?_); exact rfl; exact rfl)
              | ((with_reducible refine wl_put 105 (.tmp 2) (.tmp 69) ?_ ?_ X 0 ?_ ?_ [] Z Z [] ?_ 105 (row_nilY M6.out.x) rfl rfl OZ.out ZSZ ?_); exact rfl; exact rfl; exact rfl; exact rfl; exact rfl; intro W8 hr8 hb8))
          have hr7 : W8.heap[X]? = some (.cells Z.toArray 105) := by simpa using hr8
          obtain ⟨a1, a2⟩ := HA.out
          rw [a1, a2]
          refine bodyPost_ret_by (results_ctY (fn := Tryz.f39) (p := 2) (u := 3) (ty := 105) (by kernel_rfl) _ _ X 105 Z.toArray (0, 0) _ rfl hr7 Tryz.underlying105 rfl (by rw [List.size_toArray]; exact ZSZ)) rfl ?_
          exact ⟨rfl, hb8.below M6.out.low hXw⟩
        · have HA : Hid (AN = R1 ∧ AE = 0) := by
            have e : stE 0 0 E2 l1 l2 = 0 := by unfold stE; rw [if_neg (by decide), if_neg (by decide), if_neg (by decide), if_neg hl1]
            exact ⟨by rw [HAN.out, e]; rfl, by rw [HAE.out, e]⟩
          have d2 : decide ((0 : Int) < l1) = false := decide_eq_false hl1
          have ZR1 : (Tryz.prog.info? 105).map (·.size) = some R1.length := by rw [LR1]; exact sizeSta
          have LRZ : Z.length = R1.length := by rw [LR1, LZ]
          clear HAN HAE hl1
          go_wp2_with (first
              | ((with_reducible refine wl_load 105 (.tmp 4) ?_ G 0 ?_ ?_ R1 _ (row_zeroY M6.out.g) Tryz.underlying105 ?_ ZR1 ?_); exact rfl; exact rfl; exact rfl; exact rfl)
              | ((with_reducible refine wl_put 105 (.tmp 2) (.tmp 70) ?_ ?_ X 0 ?_ ?_ [] R1 Z [] ?_ 105 (row_nilY M6.out.x) rfl LRZ HR1.out ZR1 ?_); exact rfl; exact rfl; exact rfl; exact rfl; exact rfl; intro W8 hr8 hb8))
          have hr7 : W8.heap[X]? = some (.cells R1.toArray 105) := by simpa using hr8
          obtain ⟨a1, a2⟩ := HA.out
          rw [a1, a2]
          refine bodyPost_ret_by (results_ctY (fn := Tryz.f39) (p := 2) (u := 3) (ty := 105) (by kernel_rfl) _ _ X 105 R1.toArray (0, 0) _ rfl hr7 Tryz.underlying105 rfl (by rw [List.size_toArray]; exact ZR1)) rfl ?_
          exact ⟨rfl, hb8.below M6.out.low hXw⟩
      · have HA : Hid (AN = Z ∧ AE = 6) := by
          have e : stE 0 n E2 l1 l2 = 6 := by unfold stE; rw [if_neg (by decide), if_neg hn, if_pos hz]
          exact ⟨by rw [HAN.out, e]; rfl, by rw [HAE.out, e]⟩
        have dz : (n != 0) = true := by simpa using hz
        clear HAN HAE hz hn
        go_wp2_with (first
            | ((with_reducible refine wl_build 105 ?_ ?_ Z.toArray (HB.out _) ?_); exact rfl; exact rfl)
            | ((with_reducible refine wl_put 105 (.tmp 2) (.tmp 69) ?_ ?_ X 0 ?_ ?_ [] Z Z [] ?_ 105 (row_nilY M6.out.x) rfl rfl OZ.out ZSZ ?_); exact rfl; exact rfl; exact rfl; exact rfl; exact rfl; intro W8 hr8 hb8))
        have hr7 : W8.heap[X]? = some (.cells Z.toArray 105) := by simpa using hr8
        obtain ⟨a1, a2⟩ := HA.out
        rw [a1, a2]
        refine bodyPost_ret_by (results_ctY (fn := Tryz.f39) (p := 2) (u := 3) (ty := 105) (by kernel_rfl) _ _ X 105 Z.toArray (0, 0) _ rfl hr7 Tryz.underlying105 rfl (by rw [List.size_toArray]; exact ZSZ)) rfl ?_
        exact ⟨rfl, hb8.below M6.out.low hXw⟩
  · have HA : Hid (AN = Z ∧ AE = E1) := by
      have e : stE E1 n E2 l1 l2 = E1 := by unfold stE; rw [if_pos hE1]
      exact ⟨by rw [HAN.out, e, if_neg (by omega)], by rw [HAE.out, e]⟩
    have de : ((E1 : Int) == 0) = false := by simp; omega
    have de' : ((E1 : Int) != 0) = true := by simp; omega
    have de2 : (E1 == 0) = false := by simp; omega
    have de3 : (E1 != 0) = true := by simp; omega
    clear HAN HAE hE1 HQ1 H2
    go_wp2_with (first
        | ((with_reducible refine wl_build 105 ?_ ?_ Z.toArray (HB.out _) ?_); exact rfl; exact rfl)
        | ((with_reducible refine wl_put 105 (.tmp 2) (.tmp 55) ?_ ?_ X 0 ?_ ?_ [] Z Z [] ?_ 105 (row_nilY M6.out.x) rfl rfl OZ.out ZSZ ?_); exact rfl; exact rfl; exact rfl; exact rfl; exact rfl; intro W8 hr8 hb8))
    have hr7 : W8.heap[X]? = some (.cells Z.toArray 105) := by simpa using hr8
    obtain ⟨a1, a2⟩ := HA.out
    rw [a1, a2]
    refine bodyPost_ret_by (results_ctY (fn := Tryz.f39) (p := 2) (u := 3) (ty := 105) (by kernel_rfl) _ _ X 105 Z.toArray (0, 0) _ rfl hr7 Tryz.underlying105 rfl (by rw [List.size_toArray]; exact ZSZ)) rfl ?_
    exact ⟨rfl, hb8.below M6.out.low hXw⟩
end Go.Proofs.YtekfcbedlokidaaGreatDoor.Ms
