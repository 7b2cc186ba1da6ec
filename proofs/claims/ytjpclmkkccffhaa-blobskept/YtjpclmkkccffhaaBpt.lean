/-
  What Put answers, and what is there behind it.
-/
import Derived.Test.YtjpclmkkccffhaaBop
namespace Go.Proofs.Ytjpclmkkccffhaa.Bl
open Go Go.RowKit Go.Maps
set_option maxRecDepth 100000

/-- What the slots of the region hold that looks a blob up and lays it into a variable. -/
def vP (x : Blo) (B : Nat) (cs : List Value) (L : Nat → Bool) (i : Nat) (v : Value) (w : World) : Prop :=
  if i = 9 then ∃ g row, v = ptr g 0 ∧ B ≤ g ∧ w.heap[g]? = some (.cells (List.toArray row) 33) ∧ row.length = 35 ∧ (L 10 = true → row = bloC x) else v = cs.getD i undef
section
variable {P : Program} {ops : Array Oper} {Q : Exit → Act → World → Prop} {N : Nat} {a0 : Act} {w0 : World} {x : Blo} {cs : List Value} {i : Nat} {o : Oper}
theorem vP_c {B : Nat} {L : Nat → Bool} {v : Value} {w : World} (h : vP x B cs L i v w) (hi : i ≠ 9) : v = cs.getD i undef := by
  unfold vP at h
  rwa [if_neg hi] at h
theorem owe_c (c : Value) (hi : i ≠ 9) (hi' : i ≠ 10) (hc : cs.getD i undef = c)
    (H : ∀ (L : Nat → Bool) (a : Act) (w : World), Below w0.heap.size w0 w → (∀ j, waits o j = true → L j = true) → (∀ t, keepOk ops i t = true → a.tmps.getD t undef = a0.tmps.getD t undef) → (∀ j d, waits o j = true → j ≠ 9 → dstOf ops j = some d → a.tmps.getD d undef = cs.getD j undef) → ∀ K : Act → World → Prop, K (a.put o.dst c) w → o.wp P a w K Q) :
    Owe P ops Q N a0 (vP x w0.heap.size cs) (fun _ w => Below w0.heap.size w0 w) i o := by
  intro L a w hLi hw hnot hJ hs hk hv
  refine H L a w hJ hw hk (fun j d hj h9 hd => vP_c (hv j d (hw j hj) hd) h9) _ ⟨c, rfl, fun _ => ?_, hJ, fun j d hj hd => ?_⟩
  · unfold vP
    rw [if_neg hi]
    exact hc.symm
  · have hu := hv j d hj hd
    unfold vP at hu ⊢
    rw [up_ne hi']
    exact hu
end
theorem fa_store (g : Nat) (w : World) : (Instr.fieldAt 61 (ptr g 0) 0).run Try.prog w = .ok (ptr g (0 + 0)) w := by kernel_rfl
theorem uStoreMap : ∃ d, Try.prog.underlying 59 = some d ∧ (match d with | .struct _ | .array _ _ => false | _ => true) = true := ⟨_, uMap, rfl⟩
set_option maxHeartbeats 4000000 in
theorem put_any {w : World} {s m : Nat} {L : List Blo} (h : StAt w s m L) (b : Blo) (hbw : b.Wf) : Calls Try.prog 11 #[ptr s 0, .agg (bloC b).toArray] w fun e w' =>
    e = .returned (nu (putE L b)) ∧ StAt w' s m (putD L b) ∧ Kp [m] w w' := by
  have B0 := hid (below_a1 w (.cells (bloC b).toArray 33))
  have R0 := hid (top_obj w (.cells (bloC b).toArray 33))
  have H0 := hid (h.kept B0.out)
  have HM := hid (made_any H0.out)
  have Zb := hid (sizeOf_blo hbw)
  have S0 : Hid (w.heap.size ≠ m ∧ w.heap.size ≠ s) := by
    have h1 := h.map.lt
    have h2 := row_lt h.obj
    exact ⟨by omega, by omega⟩
  clear h
  cases hm : mayB b with
  | false =>
    have HE : Hid (putE L b = 2 ∧ putD L b = L) := by
      show _ ∧ _
      unfold putE putD
      rw [hm]
      exact ⟨rfl, rfl⟩
    go_enter Try.func11, Try.ntmps11
    go_upto_region 1 with fail
    generalize w.alloc (.cells (bloC b).toArray 33) = W0 at *
    have HY := hid (may_any b W0)
    rw [hm] at HY
    go_wp2_with (first
      | (go_at_call 21; refine HM.out.mono ?_; rintro e w1 ⟨rfl, hw1⟩; subst w1)
      | ((with_reducible refine wl_load 33 (.tmp 3) ?_ w.heap.size 0 ?_ ?_ (bloC b) _ (brow_all R0.out) Try.underlying33 ?_ Zb.out ?_); exact rfl; exact rfl; exact rfl; exact rfl)
      | (go_at_call 22; refine HY.out.mono ?_; rintro e W1 ⟨rfl, b1⟩; have B1 := hid b1; clear b1))
    go_ret
    refine ⟨by rw [HE.out.1]; rfl, ?_, Kp.of (below_two B0.out B1.out)⟩
    rw [HE.out.2]
    exact H0.out.kept B1.out
  | true =>
    have h64 := hid (may_i64 hm)
    have hm4 := hid ((mayB_iff b).1 hm).2.2
    have HP := hid hm
    go_enter Try.func11, Try.ntmps11
    go_upto_region 1 with fail
    generalize w.alloc (.cells (bloC b).toArray 33) = W0 at *
    have HY := hid (may_any b W0)
    rw [hm] at HY
    clear hm
    go_upto_region 6 with (first
      | (go_at_call 21; refine HM.out.mono ?_; rintro e w1 ⟨rfl, hw1⟩; subst w1)
      | ((with_reducible refine wl_load 33 (.tmp 3) ?_ w.heap.size 0 ?_ ?_ (bloC b) _ (brow_all R0.out) Try.underlying33 ?_ Zb.out ?_); exact rfl; exact rfl; exact rfl; exact rfl)
      | (go_at_call 22; refine HY.out.mono ?_; rintro e W1 ⟨rfl, b1⟩; have B1 := hid b1; have c0 := brow_o (row_kept R0.out b1); have c1 := brow_n (row_kept R0.out b1); clear b1)
      | ((with_reducible refine wl_allocK 57 ?_ ?_ #[nu 0, nu 0] zeroPl ?_); exact rfl; exact rfl; intro W2 r2 b2 s2; have R2 := hid r2; have B2 := hid b2; have S2 := hid s2; clear r2 b2 s2)
      | ((with_reducible refine wl_putK 57 (.tmp 5) (.tmp 18) ?_ ?_ W1.heap.size ?_ ?_ [nu b.owner, nu b.number] [nu 0, nu 0] ?_ 57 R2.out ?_ (one_pk _ _) ?_ ?_); exact rfl; exact rfl; exact rfl; exact rfl; exact rfl; exact rfl; exact sizePl; intro W3 r3 k3 s3; have R3 := hid r3; have K3 := hid k3; have S3 := hid s3; clear r3 k3 s3))
    have H3 : Hid (StAt W3 s m L) := by
      have h1 := H0.out.kept B1.out
      have h2 := row_lt h1.obj
      have h3 := h1.map.lt
      exact (h1.kept B2.out).kp K3.out (by simp; omega) (by simp; omega)
    have R4 : Hid (W3.heap[w.heap.size]? = some (.cells (bloC b).toArray 33)) := K3.out.row (row_kept (row_kept R0.out B1.out) B2.out) (by
      have h1 := row_lt R0.out
      have h2 := B1.out.size
      simp; omega)
    have B3 : Hid (Below w.heap.size w W3) := B0.out.trans ((B1.out.mono B0.out.size).trans ((B2.out.mono (Nat.le_trans B0.out.size B1.out.size)).trans (K3.out.below (by simp; exact Nat.le_trans B0.out.size B1.out.size) (Nat.le_trans B0.out.size (Nat.le_trans B1.out.size B2.out.size)))))
    have L5 : Hid (W1.heap.size < W3.heap.size) := by show _ < _; rw [S3.out, S2.out]; omega
    obtain ⟨x, hx⟩ : ∃ x, getB L b.owner b.number = x := ⟨_, rfl⟩
    obtain ⟨f, hf⟩ : ∃ f, foundB L b.owner b.number = f := ⟨_, rfl⟩
    have hxw : x.Wf := by rw [← hx]; exact getB_wf H3.out.inv _ _
    have HX := hid hx
    have HF := hid hf
    clear hx hf HM HY c0 c1
    refine wp_region_md (N := 46) (vP x W3.heap.size [ptr s 0, ptr s 0, ptr s (0 + 0), .map (some m), pk b.owner b.number, .tuple #[.agg (bloC x).toArray, .bool f], .tuple #[.agg (bloC x).toArray, .bool f], .agg (bloC x).toArray, .bool f, undef, undef, .bool f]) (fun _ w => Below W3.heap.size W3 w) (by kernel_rfl) (by kernel_rfl) rfl (fun w1 h1 => h1) ?_ ?_
    · intro i o ho
      match i, ho with
      | 0, ho => cases ho; exact owe_c (ptr s 0) (by decide) (by decide) rfl (fun L a w hB hw hk hv K h => op_move 0 _ rfl (hk 0 (by kernel_rfl)) h)
      | 1, ho => cases ho; exact owe_c (ptr s 0) (by decide) (by decide) rfl (fun L a w hB hw hk hv K h => op_nil 20 s 0 rfl (hv 0 20 (by kernel_rfl) (by decide) (by kernel_rfl)) h)
      | 2, ho => cases ho; exact owe_c (ptr s (0 + 0)) (by decide) (by decide) rfl (fun L a w hB hw hk hv K h => op_fa 21 _ 0 s 0 0 rfl (fun W => fa_store s W) (hv 1 21 (by kernel_rfl) (by decide) (by kernel_rfl)) h)
      | 3, ho => cases ho; exact owe_c (.map (some m)) (by decide) (by decide) rfl (fun L a w hB hw hk hv K h => op_load1 _ (.tmp 22) rfl s (0 + 0) (hv 2 22 (by kernel_rfl) (by decide) (by kernel_rfl)) _ _ (H3.out.kept hB).cell uMap rfl h)
      | 4, ho => cases ho; exact owe_c (pk b.owner b.number) (by decide) (by decide) rfl (fun L a w hB hw hk hv K h => op_load _ (.tmp 5) rfl W1.heap.size 0 (hk 5 (by kernel_rfl)) [nu b.owner, nu b.number] _ (row_seg (A := []) (C := []) (row_kept R3.out hB) (by simp) rfl) Try.underlying57 rfl sizePl h)
      | 5, ho => cases ho; exact owe_c (.tuple #[.agg (bloC x).toArray, .bool f]) (by decide) (by decide) rfl (fun L' a w hB hw hk hv K h => op_look (L := L) (m := m) (ow := b.owner) (n := b.number) 23 24 rfl (hv 3 23 (by kernel_rfl) (by decide) (by kernel_rfl)) (hv 4 24 (by kernel_rfl) (by decide) (by kernel_rfl)) (H3.out.kept hB).map H3.out.inv h64.out.1 h64.out.2 (by rw [HX.out, HF.out]; exact h))
      | 6, ho => cases ho; exact owe_c (.tuple #[.agg (bloC x).toArray, .bool f]) (by decide) (by decide) rfl (fun L a w hB hw hk hv K h => op_move 25 _ rfl (hv 5 25 (by kernel_rfl) (by decide) (by kernel_rfl)) h)
      | 7, ho => cases ho; exact owe_c (.agg (bloC x).toArray) (by decide) (by decide) rfl (fun L a w hB hw hk hv K h => op_extract 19 0 #[.agg (bloC x).toArray, .bool f] _ rfl (hv 6 19 (by kernel_rfl) (by decide) (by kernel_rfl)) rfl h)
      | 8, ho => cases ho; exact owe_c (.bool f) (by decide) (by decide) rfl (fun L a w hB hw hk hv K h => op_extract 19 1 #[.agg (bloC x).toArray, .bool f] _ rfl (hv 6 19 (by kernel_rfl) (by decide) (by kernel_rfl)) rfl h)
      | 9, ho =>
        cases ho
        intro L' a w hLi hw hnot hJ hs hk hv
        refine op_alloc 33 rfl (bloC zeroB).toArray zeroBl ⟨_, rfl, fun _ => ?_, hJ.trans ((below_a1 w _).mono hJ.size), fun j d hj hd => ?_⟩
        · unfold vP
          rw [if_pos rfl]
          refine ⟨w.heap.size, bloC zeroB, rfl, hJ.size, top_obj w _, bloC_len zeroB_wf, fun h10 => ?_⟩
          rw [up_ne (by decide), hnot 10 _ rfl (by kernel_rfl)] at h10
          cases h10
        · have hj9 : j ≠ 9 := by rintro rfl; rw [hLi] at hj; cases hj
          have := vP_c (hv j d hj hd) hj9
          unfold vP
          rw [if_neg hj9]
          exact this
      | 10, ho =>
        cases ho
        intro L' a w hLi hw hnot hJ hs hk hv
        have h9 := hv 9 6 (hw 9 (by kernel_rfl)) (by kernel_rfl)
        have h7 := vP_c (hv 7 26 (hw 7 (by kernel_rfl)) (by kernel_rfl)) (by decide)
        unfold vP at h9
        rw [if_pos rfl] at h9
        obtain ⟨g, row, e1, hg, hrow, hl, -⟩ := h9
        refine op_store 33 (.tmp 6) (.tmp 26) rfl rfl g e1 (bloC x) row h7 33 hrow (hl.trans (bloC_len hxw).symm) (one_blo x) (sizeOf_blo hxw) ⟨undef, rfl, fun h => Bool.noConfusion h, ?_, fun j d hj hd => ?_⟩
        · exact hJ.trans (((Kp.refl [g] w).setRow g _ (Or.inl (by simp))).below (by simpa using hg) hJ.size)
        · by_cases hj9 : j = 9
          · subst hj9
            have : d = 6 := by
              have h1 : some 6 = some d := hd
              cases h1
              rfl
            subst this
            unfold vP
            rw [if_pos rfl]
            exact ⟨g, bloC x, e1, hg, setRow_heap w g _ _ _ (0, 0) hrow, bloC_len hxw, fun _ => rfl⟩
          · have := vP_c (hv j d hj hd) hj9
            unfold vP
            rw [if_neg hj9]
            exact this
      | 11, ho => cases ho; exact owe_c (.bool f) (by decide) (by decide) rfl (fun L a w hB hw hk hv K h => op_assign 27 _ rfl (hv 8 27 (by kernel_rfl) (by decide) (by kernel_rfl)) h)
      | (i + 12), ho => exact absurd ho (by simp)
    · intro L' a W4 hall hJ hs hd hk hv
      obtain ⟨tm, df⟩ := a
      obtain rfl : df = [] := hd
      have h9 := hv 9 6 (by kernel_rfl)
      unfold vP at h9
      rw [if_pos rfl] at h9
      obtain ⟨g, row, e1, hg, hrow, -, hrx⟩ := h9
      obtain rfl := hrx (hall 10 (by decide))
      have e := frame_of (c := fun i => ([ptr s 0, ptr s 0, ptr s (0 + 0), .map (some m), pk b.owner b.number, .tuple #[.agg (bloC x).toArray, .bool f], .tuple #[.agg (bloC x).toArray, .bool f], .agg (bloC x).toArray, .bool f, ptr g 0, undef, .bool f] : List Value).getD i undef) hs hk (fun i d hd => by
        by_cases h9 : i = 9
        · subst h9
          have h1 : some 6 = some d := hd
          cases h1
          exact e1
        · rw [vP_c (hv i d hd) h9]
          match i, h9 with
          | 0, _ | 1, _ | 2, _ | 3, _ | 4, _ | 5, _ | 6, _ | 7, _ | 8, _ | 10, _ | 11, _ => rfl
          | (i + 12), _ => rfl)
      have hA : tm = #[ptr s 0, .agg (bloC b).toArray, undef, ptr w.heap.size 0, nu 0, ptr W1.heap.size 0, ptr g 0, .bool f, ptr s 0, .bool true, .bool false, .agg (bloC b).toArray, .bool true, .bool false, ptr w.heap.size 0, nu b.owner, ptr w.heap.size 1, nu b.number, pk b.owner b.number, .tuple #[.agg (bloC x).toArray, .bool f], ptr s 0, ptr s 0, ptr s (0 + 0), .map (some m), pk b.owner b.number, .tuple #[.agg (bloC x).toArray, .bool f], .agg (bloC x).toArray, .bool f, undef, undef, undef, undef, undef, undef, undef, undef, undef, undef, undef, undef, undef, undef, undef, undef, undef, undef] := e.trans (by kernel_rfl)
      clear e hk hv hs hall e1
      subst hA
      have R6 := hid hrow
      have J4 := hid hJ
      have H4 := hid (H3.out.kept hJ)
      have R40 := hid (row_kept R4.out hJ)
      have R45 := hid (row_kept R3.out hJ)
      have Zx := hid (sizeOf_blo hxw)
      clear hrow hJ
      cases f with
      | true =>
        have hfind : L.find? (hitB b.owner b.number) = some x := by
          have h1 := HF.out
          have h2 := HX.out
          unfold foundB at h1
          unfold getB at h2
          cases e : L.find? (hitB b.owner b.number) with
          | none => rw [e] at h1; cases h1
          | some y => rw [e] at h2; exact congrArg some h2
        have HE : Hid (putE L b = (if sameB x b then 0 else 10) ∧ putD L b = L) := by
          show _ ∧ _
          unfold putE putD
          rw [HP.out, hfind]
          exact ⟨rfl, rfl⟩
        have HG := hid (again_any x b hxw hbw W4)
        clear hfind
        generalize (if sameB x b then (0 : Int) else 10) = er at *
        go_wp2_with (first
          | ((with_reducible refine wl_load 33 (.tmp 6) ?_ g 0 ?_ ?_ (bloC x) _ (brow_all R6.out) Try.underlying33 ?_ Zx.out ?_); exact rfl; exact rfl; exact rfl; exact rfl)
          | ((with_reducible refine wl_load 33 (.tmp 3) ?_ w.heap.size 0 ?_ ?_ (bloC b) _ (brow_all R40.out) Try.underlying33 ?_ Zb.out ?_); exact rfl; exact rfl; exact rfl; exact rfl)
          | (go_at_call 23; refine HG.out.mono ?_; rintro e W5 ⟨rfl, b5⟩; have B5 := hid b5; clear b5))
        go_ret
        refine ⟨by rw [HE.out.1]; rfl, ?_, Kp.of (B3.out.trans ((J4.out.mono B3.out.size).trans (B5.out.mono (Nat.le_trans B3.out.size J4.out.size))))⟩
        rw [HE.out.2]
        exact H4.out.kept B5.out
      | false =>
        have hfind : L.find? (hitB b.owner b.number) = none := by
          have h1 := HF.out
          unfold foundB at h1
          cases e : L.find? (hitB b.owner b.number) with
          | none => rfl
          | some y => rw [e] at h1; cases h1
        have HN : Hid (NoHit L b.owner b.number) := hfind
        have HO := hid (room_any H4.out b hm4.out)
        cases hr : roomB L b with
        | false =>
          have HE : Hid (putE L b = 11 ∧ putD L b = L) := by
            show _ ∧ _
            unfold putE putD
            rw [HP.out, hfind]
            simp [hr]
          rw [hr] at HO
          clear hfind hr
          go_wp2_with (first
            | ((with_reducible refine wl_load 33 (.tmp 3) ?_ w.heap.size 0 ?_ ?_ (bloC b) _ (brow_all R40.out) Try.underlying33 ?_ Zb.out ?_); exact rfl; exact rfl; exact rfl; exact rfl)
            | (go_at_call 24; refine HO.out.mono ?_; rintro e W5 ⟨rfl, b5⟩; have B5 := hid b5; clear b5))
          go_ret
          refine ⟨by rw [HE.out.1]; rfl, ?_, Kp.of (B3.out.trans ((J4.out.mono B3.out.size).trans (B5.out.mono (Nat.le_trans B3.out.size J4.out.size))))⟩
          rw [HE.out.2]
          exact H4.out.kept B5.out
        | true =>
          have HE : Hid (putE L b = 0 ∧ putD L b = L ++ [b]) := by
            show _ ∧ _
            unfold putE putD
            rw [HP.out, hfind]
            simp [hr]
          have HI : Hid (Inv (L ++ [b])) := H3.out.inv.app HP.out hbw hfind hr
          rw [hr] at HO
          clear hfind hr
          go_upto_region 12 with (first
            | ((with_reducible refine wl_load 33 (.tmp 3) ?_ w.heap.size 0 ?_ ?_ (bloC b) _ (brow_all R40.out) Try.underlying33 ?_ Zb.out ?_); exact rfl; exact rfl; exact rfl; exact rfl)
            | (go_at_call 24; refine HO.out.mono ?_; rintro e W5 ⟨rfl, b5⟩; have B5 := hid b5; have c5 := brow_c (row_kept R40.out b5); have HC := hid (clone_any b.cipher (by have := hm4.out; omega) W5); clear b5)
            | (go_at_call 25; refine HC.out.mono ?_; rintro e W6 ⟨rfl, b6⟩; have B6 := hid b6; have R66 := hid (row_kept (row_kept R40.out B5.out) b6); have c6 := brow_c R66.out; have f6 : W6.frozen? ⟨w.heap.size, 2, none⟩ = false := (by simp [World.frozen?, R66.out]); clear b6))
          have R7 : Hid ((W6.setCell ⟨w.heap.size, 2, none⟩ (st b.cipher)).heap[w.heap.size]? = some (.cells (bloC b).toArray 33)) := by
            have e0 : bloC b = [nu b.owner, nu b.number] ++ ([st b.cipher] ++ dg b.tag) := by simp [bloC]
            have h0 := R66.out
            rw [e0] at h0
            show _ = _
            rw [e0]
            exact row_set h0 rfl
          have K7 : Hid (Kp [w.heap.size] W6 (W6.setCell ⟨w.heap.size, 2, none⟩ (st b.cipher))) := (Kp.refl _ _).setCell _ _ (Or.inl (by simp))
          have hW6 : Hid (w.heap.size ≤ W6.heap.size) := Nat.le_trans B3.out.size (Nat.le_trans J4.out.size (Nat.le_trans B5.out.size B6.out.size))
          have H6 := hid ((H4.out.kept B5.out).kept B6.out)
          generalize W6.setCell ⟨w.heap.size, 2, none⟩ (st b.cipher) = W7 at *
          have H7 : Hid (StAt W7 s m L) := H6.out.kp K7.out (by simpa using Ne.symm S0.out.2) (by simpa using Ne.symm S0.out.1)
          have R75 : Hid (W7.heap[W1.heap.size]? = some (.cells #[nu b.owner, nu b.number] 57)) := K7.out.row (row_kept (row_kept R45.out B5.out) B6.out) (by
            have h1 := row_lt R0.out
            have h2 := B1.out.size
            simp; omega)
          have B7 : Hid (Below w.heap.size w W7) := B3.out.trans ((J4.out.mono B3.out.size).trans ((B5.out.mono (Nat.le_trans B3.out.size J4.out.size)).trans ((B6.out.mono (Nat.le_trans B3.out.size (Nat.le_trans J4.out.size B5.out.size))).trans (K7.out.below (by simp) hW6.out))))
          clear R66 c6 f6 c5 H6
          refine wp_region_grow (N := 46) 6 (fun i v _ => v = ([ptr s 0, ptr s 0, ptr s (0 + 0), .map (some m), pk b.owner b.number, .agg (bloC b).toArray] : List Value).getD i undef) (by kernel_rfl) (by kernel_rfl) (by kernel_rfl) rfl (fun i v w w' h _ => h) ?_ ?_
          · intro i o hi ho
            match i, ho with
            | 0, ho => cases ho; exact fun a w hB hk hv => op_move 0 _ rfl (hk 0 (by kernel_rfl)) ⟨_, rfl, rfl, Below.refl _ _⟩
            | 1, ho => cases ho; exact fun a w hB hk hv => op_nil 40 s 0 rfl (hv 0 40 (by kernel_rfl) (by kernel_rfl)) ⟨_, rfl, rfl, Below.refl _ _⟩
            | 2, ho => cases ho; exact fun a w hB hk hv => op_fa 41 _ 0 s 0 0 rfl (fun W => fa_store s W) (hv 1 41 (by kernel_rfl) (by kernel_rfl)) ⟨_, rfl, rfl, Below.refl _ _⟩
            | 3, ho => cases ho; exact fun a w hB hk hv => op_load1 _ (.tmp 42) rfl s (0 + 0) (hv 2 42 (by kernel_rfl) (by kernel_rfl)) (.map (some m)) _ (H7.out.kept hB).cell uMap rfl ⟨_, rfl, rfl, Below.refl _ _⟩
            | 4, ho => cases ho; exact fun a w hB hk hv => op_load _ (.tmp 5) rfl W1.heap.size 0 (hk 5 (by kernel_rfl)) [nu b.owner, nu b.number] _ (row_seg (A := []) (C := []) (row_kept R75.out hB) (by simp) rfl) Try.underlying57 rfl sizePl ⟨_, rfl, rfl, Below.refl _ _⟩
            | 5, ho => cases ho; exact fun a V hB hk hv => op_load _ (.tmp 3) rfl w.heap.size 0 (hk 3 (by kernel_rfl)) (bloC b) _ (brow_all (row_kept R7.out hB)) Try.underlying33 rfl Zb.out ⟨_, rfl, rfl, Below.refl _ _⟩
            | (i + 6), ho => omega
          · intro o a W8 ho hB hs hd hk hv
            cases ho
            refine op_update (L := L) (m := m) 43 44 45 rfl rfl b (hv 3 43 (by decide) (by kernel_rfl)) (hv 4 44 (by decide) (by kernel_rfl)) (hv 5 45 (by decide) (by kernel_rfl)) (H7.out.kept hB).map H7.out.inv HP.out HN.out ?_
            intro W9 hM9 hK9
            obtain ⟨tm, df⟩ := a
            obtain rfl : df = [] := hd
            have HSt : Hid (StAt W9 s m (L ++ [b])) := by
              have h1 := H7.out.kept hB
              exact ⟨hK9.row h1.obj (by simpa using h1.ne), hM9, HI.out⟩
            have HK : Hid (Kp [m] w W9) := (Kp.of (B7.out.trans (hB.mono B7.out.size))).trans hK9
            go_wp2
            go_ret
            refine ⟨?_, ?_, HK.out⟩
            · rw [HE.out.1]
              have h4 : 4 < tm.size := by
                have : tm.size = 46 := hs
                omega
              simp [h4]
            · rw [HE.out.2]
              exact HSt.out
theorem put_nil (w : World) (b : Blo) : Calls Try.prog 11 #[.pointer none, .agg (bloC b).toArray] w fun e w' => e = .returned (nu 1) ∧ Below w.heap.size w w' := by
  have B0 := hid (below_a1 w (.cells (bloC b).toArray 33))
  go_enter Try.func11, Try.ntmps11
  go_upto_region 1 with fail
  generalize w.alloc (.cells (bloC b).toArray 33) = W0 at *
  have HM := hid (made_nil W0)
  go_wp2_with (go_at_call 21; refine HM.out.mono ?_; rintro e w1 ⟨rfl, hw1⟩; subst w1)
  go_ret
  exact ⟨rfl, B0.out⟩
end Go.Proofs.Ytjpclmkkccffhaa.Bl
