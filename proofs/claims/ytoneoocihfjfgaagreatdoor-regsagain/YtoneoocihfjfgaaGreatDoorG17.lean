/-
  A submit that is refused: what is answered (Submit).
-/
import Derived.Test.YtoneoocihfjfgaaGreatDoorG16
namespace Go.Proofs.YtoneoocihfjfgaaGreatDoor.Ms
open Go Go.RowKit
set_option maxRecDepth 100000
def SubPost (w : World) (p : Nat) (q rs : List Nat) (R : Rs) (c : Int) (x : Sub) (e : Ending) (w' : World) : Prop :=
  ∃ v' q' rs' vs' vP', e = .returned (.tuple #[.agg (repC (subY R c x) v').toArray, nu (subE R c x)]) ∧ RA w' p q' rs' (subR R c x) vs' vP' ∧ OwnP w' v' (subY R c x).pend ∧ (∀ b, v'.ownBlock = some b → w.heap.size ≤ b ∧ b ∉ p :: (q' ++ rs')) ∧ Kp (p :: q) w w' ∧ ∀ b ∈ q' ++ rs', b ∈ q ++ rs ∨ w.heap.size ≤ b
theorem sub_err {w : World} {p : Nat} {q rs : List Nat} {R : Rs} {vs : List Value} {vP : Value} (h : RA w p q rs R vs vP) {c : Int} {x : Sub} (he : subE R c x ≠ 0) {w' : World} (hb : Below w.heap.size w w') :
    SubPost w p q rs R c x (.returned (.tuple #[.agg (repC zeroR (.slice none 0 0)).toArray, nu (subE R c x)])) w' := by
  have h1 : subY R c x = zeroR := by unfold subY; rw [if_pos he]
  have h2 : subR R c x = R := by unfold subR; rw [if_pos he]
  unfold SubPost
  rw [h1, h2]
  exact ⟨_, q, rs, vs, vP, rfl, h.kept hb, OwnP.nil _, (fun b hb => by cases hb), Kp.of hb, fun b hb => Or.inl hb⟩
theorem sub_wf {c : Int} {x : Sub} (hx : x.Wf) : (subM c x).Wf := ⟨hx, wfZeroR, rfl, rfl, wfZeroB⟩
set_option maxHeartbeats 4000000 in
theorem submit_a {w : World} {p : Nat} {q rs : List Nat} {R : Rs} {vs : List Value} {vP : Value} (h : RA w p q rs R vs vP) {c : Int} {x : Sub} (hx : x.Wf) (h1 : hasB R.n c = false) :
    Calls Tryz.prog 13 #[.pointer (some ⟨p, 0, none⟩), nu c, .agg (subC x).toArray] w (SubPost w p q rs R c x) := by
  have B1 := hid (below_a1 w (.cells (subC x).toArray 34))
  have B2 := hid (below_two B1.out (below_a1 (w.alloc (.cells (subC x).toArray 34)) (.cells (repC zeroR (.slice none 0 0)).toArray 45)))
  have T2 := hid (row_kept (top_obj w (.cells (subC x).toArray 34)) (below_a1 (w.alloc (.cells (subC x).toArray 34)) (.cells (repC zeroR (.slice none 0 0)).toArray 45)))
  have U2 := hid (top_obj (w.alloc (.cells (subC x).toArray 34)) (.cells (repC zeroR (.slice none 0 0)).toArray 45))
  have e1 : (w.alloc (.cells (subC x).toArray 34)).heap.size = w.heap.size + 1 := by simp
  rw [e1] at U2
  have H2 := hid (h.kept B2.out)
  have HM := hid (made_any H2.out)
  have HH := hid (has_any H2.out c)
  have ZR := zeroRep
  have IZ : (Tryz.prog.info? 45).map (·.size) = some (repC zeroR (.slice none 0 0)).length := by rw [repC_len wfZeroR]; exact sizeRep
  have OZ := hid (one_rep zeroR (.slice none 0 0) rfl)
  have HBd := hid build_rep
  have ZS : (Tryz.prog.info? 34).map (·.size) = some (subC x).length := by rw [subC_len hx]; exact sizeSub
  have hcode : subE R c x = 2 := by unfold subE subOk; rw [h1]; rfl
  have HEnd : Hid (∀ w', Below w.heap.size w w' → SubPost w p q rs R c x (.returned (.tuple #[.agg (repC zeroR (.slice none 0 0)).toArray, nu 2])) w') := fun w' hb => by
    have := sub_err h (c := c) (x := x) (by rw [hcode]; decide) hb
    rwa [hcode] at this
  rw [h1] at HH
  clear hx h1 ZS T2
  clear h hcode
  show Calls _ _ _ _ (fun e w' => SubPost w p q rs R c x e w')
  generalize repC zeroR (.slice none 0 0) = Z at *
  generalize subC x = V at *
  have hgs : w.heap.size < w.heap.size + 1 := Nat.lt_succ_self _
  go_enter Tryz.func13, Tryz.ntmps13
  go_upto_region 1 with (first | ((with_reducible refine wl_alloc 45 ?_ ?_ Z.toArray ZR ?_); exact rfl; exact rfl))
  generalize w.alloc (.cells V.toArray 34) = W1 at *
  generalize W1.alloc (.cells Z.toArray 45) = W2 at *
  try simp only [Act.put, List.setIfInBounds_toArray, List.set_cons_zero, List.set_cons_succ, e1]
  clear e1
  generalize w.heap.size + 1 = gA at *
  generalize w.heap.size = X at *
  go_wp2_with fail
  refine HM.out.mono ?_
  rintro e w1 ⟨rfl, hw1⟩
  subst w1
  go_wp2_with fail
  refine HH.out.mono ?_
  rintro e w1 ⟨rfl, hw1⟩
  subst w1
  go_wp2_with (first | ((with_reducible refine wl_build 45 ?_ ?_ Z.toArray (HBd.out _) ?_); exact rfl; exact rfl) | ((with_reducible refine wl_put 45 (.tmp 6) (.tmp 31) ?_ ?_ gA 0 ?_ ?_ [] Z Z [] ?_ 45 (row_nil U2.out) rfl rfl OZ.out IZ ?_); exact rfl; exact rfl; exact rfl; exact rfl; exact rfl; intro w4 hr4 hbut))
  have hr5 : w4.heap[gA]? = some (.cells Z.toArray 45) := by simpa using hr4
  refine bodyPost_ret_by (results_ct (fn := Tryz.f13) (p := 6) (u := 7) (ty := 45) (by kernel_rfl) _ _ gA 45 Z.toArray (0, 0) _ rfl hr5 Tryz.underlying45 rfl (by rw [List.size_toArray]; exact IZ)) rfl ?_
  exact HEnd.out _ (hbut.below B2.out (by omega))
set_option maxHeartbeats 4000000 in
theorem submit_b {w : World} {p : Nat} {q rs : List Nat} {R : Rs} {vs : List Value} {vP : Value} (h : RA w p q rs R vs vP) {c : Int} {x : Sub} (hx : x.Wf) (h1 : hasB R.n c = true) (h2 : hasB R.n x.target = false) :
    Calls Tryz.prog 13 #[.pointer (some ⟨p, 0, none⟩), nu c, .agg (subC x).toArray] w (SubPost w p q rs R c x) := by
  have B1 := hid (below_a1 w (.cells (subC x).toArray 34))
  have B2 := hid (below_two B1.out (below_a1 (w.alloc (.cells (subC x).toArray 34)) (.cells (repC zeroR (.slice none 0 0)).toArray 45)))
  have T2 := hid (row_kept (top_obj w (.cells (subC x).toArray 34)) (below_a1 (w.alloc (.cells (subC x).toArray 34)) (.cells (repC zeroR (.slice none 0 0)).toArray 45)))
  have U2 := hid (top_obj (w.alloc (.cells (subC x).toArray 34)) (.cells (repC zeroR (.slice none 0 0)).toArray 45))
  have e1 : (w.alloc (.cells (subC x).toArray 34)).heap.size = w.heap.size + 1 := by simp
  rw [e1] at U2
  have H2 := hid (h.kept B2.out)
  have HM := hid (made_any H2.out)
  have HH := hid (has_any H2.out c)
  have ZR := zeroRep
  have IZ : (Tryz.prog.info? 45).map (·.size) = some (repC zeroR (.slice none 0 0)).length := by rw [repC_len wfZeroR]; exact sizeRep
  have OZ := hid (one_rep zeroR (.slice none 0 0) rfl)
  have HBd := hid build_rep
  have ZS : (Tryz.prog.info? 34).map (·.size) = some (subC x).length := by rw [subC_len hx]; exact sizeSub
  have hcode : subE R c x = 2 := by unfold subE subOk; rw [h1, h2]; rfl
  have HEnd : Hid (∀ w', Below w.heap.size w w' → SubPost w p q rs R c x (.returned (.tuple #[.agg (repC zeroR (.slice none 0 0)).toArray, nu 2])) w') := fun w' hb => by
    have := sub_err h (c := c) (x := x) (by rw [hcode]; decide) hb
    rwa [hcode] at this
  rw [h1] at HH
  have HT := hid (has_any H2.out x.target)
  rw [h2] at HT
  have cx : ((w.alloc (.cells (subC x).toArray 34)).alloc (.cells (repC zeroR (.slice none 0 0)).toArray 45)).cell? ⟨w.heap.size, 2, none⟩ = some (nu x.target) := row_seg (off := 0) (A := []) (cs := subC x) (C := []) T2.out (by simp) rfl 2 _ rfl
  clear hx h1 h2 ZS T2
  clear h hcode
  show Calls _ _ _ _ (fun e w' => SubPost w p q rs R c x e w')
  generalize repC zeroR (.slice none 0 0) = Z at *
  generalize subC x = V at *
  have hgs : w.heap.size < w.heap.size + 1 := Nat.lt_succ_self _
  go_enter Tryz.func13, Tryz.ntmps13
  go_upto_region 1 with (first | ((with_reducible refine wl_alloc 45 ?_ ?_ Z.toArray ZR ?_); exact rfl; exact rfl))
  generalize w.alloc (.cells V.toArray 34) = W1 at *
  generalize W1.alloc (.cells Z.toArray 45) = W2 at *
  try simp only [Act.put, List.setIfInBounds_toArray, List.set_cons_zero, List.set_cons_succ, e1]
  clear e1
  generalize w.heap.size + 1 = gA at *
  generalize w.heap.size = X at *
  go_wp2_with fail
  refine HM.out.mono ?_
  rintro e w1 ⟨rfl, hw1⟩
  subst w1
  go_wp2_with fail
  refine HH.out.mono ?_
  rintro e w1 ⟨rfl, hw1⟩
  subst w1
  go_wp2_with fail
  refine HT.out.mono ?_
  rintro e w1 ⟨rfl, hw1⟩
  subst w1
  go_wp2_with (first | ((with_reducible refine wl_build 45 ?_ ?_ Z.toArray (HBd.out _) ?_); exact rfl; exact rfl) | ((with_reducible refine wl_put 45 (.tmp 6) (.tmp 31) ?_ ?_ gA 0 ?_ ?_ [] Z Z [] ?_ 45 (row_nil U2.out) rfl rfl OZ.out IZ ?_); exact rfl; exact rfl; exact rfl; exact rfl; exact rfl; intro w4 hr4 hbut))
  have hr5 : w4.heap[gA]? = some (.cells Z.toArray 45) := by simpa using hr4
  refine bodyPost_ret_by (results_ct (fn := Tryz.f13) (p := 6) (u := 7) (ty := 45) (by kernel_rfl) _ _ gA 45 Z.toArray (0, 0) _ rfl hr5 Tryz.underlying45 rfl (by rw [List.size_toArray]; exact IZ)) rfl ?_
  exact HEnd.out _ (hbut.below B2.out (by omega))
theorem below_two' {B : Nat} {w w1 w2 : World} (h1 : Below B w w1) (h2 : Below w1.heap.size w1 w2) (hB : B ≤ w1.heap.size := by omega) : Below B w w2 := h1.trans (h2.mono hB)
set_option maxHeartbeats 4000000 in
theorem submit_c {w : World} {p : Nat} {q rs : List Nat} {R : Rs} {vs : List Value} {vP : Value} (h : RA w p q rs R vs vP) {c : Int} {x : Sub} (hx : x.Wf) (hr : (subM c x).Rng) (ht : Tb w) (h1 : hasB R.n c = true) (h2 : hasB R.n x.target = true) (h3 : mayB (subM c x) = false) :
    Calls Tryz.prog 13 #[.pointer (some ⟨p, 0, none⟩), nu c, .agg (subC x).toArray] w (SubPost w p q rs R c x) := by
  have B1 := hid (below_a1 w (.cells (subC x).toArray 34))
  have B2 := hid (below_two B1.out (below_a1 (w.alloc (.cells (subC x).toArray 34)) (.cells (repC zeroR (.slice none 0 0)).toArray 45)))
  have T2 := hid (row_kept (top_obj w (.cells (subC x).toArray 34)) (below_a1 (w.alloc (.cells (subC x).toArray 34)) (.cells (repC zeroR (.slice none 0 0)).toArray 45)))
  have U2 := hid (top_obj (w.alloc (.cells (subC x).toArray 34)) (.cells (repC zeroR (.slice none 0 0)).toArray 45))
  have e1 : (w.alloc (.cells (subC x).toArray 34)).heap.size = w.heap.size + 1 := by simp
  rw [e1] at U2
  have H2 := hid (h.kept B2.out)
  have HM := hid (made_any H2.out)
  have HH := hid (has_any H2.out c)
  have ZR := zeroRep
  have IZ : (Tryz.prog.info? 45).map (·.size) = some (repC zeroR (.slice none 0 0)).length := by rw [repC_len wfZeroR]; exact sizeRep
  have OZ := hid (one_rep zeroR (.slice none 0 0) rfl)
  have HBd := hid build_rep
  have ZS : (Tryz.prog.info? 34).map (·.size) = some (subC x).length := by rw [subC_len hx]; exact sizeSub
  have hcode : subE R c x = 2 := by unfold subE subOk; rw [h1, h2, h3]; rfl
  have HEnd : Hid (∀ w', Below w.heap.size w w' → SubPost w p q rs R c x (.returned (.tuple #[.agg (repC zeroR (.slice none 0 0)).toArray, nu 2])) w') := fun w' hb => by
    have := sub_err h (c := c) (x := x) (by rw [hcode]; decide) hb
    rwa [hcode] at this
  rw [h1] at HH
  have HT := hid (has_any H2.out x.target)
  rw [h2] at HT
  have cx : ((w.alloc (.cells (subC x).toArray 34)).alloc (.cells (repC zeroR (.slice none 0 0)).toArray 45)).cell? ⟨w.heap.size, 2, none⟩ = some (nu x.target) := row_seg (off := 0) (A := []) (cs := subC x) (C := []) T2.out (by simp) rfl 2 _ rfl
  have SX := hid (row_seg (off := 0) (A := []) (cs := subC x) (C := []) T2.out (by simp) rfl)
  have HBm := hid (fun W => build_subm W c x hx)
  have HMy := hid (rmay_any (vP := .slice none 0 0) (vN := .slice none 0 0) (sub_wf (c := c) hx) hr (PensAt.nil ((w.alloc (.cells (subC x).toArray 34)).alloc (.cells (repC zeroR (.slice none 0 0)).toArray 45))) (IntsAt.nil _) ⟨Nat.zero_le _, Nat.zero_le _⟩ (by show (1 : Int) ≠ 2; decide) (ht.stays B2.out))
  rw [h3] at HMy
  clear hr ht h1 h2 h3 hx T2
  generalize msgC (subM c x) (.slice none 0 0) (.slice none 0 0) = MV at *
  clear h hcode
  show Calls _ _ _ _ (fun e w' => SubPost w p q rs R c x e w')
  generalize repC zeroR (.slice none 0 0) = Z at *
  generalize subC x = V at *
  have hgs : w.heap.size < w.heap.size + 1 := Nat.lt_succ_self _
  go_enter Tryz.func13, Tryz.ntmps13
  go_upto_region 1 with (first | ((with_reducible refine wl_alloc 45 ?_ ?_ Z.toArray ZR ?_); exact rfl; exact rfl))
  generalize w.alloc (.cells V.toArray 34) = W1 at *
  generalize W1.alloc (.cells Z.toArray 45) = W2 at *
  try simp only [Act.put, List.setIfInBounds_toArray, List.set_cons_zero, List.set_cons_succ, e1]
  clear e1
  generalize w.heap.size + 1 = gA at *
  have hB2 : w.heap.size ≤ W2.heap.size := B2.out.size
  generalize w.heap.size = X at *
  go_wp2_with fail
  refine HM.out.mono ?_
  rintro e w1 ⟨rfl, hw1⟩
  subst w1
  go_wp2_with fail
  refine HH.out.mono ?_
  rintro e w1 ⟨rfl, hw1⟩
  subst w1
  go_wp2_with fail
  refine HT.out.mono ?_
  rintro e w1 ⟨rfl, hw1⟩
  subst w1
  go_wp2_with (first
    | ((with_reducible refine wl_load 34 (.tmp 5) ?_ X 0 ?_ ?_ V _ SX.out Tryz.underlying34 ?_ ZS ?_); exact rfl; exact rfl; exact rfl; exact rfl)
    | ((with_reducible refine wl_buildL 76 [(0, .const (nu 1)), (1, .tmp 25), (2, .tmp 26)] ?_ ?_ MV.toArray ?_ ?_); exact rfl; exact rfl; exact (HBm.out _)))
  refine HMy.out.mono ?_
  rintro e W3 ⟨rfl, hb3⟩
  have B3 := hid (below_two' B2.out hb3)
  have U3 := hid (row_kept U2.out hb3)
  clear hb3
  go_wp2_with (first | ((with_reducible refine wl_build 45 ?_ ?_ Z.toArray (HBd.out _) ?_); exact rfl; exact rfl) | ((with_reducible refine wl_put 45 (.tmp 6) (.tmp 31) ?_ ?_ gA 0 ?_ ?_ [] Z Z [] ?_ 45 (row_nil U3.out) rfl rfl OZ.out IZ ?_); exact rfl; exact rfl; exact rfl; exact rfl; exact rfl; intro w4 hr4 hbut))
  have hr5 : w4.heap[gA]? = some (.cells Z.toArray 45) := by simpa using hr4
  refine bodyPost_ret_by (results_ct (fn := Tryz.f13) (p := 6) (u := 7) (ty := 45) (by kernel_rfl) _ _ gA 45 Z.toArray (0, 0) _ rfl hr5 Tryz.underlying45 rfl (by rw [List.size_toArray]; exact IZ)) rfl ?_
  exact HEnd.out _ (hbut.below B3.out (by omega))
open Go Go.RowKit
set_option maxRecDepth 100000
theorem subE_again {R : Rs} {c : Int} {x : Sub} (hok : subOk R c x = true) (hn : x.number = (R.reg c).asked.number) : subE R c x = (if sameS x (R.reg c).asked = true then 0 else 10) := by
  unfold subE
  rw [if_neg (by rw [hok]; simp), if_pos hn]
theorem sub_again {w : World} {p : Nat} {q rs : List Nat} {R : Rs} {vs : List Value} {vP : Value} (h : RA w p q rs R vs vP) {c : Int} {x : Sub} (hok : subOk R c x = true) (hn : x.number = (R.reg c).asked.number) {w' : World} (hb : Below w.heap.size w w') {v' : Value} {Y : Rep} {E : Int}
    (ha : AgO (sameS x (R.reg c).asked) (R.reg c).ans Y E) (ho : OwnP w' v' Y.pend) (hv : ∀ b, v'.ownBlock = some b → w.heap.size ≤ b) : SubPost w p q rs R c x (.returned (.tuple #[.agg (repC Y v').toArray, nu E])) w' := by
  have he := subE_again hok hn
  have h2 : subR R c x = R := by
    unfold subR
    by_cases h0 : subE R c x ≠ 0
    · rw [if_pos h0]
    · rw [if_neg h0, if_pos hn]
  have hY : subY R c x = Y ∧ subE R c x = E := by
    obtain ⟨h3, h4⟩ := ha
    constructor
    · rw [h3]
      unfold subY
      rw [he]
      cases hs : sameS x (R.reg c).asked
      · rw [if_pos (by simp), if_neg (by simp)]
      · rw [if_neg (by simp), if_pos hn, if_pos rfl]
    · rw [he, h4]
  unfold SubPost
  rw [h2, hY.1, hY.2]
  refine ⟨v', q, rs, vs, vP, rfl, h.kept hb, ho, fun b hb' => ⟨hv b hb', fun hx => ?_⟩, Kp.of hb, fun b hb => Or.inl hb⟩
  have h5 := hv b hb'
  rcases List.mem_cons.1 hx with e | e
  · have := row_ltA h.row
    omega
  · have := h.lt b e
    omega
theorem subE_range {R : Rs} {c : Int} {x : Sub} (hok : subOk R c x = true) (hn : x.number ≠ (R.reg c).asked.number) (hn2 : x.number ≠ (R.reg c).asked.number + 1) : subE R c x = 3 := by
  unfold subE
  rw [if_neg (by rw [hok]; simp), if_neg hn, if_pos hn2]
theorem subE_full {R : Rs} {c : Int} {x : Sub} (hok : subOk R c x = true) (hn : x.number ≠ (R.reg c).asked.number) (hn2 : x.number = (R.reg c).asked.number + 1) (hf : fullB R = true) : subE R c x = 11 := by
  unfold subE
  rw [if_neg (by rw [hok]; simp), if_neg hn, if_neg (by omega), if_pos hf]
theorem subE_ok {R : Rs} {c : Int} {x : Sub} (hok : subOk R c x = true) (hn : x.number ≠ (R.reg c).asked.number) (hn2 : x.number = (R.reg c).asked.number + 1) (hf : fullB R = false) : subE R c x = 0 := by
  unfold subE
  rw [if_neg (by rw [hok]; simp), if_neg hn, if_neg (by omega), if_neg (by rw [hf]; simp)]
theorem subOk_all {R : Rs} {c : Int} {x : Sub} (hok : subOk R c x = true) : hasB R.n c = true ∧ hasB R.n x.target = true ∧ mayB (subM c x) = true := by
  unfold subOk at hok
  simpa [Bool.and_eq_true] using hok
theorem row_seg' {w w' : World} {g : Nat} {V : List Value} {t : TypeId} (h : w.heap[g]? = some (.cells V.toArray t)) (hb : Below w.heap.size w w') : ∀ j v, V[j]? = some v → w'.cell? ⟨g, 0 + j, none⟩ = some v := row_seg (off := 0) (A := []) (cs := V) (C := []) (row_kept h hb) (by simp) rfl
set_option maxHeartbeats 8000000 in
theorem submit_d {w : World} {p : Nat} {q rs : List Nat} {R : Rs} {vs : List Value} {vP : Value} (h : RA w p q rs R vs vP) {k : Nat} (hk : k < 8) {x : Sub} (hx : x.Wf) (hr : (subM (k : Int) x).Rng) (ht : Tb w) (hok : subOk R (k : Int) x = true) (hn : x.number = (R.reg (k : Int)).asked.number) :
    Calls Tryz.prog 13 #[.pointer (some ⟨p, 0, none⟩), nu (k : Int), .agg (subC x).toArray] w (SubPost w p q rs R (k : Int) x) := by
  obtain ⟨h1, h2, h3⟩ := subOk_all hok
  have B1 := hid (below_a1 w (.cells (subC x).toArray 34))
  have B2 := hid (below_two B1.out (below_a1 (w.alloc (.cells (subC x).toArray 34)) (.cells (repC zeroR (.slice none 0 0)).toArray 45)))
  have T2 := hid (row_kept (top_obj w (.cells (subC x).toArray 34)) (below_a1 (w.alloc (.cells (subC x).toArray 34)) (.cells (repC zeroR (.slice none 0 0)).toArray 45)))
  have U2 := hid (top_obj (w.alloc (.cells (subC x).toArray 34)) (.cells (repC zeroR (.slice none 0 0)).toArray 45))
  have e1 : (w.alloc (.cells (subC x).toArray 34)).heap.size = w.heap.size + 1 := by simp
  rw [e1] at U2
  have H2 := hid (h.kept B2.out)
  have HM := hid (made_any H2.out)
  have HH := hid (has_any H2.out (k : Int))
  have ZR := zeroRep
  have IZ : (Tryz.prog.info? 45).map (·.size) = some (repC zeroR (.slice none 0 0)).length := by rw [repC_len wfZeroR]; exact sizeRep
  have OZ := hid (one_rep zeroR (.slice none 0 0) rfl)
  have HBd := hid build_rep
  have ZS : (Tryz.prog.info? 34).map (·.size) = some (subC x).length := by rw [subC_len hx]; exact sizeSub
  have HEnd : Hid (∀ w' v' Y E, Below w.heap.size w w' → AgO (sameS x (R.regs.getD k zeroG).asked) (R.regs.getD k zeroG).ans Y E → OwnP w' v' Y.pend → (∀ b, v'.ownBlock = some b → w.heap.size ≤ b) → Y.Wf → SubPost w p q rs R (k : Int) x (.returned (.tuple #[.agg (repC Y v').toArray, nu E])) w') := fun w' v' Y E hb ha ho hv _ => sub_again h hok hn hb ha ho hv
  have HWf : Hid (∀ Y E, AgO (sameS x (R.regs.getD k zeroG).asked) (R.regs.getD k zeroG).ans Y E → Y.Wf) := fun Y E ha => by
    rw [ha.1]
    split
    · exact (h.inv.reg (k : Int)).ans
    · exact wfZeroR
  obtain ⟨AN, HAN⟩ : ∃ AN, Hid (AN = (R.regs.getD k zeroG).asked.number) := ⟨_, rfl⟩
  have hd : (x.number == AN) = true := by rw [hn, HAN.out]; exact beq_self_eq_true _
  have HAg := hid (fun (W : World) (hW : RA W p q rs R vs vP) => again_any hW hk hx)
  have lZ : Hid ((repC zeroR (.slice none 0 0)).length = 103) := repC_len wfZeroR _
  rw [h1] at HH
  have HT := hid (has_any H2.out x.target)
  rw [h2] at HT
  have cx : ((w.alloc (.cells (subC x).toArray 34)).alloc (.cells (repC zeroR (.slice none 0 0)).toArray 45)).cell? ⟨w.heap.size, 2, none⟩ = some (nu x.target) := row_seg (off := 0) (A := []) (cs := subC x) (C := []) T2.out (by simp) rfl 2 _ rfl
  have SX := hid (row_seg (off := 0) (A := []) (cs := subC x) (C := []) T2.out (by simp) rfl)
  have HBm := hid (fun W => build_subm W (k : Int) x hx)
  have HMy := hid (rmay_any (vP := .slice none 0 0) (vN := .slice none 0 0) (sub_wf (c := (k : Int)) hx) hr (PensAt.nil ((w.alloc (.cells (subC x).toArray 34)).alloc (.cells (repC zeroR (.slice none 0 0)).toArray 45))) (IntsAt.nil _) ⟨Nat.zero_le _, Nat.zero_le _⟩ (by show (1 : Int) ≠ 2; decide) (ht.stays B2.out))
  rw [h3] at HMy
  have FX0 : Hid (∀ W : World, (∀ j v, (subC x)[j]? = some v → W.cell? ⟨w.heap.size, 0 + j, none⟩ = some v) → W.cell? ⟨w.heap.size, 0, none⟩ = some (nu x.number)) := fun W hs => hs 0 _ rfl
  have SX2 := hid T2.out
  clear h hr ht h1 h2 h3 hok T2 hn hx
  generalize msgC (subM (k : Int) x) (.slice none 0 0) (.slice none 0 0) = MV at *
  show Calls _ _ _ _ (fun e w' => SubPost w p q rs R (k : Int) x e w')
  generalize repC zeroR (.slice none 0 0) = Z at *
  generalize subC x = V at *
  have hgs : w.heap.size < w.heap.size + 1 := Nat.lt_succ_self _
  go_enter Tryz.func13, Tryz.ntmps13
  go_upto_region 1 with (first | ((with_reducible refine wl_alloc 45 ?_ ?_ Z.toArray ZR ?_); exact rfl; exact rfl))
  generalize w.alloc (.cells V.toArray 34) = W1 at *
  generalize W1.alloc (.cells Z.toArray 45) = W2 at *
  try simp only [Act.put, List.setIfInBounds_toArray, List.set_cons_zero, List.set_cons_succ, e1]
  clear e1
  generalize w.heap.size + 1 = gA at *
  have hB2 : w.heap.size ≤ W2.heap.size := B2.out.size
  generalize w.heap.size = X at *
  go_wp2_with fail
  refine HM.out.mono ?_
  rintro e w1 ⟨rfl, hw1⟩
  subst w1
  go_wp2_with fail
  refine HH.out.mono ?_
  rintro e w1 ⟨rfl, hw1⟩
  subst w1
  go_wp2_with fail
  refine HT.out.mono ?_
  rintro e w1 ⟨rfl, hw1⟩
  subst w1
  go_wp2_with (first
    | ((with_reducible refine wl_load 34 (.tmp 5) ?_ X 0 ?_ ?_ V _ SX.out Tryz.underlying34 ?_ ZS ?_); exact rfl; exact rfl; exact rfl; exact rfl)
    | ((with_reducible refine wl_buildL 76 [(0, .const (nu 1)), (1, .tmp 25), (2, .tmp 26)] ?_ ?_ MV.toArray ?_ ?_); exact rfl; exact rfl; exact (HBm.out _)))
  refine HMy.out.mono ?_
  rintro e W3 ⟨rfl, hb3⟩
  have B3 := hid (below_two' B2.out hb3)
  have U3 := hid (row_kept U2.out hb3)
  have H3 := hid (H2.out.kept hb3)
  have SX3 := hid (row_seg' SX2.out hb3)
  have hs23 : W2.heap.size ≤ W3.heap.size := hb3.size
  clear hb3 SX SX2 H2 HM HH HT HMy HBm cx U2 B2
  have hx0 : W3.cell? ⟨X, 0, none⟩ = some (nu x.number) := FX0.out _ SX3.out
  have cn3 : W3.cell? ⟨p, 1 + k * 204, none⟩ = some (nu AN) := by rw [HAN.out]; exact H3.out.anum hk
  have hs3 : X ≤ W3.heap.size := Nat.le_trans hB2 hs23
  go_wp2_with fail
  go_quiet (fail)
  have H4 : Hid (RA (W3.drewN nq) p q rs R vs vP) := H3.out.kept (below_dn (Below.refl _ _) nq)
  have S4 : Hid (∀ j v, V[j]? = some v → (W3.drewN nq).cell? ⟨X, 0 + j, none⟩ = some v) := SX3.out
  have U4 : Hid ((W3.drewN nq).heap[gA]? = some (.cells Z.toArray 45)) := U3.out
  have B4 : Hid (Below X w (W3.drewN nq)) := below_dn B3.out nq
  have hs4 : X ≤ (W3.drewN nq).heap.size := hs3
  have hg4 : gA < (W3.drewN nq).heap.size := row_ltA U4.out
  clear H3 SX3 U3 B3 hs3 hx0 cn3
  generalize W3.drewN nq = W4 at *
  have HA4 := hid (HAg.out W4 H4.out)
  go_wp2_with (first
    | ((with_reducible refine wl_load 34 (.tmp 5) ?_ X 0 ?_ ?_ V _ S4.out Tryz.underlying34 ?_ ZS ?_); exact rfl; exact rfl; exact rfl; exact rfl))
  refine HA4.out.mono ?_
  rintro e W5 ⟨v', Y, E, rfl, hag, ho5, hv5, hb5⟩
  have HO := hid ho5
  have HV := hid hv5
  have HG := hid hag
  have B5 := hid (below_two' B4.out hb5)
  have U5 := hid (row_nil (row_kept U4.out hb5))
  have hYw := HWf.out _ _ hag
  clear ho5 hv5 hb5 hag HA4 U4
  have IY : (Tryz.prog.info? 45).map (·.size) = some (repC Y v').length := by rw [repC_len hYw]; exact sizeRep
  have lY : Z.length = (repC Y v').length := by rw [lZ.out, repC_len hYw]
  have OY := hid (one_rep Y v' HO.out.one)
  go_wp2_with (first | ((with_reducible refine wl_put 45 (.tmp 6) (.tmp 48) ?_ ?_ gA 0 ?_ ?_ [] (repC Y v') Z [] ?_ 45 U5.out rfl lY OY.out IY ?_); exact rfl; exact rfl; exact rfl; exact rfl; exact rfl; intro w5 hr5 hbut))
  have hr6 : w5.heap[gA]? = some (.cells (repC Y v').toArray 45) := by simpa using hr5
  refine bodyPost_ret_by (results_ct (fn := Tryz.f13) (p := 6) (u := 7) (ty := 45) (by kernel_rfl) _ _ gA 45 (repC Y v').toArray (0, 0) _ rfl hr6 Tryz.underlying45 rfl (by rw [List.size_toArray]; exact IY)) rfl ?_
  have hvb : ∀ b, v'.ownBlock = some b → W4.heap.size ≤ b := HV.out
  exact HEnd.out _ _ _ _ (hbut.below B5.out (by omega)) HG.out (HO.out.kp (X := [gA]) ((Kp.refl _ _).but hbut (Or.inl (by simp))) (fun b hb hx => by have := hvb b hb; simp at hx; omega)) (fun b hb => by have := hvb b hb; omega) hYw
set_option maxHeartbeats 8000000 in
theorem submit_e {w : World} {p : Nat} {q rs : List Nat} {R : Rs} {vs : List Value} {vP : Value} (h : RA w p q rs R vs vP) {k : Nat} (hk : k < 8) {x : Sub} (hx : x.Wf) (hr : (subM (k : Int) x).Rng) (ht : Tb w) (hok : subOk R (k : Int) x = true) (hn : x.number ≠ (R.reg (k : Int)).asked.number) (hn2 : x.number ≠ (R.reg (k : Int)).asked.number + 1) :
    Calls Tryz.prog 13 #[.pointer (some ⟨p, 0, none⟩), nu (k : Int), .agg (subC x).toArray] w (SubPost w p q rs R (k : Int) x) := by
  obtain ⟨h1, h2, h3⟩ := subOk_all hok
  have B1 := hid (below_a1 w (.cells (subC x).toArray 34))
  have B2 := hid (below_two B1.out (below_a1 (w.alloc (.cells (subC x).toArray 34)) (.cells (repC zeroR (.slice none 0 0)).toArray 45)))
  have T2 := hid (row_kept (top_obj w (.cells (subC x).toArray 34)) (below_a1 (w.alloc (.cells (subC x).toArray 34)) (.cells (repC zeroR (.slice none 0 0)).toArray 45)))
  have U2 := hid (top_obj (w.alloc (.cells (subC x).toArray 34)) (.cells (repC zeroR (.slice none 0 0)).toArray 45))
  have e1 : (w.alloc (.cells (subC x).toArray 34)).heap.size = w.heap.size + 1 := by simp
  rw [e1] at U2
  have H2 := hid (h.kept B2.out)
  have HM := hid (made_any H2.out)
  have HH := hid (has_any H2.out (k : Int))
  have ZR := zeroRep
  have IZ : (Tryz.prog.info? 45).map (·.size) = some (repC zeroR (.slice none 0 0)).length := by rw [repC_len wfZeroR]; exact sizeRep
  have OZ := hid (one_rep zeroR (.slice none 0 0) rfl)
  have HBd := hid build_rep
  have ZS : (Tryz.prog.info? 34).map (·.size) = some (subC x).length := by rw [subC_len hx]; exact sizeSub
  have hcode : subE R (k : Int) x = 3 := subE_range hok hn hn2
  have HEnd : Hid (∀ w', Below w.heap.size w w' → SubPost w p q rs R (k : Int) x (.returned (.tuple #[.agg (repC zeroR (.slice none 0 0)).toArray, nu 3])) w') := fun w' hb => by
    have := sub_err h (c := (k : Int)) (x := x) (by rw [hcode]; decide) hb
    rwa [hcode] at this
  obtain ⟨AN, HAN⟩ : ∃ AN, Hid (AN = (R.reg (k : Int)).asked.number) := ⟨_, rfl⟩
  have hnn : 0 ≤ AN ∧ AN ≤ 512 := by rw [HAN.out]; exact (h.inv.reg (k : Int)).num
  have hd : (x.number == AN) = false := by rw [HAN.out]; exact beq_false_of_ne hn
  have hd2 : (x.number != AN + 1) = true := by rw [HAN.out]; exact bne_iff_ne.2 hn2
  rw [h1] at HH
  have HT := hid (has_any H2.out x.target)
  rw [h2] at HT
  have cx : ((w.alloc (.cells (subC x).toArray 34)).alloc (.cells (repC zeroR (.slice none 0 0)).toArray 45)).cell? ⟨w.heap.size, 2, none⟩ = some (nu x.target) := row_seg (off := 0) (A := []) (cs := subC x) (C := []) T2.out (by simp) rfl 2 _ rfl
  have SX := hid (row_seg (off := 0) (A := []) (cs := subC x) (C := []) T2.out (by simp) rfl)
  have HBm := hid (fun W => build_subm W (k : Int) x hx)
  have HMy := hid (rmay_any (vP := .slice none 0 0) (vN := .slice none 0 0) (sub_wf (c := (k : Int)) hx) hr (PensAt.nil ((w.alloc (.cells (subC x).toArray 34)).alloc (.cells (repC zeroR (.slice none 0 0)).toArray 45))) (IntsAt.nil _) ⟨Nat.zero_le _, Nat.zero_le _⟩ (by show (1 : Int) ≠ 2; decide) (ht.stays B2.out))
  rw [h3] at HMy
  have FX0 : Hid (∀ W : World, (∀ j v, (subC x)[j]? = some v → W.cell? ⟨w.heap.size, 0 + j, none⟩ = some v) → W.cell? ⟨w.heap.size, 0, none⟩ = some (nu x.number)) := fun W hs => hs 0 _ rfl
  have SX2 := hid T2.out
  clear h hr ht h1 h2 h3 hok T2 hn hn2 hcode hx
  generalize msgC (subM (k : Int) x) (.slice none 0 0) (.slice none 0 0) = MV at *
  show Calls _ _ _ _ (fun e w' => SubPost w p q rs R (k : Int) x e w')
  generalize repC zeroR (.slice none 0 0) = Z at *
  generalize subC x = V at *
  have hgs : w.heap.size < w.heap.size + 1 := Nat.lt_succ_self _
  go_enter Tryz.func13, Tryz.ntmps13
  go_upto_region 1 with (first | ((with_reducible refine wl_alloc 45 ?_ ?_ Z.toArray ZR ?_); exact rfl; exact rfl))
  generalize w.alloc (.cells V.toArray 34) = W1 at *
  generalize W1.alloc (.cells Z.toArray 45) = W2 at *
  try simp only [Act.put, List.setIfInBounds_toArray, List.set_cons_zero, List.set_cons_succ, e1]
  clear e1
  generalize w.heap.size + 1 = gA at *
  have hB2 : w.heap.size ≤ W2.heap.size := B2.out.size
  generalize w.heap.size = X at *
  go_wp2_with fail
  refine HM.out.mono ?_
  rintro e w1 ⟨rfl, hw1⟩
  subst w1
  go_wp2_with fail
  refine HH.out.mono ?_
  rintro e w1 ⟨rfl, hw1⟩
  subst w1
  go_wp2_with fail
  refine HT.out.mono ?_
  rintro e w1 ⟨rfl, hw1⟩
  subst w1
  go_wp2_with (first
    | ((with_reducible refine wl_load 34 (.tmp 5) ?_ X 0 ?_ ?_ V _ SX.out Tryz.underlying34 ?_ ZS ?_); exact rfl; exact rfl; exact rfl; exact rfl)
    | ((with_reducible refine wl_buildL 76 [(0, .const (nu 1)), (1, .tmp 25), (2, .tmp 26)] ?_ ?_ MV.toArray ?_ ?_); exact rfl; exact rfl; exact (HBm.out _)))
  refine HMy.out.mono ?_
  rintro e W3 ⟨rfl, hb3⟩
  have B3 := hid (below_two' B2.out hb3)
  have U3 := hid (row_kept U2.out hb3)
  have H3 := hid (H2.out.kept hb3)
  have SX3 := hid (row_seg' SX2.out hb3)
  have hs23 : W2.heap.size ≤ W3.heap.size := hb3.size
  clear hb3 SX SX2 H2 HM HH HT HMy HBm cx U2 B2
  have hx0 : W3.cell? ⟨X, 0, none⟩ = some (nu x.number) := FX0.out _ SX3.out
  have cn3 : W3.cell? ⟨p, 1 + k * 204, none⟩ = some (nu AN) := by rw [HAN.out]; exact H3.out.anum hk
  have hs3 : X ≤ W3.heap.size := Nat.le_trans hB2 hs23
  go_wp2_with fail
  go_quiet (fail)
  have H4 : Hid (RA (W3.drewN nq) p q rs R vs vP) := H3.out.kept (below_dn (Below.refl _ _) nq)
  have S4 : Hid (∀ j v, V[j]? = some v → (W3.drewN nq).cell? ⟨X, 0 + j, none⟩ = some v) := SX3.out
  have U4 : Hid ((W3.drewN nq).heap[gA]? = some (.cells Z.toArray 45)) := U3.out
  have B4 : Hid (Below X w (W3.drewN nq)) := below_dn B3.out nq
  have hx4 : (W3.drewN nq).cell? ⟨X, 0, none⟩ = some (nu x.number) := hx0
  have hs4 : X ≤ (W3.drewN nq).heap.size := hs3
  have cn4 : (W3.drewN nq).cell? ⟨p, 1 + k * 204, none⟩ = some (nu AN) := cn3
  clear H3 SX3 U3 B3 hs3 hx0 cn3
  generalize W3.drewN nq = W4 at *
  clear nq
  go_wp2_with fail
  go_quiet (fail)
  have H5 : Hid (RA (W4.drewN nq) p q rs R vs vP) := H4.out.kept (below_dn (Below.refl _ _) nq)
  have S5 : Hid (∀ j v, V[j]? = some v → (W4.drewN nq).cell? ⟨X, 0 + j, none⟩ = some v) := S4.out
  have U5 : Hid ((W4.drewN nq).heap[gA]? = some (.cells Z.toArray 45)) := U4.out
  have B5 : Hid (Below X w (W4.drewN nq)) := below_dn B4.out nq
  have hs5 : X ≤ (W4.drewN nq).heap.size := hs4
  clear H4 S4 U4 B4 hs4 hx4 cn4
  generalize W4.drewN nq = W5 at *
  go_wp2_with (first | ((with_reducible refine wl_build 45 ?_ ?_ Z.toArray (HBd.out _) ?_); exact rfl; exact rfl) | ((with_reducible refine wl_put 45 (.tmp 6) (.tmp 59) ?_ ?_ gA 0 ?_ ?_ [] Z Z [] ?_ 45 (row_nil U5.out) rfl rfl OZ.out IZ ?_); exact rfl; exact rfl; exact rfl; exact rfl; exact rfl; intro w4 hr4 hbut))
  have hr5 : w4.heap[gA]? = some (.cells Z.toArray 45) := by simpa using hr4
  refine bodyPost_ret_by (results_ct (fn := Tryz.f13) (p := 6) (u := 7) (ty := 45) (by kernel_rfl) _ _ gA 45 Z.toArray (0, 0) _ rfl hr5 Tryz.underlying45 rfl (by rw [List.size_toArray]; exact IZ)) rfl ?_
  exact HEnd.out _ (hbut.below B5.out (by omega))
set_option maxHeartbeats 8000000 in
theorem submit_f {w : World} {p : Nat} {q rs : List Nat} {R : Rs} {vs : List Value} {vP : Value} (h : RA w p q rs R vs vP) {k : Nat} (hk : k < 8) {x : Sub} (hx : x.Wf) (hr : (subM (k : Int) x).Rng) (ht : Tb w) (hok : subOk R (k : Int) x = true) (hn : x.number ≠ (R.reg (k : Int)).asked.number) (hn2 : x.number = (R.reg (k : Int)).asked.number + 1) (hf : fullB R = true) :
    Calls Tryz.prog 13 #[.pointer (some ⟨p, 0, none⟩), nu (k : Int), .agg (subC x).toArray] w (SubPost w p q rs R (k : Int) x) := by
  obtain ⟨h1, h2, h3⟩ := subOk_all hok
  have B1 := hid (below_a1 w (.cells (subC x).toArray 34))
  have B2 := hid (below_two B1.out (below_a1 (w.alloc (.cells (subC x).toArray 34)) (.cells (repC zeroR (.slice none 0 0)).toArray 45)))
  have T2 := hid (row_kept (top_obj w (.cells (subC x).toArray 34)) (below_a1 (w.alloc (.cells (subC x).toArray 34)) (.cells (repC zeroR (.slice none 0 0)).toArray 45)))
  have U2 := hid (top_obj (w.alloc (.cells (subC x).toArray 34)) (.cells (repC zeroR (.slice none 0 0)).toArray 45))
  have e1 : (w.alloc (.cells (subC x).toArray 34)).heap.size = w.heap.size + 1 := by simp
  rw [e1] at U2
  have H2 := hid (h.kept B2.out)
  have HM := hid (made_any H2.out)
  have HH := hid (has_any H2.out (k : Int))
  have ZR := zeroRep
  have IZ : (Tryz.prog.info? 45).map (·.size) = some (repC zeroR (.slice none 0 0)).length := by rw [repC_len wfZeroR]; exact sizeRep
  have OZ := hid (one_rep zeroR (.slice none 0 0) rfl)
  have HBd := hid build_rep
  have ZS : (Tryz.prog.info? 34).map (·.size) = some (subC x).length := by rw [subC_len hx]; exact sizeSub
  have hcode : subE R (k : Int) x = 11 := subE_full hok hn hn2 hf
  have HEnd : Hid (∀ w', Below w.heap.size w w' → SubPost w p q rs R (k : Int) x (.returned (.tuple #[.agg (repC zeroR (.slice none 0 0)).toArray, nu 11])) w') := fun w' hb => by
    have := sub_err h (c := (k : Int)) (x := x) (by rw [hcode]; decide) hb
    rwa [hcode] at this
  obtain ⟨AN, HAN⟩ : ∃ AN, Hid (AN = (R.reg (k : Int)).asked.number) := ⟨_, rfl⟩
  have hnn : 0 ≤ AN ∧ AN ≤ 512 := by rw [HAN.out]; exact (h.inv.reg (k : Int)).num
  have hd : (x.number == AN) = false := by rw [HAN.out]; exact beq_false_of_ne hn
  have hd2 : (x.number != AN + 1) = false := by rw [HAN.out, hn2]; exact bne_self_eq_false _
  have HFu : Hid (∀ W, RA W p q rs R vs vP → Calls Tryz.prog 27 #[.pointer (some ⟨p, 0, none⟩)] W fun e w' => e = .returned (.bool true) ∧ Below W.heap.size W w') := fun W hW => by have := full_any hW; rwa [hf] at this
  rw [h1] at HH
  have HT := hid (has_any H2.out x.target)
  rw [h2] at HT
  have cx : ((w.alloc (.cells (subC x).toArray 34)).alloc (.cells (repC zeroR (.slice none 0 0)).toArray 45)).cell? ⟨w.heap.size, 2, none⟩ = some (nu x.target) := row_seg (off := 0) (A := []) (cs := subC x) (C := []) T2.out (by simp) rfl 2 _ rfl
  have SX := hid (row_seg (off := 0) (A := []) (cs := subC x) (C := []) T2.out (by simp) rfl)
  have HBm := hid (fun W => build_subm W (k : Int) x hx)
  have HMy := hid (rmay_any (vP := .slice none 0 0) (vN := .slice none 0 0) (sub_wf (c := (k : Int)) hx) hr (PensAt.nil ((w.alloc (.cells (subC x).toArray 34)).alloc (.cells (repC zeroR (.slice none 0 0)).toArray 45))) (IntsAt.nil _) ⟨Nat.zero_le _, Nat.zero_le _⟩ (by show (1 : Int) ≠ 2; decide) (ht.stays B2.out))
  rw [h3] at HMy
  have FX0 : Hid (∀ W : World, (∀ j v, (subC x)[j]? = some v → W.cell? ⟨w.heap.size, 0 + j, none⟩ = some v) → W.cell? ⟨w.heap.size, 0, none⟩ = some (nu x.number)) := fun W hs => hs 0 _ rfl
  have SX2 := hid T2.out
  clear h hr ht h1 h2 h3 hok T2 hn hn2 hf hcode hx
  generalize msgC (subM (k : Int) x) (.slice none 0 0) (.slice none 0 0) = MV at *
  show Calls _ _ _ _ (fun e w' => SubPost w p q rs R (k : Int) x e w')
  generalize repC zeroR (.slice none 0 0) = Z at *
  generalize subC x = V at *
  have hgs : w.heap.size < w.heap.size + 1 := Nat.lt_succ_self _
  go_enter Tryz.func13, Tryz.ntmps13
  go_upto_region 1 with (first | ((with_reducible refine wl_alloc 45 ?_ ?_ Z.toArray ZR ?_); exact rfl; exact rfl))
  generalize w.alloc (.cells V.toArray 34) = W1 at *
  generalize W1.alloc (.cells Z.toArray 45) = W2 at *
  try simp only [Act.put, List.setIfInBounds_toArray, List.set_cons_zero, List.set_cons_succ, e1]
  clear e1
  generalize w.heap.size + 1 = gA at *
  have hB2 : w.heap.size ≤ W2.heap.size := B2.out.size
  generalize w.heap.size = X at *
  go_wp2_with fail
  refine HM.out.mono ?_
  rintro e w1 ⟨rfl, hw1⟩
  subst w1
  go_wp2_with fail
  refine HH.out.mono ?_
  rintro e w1 ⟨rfl, hw1⟩
  subst w1
  go_wp2_with fail
  refine HT.out.mono ?_
  rintro e w1 ⟨rfl, hw1⟩
  subst w1
  go_wp2_with (first
    | ((with_reducible refine wl_load 34 (.tmp 5) ?_ X 0 ?_ ?_ V _ SX.out Tryz.underlying34 ?_ ZS ?_); exact rfl; exact rfl; exact rfl; exact rfl)
    | ((with_reducible refine wl_buildL 76 [(0, .const (nu 1)), (1, .tmp 25), (2, .tmp 26)] ?_ ?_ MV.toArray ?_ ?_); exact rfl; exact rfl; exact (HBm.out _)))
  refine HMy.out.mono ?_
  rintro e W3 ⟨rfl, hb3⟩
  have B3 := hid (below_two' B2.out hb3)
  have U3 := hid (row_kept U2.out hb3)
  have H3 := hid (H2.out.kept hb3)
  have SX3 := hid (row_seg' SX2.out hb3)
  have hs23 : W2.heap.size ≤ W3.heap.size := hb3.size
  clear hb3 SX SX2 H2 HM HH HT HMy HBm cx U2 B2
  have hx0 : W3.cell? ⟨X, 0, none⟩ = some (nu x.number) := FX0.out _ SX3.out
  have cn3 : W3.cell? ⟨p, 1 + k * 204, none⟩ = some (nu AN) := by rw [HAN.out]; exact H3.out.anum hk
  have hs3 : X ≤ W3.heap.size := Nat.le_trans hB2 hs23
  go_wp2_with fail
  go_quiet (fail)
  have H4 : Hid (RA (W3.drewN nq) p q rs R vs vP) := H3.out.kept (below_dn (Below.refl _ _) nq)
  have S4 : Hid (∀ j v, V[j]? = some v → (W3.drewN nq).cell? ⟨X, 0 + j, none⟩ = some v) := SX3.out
  have U4 : Hid ((W3.drewN nq).heap[gA]? = some (.cells Z.toArray 45)) := U3.out
  have B4 : Hid (Below X w (W3.drewN nq)) := below_dn B3.out nq
  have hx4 : (W3.drewN nq).cell? ⟨X, 0, none⟩ = some (nu x.number) := hx0
  have hs4 : X ≤ (W3.drewN nq).heap.size := hs3
  have cn4 : (W3.drewN nq).cell? ⟨p, 1 + k * 204, none⟩ = some (nu AN) := cn3
  clear H3 SX3 U3 B3 hs3 hx0 cn3
  generalize W3.drewN nq = W4 at *
  clear nq
  go_wp2_with fail
  go_quiet (fail)
  have H5 : Hid (RA (W4.drewN nq) p q rs R vs vP) := H4.out.kept (below_dn (Below.refl _ _) nq)
  have S5 : Hid (∀ j v, V[j]? = some v → (W4.drewN nq).cell? ⟨X, 0 + j, none⟩ = some v) := S4.out
  have U5 : Hid ((W4.drewN nq).heap[gA]? = some (.cells Z.toArray 45)) := U4.out
  have B5 : Hid (Below X w (W4.drewN nq)) := below_dn B4.out nq
  have hs5 : X ≤ (W4.drewN nq).heap.size := hs4
  clear H4 S4 U4 B4 hs4 hx4 cn4
  generalize W4.drewN nq = W5 at *
  go_wp2_with fail
  refine (HFu.out _ H5.out).mono ?_
  rintro e W6 ⟨rfl, hb6⟩
  have B6 := hid (below_two' B5.out hb6)
  have U6 := hid (row_kept U5.out hb6)
  clear hb6 U5 B5
  go_wp2_with (first | ((with_reducible refine wl_build 45 ?_ ?_ Z.toArray (HBd.out _) ?_); exact rfl; exact rfl) | ((with_reducible refine wl_put 45 (.tmp 6) (.tmp 62) ?_ ?_ gA 0 ?_ ?_ [] Z Z [] ?_ 45 (row_nil U6.out) rfl rfl OZ.out IZ ?_); exact rfl; exact rfl; exact rfl; exact rfl; exact rfl; intro w4 hr4 hbut))
  have hr5 : w4.heap[gA]? = some (.cells Z.toArray 45) := by simpa using hr4
  refine bodyPost_ret_by (results_ct (fn := Tryz.f13) (p := 6) (u := 7) (ty := 45) (by kernel_rfl) _ _ gA 45 Z.toArray (0, 0) _ rfl hr5 Tryz.underlying45 rfl (by rw [List.size_toArray]; exact IZ)) rfl ?_
  exact HEnd.out _ (hbut.below B6.out (by omega))
end Go.Proofs.YtoneoocihfjfgaaGreatDoor.Ms
