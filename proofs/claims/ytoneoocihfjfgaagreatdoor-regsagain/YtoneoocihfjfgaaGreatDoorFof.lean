/-
  What a call is about, and whether it commits (law12.of, commits).
-/
import Derived.Test.YtoneoocihfjfgaaGreatDoorG21
import Derived.Test.YtoneoocihfjfgaaGreatDoorG24
import Derived.Test.YtoneoocihfjfgaaGreatDoorG25
import Derived.Test.YtoneoocihfjfgaaGreatDoorEaf
namespace Go.Proofs.YtoneoocihfjfgaaGreatDoor.Ms
open Go Go.RowKit
set_option maxRecDepth 100000
def isNext (k : Int) : Bool := decide (k = 1 ∨ k = 2 ∨ k = 3)
def isDone (k : Int) : Bool := decide (k = 5 ∨ k = 6 ∨ k = 7)
def isOwn (k : Int) : Bool := decide (k = 0 ∨ k = 4)
def nextS (x : Sub) (n : Int) : Sub := ⟨n, x.kind, x.target, x.value, x.asked, x.data⟩
theorem subNum {w : World} {g : Nat} {x : Sub} {n : Int} (h : w.heap[g]? = some (.cells (([] : List Value) ++ ([nu n] ++ (subC x).drop 1)).toArray 34)) : w.heap[g]? = some (.cells (subC (nextS x n)).toArray 34) := h
theorem ZNl {T : TypeId} {a b : Nat} (h1 : (Tryz.prog.info? T).map (·.size) = some a) (h2 : (Tryz.prog.info? T).map (·.size) = some b) : a = b := by rw [h1] at h2; exact Option.some.inj h2
theorem nextS_wf {x : Sub} (h : x.Wf) (n : Int) : (nextS x n).Wf := ⟨h.asked, h.data⟩
def ofS (R : Rs) (a : Rac) : Sub := if hasB R.n a.client = false then a.x else if isNext a.kind = true then nextS a.x ((R.reg a.client).asked.number + 1) else if isDone a.kind = true then a.x else if isOwn a.kind = true then a.x else (R.reg a.client).asked
def ofV (R : Rs) (a : Rac) : List UInt8 := if hasB R.n a.client = false then a.view else if isNext a.kind = true then a.view else if isDone a.kind = true then afterR (R.reg a.client).ans a.client else a.view
def comB (a : Rac) : Bool := decide (4 ≤ a.kind) && decide (a.kind ≤ 7)
theorem rac_view {w : World} {g : Nat} {a : Rac} (h : w.heap[g]? = some (.cells (racC a).toArray 36)) (hx : a.x.Wf) : w.cell? ⟨g, 70, none⟩ = some (st a.view) := row_cell (A := [nu a.kind] ++ ([nu a.client] ++ subC a.x)) (C := dg a.tag) h (by simp [racC, ractC]) (by simp [subC_len hx])
set_option maxHeartbeats 2000000 in
theorem commits_any (w : World) (a : Rac) : Calls Tryz.prog 11 #[.agg (racC a).toArray] w fun e w' => e = .returned (.bool (comB a)) ∧ Below w.heap.size w w' := by
  have B0 := hid (below_a1 w (.cells (racC a).toArray 36))
  have c0 := rac_kind (top_obj w (.cells (racC a).toArray 36))
  unfold comB
  generalize a.kind = k at *
  generalize racC a = V at *
  by_cases h : 4 ≤ k
  · have d1 : decide (4 ≤ k) = true := decide_eq_true h
    rw [d1, Bool.true_and]
    clear h
    go_enter Tryz.func11, Tryz.ntmps11
    go_upto_region 1 with fail
    generalize w.alloc (.cells V.toArray 36) = W0 at *
    go_wp2
    go_ret
    exact ⟨rfl, B0.out⟩
  · have d1 : decide (4 ≤ k) = false := decide_eq_false h
    rw [d1, Bool.false_and]
    clear h
    go_enter Tryz.func11, Tryz.ntmps11
    go_upto_region 1 with fail
    generalize w.alloc (.cells V.toArray 36) = W0 at *
    go_wp2
    go_ret
    exact ⟨rfl, B0.out⟩
set_option maxHeartbeats 8000000 in
theorem of_none {w : World} {x : Nat} {G : List Nat} {R : Rs} (h : RY w x G R) {a : Rac} (ha : a.Ok) (hh : hasB R.n a.client = false) :
    Calls Tryz.prog 10 #[pt x 0, .agg (racC a).toArray] w fun e w' => e = .returned (.tuple #[.agg (subC (ofS R a)).toArray, st (ofV R a)]) ∧ Below w.heap.size w w' := by
  have hS : ofS R a = a.x := by unfold ofS; rw [if_pos hh]
  have hV : ofV R a = a.view := by unfold ofV; rw [if_pos hh]
  rw [hS, hV]
  clear hS hV
  have B1 := hid (below_a1 w (.cells (racC a).toArray 36))
  have B2 := hid (below_two B1.out (below_a1 (w.alloc (.cells (racC a).toArray 36)) (.cells (subC zeroS).toArray 34)))
  have T2 := hid (row_kept (top_obj w (.cells (racC a).toArray 36)) (below_a1 (w.alloc (.cells (racC a).toArray 36)) (.cells (subC zeroS).toArray 34)))
  have U2 := hid (top_obj (w.alloc (.cells (racC a).toArray 36)) (.cells (subC zeroS).toArray 34))
  have e1 : (w.alloc (.cells (racC a).toArray 36)).heap.size = w.heap.size + 1 := Array.size_push _
  rw [e1] at U2
  have H2 := hid (h.kept B2.out)
  have ZZ := zeroSub
  have ZX : (Tryz.prog.info? 34).map (·.size) = some (subC a.x).length := by rw [subC_len ha.wf]; exact sizeSub
  have OX := hid (one_sub a.x)
  have LX : (subC zeroS).length = (subC a.x).length := by rw [subC_len ha.wf]; rfl
  have HA := hid ha
  clear h
  obtain ⟨Z, HZe⟩ : ∃ Z, Hid (Z = subC zeroS) := ⟨_, rfl⟩
  rw [← HZe.out] at B2 T2 U2 H2 ZZ LX
  obtain ⟨V, HV⟩ : ∃ V, Hid (V = racC a) := ⟨_, rfl⟩
  rw [← HV.out] at B1 B2 T2 U2 e1 H2 ⊢
  go_enter Tryz.func10, Tryz.ntmps10
  go_upto_region 1 with (first | ((with_reducible refine wl_alloc 34 ?_ ?_ Z.toArray ZZ ?_); exact rfl; exact rfl))
  generalize w.alloc (.cells V.toArray 36) = W1 at *
  generalize W1.alloc (.cells Z.toArray 34) = W2 at *
  try simp only [Act.put, List.setIfInBounds_toArray, List.set_cons_zero, List.set_cons_succ, e1]
  clear e1
  have HU2 : Hid (W2.heap[w.heap.size + 1]? = some (.cells ([] ++ (Z ++ [])).toArray 34)) := by show _ = _; have := U2.out; simpa using this
  clear U2
  generalize hgA : w.heap.size + 1 = gA at *
  obtain ⟨gX, hgX⟩ : ∃ gX, gX = w.heap.size := ⟨_, rfl⟩
  rw [← hgX] at T2 ⊢
  have HgX := hid hgX
  clear hgX
  have T2a := hid (by have e := T2.out; rw [HV.out] at e; exact e : W2.heap[gX]? = some (.cells (racC a).toArray 36))
  have SXk := hid (fun (W : World) (hb : Below W2.heap.size W2 W) => rac_sub (row_kept T2a.out hb))
  have cvk := hid (fun (W : World) (hb : Below W2.heap.size W2 W) => rac_view (row_kept T2a.out hb) HA.out.wf)
  have LX68 : (subC a.x).length = 68 := subC_len HA.out.wf
  refine wp_region_new (N := 64) 4 5 6 34 68 (subC a.x) [pt gX (0 + 2), .agg (subC a.x).toArray, pt gX (0 + 70), st a.view, undef, undef, st a.view] (fun g => [(8, pt gX (0 + 2)), (9, .agg (subC a.x).toArray), (10, pt gX (0 + 70)), (11, st a.view), (6, pt g 0), (7, st a.view)]) (by kernel_rfl) (by kernel_rfl) rfl (by kernel_rfl) (by decide) (by simp) (fun g => by kernel_rfl) ?_ ?_
  · intro i o ho
    match i, ho with
    | 0, ho => cases ho; exact oweA_c (pt gX (0 + 2)) (by decide) (by decide) rfl (fun L b w' hB hw hk hv K h => op_fa 3 _ 2 gX 0 2 rfl (fun W => fq48_2 _ _ W) (hk 3 (by kernel_rfl)) h)
    | 1, ho => cases ho; exact oweA_c (.agg (subC a.x).toArray) (by decide) (by decide) rfl (fun L b w' hB hw hk hv K h => op_load _ (.tmp 8) rfl gX (0 + 2) (hv 0 8 (by kernel_rfl) (by decide) (by kernel_rfl)) (subC a.x) _ (SXk.out w' hB) Tryz.underlying34 rfl ZX h)
    | 2, ho => cases ho; exact oweA_c (pt gX (0 + 70)) (by decide) (by decide) rfl (fun L b w' hB hw hk hv K h => op_fa 3 _ 3 gX 0 70 rfl (fun W => fq48_3 _ _ W) (hk 3 (by kernel_rfl)) h)
    | 3, ho => cases ho; exact oweA_c (st a.view) (by decide) (by decide) rfl (fun L b w' hB hw hk hv K h => op_load1 _ (.tmp 10) rfl gX (0 + 70) (hv 2 10 (by kernel_rfl) (by decide) (by kernel_rfl)) (st a.view) _ (cvk.out w' hB) Tryz.underlying9 rfl h)
    | 4, ho => cases ho; exact oweA_alloc rfl Z ZZ (LX.trans LX68) _ rfl (by kernel_rfl) (by decide)
    | 5, ho => cases ho; exact oweA_store 6 9 rfl rfl (by kernel_rfl) 1 (by kernel_rfl) (by decide) (by kernel_rfl) (by kernel_rfl) rfl LX68 OX.out ZX
    | 6, ho => cases ho; exact oweA_c (st a.view) (by decide) (by decide) rfl (fun L b w' hB hw hk hv K h => op_assign 11 _ rfl (hv 3 11 (by kernel_rfl) (by decide) (by kernel_rfl)) h)
    | (i + 7), ho => exact absurd ho (by simp)
  intro gS W4 hgS0 hrow hJ
  simp only [List.foldl_cons, List.foldl_nil, List.setIfInBounds_toArray, List.set_cons_zero, List.set_cons_succ]
  have T4 := hid (row_kept T2a.out hJ)
  have U4 := hid (row_kept HU2.out hJ)
  have B4 := hid (below_two B2.out hJ)
  have H4 := hid (H2.out.kept hJ)
  have S4 := hid hrow
  have hgS : Hid (w.heap.size ≤ gS ∧ gA < gS ∧ gX < gS) := by
    have e1 := B2.out.size
    have e2 := row_ltA HU2.out
    have e3 := row_ltA T2.out
    exact ⟨by omega, by omega, by omega⟩
  clear T2 T2a HU2 H2 SXk cvk hgS0 hrow hJ
  have ck := rac_kind T4.out
  have cc := rac_client T4.out
  have HIs := hid (r12is_any H4.out a.client)
  rw [hh] at HIs
  have SEG := hid (row_seg (off := 0) (A := []) (cs := subC a.x) (C := []) S4.out (by simp) rfl)
  clear hh H4 T4
  go_wp2_with fail
  refine HIs.out.mono ?_
  rintro e w1 ⟨rfl, hw1⟩
  subst w1
  go_wp2_with (first
    | ((with_reducible refine wl_load 34 (.tmp 6) ?_ gS 0 ?_ ?_ (subC a.x) _ SEG.out Tryz.underlying34 ?_ ZX ?_); exact rfl; exact rfl; exact rfl; exact rfl)
    | ((with_reducible refine wl_put 34 (.tmp 4) (.tmp 17) ?_ ?_ gA 0 ?_ ?_ [] (subC a.x) Z [] ?_ 34 U4.out rfl LX OX.out ZX ?_); exact rfl; exact rfl; exact rfl; exact rfl; exact rfl; intro wF rF bF))
  have rG : wF.heap[gA]? = some (.cells (subC a.x).toArray 34) := by simpa using rF
  refine bodyPost_ret_by (results_ct (fn := Tryz.f10) (p := 4) (u := 5) (ty := 34) (by kernel_rfl) _ _ gA 34 (subC a.x).toArray (0, 0) _ rfl rG Tryz.underlying34 rfl (by rw [List.size_toArray]; exact ZX)) rfl ?_
  exact ⟨rfl, bF.below B4.out (by omega)⟩
set_option maxHeartbeats 8000000 in
theorem of_k0 {w : World} {x : Nat} {G : List Nat} {R : Rs} (h : RY w x G R) {a : Rac} (ha : a.Ok) (hh : hasB R.n a.client = true) (hk : a.kind = 0 ∨ a.kind = 4) :
    Calls Tryz.prog 10 #[pt x 0, .agg (racC a).toArray] w fun e w' => e = .returned (.tuple #[.agg (subC (ofS R a)).toArray, st (ofV R a)]) ∧ Below w.heap.size w w' := by
  rcases hk with hk | hk
  all_goals
    have hS : ofS R a = a.x := by unfold ofS; rw [if_neg (by rw [hh]; simp), hk]; rfl
    have hV : ofV R a = a.view := by unfold ofV; rw [if_neg (by rw [hh]; simp), hk]; rfl
    rw [hS, hV]
    clear hS hV
    have B1 := hid (below_a1 w (.cells (racC a).toArray 36))
    have B2 := hid (below_two B1.out (below_a1 (w.alloc (.cells (racC a).toArray 36)) (.cells (subC zeroS).toArray 34)))
    have T2 := hid (row_kept (top_obj w (.cells (racC a).toArray 36)) (below_a1 (w.alloc (.cells (racC a).toArray 36)) (.cells (subC zeroS).toArray 34)))
    have U2 := hid (top_obj (w.alloc (.cells (racC a).toArray 36)) (.cells (subC zeroS).toArray 34))
    have e1 : (w.alloc (.cells (racC a).toArray 36)).heap.size = w.heap.size + 1 := Array.size_push _
    rw [e1] at U2
    have H2 := hid (h.kept B2.out)
    have ZZ := zeroSub
    have ZX : (Tryz.prog.info? 34).map (·.size) = some (subC a.x).length := by rw [subC_len ha.wf]; exact sizeSub
    have OX := hid (one_sub a.x)
    have LX : (subC zeroS).length = (subC a.x).length := by rw [subC_len ha.wf]; rfl
    have HA := hid ha
    clear h
    obtain ⟨Z, HZe⟩ : ∃ Z, Hid (Z = subC zeroS) := ⟨_, rfl⟩
    rw [← HZe.out] at B2 T2 U2 H2 ZZ LX
    obtain ⟨V, HV⟩ : ∃ V, Hid (V = racC a) := ⟨_, rfl⟩
    rw [← HV.out] at B1 B2 T2 U2 e1 H2 ⊢
    go_enter Tryz.func10, Tryz.ntmps10
    go_upto_region 1 with (first | ((with_reducible refine wl_alloc 34 ?_ ?_ Z.toArray ZZ ?_); exact rfl; exact rfl))
    generalize w.alloc (.cells V.toArray 36) = W1 at *
    generalize W1.alloc (.cells Z.toArray 34) = W2 at *
    try simp only [Act.put, List.setIfInBounds_toArray, List.set_cons_zero, List.set_cons_succ, e1]
    clear e1
    have HU2 : Hid (W2.heap[w.heap.size + 1]? = some (.cells ([] ++ (Z ++ [])).toArray 34)) := by show _ = _; have := U2.out; simpa using this
    clear U2
    generalize hgA : w.heap.size + 1 = gA at *
    obtain ⟨gX, hgX⟩ : ∃ gX, gX = w.heap.size := ⟨_, rfl⟩
    rw [← hgX] at T2 ⊢
    have HgX := hid hgX
    clear hgX
    have T2a := hid (by have e := T2.out; rw [HV.out] at e; exact e : W2.heap[gX]? = some (.cells (racC a).toArray 36))
    have SXk := hid (fun (W : World) (hb : Below W2.heap.size W2 W) => rac_sub (row_kept T2a.out hb))
    have cvk := hid (fun (W : World) (hb : Below W2.heap.size W2 W) => rac_view (row_kept T2a.out hb) HA.out.wf)
    have LX68 : (subC a.x).length = 68 := subC_len HA.out.wf
    refine wp_region_new (N := 64) 4 5 6 34 68 (subC a.x) [pt gX (0 + 2), .agg (subC a.x).toArray, pt gX (0 + 70), st a.view, undef, undef, st a.view] (fun g => [(8, pt gX (0 + 2)), (9, .agg (subC a.x).toArray), (10, pt gX (0 + 70)), (11, st a.view), (6, pt g 0), (7, st a.view)]) (by kernel_rfl) (by kernel_rfl) rfl (by kernel_rfl) (by decide) (by simp) (fun g => by kernel_rfl) ?_ ?_
    · intro i o ho
      match i, ho with
      | 0, ho => cases ho; exact oweA_c (pt gX (0 + 2)) (by decide) (by decide) rfl (fun L b w' hB hw hk hv K h => op_fa 3 _ 2 gX 0 2 rfl (fun W => fq48_2 _ _ W) (hk 3 (by kernel_rfl)) h)
      | 1, ho => cases ho; exact oweA_c (.agg (subC a.x).toArray) (by decide) (by decide) rfl (fun L b w' hB hw hk hv K h => op_load _ (.tmp 8) rfl gX (0 + 2) (hv 0 8 (by kernel_rfl) (by decide) (by kernel_rfl)) (subC a.x) _ (SXk.out w' hB) Tryz.underlying34 rfl ZX h)
      | 2, ho => cases ho; exact oweA_c (pt gX (0 + 70)) (by decide) (by decide) rfl (fun L b w' hB hw hk hv K h => op_fa 3 _ 3 gX 0 70 rfl (fun W => fq48_3 _ _ W) (hk 3 (by kernel_rfl)) h)
      | 3, ho => cases ho; exact oweA_c (st a.view) (by decide) (by decide) rfl (fun L b w' hB hw hk hv K h => op_load1 _ (.tmp 10) rfl gX (0 + 70) (hv 2 10 (by kernel_rfl) (by decide) (by kernel_rfl)) (st a.view) _ (cvk.out w' hB) Tryz.underlying9 rfl h)
      | 4, ho => cases ho; exact oweA_alloc rfl Z ZZ (LX.trans LX68) _ rfl (by kernel_rfl) (by decide)
      | 5, ho => cases ho; exact oweA_store 6 9 rfl rfl (by kernel_rfl) 1 (by kernel_rfl) (by decide) (by kernel_rfl) (by kernel_rfl) rfl LX68 OX.out ZX
      | 6, ho => cases ho; exact oweA_c (st a.view) (by decide) (by decide) rfl (fun L b w' hB hw hk hv K h => op_assign 11 _ rfl (hv 3 11 (by kernel_rfl) (by decide) (by kernel_rfl)) h)
      | (i + 7), ho => exact absurd ho (by simp)
    intro gS W4 hgS0 hrow hJ
    simp only [List.foldl_cons, List.foldl_nil, List.setIfInBounds_toArray, List.set_cons_zero, List.set_cons_succ]
    have T4 := hid (row_kept T2a.out hJ)
    have U4 := hid (row_kept HU2.out hJ)
    have B4 := hid (below_two B2.out hJ)
    have H4 := hid (H2.out.kept hJ)
    have S4 := hid hrow
    have hgS : Hid (w.heap.size ≤ gS ∧ gA < gS ∧ gX < gS) := by
      have e1 := B2.out.size
      have e2 := row_ltA HU2.out
      have e3 := row_ltA T2.out
      exact ⟨by omega, by omega, by omega⟩
    clear T2 T2a HU2 H2 SXk cvk hgS0 hrow hJ
    have ck := rac_kind T4.out
    have cc := rac_client T4.out
    have HIs := hid (r12is_any H4.out a.client)
    rw [hh] at HIs
    rw [hk] at ck
    have SEG := hid (row_seg (off := 0) (A := []) (cs := subC a.x) (C := []) S4.out (by simp) rfl)
    clear hh H4 T4 hk
    go_wp2_with fail
    refine HIs.out.mono ?_
    rintro e w1 ⟨rfl, hw1⟩
    subst w1
    go_wp2_with (first
      | ((with_reducible refine wl_load 34 (.tmp 6) ?_ gS 0 ?_ ?_ (subC a.x) _ SEG.out Tryz.underlying34 ?_ ZX ?_); exact rfl; exact rfl; exact rfl; exact rfl)
      | ((with_reducible refine wl_put 34 (.tmp 4) (.tmp 62) ?_ ?_ gA 0 ?_ ?_ [] (subC a.x) Z [] ?_ 34 U4.out rfl LX OX.out ZX ?_); exact rfl; exact rfl; exact rfl; exact rfl; exact rfl; intro wF rF bF))
    have rG : wF.heap[gA]? = some (.cells (subC a.x).toArray 34) := by simpa using rF
    refine bodyPost_ret_by (results_ct (fn := Tryz.f10) (p := 4) (u := 5) (ty := 34) (by kernel_rfl) _ _ gA 34 (subC a.x).toArray (0, 0) _ rfl rG Tryz.underlying34 rfl (by rw [List.size_toArray]; exact ZX)) rfl ?_
    exact ⟨rfl, bF.below B4.out (by omega)⟩
set_option maxHeartbeats 8000000 in
theorem of_k1 {w : World} {x : Nat} {G : List Nat} {R : Rs} (h : RY w x G R) {a : Rac} (ha : a.Ok) (hh : hasB R.n a.client = true) (hk : a.kind = 1 ∨ a.kind = 2 ∨ a.kind = 3) :
    Calls Tryz.prog 10 #[pt x 0, .agg (racC a).toArray] w fun e w' => e = .returned (.tuple #[.agg (subC (ofS R a)).toArray, st (ofV R a)]) ∧ Below w.heap.size w w' := by
  rcases hk with hk | hk | hk
  all_goals
    have hS : ofS R a = nextS a.x ((R.reg a.client).asked.number + 1) := by unfold ofS; rw [if_neg (by rw [hh]; simp), hk]; rfl
    have hV : ofV R a = a.view := by unfold ofV; rw [if_neg (by rw [hh]; simp), hk]; rfl
    rw [hS, hV]
    clear hS hV
    obtain ⟨k, hkc⟩ : ∃ k : Nat, a.client = (k : Int) := ⟨a.client.toNat, by have := (hasB_iff _ _).1 hh; omega⟩
    have hkR : k < R.n := by have := (hasB_iff _ _).1 hh; omega
    rw [hkc]
    obtain ⟨AN, HAN⟩ : ∃ AN, Hid (AN = (R.reg (k : Int)).asked.number) := ⟨_, rfl⟩
    rw [← HAN.out]
    have hanb := (h.inv.reg (k : Int)).num
    rw [← HAN.out] at hanb
    have hwr : IntKind.i64.wrap (AN + 1) = AN + 1 := IntWalk.i64_in _ (by omega)
    have B1 := hid (below_a1 w (.cells (racC a).toArray 36))
    have B2 := hid (below_two B1.out (below_a1 (w.alloc (.cells (racC a).toArray 36)) (.cells (subC zeroS).toArray 34)))
    have T2 := hid (row_kept (top_obj w (.cells (racC a).toArray 36)) (below_a1 (w.alloc (.cells (racC a).toArray 36)) (.cells (subC zeroS).toArray 34)))
    have U2 := hid (top_obj (w.alloc (.cells (racC a).toArray 36)) (.cells (subC zeroS).toArray 34))
    have e1 : (w.alloc (.cells (racC a).toArray 36)).heap.size = w.heap.size + 1 := Array.size_push _
    rw [e1] at U2
    have H2 := hid (h.kept B2.out)
    have ZZ := zeroSub
    have ZX : (Tryz.prog.info? 34).map (·.size) = some (subC a.x).length := by rw [subC_len ha.wf]; exact sizeSub
    have OX := hid (one_sub a.x)
    have LX : (subC zeroS).length = (subC a.x).length := by rw [subC_len ha.wf]; rfl
    have HA := hid ha
    clear h
    obtain ⟨Z, HZe⟩ : ∃ Z, Hid (Z = subC zeroS) := ⟨_, rfl⟩
    rw [← HZe.out] at B2 T2 U2 H2 ZZ LX
    obtain ⟨V, HV⟩ : ∃ V, Hid (V = racC a) := ⟨_, rfl⟩
    rw [← HV.out] at B1 B2 T2 U2 e1 H2 ⊢
    go_enter Tryz.func10, Tryz.ntmps10
    go_upto_region 1 with (first | ((with_reducible refine wl_alloc 34 ?_ ?_ Z.toArray ZZ ?_); exact rfl; exact rfl))
    generalize w.alloc (.cells V.toArray 36) = W1 at *
    generalize W1.alloc (.cells Z.toArray 34) = W2 at *
    try simp only [Act.put, List.setIfInBounds_toArray, List.set_cons_zero, List.set_cons_succ, e1]
    clear e1
    have HU2 : Hid (W2.heap[w.heap.size + 1]? = some (.cells ([] ++ (Z ++ [])).toArray 34)) := by show _ = _; have := U2.out; simpa using this
    clear U2
    generalize hgA : w.heap.size + 1 = gA at *
    obtain ⟨gX, hgX⟩ : ∃ gX, gX = w.heap.size := ⟨_, rfl⟩
    rw [← hgX] at T2 ⊢
    have HgX := hid hgX
    clear hgX
    have T2a := hid (by have e := T2.out; rw [HV.out] at e; exact e : W2.heap[gX]? = some (.cells (racC a).toArray 36))
    have SXk := hid (fun (W : World) (hb : Below W2.heap.size W2 W) => rac_sub (row_kept T2a.out hb))
    have cvk := hid (fun (W : World) (hb : Below W2.heap.size W2 W) => rac_view (row_kept T2a.out hb) HA.out.wf)
    have LX68 : (subC a.x).length = 68 := subC_len HA.out.wf
    refine wp_region_new (N := 64) 4 5 6 34 68 (subC a.x) [pt gX (0 + 2), .agg (subC a.x).toArray, pt gX (0 + 70), st a.view, undef, undef, st a.view] (fun g => [(8, pt gX (0 + 2)), (9, .agg (subC a.x).toArray), (10, pt gX (0 + 70)), (11, st a.view), (6, pt g 0), (7, st a.view)]) (by kernel_rfl) (by kernel_rfl) rfl (by kernel_rfl) (by decide) (by simp) (fun g => by kernel_rfl) ?_ ?_
    · intro i o ho
      match i, ho with
      | 0, ho => cases ho; exact oweA_c (pt gX (0 + 2)) (by decide) (by decide) rfl (fun L b w' hB hw hk hv K h => op_fa 3 _ 2 gX 0 2 rfl (fun W => fq48_2 _ _ W) (hk 3 (by kernel_rfl)) h)
      | 1, ho => cases ho; exact oweA_c (.agg (subC a.x).toArray) (by decide) (by decide) rfl (fun L b w' hB hw hk hv K h => op_load _ (.tmp 8) rfl gX (0 + 2) (hv 0 8 (by kernel_rfl) (by decide) (by kernel_rfl)) (subC a.x) _ (SXk.out w' hB) Tryz.underlying34 rfl ZX h)
      | 2, ho => cases ho; exact oweA_c (pt gX (0 + 70)) (by decide) (by decide) rfl (fun L b w' hB hw hk hv K h => op_fa 3 _ 3 gX 0 70 rfl (fun W => fq48_3 _ _ W) (hk 3 (by kernel_rfl)) h)
      | 3, ho => cases ho; exact oweA_c (st a.view) (by decide) (by decide) rfl (fun L b w' hB hw hk hv K h => op_load1 _ (.tmp 10) rfl gX (0 + 70) (hv 2 10 (by kernel_rfl) (by decide) (by kernel_rfl)) (st a.view) _ (cvk.out w' hB) Tryz.underlying9 rfl h)
      | 4, ho => cases ho; exact oweA_alloc rfl Z ZZ (LX.trans LX68) _ rfl (by kernel_rfl) (by decide)
      | 5, ho => cases ho; exact oweA_store 6 9 rfl rfl (by kernel_rfl) 1 (by kernel_rfl) (by decide) (by kernel_rfl) (by kernel_rfl) rfl LX68 OX.out ZX
      | 6, ho => cases ho; exact oweA_c (st a.view) (by decide) (by decide) rfl (fun L b w' hB hw hk hv K h => op_assign 11 _ rfl (hv 3 11 (by kernel_rfl) (by decide) (by kernel_rfl)) h)
      | (i + 7), ho => exact absurd ho (by simp)
    intro gS W4 hgS0 hrow hJ
    simp only [List.foldl_cons, List.foldl_nil, List.setIfInBounds_toArray, List.set_cons_zero, List.set_cons_succ]
    have T4 := hid (row_kept T2a.out hJ)
    have U4 := hid (row_kept HU2.out hJ)
    have B4 := hid (below_two B2.out hJ)
    have H4 := hid (H2.out.kept hJ)
    have S4 := hid hrow
    have hgS : Hid (w.heap.size ≤ gS ∧ gA < gS ∧ gX < gS) := by
      have e1 := B2.out.size
      have e2 := row_ltA HU2.out
      have e3 := row_ltA T2.out
      exact ⟨by omega, by omega, by omega⟩
    clear T2 T2a HU2 H2 SXk cvk hgS0 hrow hJ
    have ck := rac_kind T4.out
    have cc := rac_client T4.out
    have HIs := hid (r12is_any H4.out a.client)
    rw [hh] at HIs
    rw [hk] at ck
    rw [hkc] at cc HIs
    obtain ⟨bs, br, bv, bt, ps, vP, Y, hz4, -⟩ := H4.out
    have HZ4 := hid hz4
    have ZN : (Tryz.prog.info? 34).map (·.size) = some (subC (nextS a.x (AN + 1))).length := by rw [subC_len (nextS_wf HA.out.wf _)]; exact sizeSub
    have ON := hid (one_sub (nextS a.x (AN + 1)))
    have LN : Z.length = (subC (nextS a.x (AN + 1))).length := LX.trans (ZNl ZX ZN)
    have S4' : Hid (W4.heap[gS]? = some (.cells (([] : List Value) ++ ([nu a.x.number] ++ (subC a.x).drop 1)).toArray 34)) := S4.out
    have D4 : Hid (Below W4.heap.size W4 (World.drew W4)) := ⟨rfl, rfl, rfl, Nat.le_refl _, fun _ _ => rfl⟩
    have HZ5 := hid (hz4.kept D4.out)
    have c1 := HZ5.out.cS
    have c2 : (World.drew W4).cell? ⟨bs, k * 68, none⟩ = some (nu AN) := by rw [HAN.out]; exact HZ5.out.sub hkR 0 _ rfl
    unfold sl at c1
    have c3 := cell_kq cc D4.out
    have S5 := hid (row_kept S4'.out D4.out)
    have U5 := hid (row_kept U4.out D4.out)
    have B5 := hid (below_two B4.out D4.out)
    clear hh H4 T4 hk hz4 S4 S4' hkc HZ5
    go_wp2_with fail
    refine HIs.out.mono ?_
    rintro e w1 ⟨rfl, hw1⟩
    subst w1
    go_upto_region 9 with fail
    refine wp_region_still_tail 11 (by kernel_rfl) (by kernel_rfl) ?_
    simp only [List.take_succ_cons, List.take_zero, List.drop_succ_cons, List.drop_zero]
    change wpStill _ _ (World.drew W4) (fun a' => wpList _ _ _ _ a' (World.drew W4)) _ _
    generalize World.drew W4 = W5 at *
    iterate 11 still_step
    refine wpStill_nil ?_
    go_upto_region 16 with ((with_reducible refine wl_put1 3 (.tmp 43) (.tmp 42) ?_ ?_ gS 0 ?_ ?_ [] ((subC a.x).drop 1) (nu a.x.number) (nu (AN + 1)) ?_ 34 S5.out rfl ?_ ?_ ?_); exact rfl; exact rfl; exact rfl; exact rfl; (first | exact rfl | exact (congrArg (Value.int IntKind.i64) hwr)); exact rfl; kernel_rfl; intro W6 r6 b6; have S6 := hid (subNum r6); have U6 := hid (b6.row U5.out (by have := hgS.out; omega)); have B6 := hid (b6.below B5.out hgS.out.1); clear r6 b6)
    have SEG := hid (row_seg (off := 0) (A := []) (cs := subC (nextS a.x (AN + 1))) (C := []) S6.out (by simp) rfl)
    clear c1 c2 c3 S5 S6
    go_wp2_with (first
      | ((with_reducible refine wl_load 34 (.tmp 6) ?_ gS 0 ?_ ?_ (subC (nextS a.x (AN + 1))) _ SEG.out Tryz.underlying34 ?_ ZN ?_); exact rfl; exact rfl; exact rfl; exact rfl)
      | ((with_reducible refine wl_put 34 (.tmp 4) (.tmp 62) ?_ ?_ gA 0 ?_ ?_ [] (subC (nextS a.x (AN + 1))) Z [] ?_ 34 U6.out rfl LN ON.out ZN ?_); exact rfl; exact rfl; exact rfl; exact rfl; exact rfl; intro wF rF bF))
    have rG : wF.heap[gA]? = some (.cells (subC (nextS a.x (AN + 1))).toArray 34) := by simpa using rF
    refine bodyPost_ret_by (results_ct (fn := Tryz.f10) (p := 4) (u := 5) (ty := 34) (by kernel_rfl) _ _ gA 34 (subC (nextS a.x (AN + 1))).toArray (0, 0) _ rfl rG Tryz.underlying34 rfl (by rw [List.size_toArray]; exact ZN)) rfl ?_
    exact ⟨rfl, bF.below B6.out (by omega)⟩
set_option maxHeartbeats 8000000 in
theorem of_k5 {w : World} {x : Nat} {G : List Nat} {R : Rs} (h : RY w x G R) {a : Rac} (ha : a.Ok) (hh : hasB R.n a.client = true) (hk : a.kind = 5 ∨ a.kind = 6 ∨ a.kind = 7) :
    Calls Tryz.prog 10 #[pt x 0, .agg (racC a).toArray] w fun e w' => e = .returned (.tuple #[.agg (subC (ofS R a)).toArray, st (ofV R a)]) ∧ Below w.heap.size w w' := by
  rcases hk with hk | hk | hk
  all_goals
    have hS : ofS R a = a.x := by unfold ofS; rw [if_neg (by rw [hh]; simp), hk]; rfl
    have hV : ofV R a = afterR (R.reg a.client).ans a.client := by unfold ofV; rw [if_neg (by rw [hh]; simp), hk]; rfl
    rw [hS, hV]
    clear hS hV
    obtain ⟨k, hkc⟩ : ∃ k : Nat, a.client = (k : Int) := ⟨a.client.toNat, by have := (hasB_iff _ _).1 hh; omega⟩
    have hkR : k < R.n := by have := (hasB_iff _ _).1 hh; omega
    rw [hkc]
    have B1 := hid (below_a1 w (.cells (racC a).toArray 36))
    have B2 := hid (below_two B1.out (below_a1 (w.alloc (.cells (racC a).toArray 36)) (.cells (subC zeroS).toArray 34)))
    have T2 := hid (row_kept (top_obj w (.cells (racC a).toArray 36)) (below_a1 (w.alloc (.cells (racC a).toArray 36)) (.cells (subC zeroS).toArray 34)))
    have U2 := hid (top_obj (w.alloc (.cells (racC a).toArray 36)) (.cells (subC zeroS).toArray 34))
    have e1 : (w.alloc (.cells (racC a).toArray 36)).heap.size = w.heap.size + 1 := Array.size_push _
    rw [e1] at U2
    have H2 := hid (h.kept B2.out)
    have ZZ := zeroSub
    have ZX : (Tryz.prog.info? 34).map (·.size) = some (subC a.x).length := by rw [subC_len ha.wf]; exact sizeSub
    have OX := hid (one_sub a.x)
    have LX : (subC zeroS).length = (subC a.x).length := by rw [subC_len ha.wf]; rfl
    have HA := hid ha
    clear h
    obtain ⟨Z, HZe⟩ : ∃ Z, Hid (Z = subC zeroS) := ⟨_, rfl⟩
    rw [← HZe.out] at B2 T2 U2 H2 ZZ LX
    obtain ⟨V, HV⟩ : ∃ V, Hid (V = racC a) := ⟨_, rfl⟩
    rw [← HV.out] at B1 B2 T2 U2 e1 H2 ⊢
    go_enter Tryz.func10, Tryz.ntmps10
    go_upto_region 1 with (first | ((with_reducible refine wl_alloc 34 ?_ ?_ Z.toArray ZZ ?_); exact rfl; exact rfl))
    generalize w.alloc (.cells V.toArray 36) = W1 at *
    generalize W1.alloc (.cells Z.toArray 34) = W2 at *
    try simp only [Act.put, List.setIfInBounds_toArray, List.set_cons_zero, List.set_cons_succ, e1]
    clear e1
    have HU2 : Hid (W2.heap[w.heap.size + 1]? = some (.cells ([] ++ (Z ++ [])).toArray 34)) := by show _ = _; have := U2.out; simpa using this
    clear U2
    generalize hgA : w.heap.size + 1 = gA at *
    obtain ⟨gX, hgX⟩ : ∃ gX, gX = w.heap.size := ⟨_, rfl⟩
    rw [← hgX] at T2 ⊢
    have HgX := hid hgX
    clear hgX
    have T2a := hid (by have e := T2.out; rw [HV.out] at e; exact e : W2.heap[gX]? = some (.cells (racC a).toArray 36))
    have SXk := hid (fun (W : World) (hb : Below W2.heap.size W2 W) => rac_sub (row_kept T2a.out hb))
    have cvk := hid (fun (W : World) (hb : Below W2.heap.size W2 W) => rac_view (row_kept T2a.out hb) HA.out.wf)
    have LX68 : (subC a.x).length = 68 := subC_len HA.out.wf
    refine wp_region_new (N := 64) 4 5 6 34 68 (subC a.x) [pt gX (0 + 2), .agg (subC a.x).toArray, pt gX (0 + 70), st a.view, undef, undef, st a.view] (fun g => [(8, pt gX (0 + 2)), (9, .agg (subC a.x).toArray), (10, pt gX (0 + 70)), (11, st a.view), (6, pt g 0), (7, st a.view)]) (by kernel_rfl) (by kernel_rfl) rfl (by kernel_rfl) (by decide) (by simp) (fun g => by kernel_rfl) ?_ ?_
    · intro i o ho
      match i, ho with
      | 0, ho => cases ho; exact oweA_c (pt gX (0 + 2)) (by decide) (by decide) rfl (fun L b w' hB hw hk hv K h => op_fa 3 _ 2 gX 0 2 rfl (fun W => fq48_2 _ _ W) (hk 3 (by kernel_rfl)) h)
      | 1, ho => cases ho; exact oweA_c (.agg (subC a.x).toArray) (by decide) (by decide) rfl (fun L b w' hB hw hk hv K h => op_load _ (.tmp 8) rfl gX (0 + 2) (hv 0 8 (by kernel_rfl) (by decide) (by kernel_rfl)) (subC a.x) _ (SXk.out w' hB) Tryz.underlying34 rfl ZX h)
      | 2, ho => cases ho; exact oweA_c (pt gX (0 + 70)) (by decide) (by decide) rfl (fun L b w' hB hw hk hv K h => op_fa 3 _ 3 gX 0 70 rfl (fun W => fq48_3 _ _ W) (hk 3 (by kernel_rfl)) h)
      | 3, ho => cases ho; exact oweA_c (st a.view) (by decide) (by decide) rfl (fun L b w' hB hw hk hv K h => op_load1 _ (.tmp 10) rfl gX (0 + 70) (hv 2 10 (by kernel_rfl) (by decide) (by kernel_rfl)) (st a.view) _ (cvk.out w' hB) Tryz.underlying9 rfl h)
      | 4, ho => cases ho; exact oweA_alloc rfl Z ZZ (LX.trans LX68) _ rfl (by kernel_rfl) (by decide)
      | 5, ho => cases ho; exact oweA_store 6 9 rfl rfl (by kernel_rfl) 1 (by kernel_rfl) (by decide) (by kernel_rfl) (by kernel_rfl) rfl LX68 OX.out ZX
      | 6, ho => cases ho; exact oweA_c (st a.view) (by decide) (by decide) rfl (fun L b w' hB hw hk hv K h => op_assign 11 _ rfl (hv 3 11 (by kernel_rfl) (by decide) (by kernel_rfl)) h)
      | (i + 7), ho => exact absurd ho (by simp)
    intro gS W4 hgS0 hrow hJ
    simp only [List.foldl_cons, List.foldl_nil, List.setIfInBounds_toArray, List.set_cons_zero, List.set_cons_succ]
    have T4 := hid (row_kept T2a.out hJ)
    have U4 := hid (row_kept HU2.out hJ)
    have B4 := hid (below_two B2.out hJ)
    have H4 := hid (H2.out.kept hJ)
    have S4 := hid hrow
    have hgS : Hid (w.heap.size ≤ gS ∧ gA < gS ∧ gX < gS) := by
      have e1 := B2.out.size
      have e2 := row_ltA HU2.out
      have e3 := row_ltA T2.out
      exact ⟨by omega, by omega, by omega⟩
    clear T2 T2a HU2 H2 SXk cvk hgS0 hrow hJ
    have ck := rac_kind T4.out
    have cc := rac_client T4.out
    have HIs := hid (r12is_any H4.out a.client)
    rw [hh] at HIs
    rw [hk] at ck
    rw [hkc] at cc HIs
    obtain ⟨bs, br, bv, bt, ps, vP, Y, hz4, -⟩ := H4.out
    have hn8 := hz4.inv.n
    have hg4 := hz4.inv.reg (k : Int)
    obtain ⟨u, hpu, SR⟩ := hz4.rep hkR
    have D4 : Hid (Below W4.heap.size W4 (World.drew W4)) := ⟨rfl, rfl, rfl, Nat.le_refl _, fun _ _ => rfl⟩
    have c1 := (hz4.kept D4.out).cR
    unfold sl at c1
    have c3 := cell_kq cc D4.out
    have SR5 := hid (fun j v hj => cell_kq (SR j v hj) D4.out)
    have S5 := hid (row_kept S4.out D4.out)
    have U5 := hid (row_kept U4.out D4.out)
    have B5 := hid (below_two B4.out D4.out)
    have ZRe : (Tryz.prog.info? 45).map (·.size) = some (repC (R.reg (k : Int)).ans u).length := by rw [repC_len hg4.ans]; exact sizeRep
    have HAf := hid (rafter_any hg4.ans (hpu.kp (X := []) (Kp.of D4.out) (fun _ _ => by simp)).pens (fun p hp => by have := hg4.acl p hp; exact ⟨this.1, by omega⟩) (by have := hg4.aview; omega) (by have := hg4.apend; omega) k (by omega))
    clear hh H4 T4 hk hz4 S4 hkc hpu SR hg4
    generalize repC (R.reg (k : Int)).ans u = RC at *
    go_wp2_with fail
    refine HIs.out.mono ?_
    rintro e w1 ⟨rfl, hw1⟩
    subst w1
    go_upto_region 13 with fail
    refine wp_region_still_tail 10 (by kernel_rfl) (by kernel_rfl) ?_
    simp only [List.take_succ_cons, List.take_zero, List.drop_succ_cons, List.drop_zero]
    change wpStill _ _ (World.drew W4) (fun a' => wpList _ _ _ _ a' (World.drew W4)) _ _
    generalize World.drew W4 = W5 at *
    iterate 7 still_step
    refine ws_load 45 (.tmp 54) rfl br (k * 103) rfl rfl RC _ SR5.out Tryz.underlying45 rfl ZRe ?_
    simp only [Act.put, List.setIfInBounds_toArray, List.set_cons_zero, List.set_cons_succ]
    iterate 2 still_step
    refine wpStill_nil ?_
    go_wp2_with fail
    refine HAf.out.mono ?_
    rintro e W6 ⟨rfl, hb6⟩
    have S6 := hid (row_kept S5.out hb6)
    have U6 := hid (row_kept U5.out hb6)
    have B6 := hid (below_two B5.out hb6)
    have SEG := hid (row_seg (off := 0) (A := []) (cs := subC a.x) (C := []) S6.out (by simp) rfl)
    clear hb6 S5 U5 c1 c3
    go_wp2_with (first
      | ((with_reducible refine wl_load 34 (.tmp 6) ?_ gS 0 ?_ ?_ (subC a.x) _ SEG.out Tryz.underlying34 ?_ ZX ?_); exact rfl; exact rfl; exact rfl; exact rfl)
      | ((with_reducible refine wl_put 34 (.tmp 4) (.tmp 62) ?_ ?_ gA 0 ?_ ?_ [] (subC a.x) Z [] ?_ 34 U6.out rfl LX OX.out ZX ?_); exact rfl; exact rfl; exact rfl; exact rfl; exact rfl; intro wF rF bF))
    have rG : wF.heap[gA]? = some (.cells (subC a.x).toArray 34) := by simpa using rF
    refine bodyPost_ret_by (results_ct (fn := Tryz.f10) (p := 4) (u := 5) (ty := 34) (by kernel_rfl) _ _ gA 34 (subC a.x).toArray (0, 0) _ rfl rG Tryz.underlying34 rfl (by rw [List.size_toArray]; exact ZX)) rfl ?_
    exact ⟨rfl, bF.below B6.out (by omega)⟩
set_option maxHeartbeats 8000000 in
theorem of_else {w : World} {x : Nat} {G : List Nat} {R : Rs} (h : RY w x G R) {a : Rac} (ha : a.Ok) (hh : hasB R.n a.client = true) (hk : ∀ j : Int, 0 ≤ j → j ≤ 7 → a.kind ≠ j) :
    Calls Tryz.prog 10 #[pt x 0, .agg (racC a).toArray] w fun e w' => e = .returned (.tuple #[.agg (subC (ofS R a)).toArray, st (ofV R a)]) ∧ Below w.heap.size w w' := by
  have hS : ofS R a = (R.reg a.client).asked := by
    unfold ofS
    have e0 := hk 0 (by decide) (by decide)
    have e1 := hk 1 (by decide) (by decide)
    have e2 := hk 2 (by decide) (by decide)
    have e3 := hk 3 (by decide) (by decide)
    have e4 := hk 4 (by decide) (by decide)
    have e5 := hk 5 (by decide) (by decide)
    have e6 := hk 6 (by decide) (by decide)
    have e7 := hk 7 (by decide) (by decide)
    rw [if_neg (by rw [hh]; simp), if_neg (by simp [isNext, e1, e2, e3]), if_neg (by simp [isDone, e5, e6, e7]), if_neg (by simp [isOwn, e0, e4])]
  have hV : ofV R a = a.view := by
    unfold ofV
    have e1 := hk 1 (by decide) (by decide)
    have e2 := hk 2 (by decide) (by decide)
    have e3 := hk 3 (by decide) (by decide)
    have e5 := hk 5 (by decide) (by decide)
    have e6 := hk 6 (by decide) (by decide)
    have e7 := hk 7 (by decide) (by decide)
    rw [if_neg (by rw [hh]; simp), if_neg (by simp [isNext, e1, e2, e3]), if_neg (by simp [isDone, e5, e6, e7])]
  rw [hS, hV]
  clear hS hV
  obtain ⟨k, hkc⟩ : ∃ k : Nat, a.client = (k : Int) := ⟨a.client.toNat, by have := (hasB_iff _ _).1 hh; omega⟩
  have hkR : k < R.n := by have := (hasB_iff _ _).1 hh; omega
  rw [hkc]
  have B1 := hid (below_a1 w (.cells (racC a).toArray 36))
  have B2 := hid (below_two B1.out (below_a1 (w.alloc (.cells (racC a).toArray 36)) (.cells (subC zeroS).toArray 34)))
  have T2 := hid (row_kept (top_obj w (.cells (racC a).toArray 36)) (below_a1 (w.alloc (.cells (racC a).toArray 36)) (.cells (subC zeroS).toArray 34)))
  have U2 := hid (top_obj (w.alloc (.cells (racC a).toArray 36)) (.cells (subC zeroS).toArray 34))
  have e1 : (w.alloc (.cells (racC a).toArray 36)).heap.size = w.heap.size + 1 := Array.size_push _
  rw [e1] at U2
  have H2 := hid (h.kept B2.out)
  have ZZ := zeroSub
  have ZX : (Tryz.prog.info? 34).map (·.size) = some (subC a.x).length := by rw [subC_len ha.wf]; exact sizeSub
  have OX := hid (one_sub a.x)
  have LX : (subC zeroS).length = (subC a.x).length := by rw [subC_len ha.wf]; rfl
  have HA := hid ha
  clear h
  obtain ⟨Z, HZe⟩ : ∃ Z, Hid (Z = subC zeroS) := ⟨_, rfl⟩
  rw [← HZe.out] at B2 T2 U2 H2 ZZ LX
  obtain ⟨V, HV⟩ : ∃ V, Hid (V = racC a) := ⟨_, rfl⟩
  rw [← HV.out] at B1 B2 T2 U2 e1 H2 ⊢
  go_enter Tryz.func10, Tryz.ntmps10
  go_upto_region 1 with (first | ((with_reducible refine wl_alloc 34 ?_ ?_ Z.toArray ZZ ?_); exact rfl; exact rfl))
  generalize w.alloc (.cells V.toArray 36) = W1 at *
  generalize W1.alloc (.cells Z.toArray 34) = W2 at *
  try simp only [Act.put, List.setIfInBounds_toArray, List.set_cons_zero, List.set_cons_succ, e1]
  clear e1
  have HU2 : Hid (W2.heap[w.heap.size + 1]? = some (.cells ([] ++ (Z ++ [])).toArray 34)) := by show _ = _; have := U2.out; simpa using this
  clear U2
  generalize hgA : w.heap.size + 1 = gA at *
  obtain ⟨gX, hgX⟩ : ∃ gX, gX = w.heap.size := ⟨_, rfl⟩
  rw [← hgX] at T2 ⊢
  have HgX := hid hgX
  clear hgX
  have T2a := hid (by have e := T2.out; rw [HV.out] at e; exact e : W2.heap[gX]? = some (.cells (racC a).toArray 36))
  have SXk := hid (fun (W : World) (hb : Below W2.heap.size W2 W) => rac_sub (row_kept T2a.out hb))
  have cvk := hid (fun (W : World) (hb : Below W2.heap.size W2 W) => rac_view (row_kept T2a.out hb) HA.out.wf)
  have LX68 : (subC a.x).length = 68 := subC_len HA.out.wf
  refine wp_region_new (N := 64) 4 5 6 34 68 (subC a.x) [pt gX (0 + 2), .agg (subC a.x).toArray, pt gX (0 + 70), st a.view, undef, undef, st a.view] (fun g => [(8, pt gX (0 + 2)), (9, .agg (subC a.x).toArray), (10, pt gX (0 + 70)), (11, st a.view), (6, pt g 0), (7, st a.view)]) (by kernel_rfl) (by kernel_rfl) rfl (by kernel_rfl) (by decide) (by simp) (fun g => by kernel_rfl) ?_ ?_
  · intro i o ho
    match i, ho with
    | 0, ho => cases ho; exact oweA_c (pt gX (0 + 2)) (by decide) (by decide) rfl (fun L b w' hB hw hk hv K h => op_fa 3 _ 2 gX 0 2 rfl (fun W => fq48_2 _ _ W) (hk 3 (by kernel_rfl)) h)
    | 1, ho => cases ho; exact oweA_c (.agg (subC a.x).toArray) (by decide) (by decide) rfl (fun L b w' hB hw hk hv K h => op_load _ (.tmp 8) rfl gX (0 + 2) (hv 0 8 (by kernel_rfl) (by decide) (by kernel_rfl)) (subC a.x) _ (SXk.out w' hB) Tryz.underlying34 rfl ZX h)
    | 2, ho => cases ho; exact oweA_c (pt gX (0 + 70)) (by decide) (by decide) rfl (fun L b w' hB hw hk hv K h => op_fa 3 _ 3 gX 0 70 rfl (fun W => fq48_3 _ _ W) (hk 3 (by kernel_rfl)) h)
    | 3, ho => cases ho; exact oweA_c (st a.view) (by decide) (by decide) rfl (fun L b w' hB hw hk hv K h => op_load1 _ (.tmp 10) rfl gX (0 + 70) (hv 2 10 (by kernel_rfl) (by decide) (by kernel_rfl)) (st a.view) _ (cvk.out w' hB) Tryz.underlying9 rfl h)
    | 4, ho => cases ho; exact oweA_alloc rfl Z ZZ (LX.trans LX68) _ rfl (by kernel_rfl) (by decide)
    | 5, ho => cases ho; exact oweA_store 6 9 rfl rfl (by kernel_rfl) 1 (by kernel_rfl) (by decide) (by kernel_rfl) (by kernel_rfl) rfl LX68 OX.out ZX
    | 6, ho => cases ho; exact oweA_c (st a.view) (by decide) (by decide) rfl (fun L b w' hB hw hk hv K h => op_assign 11 _ rfl (hv 3 11 (by kernel_rfl) (by decide) (by kernel_rfl)) h)
    | (i + 7), ho => exact absurd ho (by simp)
  intro gS W4 hgS0 hrow hJ
  simp only [List.foldl_cons, List.foldl_nil, List.setIfInBounds_toArray, List.set_cons_zero, List.set_cons_succ]
  have T4 := hid (row_kept T2a.out hJ)
  have U4 := hid (row_kept HU2.out hJ)
  have B4 := hid (below_two B2.out hJ)
  have H4 := hid (H2.out.kept hJ)
  have S4 := hid hrow
  have hgS : Hid (w.heap.size ≤ gS ∧ gA < gS ∧ gX < gS) := by
    have e1 := B2.out.size
    have e2 := row_ltA HU2.out
    have e3 := row_ltA T2.out
    exact ⟨by omega, by omega, by omega⟩
  clear T2 T2a HU2 H2 SXk cvk hgS0 hrow hJ
  have ck := rac_kind T4.out
  have cc := rac_client T4.out
  have HIs := hid (r12is_any H4.out a.client)
  rw [hh] at HIs
  rw [hkc] at cc HIs
  have d0 : (a.kind == 0) = false := beq_false_of_ne (hk 0 (by decide) (by decide))
  have d1 : (a.kind == 1) = false := beq_false_of_ne (hk 1 (by decide) (by decide))
  have d2 : (a.kind == 2) = false := beq_false_of_ne (hk 2 (by decide) (by decide))
  have d3 : (a.kind == 3) = false := beq_false_of_ne (hk 3 (by decide) (by decide))
  have d4 : (a.kind == 4) = false := beq_false_of_ne (hk 4 (by decide) (by decide))
  have d5 : (a.kind == 5) = false := beq_false_of_ne (hk 5 (by decide) (by decide))
  have d6 : (a.kind == 6) = false := beq_false_of_ne (hk 6 (by decide) (by decide))
  have d7 : (a.kind == 7) = false := beq_false_of_ne (hk 7 (by decide) (by decide))
  obtain ⟨bs, br, bv, bt, ps, vP, Y, hz4, -⟩ := H4.out
  have hwa := (hz4.inv.reg (k : Int)).asked
  have ZN : (Tryz.prog.info? 34).map (·.size) = some (subC (R.reg (k : Int)).asked).length := by rw [subC_len hwa]; exact sizeSub
  have ON := hid (one_sub (R.reg (k : Int)).asked)
  have LN : Z.length = (subC (R.reg (k : Int)).asked).length := LX.trans (ZNl ZX ZN)
  have LO : (subC a.x).length = (subC (R.reg (k : Int)).asked).length := ZNl ZX ZN
  have D4 : Hid (Below W4.heap.size W4 (World.drew W4)) := ⟨rfl, rfl, rfl, Nat.le_refl _, fun _ _ => rfl⟩
  have HZ5 := hid (hz4.kept D4.out)
  have c1 := HZ5.out.cS
  unfold sl at c1
  have c3 := cell_kq cc D4.out
  have SA5 := hid (HZ5.out.sub hkR)
  have S5 : Hid ((World.drew W4).heap[gS]? = some (.cells ([] ++ (subC a.x ++ [])).toArray 34)) := by show _ = _; have := row_kept S4.out D4.out; simpa using this
  have U5 := hid (row_kept U4.out D4.out)
  have B5 := hid (below_two B4.out D4.out)
  clear hh H4 T4 hk hz4 S4 hkc HZ5 hwa
  generalize a.kind = ak at *
  go_wp2_with fail
  refine HIs.out.mono ?_
  rintro e w1 ⟨rfl, hw1⟩
  subst w1
  go_upto_region 5 with fail
  refine wp_region_still_tail 8 (by kernel_rfl) (by kernel_rfl) ?_
  simp only [List.take_succ_cons, List.take_zero, List.drop_succ_cons, List.drop_zero]
  change wpStill _ _ (World.drew W4) (fun a' => wpList _ _ _ _ a' (World.drew W4)) _ _
  generalize World.drew W4 = W5 at *
  iterate 7 still_step
  refine ws_load 34 (.tmp 27) rfl bs (k * 68) rfl rfl (subC (R.reg (k : Int)).asked) _ SA5.out Tryz.underlying34 rfl ZN ?_
  simp only [Act.put, List.setIfInBounds_toArray, List.set_cons_zero, List.set_cons_succ]
  refine wpStill_nil ?_
  go_upto_region 16 with ((with_reducible refine wl_put 34 (.tmp 6) (.tmp 28) ?_ ?_ gS 0 ?_ ?_ [] (subC (R.reg (k : Int)).asked) (subC a.x) [] ?_ 34 S5.out rfl LO ON.out ZN ?_); exact rfl; exact rfl; exact rfl; exact rfl; exact rfl; intro W6 r6 b6; have S6 := hid r6; have U6 := hid (b6.row U5.out (by have := hgS.out; omega)); have B6 := hid (b6.below B5.out hgS.out.1); clear r6 b6)
  have SEG := hid (row_seg (off := 0) (A := []) (cs := subC (R.reg (k : Int)).asked) (C := []) S6.out (by simp) rfl)
  clear c1 c3 S5 S6
  go_wp2_with (first
    | ((with_reducible refine wl_load 34 (.tmp 6) ?_ gS 0 ?_ ?_ (subC (R.reg (k : Int)).asked) _ SEG.out Tryz.underlying34 ?_ ZN ?_); exact rfl; exact rfl; exact rfl; exact rfl)
    | ((with_reducible refine wl_put 34 (.tmp 4) (.tmp 62) ?_ ?_ gA 0 ?_ ?_ [] (subC (R.reg (k : Int)).asked) Z [] ?_ 34 U6.out rfl LN ON.out ZN ?_); exact rfl; exact rfl; exact rfl; exact rfl; exact rfl; intro wF rF bF))
  have rG : wF.heap[gA]? = some (.cells (subC (R.reg (k : Int)).asked).toArray 34) := by simpa using rF
  refine bodyPost_ret_by (results_ct (fn := Tryz.f10) (p := 4) (u := 5) (ty := 34) (by kernel_rfl) _ _ gA 34 (subC (R.reg (k : Int)).asked).toArray (0, 0) _ rfl rG Tryz.underlying34 rfl (by rw [List.size_toArray]; exact ZN)) rfl ?_
  exact ⟨rfl, bF.below B6.out (by omega)⟩
theorem of_any {w : World} {x : Nat} {G : List Nat} {R : Rs} (h : RY w x G R) {a : Rac} (ha : a.Ok) :
    Calls Tryz.prog 10 #[pt x 0, .agg (racC a).toArray] w fun e w' => e = .returned (.tuple #[.agg (subC (ofS R a)).toArray, st (ofV R a)]) ∧ Below w.heap.size w w' := by
  cases hh : hasB R.n a.client with
  | false => exact of_none h ha hh
  | true =>
    by_cases e0 : a.kind = 0 ∨ a.kind = 4
    · exact of_k0 h ha hh e0
    by_cases e1 : a.kind = 1 ∨ a.kind = 2 ∨ a.kind = 3
    · exact of_k1 h ha hh e1
    by_cases e5 : a.kind = 5 ∨ a.kind = 6 ∨ a.kind = 7
    · exact of_k5 h ha hh e5
    exact of_else h ha hh (fun j h1 h2 => by omega)
end Go.Proofs.YtoneoocihfjfgaaGreatDoor.Ms
