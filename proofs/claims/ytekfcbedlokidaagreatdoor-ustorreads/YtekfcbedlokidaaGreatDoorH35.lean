/-
  The reference's readers of one field (R10.Str, R10.Int), for every text and place; what the reference refuses an operation for (bad).
-/
import Derived.Test.YtekfcbedlokidaaGreatDoorH33
import Derived.Test.YtekfcbedlokidaaGreatDoorZla
import Derived.Test.YtekfcbedlokidaaGreatDoorH34
import Derived.Test.YtekfcbedlokidaaGreatDoorH29
import Derived.Test.YtekfcbedlokidaaGreatDoorH32
namespace Go.Proofs.YtekfcbedlokidaaGreatDoor.Ms
open Go Go.RowKit
set_option maxRecDepth 100000
theorem results_tcY {P : Program} {fn : Func} {p u : Tmp} {ty : TypeId} (h : fn.results = #[.tmp u, .cell p ty]) (tmps : Array Value) (w : World) (g : Nat) (t : TypeId) (cs : Array Value) (fr : Nat × Nat) (d : TypeDesc)
    (hp : tmps.getD p undef = .pointer (some ⟨g, 0, none⟩)) (hg : w.heap[g]? = some (.cells cs t fr))
    (hu : P.underlying ty = some d) (hd : (match d with | .struct _ | .array _ _ => true | _ => false) = true) (hi : (P.info? ty).map (·.size) = some cs.size) :
    (results fn tmps).run P w = .ok (.tuple #[tmps.getD u undef, .agg cs]) w := by
  have hp' : tmps[p]?.getD undef = .pointer (some ⟨g, 0, none⟩) := by simpa using hp
  simp [results, h, hp', asAddr, run_loadVar_row w g t ty cs fr d hg hu hd hi]
def atC (a : Nat × Nat) : List Value := [nu a.1, nu a.2]
theorem sizeAt : (Tryz.prog.info? 113).map (·.size) = some 2 := by kernel_rfl
theorem one_at (a : Nat × Nat) : ∀ v ∈ atC a, v.oneCell' = true := by
  intro v hv
  simp only [atC, List.mem_cons, List.not_mem_nil, or_false] at hv
  rcases hv with rfl | rfl <;> rfl
theorem zeroAt : (Tryz.prog.info? 113).map (·.zero) = some (some (.agg (atC (0, 0)).toArray)) := by kernel_rfl
theorem build_at (W : World) (x y : Nat) : (Instr.build 113 #[(0, nu (x : Int)), (1, nu (y : Int))]).run Tryz.prog W = .ok (.agg (atC (x, y)).toArray) W := by kernel_rfl
theorem two_rows (w : World) (A B : Obj) : ((w.alloc A).alloc B).heap[w.heap.size]? = some A ∧ ((w.alloc A).alloc B).heap[w.heap.size + 1]? = some B ∧ Below w.heap.size w ((w.alloc A).alloc B) := by
  refine ⟨row_kept (top_obj w A) (below_a1 _ B), ?_, below_two (below_a1 w A) (below_a1 _ B)⟩
  have := top_obj (w.alloc A) B
  simpa using this
set_option maxHeartbeats 4000000 in
theorem rstr_any (s : List UInt8) (a : Nat × Nat) (ha : a.2 = 0 → a.1 ≤ s.length) (hs : s.length ≤ 281474976710656) (w : World) :
    Calls Tryz.prog 43 #[st s, .agg (atC a).toArray] w fun e w' => e = .returned (.tuple #[st (strA s a).1, .agg (atC (strA s a).2).toArray]) ∧ Below w.heap.size w w' := by
  obtain ⟨q, e⟩ := a
  obtain ⟨t1, t2, b0⟩ := two_rows w (.cells (atC (q, e)).toArray 113) (.cells (atC (0, 0)).toArray 113)
  have ZZ := zeroAt
  have e1 : (w.alloc (.cells (atC (q, e)).toArray 113)).heap.size = w.heap.size + 1 := by simp
  have S0 := hid (row_zeroY t1)
  have T2 := hid t2
  have T1 := hid t1
  have B0 := hid b0
  have c1 : ((w.alloc (.cells (atC (q, e)).toArray 113)).alloc (.cells (atC (0, 0)).toArray 113)).cell? ⟨w.heap.size, 1, none⟩ = some (nu (e : Int)) := by rw [cell_of_row _ _ _ _ _ _ t1]; rfl
  have c0 : ((w.alloc (.cells (atC (q, e)).toArray 113)).alloc (.cells (atC (0, 0)).toArray 113)).cell? ⟨w.heap.size, 0, none⟩ = some (nu (q : Int)) := by rw [cell_of_row _ _ _ _ _ _ t1]; rfl
  have ZS : ∀ x : Nat × Nat, (Tryz.prog.info? 113).map (·.size) = some (atC x).length := fun _ => sizeAt
  by_cases he : e = 0
  · subst he
    have hq := ha rfl
    have HC := hid (fun W => Lay.refTextAt_any ⟨s.toArray⟩ q hq hs W (s.drop q) rfl)
    rw [strA_go]
    have OA := hid (one_at (Lay.txtTo q (s.drop q), (Lay.readTxt (s.drop q)).1))
    have HBd := hid (fun W => build_at W (Lay.txtTo q (s.drop q)) (Lay.readTxt (s.drop q)).1)
    have ZA := hid (ZS (Lay.txtTo q (s.drop q), (Lay.readTxt (s.drop q)).1))
    rw [show toP (Lay.readTxt (s.drop q)).1 q (Lay.readTxt (s.drop q)).2.2 = Lay.txtTo q (s.drop q) from rfl]
    have HC : Hid (∀ W, Calls Tryz.prog 85 #[st s, nu (q : Int)] W fun e w' => e = .returned (.tuple #[st (Lay.readTxt (s.drop q)).2.1, nu (Lay.txtTo q (s.drop q) : Nat), nu ((Lay.readTxt (s.drop q)).1 : Nat)]) ∧ w' = W) := HC.out
    generalize Lay.txtTo q (s.drop q) = nx at *
    generalize (Lay.readTxt (s.drop q)).1 = er at *
    generalize (Lay.readTxt (s.drop q)).2.1 = vl at *
    have LZ : (atC (0, 0)).length = (atC (nx, er)).length := rfl
    clear ha hq t1 t2 b0 S0 ZS
    generalize atC (q, 0) = V at *
    generalize atC (0, 0) = Z at *
    go_enter Tryz.func43, Tryz.ntmps43
    go_upto_region 1 with ((with_reducible refine wl_alloc 113 ?_ ?_ Z.toArray ZZ ?_); exact rfl; exact rfl)
    try simp only [Act.put, List.setIfInBounds_toArray, List.set_cons_zero, List.set_cons_succ, e1]
    generalize (w.alloc (.cells V.toArray 113)).alloc (.cells Z.toArray 113) = W0 at *
    have hXw : w.heap.size ≤ w.heap.size + 1 := Nat.le_succ _
    generalize w.heap.size + 1 = X at *
    go_wp2_with fail
    refine (HC.out _).mono ?_
    rintro e w1 ⟨rfl, hw1⟩
    subst w1
    go_wp2_with (first
      | ((with_reducible refine wl_buildY 113 [(0, .tmp 22), (1, .tmp 23)] ?_ ?_ (atC (nx, er)).toArray ?_ ?_); exact rfl; exact rfl; exact (HBd.out _))
      | ((with_reducible refine wl_put 113 (.tmp 5) (.tmp 24) ?_ ?_ X 0 ?_ ?_ [] (atC (nx, er)) Z [] ?_ 113 (row_nilY T2.out) rfl LZ OA.out ZA.out ?_); exact rfl; exact rfl; exact rfl; exact rfl; exact rfl; intro W8 hr8 hb8))
    have hr7 : W8.heap[X]? = some (.cells (atC (nx, er)).toArray 113) := by simpa using hr8
    refine bodyPost_ret_by (results_tcY (fn := Tryz.f43) (p := 5) (u := 4) (ty := 113) (by kernel_rfl) _ _ X 113 (atC (nx, er)).toArray (0, 0) _ rfl hr7 Tryz.underlying113 rfl (by rw [List.size_toArray]; exact ZA.out)) rfl ?_
    exact ⟨rfl, hb8.below B0.out hXw⟩
  · rw [strA_bad (a := (q, e)) he]
    have de : ((e : Int) != 0) = true := by simp; omega
    have de' : (e != 0) = true := by simp; omega
    have ZV := ZS (q, e)
    have OV := hid (one_at (q, e))
    have LV : (atC (0, 0)).length = (atC (q, e)).length := rfl
    clear ha t1 t2 b0 ZS he c0
    generalize atC (q, e) = V at *
    generalize atC (0, 0) = Z at *
    go_enter Tryz.func43, Tryz.ntmps43
    go_upto_region 1 with ((with_reducible refine wl_alloc 113 ?_ ?_ Z.toArray ZZ ?_); exact rfl; exact rfl)
    try simp only [Act.put, List.setIfInBounds_toArray, List.set_cons_zero, List.set_cons_succ, e1]
    generalize (w.alloc (.cells V.toArray 113)).alloc (.cells Z.toArray 113) = W0 at *
    have hXw : w.heap.size ≤ w.heap.size + 1 := Nat.le_succ _
    have hYX : w.heap.size ≠ w.heap.size + 1 := by omega
    generalize w.heap.size + 1 = X at *
    obtain ⟨Y, hY⟩ : ∃ Y, Y = w.heap.size := ⟨_, rfl⟩
    rw [← hY] at T1 S0 hYX
    try rw [← hY]
    go_upto_region 2 with fail
    refine wp_region_cs (N := 25) [(.agg V.toArray), st [], undef] (fun L W => Below w.heap.size w W ∧ W.heap[X]? = some (.cells (bif L 2 then V else Z).toArray 113) ∧ W.heap[Y]? = some (.cells V.toArray 113)) [(12, (.agg V.toArray)), (4, st [])] (by kernel_rfl) (by kernel_rfl) rfl (fun w1 hb => ⟨B0.out.trans (hb.mono B0.out.size), row_kept T2.out hb, row_kept T1.out hb⟩) (by kernel_rfl) ?_ ?_
    · intro i o ho
      match i, ho with
      | 0, ho => cases ho; exact fun L a w hLi hw hnot hJ hk hv K h => op_load _ (.tmp 3) rfl Y 0 (hk 3 (by kernel_rfl)) V _ (row_zeroY hJ.2.2) Tryz.underlying113 rfl ZV (h _ hJ)
      | 1, ho => cases ho; exact fun L a w hLi hw hnot hJ hk hv K h => op_assignC _ rfl (h _ hJ)
      | 2, ho => cases ho; exact fun L a w1 hLi hw hnot hJ hk hv K h => op_put _ 5 12 rfl rfl X 0 (hk 5 (by kernel_rfl)) [] V Z [] (hv 0 12 (by kernel_rfl) (by kernel_rfl)) _ (row_nilY (by have e := hJ.2.1; simp only [hLi, cond_false] at e; exact e)) rfl LV OV.out ZV (fun w2 hr hb => h _ ⟨hb.below hJ.1 hXw, (by show w2.heap[X]? = some (.cells (bif up L 2 2 then V else Z).toArray _); rw [up_self]; simpa using hr), hb.row hJ.2.2 hYX⟩)
      | (i + 3), ho => exact absurd ho (by simp)
    intro LL W8 hall hJ
    simp only [List.foldl_cons, List.foldl_nil, List.setIfInBounds_toArray, List.set_cons_zero, List.set_cons_succ]
    have hr7 := hJ.2.1
    rw [hall 2 (by decide), cond_true] at hr7
    have B8 := hid hJ.1
    clear hJ hall T1 T2 S0 B0 c1
    go_wp2
    refine bodyPost_ret_by (results_tcY (fn := Tryz.f43) (p := 5) (u := 4) (ty := 113) (by kernel_rfl) _ _ X 113 V.toArray (0, 0) _ rfl hr7 Tryz.underlying113 rfl (by rw [List.size_toArray]; exact ZV)) rfl ?_
    exact ⟨rfl, B8.out⟩
set_option maxHeartbeats 4000000 in
theorem rint_any (s : List UInt8) (a : Nat × Nat) (ha : a.2 = 0 → a.1 ≤ s.length) (hs : s.length ≤ 281474976710656) (w : World) :
    Calls Tryz.prog 44 #[st s, .agg (atC a).toArray] w fun e w' => e = .returned (.tuple #[nu (intA s a).1, .agg (atC (intA s a).2).toArray]) ∧ Below w.heap.size w w' := by
  obtain ⟨q, e⟩ := a
  obtain ⟨t1, t2, b0⟩ := two_rows w (.cells (atC (q, e)).toArray 113) (.cells (atC (0, 0)).toArray 113)
  have ZZ := zeroAt
  have e1 : (w.alloc (.cells (atC (q, e)).toArray 113)).heap.size = w.heap.size + 1 := by simp
  have S0 := hid (row_zeroY t1)
  have T2 := hid t2
  have T1 := hid t1
  have B0 := hid b0
  have c1 : ((w.alloc (.cells (atC (q, e)).toArray 113)).alloc (.cells (atC (0, 0)).toArray 113)).cell? ⟨w.heap.size, 1, none⟩ = some (nu (e : Int)) := by rw [cell_of_row _ _ _ _ _ _ t1]; rfl
  have c0 : ((w.alloc (.cells (atC (q, e)).toArray 113)).alloc (.cells (atC (0, 0)).toArray 113)).cell? ⟨w.heap.size, 0, none⟩ = some (nu (q : Int)) := by rw [cell_of_row _ _ _ _ _ _ t1]; rfl
  have ZS : ∀ x : Nat × Nat, (Tryz.prog.info? 113).map (·.size) = some (atC x).length := fun _ => sizeAt
  by_cases he : e = 0
  · subst he
    have hq := ha rfl
    have HC := hid (fun W => Lay.refReadAt_any ⟨s.toArray⟩ q hq (by show s.length ≤ 9223372036854775807; omega) W (s.drop q) rfl)
    rw [intA_go]
    have OA := hid (one_at (Lay.numTo q (s.drop q), (Lay.readNum (s.drop q)).1))
    have HBd := hid (fun W => build_at W (Lay.numTo q (s.drop q)) (Lay.readNum (s.drop q)).1)
    have ZA := hid (ZS (Lay.numTo q (s.drop q), (Lay.readNum (s.drop q)).1))
    rw [show toP (Lay.readNum (s.drop q)).1 q (Lay.readNum (s.drop q)).2.2 = Lay.numTo q (s.drop q) from rfl]
    have HC : Hid (∀ W, Calls Tryz.prog 86 #[st s, nu (q : Int)] W fun e w' => e = .returned (.tuple #[nu (Lay.readNum (s.drop q)).2.1, nu (Lay.numTo q (s.drop q) : Nat), nu ((Lay.readNum (s.drop q)).1 : Nat)]) ∧ w' = W) := HC.out
    generalize Lay.numTo q (s.drop q) = nx at *
    generalize (Lay.readNum (s.drop q)).1 = er at *
    generalize (Lay.readNum (s.drop q)).2.1 = vl at *
    have LZ : (atC (0, 0)).length = (atC (nx, er)).length := rfl
    clear ha hq t1 t2 b0 S0 ZS
    generalize atC (q, 0) = V at *
    generalize atC (0, 0) = Z at *
    go_enter Tryz.func44, Tryz.ntmps44
    go_upto_region 1 with ((with_reducible refine wl_alloc 113 ?_ ?_ Z.toArray ZZ ?_); exact rfl; exact rfl)
    try simp only [Act.put, List.setIfInBounds_toArray, List.set_cons_zero, List.set_cons_succ, e1]
    generalize (w.alloc (.cells V.toArray 113)).alloc (.cells Z.toArray 113) = W0 at *
    have hXw : w.heap.size ≤ w.heap.size + 1 := Nat.le_succ _
    generalize w.heap.size + 1 = X at *
    go_wp2_with fail
    refine (HC.out _).mono ?_
    rintro e w1 ⟨rfl, hw1⟩
    subst w1
    go_wp2_with (first
      | ((with_reducible refine wl_buildY 113 [(0, .tmp 22), (1, .tmp 23)] ?_ ?_ (atC (nx, er)).toArray ?_ ?_); exact rfl; exact rfl; exact (HBd.out _))
      | ((with_reducible refine wl_put 113 (.tmp 5) (.tmp 24) ?_ ?_ X 0 ?_ ?_ [] (atC (nx, er)) Z [] ?_ 113 (row_nilY T2.out) rfl LZ OA.out ZA.out ?_); exact rfl; exact rfl; exact rfl; exact rfl; exact rfl; intro W8 hr8 hb8))
    have hr7 : W8.heap[X]? = some (.cells (atC (nx, er)).toArray 113) := by simpa using hr8
    refine bodyPost_ret_by (results_tcY (fn := Tryz.f44) (p := 5) (u := 4) (ty := 113) (by kernel_rfl) _ _ X 113 (atC (nx, er)).toArray (0, 0) _ rfl hr7 Tryz.underlying113 rfl (by rw [List.size_toArray]; exact ZA.out)) rfl ?_
    exact ⟨rfl, hb8.below B0.out hXw⟩
  · rw [intA_bad (a := (q, e)) he]
    have de : ((e : Int) != 0) = true := by simp; omega
    have de' : (e != 0) = true := by simp; omega
    have ZV := ZS (q, e)
    have OV := hid (one_at (q, e))
    have LV : (atC (0, 0)).length = (atC (q, e)).length := rfl
    clear ha t1 t2 b0 ZS he c0
    generalize atC (q, e) = V at *
    generalize atC (0, 0) = Z at *
    go_enter Tryz.func44, Tryz.ntmps44
    go_upto_region 1 with ((with_reducible refine wl_alloc 113 ?_ ?_ Z.toArray ZZ ?_); exact rfl; exact rfl)
    try simp only [Act.put, List.setIfInBounds_toArray, List.set_cons_zero, List.set_cons_succ, e1]
    generalize (w.alloc (.cells V.toArray 113)).alloc (.cells Z.toArray 113) = W0 at *
    have hXw : w.heap.size ≤ w.heap.size + 1 := Nat.le_succ _
    have hYX : w.heap.size ≠ w.heap.size + 1 := by omega
    generalize w.heap.size + 1 = X at *
    obtain ⟨Y, hY⟩ : ∃ Y, Y = w.heap.size := ⟨_, rfl⟩
    rw [← hY] at T1 S0 hYX
    try rw [← hY]
    go_upto_region 2 with fail
    refine wp_region_cs (N := 25) [(.agg V.toArray), nu 0, undef] (fun L W => Below w.heap.size w W ∧ W.heap[X]? = some (.cells (bif L 2 then V else Z).toArray 113) ∧ W.heap[Y]? = some (.cells V.toArray 113)) [(12, (.agg V.toArray)), (4, nu 0)] (by kernel_rfl) (by kernel_rfl) rfl (fun w1 hb => ⟨B0.out.trans (hb.mono B0.out.size), row_kept T2.out hb, row_kept T1.out hb⟩) (by kernel_rfl) ?_ ?_
    · intro i o ho
      match i, ho with
      | 0, ho => cases ho; exact fun L a w hLi hw hnot hJ hk hv K h => op_load _ (.tmp 3) rfl Y 0 (hk 3 (by kernel_rfl)) V _ (row_zeroY hJ.2.2) Tryz.underlying113 rfl ZV (h _ hJ)
      | 1, ho => cases ho; exact fun L a w hLi hw hnot hJ hk hv K h => op_assignC _ rfl (h _ hJ)
      | 2, ho => cases ho; exact fun L a w1 hLi hw hnot hJ hk hv K h => op_put _ 5 12 rfl rfl X 0 (hk 5 (by kernel_rfl)) [] V Z [] (hv 0 12 (by kernel_rfl) (by kernel_rfl)) _ (row_nilY (by have e := hJ.2.1; simp only [hLi, cond_false] at e; exact e)) rfl LV OV.out ZV (fun w2 hr hb => h _ ⟨hb.below hJ.1 hXw, (by show w2.heap[X]? = some (.cells (bif up L 2 2 then V else Z).toArray _); rw [up_self]; simpa using hr), hb.row hJ.2.2 hYX⟩)
      | (i + 3), ho => exact absurd ho (by simp)
    intro LL W8 hall hJ
    simp only [List.foldl_cons, List.foldl_nil, List.setIfInBounds_toArray, List.set_cons_zero, List.set_cons_succ]
    have hr7 := hJ.2.1
    rw [hall 2 (by decide), cond_true] at hr7
    have B8 := hid hJ.1
    clear hJ hall T1 T2 S0 B0 c1
    go_wp2
    refine bodyPost_ret_by (results_tcY (fn := Tryz.f44) (p := 5) (u := 4) (ty := 113) (by kernel_rfl) _ _ X 113 V.toArray (0, 0) _ rfl hr7 Tryz.underlying113 rfl (by rw [List.size_toArray]; exact ZV)) rfl ?_
    exact ⟨rfl, B8.out⟩
open Go Go.RowKit
set_option maxRecDepth 100000
set_option maxHeartbeats 1000000 in
theorem ulay_any (s : List UInt8) (h : s.length ≤ 16384) (w : World) (ht : Tb w) : Calls Tryz.prog 50 #[st s] w fun e w' => e = .returned (st (layT s)) ∧ Below w.heap.size w w' := by
  have hsz : (⟨s.toArray⟩ : ByteArray).size = s.length := rfl
  have HT := hid (Lay.text_ok ⟨s.toArray⟩ (by rw [hsz]; exact h) w ht)
  have e1 : Lay.textB (⟨s.toArray⟩ : ByteArray).data.toList = layT s := by rw [layT_small s h, ← textB_txtB]
  rw [e1] at HT
  generalize layT s = r at *
  clear e1 ht h
  go_enter Tryz.func50, Tryz.ntmps50
  go_wp2_with fail
  refine HT.out.mono ?_
  rintro e w1 ⟨rfl, hb⟩
  have HB := hid hb
  clear hb
  go_wp2
  go_ret
  exact ⟨rfl, HB.out⟩
theorem byte_atZ (y : List UInt8) (j : Nat) (h : j < (⟨y.toArray⟩ : ByteArray).size) : ((⟨y.toArray⟩ : ByteArray)[j]'h).toNat = (y.getD j 0).toNat := by
  have hj : j < y.length := h
  simp [ByteArray.getElem_eq_getElem_data, List.getD, hj]
section
variable {w : World} {p n G : Nat} {s : List UInt8} {U : Ureg}
set_option maxHeartbeats 4000000 in
theorem urefuses_any (u : UAt w G p U) (r : RgAt w p s n) (k t : Int) (v : List UInt8) :
    Calls Tryz.prog 78 #[pt G 0, nu k, nu t, st v] w fun e w' => e = .returned (nu (refE n U.me U.view k t v.length)) ∧ w' = w := by
  have HH := hid (uhas_any r t)
  have c0 := u.c0
  have c1 := u.c1
  have c2 := u.c2
  have hz : (⟨v.toArray⟩ : ByteArray).size = v.length := rfl
  have hz2 : (⟨U.view.toArray⟩ : ByteArray).size = U.view.length := rfl
  obtain ⟨E, hE⟩ : ∃ E, E = refE n U.me U.view k t v.length := ⟨_, rfl⟩
  rw [← hE]
  unfold refE at hE
  clear u r
  generalize U.view = vw at *
  generalize U.me = me at *
  generalize hasB n t = B at *
  by_cases hk : k = 1 ∨ k = 2
  · have hk2 : (k == 1 || k == 2) = true := by rcases hk with rfl | rfl <;> rfl
    rw [hk2, Bool.true_and] at hE
    cases B
    · rw [Bool.false_and, if_pos rfl] at hE
      have HE2 := hid hE
      clear hE hk2
      rcases hk with rfl | rfl
      all_goals (
        go_enter Tryz.func78, Tryz.ntmps78
        go_wp2_with fail
        refine HH.out.mono ?_
        rintro e w1 ⟨rfl, hw1⟩
        subst w1
        go_wp2
        go_ret
        exact ⟨by (first | (rw [HE2.out]; rfl) | rw [HE2.out]), rfl⟩
      )
    · rw [Bool.true_and] at hE
      by_cases hl : 256 < v.length
      · have d1 : decide ((256 : Int) < (v.length : Int)) = true := decide_eq_true (by omega)
        have d3 : decide (256 < v.length) = true := decide_eq_true hl
        rw [decide_eq_false (by omega), if_pos rfl] at hE
        have HE2 := hid hE
        clear hE hk2 hl
        rcases hk with rfl | rfl
        all_goals (
          go_enter Tryz.func78, Tryz.ntmps78
          go_wp2_with fail
          refine HH.out.mono ?_
          rintro e w1 ⟨rfl, hw1⟩
          subst w1
          go_wp2
          go_ret
          exact ⟨by (first | (rw [HE2.out]; rfl) | rw [HE2.out]), rfl⟩
        )
      · have d1 : decide ((256 : Int) < (v.length : Int)) = false := decide_eq_false (by omega)
        have d3 : decide (256 < v.length) = false := decide_eq_false hl
        rw [decide_eq_true (by omega), if_neg (by decide)] at hE
        clear hk2 hl
        by_cases hw : 512 ≤ vw.length
        · have d2 : decide ((512 : Int) ≤ (vw.length : Int)) = true := decide_eq_true (by omega)
          have d4 : decide (512 ≤ vw.length) = true := decide_eq_true hw
          rw [if_pos hw] at hE
          clear hw
          by_cases ht : t = me
          · have t1 : (t != me) = false := by simpa using ht
            rw [if_neg (by rintro ⟨-, h⟩; exact h ht)] at hE
            have HE2 := hid hE
            clear hE ht
            rcases hk with rfl | rfl
            all_goals (
              go_enter Tryz.func78, Tryz.ntmps78
              go_wp2_with fail
              refine HH.out.mono ?_
              rintro e w1 ⟨rfl, hw1⟩
              subst w1
              go_wp2
              go_ret
              exact ⟨by (first | (rw [HE2.out]; rfl) | rw [HE2.out]), rfl⟩
            )
          · have t1 : (t != me) = true := by simpa using ht
            rcases hk with rfl | rfl
            · rw [if_pos ⟨rfl, ht⟩] at hE
              have HE2 := hid hE
              clear hE ht
              go_enter Tryz.func78, Tryz.ntmps78
              go_wp2_with fail
              refine HH.out.mono ?_
              rintro e w1 ⟨rfl, hw1⟩
              subst w1
              go_wp2
              go_ret
              exact ⟨by (first | (rw [HE2.out]; rfl) | rw [HE2.out]), rfl⟩
            · rw [if_neg (by rintro ⟨h, -⟩; cases h)] at hE
              have HE2 := hid hE
              clear hE ht
              go_enter Tryz.func78, Tryz.ntmps78
              go_wp2_with fail
              refine HH.out.mono ?_
              rintro e w1 ⟨rfl, hw1⟩
              subst w1
              go_wp2
              go_ret
              exact ⟨by (first | (rw [HE2.out]; rfl) | rw [HE2.out]), rfl⟩
        · have d2 : decide ((512 : Int) ≤ (vw.length : Int)) = false := decide_eq_false (by omega)
          have d4 : decide (512 ≤ vw.length) = false := decide_eq_false hw
          rw [if_neg hw] at hE
          clear hw
          by_cases ht : t = me
          · have t1 : (t != me) = false := by simpa using ht
            rw [if_neg (by rintro ⟨-, h⟩; exact h ht)] at hE
            have HE2 := hid hE
            clear hE ht
            rcases hk with rfl | rfl
            all_goals (
              go_enter Tryz.func78, Tryz.ntmps78
              go_wp2_with fail
              refine HH.out.mono ?_
              rintro e w1 ⟨rfl, hw1⟩
              subst w1
              go_wp2
              go_ret
              exact ⟨by (first | (rw [HE2.out]; rfl) | rw [HE2.out]), rfl⟩
            )
          · have t1 : (t != me) = true := by simpa using ht
            rcases hk with rfl | rfl
            · rw [if_pos ⟨rfl, ht⟩] at hE
              have HE2 := hid hE
              clear hE ht
              go_enter Tryz.func78, Tryz.ntmps78
              go_wp2_with fail
              refine HH.out.mono ?_
              rintro e w1 ⟨rfl, hw1⟩
              subst w1
              go_wp2
              go_ret
              exact ⟨by (first | (rw [HE2.out]; rfl) | rw [HE2.out]), rfl⟩
            · rw [if_neg (by rintro ⟨h, -⟩; cases h)] at hE
              have HE2 := hid hE
              clear hE ht
              go_enter Tryz.func78, Tryz.ntmps78
              go_wp2_with fail
              refine HH.out.mono ?_
              rintro e w1 ⟨rfl, hw1⟩
              subst w1
              go_wp2
              go_ret
              exact ⟨by (first | (rw [HE2.out]; rfl) | rw [HE2.out]), rfl⟩
  · have n1 : (k != 1) = true := by simp; intro h; exact hk (Or.inl h)
    have n2 : (k != 2) = true := by simp; intro h; exact hk (Or.inr h)
    have e1 : (k == 1) = false := by simp; intro h; exact hk (Or.inl h)
    have e2 : (k == 2) = false := by simp; intro h; exact hk (Or.inr h)
    rw [e1, e2, Bool.or_self, Bool.false_and, if_pos rfl] at hE
    have HE2 := hid hE
    clear hE hk
    go_enter Tryz.func78, Tryz.ntmps78
    go_wp2
    go_ret
    exact ⟨by (first | (rw [HE2.out]; rfl) | rw [HE2.out]), rfl⟩
set_option maxHeartbeats 4000000 in
theorem uright_any (u : UAt w G p U) (r : RgAt w p s n) (hv : U.view.length ≤ 140737488351232) :
    Calls Tryz.prog 40 #[pt G 0] w fun e w' => e = .returned (.bool (okVw n U.me U.view U.value)) ∧ Below w.heap.size w w' := by
  have H1 := regr (fun W hb => (rgclients (r.kept hb)).mono (fun _ _ h => ⟨h.1, by rw [h.2]; exact Below.refl _ _⟩))
  have H2 := regr (w := w) (fun W _ => Hist.right_any U.view (n : Int) W)
  have hc0 : ∀ dd os, (Sort.grow (redrawn w dd) os).cell? ⟨G, 0, none⟩ = some (pt p 0) := fun dd os => cell_regrown u.c0 _ _
  have hc2 : ∀ dd os, (Sort.grow (redrawn w dd) os).cell? ⟨G, 2, none⟩ = some (st U.view) := fun dd os => cell_regrown u.c2 _ _
  have hc3 : ∀ dd os, (Sort.grow (redrawn w dd) os).cell? ⟨G, 3, none⟩ = some (st U.value) := fun dd os => cell_regrown u.c3 _ _
  have C1 := hid u.c1
  have C2 := hid u.c2
  have hz : (⟨U.value.toArray⟩ : ByteArray).size = U.value.length := rfl
  obtain ⟨E, hE⟩ : ∃ E, E = okVw n U.me U.view U.value := ⟨_, rfl⟩
  rw [← hE]
  unfold okVw at hE
  clear u r
  generalize U.view = vw at *
  generalize U.value = vl at *
  generalize U.me = me at *
  generalize Hist.rightB vw (n : Int) = B at *
  cases B
  · rw [Bool.false_and] at hE
    have HE2 := hid hE
    clear hE
    go_enter Tryz.func40, Tryz.ntmps40
    go_upto_region 1 with fail
    refine wp_region_quiet_below (by kernel_rfl) (by kernel_rfl) ?_
    iterate 9 (first | go_big_quiet_step (exact H1.out _ _) | quiet_step (exact H1.out _ _))
    repeat (first | go_big_quiet_step (exact H2.out _ _) | quiet_step (exact H2.out _ _))
    refine wpQuiet_nil ?_
    intro _ hw'
    obtain ⟨⟨dq, osq⟩, hw''⟩ := hw'
    subst hw''
    have HB2 := hid (below_regrown w dq osq)
    clear hc0 hc2 hc3 H1 H2
    go_wp2
    go_ret
    exact ⟨by (first | (rw [HE2.out]; rfl) | rw [HE2.out]), HB2.out⟩
  · rw [Bool.true_and] at hE
    by_cases hl : 256 < vl.length
    · have d1 : decide ((256 : Int) < (vl.length : Int)) = true := decide_eq_true (by omega)
      have d3 : decide (256 < vl.length) = true := decide_eq_true hl
      rw [decide_eq_false (by omega), Bool.false_and] at hE
      have HE2 := hid hE
      clear hE hl
      go_enter Tryz.func40, Tryz.ntmps40
      go_upto_region 1 with fail
      refine wp_region_quiet_below (by kernel_rfl) (by kernel_rfl) ?_
      iterate 9 (first | go_big_quiet_step (exact H1.out _ _) | quiet_step (exact H1.out _ _))
      repeat (first | go_big_quiet_step (exact H2.out _ _) | quiet_step (exact H2.out _ _))
      refine wpQuiet_nil ?_
      intro _ hw'
      obtain ⟨⟨dq, osq⟩, hw''⟩ := hw'
      subst hw''
      have HB2 := hid (below_regrown w dq osq)
      clear hc0 hc2 hc3 H1 H2
      go_wp2
      go_ret
      exact ⟨by (first | (rw [HE2.out]; rfl) | rw [HE2.out]), HB2.out⟩
    · have d1 : decide ((256 : Int) < (vl.length : Int)) = false := decide_eq_false (by omega)
      have d3 : decide (256 < vl.length) = false := decide_eq_false hl
      rw [decide_eq_true (by omega), Bool.true_and] at hE
      clear hl
      cases he : vw.isEmpty
      · obtain ⟨m, hm⟩ : ∃ m, vw.length = m + 1 := by
          cases vw with
          | nil => cases he
          | cons a l => exact ⟨l.length, rfl⟩
        rw [he, Bool.false_or] at hE
        have hss : (⟨vw.toArray⟩ : ByteArray).size = m + 1 := hm
        have hq : ((⟨vw.toArray⟩ : ByteArray)[m]'(by rw [hss]; omega)).toNat = (vw.getD m 0).toNat := byte_atZ vw m _
        have HLI : Hid (lastI vw = (((vw.getD m 0).toNat : Nat) : Int)) := by show _ = _; unfold lastI; rw [hm]; rfl
        obtain ⟨bb, HBB⟩ : ∃ bb : Nat, Hid (bb = (vw.getD m 0).toNat) := ⟨_, rfl⟩
        have hbb : bb < 256 := by rw [HBB.out]; exact UInt8.toNat_lt _
        rw [← HBB.out] at hq HLI
        rw [HLI.out] at hE
        have hw6 : wrap64 (bb : Int) = (bb : Int) := by unfold wrap64; omega
        have HE2 := hid hE
        clear hE HLI HBB
        go_enter Tryz.func40, Tryz.ntmps40
        go_upto_region 1 with fail
        refine wp_region_quiet_below (by kernel_rfl) (by kernel_rfl) ?_
        iterate 9 (first | go_big_quiet_step (exact H1.out _ _) | quiet_step (exact H1.out _ _))
        repeat (first | go_big_quiet_step (exact H2.out _ _) | quiet_step (exact H2.out _ _))
        refine wpQuiet_nil ?_
        intro _ hw'
        obtain ⟨⟨dq, osq⟩, hw''⟩ := hw'
        subst hw''
        have HB2 := hid (below_regrown w dq osq)
        have c1 := cell_regrown C1.out dq osq
        have c2 := cell_regrown C2.out dq osq
        clear hc0 hc2 hc3 H1 H2
        generalize Sort.grow (redrawn w dq) osq = W1 at *
        have hc1 : ∀ dd os, (Sort.grow (redrawn W1 dd) os).cell? ⟨G, 1, none⟩ = some (nu me) := fun dd os => cell_regrown c1 _ _
        have hc2 : ∀ dd os, (Sort.grow (redrawn W1 dd) os).cell? ⟨G, 2, none⟩ = some (st vw) := fun dd os => cell_regrown c2 _ _
        go_upto_region 3 with fail
        refine wp_region_quiet_below (by kernel_rfl) (by kernel_rfl) ?_
        repeat (first | go_big_quiet_step (fail) | quiet_step (fail))
        refine wpQuiet_nil ?_
        intro _ hw'
        obtain ⟨⟨dq2, osq2⟩, hw''⟩ := hw'
        subst hw''
        have HB3 := hid (below_two HB2.out (below_regrown W1 dq2 osq2))
        clear c1 c2
        go_wp2
        go_ret
        exact ⟨by (first | (rw [HE2.out]; rfl) | rw [HE2.out]), HB3.out⟩
      · have hn : vw = [] := by cases vw with | nil => rfl | cons a l => cases he
        subst hn
        have HE2 := hid hE
        clear hE
        go_enter Tryz.func40, Tryz.ntmps40
        go_upto_region 1 with fail
        refine wp_region_quiet_below (by kernel_rfl) (by kernel_rfl) ?_
        iterate 9 (first | go_big_quiet_step (exact H1.out _ _) | quiet_step (exact H1.out _ _))
        repeat (first | go_big_quiet_step (exact H2.out _ _) | quiet_step (exact H2.out _ _))
        refine wpQuiet_nil ?_
        intro _ hw'
        obtain ⟨⟨dq, osq⟩, hw''⟩ := hw'
        subst hw''
        have HB2 := hid (below_regrown w dq osq)
        have c1 := cell_regrown C1.out dq osq
        have c2 := cell_regrown C2.out dq osq
        clear hc0 hc2 hc3 H1 H2
        generalize Sort.grow (redrawn w dq) osq = W1 at *
        have hc1 : ∀ dd os, (Sort.grow (redrawn W1 dd) os).cell? ⟨G, 1, none⟩ = some (nu me) := fun dd os => cell_regrown c1 _ _
        have hc2 : ∀ dd os, (Sort.grow (redrawn W1 dd) os).cell? ⟨G, 2, none⟩ = some (st []) := fun dd os => cell_regrown c2 _ _
        go_upto_region 3 with fail
        refine wp_region_quiet_below (by kernel_rfl) (by kernel_rfl) ?_
        repeat (first | go_big_quiet_step (fail) | quiet_step (fail))
        refine wpQuiet_nil ?_
        intro _ hw'
        obtain ⟨⟨dq2, osq2⟩, hw''⟩ := hw'
        subst hw''
        have HB3 := hid (below_two HB2.out (below_regrown W1 dq2 osq2))
        clear c1 c2
        go_wp2
        go_ret
        exact ⟨by (first | (rw [HE2.out]; rfl) | rw [HE2.out]), HB3.out⟩
end
open Go Go.RowKit
set_option maxRecDepth 100000
structure RuAt (w : World) (G x : Nat) (U : Ureg) : Prop where
  row : w.heap[G]? = some (.cells (uregC x U).toArray 56)
  wf : U.asked.Wf
section
variable {w w' : World} {G x n : Nat} {U : Ureg} {s : List UInt8} {vL : Value} {L : List Ent}
theorem RuAt.kept (h : RuAt w G x U) (hb : Below w.heap.size w w') : RuAt w' G x U := ⟨row_kept h.row hb, h.wf⟩
theorem RuAt.c0 (h : RuAt w G x U) : w.cell? ⟨G, 0, none⟩ = some (pt x 0) := row_cell (A := []) (C := [nu U.me] ++ ([st U.view] ++ ([st U.value] ++ subC U.asked))) h.row rfl rfl
theorem RuAt.c1 (h : RuAt w G x U) : w.cell? ⟨G, 1, none⟩ = some (nu U.me) := row_cell (A := [pt x 0]) (C := [st U.view] ++ ([st U.value] ++ subC U.asked)) h.row rfl rfl
theorem RuAt.c2 (h : RuAt w G x U) : w.cell? ⟨G, 2, none⟩ = some (st U.view) := row_cell (A := [pt x 0] ++ [nu U.me]) (C := [st U.value] ++ subC U.asked) h.row rfl rfl
theorem RuAt.c3 (h : RuAt w G x U) : w.cell? ⟨G, 3, none⟩ = some (st U.value) := row_cell (A := [pt x 0] ++ ([nu U.me] ++ [st U.view])) (C := subC U.asked) h.row rfl rfl
theorem RuAt.c4 (h : RuAt w G x U) : ∀ j v, (subC U.asked)[j]? = some v → w.cell? ⟨G, 4 + j, none⟩ = some v := row_seg (A := [pt x 0] ++ ([nu U.me] ++ ([st U.view] ++ [st U.value]))) (cs := subC U.asked) (C := []) h.row (by simp [uregC]) rfl
set_option maxHeartbeats 4000000 in
theorem rbad_any (u : RuAt w G x U) (r : RefAt w x s n vL L) (hn8 : n ≤ 8) (k t : Int) (v : List UInt8) :
    Calls Tryz.prog 47 #[pt G 0, nu k, nu t, st v] w fun e w' => e = .returned (nu (refE n U.me U.view k t v.length)) ∧ w' = w := by
  have c0 := u.c0
  have c1 := u.c1
  have c2 := u.c2
  have x1 := r.c1
  have hz : (⟨v.toArray⟩ : ByteArray).size = v.length := rfl
  have hz2 : (⟨U.view.toArray⟩ : ByteArray).size = U.view.length := rfl
  have hw : wrap64 ((n : Int) - 1) = (n : Int) - 1 := by unfold wrap64; omega
  obtain ⟨E, hE⟩ : ∃ E, E = refE n U.me U.view k t v.length := ⟨_, rfl⟩
  rw [← hE]
  unfold refE hasB at hE
  clear u r
  generalize U.view = vw at *
  generalize U.me = me at *
  by_cases hk : k = 1 ∨ k = 2
  · have hk2 : (k == 1 || k == 2) = true := by rcases hk with rfl | rfl <;> rfl
    rw [hk2, Bool.true_and] at hE
    by_cases ht0 : t < 0
    · have t0 : decide (t < 0) = true := decide_eq_true ht0
      rw [decide_eq_false (by omega : ¬ (0 ≤ t)), Bool.false_and, Bool.false_and, if_pos rfl] at hE
      have HE2 := hid hE
      clear hE hk2 ht0
      rcases hk with rfl | rfl
      all_goals (
        go_enter Tryz.func47, Tryz.ntmps47
        go_wp2
        go_ret
        exact ⟨by (first | (rw [HE2.out]; rfl) | rw [HE2.out]), rfl⟩
      )
    · have t0 : decide (t < 0) = false := decide_eq_false ht0
      rw [decide_eq_true (by omega : 0 ≤ t), Bool.true_and] at hE
      by_cases htn : (n : Int) - 1 < t
      · have t1 : decide ((n : Int) - 1 < t) = true := decide_eq_true htn
        have t2 : decide (wrap64 ((n : Int) - 1) < t) = true := by rw [hw]; exact t1
        rw [decide_eq_false (by omega : ¬ (t < (n : Int))), Bool.false_and, if_pos rfl] at hE
        have HE2 := hid hE
        clear hE hk2 ht0 htn
        rcases hk with rfl | rfl
        all_goals (
          go_enter Tryz.func47, Tryz.ntmps47
          go_wp2
          go_ret
          exact ⟨by (first | (rw [HE2.out]; rfl) | rw [HE2.out]), rfl⟩
        )
      · have t1 : decide ((n : Int) - 1 < t) = false := decide_eq_false htn
        have t2 : decide (wrap64 ((n : Int) - 1) < t) = false := by rw [hw]; exact t1
        rw [decide_eq_true (by omega : t < (n : Int)), Bool.true_and] at hE
        clear htn ht0
        by_cases hl : 256 < v.length
        · have d1 : decide ((256 : Int) < (v.length : Int)) = true := decide_eq_true (by omega)
          have d3 : decide (256 < v.length) = true := decide_eq_true hl
          rw [decide_eq_false (by omega), if_pos rfl] at hE
          have HE2 := hid hE
          clear hE hk2 hl
          rcases hk with rfl | rfl
          all_goals (
            go_enter Tryz.func47, Tryz.ntmps47
            go_wp2
            go_ret
            exact ⟨by (first | (rw [HE2.out]; rfl) | rw [HE2.out]), rfl⟩
          )
        · have d1 : decide ((256 : Int) < (v.length : Int)) = false := decide_eq_false (by omega)
          have d3 : decide (256 < v.length) = false := decide_eq_false hl
          rw [decide_eq_true (by omega), if_neg (by decide)] at hE
          clear hk2 hl
          by_cases hw5 : 512 ≤ vw.length
          · have d2 : decide ((511 : Int) < (vw.length : Int)) = true := decide_eq_true (by omega)
            have d4 : decide (511 < vw.length) = true := decide_eq_true (by omega)
            rw [if_pos hw5] at hE
            clear hw5
            by_cases ht : t = me
            · have t3 : (t != me) = false := by simpa using ht
              rw [if_neg (by rintro ⟨-, h⟩; exact h ht)] at hE
              have HE2 := hid hE
              clear hE ht
              rcases hk with rfl | rfl
              all_goals (
                go_enter Tryz.func47, Tryz.ntmps47
                go_wp2
                go_ret
                exact ⟨by (first | (rw [HE2.out]; rfl) | rw [HE2.out]), rfl⟩
              )
            · have t3 : (t != me) = true := by simpa using ht
              rcases hk with rfl | rfl
              · rw [if_pos ⟨rfl, ht⟩] at hE
                have HE2 := hid hE
                clear hE ht
                go_enter Tryz.func47, Tryz.ntmps47
                go_wp2
                go_ret
                exact ⟨by (first | (rw [HE2.out]; rfl) | rw [HE2.out]), rfl⟩
              · rw [if_neg (by rintro ⟨h, -⟩; cases h)] at hE
                have HE2 := hid hE
                clear hE ht
                go_enter Tryz.func47, Tryz.ntmps47
                go_wp2
                go_ret
                exact ⟨by (first | (rw [HE2.out]; rfl) | rw [HE2.out]), rfl⟩
          · have d2 : decide ((511 : Int) < (vw.length : Int)) = false := decide_eq_false (by omega)
            have d4 : decide (511 < vw.length) = false := decide_eq_false (by omega)
            rw [if_neg hw5] at hE
            clear hw5
            by_cases ht : t = me
            · have t3 : (t != me) = false := by simpa using ht
              rw [if_neg (by rintro ⟨-, h⟩; exact h ht)] at hE
              have HE2 := hid hE
              clear hE ht
              rcases hk with rfl | rfl
              all_goals (
                go_enter Tryz.func47, Tryz.ntmps47
                go_wp2
                go_ret
                exact ⟨by (first | (rw [HE2.out]; rfl) | rw [HE2.out]), rfl⟩
              )
            · have t3 : (t != me) = true := by simpa using ht
              rcases hk with rfl | rfl
              · rw [if_pos ⟨rfl, ht⟩] at hE
                have HE2 := hid hE
                clear hE ht
                go_enter Tryz.func47, Tryz.ntmps47
                go_wp2
                go_ret
                exact ⟨by (first | (rw [HE2.out]; rfl) | rw [HE2.out]), rfl⟩
              · rw [if_neg (by rintro ⟨h, -⟩; cases h)] at hE
                have HE2 := hid hE
                clear hE ht
                go_enter Tryz.func47, Tryz.ntmps47
                go_wp2
                go_ret
                exact ⟨by (first | (rw [HE2.out]; rfl) | rw [HE2.out]), rfl⟩
  · have e1 : (k == 1) = false := by simp; intro h; exact hk (Or.inl h)
    have e2 : (k == 2) = false := by simp; intro h; exact hk (Or.inr h)
    rw [e1, e2, Bool.or_self, Bool.false_and, if_pos rfl] at hE
    have HE2 := hid hE
    clear hE e1 e2
    by_cases hk1 : k < 1
    · have n1 : decide (k < 1) = true := decide_eq_true hk1
      clear hk hk1
      go_enter Tryz.func47, Tryz.ntmps47
      go_wp2
      go_ret
      exact ⟨by (first | (rw [HE2.out]; rfl) | rw [HE2.out]), rfl⟩
    · have n1 : decide (k < 1) = false := decide_eq_false hk1
      have n2 : decide (2 < k) = true := decide_eq_true (by omega)
      clear hk hk1
      go_enter Tryz.func47, Tryz.ntmps47
      go_wp2
      go_ret
      exact ⟨by (first | (rw [HE2.out]; rfl) | rw [HE2.out]), rfl⟩
end
end Go.Proofs.YtekfcbedlokidaaGreatDoor.Ms
