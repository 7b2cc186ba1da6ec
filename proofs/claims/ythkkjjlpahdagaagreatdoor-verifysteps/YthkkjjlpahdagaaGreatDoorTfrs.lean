/-
  The reference's registers: what is submitted and refused, or was asked before (R12.Submit).
-/
import Derived.Test.YthkkjjlpahdagaaGreatDoorU03
import Derived.Test.YthkkjjlpahdagaaGreatDoorTfri
import Derived.Test.YthkkjjlpahdagaaGreatDoorU02
set_option maxHeartbeats 8000000
namespace Go.Proofs.YthkkjjlpahdagaaGreatDoor.Ms
open Go Go.RowKit
set_option maxRecDepth 100000
theorem guardSub:Tryz.prog.eqGuardType Tryz.prog.depth 39=false:=by kernel_rfl
def RSub (w:World) (x:Nat) (G:List Nat) (R:Rs) (c:Int) (X:Sub) (e:Ending) (w':World):Prop:=∃ u G',e = .returned (.tuple #[.agg (repC (subY R c X) u).toArray,nu (subE R c X)])∧RY w' x G' (subR R c X)∧PensAt w' u (subY R c X).pend∧Kp G w w'∧∀ b ∈ G',b ∈ G ∨ w.heap.size ≤ b
theorem rsub_err {w w':World} {x:Nat} {G:List Nat} {R:Rs} (h:RY w x G R) {c:Int} {X:Sub} (he:subE R c X ≠ 0) (hb:Below w.heap.size w w'):RSub w x G R c X (.returned (.tuple #[.agg (repC zeroR (.slice none 0 0)).toArray,nu (subE R c X)])) w':=by
 have e1:subY R c X=zeroR:=by unfold subY;rw [if_pos he]
 have e2:subR R c X=R:=by unfold subR;rw [if_pos he]
 refine ⟨.slice none 0 0,G,by rw [e1],by rw [e2];exact h.kept hb,by rw [e1];exact PensAt.nil w',Kp.of hb,fun b hb=>Or.inl hb⟩
theorem rsub_a {w:World} {x:Nat} {G:List Nat} {R:Rs} (h:RY w x G R) {c:Int} {X:Sub} (hx:X.Wf) (hm:mayB (subM c X)=false) :
  Calls Tryz.prog 15 #[pt x 0,nu c,.agg (subC X).toArray] w (RSub w x G R c X):=by
 have hcode:subE R c X=2:=by unfold subE subOk;rw [hm,Bool.and_false,Bool.and_false,if_pos rfl]
 have HEnd:Hid (∀ w',Below w.heap.size w w'→RSub w x G R c X (.returned (.tuple #[.agg (repC zeroR (.slice none 0 0)).toArray,nu 2])) w'):=fun w' hb=>by
  have:=rsub_err h (c:=c) (X:=X) (by rw [hcode];decide) hb
  rwa [hcode] at this
 have B1:=hid (below_a1 w (.cells (subC X).toArray 39))
 have B2:=hid (below_two B1.out (below_a1 (w.alloc (.cells (subC X).toArray 39)) (.cells (repC zeroR (.slice none 0 0)).toArray 42)))
 have T2:=hid (row_kept (top_obj w (.cells (subC X).toArray 39)) (below_a1 (w.alloc (.cells (subC X).toArray 39)) (.cells (repC zeroR (.slice none 0 0)).toArray 42)))
 have U2:=hid (top_obj (w.alloc (.cells (subC X).toArray 39)) (.cells (repC zeroR (.slice none 0 0)).toArray 42))
 have e1:(w.alloc (.cells (subC X).toArray 39)).heap.size=w.heap.size + 1:=Array.size_push _
 rw [e1] at U2
 have H2:=hid (h.kept B2.out)
 have ZR:=zeroRep
 have IZ:(Tryz.prog.info? 42).map (·.size)=some (repC zeroR (.slice none 0 0)).length:=by rw [repC_len wfZeroR];exact sizeRep
 have OZ:=hid (one_rep zeroR (.slice none 0 0) rfl)
 have HBd:=hid build_rep
 have ZS:(Tryz.prog.info? 39).map (·.size)=some (subC X).length:=by rw [subC_len hx];exact sizeSub
 have SX:=hid (row_seg (off:=0) (A:=[]) (cs:=subC X) (C:=[]) T2.out (by simp) rfl)
 have cx:=srow_target T2.out hx
 have HBm:=hid (fun W=>build_subm W c X hx)
 have HMy:=hid (rmay (vP:=.slice none 0 0) (vN:=.slice none 0 0) (sub_wf (c:=c) hx) i64_zero (PensAt.nil ((w.alloc (.cells (subC X).toArray 39)).alloc (.cells (repC zeroR (.slice none 0 0)).toArray 42))) (IntsAt.nil _) ⟨Nat.zero_le _,Nat.zero_le _⟩)
 have HI1:=hid (fun (W:World) (hb:Below ((w.alloc (.cells (subC X).toArray 39)).alloc (.cells (repC zeroR (.slice none 0 0)).toArray 42)).heap.size ((w.alloc (.cells (subC X).toArray 39)).alloc (.cells (repC zeroR (.slice none 0 0)).toArray 42)) W)=>r12is_any (H2.out.kept hb) c)
 have HI2:=hid (fun (W:World) (hb:Below ((w.alloc (.cells (subC X).toArray 39)).alloc (.cells (repC zeroR (.slice none 0 0)).toArray 42)).heap.size ((w.alloc (.cells (subC X).toArray 39)).alloc (.cells (repC zeroR (.slice none 0 0)).toArray 42)) W)=>r12is_any (H2.out.kept hb) X.target)
 rw [hm] at HMy
 clear h hcode hm
 show Calls _ _ _ _ (fun e w'=>RSub w x G R c X e w')
 generalize msgC (subM c X) (.slice none 0 0) (.slice none 0 0)=MV at *
 generalize repC zeroR (.slice none 0 0)=Z at *
 obtain ⟨V,HV⟩:∃ V,Hid (V=subC X):=⟨_,rfl⟩
 rw [← HV.out] at B1 B2 T2 U2 H2 e1 ZS SX cx HBm HMy HI1 HI2 ⊢
 have hgs:w.heap.size < w.heap.size + 1:=Nat.lt_succ_self _
 go_enter Tryz.func15,Tryz.ntmps15
 go_upto_region 1 with (first | ((with_reducible refine wl_alloc 42 ?_ ?_ Z.toArray ZR ?_);exact rfl;exact rfl))
 generalize w.alloc (.cells V.toArray 39)=W1 at *
 generalize W1.alloc (.cells Z.toArray 42)=W2 at *
 try simp only [Act.put,List.setIfInBounds_toArray,List.set_cons_zero,List.set_cons_succ,e1]
 clear e1
 have HU2:Hid (W2.heap[w.heap.size + 1]? = some (.cells ([]++(Z++[])).toArray 42)):=row_nilB U2.out
 clear U2
 generalize hgA:w.heap.size + 1=gA at *
 obtain ⟨gX,hgX⟩:∃ gX,gX=w.heap.size:=⟨_,rfl⟩
 rw [← hgX] at SX cx T2 ⊢
 have HgX:=hid hgX
 clear hgX
 go_wp2_with (first
  | ((with_reducible refine wl_load 39 (.tmp 5) ?_ gX 0 ?_ ?_ V _ SX.out Tryz.underlying39 ?_ ZS ?_);iterate 4 exact rfl)
  | ((with_reducible refine wl_buildL 102 [(0,.const (nu 1)),(1,.tmp 12),(2,.tmp 13)] ?_ ?_ MV.toArray ?_ ?_);exact rfl;exact rfl;exact (HBm.out _)))
 refine HMy.out.mono ?_
 rintro e W3 ⟨rfl,hb3⟩
 have A3:=hid hb3
 have B3:Hid (Below w.heap.size w W3):=below_two B2.out hb3
 have U3:=hid (row_kept HU2.out hb3)
 have T3:=hid (row_kept T2.out hb3)
 clear hb3 HBm
 go_wp2_with (first
  | ((with_reducible refine wl_build 42 ?_ ?_ Z.toArray (HBd.out _) ?_);exact rfl;exact rfl)
  | ((with_reducible refine wl_put 42 (.tmp 6) (.tmp 30) ?_ ?_ gA 0 ?_ ?_ [] Z Z [] ?_ 42 U3.out rfl rfl OZ.out IZ ?_);exact rfl;exact rfl;exact rfl;exact rfl;exact rfl;intro wF rF bF))
 have rG:wF.heap[gA]? = some (.cells Z.toArray 42):=by simpa using rF
 refine bodyPost_ret_by (results_ct (fn:=Tryz.f15) (p:=6) (u:=7) (ty:=42) (by kernel_rfl) _ _ gA 42 Z.toArray (0,0) _ rfl rG Tryz.underlying42 rfl (by rw [List.size_toArray];exact IZ)) rfl ?_
 exact HEnd.out _ (bF.below B3.out (by omega))
theorem rsub_b {w:World} {x:Nat} {G:List Nat} {R:Rs} (h:RY w x G R) {c:Int} {X:Sub} (hx:X.Wf) (hm:mayB (subM c X)=true) (hh:hasB R.n c=false) :
  Calls Tryz.prog 15 #[pt x 0,nu c,.agg (subC X).toArray] w (RSub w x G R c X):=by
 have hcode:subE R c X=2:=by unfold subE subOk;rw [hh,Bool.false_and,if_pos rfl]
 have HEnd:Hid (∀ w',Below w.heap.size w w'→RSub w x G R c X (.returned (.tuple #[.agg (repC zeroR (.slice none 0 0)).toArray,nu 2])) w'):=fun w' hb=>by
  have:=rsub_err h (c:=c) (X:=X) (by rw [hcode];decide) hb
  rwa [hcode] at this
 have B1:=hid (below_a1 w (.cells (subC X).toArray 39))
 have B2:=hid (below_two B1.out (below_a1 (w.alloc (.cells (subC X).toArray 39)) (.cells (repC zeroR (.slice none 0 0)).toArray 42)))
 have T2:=hid (row_kept (top_obj w (.cells (subC X).toArray 39)) (below_a1 (w.alloc (.cells (subC X).toArray 39)) (.cells (repC zeroR (.slice none 0 0)).toArray 42)))
 have U2:=hid (top_obj (w.alloc (.cells (subC X).toArray 39)) (.cells (repC zeroR (.slice none 0 0)).toArray 42))
 have e1:(w.alloc (.cells (subC X).toArray 39)).heap.size=w.heap.size + 1:=Array.size_push _
 rw [e1] at U2
 have H2:=hid (h.kept B2.out)
 have ZR:=zeroRep
 have IZ:(Tryz.prog.info? 42).map (·.size)=some (repC zeroR (.slice none 0 0)).length:=by rw [repC_len wfZeroR];exact sizeRep
 have OZ:=hid (one_rep zeroR (.slice none 0 0) rfl)
 have HBd:=hid build_rep
 have ZS:(Tryz.prog.info? 39).map (·.size)=some (subC X).length:=by rw [subC_len hx];exact sizeSub
 have SX:=hid (row_seg (off:=0) (A:=[]) (cs:=subC X) (C:=[]) T2.out (by simp) rfl)
 have cx:=srow_target T2.out hx
 have HBm:=hid (fun W=>build_subm W c X hx)
 have HMy:=hid (rmay (vP:=.slice none 0 0) (vN:=.slice none 0 0) (sub_wf (c:=c) hx) i64_zero (PensAt.nil ((w.alloc (.cells (subC X).toArray 39)).alloc (.cells (repC zeroR (.slice none 0 0)).toArray 42))) (IntsAt.nil _) ⟨Nat.zero_le _,Nat.zero_le _⟩)
 have HI1:=hid (fun (W:World) (hb:Below ((w.alloc (.cells (subC X).toArray 39)).alloc (.cells (repC zeroR (.slice none 0 0)).toArray 42)).heap.size ((w.alloc (.cells (subC X).toArray 39)).alloc (.cells (repC zeroR (.slice none 0 0)).toArray 42)) W)=>r12is_any (H2.out.kept hb) c)
 have HI2:=hid (fun (W:World) (hb:Below ((w.alloc (.cells (subC X).toArray 39)).alloc (.cells (repC zeroR (.slice none 0 0)).toArray 42)).heap.size ((w.alloc (.cells (subC X).toArray 39)).alloc (.cells (repC zeroR (.slice none 0 0)).toArray 42)) W)=>r12is_any (H2.out.kept hb) X.target)
 rw [hm] at HMy
 rw [hh] at HI1
 clear h hcode hm hh
 show Calls _ _ _ _ (fun e w'=>RSub w x G R c X e w')
 generalize msgC (subM c X) (.slice none 0 0) (.slice none 0 0)=MV at *
 generalize repC zeroR (.slice none 0 0)=Z at *
 obtain ⟨V,HV⟩:∃ V,Hid (V=subC X):=⟨_,rfl⟩
 rw [← HV.out] at B1 B2 T2 U2 H2 e1 ZS SX cx HBm HMy HI1 HI2 ⊢
 have hgs:w.heap.size < w.heap.size + 1:=Nat.lt_succ_self _
 go_enter Tryz.func15,Tryz.ntmps15
 go_upto_region 1 with (first | ((with_reducible refine wl_alloc 42 ?_ ?_ Z.toArray ZR ?_);exact rfl;exact rfl))
 generalize w.alloc (.cells V.toArray 39)=W1 at *
 generalize W1.alloc (.cells Z.toArray 42)=W2 at *
 try simp only [Act.put,List.setIfInBounds_toArray,List.set_cons_zero,List.set_cons_succ,e1]
 clear e1
 have HU2:Hid (W2.heap[w.heap.size + 1]? = some (.cells ([]++(Z++[])).toArray 42)):=row_nilB U2.out
 clear U2
 generalize hgA:w.heap.size + 1=gA at *
 obtain ⟨gX,hgX⟩:∃ gX,gX=w.heap.size:=⟨_,rfl⟩
 rw [← hgX] at SX cx T2 ⊢
 have HgX:=hid hgX
 clear hgX
 go_wp2_with (first
  | ((with_reducible refine wl_load 39 (.tmp 5) ?_ gX 0 ?_ ?_ V _ SX.out Tryz.underlying39 ?_ ZS ?_);iterate 4 exact rfl)
  | ((with_reducible refine wl_buildL 102 [(0,.const (nu 1)),(1,.tmp 12),(2,.tmp 13)] ?_ ?_ MV.toArray ?_ ?_);exact rfl;exact rfl;exact (HBm.out _)))
 refine HMy.out.mono ?_
 rintro e W3 ⟨rfl,hb3⟩
 have A3:=hid hb3
 have B3:Hid (Below w.heap.size w W3):=below_two B2.out hb3
 have U3:=hid (row_kept HU2.out hb3)
 have T3:=hid (row_kept T2.out hb3)
 clear hb3 HBm
 go_wp2_with fail
 refine (HI1.out _ A3.out).mono ?_
 rintro e w1 ⟨rfl,hw1⟩
 subst w1
 go_wp2_with (first
  | ((with_reducible refine wl_build 42 ?_ ?_ Z.toArray (HBd.out _) ?_);exact rfl;exact rfl)
  | ((with_reducible refine wl_put 42 (.tmp 6) (.tmp 30) ?_ ?_ gA 0 ?_ ?_ [] Z Z [] ?_ 42 U3.out rfl rfl OZ.out IZ ?_);exact rfl;exact rfl;exact rfl;exact rfl;exact rfl;intro wF rF bF))
 have rG:wF.heap[gA]? = some (.cells Z.toArray 42):=by simpa using rF
 refine bodyPost_ret_by (results_ct (fn:=Tryz.f15) (p:=6) (u:=7) (ty:=42) (by kernel_rfl) _ _ gA 42 Z.toArray (0,0) _ rfl rG Tryz.underlying42 rfl (by rw [List.size_toArray];exact IZ)) rfl ?_
 exact HEnd.out _ (bF.below B3.out (by omega))
theorem rsub_c {w:World} {x:Nat} {G:List Nat} {R:Rs} (h:RY w x G R) {c:Int} {X:Sub} (hx:X.Wf) (hm:mayB (subM c X)=true) (hh:hasB R.n c=true) (hg:hasB R.n X.target=false) :
  Calls Tryz.prog 15 #[pt x 0,nu c,.agg (subC X).toArray] w (RSub w x G R c X):=by
 have hcode:subE R c X=2:=by unfold subE subOk;rw [hg,Bool.false_and,Bool.and_false,if_pos rfl]
 have HEnd:Hid (∀ w',Below w.heap.size w w'→RSub w x G R c X (.returned (.tuple #[.agg (repC zeroR (.slice none 0 0)).toArray,nu 2])) w'):=fun w' hb=>by
  have:=rsub_err h (c:=c) (X:=X) (by rw [hcode];decide) hb
  rwa [hcode] at this
 have B1:=hid (below_a1 w (.cells (subC X).toArray 39))
 have B2:=hid (below_two B1.out (below_a1 (w.alloc (.cells (subC X).toArray 39)) (.cells (repC zeroR (.slice none 0 0)).toArray 42)))
 have T2:=hid (row_kept (top_obj w (.cells (subC X).toArray 39)) (below_a1 (w.alloc (.cells (subC X).toArray 39)) (.cells (repC zeroR (.slice none 0 0)).toArray 42)))
 have U2:=hid (top_obj (w.alloc (.cells (subC X).toArray 39)) (.cells (repC zeroR (.slice none 0 0)).toArray 42))
 have e1:(w.alloc (.cells (subC X).toArray 39)).heap.size=w.heap.size + 1:=Array.size_push _
 rw [e1] at U2
 have H2:=hid (h.kept B2.out)
 have ZR:=zeroRep
 have IZ:(Tryz.prog.info? 42).map (·.size)=some (repC zeroR (.slice none 0 0)).length:=by rw [repC_len wfZeroR];exact sizeRep
 have OZ:=hid (one_rep zeroR (.slice none 0 0) rfl)
 have HBd:=hid build_rep
 have ZS:(Tryz.prog.info? 39).map (·.size)=some (subC X).length:=by rw [subC_len hx];exact sizeSub
 have SX:=hid (row_seg (off:=0) (A:=[]) (cs:=subC X) (C:=[]) T2.out (by simp) rfl)
 have cx:=srow_target T2.out hx
 have HBm:=hid (fun W=>build_subm W c X hx)
 have HMy:=hid (rmay (vP:=.slice none 0 0) (vN:=.slice none 0 0) (sub_wf (c:=c) hx) i64_zero (PensAt.nil ((w.alloc (.cells (subC X).toArray 39)).alloc (.cells (repC zeroR (.slice none 0 0)).toArray 42))) (IntsAt.nil _) ⟨Nat.zero_le _,Nat.zero_le _⟩)
 have HI1:=hid (fun (W:World) (hb:Below ((w.alloc (.cells (subC X).toArray 39)).alloc (.cells (repC zeroR (.slice none 0 0)).toArray 42)).heap.size ((w.alloc (.cells (subC X).toArray 39)).alloc (.cells (repC zeroR (.slice none 0 0)).toArray 42)) W)=>r12is_any (H2.out.kept hb) c)
 have HI2:=hid (fun (W:World) (hb:Below ((w.alloc (.cells (subC X).toArray 39)).alloc (.cells (repC zeroR (.slice none 0 0)).toArray 42)).heap.size ((w.alloc (.cells (subC X).toArray 39)).alloc (.cells (repC zeroR (.slice none 0 0)).toArray 42)) W)=>r12is_any (H2.out.kept hb) X.target)
 rw [hm] at HMy
 rw [hh] at HI1
 rw [hg] at HI2
 clear h hcode hm hh hg
 show Calls _ _ _ _ (fun e w'=>RSub w x G R c X e w')
 generalize msgC (subM c X) (.slice none 0 0) (.slice none 0 0)=MV at *
 generalize repC zeroR (.slice none 0 0)=Z at *
 obtain ⟨V,HV⟩:∃ V,Hid (V=subC X):=⟨_,rfl⟩
 rw [← HV.out] at B1 B2 T2 U2 H2 e1 ZS SX cx HBm HMy HI1 HI2 ⊢
 have hgs:w.heap.size < w.heap.size + 1:=Nat.lt_succ_self _
 go_enter Tryz.func15,Tryz.ntmps15
 go_upto_region 1 with (first | ((with_reducible refine wl_alloc 42 ?_ ?_ Z.toArray ZR ?_);exact rfl;exact rfl))
 generalize w.alloc (.cells V.toArray 39)=W1 at *
 generalize W1.alloc (.cells Z.toArray 42)=W2 at *
 try simp only [Act.put,List.setIfInBounds_toArray,List.set_cons_zero,List.set_cons_succ,e1]
 clear e1
 have HU2:Hid (W2.heap[w.heap.size + 1]? = some (.cells ([]++(Z++[])).toArray 42)):=row_nilB U2.out
 clear U2
 generalize hgA:w.heap.size + 1=gA at *
 obtain ⟨gX,hgX⟩:∃ gX,gX=w.heap.size:=⟨_,rfl⟩
 rw [← hgX] at SX cx T2 ⊢
 have HgX:=hid hgX
 clear hgX
 go_wp2_with (first
  | ((with_reducible refine wl_load 39 (.tmp 5) ?_ gX 0 ?_ ?_ V _ SX.out Tryz.underlying39 ?_ ZS ?_);iterate 4 exact rfl)
  | ((with_reducible refine wl_buildL 102 [(0,.const (nu 1)),(1,.tmp 12),(2,.tmp 13)] ?_ ?_ MV.toArray ?_ ?_);exact rfl;exact rfl;exact (HBm.out _)))
 refine HMy.out.mono ?_
 rintro e W3 ⟨rfl,hb3⟩
 have A3:=hid hb3
 have B3:Hid (Below w.heap.size w W3):=below_two B2.out hb3
 have U3:=hid (row_kept HU2.out hb3)
 have T3:=hid (row_kept T2.out hb3)
 clear hb3 HBm
 go_wp2_with fail
 refine (HI1.out _ A3.out).mono ?_
 rintro e w1 ⟨rfl,hw1⟩
 subst w1
 have cx3:W3.cell? ⟨gX,2,none⟩=some (nu X.target):=cell_kq cx A3.out
 go_wp2_with fail
 refine (HI2.out _ A3.out).mono ?_
 rintro e w1 ⟨rfl,hw1⟩
 subst w1
 go_wp2_with (first
  | ((with_reducible refine wl_build 42 ?_ ?_ Z.toArray (HBd.out _) ?_);exact rfl;exact rfl)
  | ((with_reducible refine wl_put 42 (.tmp 6) (.tmp 30) ?_ ?_ gA 0 ?_ ?_ [] Z Z [] ?_ 42 U3.out rfl rfl OZ.out IZ ?_);exact rfl;exact rfl;exact rfl;exact rfl;exact rfl;intro wF rF bF))
 have rG:wF.heap[gA]? = some (.cells Z.toArray 42):=by simpa using rF
 refine bodyPost_ret_by (results_ct (fn:=Tryz.f15) (p:=6) (u:=7) (ty:=42) (by kernel_rfl) _ _ gA 42 Z.toArray (0,0) _ rfl rG Tryz.underlying42 rfl (by rw [List.size_toArray];exact IZ)) rfl ?_
 exact HEnd.out _ (bF.below B3.out (by omega))
theorem rsub_d {w:World} {x:Nat} {G:List Nat} {R:Rs} (h:RY w x G R) {k:Nat} {X:Sub} (hx:X.Wf) (hok:subOk R (k:Int) X=true) (h4:X.number=(R.reg (k:Int)).asked.number) (h5:sameS X (R.reg (k:Int)).asked=false) :
  Calls Tryz.prog 15 #[pt x 0,nu (k:Int),.agg (subC X).toArray] w (RSub w x G R (k:Int) X):=by
 have hcode:subE R (k:Int) X=10:=by unfold subE;rw [if_neg (by rw [hok];simp),if_pos h4,if_neg (by rw [h5];simp)]
 have HEnd:Hid (∀ w',Below w.heap.size w w'→RSub w x G R (k:Int) X (.returned (.tuple #[.agg (repC zeroR (.slice none 0 0)).toArray,nu 10])) w'):=fun w' hb=>by
  have:=rsub_err h (c:=(k:Int)) (X:=X) (by rw [hcode];decide) hb
  rwa [hcode] at this
 obtain ⟨h1,h2,h3⟩:hasB R.n (k:Int)=true∧hasB R.n X.target=true∧mayB (subM (k:Int) X)=true:=by simpa [subOk,Bool.and_eq_true] using hok
 obtain ⟨hkn,-⟩:=subOk_parts hok
 have hkR:k < R.n:=by omega
 have B1:=hid (below_a1 w (.cells (subC X).toArray 39))
 have B2:=hid (below_two B1.out (below_a1 (w.alloc (.cells (subC X).toArray 39)) (.cells (repC zeroR (.slice none 0 0)).toArray 42)))
 have T2:=hid (row_kept (top_obj w (.cells (subC X).toArray 39)) (below_a1 (w.alloc (.cells (subC X).toArray 39)) (.cells (repC zeroR (.slice none 0 0)).toArray 42)))
 have U2:=hid (top_obj (w.alloc (.cells (subC X).toArray 39)) (.cells (repC zeroR (.slice none 0 0)).toArray 42))
 have e1:(w.alloc (.cells (subC X).toArray 39)).heap.size=w.heap.size + 1:=Array.size_push _
 rw [e1] at U2
 have H2:=hid (h.kept B2.out)
 have ZR:=zeroRep
 have IZ:(Tryz.prog.info? 42).map (·.size)=some (repC zeroR (.slice none 0 0)).length:=by rw [repC_len wfZeroR];exact sizeRep
 have OZ:=hid (one_rep zeroR (.slice none 0 0) rfl)
 have HBd:=hid build_rep
 have ZS:(Tryz.prog.info? 39).map (·.size)=some (subC X).length:=by rw [subC_len hx];exact sizeSub
 have SX:=hid (row_seg (off:=0) (A:=[]) (cs:=subC X) (C:=[]) T2.out (by simp) rfl)
 have cx:=srow_target T2.out hx
 have HBm:=hid (fun W=>build_subm W (k:Int) X hx)
 have HMy:=hid (rmay (vP:=.slice none 0 0) (vN:=.slice none 0 0) (sub_wf (c:=(k:Int)) hx) i64_zero (PensAt.nil ((w.alloc (.cells (subC X).toArray 39)).alloc (.cells (repC zeroR (.slice none 0 0)).toArray 42))) (IntsAt.nil _) ⟨Nat.zero_le _,Nat.zero_le _⟩)
 have HI1:=hid (fun (W:World) (hb:Below ((w.alloc (.cells (subC X).toArray 39)).alloc (.cells (repC zeroR (.slice none 0 0)).toArray 42)).heap.size ((w.alloc (.cells (subC X).toArray 39)).alloc (.cells (repC zeroR (.slice none 0 0)).toArray 42)) W)=>r12is_any (H2.out.kept hb) (k:Int))
 have HI2:=hid (fun (W:World) (hb:Below ((w.alloc (.cells (subC X).toArray 39)).alloc (.cells (repC zeroR (.slice none 0 0)).toArray 42)).heap.size ((w.alloc (.cells (subC X).toArray 39)).alloc (.cells (repC zeroR (.slice none 0 0)).toArray 42)) W)=>r12is_any (H2.out.kept hb) X.target)
 obtain ⟨bs,br,bv,bt,ps,vP,Y,hz,hG1,hG2⟩:=h
 have HZ2:=hid (hz.kept B2.out)
 obtain ⟨AN,HAN⟩:∃ AN,Hid (AN=(R.reg (k:Int)).asked.number):=⟨_,rfl⟩
 obtain ⟨XN,HXN⟩:∃ XN,Hid (XN=X.number):=⟨_,rfl⟩
 have HX:=hid hx
 rw [h3] at HMy
 rw [h1] at HI1
 rw [h2] at HI2
 have hd:(XN == AN)=true:=by rw [HXN.out,HAN.out,h4];exact beq_self_eq_true _
 obtain ⟨SB,HSB⟩:∃ SB,Hid (sameS X (R.reg (k:Int)).asked=SB):=⟨_,rfl⟩
 obtain rfl:SB=false:=by rw [← HSB.out];exact h5
 clear hcode h1 h2 h3 hok hkn h4 h5 hz hG1 hG2 hx
 show Calls _ _ _ _ (fun e w'=>RSub w x G R (k:Int) X e w')
 generalize msgC (subM (k:Int) X) (.slice none 0 0) (.slice none 0 0)=MV at *
 generalize repC zeroR (.slice none 0 0)=Z at *
 obtain ⟨V,HV⟩:∃ V,Hid (V=subC X):=⟨_,rfl⟩
 rw [← HV.out] at B1 B2 T2 U2 H2 e1 ZS SX cx HBm HMy HI1 HI2 HZ2 ⊢
 have hgs:w.heap.size < w.heap.size + 1:=Nat.lt_succ_self _
 go_enter Tryz.func15,Tryz.ntmps15
 go_upto_region 1 with (first | ((with_reducible refine wl_alloc 42 ?_ ?_ Z.toArray ZR ?_);exact rfl;exact rfl))
 generalize w.alloc (.cells V.toArray 39)=W1 at *
 generalize W1.alloc (.cells Z.toArray 42)=W2 at *
 try simp only [Act.put,List.setIfInBounds_toArray,List.set_cons_zero,List.set_cons_succ,e1]
 clear e1
 have HU2:Hid (W2.heap[w.heap.size + 1]? = some (.cells ([]++(Z++[])).toArray 42)):=row_nilB U2.out
 clear U2
 generalize hgA:w.heap.size + 1=gA at *
 obtain ⟨gX,hgX⟩:∃ gX,gX=w.heap.size:=⟨_,rfl⟩
 rw [← hgX] at SX cx T2 ⊢
 have HgX:=hid hgX
 clear hgX
 go_wp2_with (first
  | ((with_reducible refine wl_load 39 (.tmp 5) ?_ gX 0 ?_ ?_ V _ SX.out Tryz.underlying39 ?_ ZS ?_);iterate 4 exact rfl)
  | ((with_reducible refine wl_buildL 102 [(0,.const (nu 1)),(1,.tmp 12),(2,.tmp 13)] ?_ ?_ MV.toArray ?_ ?_);exact rfl;exact rfl;exact (HBm.out _)))
 refine HMy.out.mono ?_
 rintro e W3 ⟨rfl,hb3⟩
 have A3:=hid hb3
 have B3:Hid (Below w.heap.size w W3):=below_two B2.out hb3
 have U3:=hid (row_kept HU2.out hb3)
 have T3:=hid (row_kept T2.out hb3)
 clear hb3 HBm
 go_wp2_with fail
 refine (HI1.out _ A3.out).mono ?_
 rintro e w1 ⟨rfl,hw1⟩
 subst w1
 have cx3:W3.cell? ⟨gX,2,none⟩=some (nu X.target):=cell_kq cx A3.out
 go_wp2_with fail
 refine (HI2.out _ A3.out).mono ?_
 rintro e w1 ⟨rfl,hw1⟩
 subst w1
 have HZ3:=hid (HZ2.out.kept A3.out)
 have c1:=HZ3.out.cS
 have c2:W3.cell? ⟨bs,k * 68,none⟩=some (nu AN):=by rw [HAN.out];exact HZ3.out.sub hkR 0 _ rfl
 have c3:W3.cell? ⟨gX,0,none⟩=some (nu XN):=by rw [HXN.out];exact srow_number (by rw [← HV.out];exact T3.out) HX.out
 unfold sl at c1
 go_wp2_with fail
 go_quiet (fail)
 have D3:Hid (Below W3.heap.size W3 (W3.drewN nq)):=below_dn (Below.refl _ _) _
 generalize W3.drewN nq=W4 at *
 go_wp2_with fail
 have D4:=D3
 have HZ4:=hid (HZ3.out.kept D3.out)
 have B4:=hid (below_two B3.out D3.out)
 have U4:=hid (row_kept U3.out D3.out)
 have T4:=hid (row_kept T3.out D3.out)
 have c4:=HZ4.out.cS
 unfold sl at c4
 have hwa:=(HZ4.out.inv.reg (k:Int)).asked
 have p1:∀ dd os,(Sort.grow (redrawn W4 dd) os).cell? ⟨x,0,none⟩=some (.slice (some ⟨bs,0,none⟩) R.n R.n):=fun dd os=>cell_regrown c4 _ _
 have SV4:=hid (fun (W:World) (hW:∃ p:Regrown,W=Sort.grow (redrawn W4 p.d) p.os)=>(by obtain ⟨p,rfl⟩:=hW;exact fun i c hi=>cell_regrown (row_seg (off:=0) (A:=[]) (cs:=V) (C:=[]) T4.out (by simp) rfl i c hi) _ _:∀ i c,V[i]? = some c→W.cell? ⟨gX,0 + i,none⟩=some c))
 have SA4:=hid (fun (W:World) (hW:∃ p:Regrown,W=Sort.grow (redrawn W4 p.d) p.os)=>(by obtain ⟨p,rfl⟩:=hW;exact fun i c hi=>cell_regrown (HZ4.out.sub hkR i c hi) _ _:∀ i c,(subC (R.reg (k:Int)).asked)[i]? = some c→W.cell? ⟨bs,k * 68 + i,none⟩=some c))
 have ZA:(Tryz.prog.info? 39).map (·.size)=some (subC (R.reg (k:Int)).asked).length:=by rw [subC_len hwa];exact sizeSub
 have EQ:∀ W,(Op.equalIn 10000 39 (.agg V.toArray) (.agg (subC (R.reg (k:Int)).asked).toArray)).run Tryz.prog W = .ok false W:=by
  intro W
  rw [HV.out]
  have:=equal_sub W X (R.reg (k:Int)).asked HX.out hwa
  rw [HSB.out] at this
  exact this
 have hbg:=hid (fun dq osq=>below_regrown W4 dq osq)
 clear hwa c4
 generalize subC (R.reg (k:Int)).asked=SAC at *
 refine wp_region_quiet_below (by kernel_rfl) (by kernel_rfl) ?_
 refine wq_load 39 (.tmp 5) rfl gX 0 rfl rfl V _ (fun w' hw'=>SV4.out w' hw') Tryz.underlying39 rfl ZS ?_
 simp only [Act.put,List.setIfInBounds_toArray,List.set_cons_zero,List.set_cons_succ]
 iterate 6 (first | go_big_quiet_step (fail) | quiet_step (fail))
 refine wq_load 39 (.tmp 48) rfl bs (k * 68) rfl rfl SAC _ (fun w' hw'=>SA4.out w' hw') Tryz.underlying39 rfl ZA ?_
 simp only [Act.put,List.setIfInBounds_toArray,List.set_cons_zero,List.set_cons_succ]
 refine wq_eql rfl 39 39 (.tmp 42) (.tmp 49) rfl V.toArray SAC.toArray rfl rfl guardSub false EQ ?_
 simp only [Act.put,List.setIfInBounds_toArray,List.set_cons_zero,List.set_cons_succ]
 refine wpQuiet_nil ?_
 intro _ hw'
 obtain ⟨⟨dq,osq⟩,hw''⟩:=hw'
 subst hw''
 have D5:=hid (hbg.out dq osq)
 clear p1 SV4 SA4 EQ hbg
 generalize Sort.grow (redrawn W4 dq) osq=W5 at *
 have B5:=hid (below_two B4.out D5.out)
 have U5:=hid (row_kept U4.out D5.out)
 have HZ5:=hid (HZ4.out.kept D5.out)
 go_wp2_with (first
  | ((with_reducible refine wl_build 42 ?_ ?_ Z.toArray (HBd.out _) ?_);exact rfl;exact rfl)
  | ((with_reducible refine wl_put 42 (.tmp 6) (.tmp 58) ?_ ?_ gA 0 ?_ ?_ [] Z Z [] ?_ 42 U5.out rfl rfl OZ.out IZ ?_);exact rfl;exact rfl;exact rfl;exact rfl;exact rfl;intro wF rF bF))
 have rG:wF.heap[gA]? = some (.cells Z.toArray 42):=by simpa using rF
 refine bodyPost_ret_by (results_ct (fn:=Tryz.f15) (p:=6) (u:=7) (ty:=42) (by kernel_rfl) _ _ gA 42 Z.toArray (0,0) _ rfl rG Tryz.underlying42 rfl (by rw [List.size_toArray];exact IZ)) rfl ?_
 exact HEnd.out _ (bF.below B5.out (by omega))
theorem rsub_e {w:World} {x:Nat} {G:List Nat} {R:Rs} (h:RY w x G R) {k:Nat} {X:Sub} (hx:X.Wf) (hok:subOk R (k:Int) X=true) (h4:X.number=(R.reg (k:Int)).asked.number) (h5:sameS X (R.reg (k:Int)).asked=true) :
  Calls Tryz.prog 15 #[pt x 0,nu (k:Int),.agg (subC X).toArray] w (RSub w x G R (k:Int) X):=by
 have hcode:subE R (k:Int) X=0:=by unfold subE;rw [if_neg (by rw [hok];simp),if_pos h4,if_pos h5]
 have hY:subY R (k:Int) X=(R.reg (k:Int)).ans:=by unfold subY;rw [if_neg (by rw [hcode];decide),if_pos h4]
 have hRR:subR R (k:Int) X=R:=by unfold subR;rw [if_neg (by rw [hcode];decide),if_pos h4]
 have HEnd:Hid (∀ w' u,Below w.heap.size w w'→PensAt w' u (R.reg (k:Int)).ans.pend→RSub w x G R (k:Int) X (.returned (.tuple #[.agg (repC (R.reg (k:Int)).ans u).toArray,nu 0])) w'):=fun w' u hb hp=>⟨u,G,by rw [hcode,hY],by rw [hRR];exact h.kept hb,by rw [hY];exact hp,Kp.of hb,fun b hb=>Or.inl hb⟩
 obtain ⟨h1,h2,h3⟩:hasB R.n (k:Int)=true∧hasB R.n X.target=true∧mayB (subM (k:Int) X)=true:=by simpa [subOk,Bool.and_eq_true] using hok
 obtain ⟨hkn,-⟩:=subOk_parts hok
 have hkR:k < R.n:=by omega
 have B1:=hid (below_a1 w (.cells (subC X).toArray 39))
 have B2:=hid (below_two B1.out (below_a1 (w.alloc (.cells (subC X).toArray 39)) (.cells (repC zeroR (.slice none 0 0)).toArray 42)))
 have T2:=hid (row_kept (top_obj w (.cells (subC X).toArray 39)) (below_a1 (w.alloc (.cells (subC X).toArray 39)) (.cells (repC zeroR (.slice none 0 0)).toArray 42)))
 have U2:=hid (top_obj (w.alloc (.cells (subC X).toArray 39)) (.cells (repC zeroR (.slice none 0 0)).toArray 42))
 have e1:(w.alloc (.cells (subC X).toArray 39)).heap.size=w.heap.size + 1:=Array.size_push _
 rw [e1] at U2
 have H2:=hid (h.kept B2.out)
 have ZR:=zeroRep
 have IZ:(Tryz.prog.info? 42).map (·.size)=some (repC zeroR (.slice none 0 0)).length:=by rw [repC_len wfZeroR];exact sizeRep
 have OZ:=hid (one_rep zeroR (.slice none 0 0) rfl)
 have HBd:=hid build_rep
 have ZS:(Tryz.prog.info? 39).map (·.size)=some (subC X).length:=by rw [subC_len hx];exact sizeSub
 have SX:=hid (row_seg (off:=0) (A:=[]) (cs:=subC X) (C:=[]) T2.out (by simp) rfl)
 have cx:=srow_target T2.out hx
 have HBm:=hid (fun W=>build_subm W (k:Int) X hx)
 have HMy:=hid (rmay (vP:=.slice none 0 0) (vN:=.slice none 0 0) (sub_wf (c:=(k:Int)) hx) i64_zero (PensAt.nil ((w.alloc (.cells (subC X).toArray 39)).alloc (.cells (repC zeroR (.slice none 0 0)).toArray 42))) (IntsAt.nil _) ⟨Nat.zero_le _,Nat.zero_le _⟩)
 have HI1:=hid (fun (W:World) (hb:Below ((w.alloc (.cells (subC X).toArray 39)).alloc (.cells (repC zeroR (.slice none 0 0)).toArray 42)).heap.size ((w.alloc (.cells (subC X).toArray 39)).alloc (.cells (repC zeroR (.slice none 0 0)).toArray 42)) W)=>r12is_any (H2.out.kept hb) (k:Int))
 have HI2:=hid (fun (W:World) (hb:Below ((w.alloc (.cells (subC X).toArray 39)).alloc (.cells (repC zeroR (.slice none 0 0)).toArray 42)).heap.size ((w.alloc (.cells (subC X).toArray 39)).alloc (.cells (repC zeroR (.slice none 0 0)).toArray 42)) W)=>r12is_any (H2.out.kept hb) X.target)
 obtain ⟨bs,br,bv,bt,ps,vP,Y,hz,hG1,hG2⟩:=h
 have HZ2:=hid (hz.kept B2.out)
 obtain ⟨AN,HAN⟩:∃ AN,Hid (AN=(R.reg (k:Int)).asked.number):=⟨_,rfl⟩
 obtain ⟨XN,HXN⟩:∃ XN,Hid (XN=X.number):=⟨_,rfl⟩
 have HX:=hid hx
 rw [h3] at HMy
 rw [h1] at HI1
 rw [h2] at HI2
 have hd:(XN == AN)=true:=by rw [HXN.out,HAN.out,h4];exact beq_self_eq_true _
 obtain ⟨SB,HSB⟩:∃ SB,Hid (sameS X (R.reg (k:Int)).asked=SB):=⟨_,rfl⟩
 obtain rfl:SB=true:=by rw [← HSB.out];exact h5
 have HLZ:Hid ((repC zeroR (.slice none 0 0)).length=103):=repC_len wfZeroR _
 have HGs:=hid hG1
 have HGl:=hid hG2
 clear hcode h1 h2 h3 hok hkn h4 h5 hz hG1 hG2 hx hY hRR
 show Calls _ _ _ _ (fun e w'=>RSub w x G R (k:Int) X e w')
 generalize msgC (subM (k:Int) X) (.slice none 0 0) (.slice none 0 0)=MV at *
 generalize repC zeroR (.slice none 0 0)=Z at *
 obtain ⟨V,HV⟩:∃ V,Hid (V=subC X):=⟨_,rfl⟩
 rw [← HV.out] at B1 B2 T2 U2 H2 e1 ZS SX cx HBm HMy HI1 HI2 HZ2 ⊢
 have hgs:w.heap.size < w.heap.size + 1:=Nat.lt_succ_self _
 go_enter Tryz.func15,Tryz.ntmps15
 go_upto_region 1 with (first | ((with_reducible refine wl_alloc 42 ?_ ?_ Z.toArray ZR ?_);exact rfl;exact rfl))
 generalize w.alloc (.cells V.toArray 39)=W1 at *
 generalize W1.alloc (.cells Z.toArray 42)=W2 at *
 try simp only [Act.put,List.setIfInBounds_toArray,List.set_cons_zero,List.set_cons_succ,e1]
 clear e1
 have HU2:Hid (W2.heap[w.heap.size + 1]? = some (.cells ([]++(Z++[])).toArray 42)):=row_nilB U2.out
 clear U2
 generalize hgA:w.heap.size + 1=gA at *
 obtain ⟨gX,hgX⟩:∃ gX,gX=w.heap.size:=⟨_,rfl⟩
 rw [← hgX] at SX cx T2 ⊢
 have HgX:=hid hgX
 clear hgX
 go_wp2_with (first
  | ((with_reducible refine wl_load 39 (.tmp 5) ?_ gX 0 ?_ ?_ V _ SX.out Tryz.underlying39 ?_ ZS ?_);iterate 4 exact rfl)
  | ((with_reducible refine wl_buildL 102 [(0,.const (nu 1)),(1,.tmp 12),(2,.tmp 13)] ?_ ?_ MV.toArray ?_ ?_);exact rfl;exact rfl;exact (HBm.out _)))
 refine HMy.out.mono ?_
 rintro e W3 ⟨rfl,hb3⟩
 have A3:=hid hb3
 have B3:Hid (Below w.heap.size w W3):=below_two B2.out hb3
 have U3:=hid (row_kept HU2.out hb3)
 have T3:=hid (row_kept T2.out hb3)
 clear hb3 HBm
 go_wp2_with fail
 refine (HI1.out _ A3.out).mono ?_
 rintro e w1 ⟨rfl,hw1⟩
 subst w1
 have cx3:W3.cell? ⟨gX,2,none⟩=some (nu X.target):=cell_kq cx A3.out
 go_wp2_with fail
 refine (HI2.out _ A3.out).mono ?_
 rintro e w1 ⟨rfl,hw1⟩
 subst w1
 have HZ3:=hid (HZ2.out.kept A3.out)
 have c1:=HZ3.out.cS
 have c2:W3.cell? ⟨bs,k * 68,none⟩=some (nu AN):=by rw [HAN.out];exact HZ3.out.sub hkR 0 _ rfl
 have c3:W3.cell? ⟨gX,0,none⟩=some (nu XN):=by rw [HXN.out];exact srow_number (by rw [← HV.out];exact T3.out) HX.out
 unfold sl at c1
 go_wp2_with fail
 go_quiet (fail)
 have D3:Hid (Below W3.heap.size W3 (W3.drewN nq)):=below_dn (Below.refl _ _) _
 generalize W3.drewN nq=W4 at *
 go_wp2_with fail
 have D4:=D3
 have HZ4:=hid (HZ3.out.kept D3.out)
 have B4:=hid (below_two B3.out D3.out)
 have U4:=hid (row_kept U3.out D3.out)
 have T4:=hid (row_kept T3.out D3.out)
 have c4:=HZ4.out.cS
 unfold sl at c4
 have hwa:=(HZ4.out.inv.reg (k:Int)).asked
 have p1:∀ dd os,(Sort.grow (redrawn W4 dd) os).cell? ⟨x,0,none⟩=some (.slice (some ⟨bs,0,none⟩) R.n R.n):=fun dd os=>cell_regrown c4 _ _
 have SV4:=hid (fun (W:World) (hW:∃ p:Regrown,W=Sort.grow (redrawn W4 p.d) p.os)=>(by obtain ⟨p,rfl⟩:=hW;exact fun i c hi=>cell_regrown (row_seg (off:=0) (A:=[]) (cs:=V) (C:=[]) T4.out (by simp) rfl i c hi) _ _:∀ i c,V[i]? = some c→W.cell? ⟨gX,0 + i,none⟩=some c))
 have SA4:=hid (fun (W:World) (hW:∃ p:Regrown,W=Sort.grow (redrawn W4 p.d) p.os)=>(by obtain ⟨p,rfl⟩:=hW;exact fun i c hi=>cell_regrown (HZ4.out.sub hkR i c hi) _ _:∀ i c,(subC (R.reg (k:Int)).asked)[i]? = some c→W.cell? ⟨bs,k * 68 + i,none⟩=some c))
 have ZA:(Tryz.prog.info? 39).map (·.size)=some (subC (R.reg (k:Int)).asked).length:=by rw [subC_len hwa];exact sizeSub
 have EQ:∀ W,(Op.equalIn 10000 39 (.agg V.toArray) (.agg (subC (R.reg (k:Int)).asked).toArray)).run Tryz.prog W = .ok true W:=by
  intro W
  rw [HV.out]
  have:=equal_sub W X (R.reg (k:Int)).asked HX.out hwa
  rw [HSB.out] at this
  exact this
 have hbg:=hid (fun dq osq=>below_regrown W4 dq osq)
 clear hwa c4
 generalize subC (R.reg (k:Int)).asked=SAC at *
 refine wp_region_quiet_below (by kernel_rfl) (by kernel_rfl) ?_
 refine wq_load 39 (.tmp 5) rfl gX 0 rfl rfl V _ (fun w' hw'=>SV4.out w' hw') Tryz.underlying39 rfl ZS ?_
 simp only [Act.put,List.setIfInBounds_toArray,List.set_cons_zero,List.set_cons_succ]
 iterate 6 (first | go_big_quiet_step (fail) | quiet_step (fail))
 refine wq_load 39 (.tmp 48) rfl bs (k * 68) rfl rfl SAC _ (fun w' hw'=>SA4.out w' hw') Tryz.underlying39 rfl ZA ?_
 simp only [Act.put,List.setIfInBounds_toArray,List.set_cons_zero,List.set_cons_succ]
 refine wq_eql rfl 39 39 (.tmp 42) (.tmp 49) rfl V.toArray SAC.toArray rfl rfl guardSub true EQ ?_
 simp only [Act.put,List.setIfInBounds_toArray,List.set_cons_zero,List.set_cons_succ]
 refine wpQuiet_nil ?_
 intro _ hw'
 obtain ⟨⟨dq,osq⟩,hw''⟩:=hw'
 subst hw''
 have D5:=hid (hbg.out dq osq)
 clear p1 SV4 SA4 EQ hbg
 generalize Sort.grow (redrawn W4 dq) osq=W5 at *
 have B5:=hid (below_two B4.out D5.out)
 have U5:=hid (row_kept U4.out D5.out)
 have HZ5:=hid (HZ4.out.kept D5.out)
 obtain ⟨u,hpu,SR⟩:=HZ5.out.rep hkR
 have hwr:=(HZ5.out.inv.reg (k:Int)).ans
 have c5:=HZ5.out.cR
 unfold sl at c5
 have HSR:=hid SR
 have HPU:=hid hpu
 have ZRe:(Tryz.prog.info? 42).map (·.size)=some (repC (R.reg (k:Int)).ans u).length:=by rw [repC_len hwr];exact sizeRep
 have LRe:Z.length=(repC (R.reg (k:Int)).ans u).length:=by rw [repC_len hwr];exact HLZ.out
 have ORe:=hid (one_rep (R.reg (k:Int)).ans u hpu.one)
 have hnA:Hid (∀ b ∈ Y,b ≠ gA):=fun b hb e=>by
  have h1:=HGl.out b (HGs.out b (by simp [hb]))
  omega
 clear SR hpu hwr
 generalize hRC:repC (R.reg (k:Int)).ans u=RC at *
 have HRC:=hid hRC
 clear hRC
 go_wp2_with (first
  | ((with_reducible refine wl_load 42 (.tmp 56) ?_ br (k * 103) ?_ ?_ RC _ HSR.out Tryz.underlying42 ?_ ZRe ?_);iterate 4 exact rfl)
  | ((with_reducible refine wl_put 42 (.tmp 6) (.tmp 57) ?_ ?_ gA 0 ?_ ?_ [] RC Z [] ?_ 42 U5.out rfl LRe ORe.out ZRe ?_);exact rfl;exact rfl;exact rfl;exact rfl;exact rfl;intro wF rF bF))
 have rG:wF.heap[gA]? = some (.cells RC.toArray 42):=by simpa using rF
 refine bodyPost_ret_by (results_ct (fn:=Tryz.f15) (p:=6) (u:=7) (ty:=42) (by kernel_rfl) _ _ gA 42 RC.toArray (0,0) _ rfl rG Tryz.underlying42 rfl (by rw [List.size_toArray];exact ZRe)) rfl ?_
 have hfin:=HEnd.out _ u (bF.below B5.out (by omega)) (HPU.out.but bF (fun hy=>hnA.out _ hy rfl)).pens
 rw [HRC.out] at hfin
 exact hfin
theorem rsub_f {w:World} {x:Nat} {G:List Nat} {R:Rs} (h:RY w x G R) {k:Nat} {X:Sub} (hx:X.Wf) (hok:subOk R (k:Int) X=true) (h4:X.number ≠ (R.reg (k:Int)).asked.number) (h5:X.number ≠ (R.reg (k:Int)).asked.number + 1) :
  Calls Tryz.prog 15 #[pt x 0,nu (k:Int),.agg (subC X).toArray] w (RSub w x G R (k:Int) X):=by
 have hcode:subE R (k:Int) X=3:=by unfold subE;rw [if_neg (by rw [hok];simp),if_neg h4,if_pos h5]
 have HEnd:Hid (∀ w',Below w.heap.size w w'→RSub w x G R (k:Int) X (.returned (.tuple #[.agg (repC zeroR (.slice none 0 0)).toArray,nu 3])) w'):=fun w' hb=>by
  have:=rsub_err h (c:=(k:Int)) (X:=X) (by rw [hcode];decide) hb
  rwa [hcode] at this
 obtain ⟨h1,h2,h3⟩:hasB R.n (k:Int)=true∧hasB R.n X.target=true∧mayB (subM (k:Int) X)=true:=by simpa [subOk,Bool.and_eq_true] using hok
 obtain ⟨hkn,-⟩:=subOk_parts hok
 have hkR:k < R.n:=by omega
 have B1:=hid (below_a1 w (.cells (subC X).toArray 39))
 have B2:=hid (below_two B1.out (below_a1 (w.alloc (.cells (subC X).toArray 39)) (.cells (repC zeroR (.slice none 0 0)).toArray 42)))
 have T2:=hid (row_kept (top_obj w (.cells (subC X).toArray 39)) (below_a1 (w.alloc (.cells (subC X).toArray 39)) (.cells (repC zeroR (.slice none 0 0)).toArray 42)))
 have U2:=hid (top_obj (w.alloc (.cells (subC X).toArray 39)) (.cells (repC zeroR (.slice none 0 0)).toArray 42))
 have e1:(w.alloc (.cells (subC X).toArray 39)).heap.size=w.heap.size + 1:=Array.size_push _
 rw [e1] at U2
 have H2:=hid (h.kept B2.out)
 have ZR:=zeroRep
 have IZ:(Tryz.prog.info? 42).map (·.size)=some (repC zeroR (.slice none 0 0)).length:=by rw [repC_len wfZeroR];exact sizeRep
 have OZ:=hid (one_rep zeroR (.slice none 0 0) rfl)
 have HBd:=hid build_rep
 have ZS:(Tryz.prog.info? 39).map (·.size)=some (subC X).length:=by rw [subC_len hx];exact sizeSub
 have SX:=hid (row_seg (off:=0) (A:=[]) (cs:=subC X) (C:=[]) T2.out (by simp) rfl)
 have cx:=srow_target T2.out hx
 have HBm:=hid (fun W=>build_subm W (k:Int) X hx)
 have HMy:=hid (rmay (vP:=.slice none 0 0) (vN:=.slice none 0 0) (sub_wf (c:=(k:Int)) hx) i64_zero (PensAt.nil ((w.alloc (.cells (subC X).toArray 39)).alloc (.cells (repC zeroR (.slice none 0 0)).toArray 42))) (IntsAt.nil _) ⟨Nat.zero_le _,Nat.zero_le _⟩)
 have HI1:=hid (fun (W:World) (hb:Below ((w.alloc (.cells (subC X).toArray 39)).alloc (.cells (repC zeroR (.slice none 0 0)).toArray 42)).heap.size ((w.alloc (.cells (subC X).toArray 39)).alloc (.cells (repC zeroR (.slice none 0 0)).toArray 42)) W)=>r12is_any (H2.out.kept hb) (k:Int))
 have HI2:=hid (fun (W:World) (hb:Below ((w.alloc (.cells (subC X).toArray 39)).alloc (.cells (repC zeroR (.slice none 0 0)).toArray 42)).heap.size ((w.alloc (.cells (subC X).toArray 39)).alloc (.cells (repC zeroR (.slice none 0 0)).toArray 42)) W)=>r12is_any (H2.out.kept hb) X.target)
 obtain ⟨bs,br,bv,bt,ps,vP,Y,hz,hG1,hG2⟩:=h
 have HZ2:=hid (hz.kept B2.out)
 obtain ⟨AN,HAN⟩:∃ AN,Hid (AN=(R.reg (k:Int)).asked.number):=⟨_,rfl⟩
 obtain ⟨XN,HXN⟩:∃ XN,Hid (XN=X.number):=⟨_,rfl⟩
 have HX:=hid hx
 rw [h3] at HMy
 rw [h1] at HI1
 rw [h2] at HI2
 have hd:(XN == AN)=false:=beq_false_of_ne (by rw [HXN.out,HAN.out];exact h4)
 have hanb:=(hz.inv.reg (k:Int)).num
 rw [← HAN.out] at hanb
 have hd2:(XN != AN + 1)=true:=bne_iff_ne.2 (by rw [HXN.out,HAN.out];exact h5)
 clear hcode h1 h2 h3 hok hkn h4 h5 hz hG1 hG2 hx
 show Calls _ _ _ _ (fun e w'=>RSub w x G R (k:Int) X e w')
 generalize msgC (subM (k:Int) X) (.slice none 0 0) (.slice none 0 0)=MV at *
 generalize repC zeroR (.slice none 0 0)=Z at *
 obtain ⟨V,HV⟩:∃ V,Hid (V=subC X):=⟨_,rfl⟩
 rw [← HV.out] at B1 B2 T2 U2 H2 e1 ZS SX cx HBm HMy HI1 HI2 HZ2 ⊢
 have hgs:w.heap.size < w.heap.size + 1:=Nat.lt_succ_self _
 go_enter Tryz.func15,Tryz.ntmps15
 go_upto_region 1 with (first | ((with_reducible refine wl_alloc 42 ?_ ?_ Z.toArray ZR ?_);exact rfl;exact rfl))
 generalize w.alloc (.cells V.toArray 39)=W1 at *
 generalize W1.alloc (.cells Z.toArray 42)=W2 at *
 try simp only [Act.put,List.setIfInBounds_toArray,List.set_cons_zero,List.set_cons_succ,e1]
 clear e1
 have HU2:Hid (W2.heap[w.heap.size + 1]? = some (.cells ([]++(Z++[])).toArray 42)):=row_nilB U2.out
 clear U2
 generalize hgA:w.heap.size + 1=gA at *
 obtain ⟨gX,hgX⟩:∃ gX,gX=w.heap.size:=⟨_,rfl⟩
 rw [← hgX] at SX cx T2 ⊢
 have HgX:=hid hgX
 clear hgX
 go_wp2_with (first
  | ((with_reducible refine wl_load 39 (.tmp 5) ?_ gX 0 ?_ ?_ V _ SX.out Tryz.underlying39 ?_ ZS ?_);iterate 4 exact rfl)
  | ((with_reducible refine wl_buildL 102 [(0,.const (nu 1)),(1,.tmp 12),(2,.tmp 13)] ?_ ?_ MV.toArray ?_ ?_);exact rfl;exact rfl;exact (HBm.out _)))
 refine HMy.out.mono ?_
 rintro e W3 ⟨rfl,hb3⟩
 have A3:=hid hb3
 have B3:Hid (Below w.heap.size w W3):=below_two B2.out hb3
 have U3:=hid (row_kept HU2.out hb3)
 have T3:=hid (row_kept T2.out hb3)
 clear hb3 HBm
 go_wp2_with fail
 refine (HI1.out _ A3.out).mono ?_
 rintro e w1 ⟨rfl,hw1⟩
 subst w1
 have cx3:W3.cell? ⟨gX,2,none⟩=some (nu X.target):=cell_kq cx A3.out
 go_wp2_with fail
 refine (HI2.out _ A3.out).mono ?_
 rintro e w1 ⟨rfl,hw1⟩
 subst w1
 have HZ3:=hid (HZ2.out.kept A3.out)
 have c1:=HZ3.out.cS
 have c2:W3.cell? ⟨bs,k * 68,none⟩=some (nu AN):=by rw [HAN.out];exact HZ3.out.sub hkR 0 _ rfl
 have c3:W3.cell? ⟨gX,0,none⟩=some (nu XN):=by rw [HXN.out];exact srow_number (by rw [← HV.out];exact T3.out) HX.out
 unfold sl at c1
 go_wp2_with fail
 go_quiet (fail)
 have D3:Hid (Below W3.heap.size W3 (W3.drewN nq)):=below_dn (Below.refl _ _) _
 generalize W3.drewN nq=W4 at *
 have HZ4:=hid (HZ3.out.kept D3.out)
 have B4:=hid (below_two B3.out D3.out)
 have U4:=hid (row_kept U3.out D3.out)
 have T4:=hid (row_kept T3.out D3.out)
 clear c1 c2 c3
 have c1:=HZ4.out.cS
 have c2:W4.cell? ⟨bs,k * 68,none⟩=some (nu AN):=by rw [HAN.out];exact HZ4.out.sub hkR 0 _ rfl
 have c3:W4.cell? ⟨gX,0,none⟩=some (nu XN):=by rw [HXN.out];exact srow_number (by rw [← HV.out];exact T4.out) HX.out
 unfold sl at c1
 go_wp2_with fail
 go_quiet (fail)
 have D4:Hid (Below W4.heap.size W4 (W4.drewN nq)):=below_dn (Below.refl _ _) _
 generalize W4.drewN nq=W5 at *
 have HZ5:=hid (HZ4.out.kept D4.out)
 have B5:=hid (below_two B4.out D4.out)
 have U5:=hid (row_kept U4.out D4.out)
 have T5:=hid (row_kept T4.out D4.out)
 clear c1 c2 c3
 go_wp2_with (first
  | ((with_reducible refine wl_build 42 ?_ ?_ Z.toArray (HBd.out _) ?_);exact rfl;exact rfl)
  | ((with_reducible refine wl_put 42 (.tmp 6) (.tmp 71) ?_ ?_ gA 0 ?_ ?_ [] Z Z [] ?_ 42 U5.out rfl rfl OZ.out IZ ?_);exact rfl;exact rfl;exact rfl;exact rfl;exact rfl;intro wF rF bF))
 have rG:wF.heap[gA]? = some (.cells Z.toArray 42):=by simpa using rF
 refine bodyPost_ret_by (results_ct (fn:=Tryz.f15) (p:=6) (u:=7) (ty:=42) (by kernel_rfl) _ _ gA 42 Z.toArray (0,0) _ rfl rG Tryz.underlying42 rfl (by rw [List.size_toArray];exact IZ)) rfl ?_
 exact HEnd.out _ (bF.below B5.out (by omega))
theorem rsub_g {w:World} {x:Nat} {G:List Nat} {R:Rs} (h:RY w x G R) {k:Nat} {X:Sub} (hx:X.Wf) (hok:subOk R (k:Int) X=true) (h4:X.number=(R.reg (k:Int)).asked.number + 1) (h5:fullB R=true) :
  Calls Tryz.prog 15 #[pt x 0,nu (k:Int),.agg (subC X).toArray] w (RSub w x G R (k:Int) X):=by
 have hcode:subE R (k:Int) X=11:=by unfold subE;rw [if_neg (by rw [hok];simp),if_neg (by omega),if_neg (by omega),if_pos h5]
 have HEnd:Hid (∀ w',Below w.heap.size w w'→RSub w x G R (k:Int) X (.returned (.tuple #[.agg (repC zeroR (.slice none 0 0)).toArray,nu 11])) w'):=fun w' hb=>by
  have:=rsub_err h (c:=(k:Int)) (X:=X) (by rw [hcode];decide) hb
  rwa [hcode] at this
 obtain ⟨h1,h2,h3⟩:hasB R.n (k:Int)=true∧hasB R.n X.target=true∧mayB (subM (k:Int) X)=true:=by simpa [subOk,Bool.and_eq_true] using hok
 obtain ⟨hkn,-⟩:=subOk_parts hok
 have hkR:k < R.n:=by omega
 have B1:=hid (below_a1 w (.cells (subC X).toArray 39))
 have B2:=hid (below_two B1.out (below_a1 (w.alloc (.cells (subC X).toArray 39)) (.cells (repC zeroR (.slice none 0 0)).toArray 42)))
 have T2:=hid (row_kept (top_obj w (.cells (subC X).toArray 39)) (below_a1 (w.alloc (.cells (subC X).toArray 39)) (.cells (repC zeroR (.slice none 0 0)).toArray 42)))
 have U2:=hid (top_obj (w.alloc (.cells (subC X).toArray 39)) (.cells (repC zeroR (.slice none 0 0)).toArray 42))
 have e1:(w.alloc (.cells (subC X).toArray 39)).heap.size=w.heap.size + 1:=Array.size_push _
 rw [e1] at U2
 have H2:=hid (h.kept B2.out)
 have ZR:=zeroRep
 have IZ:(Tryz.prog.info? 42).map (·.size)=some (repC zeroR (.slice none 0 0)).length:=by rw [repC_len wfZeroR];exact sizeRep
 have OZ:=hid (one_rep zeroR (.slice none 0 0) rfl)
 have HBd:=hid build_rep
 have ZS:(Tryz.prog.info? 39).map (·.size)=some (subC X).length:=by rw [subC_len hx];exact sizeSub
 have SX:=hid (row_seg (off:=0) (A:=[]) (cs:=subC X) (C:=[]) T2.out (by simp) rfl)
 have cx:=srow_target T2.out hx
 have HBm:=hid (fun W=>build_subm W (k:Int) X hx)
 have HMy:=hid (rmay (vP:=.slice none 0 0) (vN:=.slice none 0 0) (sub_wf (c:=(k:Int)) hx) i64_zero (PensAt.nil ((w.alloc (.cells (subC X).toArray 39)).alloc (.cells (repC zeroR (.slice none 0 0)).toArray 42))) (IntsAt.nil _) ⟨Nat.zero_le _,Nat.zero_le _⟩)
 have HI1:=hid (fun (W:World) (hb:Below ((w.alloc (.cells (subC X).toArray 39)).alloc (.cells (repC zeroR (.slice none 0 0)).toArray 42)).heap.size ((w.alloc (.cells (subC X).toArray 39)).alloc (.cells (repC zeroR (.slice none 0 0)).toArray 42)) W)=>r12is_any (H2.out.kept hb) (k:Int))
 have HI2:=hid (fun (W:World) (hb:Below ((w.alloc (.cells (subC X).toArray 39)).alloc (.cells (repC zeroR (.slice none 0 0)).toArray 42)).heap.size ((w.alloc (.cells (subC X).toArray 39)).alloc (.cells (repC zeroR (.slice none 0 0)).toArray 42)) W)=>r12is_any (H2.out.kept hb) X.target)
 obtain ⟨bs,br,bv,bt,ps,vP,Y,hz,hG1,hG2⟩:=h
 have HZ2:=hid (hz.kept B2.out)
 obtain ⟨AN,HAN⟩:∃ AN,Hid (AN=(R.reg (k:Int)).asked.number):=⟨_,rfl⟩
 obtain ⟨XN,HXN⟩:∃ XN,Hid (XN=X.number):=⟨_,rfl⟩
 have HX:=hid hx
 rw [h3] at HMy
 rw [h1] at HI1
 rw [h2] at HI2
 have hd:(XN == AN)=false:=beq_false_of_ne (by rw [HXN.out,HAN.out,h4];omega)
 have hanb:=(hz.inv.reg (k:Int)).num
 rw [← HAN.out] at hanb
 obtain ⟨pa,pcap,hvP,hpcap,-⟩:=hz.pens
 have HVP:=hid hvP
 clear hvP
 have hl1:=hz.inv.long
 have hl2:=hz.inv.plen
 have hd2:(XN != AN + 1)=false:=by
  have e:XN=AN + 1:=by rw [HXN.out,HAN.out];exact h4
  rw [e];exact bne_self_eq_false _
 have hfu:512 ≤ R.long.length + R.pend.length ∨ 8 ≤ R.pend.length:=by simpa [fullB] using h5
 clear hcode h1 h2 h3 hok hkn h4 h5 hz hG1 hG2 hx
 show Calls _ _ _ _ (fun e w'=>RSub w x G R (k:Int) X e w')
 generalize msgC (subM (k:Int) X) (.slice none 0 0) (.slice none 0 0)=MV at *
 generalize repC zeroR (.slice none 0 0)=Z at *
 obtain ⟨V,HV⟩:∃ V,Hid (V=subC X):=⟨_,rfl⟩
 rw [← HV.out] at B1 B2 T2 U2 H2 e1 ZS SX cx HBm HMy HI1 HI2 HZ2 ⊢
 have hgs:w.heap.size < w.heap.size + 1:=Nat.lt_succ_self _
 go_enter Tryz.func15,Tryz.ntmps15
 go_upto_region 1 with (first | ((with_reducible refine wl_alloc 42 ?_ ?_ Z.toArray ZR ?_);exact rfl;exact rfl))
 generalize w.alloc (.cells V.toArray 39)=W1 at *
 generalize W1.alloc (.cells Z.toArray 42)=W2 at *
 try simp only [Act.put,List.setIfInBounds_toArray,List.set_cons_zero,List.set_cons_succ,e1]
 clear e1
 have HU2:Hid (W2.heap[w.heap.size + 1]? = some (.cells ([]++(Z++[])).toArray 42)):=row_nilB U2.out
 clear U2
 generalize hgA:w.heap.size + 1=gA at *
 obtain ⟨gX,hgX⟩:∃ gX,gX=w.heap.size:=⟨_,rfl⟩
 rw [← hgX] at SX cx T2 ⊢
 have HgX:=hid hgX
 clear hgX
 go_wp2_with (first
  | ((with_reducible refine wl_load 39 (.tmp 5) ?_ gX 0 ?_ ?_ V _ SX.out Tryz.underlying39 ?_ ZS ?_);iterate 4 exact rfl)
  | ((with_reducible refine wl_buildL 102 [(0,.const (nu 1)),(1,.tmp 12),(2,.tmp 13)] ?_ ?_ MV.toArray ?_ ?_);exact rfl;exact rfl;exact (HBm.out _)))
 refine HMy.out.mono ?_
 rintro e W3 ⟨rfl,hb3⟩
 have A3:=hid hb3
 have B3:Hid (Below w.heap.size w W3):=below_two B2.out hb3
 have U3:=hid (row_kept HU2.out hb3)
 have T3:=hid (row_kept T2.out hb3)
 clear hb3 HBm
 go_wp2_with fail
 refine (HI1.out _ A3.out).mono ?_
 rintro e w1 ⟨rfl,hw1⟩
 subst w1
 have cx3:W3.cell? ⟨gX,2,none⟩=some (nu X.target):=cell_kq cx A3.out
 go_wp2_with fail
 refine (HI2.out _ A3.out).mono ?_
 rintro e w1 ⟨rfl,hw1⟩
 subst w1
 have HZ3:=hid (HZ2.out.kept A3.out)
 have c1:=HZ3.out.cS
 have c2:W3.cell? ⟨bs,k * 68,none⟩=some (nu AN):=by rw [HAN.out];exact HZ3.out.sub hkR 0 _ rfl
 have c3:W3.cell? ⟨gX,0,none⟩=some (nu XN):=by rw [HXN.out];exact srow_number (by rw [← HV.out];exact T3.out) HX.out
 unfold sl at c1
 go_wp2_with fail
 go_quiet (fail)
 have D3:Hid (Below W3.heap.size W3 (W3.drewN nq)):=below_dn (Below.refl _ _) _
 generalize W3.drewN nq=W4 at *
 have HZ4:=hid (HZ3.out.kept D3.out)
 have B4:=hid (below_two B3.out D3.out)
 have U4:=hid (row_kept U3.out D3.out)
 have T4:=hid (row_kept T3.out D3.out)
 clear c1 c2 c3
 have c1:=HZ4.out.cS
 have c2:W4.cell? ⟨bs,k * 68,none⟩=some (nu AN):=by rw [HAN.out];exact HZ4.out.sub hkR 0 _ rfl
 have c3:W4.cell? ⟨gX,0,none⟩=some (nu XN):=by rw [HXN.out];exact srow_number (by rw [← HV.out];exact T4.out) HX.out
 unfold sl at c1
 go_wp2_with fail
 go_quiet (fail)
 have D4:Hid (Below W4.heap.size W4 (W4.drewN nq)):=below_dn (Below.refl _ _) _
 generalize W4.drewN nq=W5 at *
 have HZ5:=hid (HZ4.out.kept D4.out)
 have B5:=hid (below_two B4.out D4.out)
 have U5:=hid (row_kept U4.out D4.out)
 have T5:=hid (row_kept T4.out D4.out)
 clear c1 c2 c3
 have c4:=HZ5.out.cL
 have c5:=HZ5.out.cP
 rw [HVP.out] at c5
 by_cases h6:512 ≤ R.long.length + R.pend.length
 ·have f1:decide ((512:Int) ≤ (R.long.length:Int) + (R.pend.length:Int))=true:=decide_eq_true (by omega)
  go_wp2_with fail
  go_quiet (fail)
  have D5:Hid (Below W5.heap.size W5 (W5.drewN nq)):=below_dn (Below.refl _ _) _
  generalize W5.drewN nq=W6 at *
  have B6:=hid (below_two B5.out D5.out)
  have U6:=hid (row_kept U5.out D5.out)
  clear c4 c5
  go_wp2_with (first
   | ((with_reducible refine wl_build 42 ?_ ?_ Z.toArray (HBd.out _) ?_);exact rfl;exact rfl)
   | ((with_reducible refine wl_put 42 (.tmp 6) (.tmp 92) ?_ ?_ gA 0 ?_ ?_ [] Z Z [] ?_ 42 U6.out rfl rfl OZ.out IZ ?_);exact rfl;exact rfl;exact rfl;exact rfl;exact rfl;intro wF rF bF))
  have rG:wF.heap[gA]? = some (.cells Z.toArray 42):=by simpa using rF
  refine bodyPost_ret_by (results_ct (fn:=Tryz.f15) (p:=6) (u:=7) (ty:=42) (by kernel_rfl) _ _ gA 42 Z.toArray (0,0) _ rfl rG Tryz.underlying42 rfl (by rw [List.size_toArray];exact IZ)) rfl ?_
  exact HEnd.out _ (bF.below B6.out (by omega))
 ·have f1:decide ((512:Int) ≤ (R.long.length:Int) + (R.pend.length:Int))=false:=decide_eq_false (by omega)
  have f2:decide ((8:Int) ≤ (R.pend.length:Int))=true:=decide_eq_true (by omega)
  have f2':decide (8 ≤ R.pend.length)=true:=decide_eq_true (by omega)
  go_wp2_with fail
  go_quiet (fail)
  have D5:Hid (Below W5.heap.size W5 (W5.drewN nq)):=below_dn (Below.refl _ _) _
  generalize W5.drewN nq=W6 at *
  have B6:=hid (below_two B5.out D5.out)
  have U6:=hid (row_kept U5.out D5.out)
  clear c4 c5
  go_wp2_with (first
   | ((with_reducible refine wl_build 42 ?_ ?_ Z.toArray (HBd.out _) ?_);exact rfl;exact rfl)
   | ((with_reducible refine wl_put 42 (.tmp 6) (.tmp 92) ?_ ?_ gA 0 ?_ ?_ [] Z Z [] ?_ 42 U6.out rfl rfl OZ.out IZ ?_);exact rfl;exact rfl;exact rfl;exact rfl;exact rfl;intro wF rF bF))
  have rG:wF.heap[gA]? = some (.cells Z.toArray 42):=by simpa using rF
  refine bodyPost_ret_by (results_ct (fn:=Tryz.f15) (p:=6) (u:=7) (ty:=42) (by kernel_rfl) _ _ gA 42 Z.toArray (0,0) _ rfl rG Tryz.underlying42 rfl (by rw [List.size_toArray];exact IZ)) rfl ?_
  exact HEnd.out _ (bF.below B6.out (by omega))
end Go.Proofs.YthkkjjlpahdagaaGreatDoor.Ms
