/- Tfrs -/
import Derived.Test.YtagmnmoaekbffaaGreatDoorU02
import Derived.Test.YtagmnmoaekbffaaGreatDoorTfri
set_option maxHeartbeats 8000000
namespace Go.Proofs.YtagmnmoaekbffaaGreatDoor.Ms
open Go.Proofs.Tryz
open Go Go.RowKit
set_option maxRecDepth 100000
theorem guardSub:prog.eqGuardType prog.depth 40=false:=by kernel_rfl
def RSub (w:World) (x:Nat) (G:List Nat) (R:Rs) (c:Int) (X:Sub) (e:Ending) (w':World):Prop:=∃ u G',e = .returned (.tuple #[.agg (repC (subY R c X) u).toArray,nu (subE R c X)])/\RY w' x G' (subR R c X)/\a0g w' u (subY R c X).pend/\Kp G w w'/\∀ b ∈ G',b ∈ G ∨ w.heap.size <= b
theorem f0h {w w':World} {x:Nat} {G:List Nat} {R:Rs} (h:RY w x G R) {c:Int} {X:Sub} (he:subE R c X ≠ 0) (hb:Below w.heap.size w w'):RSub w x G R c X (.returned (.tuple #[.agg (repC a0p (.slice none 0 0)).toArray,nu (subE R c X)])) w':=by
 have e1:subY R c X=a0p:=by unfold subY;rw [if_pos he]
 have e2:subR R c X=R:=by unfold subR;rw [if_pos he]
 refine ⟨.slice none 0 0,G,by rw [e1],by rw [e2];exact h.kept hb,by rw [e1];exact a0g.nil w',Kp.of hb,fun b hb=>Or.inl hb⟩
theorem w0B {w:World} {x:Nat} {G:List Nat} {R:Rs} (h:RY w x G R) {c:Int} {X:Sub} (hx:X.Wf) (hm:mayB (subM c X)=false) :
  Calls prog 10 #[pt x 0,nu c,.agg (subC X).toArray] w (RSub w x G R c X):=by
 have hcode:subE R c X=2:=by unfold subE c0R;rw [hm,Bool.and_false,Bool.and_false,if_pos rfl]
 have HEnd:Hid (∀ w',Below w.heap.size w w'->RSub w x G R c X (.returned (.tuple #[.agg (repC a0p (.slice none 0 0)).toArray,nu 2])) w'):=fun w' hb=>by
  have:=f0h h (c:=c) (X:=X) (by rw [hcode];decide) hb
  rwa [hcode] at this
 have B1:=hid (a0c w (.cells (subC X).toArray 40));have B2:=hid (a0b B1.out (a0c (w.alloc (.cells (subC X).toArray 40)) (.cells (repC a0p (.slice none 0 0)).toArray 44)));have T2:=hid (a0a (a0f w (.cells (subC X).toArray 40)) (a0c (w.alloc (.cells (subC X).toArray 40)) (.cells (repC a0p (.slice none 0 0)).toArray 44)));have U2:=hid (a0f (w.alloc (.cells (subC X).toArray 40)) (.cells (repC a0p (.slice none 0 0)).toArray 44));have e1:(w.alloc (.cells (subC X).toArray 40)).heap.size=w.heap.size + 1:=Array.size_push _;rw [e1] at U2;have H2:=hid (h.kept B2.out);have ZR:=zeroRep;have IZ:(prog.info? 44).map (·.size)=some (repC a0p (.slice none 0 0)).length:=by rw [a0j wfZeroR];exact sizeRep
 have OZ:=hid (c0I a0p (.slice none 0 0) rfl);have HBd:=hid d0i;have ZS:(prog.info? 40).map (·.size)=some (subC X).length:=by rw [a0h hx];exact sizeSub
 have SX:=hid (a0s (off:=0) (A:=[]) (cs:=subC X) (C:=[]) T2.out (by simp) rfl);have cx:=a0O T2.out hx;have HBm:=hid (fun W=>c0g W c X hx);have HMy:=hid (rmay (vP:=.slice none 0 0) (vN:=.slice none 0 0) (g0F (c:=c) hx) a0r (a0g.nil ((w.alloc (.cells (subC X).toArray 40)).alloc (.cells (repC a0p (.slice none 0 0)).toArray 44))) (a0w.nil _) ⟨Nat.zero_le _,Nat.zero_le _⟩ (Or.inl rfl));have HI1:=hid (fun (W:World) (hb:Below ((w.alloc (.cells (subC X).toArray 40)).alloc (.cells (repC a0p (.slice none 0 0)).toArray 44)).heap.size ((w.alloc (.cells (subC X).toArray 40)).alloc (.cells (repC a0p (.slice none 0 0)).toArray 44)) W)=>a0F (H2.out.kept hb) c);have HI2:=hid (fun (W:World) (hb:Below ((w.alloc (.cells (subC X).toArray 40)).alloc (.cells (repC a0p (.slice none 0 0)).toArray 44)).heap.size ((w.alloc (.cells (subC X).toArray 40)).alloc (.cells (repC a0p (.slice none 0 0)).toArray 44)) W)=>a0F (H2.out.kept hb) X.target);rw [hm] at HMy;clear h hcode hm;show Calls _ _ _ _ (fun e w'=>RSub w x G R c X e w');generalize msgC (subM c X) (.slice none 0 0) (.slice none 0 0)=MV at *;generalize repC a0p (.slice none 0 0)=Z at *;obtain ⟨V,HV⟩:∃ V,Hid (V=subC X):=⟨_,rfl⟩;rw [← HV.out] at B1 B2 T2 U2 H2 e1 ZS SX cx HBm HMy HI1 HI2 ⊢;have hgs:w.heap.size < w.heap.size + 1:=Nat.lt_succ_self _;go_enter func10,ntmps10;go_upto_region 1 with (first | ((with_reducible refine a0G 44 ?_ ?_ Z.toArray ZR ?_);exact rfl;exact rfl))
 generalize w.alloc (.cells V.toArray 40)=W1 at *;generalize W1.alloc (.cells Z.toArray 44)=W2 at *
 try simp only [Act.put,List.setIfInBounds_toArray,List.set_cons_zero,List.set_cons_succ,e1]
 clear e1;have HU2:Hid (W2.heap[w.heap.size + 1]? = some (.cells ([]++(Z++[])).toArray 44)):=d0d U2.out;clear U2;generalize hgA:w.heap.size + 1=gA at *;obtain ⟨gX,hgX⟩:∃ gX,gX=w.heap.size:=⟨_,rfl⟩;rw [← hgX] at SX cx T2 ⊢;have HgX:=hid hgX;clear hgX
 go_wp2_with (first
  | ((with_reducible refine a0d 40 (.tmp 5) ?_ gX 0 ?_ ?_ V _ SX.out underlying40 ?_ ZS ?_);iterate 4 exact rfl)
  | ((with_reducible refine b0t 80 [(0,.const (nu 1)),(1,.tmp 12),(2,.tmp 13)] ?_ ?_ MV.toArray ?_ ?_);exact rfl;exact rfl;exact (HBm.out _)))
 refine HMy.out.mono ?_;rintro e W3 ⟨rfl,hb3⟩;have A3:=hid hb3;have B3:Hid (Below w.heap.size w W3):=a0b B2.out hb3;have U3:=hid (a0a HU2.out hb3);have T3:=hid (a0a T2.out hb3);clear hb3 HBm
 go_wp2_with (first
  | ((with_reducible refine c0c 44 ?_ ?_ Z.toArray (HBd.out _) ?_);exact rfl;exact rfl)
  | ((with_reducible refine b0b 44 (.tmp 6) (.tmp 30) ?_ ?_ gA 0 ?_ ?_ [] Z Z [] ?_ 44 U3.out rfl rfl OZ.out IZ ?_);exact rfl;exact rfl;exact rfl;exact rfl;exact rfl;intro wF rF bF))
 have rG:wF.heap[gA]? = some (.cells Z.toArray 44):=by simpa using rF
 refine bodyPost_ret_by (c0h (fn:=Tryz.f10) (p:=6) (u:=7) (ty:=44) (by kernel_rfl) _ _ gA 44 Z.toArray (0,0) _ rfl rG underlying44 rfl (by rw [List.size_toArray];exact IZ)) rfl ?_;exact HEnd.out _ (bF.below B3.out (by omega))
theorem w0C {w:World} {x:Nat} {G:List Nat} {R:Rs} (h:RY w x G R) {c:Int} {X:Sub} (hx:X.Wf) (hm:mayB (subM c X)=true) (hh:hasB R.n c=false) :
  Calls prog 10 #[pt x 0,nu c,.agg (subC X).toArray] w (RSub w x G R c X):=by
 have hcode:subE R c X=2:=by unfold subE c0R;rw [hh,Bool.false_and,if_pos rfl]
 have HEnd:Hid (∀ w',Below w.heap.size w w'->RSub w x G R c X (.returned (.tuple #[.agg (repC a0p (.slice none 0 0)).toArray,nu 2])) w'):=fun w' hb=>by
  have:=f0h h (c:=c) (X:=X) (by rw [hcode];decide) hb
  rwa [hcode] at this
 have B1:=hid (a0c w (.cells (subC X).toArray 40));have B2:=hid (a0b B1.out (a0c (w.alloc (.cells (subC X).toArray 40)) (.cells (repC a0p (.slice none 0 0)).toArray 44)));have T2:=hid (a0a (a0f w (.cells (subC X).toArray 40)) (a0c (w.alloc (.cells (subC X).toArray 40)) (.cells (repC a0p (.slice none 0 0)).toArray 44)));have U2:=hid (a0f (w.alloc (.cells (subC X).toArray 40)) (.cells (repC a0p (.slice none 0 0)).toArray 44));have e1:(w.alloc (.cells (subC X).toArray 40)).heap.size=w.heap.size + 1:=Array.size_push _;rw [e1] at U2;have H2:=hid (h.kept B2.out);have ZR:=zeroRep;have IZ:(prog.info? 44).map (·.size)=some (repC a0p (.slice none 0 0)).length:=by rw [a0j wfZeroR];exact sizeRep
 have OZ:=hid (c0I a0p (.slice none 0 0) rfl);have HBd:=hid d0i;have ZS:(prog.info? 40).map (·.size)=some (subC X).length:=by rw [a0h hx];exact sizeSub
 have SX:=hid (a0s (off:=0) (A:=[]) (cs:=subC X) (C:=[]) T2.out (by simp) rfl);have cx:=a0O T2.out hx;have HBm:=hid (fun W=>c0g W c X hx);have HMy:=hid (rmay (vP:=.slice none 0 0) (vN:=.slice none 0 0) (g0F (c:=c) hx) a0r (a0g.nil ((w.alloc (.cells (subC X).toArray 40)).alloc (.cells (repC a0p (.slice none 0 0)).toArray 44))) (a0w.nil _) ⟨Nat.zero_le _,Nat.zero_le _⟩ (Or.inl rfl));have HI1:=hid (fun (W:World) (hb:Below ((w.alloc (.cells (subC X).toArray 40)).alloc (.cells (repC a0p (.slice none 0 0)).toArray 44)).heap.size ((w.alloc (.cells (subC X).toArray 40)).alloc (.cells (repC a0p (.slice none 0 0)).toArray 44)) W)=>a0F (H2.out.kept hb) c);have HI2:=hid (fun (W:World) (hb:Below ((w.alloc (.cells (subC X).toArray 40)).alloc (.cells (repC a0p (.slice none 0 0)).toArray 44)).heap.size ((w.alloc (.cells (subC X).toArray 40)).alloc (.cells (repC a0p (.slice none 0 0)).toArray 44)) W)=>a0F (H2.out.kept hb) X.target);rw [hm] at HMy;rw [hh] at HI1;clear h hcode hm hh;show Calls _ _ _ _ (fun e w'=>RSub w x G R c X e w');generalize msgC (subM c X) (.slice none 0 0) (.slice none 0 0)=MV at *;generalize repC a0p (.slice none 0 0)=Z at *;obtain ⟨V,HV⟩:∃ V,Hid (V=subC X):=⟨_,rfl⟩;rw [← HV.out] at B1 B2 T2 U2 H2 e1 ZS SX cx HBm HMy HI1 HI2 ⊢;have hgs:w.heap.size < w.heap.size + 1:=Nat.lt_succ_self _;go_enter func10,ntmps10;go_upto_region 1 with (first | ((with_reducible refine a0G 44 ?_ ?_ Z.toArray ZR ?_);exact rfl;exact rfl))
 generalize w.alloc (.cells V.toArray 40)=W1 at *;generalize W1.alloc (.cells Z.toArray 44)=W2 at *
 try simp only [Act.put,List.setIfInBounds_toArray,List.set_cons_zero,List.set_cons_succ,e1]
 clear e1;have HU2:Hid (W2.heap[w.heap.size + 1]? = some (.cells ([]++(Z++[])).toArray 44)):=d0d U2.out;clear U2;generalize hgA:w.heap.size + 1=gA at *;obtain ⟨gX,hgX⟩:∃ gX,gX=w.heap.size:=⟨_,rfl⟩;rw [← hgX] at SX cx T2 ⊢;have HgX:=hid hgX;clear hgX
 go_wp2_with (first
  | ((with_reducible refine a0d 40 (.tmp 5) ?_ gX 0 ?_ ?_ V _ SX.out underlying40 ?_ ZS ?_);iterate 4 exact rfl)
  | ((with_reducible refine b0t 80 [(0,.const (nu 1)),(1,.tmp 12),(2,.tmp 13)] ?_ ?_ MV.toArray ?_ ?_);exact rfl;exact rfl;exact (HBm.out _)))
 refine HMy.out.mono ?_;rintro e W3 ⟨rfl,hb3⟩;have A3:=hid hb3;have B3:Hid (Below w.heap.size w W3):=a0b B2.out hb3;have U3:=hid (a0a HU2.out hb3);have T3:=hid (a0a T2.out hb3);clear hb3 HBm
 go_wp2_with fail
 refine (HI1.out _ A3.out).mono ?_;rintro e w1 ⟨rfl,hw1⟩;subst w1
 go_wp2_with (first
  | ((with_reducible refine c0c 44 ?_ ?_ Z.toArray (HBd.out _) ?_);exact rfl;exact rfl)
  | ((with_reducible refine b0b 44 (.tmp 6) (.tmp 30) ?_ ?_ gA 0 ?_ ?_ [] Z Z [] ?_ 44 U3.out rfl rfl OZ.out IZ ?_);exact rfl;exact rfl;exact rfl;exact rfl;exact rfl;intro wF rF bF))
 have rG:wF.heap[gA]? = some (.cells Z.toArray 44):=by simpa using rF
 refine bodyPost_ret_by (c0h (fn:=Tryz.f10) (p:=6) (u:=7) (ty:=44) (by kernel_rfl) _ _ gA 44 Z.toArray (0,0) _ rfl rG underlying44 rfl (by rw [List.size_toArray];exact IZ)) rfl ?_;exact HEnd.out _ (bF.below B3.out (by omega))
theorem w0D {w:World} {x:Nat} {G:List Nat} {R:Rs} (h:RY w x G R) {c:Int} {X:Sub} (hx:X.Wf) (hm:mayB (subM c X)=true) (hh:hasB R.n c=true) (hg:hasB R.n X.target=false) :
  Calls prog 10 #[pt x 0,nu c,.agg (subC X).toArray] w (RSub w x G R c X):=by
 have hcode:subE R c X=2:=by unfold subE c0R;rw [hg,Bool.false_and,Bool.and_false,if_pos rfl]
 have HEnd:Hid (∀ w',Below w.heap.size w w'->RSub w x G R c X (.returned (.tuple #[.agg (repC a0p (.slice none 0 0)).toArray,nu 2])) w'):=fun w' hb=>by
  have:=f0h h (c:=c) (X:=X) (by rw [hcode];decide) hb
  rwa [hcode] at this
 have B1:=hid (a0c w (.cells (subC X).toArray 40));have B2:=hid (a0b B1.out (a0c (w.alloc (.cells (subC X).toArray 40)) (.cells (repC a0p (.slice none 0 0)).toArray 44)));have T2:=hid (a0a (a0f w (.cells (subC X).toArray 40)) (a0c (w.alloc (.cells (subC X).toArray 40)) (.cells (repC a0p (.slice none 0 0)).toArray 44)));have U2:=hid (a0f (w.alloc (.cells (subC X).toArray 40)) (.cells (repC a0p (.slice none 0 0)).toArray 44));have e1:(w.alloc (.cells (subC X).toArray 40)).heap.size=w.heap.size + 1:=Array.size_push _;rw [e1] at U2;have H2:=hid (h.kept B2.out);have ZR:=zeroRep;have IZ:(prog.info? 44).map (·.size)=some (repC a0p (.slice none 0 0)).length:=by rw [a0j wfZeroR];exact sizeRep
 have OZ:=hid (c0I a0p (.slice none 0 0) rfl);have HBd:=hid d0i;have ZS:(prog.info? 40).map (·.size)=some (subC X).length:=by rw [a0h hx];exact sizeSub
 have SX:=hid (a0s (off:=0) (A:=[]) (cs:=subC X) (C:=[]) T2.out (by simp) rfl);have cx:=a0O T2.out hx;have HBm:=hid (fun W=>c0g W c X hx);have HMy:=hid (rmay (vP:=.slice none 0 0) (vN:=.slice none 0 0) (g0F (c:=c) hx) a0r (a0g.nil ((w.alloc (.cells (subC X).toArray 40)).alloc (.cells (repC a0p (.slice none 0 0)).toArray 44))) (a0w.nil _) ⟨Nat.zero_le _,Nat.zero_le _⟩ (Or.inl rfl));have HI1:=hid (fun (W:World) (hb:Below ((w.alloc (.cells (subC X).toArray 40)).alloc (.cells (repC a0p (.slice none 0 0)).toArray 44)).heap.size ((w.alloc (.cells (subC X).toArray 40)).alloc (.cells (repC a0p (.slice none 0 0)).toArray 44)) W)=>a0F (H2.out.kept hb) c);have HI2:=hid (fun (W:World) (hb:Below ((w.alloc (.cells (subC X).toArray 40)).alloc (.cells (repC a0p (.slice none 0 0)).toArray 44)).heap.size ((w.alloc (.cells (subC X).toArray 40)).alloc (.cells (repC a0p (.slice none 0 0)).toArray 44)) W)=>a0F (H2.out.kept hb) X.target);rw [hm] at HMy;rw [hh] at HI1;rw [hg] at HI2;clear h hcode hm hh hg;show Calls _ _ _ _ (fun e w'=>RSub w x G R c X e w');generalize msgC (subM c X) (.slice none 0 0) (.slice none 0 0)=MV at *;generalize repC a0p (.slice none 0 0)=Z at *;obtain ⟨V,HV⟩:∃ V,Hid (V=subC X):=⟨_,rfl⟩;rw [← HV.out] at B1 B2 T2 U2 H2 e1 ZS SX cx HBm HMy HI1 HI2 ⊢;have hgs:w.heap.size < w.heap.size + 1:=Nat.lt_succ_self _;go_enter func10,ntmps10;go_upto_region 1 with (first | ((with_reducible refine a0G 44 ?_ ?_ Z.toArray ZR ?_);exact rfl;exact rfl))
 generalize w.alloc (.cells V.toArray 40)=W1 at *;generalize W1.alloc (.cells Z.toArray 44)=W2 at *
 try simp only [Act.put,List.setIfInBounds_toArray,List.set_cons_zero,List.set_cons_succ,e1]
 clear e1;have HU2:Hid (W2.heap[w.heap.size + 1]? = some (.cells ([]++(Z++[])).toArray 44)):=d0d U2.out;clear U2;generalize hgA:w.heap.size + 1=gA at *;obtain ⟨gX,hgX⟩:∃ gX,gX=w.heap.size:=⟨_,rfl⟩;rw [← hgX] at SX cx T2 ⊢;have HgX:=hid hgX;clear hgX
 go_wp2_with (first
  | ((with_reducible refine a0d 40 (.tmp 5) ?_ gX 0 ?_ ?_ V _ SX.out underlying40 ?_ ZS ?_);iterate 4 exact rfl)
  | ((with_reducible refine b0t 80 [(0,.const (nu 1)),(1,.tmp 12),(2,.tmp 13)] ?_ ?_ MV.toArray ?_ ?_);exact rfl;exact rfl;exact (HBm.out _)))
 refine HMy.out.mono ?_;rintro e W3 ⟨rfl,hb3⟩;have A3:=hid hb3;have B3:Hid (Below w.heap.size w W3):=a0b B2.out hb3;have U3:=hid (a0a HU2.out hb3);have T3:=hid (a0a T2.out hb3);clear hb3 HBm
 go_wp2_with fail
 refine (HI1.out _ A3.out).mono ?_;rintro e w1 ⟨rfl,hw1⟩;subst w1;have cx3:W3.cell? ⟨gX,2,none⟩=some (nu X.target):=e0r cx A3.out
 go_wp2_with fail
 refine (HI2.out _ A3.out).mono ?_;rintro e w1 ⟨rfl,hw1⟩;subst w1
 go_wp2_with (first
  | ((with_reducible refine c0c 44 ?_ ?_ Z.toArray (HBd.out _) ?_);exact rfl;exact rfl)
  | ((with_reducible refine b0b 44 (.tmp 6) (.tmp 30) ?_ ?_ gA 0 ?_ ?_ [] Z Z [] ?_ 44 U3.out rfl rfl OZ.out IZ ?_);exact rfl;exact rfl;exact rfl;exact rfl;exact rfl;intro wF rF bF))
 have rG:wF.heap[gA]? = some (.cells Z.toArray 44):=by simpa using rF
 refine bodyPost_ret_by (c0h (fn:=Tryz.f10) (p:=6) (u:=7) (ty:=44) (by kernel_rfl) _ _ gA 44 Z.toArray (0,0) _ rfl rG underlying44 rfl (by rw [List.size_toArray];exact IZ)) rfl ?_;exact HEnd.out _ (bF.below B3.out (by omega))
theorem w0E {w:World} {x:Nat} {G:List Nat} {R:Rs} (h:RY w x G R) {k:Nat} {X:Sub} (hx:X.Wf) (hok:c0R R (k:Int) X=true) (h4:X.number=(R.reg (k:Int)).asked.number) (h5:f0s X (R.reg (k:Int)).asked=false) :
  Calls prog 10 #[pt x 0,nu (k:Int),.agg (subC X).toArray] w (RSub w x G R (k:Int) X):=by
 have hcode:subE R (k:Int) X=10:=by unfold subE;rw [if_neg (by rw [hok];simp),if_pos h4,if_neg (by rw [h5];simp)]
 have HEnd:Hid (∀ w',Below w.heap.size w w'->RSub w x G R (k:Int) X (.returned (.tuple #[.agg (repC a0p (.slice none 0 0)).toArray,nu 10])) w'):=fun w' hb=>by
  have:=f0h h (c:=(k:Int)) (X:=X) (by rw [hcode];decide) hb
  rwa [hcode] at this
 obtain ⟨h1,h2,h3⟩:hasB R.n (k:Int)=true/\hasB R.n X.target=true/\mayB (subM (k:Int) X)=true:=by simpa [c0R,Bool.and_eq_true] using hok
 obtain ⟨hkn,-⟩:=b0r hok;have hkR:k < R.n:=by omega
 have B1:=hid (a0c w (.cells (subC X).toArray 40));have B2:=hid (a0b B1.out (a0c (w.alloc (.cells (subC X).toArray 40)) (.cells (repC a0p (.slice none 0 0)).toArray 44)));have T2:=hid (a0a (a0f w (.cells (subC X).toArray 40)) (a0c (w.alloc (.cells (subC X).toArray 40)) (.cells (repC a0p (.slice none 0 0)).toArray 44)));have U2:=hid (a0f (w.alloc (.cells (subC X).toArray 40)) (.cells (repC a0p (.slice none 0 0)).toArray 44));have e1:(w.alloc (.cells (subC X).toArray 40)).heap.size=w.heap.size + 1:=Array.size_push _;rw [e1] at U2;have H2:=hid (h.kept B2.out);have ZR:=zeroRep;have IZ:(prog.info? 44).map (·.size)=some (repC a0p (.slice none 0 0)).length:=by rw [a0j wfZeroR];exact sizeRep
 have OZ:=hid (c0I a0p (.slice none 0 0) rfl);have HBd:=hid d0i;have ZS:(prog.info? 40).map (·.size)=some (subC X).length:=by rw [a0h hx];exact sizeSub
 have SX:=hid (a0s (off:=0) (A:=[]) (cs:=subC X) (C:=[]) T2.out (by simp) rfl);have cx:=a0O T2.out hx;have HBm:=hid (fun W=>c0g W (k:Int) X hx);have HMy:=hid (rmay (vP:=.slice none 0 0) (vN:=.slice none 0 0) (g0F (c:=(k:Int)) hx) a0r (a0g.nil ((w.alloc (.cells (subC X).toArray 40)).alloc (.cells (repC a0p (.slice none 0 0)).toArray 44))) (a0w.nil _) ⟨Nat.zero_le _,Nat.zero_le _⟩ (Or.inl rfl));have HI1:=hid (fun (W:World) (hb:Below ((w.alloc (.cells (subC X).toArray 40)).alloc (.cells (repC a0p (.slice none 0 0)).toArray 44)).heap.size ((w.alloc (.cells (subC X).toArray 40)).alloc (.cells (repC a0p (.slice none 0 0)).toArray 44)) W)=>a0F (H2.out.kept hb) (k:Int));have HI2:=hid (fun (W:World) (hb:Below ((w.alloc (.cells (subC X).toArray 40)).alloc (.cells (repC a0p (.slice none 0 0)).toArray 44)).heap.size ((w.alloc (.cells (subC X).toArray 40)).alloc (.cells (repC a0p (.slice none 0 0)).toArray 44)) W)=>a0F (H2.out.kept hb) X.target);obtain ⟨bs,br,bv,bt,ps,vP,Y,hz,hG1,hG2⟩:=h;have HZ2:=hid (hz.kept B2.out);obtain ⟨AN,HAN⟩:∃ AN,Hid (AN=(R.reg (k:Int)).asked.number):=⟨_,rfl⟩;obtain ⟨XN,HXN⟩:∃ XN,Hid (XN=X.number):=⟨_,rfl⟩;have HX:=hid hx;rw [h3] at HMy;rw [h1] at HI1;rw [h2] at HI2;have hd:(XN == AN)=true:=by rw [HXN.out,HAN.out,h4];exact beq_self_eq_true _
 obtain ⟨SB,HSB⟩:∃ SB,Hid (f0s X (R.reg (k:Int)).asked=SB):=⟨_,rfl⟩;obtain rfl:SB=false:=by rw [← HSB.out];exact h5
 clear hcode h1 h2 h3 hok hkn h4 h5 hz hG1 hG2 hx;show Calls _ _ _ _ (fun e w'=>RSub w x G R (k:Int) X e w');generalize msgC (subM (k:Int) X) (.slice none 0 0) (.slice none 0 0)=MV at *;generalize repC a0p (.slice none 0 0)=Z at *;obtain ⟨V,HV⟩:∃ V,Hid (V=subC X):=⟨_,rfl⟩;rw [← HV.out] at B1 B2 T2 U2 H2 e1 ZS SX cx HBm HMy HI1 HI2 HZ2 ⊢;have hgs:w.heap.size < w.heap.size + 1:=Nat.lt_succ_self _;go_enter func10,ntmps10;go_upto_region 1 with (first | ((with_reducible refine a0G 44 ?_ ?_ Z.toArray ZR ?_);exact rfl;exact rfl))
 generalize w.alloc (.cells V.toArray 40)=W1 at *;generalize W1.alloc (.cells Z.toArray 44)=W2 at *
 try simp only [Act.put,List.setIfInBounds_toArray,List.set_cons_zero,List.set_cons_succ,e1]
 clear e1;have HU2:Hid (W2.heap[w.heap.size + 1]? = some (.cells ([]++(Z++[])).toArray 44)):=d0d U2.out;clear U2;generalize hgA:w.heap.size + 1=gA at *;obtain ⟨gX,hgX⟩:∃ gX,gX=w.heap.size:=⟨_,rfl⟩;rw [← hgX] at SX cx T2 ⊢;have HgX:=hid hgX;clear hgX
 go_wp2_with (first
  | ((with_reducible refine a0d 40 (.tmp 5) ?_ gX 0 ?_ ?_ V _ SX.out underlying40 ?_ ZS ?_);iterate 4 exact rfl)
  | ((with_reducible refine b0t 80 [(0,.const (nu 1)),(1,.tmp 12),(2,.tmp 13)] ?_ ?_ MV.toArray ?_ ?_);exact rfl;exact rfl;exact (HBm.out _)))
 refine HMy.out.mono ?_;rintro e W3 ⟨rfl,hb3⟩;have A3:=hid hb3;have B3:Hid (Below w.heap.size w W3):=a0b B2.out hb3;have U3:=hid (a0a HU2.out hb3);have T3:=hid (a0a T2.out hb3);clear hb3 HBm
 go_wp2_with fail
 refine (HI1.out _ A3.out).mono ?_;rintro e w1 ⟨rfl,hw1⟩;subst w1;have cx3:W3.cell? ⟨gX,2,none⟩=some (nu X.target):=e0r cx A3.out
 go_wp2_with fail
 refine (HI2.out _ A3.out).mono ?_;rintro e w1 ⟨rfl,hw1⟩;subst w1;have HZ3:=hid (HZ2.out.kept A3.out);have c1:=HZ3.out.cS;have c2:W3.cell? ⟨bs,k * 68,none⟩=some (nu AN):=by rw [HAN.out];exact HZ3.out.sub hkR 0 _ rfl
 have c3:W3.cell? ⟨gX,0,none⟩=some (nu XN):=by rw [HXN.out];exact a0N (by rw [← HV.out];exact T3.out) HX.out
 unfold sl at c1
 go_wp2_with fail
 go_quiet (fail)
 have D3:Hid (Below W3.heap.size W3 (W3.drewN nq)):=c0P (Below.refl _ _) _;generalize W3.drewN nq=W4 at *
 go_wp2_with fail
 have D4:=D3;have HZ4:=hid (HZ3.out.kept D3.out);have B4:=hid (a0b B3.out D3.out);have U4:=hid (a0a U3.out D3.out);have T4:=hid (a0a T3.out D3.out);have c4:=HZ4.out.cS;unfold sl at c4;have hwa:=(HZ4.out.inv.reg (k:Int)).asked;have p1:∀ dd os,(Sort.grow (redrawn W4 dd) os).cell? ⟨x,0,none⟩=some (.slice (some ⟨bs,0,none⟩) R.n R.n):=fun dd os=>cell_regrown c4 _ _;have SV4:=hid (fun (W:World) (hW:∃ p:Regrown,W=Sort.grow (redrawn W4 p.d) p.os)=>(by obtain ⟨p,rfl⟩:=hW;exact fun i c hi=>cell_regrown (a0s (off:=0) (A:=[]) (cs:=V) (C:=[]) T4.out (by simp) rfl i c hi) _ _:∀ i c,V[i]? = some c->W.cell? ⟨gX,0 + i,none⟩=some c));have SA4:=hid (fun (W:World) (hW:∃ p:Regrown,W=Sort.grow (redrawn W4 p.d) p.os)=>(by obtain ⟨p,rfl⟩:=hW;exact fun i c hi=>cell_regrown (HZ4.out.sub hkR i c hi) _ _:∀ i c,(subC (R.reg (k:Int)).asked)[i]? = some c->W.cell? ⟨bs,k * 68 + i,none⟩=some c));have ZA:(prog.info? 40).map (·.size)=some (subC (R.reg (k:Int)).asked).length:=by rw [a0h hwa];exact sizeSub
 have EQ:∀ W,(Op.equalIn 10000 40 (.agg V.toArray) (.agg (subC (R.reg (k:Int)).asked).toArray)).run prog W = .ok false W:=by
  intro W;rw [HV.out];have:=a0P W X (R.reg (k:Int)).asked HX.out hwa;rw [HSB.out] at this;exact this
 have hbg:=hid (fun dq osq=>below_regrown W4 dq osq);clear hwa c4;generalize subC (R.reg (k:Int)).asked=SAC at *;refine wp_region_quiet_below (by kernel_rfl) (by kernel_rfl) ?_;refine c0H 40 (.tmp 5) rfl gX 0 rfl rfl V _ (fun w' hw'=>SV4.out w' hw') underlying40 rfl ZS ?_;simp only [Act.put,List.setIfInBounds_toArray,List.set_cons_zero,List.set_cons_succ]
 iterate 6 (first | go_big_quiet_step (fail) | quiet_step (fail))
 refine c0H 40 (.tmp 48) rfl bs (k * 68) rfl rfl SAC _ (fun w' hw'=>SA4.out w' hw') underlying40 rfl ZA ?_;simp only [Act.put,List.setIfInBounds_toArray,List.set_cons_zero,List.set_cons_succ];refine t0s rfl 40 40 (.tmp 42) (.tmp 49) rfl V.toArray SAC.toArray rfl rfl guardSub false EQ ?_;simp only [Act.put,List.setIfInBounds_toArray,List.set_cons_zero,List.set_cons_succ];refine wpQuiet_nil ?_;intro _ hw';obtain ⟨⟨dq,osq⟩,hw''⟩:=hw';subst hw'';have D5:=hid (hbg.out dq osq);clear p1 SV4 SA4 EQ hbg;generalize Sort.grow (redrawn W4 dq) osq=W5 at *;have B5:=hid (a0b B4.out D5.out);have U5:=hid (a0a U4.out D5.out);have HZ5:=hid (HZ4.out.kept D5.out)
 go_wp2_with (first
  | ((with_reducible refine c0c 44 ?_ ?_ Z.toArray (HBd.out _) ?_);exact rfl;exact rfl)
  | ((with_reducible refine b0b 44 (.tmp 6) (.tmp 58) ?_ ?_ gA 0 ?_ ?_ [] Z Z [] ?_ 44 U5.out rfl rfl OZ.out IZ ?_);exact rfl;exact rfl;exact rfl;exact rfl;exact rfl;intro wF rF bF))
 have rG:wF.heap[gA]? = some (.cells Z.toArray 44):=by simpa using rF
 refine bodyPost_ret_by (c0h (fn:=Tryz.f10) (p:=6) (u:=7) (ty:=44) (by kernel_rfl) _ _ gA 44 Z.toArray (0,0) _ rfl rG underlying44 rfl (by rw [List.size_toArray];exact IZ)) rfl ?_;exact HEnd.out _ (bF.below B5.out (by omega))
theorem w0F {w:World} {x:Nat} {G:List Nat} {R:Rs} (h:RY w x G R) {k:Nat} {X:Sub} (hx:X.Wf) (hok:c0R R (k:Int) X=true) (h4:X.number=(R.reg (k:Int)).asked.number) (h5:f0s X (R.reg (k:Int)).asked=true) :
  Calls prog 10 #[pt x 0,nu (k:Int),.agg (subC X).toArray] w (RSub w x G R (k:Int) X):=by
 have hcode:subE R (k:Int) X=0:=by unfold subE;rw [if_neg (by rw [hok];simp),if_pos h4,if_pos h5]
 have hY:subY R (k:Int) X=(R.reg (k:Int)).ans:=by unfold subY;rw [if_neg (by rw [hcode];decide),if_pos h4]
 have hRR:subR R (k:Int) X=R:=by unfold subR;rw [if_neg (by rw [hcode];decide),if_pos h4]
 have HEnd:Hid (∀ w' u,Below w.heap.size w w'->a0g w' u (R.reg (k:Int)).ans.pend->RSub w x G R (k:Int) X (.returned (.tuple #[.agg (repC (R.reg (k:Int)).ans u).toArray,nu 0])) w'):=fun w' u hb hp=>⟨u,G,by rw [hcode,hY],by rw [hRR];exact h.kept hb,by rw [hY];exact hp,Kp.of hb,fun b hb=>Or.inl hb⟩;obtain ⟨h1,h2,h3⟩:hasB R.n (k:Int)=true/\hasB R.n X.target=true/\mayB (subM (k:Int) X)=true:=by simpa [c0R,Bool.and_eq_true] using hok
 obtain ⟨hkn,-⟩:=b0r hok;have hkR:k < R.n:=by omega
 have B1:=hid (a0c w (.cells (subC X).toArray 40));have B2:=hid (a0b B1.out (a0c (w.alloc (.cells (subC X).toArray 40)) (.cells (repC a0p (.slice none 0 0)).toArray 44)));have T2:=hid (a0a (a0f w (.cells (subC X).toArray 40)) (a0c (w.alloc (.cells (subC X).toArray 40)) (.cells (repC a0p (.slice none 0 0)).toArray 44)));have U2:=hid (a0f (w.alloc (.cells (subC X).toArray 40)) (.cells (repC a0p (.slice none 0 0)).toArray 44));have e1:(w.alloc (.cells (subC X).toArray 40)).heap.size=w.heap.size + 1:=Array.size_push _;rw [e1] at U2;have H2:=hid (h.kept B2.out);have ZR:=zeroRep;have IZ:(prog.info? 44).map (·.size)=some (repC a0p (.slice none 0 0)).length:=by rw [a0j wfZeroR];exact sizeRep
 have OZ:=hid (c0I a0p (.slice none 0 0) rfl);have HBd:=hid d0i;have ZS:(prog.info? 40).map (·.size)=some (subC X).length:=by rw [a0h hx];exact sizeSub
 have SX:=hid (a0s (off:=0) (A:=[]) (cs:=subC X) (C:=[]) T2.out (by simp) rfl);have cx:=a0O T2.out hx;have HBm:=hid (fun W=>c0g W (k:Int) X hx);have HMy:=hid (rmay (vP:=.slice none 0 0) (vN:=.slice none 0 0) (g0F (c:=(k:Int)) hx) a0r (a0g.nil ((w.alloc (.cells (subC X).toArray 40)).alloc (.cells (repC a0p (.slice none 0 0)).toArray 44))) (a0w.nil _) ⟨Nat.zero_le _,Nat.zero_le _⟩ (Or.inl rfl));have HI1:=hid (fun (W:World) (hb:Below ((w.alloc (.cells (subC X).toArray 40)).alloc (.cells (repC a0p (.slice none 0 0)).toArray 44)).heap.size ((w.alloc (.cells (subC X).toArray 40)).alloc (.cells (repC a0p (.slice none 0 0)).toArray 44)) W)=>a0F (H2.out.kept hb) (k:Int));have HI2:=hid (fun (W:World) (hb:Below ((w.alloc (.cells (subC X).toArray 40)).alloc (.cells (repC a0p (.slice none 0 0)).toArray 44)).heap.size ((w.alloc (.cells (subC X).toArray 40)).alloc (.cells (repC a0p (.slice none 0 0)).toArray 44)) W)=>a0F (H2.out.kept hb) X.target);obtain ⟨bs,br,bv,bt,ps,vP,Y,hz,hG1,hG2⟩:=h;have HZ2:=hid (hz.kept B2.out);obtain ⟨AN,HAN⟩:∃ AN,Hid (AN=(R.reg (k:Int)).asked.number):=⟨_,rfl⟩;obtain ⟨XN,HXN⟩:∃ XN,Hid (XN=X.number):=⟨_,rfl⟩;have HX:=hid hx;rw [h3] at HMy;rw [h1] at HI1;rw [h2] at HI2;have hd:(XN == AN)=true:=by rw [HXN.out,HAN.out,h4];exact beq_self_eq_true _
 obtain ⟨SB,HSB⟩:∃ SB,Hid (f0s X (R.reg (k:Int)).asked=SB):=⟨_,rfl⟩;obtain rfl:SB=true:=by rw [← HSB.out];exact h5
 have HLZ:Hid ((repC a0p (.slice none 0 0)).length=103):=a0j wfZeroR _;have HGs:=hid hG1;have HGl:=hid hG2;clear hcode h1 h2 h3 hok hkn h4 h5 hz hG1 hG2 hx hY hRR;show Calls _ _ _ _ (fun e w'=>RSub w x G R (k:Int) X e w');generalize msgC (subM (k:Int) X) (.slice none 0 0) (.slice none 0 0)=MV at *;generalize repC a0p (.slice none 0 0)=Z at *;obtain ⟨V,HV⟩:∃ V,Hid (V=subC X):=⟨_,rfl⟩;rw [← HV.out] at B1 B2 T2 U2 H2 e1 ZS SX cx HBm HMy HI1 HI2 HZ2 ⊢;have hgs:w.heap.size < w.heap.size + 1:=Nat.lt_succ_self _;go_enter func10,ntmps10;go_upto_region 1 with (first | ((with_reducible refine a0G 44 ?_ ?_ Z.toArray ZR ?_);exact rfl;exact rfl))
 generalize w.alloc (.cells V.toArray 40)=W1 at *;generalize W1.alloc (.cells Z.toArray 44)=W2 at *
 try simp only [Act.put,List.setIfInBounds_toArray,List.set_cons_zero,List.set_cons_succ,e1]
 clear e1;have HU2:Hid (W2.heap[w.heap.size + 1]? = some (.cells ([]++(Z++[])).toArray 44)):=d0d U2.out;clear U2;generalize hgA:w.heap.size + 1=gA at *;obtain ⟨gX,hgX⟩:∃ gX,gX=w.heap.size:=⟨_,rfl⟩;rw [← hgX] at SX cx T2 ⊢;have HgX:=hid hgX;clear hgX
 go_wp2_with (first
  | ((with_reducible refine a0d 40 (.tmp 5) ?_ gX 0 ?_ ?_ V _ SX.out underlying40 ?_ ZS ?_);iterate 4 exact rfl)
  | ((with_reducible refine b0t 80 [(0,.const (nu 1)),(1,.tmp 12),(2,.tmp 13)] ?_ ?_ MV.toArray ?_ ?_);exact rfl;exact rfl;exact (HBm.out _)))
 refine HMy.out.mono ?_;rintro e W3 ⟨rfl,hb3⟩;have A3:=hid hb3;have B3:Hid (Below w.heap.size w W3):=a0b B2.out hb3;have U3:=hid (a0a HU2.out hb3);have T3:=hid (a0a T2.out hb3);clear hb3 HBm
 go_wp2_with fail
 refine (HI1.out _ A3.out).mono ?_;rintro e w1 ⟨rfl,hw1⟩;subst w1;have cx3:W3.cell? ⟨gX,2,none⟩=some (nu X.target):=e0r cx A3.out
 go_wp2_with fail
 refine (HI2.out _ A3.out).mono ?_;rintro e w1 ⟨rfl,hw1⟩;subst w1;have HZ3:=hid (HZ2.out.kept A3.out);have c1:=HZ3.out.cS;have c2:W3.cell? ⟨bs,k * 68,none⟩=some (nu AN):=by rw [HAN.out];exact HZ3.out.sub hkR 0 _ rfl
 have c3:W3.cell? ⟨gX,0,none⟩=some (nu XN):=by rw [HXN.out];exact a0N (by rw [← HV.out];exact T3.out) HX.out
 unfold sl at c1
 go_wp2_with fail
 go_quiet (fail)
 have D3:Hid (Below W3.heap.size W3 (W3.drewN nq)):=c0P (Below.refl _ _) _;generalize W3.drewN nq=W4 at *
 go_wp2_with fail
 have D4:=D3;have HZ4:=hid (HZ3.out.kept D3.out);have B4:=hid (a0b B3.out D3.out);have U4:=hid (a0a U3.out D3.out);have T4:=hid (a0a T3.out D3.out);have c4:=HZ4.out.cS;unfold sl at c4;have hwa:=(HZ4.out.inv.reg (k:Int)).asked;have p1:∀ dd os,(Sort.grow (redrawn W4 dd) os).cell? ⟨x,0,none⟩=some (.slice (some ⟨bs,0,none⟩) R.n R.n):=fun dd os=>cell_regrown c4 _ _;have SV4:=hid (fun (W:World) (hW:∃ p:Regrown,W=Sort.grow (redrawn W4 p.d) p.os)=>(by obtain ⟨p,rfl⟩:=hW;exact fun i c hi=>cell_regrown (a0s (off:=0) (A:=[]) (cs:=V) (C:=[]) T4.out (by simp) rfl i c hi) _ _:∀ i c,V[i]? = some c->W.cell? ⟨gX,0 + i,none⟩=some c));have SA4:=hid (fun (W:World) (hW:∃ p:Regrown,W=Sort.grow (redrawn W4 p.d) p.os)=>(by obtain ⟨p,rfl⟩:=hW;exact fun i c hi=>cell_regrown (HZ4.out.sub hkR i c hi) _ _:∀ i c,(subC (R.reg (k:Int)).asked)[i]? = some c->W.cell? ⟨bs,k * 68 + i,none⟩=some c));have ZA:(prog.info? 40).map (·.size)=some (subC (R.reg (k:Int)).asked).length:=by rw [a0h hwa];exact sizeSub
 have EQ:∀ W,(Op.equalIn 10000 40 (.agg V.toArray) (.agg (subC (R.reg (k:Int)).asked).toArray)).run prog W = .ok true W:=by
  intro W;rw [HV.out];have:=a0P W X (R.reg (k:Int)).asked HX.out hwa;rw [HSB.out] at this;exact this
 have hbg:=hid (fun dq osq=>below_regrown W4 dq osq);clear hwa c4;generalize subC (R.reg (k:Int)).asked=SAC at *;refine wp_region_quiet_below (by kernel_rfl) (by kernel_rfl) ?_;refine c0H 40 (.tmp 5) rfl gX 0 rfl rfl V _ (fun w' hw'=>SV4.out w' hw') underlying40 rfl ZS ?_;simp only [Act.put,List.setIfInBounds_toArray,List.set_cons_zero,List.set_cons_succ]
 iterate 6 (first | go_big_quiet_step (fail) | quiet_step (fail))
 refine c0H 40 (.tmp 48) rfl bs (k * 68) rfl rfl SAC _ (fun w' hw'=>SA4.out w' hw') underlying40 rfl ZA ?_;simp only [Act.put,List.setIfInBounds_toArray,List.set_cons_zero,List.set_cons_succ];refine t0s rfl 40 40 (.tmp 42) (.tmp 49) rfl V.toArray SAC.toArray rfl rfl guardSub true EQ ?_;simp only [Act.put,List.setIfInBounds_toArray,List.set_cons_zero,List.set_cons_succ];refine wpQuiet_nil ?_;intro _ hw';obtain ⟨⟨dq,osq⟩,hw''⟩:=hw';subst hw'';have D5:=hid (hbg.out dq osq);clear p1 SV4 SA4 EQ hbg;generalize Sort.grow (redrawn W4 dq) osq=W5 at *;have B5:=hid (a0b B4.out D5.out);have U5:=hid (a0a U4.out D5.out);have HZ5:=hid (HZ4.out.kept D5.out);obtain ⟨u,hpu,SR⟩:=HZ5.out.rep hkR;have hwr:=(HZ5.out.inv.reg (k:Int)).ans;have c5:=HZ5.out.cR;unfold sl at c5;have HSR:=hid SR;have HPU:=hid hpu;have ZRe:(prog.info? 44).map (·.size)=some (repC (R.reg (k:Int)).ans u).length:=by rw [a0j hwr];exact sizeRep
 have LRe:Z.length=(repC (R.reg (k:Int)).ans u).length:=by rw [a0j hwr];exact HLZ.out
 have ORe:=hid (c0I (R.reg (k:Int)).ans u hpu.one)
 have hnA:Hid (∀ b ∈ Y,b ≠ gA):=fun b hb e=>by
  have h1:=HGl.out b (HGs.out b (by simp [hb]));omega
 clear SR hpu hwr;generalize hRC:repC (R.reg (k:Int)).ans u=RC at *;have HRC:=hid hRC;clear hRC
 go_wp2_with (first
  | ((with_reducible refine a0d 44 (.tmp 56) ?_ br (k * 103) ?_ ?_ RC _ HSR.out underlying44 ?_ ZRe ?_);iterate 4 exact rfl)
  | ((with_reducible refine b0b 44 (.tmp 6) (.tmp 57) ?_ ?_ gA 0 ?_ ?_ [] RC Z [] ?_ 44 U5.out rfl LRe ORe.out ZRe ?_);exact rfl;exact rfl;exact rfl;exact rfl;exact rfl;intro wF rF bF))
 have rG:wF.heap[gA]? = some (.cells RC.toArray 44):=by simpa using rF
 refine bodyPost_ret_by (c0h (fn:=Tryz.f10) (p:=6) (u:=7) (ty:=44) (by kernel_rfl) _ _ gA 44 RC.toArray (0,0) _ rfl rG underlying44 rfl (by rw [List.size_toArray];exact ZRe)) rfl ?_;have hfin:=HEnd.out _ u (bF.below B5.out (by omega)) (HPU.out.but bF (fun hy=>hnA.out _ hy rfl)).pens;rw [HRC.out] at hfin;exact hfin
theorem w0G {w:World} {x:Nat} {G:List Nat} {R:Rs} (h:RY w x G R) {k:Nat} {X:Sub} (hx:X.Wf) (hok:c0R R (k:Int) X=true) (h4:X.number ≠ (R.reg (k:Int)).asked.number) (h5:X.number ≠ (R.reg (k:Int)).asked.number + 1) :
  Calls prog 10 #[pt x 0,nu (k:Int),.agg (subC X).toArray] w (RSub w x G R (k:Int) X):=by
 have hcode:subE R (k:Int) X=3:=by unfold subE;rw [if_neg (by rw [hok];simp),if_neg h4,if_pos h5]
 have HEnd:Hid (∀ w',Below w.heap.size w w'->RSub w x G R (k:Int) X (.returned (.tuple #[.agg (repC a0p (.slice none 0 0)).toArray,nu 3])) w'):=fun w' hb=>by
  have:=f0h h (c:=(k:Int)) (X:=X) (by rw [hcode];decide) hb
  rwa [hcode] at this
 obtain ⟨h1,h2,h3⟩:hasB R.n (k:Int)=true/\hasB R.n X.target=true/\mayB (subM (k:Int) X)=true:=by simpa [c0R,Bool.and_eq_true] using hok
 obtain ⟨hkn,-⟩:=b0r hok;have hkR:k < R.n:=by omega
 have B1:=hid (a0c w (.cells (subC X).toArray 40));have B2:=hid (a0b B1.out (a0c (w.alloc (.cells (subC X).toArray 40)) (.cells (repC a0p (.slice none 0 0)).toArray 44)));have T2:=hid (a0a (a0f w (.cells (subC X).toArray 40)) (a0c (w.alloc (.cells (subC X).toArray 40)) (.cells (repC a0p (.slice none 0 0)).toArray 44)));have U2:=hid (a0f (w.alloc (.cells (subC X).toArray 40)) (.cells (repC a0p (.slice none 0 0)).toArray 44));have e1:(w.alloc (.cells (subC X).toArray 40)).heap.size=w.heap.size + 1:=Array.size_push _;rw [e1] at U2;have H2:=hid (h.kept B2.out);have ZR:=zeroRep;have IZ:(prog.info? 44).map (·.size)=some (repC a0p (.slice none 0 0)).length:=by rw [a0j wfZeroR];exact sizeRep
 have OZ:=hid (c0I a0p (.slice none 0 0) rfl);have HBd:=hid d0i;have ZS:(prog.info? 40).map (·.size)=some (subC X).length:=by rw [a0h hx];exact sizeSub
 have SX:=hid (a0s (off:=0) (A:=[]) (cs:=subC X) (C:=[]) T2.out (by simp) rfl);have cx:=a0O T2.out hx;have HBm:=hid (fun W=>c0g W (k:Int) X hx);have HMy:=hid (rmay (vP:=.slice none 0 0) (vN:=.slice none 0 0) (g0F (c:=(k:Int)) hx) a0r (a0g.nil ((w.alloc (.cells (subC X).toArray 40)).alloc (.cells (repC a0p (.slice none 0 0)).toArray 44))) (a0w.nil _) ⟨Nat.zero_le _,Nat.zero_le _⟩ (Or.inl rfl));have HI1:=hid (fun (W:World) (hb:Below ((w.alloc (.cells (subC X).toArray 40)).alloc (.cells (repC a0p (.slice none 0 0)).toArray 44)).heap.size ((w.alloc (.cells (subC X).toArray 40)).alloc (.cells (repC a0p (.slice none 0 0)).toArray 44)) W)=>a0F (H2.out.kept hb) (k:Int));have HI2:=hid (fun (W:World) (hb:Below ((w.alloc (.cells (subC X).toArray 40)).alloc (.cells (repC a0p (.slice none 0 0)).toArray 44)).heap.size ((w.alloc (.cells (subC X).toArray 40)).alloc (.cells (repC a0p (.slice none 0 0)).toArray 44)) W)=>a0F (H2.out.kept hb) X.target);obtain ⟨bs,br,bv,bt,ps,vP,Y,hz,hG1,hG2⟩:=h;have HZ2:=hid (hz.kept B2.out);obtain ⟨AN,HAN⟩:∃ AN,Hid (AN=(R.reg (k:Int)).asked.number):=⟨_,rfl⟩;obtain ⟨XN,HXN⟩:∃ XN,Hid (XN=X.number):=⟨_,rfl⟩;have HX:=hid hx;rw [h3] at HMy;rw [h1] at HI1;rw [h2] at HI2;have hd:(XN == AN)=false:=beq_false_of_ne (by rw [HXN.out,HAN.out];exact h4);have hanb:=(hz.inv.reg (k:Int)).num;rw [← HAN.out] at hanb;have hd2:(XN != AN + 1)=true:=bne_iff_ne.2 (by rw [HXN.out,HAN.out];exact h5);clear hcode h1 h2 h3 hok hkn h4 h5 hz hG1 hG2 hx;show Calls _ _ _ _ (fun e w'=>RSub w x G R (k:Int) X e w');generalize msgC (subM (k:Int) X) (.slice none 0 0) (.slice none 0 0)=MV at *;generalize repC a0p (.slice none 0 0)=Z at *;obtain ⟨V,HV⟩:∃ V,Hid (V=subC X):=⟨_,rfl⟩;rw [← HV.out] at B1 B2 T2 U2 H2 e1 ZS SX cx HBm HMy HI1 HI2 HZ2 ⊢;have hgs:w.heap.size < w.heap.size + 1:=Nat.lt_succ_self _;go_enter func10,ntmps10;go_upto_region 1 with (first | ((with_reducible refine a0G 44 ?_ ?_ Z.toArray ZR ?_);exact rfl;exact rfl))
 generalize w.alloc (.cells V.toArray 40)=W1 at *;generalize W1.alloc (.cells Z.toArray 44)=W2 at *
 try simp only [Act.put,List.setIfInBounds_toArray,List.set_cons_zero,List.set_cons_succ,e1]
 clear e1;have HU2:Hid (W2.heap[w.heap.size + 1]? = some (.cells ([]++(Z++[])).toArray 44)):=d0d U2.out;clear U2;generalize hgA:w.heap.size + 1=gA at *;obtain ⟨gX,hgX⟩:∃ gX,gX=w.heap.size:=⟨_,rfl⟩;rw [← hgX] at SX cx T2 ⊢;have HgX:=hid hgX;clear hgX
 go_wp2_with (first
  | ((with_reducible refine a0d 40 (.tmp 5) ?_ gX 0 ?_ ?_ V _ SX.out underlying40 ?_ ZS ?_);iterate 4 exact rfl)
  | ((with_reducible refine b0t 80 [(0,.const (nu 1)),(1,.tmp 12),(2,.tmp 13)] ?_ ?_ MV.toArray ?_ ?_);exact rfl;exact rfl;exact (HBm.out _)))
 refine HMy.out.mono ?_;rintro e W3 ⟨rfl,hb3⟩;have A3:=hid hb3;have B3:Hid (Below w.heap.size w W3):=a0b B2.out hb3;have U3:=hid (a0a HU2.out hb3);have T3:=hid (a0a T2.out hb3);clear hb3 HBm
 go_wp2_with fail
 refine (HI1.out _ A3.out).mono ?_;rintro e w1 ⟨rfl,hw1⟩;subst w1;have cx3:W3.cell? ⟨gX,2,none⟩=some (nu X.target):=e0r cx A3.out
 go_wp2_with fail
 refine (HI2.out _ A3.out).mono ?_;rintro e w1 ⟨rfl,hw1⟩;subst w1;have HZ3:=hid (HZ2.out.kept A3.out);have c1:=HZ3.out.cS;have c2:W3.cell? ⟨bs,k * 68,none⟩=some (nu AN):=by rw [HAN.out];exact HZ3.out.sub hkR 0 _ rfl
 have c3:W3.cell? ⟨gX,0,none⟩=some (nu XN):=by rw [HXN.out];exact a0N (by rw [← HV.out];exact T3.out) HX.out
 unfold sl at c1
 go_wp2_with fail
 go_quiet (fail)
 have D3:Hid (Below W3.heap.size W3 (W3.drewN nq)):=c0P (Below.refl _ _) _;generalize W3.drewN nq=W4 at *;have HZ4:=hid (HZ3.out.kept D3.out);have B4:=hid (a0b B3.out D3.out);have U4:=hid (a0a U3.out D3.out);have T4:=hid (a0a T3.out D3.out);clear c1 c2 c3;have c1:=HZ4.out.cS;have c2:W4.cell? ⟨bs,k * 68,none⟩=some (nu AN):=by rw [HAN.out];exact HZ4.out.sub hkR 0 _ rfl
 have c3:W4.cell? ⟨gX,0,none⟩=some (nu XN):=by rw [HXN.out];exact a0N (by rw [← HV.out];exact T4.out) HX.out
 unfold sl at c1
 go_wp2_with fail
 go_quiet (fail)
 have D4:Hid (Below W4.heap.size W4 (W4.drewN nq)):=c0P (Below.refl _ _) _;generalize W4.drewN nq=W5 at *;have HZ5:=hid (HZ4.out.kept D4.out);have B5:=hid (a0b B4.out D4.out);have U5:=hid (a0a U4.out D4.out);have T5:=hid (a0a T4.out D4.out);clear c1 c2 c3
 go_wp2_with (first
  | ((with_reducible refine c0c 44 ?_ ?_ Z.toArray (HBd.out _) ?_);exact rfl;exact rfl)
  | ((with_reducible refine b0b 44 (.tmp 6) (.tmp 71) ?_ ?_ gA 0 ?_ ?_ [] Z Z [] ?_ 44 U5.out rfl rfl OZ.out IZ ?_);exact rfl;exact rfl;exact rfl;exact rfl;exact rfl;intro wF rF bF))
 have rG:wF.heap[gA]? = some (.cells Z.toArray 44):=by simpa using rF
 refine bodyPost_ret_by (c0h (fn:=Tryz.f10) (p:=6) (u:=7) (ty:=44) (by kernel_rfl) _ _ gA 44 Z.toArray (0,0) _ rfl rG underlying44 rfl (by rw [List.size_toArray];exact IZ)) rfl ?_;exact HEnd.out _ (bF.below B5.out (by omega))
theorem w0H {w:World} {x:Nat} {G:List Nat} {R:Rs} (h:RY w x G R) {k:Nat} {X:Sub} (hx:X.Wf) (hok:c0R R (k:Int) X=true) (h4:X.number=(R.reg (k:Int)).asked.number + 1) (h5:f0H R=true) :
  Calls prog 10 #[pt x 0,nu (k:Int),.agg (subC X).toArray] w (RSub w x G R (k:Int) X):=by
 have hcode:subE R (k:Int) X=11:=by unfold subE;rw [if_neg (by rw [hok];simp),if_neg (by omega),if_neg (by omega),if_pos h5]
 have HEnd:Hid (∀ w',Below w.heap.size w w'->RSub w x G R (k:Int) X (.returned (.tuple #[.agg (repC a0p (.slice none 0 0)).toArray,nu 11])) w'):=fun w' hb=>by
  have:=f0h h (c:=(k:Int)) (X:=X) (by rw [hcode];decide) hb
  rwa [hcode] at this
 obtain ⟨h1,h2,h3⟩:hasB R.n (k:Int)=true/\hasB R.n X.target=true/\mayB (subM (k:Int) X)=true:=by simpa [c0R,Bool.and_eq_true] using hok
 obtain ⟨hkn,-⟩:=b0r hok;have hkR:k < R.n:=by omega
 have B1:=hid (a0c w (.cells (subC X).toArray 40));have B2:=hid (a0b B1.out (a0c (w.alloc (.cells (subC X).toArray 40)) (.cells (repC a0p (.slice none 0 0)).toArray 44)));have T2:=hid (a0a (a0f w (.cells (subC X).toArray 40)) (a0c (w.alloc (.cells (subC X).toArray 40)) (.cells (repC a0p (.slice none 0 0)).toArray 44)));have U2:=hid (a0f (w.alloc (.cells (subC X).toArray 40)) (.cells (repC a0p (.slice none 0 0)).toArray 44));have e1:(w.alloc (.cells (subC X).toArray 40)).heap.size=w.heap.size + 1:=Array.size_push _;rw [e1] at U2;have H2:=hid (h.kept B2.out);have ZR:=zeroRep;have IZ:(prog.info? 44).map (·.size)=some (repC a0p (.slice none 0 0)).length:=by rw [a0j wfZeroR];exact sizeRep
 have OZ:=hid (c0I a0p (.slice none 0 0) rfl);have HBd:=hid d0i;have ZS:(prog.info? 40).map (·.size)=some (subC X).length:=by rw [a0h hx];exact sizeSub
 have SX:=hid (a0s (off:=0) (A:=[]) (cs:=subC X) (C:=[]) T2.out (by simp) rfl);have cx:=a0O T2.out hx;have HBm:=hid (fun W=>c0g W (k:Int) X hx);have HMy:=hid (rmay (vP:=.slice none 0 0) (vN:=.slice none 0 0) (g0F (c:=(k:Int)) hx) a0r (a0g.nil ((w.alloc (.cells (subC X).toArray 40)).alloc (.cells (repC a0p (.slice none 0 0)).toArray 44))) (a0w.nil _) ⟨Nat.zero_le _,Nat.zero_le _⟩ (Or.inl rfl));have HI1:=hid (fun (W:World) (hb:Below ((w.alloc (.cells (subC X).toArray 40)).alloc (.cells (repC a0p (.slice none 0 0)).toArray 44)).heap.size ((w.alloc (.cells (subC X).toArray 40)).alloc (.cells (repC a0p (.slice none 0 0)).toArray 44)) W)=>a0F (H2.out.kept hb) (k:Int));have HI2:=hid (fun (W:World) (hb:Below ((w.alloc (.cells (subC X).toArray 40)).alloc (.cells (repC a0p (.slice none 0 0)).toArray 44)).heap.size ((w.alloc (.cells (subC X).toArray 40)).alloc (.cells (repC a0p (.slice none 0 0)).toArray 44)) W)=>a0F (H2.out.kept hb) X.target);obtain ⟨bs,br,bv,bt,ps,vP,Y,hz,hG1,hG2⟩:=h;have HZ2:=hid (hz.kept B2.out);obtain ⟨AN,HAN⟩:∃ AN,Hid (AN=(R.reg (k:Int)).asked.number):=⟨_,rfl⟩;obtain ⟨XN,HXN⟩:∃ XN,Hid (XN=X.number):=⟨_,rfl⟩;have HX:=hid hx;rw [h3] at HMy;rw [h1] at HI1;rw [h2] at HI2;have hd:(XN == AN)=false:=beq_false_of_ne (by rw [HXN.out,HAN.out,h4];omega);have hanb:=(hz.inv.reg (k:Int)).num;rw [← HAN.out] at hanb;obtain ⟨pa,pcap,hvP,hpcap,-⟩:=hz.pens;have HVP:=hid hvP;clear hvP;have hl1:=hz.inv.long;have hl2:=hz.inv.plen
 have hd2:(XN != AN + 1)=false:=by
  have e:XN=AN + 1:=by rw [HXN.out,HAN.out];exact h4
  rw [e];exact bne_self_eq_false _
 have hfu:512 <= R.long.length + R.pend.length ∨ 8 <= R.pend.length:=by simpa [f0H] using h5
 clear hcode h1 h2 h3 hok hkn h4 h5 hz hG1 hG2 hx;show Calls _ _ _ _ (fun e w'=>RSub w x G R (k:Int) X e w');generalize msgC (subM (k:Int) X) (.slice none 0 0) (.slice none 0 0)=MV at *;generalize repC a0p (.slice none 0 0)=Z at *;obtain ⟨V,HV⟩:∃ V,Hid (V=subC X):=⟨_,rfl⟩;rw [← HV.out] at B1 B2 T2 U2 H2 e1 ZS SX cx HBm HMy HI1 HI2 HZ2 ⊢;have hgs:w.heap.size < w.heap.size + 1:=Nat.lt_succ_self _;go_enter func10,ntmps10;go_upto_region 1 with (first | ((with_reducible refine a0G 44 ?_ ?_ Z.toArray ZR ?_);exact rfl;exact rfl))
 generalize w.alloc (.cells V.toArray 40)=W1 at *;generalize W1.alloc (.cells Z.toArray 44)=W2 at *
 try simp only [Act.put,List.setIfInBounds_toArray,List.set_cons_zero,List.set_cons_succ,e1]
 clear e1;have HU2:Hid (W2.heap[w.heap.size + 1]? = some (.cells ([]++(Z++[])).toArray 44)):=d0d U2.out;clear U2;generalize hgA:w.heap.size + 1=gA at *;obtain ⟨gX,hgX⟩:∃ gX,gX=w.heap.size:=⟨_,rfl⟩;rw [← hgX] at SX cx T2 ⊢;have HgX:=hid hgX;clear hgX
 go_wp2_with (first
  | ((with_reducible refine a0d 40 (.tmp 5) ?_ gX 0 ?_ ?_ V _ SX.out underlying40 ?_ ZS ?_);iterate 4 exact rfl)
  | ((with_reducible refine b0t 80 [(0,.const (nu 1)),(1,.tmp 12),(2,.tmp 13)] ?_ ?_ MV.toArray ?_ ?_);exact rfl;exact rfl;exact (HBm.out _)))
 refine HMy.out.mono ?_;rintro e W3 ⟨rfl,hb3⟩;have A3:=hid hb3;have B3:Hid (Below w.heap.size w W3):=a0b B2.out hb3;have U3:=hid (a0a HU2.out hb3);have T3:=hid (a0a T2.out hb3);clear hb3 HBm
 go_wp2_with fail
 refine (HI1.out _ A3.out).mono ?_;rintro e w1 ⟨rfl,hw1⟩;subst w1;have cx3:W3.cell? ⟨gX,2,none⟩=some (nu X.target):=e0r cx A3.out
 go_wp2_with fail
 refine (HI2.out _ A3.out).mono ?_;rintro e w1 ⟨rfl,hw1⟩;subst w1;have HZ3:=hid (HZ2.out.kept A3.out);have c1:=HZ3.out.cS;have c2:W3.cell? ⟨bs,k * 68,none⟩=some (nu AN):=by rw [HAN.out];exact HZ3.out.sub hkR 0 _ rfl
 have c3:W3.cell? ⟨gX,0,none⟩=some (nu XN):=by rw [HXN.out];exact a0N (by rw [← HV.out];exact T3.out) HX.out
 unfold sl at c1
 go_wp2_with fail
 go_quiet (fail)
 have D3:Hid (Below W3.heap.size W3 (W3.drewN nq)):=c0P (Below.refl _ _) _;generalize W3.drewN nq=W4 at *;have HZ4:=hid (HZ3.out.kept D3.out);have B4:=hid (a0b B3.out D3.out);have U4:=hid (a0a U3.out D3.out);have T4:=hid (a0a T3.out D3.out);clear c1 c2 c3;have c1:=HZ4.out.cS;have c2:W4.cell? ⟨bs,k * 68,none⟩=some (nu AN):=by rw [HAN.out];exact HZ4.out.sub hkR 0 _ rfl
 have c3:W4.cell? ⟨gX,0,none⟩=some (nu XN):=by rw [HXN.out];exact a0N (by rw [← HV.out];exact T4.out) HX.out
 unfold sl at c1
 go_wp2_with fail
 go_quiet (fail)
 have D4:Hid (Below W4.heap.size W4 (W4.drewN nq)):=c0P (Below.refl _ _) _;generalize W4.drewN nq=W5 at *;have HZ5:=hid (HZ4.out.kept D4.out);have B5:=hid (a0b B4.out D4.out);have U5:=hid (a0a U4.out D4.out);have T5:=hid (a0a T4.out D4.out);clear c1 c2 c3;have c4:=HZ5.out.cL;have c5:=HZ5.out.cP;rw [HVP.out] at c5;by_cases h6:512 <= R.long.length + R.pend.length
 ·have f1:decide ((512:Int) <= (R.long.length:Int) + (R.pend.length:Int))=true:=decide_eq_true (by omega)
  go_wp2_with fail
  go_quiet (fail)
  have D5:Hid (Below W5.heap.size W5 (W5.drewN nq)):=c0P (Below.refl _ _) _;generalize W5.drewN nq=W6 at *;have B6:=hid (a0b B5.out D5.out);have U6:=hid (a0a U5.out D5.out);clear c4 c5
  go_wp2_with (first
   | ((with_reducible refine c0c 44 ?_ ?_ Z.toArray (HBd.out _) ?_);exact rfl;exact rfl)
   | ((with_reducible refine b0b 44 (.tmp 6) (.tmp 92) ?_ ?_ gA 0 ?_ ?_ [] Z Z [] ?_ 44 U6.out rfl rfl OZ.out IZ ?_);exact rfl;exact rfl;exact rfl;exact rfl;exact rfl;intro wF rF bF))
  have rG:wF.heap[gA]? = some (.cells Z.toArray 44):=by simpa using rF
  refine bodyPost_ret_by (c0h (fn:=Tryz.f10) (p:=6) (u:=7) (ty:=44) (by kernel_rfl) _ _ gA 44 Z.toArray (0,0) _ rfl rG underlying44 rfl (by rw [List.size_toArray];exact IZ)) rfl ?_;exact HEnd.out _ (bF.below B6.out (by omega))
 ·have f1:decide ((512:Int) <= (R.long.length:Int) + (R.pend.length:Int))=false:=decide_eq_false (by omega)
  have f2:decide ((8:Int) <= (R.pend.length:Int))=true:=decide_eq_true (by omega);have f2':decide (8 <= R.pend.length)=true:=decide_eq_true (by omega)
  go_wp2_with fail
  go_quiet (fail)
  have D5:Hid (Below W5.heap.size W5 (W5.drewN nq)):=c0P (Below.refl _ _) _;generalize W5.drewN nq=W6 at *;have B6:=hid (a0b B5.out D5.out);have U6:=hid (a0a U5.out D5.out);clear c4 c5
  go_wp2_with (first
   | ((with_reducible refine c0c 44 ?_ ?_ Z.toArray (HBd.out _) ?_);exact rfl;exact rfl)
   | ((with_reducible refine b0b 44 (.tmp 6) (.tmp 92) ?_ ?_ gA 0 ?_ ?_ [] Z Z [] ?_ 44 U6.out rfl rfl OZ.out IZ ?_);exact rfl;exact rfl;exact rfl;exact rfl;exact rfl;intro wF rF bF))
  have rG:wF.heap[gA]? = some (.cells Z.toArray 44):=by simpa using rF
  refine bodyPost_ret_by (c0h (fn:=Tryz.f10) (p:=6) (u:=7) (ty:=44) (by kernel_rfl) _ _ gA 44 Z.toArray (0,0) _ rfl rG underlying44 rfl (by rw [List.size_toArray];exact IZ)) rfl ?_;exact HEnd.out _ (bF.below B6.out (by omega))
end Go.Proofs.YtagmnmoaekbffaaGreatDoor.Ms
