/- V11 -/
import Derived.Test.YtagmnmoaekbffaaGreatDoorV10
import Derived.Test.YtagmnmoaekbffaaGreatDoorV08
set_option maxHeartbeats 16000000
namespace Go.Proofs.YtagmnmoaekbffaaGreatDoor.Ms
open Go.Proofs.Tryz
open Go Go.RowKit
set_option maxRecDepth 100000
theorem n0d (w:World) (hK:Ktab w) (hT:Lay.Tabs w) (m:Nat) (hm:m < 256) (xa:Option Addr) (acs:List Ac) (cap:Nat) (hA:r0L w xa acs) :
  Calls prog 3 #[.int .u8 (m:Int),.slice xa acs.length cap] w fun e w'=>e = .returned (.bool true)/\Below w.heap.size w w':=by
 have h6:=f0V hT;obtain ⟨n,hn⟩:∃ n,n=m % 5 + 2:=⟨_,rfl⟩;have hn8:2 <= n/\n <= 8:=by omega
 have HB:=hid (r0q n hn8 hK hT);have HW:=hid (fun W (hb:Below w.heap.size w W)=>p0i (hK.stays hb hK.pos) (hT.stays hb));have HA:=hid hA;clear hK hT hA;go_enter func3,ntmps3
 go_wp2_with fail
 have hkI:((m:Int) % 5 + 2)=(n:Int):=by omega
 generalize ((m:Int) % 5 + 2)=kI at *;subst hkI;generalize hX:w.heap.size=X at *;refine HB.out.mono ?_;rintro e W1 ⟨P,p,q,xx,vb,wb,hb,h,g,b,G,rfl,s1,b1⟩;have S1:=hid s1;have B1:Hid (Below X w W1):=hid b1;clear s1 b1 HB
 go_wp2_with fail
 refine (HW.out _ B1.out).mono ?_;rintro e W2 ⟨rfl,b2⟩;have hX1:X <= W1.heap.size:=hX ▸ B1.out.size;have S2:=hid (S1.out.kept b2);have B2:Hid (Below X w W2):=hid (B1.out.trans (b2.mono hX1));have HV2:=hid (HV.new n hn8);clear b2 B1 S1 HW hn;go_wp2;go_loopw [6] (fun i wr=>∃ (j:Nat) (R:Rs) (V Wt H:List (List UInt8)) (L:List Ent) (G:List Nat),j <= 30/\j <= acs.length/\i=nu j/\Hid (Bd V Wt H L j)/\Hid (HV n R V Wt j)/\Hid (St X wr P p q xx vb wb hb h g b n G R V Wt H L)/\Hid (Below X w wr)) (fun i _=>30 - (intOf i).toNat)
 case atStart=>exact ⟨0,_,_,_,_,_,_,by omega,by omega,rfl,Bd.new n,HV2,S2,B2⟩
 case round =>
  clear S2 HV2 B2;obtain ⟨j,R,V,Wt,H,L0,G,hj30,hjl,rfl,HBd,HVh,HS,HBl⟩:=hrel;have hXs:X <= wr.heap.size:=hX ▸ HBl.out.size;by_cases hc:j < acs.length/\j < 30
  case neg =>
   by_cases h0:j < acs.length
   ·have e1:decide ((j:Int) < (acs.length:Int))=true:=decide_eq_true (by omega)
    have e1':decide (j < acs.length)=true:=decide_eq_true h0;have e2:decide ((j:Int) < 30)=false:=decide_eq_false (by omega);have e2':decide (j < 30)=false:=decide_eq_false (by omega);clear hc h0;go_wp2;go_ret;exact ⟨rfl,hX ▸ HBl.out⟩
   ·have e1:decide ((j:Int) < (acs.length:Int))=false:=decide_eq_false (by omega)
    have e1':decide (j < acs.length)=false:=decide_eq_false h0;clear hc h0;go_wp2;go_ret;exact ⟨rfl,hX ▸ HBl.out⟩
  have d1:decide ((j:Int) < (acs.length:Int))=true:=decide_eq_true (by omega);have d1':decide (j < acs.length)=true:=decide_eq_true hc.1;have d2:decide ((j:Int) < 30)=true:=decide_eq_true (by omega);have hj:j < acs.length:=hc.1;have hj2:j < 30:=hc.2;obtain ⟨bb,off,rfl,hok,hcells⟩:=(HA.out.kept (hX ▸ HBl.out)) j hc.1;have HK:=hid hok;have SC:=hid hcells;have HFt:=hid (p0f HS.out.row (acs.getD j noAc));clear hok hcells hc;generalize acs.getD j noAc=a0 at *;have ZC:Hid ((prog.info? 27).map (·.size)=some (acC a0).length):=hid sizeAc;have HOne:=hid (w0T a0);have Hlen:(acC noAc).length=(acC a0).length:=rfl
  go_upto_region 8 with (first
   | ((with_reducible refine a0d 27 (.tmp 40) ?_ bb (off + j * 4) ?_ ?_ (acC a0) _ SC.out underlying27 ?_ ZC.out ?_);iterate 4 exact rfl)
   | (go_at_call 7;refine HFt.out.mono ?_;rintro e W4 ⟨rfl,b4⟩;have S4:=hid (HS.out.kept b4);have B4:Hid (Below X w W4):=hid (HBl.out.trans (b4.mono hXs));clear b4)
   | ((with_reducible refine a0G 27 ?_ ?_ (acC noAc).toArray zeroAc ?_);exact rfl;exact rfl)
   | ((with_reducible refine a0v 27 (.tmp 7) (.tmp 43) ?_ ?_ ?_ ?_ (acC a0) (acC noAc) ?_ 27 Hlen HOne.out ZC.out ?_);exact rfl;iterate 4 exact rfl))
  try simp only [Act.put,List.setIfInBounds_toArray,List.set_cons_zero,List.set_cons_succ]
  have A5:=hid (a0f W4 (.cells (acC a0).toArray 27));have b5:=a0c W4 (.cells (acC a0).toArray 27);have S5:=hid (S4.out.kept b5);have hX4:X <= W4.heap.size:=hX ▸ B4.out.size;have B5:Hid (Below X w _):=hid (B4.out.trans (b5.mono hX4));have hold:=hid S4.out.old;clear b5 S4 B4 HS HBl HFt SC;generalize W4.alloc (.cells (acC a0).toArray 27)=W5 at *;generalize W4.heap.size=kA at *
  cases hft:f0m n a0 with
  | false =>
   go_wp2;exact ⟨⟨j + 1,R,V,Wt,H,L0,G,by omega,by omega,by go_num,HBd.out.next,HVh.out.next,S5,B5⟩,by simp [intOf];omega⟩
  | true =>
   obtain ⟨hc0,hcn',ht0,htn,hvl⟩:0 <= a0.client/\a0.client < (n:Int)/\0 <= a0.target/\a0.target < (n:Int)/\a0.value.length <= 200:=by
    unfold f0m at hft;simp only [Bool.and_eq_true,decide_eq_true_eq] at hft;omega
   obtain ⟨c,hcc⟩:∃ c:Nat,a0.client=(c:Int):=⟨a0.client.toNat,by omega⟩;have hcn:c < n:=by omega
   have HAc:=hid (fun (W:World) (hr:W.heap[kA]? = some (.cells (acC a0).toArray 27))=>(by have:=b0E hr 1 _ rfl;rwa [hcc] at this:W.cell? ⟨kA,1,none⟩=some (nu c)));have HEa:Hid ((acC a0).toArray=#[nu a0.kind,nu (c:Int),nu a0.target,st a0.value]):=hid (by rw [acC,hcc]);clear hcc hft hc0 hcn';have hlw:Wt.length=n:=S5.out.lw;have a1:=HAc.out _ A5.out;have p4:W5.cell? ⟨P,4,none⟩=some (.slice (some ⟨wb,0,none⟩) n n):=b0E S5.out.row 4 _ rfl;have w1:=m0U S5.out.waits (by omega:c < Wt.length);obtain ⟨NC,hNC⟩:∃ NC,NC=Wt.getD c []:=⟨_,rfl⟩;rw [← hNC] at w1;have HNC:=hid hNC;have e3:decide (c < n)=true:=decide_eq_true hcn;have hL0:=HBd.out.l;have hX5:X <= W5.heap.size:=hX ▸ B5.out.size;have hlow:=S5.out.low;clear hNC;by_cases hne:NC = []
   case neg =>
    have hne2:Wt.getD c [] ≠ []:=by rw [← HNC.out];exact hne
    obtain ⟨n0,NT,rfl⟩:∃ n0 NT,NC=n0 :: NT:=by
     cases NC with
     | nil=>exact absurd rfl hne
     | cons n0 NT=>exact ⟨n0,NT,rfl⟩
    have a2:=b0E A5.out 0 _ rfl;by_cases hk2:(2:Int) < a0.kind
    ·have e5:decide ((2:Int) < a0.kind)=true:=decide_eq_true hk2
     have HCo:=hid (p0e S5.out hcn (HBd.out.w c) (by omega))
     go_wp2_with fail
     refine HCo.out.mono ?_;rintro e W7 ⟨rfl,k7,G',L',hG',hL',s7⟩;have S7:=hid s7;have B7:Hid (Below X w W7):=hid (B5.out.trans (k7.below (fun z hz=>by simp only [List.cons_append,List.nil_append,List.mem_cons] at hz;rcases hz with rfl | rfl | rfl | hz;omega;omega;omega;exact hlow.2.2.2.2.2 z hz) hX5));have HV7:=hid (HVh.out.commit hcn hne2);clear s7 k7 hG' S5 B5 A5 a1 a2 p4 w1 HCo;go_wp2;exact ⟨⟨j + 1,_,_,_,_,L',G',by omega,by omega,by go_num,HBd.out.commit hL',HV7,S7,B7⟩,by simp [intOf];omega⟩
    ·have e5:decide ((2:Int) < a0.kind)=false:=decide_eq_false hk2
     go_wp2;exact ⟨⟨j + 1,R,V,Wt,H,L0,G,by omega,by omega,by go_num,HBd.out.next,HVh.out.next,S5,B5⟩,by simp [intOf];omega⟩
   ·subst hne
    have hwn:Wt.getD c [] = []:=HNC.out.symm;have hkd:1 <= d0S a0.kind/\d0S a0.kind <= 2:=by unfold d0S;split <;> decide
    have htg:0 <= d0T a0.kind c a0.target/\d0T a0.kind c a0.target < (n:Int):=by
     unfold d0T
     split
     ·exact ⟨ht0,htn⟩
     ·exact ⟨by omega,by omega⟩
    obtain ⟨vl2,hvl2⟩:∃ v,v=k0p a0.kind (H.getD c []) a0.value:=⟨_,rfl⟩
    have hvl3:vl2.length <= 256:=by
     rw [hvl2];unfold k0p
     split
     ·exact HBd.out.h c
     ·omega
    obtain ⟨H2,hH2⟩:∃ z,z=H.set c vl2:=⟨_,rfl⟩;obtain ⟨XX,hXX⟩:∃ z,z=mkX seed V c (d0S a0.kind) (d0T a0.kind c a0.target) vl2:=⟨_,rfl⟩;have HSu:=hid (j0m S5.out hcn a0.kind a0.target HK.out.t a0.value (by omega) (fun i=>HBd.out.h i) (fun i=>by have:=HBd.out.v i;omega) (by omega));rw [← hvl2,← hXX,← hH2,← HEa.out] at HSu;have hxw:XX.Wf:=by rw [hXX];exact ⟨c0e _ _,c0e _ _⟩
    have LX:Hid ((subC c0j).length=(subC XX).length):=hid (by rw [a0h wfZeroS,a0h hxw]);have OX:=hid (f0w XX);have ZX:=hid (szSY hxw);obtain ⟨m1,m2,m3,m4,HV9,hyr,hxr⟩:=HVh.out.submit (by omega) hcn hn8.2 hwn hkd htg hvl3 hXX;have HVn:=hid HV9;clear hXX HV9 hvl2
    go_upto_region 14 with (first
     | ((with_reducible refine a0d 27 (.tmp 7) ?_ kA 0 ?_ ?_ (acC a0) _ (a0k A5.out) underlying27 ?_ ZC.out ?_);iterate 4 exact rfl)
     | (go_at_call 9;refine HSu.out.mono ?_;rintro e Wa ⟨rfl,ka,L1,hL1,sa⟩;have Sa:=hid sa;have Ka:=hid ka;clear sa ka)
     | ((with_reducible refine a0G 40 ?_ ?_ (subC c0j).toArray zeroSubV ?_);exact rfl;exact rfl)
     | ((with_reducible refine a0v 40 (.tmp 10) (.tmp 65) ?_ ?_ ?_ ?_ (subC XX) (subC c0j) ?_ 40 LX.out OX.out ZX.out ?_);exact rfl;iterate 4 exact rfl))
    try simp only [Act.put,List.setIfInBounds_toArray,List.set_cons_zero,List.set_cons_succ]
    have X6:=hid (a0f Wa (.cells (subC XX).toArray 40));have b6:=a0c Wa (.cells (subC XX).toArray 40);have S6:=hid (Sa.out.kept b6);have Ba:Hid (Below X w Wa):=hid (B5.out.trans (Ka.out.below (fun z hz=>by simp only [List.mem_cons,List.not_mem_nil,or_false] at hz;rcases hz with rfl | rfl;omega;omega) hX5));have hXa:X <= Wa.heap.size:=hX ▸ Ba.out.size;have B6:Hid (Below X w _):=hid (Ba.out.trans (b6.mono hXa));have hola:=hid Sa.out.old;clear b6 Sa Ka Ba B5 S5 A5 a1 p4 w1 HSu LX OX hold HEa HAc;generalize Wa.alloc (.cells (subC XX).toArray 40)=W6 at *;generalize Wa.heap.size=kX at *;have hX6:X <= W6.heap.size:=hX ▸ B6.out.size;have hout:=S6.out.out;have hPG:=hout.1;have hkG:kX ∉ G:=fun hm=>by have:=hola.out kX (Or.inr hm);omega
    have hbd:=r0M S6.out.regs.inv (c:Int) XX;have haf:=r0N S6.out.regs.inv (c:Int) XX (c:Int)
    have HRs:Hid (∀ (W:World) (G0:List Nat),RY W xx G0 R->Calls prog 10 #[pt xx 0,nu (c:Int),.agg (subC XX).toArray] W fun e w2=>∃ v,e = .returned v/\∃ u G',v = .tuple #[.agg (repC (subY R c XX) (slc u)).toArray,nu (subE R c XX)]/\RY w2 xx G' (subR R c XX)/\a0g w2 (slc u) (subY R c XX).pend/\Kp G0 W w2/\∀ y ∈ G',y ∈ G0 ∨ W.heap.size <= y):=hid (fun W G0 hr=>by
     refine (f0Y hr (c:=(c:Int)) hxw).mono ?_;rintro e w2 ⟨u,G',rfl,h1,h2,h3,h4⟩;have es:=t0q h2
     exact ⟨_,rfl,u,G',by rw [es],h1,by rw [es];exact h2,h3,h4⟩)
    obtain ⟨AF,hAF⟩:∃ z,z=d0X (subY R c XX) c:=⟨_,rfl⟩;rw [← hAF] at haf m3 HVn;have HAfr:=hid (fun (v:Value) (W:World) (hp:a0g W v (subY R c XX).pend)=>p0c hbd.1 hp hbd.2.2.2 (by have:=hbd.2.1;omega) (by have:=hbd.2.2.1;omega) c (by omega));rw [← hAF] at HAfr
    have gw:(chkG seed n (c:Int) (V.getD c []) XX (subY R c XX)).Wf:=by
     unfold chkG
     split
     ·exact zeroT_wf
     ·split
      ·exact f0U hbd.1
      ·exact h0O hbd.1 (f0U hbd.1)
    obtain ⟨VV,hVV⟩:∃ z,z=V.getD c []:=⟨_,rfl⟩;have hvv:VV.length <= 1000:=by rw [hVV];exact HBd.out.v c
    have hcV:c < V.length:=by rw [S6.out.lv];exact hcn
    have HVw:=hid (fun (W:World) (hr:W.heap[vb]? = some (.cells (V.map st).toArray 9))=>m0U hr hcV);rw [← hVV] at m2 m3 m4 gw HVw;have HCh:=hid (fun (W:World) (v:Value) (rg:RgAt W p seed n) (hp:a0g W v (subY R c XX).pend)=>i0f rg hxw hxr hbd.1 hyr hp (by have:=hbd.2.2.1;omega) (view:=VV) (by omega));rw [m2] at HCh;generalize chkG seed n (c:Int) VV XX (subY R c XX)=GG at *;generalize subY R c XX=YY at *;rw [m1] at HRs;generalize hEE:(0:Int)=EE at HRs;generalize subR R c XX=RR at *;have HYw:=hid hbd.1;have HYl:Hid (∀ v,(repC YY (slc v)).length=(repC a0p (.slice none 0 0)).length):=hid (fun v=>by rw [a0j hbd.1,a0j wfZeroR]);have HYo:Hid (∀ v,∀ x ∈ repC YY (slc v),x.oneCell' = true):=hid (fun v=>c0I _ _ (u0Z v));have HYs:Hid (∀ v,(prog.info? 44).map (·.size)=some (repC YY (slc v)).length):=hid (fun v=>szRY hbd.1 _);clear hAF hVV m1 m2 hxr hyr
    refine l0N (N:=128) 6 7 8 10 11 73 66 11 74 [(pt P 0),(pt P 0),(pt P 2),(pt xx 0),(nu c),(.agg (subC XX).toArray),undef,undef,undef,(nu EE),undef,undef,(nu EE)] (fun v=>repC YY (slc v)) (nu EE) (repC a0p (.slice none 0 0)) 44 (G) (fun W v=>a0g W (slc v) YY.pend) (fun _ W=>St X W P p q xx vb wb hb h g b n G R V Wt H2 L1) (fun G' W=>St X W P p q xx vb wb hb h g b n G' RR V Wt H2 L1) (fun u=>[(67,u 0),(68,u 1),(69,u 2),(70,u 3),(71,u 4),(72,u 5),(73,u 6),(66,u 7),(74,u 8),(75,u 9),(11,u 10),(12,u 12)]) (by kernel_rfl) (by kernel_rfl) rfl (fun u=>by kernel_rfl) (by decide) (by decide) (by kernel_rfl) (by kernel_rfl) (by kernel_rfl) (by kernel_rfl) (by kernel_rfl) (by kernel_rfl)
     (fun o ho=>by cases ho;exact ⟨rfl,by kernel_rfl⟩) (fun o ho=>by cases ho;exact ⟨rfl,by kernel_rfl⟩) (fun o ho=>by cases ho;rfl) (fun o ho=>by cases ho;exact ⟨rfl,by kernel_rfl,by kernel_rfl⟩)
     zeroRepV HYl.out HYo.out HYs.out ?_ ?_ ?_ ?_ ?_ ?_ ?_ ?_ ?_ ?_ ?_
    ·exact fun y hy=>S6.out.old y (Or.inr hy)
    ·exact fun w1 hb1=>S6.out.kept hb1
    ·exact fun L i W _ hPre o=>hPre.kept (a0c W o)
    ·exact fun G' W e2 y hy=>e2.old y (Or.inr hy)
    ·exact fun G' W o e2=>e2.kept (a0c W o)
    ·exact fun W v o hp=>hp.kept (a0c W o)
    ·exact fun G' W W' gy e2 h5 hG hb1=>e2.but (by omega) (fun hm=>by have:=S6.out.old gy (Or.inl hm);omega) hG hb1
    ·exact fun W W' v gy hp hr hb1=>t0p hp HYw.out.pend hr hb1
    ·intro o ho
     cases ho
     intro L a w1 hLi hw hP hk hv K h;refine k0b 10 [.tmp 70,.tmp 71,.tmp 72] _ #[pt xx 0,nu c,.agg (subC XX).toArray] rfl (fun _ _=>by kernel_rfl) (w0j (hv 3 70 (by kernel_rfl) (by decide) (by decide) (by decide) (by decide) (by kernel_rfl)) (hv 4 71 (by kernel_rfl) (by decide) (by decide) (by decide) (by decide) (by kernel_rfl)) (hv 5 72 (by kernel_rfl) (by decide) (by decide) (by decide) (by decide) (by kernel_rfl))) (R:=fun v w2=>∃ u G',v = .tuple #[.agg (repC YY (slc u)).toArray,nu EE]/\RY w2 xx G' RR/\a0g w2 (slc u) YY.pend/\Kp G w1 w2/\∀ y ∈ G',y ∈ G ∨ w1.heap.size <= y) (HRs.out w1 G hP.regs) ?_;rintro v w2 ⟨u,G',rfl,r1,r2,r3,r4⟩;refine h u G' w2 (hP.regsTo r1 r3 r4) r2 r3 (fun y hy=>?_);rcases r4 y hy with e | e
     ·exact Or.inl (S6.out.old y (Or.inr e))
     ·exact Or.inr e
    ·intro i o ho
     match i,ho with
     | 0,ho=>cases ho;exact fun _ _ _ _ _ L a w1 hLi hw hnot hJ hP hk hv hm K h=>a0q 5 _ rfl (hk 5 (by kernel_rfl)) (h _ (Kp.refl _ _) (fun e=>hP e) (fun _=>rfl))
     | 1,ho=>cases ho;exact fun _ _ _ _ _ L a w1 hLi hw hnot hJ hP hk hv hm K h=>c0m 67 P 0 rfl (hv 0 67 (by kernel_rfl) (by decide) (by decide) (by decide) (by decide) (by decide) (by kernel_rfl)) (h _ (Kp.refl _ _) (fun e=>hP e) (fun _=>rfl))
     | 2,ho=>cases ho;exact fun _ _ _ _ _ L a w1 hLi hw hnot hJ hP hk hv hm K h=>b0C 68 _ 2 P 0 2 rfl (fun W=>by kernel_rfl) (hv 1 68 (by kernel_rfl) (by decide) (by decide) (by decide) (by decide) (by decide) (by kernel_rfl)) (h _ (Kp.refl _ _) (fun e=>hP e) (fun _=>rfl))
     | 3,ho=>cases ho;exact fun _ _ _ _ _ L a w1 hLi hw hnot hJ hP hk hv hm K h=>a0A _ (.tmp 69) rfl P 2 (hv 2 69 (by kernel_rfl) (by decide) (by decide) (by decide) (by decide) (by decide) (by kernel_rfl)) (pt xx 0) _ (b0E (hJ.row S6.out.row hPG) 2 _ rfl) underlying32 rfl (h _ (Kp.refl _ _) (fun e=>hP e) (fun _=>rfl))
     | 4,ho=>cases ho;exact fun _ _ _ _ _ L a w1 hLi hw hnot hJ hP hk hv hm K h=>a0q 9 _ rfl (hk 9 (by kernel_rfl)) (h _ (Kp.refl _ _) (fun e=>hP e) (fun _=>rfl))
     | 5,ho=>cases ho;exact fun _ _ _ _ _ L a w1 hLi hw hnot hJ hP hk hv hm K h=>c0u _ (.tmp 10) rfl kX 0 (hk 10 (by kernel_rfl)) (subC XX) _ (a0k (hJ.row X6.out hkG)) underlying40 rfl ZX.out (h _ (Kp.refl _ _) (fun e=>hP e) (fun _=>rfl))
     | 6,ho=>cases ho;exact fun e1 e2 e3 e4 e5=>absurd rfl e1
     | 7,ho=>cases ho;exact fun e1 e2 e3 e4 e5=>absurd rfl e2
     | 8,ho=>cases ho;exact fun e1 e2 e3 e4 e5=>absurd rfl e3
     | 9,ho =>
      cases ho
      intro _ _ _ _ _ L a w1 hLi hw hnot hJ hP hk hv hm K h;obtain ⟨v,hv'⟩:=hm 66 (by kernel_rfl) (by kernel_rfl);exact b0a 66 1 _ (nu EE) rfl hv' rfl (h _ (Kp.refl _ _) (fun e=>hP e) (fun _=>rfl))
     | 10,ho=>cases ho;exact fun e1 e2 e3 e4 e5=>absurd rfl e4
     | 11,ho=>cases ho;exact fun e1 e2 e3 e4 e5=>absurd rfl e5
     | 12,ho=>cases ho;exact fun _ _ _ _ _ L a w1 hLi hw hnot hJ hP hk hv hm K h=>c0l 75 _ rfl (hv 9 75 (by kernel_rfl) (by decide) (by decide) (by decide) (by decide) (by decide) (by kernel_rfl)) (h _ (Kp.refl _ _) (fun e=>hP e) (fun _=>rfl))
     | (i + 13),ho=>exact absurd ho (by simp)
    intro u gy v G' W7 k7 s7 hp7 hgG hgy hrow hcon _ _ _ h10;have h12:u 12=nu EE:=hcon 12 (by decide) (by decide) (by decide) (by decide) (by decide) (by decide);simp only [List.foldl_cons,List.foldl_nil,List.setIfInBounds_toArray,List.set_cons_zero,List.set_cons_succ];rw [h10,h12];subst hEE;have S7:=hid s7;have X7:=hid (k7.row X6.out hkG);have B7:Hid (Below X w W7):=hid (B6.out.trans (k7.below (fun z hz=>hlow.2.2.2.2.2 z hz) hX6));have Y7:=hid hrow;have hX7:X <= W7.heap.size:=hX ▸ B7.out.size;have HP7:=hid hp7;have SP:=hid s7.row;have HVv:=hid (fun W (hb1:Below W7.heap.size W7 W)=>HVw.out W (a0a S7.out.views hb1));have HCk:=hid (fun W (hb1:Below W7.heap.size W7 W)=>HCh.out W (slc v) (S7.out.kept hb1).ring.rg (HP7.out.kept hb1));have HAfc:=hid (fun W (hb1:Below W7.heap.size W7 W)=>HAfr.out (slc v) W (HP7.out.kept hb1));have ZYC:Hid ((prog.info? 44).map (·.size)=some (repC YY (slc v)).length):=hid (HYs.out v);have HYv:=hid (fun (W:World) (k:Nat) (hr:W.heap[k]? = some (.cells (repC YY (slc v)).toArray 44))=>(a0l (off:=37) (v:=st YY.value) (A:=[nu YY.number,nu YY.last,st YY.view]++(dg YY.commit++[slc v,nu YY.vnum])) (C:=dg YY.data++([st YY.seen]++dg YY.stag)) hr (by simp [repC]) (by simp [a0e,hbd.1.commit]):W.cell? ⟨k,37,none⟩=some (st YY.value)));have HXk:=hid (fun (W:World) (k:Nat) (hr:W.heap[k]? = some (.cells (subC XX).toArray 40))=>(d0B hr hxw:W.cell? ⟨k,1,none⟩=some (nu XX.kind)));have HGr:=hid (fun (W:World) (k:Nat) (hr:W.heap[k]? = some (.cells (gotC GG).toArray 49))=>(⟨b0E hr 0 _ rfl,b0E hr 2 _ rfl⟩:W.cell? ⟨k,0,none⟩=some (st GG.view)/\W.cell? ⟨k,2,none⟩=some (st GG.value)));rw [m3] at HGr;have LG1:=hid (b0M gw);have OG1:=hid (e0q GG);have ZG1:=hid (szGY gw);have LZG:=b0M zeroT_wf;have zeroGot:=zeroGot;obtain ⟨G1,hG1⟩:∃ z,z=gotC GG:=⟨_,rfl⟩;obtain ⟨ZG,hZG⟩:∃ z,z=gotC f0l:=⟨_,rfl⟩;rw [← hG1] at HCk LG1 OG1 ZG1 HGr;rw [← hZG] at LZG zeroGot;generalize repC YY (slc v)=YC at *;clear s7 k7 hp7 hrow hcon h10 h12 S6 X6 B6 HRs HCh HVw HYl HYo HYs HYw hkG hPG hG1 hZG hout gw m3;generalize gy=kY at *;go_upto_region 15 with fail
    refine b0X (N:=128) 18 19 13 49 70 G1 W7.heap.size [(pt P 0),(pt P 0),(pt P 0),(pt p 0),(nu c),(pt P 0),(pt P 0),(pt P 3),(sl vb n),(nu c),(pt vb (0 + c * 1)),(st VV),(.agg (subC XX).toArray),(.agg (YC).toArray),(.tuple #[(.agg G1.toArray),(nu 0)]),(.tuple #[(.agg G1.toArray),(nu 0)]),(.agg G1.toArray),(nu 0),undef,undef,(nu 0)] (fun _ w=>Below W7.heap.size W7 w) (fun g=>[(77,(pt P 0)),(78,(pt P 0)),(79,(pt P 0)),(80,(pt p 0)),(81,(nu c)),(82,(pt P 0)),(83,(pt P 0)),(84,(pt P 3)),(85,(sl vb n)),(86,(nu c)),(87,(pt vb (0 + c * 1))),(88,(st VV)),(89,(.agg (subC XX).toArray)),(90,(.agg (YC).toArray)),(91,(.tuple #[(.agg G1.toArray),(nu 0)])),(76,(.tuple #[(.agg G1.toArray),(nu 0)])),(92,(.agg G1.toArray)),(93,(nu 0)),(13,(pt g 0)),(14,(nu 0))]) (by kernel_rfl) (by kernel_rfl) rfl (by kernel_rfl) (by decide) (by simp) (fun g=>by kernel_rfl) (fun _ h=>h) ?_ ?_
    ·intro i o ho
     match i,ho with
     | 0,ho=>cases ho;exact oweN (pt P 0) (by decide) (by decide) rfl (fun L a w hLi hJ hw hnot hk hv K h=>a0q 5 _ rfl (hk 5 (by kernel_rfl)) (h _ hJ (fun _ _ _ e=>e)))
     | 1,ho=>cases ho;exact oweN (pt P 0) (by decide) (by decide) rfl (fun L a w hLi hJ hw hnot hk hv K h=>c0m 77 P 0 rfl (hv 0 77 (by kernel_rfl) (by decide) (by kernel_rfl)) (h _ hJ (fun _ _ _ e=>e)))
     | 2,ho=>cases ho;exact oweN (pt P 0) (by decide) (by decide) rfl (fun L a w hLi hJ hw hnot hk hv K h=>b0C 78 _ 0 P 0 0 rfl (fun W=>by kernel_rfl) (hv 1 78 (by kernel_rfl) (by decide) (by kernel_rfl)) (h _ hJ (fun _ _ _ e=>e)))
     | 3,ho=>cases ho;exact oweN (pt p 0) (by decide) (by decide) rfl (fun L a w hLi hJ hw hnot hk hv K h=>a0A _ (.tmp 79) rfl P 0 (hv 2 79 (by kernel_rfl) (by decide) (by kernel_rfl)) (pt p 0) _ (b0E (a0a SP.out hJ) 0 _ rfl) underlying30 rfl (h _ hJ (fun _ _ _ e=>e)))
     | 4,ho=>cases ho;exact oweN (nu c) (by decide) (by decide) rfl (fun L a w hLi hJ hw hnot hk hv K h=>a0q 9 _ rfl (hk 9 (by kernel_rfl)) (h _ hJ (fun _ _ _ e=>e)))
     | 5,ho=>cases ho;exact oweN (pt P 0) (by decide) (by decide) rfl (fun L a w hLi hJ hw hnot hk hv K h=>a0q 5 _ rfl (hk 5 (by kernel_rfl)) (h _ hJ (fun _ _ _ e=>e)))
     | 6,ho=>cases ho;exact oweN (pt P 0) (by decide) (by decide) rfl (fun L a w hLi hJ hw hnot hk hv K h=>c0m 82 P 0 rfl (hv 5 82 (by kernel_rfl) (by decide) (by kernel_rfl)) (h _ hJ (fun _ _ _ e=>e)))
     | 7,ho=>cases ho;exact oweN (pt P 3) (by decide) (by decide) rfl (fun L a w hLi hJ hw hnot hk hv K h=>b0C 83 _ 3 P 0 3 rfl (fun W=>by kernel_rfl) (hv 6 83 (by kernel_rfl) (by decide) (by kernel_rfl)) (h _ hJ (fun _ _ _ e=>e)))
     | 8,ho=>cases ho;exact oweN (sl vb n) (by decide) (by decide) rfl (fun L a w hLi hJ hw hnot hk hv K h=>a0A _ (.tmp 84) rfl P 3 (hv 7 84 (by kernel_rfl) (by decide) (by kernel_rfl)) (sl vb n) _ (b0E (a0a SP.out hJ) 3 _ rfl) underlying33 rfl (h _ hJ (fun _ _ _ e=>e)))
     | 9,ho=>cases ho;exact oweN (nu c) (by decide) (by decide) rfl (fun L a w hLi hJ hw hnot hk hv K h=>a0q 9 _ rfl (hk 9 (by kernel_rfl)) (h _ hJ (fun _ _ _ e=>e)))
     | 10,ho=>cases ho;exact oweN (pt vb (0 + c * 1)) (by decide) (by decide) rfl (fun L a w hLi hJ hw hnot hk hv K h=>d0C 85 86 _ 9 rfl underlying33 1 sizeStr vb 0 n n c hcn (hv 8 85 (by kernel_rfl) (by decide) (by kernel_rfl)) (hv 9 86 (by kernel_rfl) (by decide) (by kernel_rfl)) (h _ hJ (fun _ _ _ e=>e)))
     | 11,ho=>cases ho;exact oweN (st VV) (by decide) (by decide) rfl (fun L a w hLi hJ hw hnot hk hv K h=>a0A _ (.tmp 87) rfl vb (0 + c * 1) (hv 10 87 (by kernel_rfl) (by decide) (by kernel_rfl)) (st VV) _ (by rw [Nat.zero_add,Nat.mul_one];exact HVv.out _ hJ) underlying9 rfl (h _ hJ (fun _ _ _ e=>e)))
     | 12,ho=>cases ho;exact oweN (.agg (subC XX).toArray) (by decide) (by decide) rfl (fun L a w hLi hJ hw hnot hk hv K h=>c0u _ (.tmp 10) rfl kX 0 (hk 10 (by kernel_rfl)) (subC XX) _ (a0k (a0a X7.out hJ)) underlying40 rfl ZX.out (h _ hJ (fun _ _ _ e=>e)))
     | 13,ho=>cases ho;exact oweN (.agg (YC).toArray) (by decide) (by decide) rfl (fun L a w hLi hJ hw hnot hk hv K h=>c0u _ (.tmp 11) rfl kY 0 (hk 11 (by kernel_rfl)) (YC) _ (a0k (a0a Y7.out hJ)) underlying44 rfl ZYC.out (h _ hJ (fun _ _ _ e=>e)))
     | 14,ho=>cases ho;exact oweN (.tuple #[(.agg G1.toArray),(nu 0)]) (by decide) (by decide) rfl (fun L a w hLi hJ hw hnot hk hv K h=>c0J 11 [.tmp 80,.tmp 81,.tmp 88,.tmp 89,.tmp 90] _ #[(pt p 0),(nu c),(st VV),(.agg (subC XX).toArray),(.agg (YC).toArray)] (.tuple #[(.agg G1.toArray),(nu 0)]) rfl (fun _ _=>by kernel_rfl) (u0S (hv 3 80 (by kernel_rfl) (by decide) (by kernel_rfl)) (hv 4 81 (by kernel_rfl) (by decide) (by kernel_rfl)) (hv 11 88 (by kernel_rfl) (by decide) (by kernel_rfl)) (hv 12 89 (by kernel_rfl) (by decide) (by kernel_rfl)) (hv 13 90 (by kernel_rfl) (by decide) (by kernel_rfl))) (J:=fun w1=>Below w.heap.size w w1) (HCk.out w hJ) (fun w1 e1=>h _ (hJ.trans (e1.mono hJ.size)) (fun _ _ _ e=>a0a e e1)))
     | 15,ho=>cases ho;exact oweN (.tuple #[(.agg G1.toArray),(nu 0)]) (by decide) (by decide) rfl (fun L a w hLi hJ hw hnot hk hv K h=>a0q 91 _ rfl (hv 14 91 (by kernel_rfl) (by decide) (by kernel_rfl)) (h _ hJ (fun _ _ _ e=>e)))
     | 16,ho=>cases ho;exact oweN (.agg G1.toArray) (by decide) (by decide) rfl (fun L a w hLi hJ hw hnot hk hv K h=>b0a 76 0 #[(.agg G1.toArray),(nu 0)] _ rfl (hv 15 76 (by kernel_rfl) (by decide) (by kernel_rfl)) rfl (h _ hJ (fun _ _ _ e=>e)))
     | 17,ho=>cases ho;exact oweN (nu 0) (by decide) (by decide) rfl (fun L a w hLi hJ hw hnot hk hv K h=>b0a 76 1 #[(.agg G1.toArray),(nu 0)] _ rfl (hv 15 76 (by kernel_rfl) (by decide) (by kernel_rfl)) rfl (h _ hJ (fun _ _ _ e=>e)))
     | 18,ho=>cases ho;exact d0a rfl ZG zeroGot LZG _ rfl (by kernel_rfl) (by decide) (fun _ _ h=>h.size) (fun _ w o h=>h.trans ((a0c w o).mono h.size))
     | 19,ho=>cases ho;exact d0b 13 92 rfl rfl (by kernel_rfl) 16 (by kernel_rfl) (by decide) (by kernel_rfl) (by kernel_rfl) rfl LG1.out OG1.out ZG1.out (fun _ w w2 g _ h hg _ hb=>hb.below h hg)
     | 20,ho=>cases ho;exact oweN (nu 0) (by decide) (by decide) rfl (fun L a w hLi hJ hw hnot hk hv K h=>c0l 93 _ rfl (hv 17 93 (by kernel_rfl) (by decide) (by kernel_rfl)) (h _ hJ (fun _ _ _ e=>e)))
     | (i + 21),ho=>exact absurd ho (by simp)
    intro kG LL W8 hgG8 hrG _ hJ;simp only [List.foldl_cons,List.foldl_nil,List.setIfInBounds_toArray,List.set_cons_zero,List.set_cons_succ];have S8:=hid (S7.out.kept hJ);have X8:=hid (a0a X7.out hJ);have Y8:=hid (a0a Y7.out hJ);have B8:Hid (Below X w W8):=hid (B7.out.trans (hJ.mono hX7));have hX8:X <= W8.heap.size:=hX ▸ B8.out.size;have G8:=hid hrG;have HAfg:=regr (w:=W8) (fun W hb1=>HAfc.out W (hJ.trans (hb1.mono hJ.size)));have hwb7:=S7.out.old wb (by simp);clear hJ hrG S7 X7 Y7 B7 SP HVv HCk LG1 OG1 ZG1 LZG zeroGot HP7 HAfr HAfc;go_upto_region 16 with fail
    have f0:∀ dd os,(Sort.grow (redrawn W8 dd) os).cell? ⟨kG,0,none⟩=some (st AF):=fun dd os=>cell_regrown (HGr.out _ _ G8.out).1 _ _;have fk:∀ dd os,(Sort.grow (redrawn W8 dd) os).cell? ⟨kX,1,none⟩=some (nu XX.kind):=fun dd os=>cell_regrown (HXk.out _ _ X8.out) _ _;have HLd:=hid (d0t W8 kY YC 44 Y8.out);have ZY':=ZYC.out
    go_cut [119] from 26 to 127 (fun v wx=>v = .bool false/\Hid (Below W8.heap.size W8 wx))
    case first =>
     by_cases hk2:XX.kind=2
     ·have eV:=m4 hk2
      rw [hk2] at fk;have f2:∀ dd os,(Sort.grow (redrawn W8 dd) os).cell? ⟨kG,2,none⟩=some (st YY.value):=fun dd os=>by rw [← eV];exact cell_regrown (HGr.out _ _ G8.out).2 _ _
      have fy:∀ dd os,(Sort.grow (redrawn W8 dd) os).cell? ⟨kY,37,none⟩=some (st YY.value):=fun dd os=>cell_regrown (HYv.out _ _ Y8.out) _ _;refine wp_region_quiet_below (by kernel_rfl) (by kernel_rfl) ?_
      iterate 9 (first | go_big_quiet_step (fail) | quiet_step (fail))
      refine b0k rfl 44 _ rfl kY rfl YC _ HLd.out underlying44 rfl ZY' ?_
      repeat (first | go_big_quiet_step (exact HAfg.out _ _) | quiet_step (exact HAfg.out _ _))
      refine wpQuiet_nil ?_;intro _ hw';obtain ⟨⟨dq,osq⟩,hw''⟩:=hw';subst hw'';have b9:=below_regrown W8 dq osq
      go_wp2_with fail
      go_meet
      case rel=>exact ⟨rfl,b9⟩
     ·have dk:(XX.kind == 2)=false:=beq_false_of_ne hk2
      refine wp_region_quiet_below (by kernel_rfl) (by kernel_rfl) ?_
      iterate 9 (first | go_big_quiet_step (fail) | quiet_step (fail))
      refine b0k rfl 44 _ rfl kY rfl YC _ HLd.out underlying44 rfl ZY' ?_
      repeat (first | go_big_quiet_step (exact HAfg.out _ _) | quiet_step (exact HAfg.out _ _))
      refine wpQuiet_nil ?_;intro _ hw';obtain ⟨⟨dq,osq⟩,hw''⟩:=hw';subst hw'';have b9:=below_regrown W8 dq osq
      go_wp2_with fail
      go_meet
      case rel=>exact ⟨rfl,b9⟩
    case rest =>
    obtain ⟨rfl,b9⟩:=hcut;have S9:=hid (S8.out.kept b9.out);have G9:=hid (a0a G8.out b9.out);have B9:Hid (Below X w wc):=hid (B8.out.trans (b9.out.mono hX8));have hX9:X <= wc.heap.size:=hX ▸ B9.out.size;have SP9:=hid S9.out.row;have hnes:=S9.out.ne;have hlow9:=S9.out.low;have Q9:=hid (h0Y S9.out.waits (by omega:c < Wt.length));have hPw:P ∉ [wb]:=by simpa using hnes.2.2.2.2.1
    have hgw:kG ∉ [wb]:=by
     have:=hgG8;simp only [List.mem_singleton];omega
    have HGv:=hid (fun (W:World) (hr:W.heap[kG]? = some (.cells G1.toArray 49))=>(HGr.out W kG hr).1);clear b9 S8 G8 B8 X8 Y8 f0 fk HLd HAfg;go_upto_region 18 with fail
    refine b0W (N:=128) [(pt P 0),(pt P 0),(pt P 4),(sl wb n),(nu c),(pt kG 0),(st AF),(pt wb (0 + c * 1)),undef] (fun L W=>Kp [wb] wc W/\W.heap[wb]? = some (.cells ((Wt.take c).map st++([bif L 8 then st AF else st (Wt.getD c [])]++(Wt.drop (c + 1)).map st)).toArray 9)) [(120,(pt P 0)),(121,(pt P 0)),(122,(pt P 4)),(123,(sl wb n)),(124,(nu c)),(125,(pt kG 0)),(126,(st AF)),(127,(pt wb (0 + c * 1)))] (by kernel_rfl) (by kernel_rfl) rfl (fun w1 hb1=>⟨Kp.of hb1,a0a Q9.out hb1⟩) (by kernel_rfl) ?_ ?_
    ·intro i o ho
     match i,ho with
     | 0,ho=>cases ho;exact fun L a w hLi hw hnot hJ hk hv K h=>a0q 5 _ rfl (hk 5 (by kernel_rfl)) (h _ hJ)
     | 1,ho=>cases ho;exact fun L a w hLi hw hnot hJ hk hv K h=>c0m 120 P 0 rfl (hv 0 120 (by kernel_rfl) (by kernel_rfl)) (h _ hJ)
     | 2,ho=>cases ho;exact fun L a w hLi hw hnot hJ hk hv K h=>b0C 121 _ 4 P 0 4 rfl (fun W=>by kernel_rfl) (hv 1 121 (by kernel_rfl) (by kernel_rfl)) (h _ hJ)
     | 3,ho=>cases ho;exact fun L a w hLi hw hnot hJ hk hv K h=>a0A _ (.tmp 122) rfl P 4 (hv 2 122 (by kernel_rfl) (by kernel_rfl)) (sl wb n) _ (b0E (hJ.1.row SP9.out hPw) 4 _ rfl) underlying33 rfl (h _ hJ)
     | 4,ho=>cases ho;exact fun L a w hLi hw hnot hJ hk hv K h=>a0q 9 _ rfl (hk 9 (by kernel_rfl)) (h _ hJ)
     | 5,ho=>cases ho;exact fun L a w hLi hw hnot hJ hk hv K h=>b0C 13 _ 0 kG 0 0 rfl (fun W=>by kernel_rfl) (hk 13 (by kernel_rfl)) (h _ hJ)
     | 6,ho=>cases ho;exact fun L a w hLi hw hnot hJ hk hv K h=>a0A _ (.tmp 125) rfl kG 0 (hv 5 125 (by kernel_rfl) (by kernel_rfl)) (st AF) _ (HGv.out _ (hJ.1.row G9.out hgw)) underlying9 rfl (h _ hJ)
     | 7,ho=>cases ho;exact fun L a w hLi hw hnot hJ hk hv K h=>d0C 123 124 _ 9 rfl underlying33 1 sizeStr wb 0 n n c hcn (hv 3 123 (by kernel_rfl) (by kernel_rfl)) (hv 4 124 (by kernel_rfl) (by kernel_rfl)) (h _ hJ)
     | 8,ho=>cases ho;exact fun L a w hLi hw hnot hJ hk hv K h=>f0x _ 127 126 rfl rfl wb (0 + c * 1) (hv 7 127 (by kernel_rfl) (by kernel_rfl)) ((Wt.take c).map st) ((Wt.drop (c + 1)).map st) (st (Wt.getD c [])) (st AF) (hv 6 126 (by kernel_rfl) (by kernel_rfl)) 9 (by have e:=hJ.2;simp only [hLi,cond_false] at e;exact e) (by rw [List.length_map,List.length_take];omega) rfl sizeStr (fun w2 hr hbut=>h _ ⟨hJ.1.but hbut (Or.inl (by simp)),(by show w2.heap[wb]? = some (.cells ((Wt.take c).map st++([bif up L 8 8 then st AF else st (Wt.getD c [])]++(Wt.drop (c + 1)).map st)).toArray 9);rw [b0s];exact hr)⟩)
     | (i + 9),ho=>exact absurd ho (by simp)
    intro LL W10 hall hJ;simp only [List.foldl_cons,List.foldl_nil,List.setIfInBounds_toArray,List.set_cons_zero,List.set_cons_succ];obtain ⟨k10,r10⟩:=hJ;rw [hall 8 (by decide),cond_true] at r10;have S10:=hid (S9.out.waitsTo k10 hcn r10);have B10:Hid (Below X w W10):=hid (B9.out.trans (k10.below (fun z hz=>by rw [List.mem_singleton] at hz;omega) hX9));have hBd:=HBd.out.submit (c:=c) hL1 haf hvl3;rw [← hH2] at hBd;clear k10 r10 hall S9 B9 Q9 SP9 G9;go_wp2;exact ⟨⟨j + 1,RR,V,_,H2,L1,G',by omega,by omega,by go_num,hBd,HVn,S10,B10⟩,by simp [intOf];omega⟩
end Go.Proofs.YtagmnmoaekbffaaGreatDoor.Ms
