/- Tfri -/
import Derived.Test.YtagmnmoaekbffaaGreatDoorTfba
import Derived.Test.YtagmnmoaekbffaaGreatDoorTjre
import Derived.Test.YtagmnmoaekbffaaGreatDoorS29
import Derived.Test.YtagmnmoaekbffaaGreatDoorS14
set_option maxHeartbeats 16000000
namespace Go.Proofs.YtagmnmoaekbffaaGreatDoor.Ms
open Go.Proofs.Tryz
open Go Go.RowKit
set_option maxRecDepth 100000
section
variable {P:Program} {ops:Array Oper} {C:World->Prop} {Q:Act->Prop} {a:Act} {o:Oper} {rest:List Oper}
theorem l0w (ty:TypeId) (l:List (Nat × Operand)) (ho:o.op = .build ty l.toArray) (hw:Region.wanted o (yielded ops a.tmps)=true) (z:Array Value) (hr:∀ w,(Instr.build ty (l.map fun x=>(x.1,a.eval x.2)).toArray).run P w = .ok (.agg z) w)
  (h:wpQuiet P ops C Q rest (a.put o.dst (.agg z))):wpQuiet P ops C Q (o :: rest) a:=by
 unfold wpQuiet;rw [if_pos hw];refine ⟨.agg z,fun w hC=>?_,h⟩;have hr':=hr w;unfold Oper.quietAt execOp;simp only [ho,List.map_toArray,Sem.run_bind,hr',Result.andThen_ok,Sem.run_pure,Oper.quietUpon]
 first | exact ⟨rfl,hC⟩ | exact hC | trivial | simp
end
theorem l0x {m:Msg} (h:m.kind ≠ 2):(c0D m).rep=m.rep:=by
 unfold c0D
 repeat' split
 all_goals first | rfl | contradiction
theorem j0g {m:Msg} (h:¬ (m.kind=5 ∨ m.kind=7 ∨ m.kind=8)):(c0D m).nums=m.nums:=by
 unfold c0D
 repeat' split
 all_goals first | rfl | contradiction
theorem l0y {m:Msg} (h:m.kind=2):(c0D m).rep=a0p:=by unfold c0D;rw [if_neg (by omega),if_pos h]
theorem j0h {m:Msg} (h:m.kind=5 ∨ m.kind=7 ∨ m.kind=8):(c0D m).nums = []:=by unfold c0D;rw [if_neg (by omega),if_neg (by omega),if_neg (by omega),if_neg (by omega),if_pos h]
theorem s0Z {m:Msg} (h:m.Wf):(c0D m).Wf:=by
 unfold c0D
 split
 ·exact ⟨wfZeroS,h.rep,h.tag,h.own,h.blob⟩
 ·split
  ·exact ⟨h.sub,wfZeroR,h.tag,h.own,h.blob⟩
  ·split
   ·exact ⟨h.sub,h.rep,rfl,h.own,h.blob⟩
   ·split
    ·exact ⟨h.sub,h.rep,h.tag,h.own,wfZeroB⟩
    ·split
     ·exact ⟨h.sub,h.rep,h.tag,h.own,h.blob⟩
     ·split
      ·exact ⟨h.sub,h.rep,rfl,rfl,h.blob⟩
      ·split
       ·exact ⟨h.sub,h.rep,h.tag,rfl,h.blob⟩
       ·exact h
theorem r0b {w:World} {m:Msg} {vP:Value} (h:a0g w vP m.rep.pend):a0g w (m0d m vP) (c0D m).rep.pend:=by
 unfold m0d;by_cases e:m.kind=2
 ·rw [if_pos e,l0y e]
  exact a0g.nil w
 ·rw [if_neg e,l0x e]
  exact h
theorem r0c {w:World} {m:Msg} {vN:Value} (h:a0w w vN m.nums):a0w w (m0e m vN) (c0D m).nums:=by
 unfold m0e;by_cases e:m.kind=5 ∨ m.kind=7 ∨ m.kind=8
 ·rw [if_pos e,j0h e]
  exact a0w.nil w
 ·rw [if_neg e,j0g e]
  exact h
theorem l0z {m:Msg} (h:Lens m):Lens (c0D m):=by
 refine ⟨?_,?_⟩
 ·by_cases e:m.kind=2
  ·rw [l0y e];exact Nat.zero_le _
  ·rw [l0x e];exact h.1
 ·by_cases e:m.kind=5 ∨ m.kind=7 ∨ m.kind=8
  ·rw [j0h e];exact Nat.zero_le _
  ·rw [j0g e];exact h.2
theorem u0O {w:World} {v:Value} {l:List Pen} (h:a0g w v l):v.oneCell' = true:=by obtain ⟨a,c,rfl,-⟩:=h;rfl
theorem u0P {w:World} {v:Value} {l:List Int} (h:a0w w v l):v.oneCell' = true:=by obtain ⟨a,c,rfl,-⟩:=h;rfl
theorem x0w:w0A:=fun h n w=>Hist.rright_any h n w
theorem u0Q {w:World} {m:Msg} {vP vN:Value} (hw:m.Wf) (hp:a0g w vP m.rep.pend) (hn:a0w w vN m.nums) (hl:Lens m) (hk:m.kind=1 ∨ m.kind=3) :
  Calls prog 23 #[.agg (msgC m vP vN).toArray] w fun e w'=>e = .returned (.bool (k0A m))/\Below w.heap.size w w':=by
 have HB0:=hid (a0c w (.cells (msgC m vP vN).toArray 80));have R0:=hid (a0f w (.cells (msgC m vP vN).toArray 80));have K1:Hid (∀ dd os,Calls prog 41 #[nu m.kind,nu 1,nu 11] (Sort.grow (redrawn (w.alloc (.cells (msgC m vP vN).toArray 80)) dd) os) fun e w''=>e = .returned (.bool (inB m.kind 1 11))/\∃ p:Regrown,w'' = Sort.grow (redrawn (w.alloc (.cells (msgC m vP vN).toArray 80)) p.d) p.os):=fun dd os=>Calls.regrown_of ((a0Z m.kind 1 11 _).mono (fun _ _ h=>⟨h.1,by rw [h.2];exact Below.refl _ _⟩));have K2:Hid (∀ dd os,Calls prog 41 #[nu m.client,nu 0,nu 7] (Sort.grow (redrawn (w.alloc (.cells (msgC m vP vN).toArray 80)) dd) os) fun e w''=>e = .returned (.bool (inB m.client 0 7))/\∃ p:Regrown,w'' = Sort.grow (redrawn (w.alloc (.cells (msgC m vP vN).toArray 80)) p.d) p.os):=fun dd os=>Calls.regrown_of ((a0Z m.client 0 7 _).mono (fun _ _ h=>⟨h.1,by rw [h.2];exact Below.refl _ _⟩));have K3:Hid (∀ dd os,Calls prog 43 #[.agg (msgC m vP vN).toArray] (Sort.grow (redrawn (w.alloc (.cells (msgC m vP vN).toArray 80)) dd) os) fun e w''=>e = .returned (.agg (msgC (c0D m) (m0d m vP) (m0e m vN)).toArray)/\∃ p:Regrown,w'' = Sort.grow (redrawn (w.alloc (.cells (msgC m vP vN).toArray 80)) p.d) p.os):=fun dd os=>Calls.regrown_of (q0Y hw hk (u0O hp) (u0P hn));have K4:Hid (∀ dd os,Calls prog 42 #[.agg (msgC (c0D m) (m0d m vP) (m0e m vN)).toArray,.agg (msgC (b0m m.kind m.client) (.slice none 0 0) (.slice none 0 0)).toArray] (Sort.grow (redrawn (w.alloc (.cells (msgC m vP vN).toArray 80)) dd) os) fun e w''=>e = .returned (.bool (b0Z (c0D m) (b0m m.kind m.client)))/\∃ p:Regrown,w'' = Sort.grow (redrawn (w.alloc (.cells (msgC m vP vN).toArray 80)) p.d) p.os):=fun dd os=>Calls.regrown_of (r0U (s0Z hw) (g0O m.kind m.client) (r0b (hp.kept (a0b HB0.out (below_regrown _ dd os)))) (a0g.nil _) (r0c (hn.kept (a0b HB0.out (below_regrown _ dd os)))) (a0w.nil _) (l0z hl).1 (l0z hl).2);have p0:∀ dd os,(Sort.grow (redrawn (w.alloc (.cells (msgC m vP vN).toArray 80)) dd) os).cell? ⟨w.heap.size,0,none⟩=some (nu m.kind):=fun dd os=>cell_regrown (b0R R0.out hw) _ _;have p1:∀ dd os,(Sort.grow (redrawn (w.alloc (.cells (msgC m vP vN).toArray 80)) dd) os).cell? ⟨w.heap.size,1,none⟩=some (nu m.client):=fun dd os=>cell_regrown (c0r R0.out hw) _ _;have HPw:=hid (hp.kept HB0.out);have HNw:=hid (hn.kept HB0.out);have HL:=hid hl;have HW:=hid hw;have Z0:(prog.info? 80).map (·.size)=some (msgC m vP vN).length:=by rw [d0q hw];exact sizeMsg
 have SV:Hid (∀ w':World,(∃ p:Regrown,w' = Sort.grow (redrawn (w.alloc (.cells (msgC m vP vN).toArray 80)) p.d) p.os)->∀ j v,(msgC m vP vN)[j]? = some v->w'.cell? ⟨w.heap.size,0 + j,none⟩=some v):=by
  rintro _ ⟨p,rfl⟩ j v hj;exact cell_regrown (a0s (off:=0) (A:=[]) (cs:=msgC m vP vN) (C:=[]) R0.out (by simp) rfl j v hj) _ _
 have BM:=hid (fun W=>p0y W m.kind m.client);have HRM:Hid (k0A m=(inB m.kind 1 11 && (inB m.client 0 7 && (b0Z (c0D m) (b0m m.kind m.client) && a0V m)))):=rfl;have HRP:Hid (a0V m=a0V m):=rfl;obtain ⟨BB,hBB⟩:∃ BB,BB=k0A m:=⟨_,rfl⟩;rw [← hBB] at HRM ⊢;clear hBB hp hn hl hw HRP;have HRow:Hid (∀ W,Below (w.alloc (.cells (msgC m vP vN).toArray 80)).heap.size (w.alloc (.cells (msgC m vP vN).toArray 80)) W->W.heap[w.heap.size]? = some (.cells (msgC m vP vN).toArray 80)):=fun W hb=>a0a R0.out hb;obtain ⟨RP,hRP⟩:∃ RP,RP=a0V m:=⟨_,rfl⟩;rw [← hRP] at HRM;have HRP:=hid hRP;clear hRP R0;have hVV:∀ (L:List Value),L=msgC m vP vN->True:=fun _ _=>trivial;clear hVV;obtain ⟨k,hk⟩:∃ k,k=m.kind:=⟨_,rfl⟩;obtain ⟨c,hc⟩:∃ c,c=m.client:=⟨_,rfl⟩;obtain ⟨b3,hb3⟩:∃ b3,b3=b0Z (c0D m) (b0m m.kind m.client):=⟨_,rfl⟩;rw [← hb3] at K4 HRM;clear hb3;obtain ⟨BV,hBV⟩:∃ BV,BV=(msgC (c0D m) (m0d m vP) (m0e m vN)).toArray:=⟨_,rfl⟩;rw [← hBV] at K3 K4;clear hBV;obtain ⟨ZV,hZV⟩:∃ ZV,ZV=(msgC (b0m m.kind m.client) (.slice none 0 0) (.slice none 0 0)).toArray:=⟨_,rfl⟩;rw [← hZV] at K4 BM;clear hZV;rw [← hk,← hc] at HRM;rw [← hc] at K2;rw [← hk] at K1 p0;rw [← hc] at p1;rw [← hk,← hc] at BM;have HK:=hid hk;have HCL:=hid hc;clear hk hc;generalize inB k 1 11=b1 at *;generalize inB c 0 7=b2 at *;have hbg:Hid (∀ dq osq,Below (w.alloc (.cells (msgC m vP vN).toArray 80)).heap.size (w.alloc (.cells (msgC m vP vN).toArray 80)) (Sort.grow (redrawn (w.alloc (.cells (msgC m vP vN).toArray 80)) dq) osq)):=fun dq osq=>below_regrown _ dq osq;obtain ⟨V,hV⟩:∃ V,V=msgC m vP vN:=⟨_,rfl⟩;rw [← hV] at HB0 K1 K2 K3 K4 p0 p1 HPw HNw Z0 SV HRow hbg ⊢;have HV:=hid hV;clear hV;go_enter func23,ntmps23;go_upto_region 1 with fail
 generalize w.alloc (.cells V.toArray 80)=W0 at *;generalize hg0:w.heap.size=g0 at *;have HG0:=hid hg0;clear hg0
 cases b1 with
 | false=>as_aux_lemma =>
  have HF:Hid (BB=false):=by show _=_;rw [HRM.out];simp
  refine wp_region_quiet_below (by kernel_rfl) (by kernel_rfl) ?_
  iterate 2 (first | go_big_quiet_step (fail) | quiet_step (fail))
  (first | go_big_quiet_step (exact K1.out _ _) | quiet_step (exact K1.out _ _))
  iterate 18 (first | go_big_quiet_step (fail) | quiet_step (fail))
  refine wpQuiet_nil ?_;intro _ hw';obtain ⟨⟨dq,osq⟩,hw''⟩:=hw';subst hw'';have HB1:=hid (hbg.out dq osq);clear p0 p1 K1 K2 K3 K4 SV BM hbg;generalize Sort.grow (redrawn W0 dq) osq=W1 at *
  have HBw:Hid (Below w.heap.size w W1):=by
   have h1:=HB0.out;have h2:=HB1.out;rw [← HG0.out] at *;exact a0b h1 h2
  go_wp2;go_ret;exact ⟨by rw [HF.out];rfl,HBw.out⟩
 | true =>
  cases b2 with
  | false=>as_aux_lemma =>
   have HF:Hid (BB=false):=by show _=_;rw [HRM.out];simp
   refine wp_region_quiet_below (by kernel_rfl) (by kernel_rfl) ?_
   iterate 2 (first | go_big_quiet_step (fail) | quiet_step (fail))
   (first | go_big_quiet_step (exact K1.out _ _) | quiet_step (exact K1.out _ _))
   iterate 4 (first | go_big_quiet_step (fail) | quiet_step (fail))
   (first | go_big_quiet_step (exact K2.out _ _) | quiet_step (exact K2.out _ _))
   iterate 13 (first | go_big_quiet_step (fail) | quiet_step (fail))
   refine wpQuiet_nil ?_;intro _ hw';obtain ⟨⟨dq,osq⟩,hw''⟩:=hw';subst hw'';have HB1:=hid (hbg.out dq osq);clear p0 p1 K1 K2 K3 K4 SV BM hbg;generalize Sort.grow (redrawn W0 dq) osq=W1 at *
   have HBw:Hid (Below w.heap.size w W1):=by
    have h1:=HB0.out;have h2:=HB1.out;rw [← HG0.out] at *;exact a0b h1 h2
   go_wp2;go_ret;exact ⟨by rw [HF.out];rfl,HBw.out⟩
  | true =>
   cases b3 with
   | false=>as_aux_lemma =>
    have HF:Hid (BB=false):=by show _=_;rw [HRM.out];simp
    refine wp_region_quiet_below (by kernel_rfl) (by kernel_rfl) ?_
    iterate 2 (first | go_big_quiet_step (fail) | quiet_step (fail))
    (first | go_big_quiet_step (exact K1.out _ _) | quiet_step (exact K1.out _ _))
    iterate 4 (first | go_big_quiet_step (fail) | quiet_step (fail))
    (first | go_big_quiet_step (exact K2.out _ _) | quiet_step (exact K2.out _ _))
    iterate 3 (first | go_big_quiet_step (fail) | quiet_step (fail))
    refine c0H 80 (.tmp 1) rfl g0 0 rfl rfl V _ (fun w' hw'=>SV.out w' hw') underlying80 rfl Z0 ?_;simp only [Act.put,List.setIfInBounds_toArray,List.set_cons_zero,List.set_cons_succ]
    (first | go_big_quiet_step (exact K3.out _ _) | quiet_step (exact K3.out _ _))
    iterate 4 (first | go_big_quiet_step (fail) | quiet_step (fail))
    refine l0w 80 [(0,.tmp 17),(1,.tmp 19)] rfl rfl ZV (fun W=>BM.out W) ?_;simp only [Act.put,List.setIfInBounds_toArray,List.set_cons_zero,List.set_cons_succ]
    (first | go_big_quiet_step (exact K4.out _ _) | quiet_step (exact K4.out _ _))
    iterate 2 (first | go_big_quiet_step (fail) | quiet_step (fail))
    refine wpQuiet_nil ?_;intro _ hw';obtain ⟨⟨dq,osq⟩,hw''⟩:=hw';subst hw'';have HB1:=hid (hbg.out dq osq);clear p0 p1 K1 K2 K3 K4 SV BM hbg;generalize Sort.grow (redrawn W0 dq) osq=W1 at *
    have HBw:Hid (Below w.heap.size w W1):=by
     have h1:=HB0.out;have h2:=HB1.out;rw [← HG0.out] at *;exact a0b h1 h2
    go_wp2;go_ret;exact ⟨by rw [HF.out];rfl,HBw.out⟩
   | true =>
    have HA:Hid (BB=RP):=by show _=_;rw [HRM.out];simp
    clear HRM;refine wp_region_quiet_below (by kernel_rfl) (by kernel_rfl) ?_
    iterate 2 (first | go_big_quiet_step (fail) | quiet_step (fail))
    (first | go_big_quiet_step (exact K1.out _ _) | quiet_step (exact K1.out _ _))
    iterate 4 (first | go_big_quiet_step (fail) | quiet_step (fail))
    (first | go_big_quiet_step (exact K2.out _ _) | quiet_step (exact K2.out _ _))
    iterate 3 (first | go_big_quiet_step (fail) | quiet_step (fail))
    refine c0H 80 (.tmp 1) rfl g0 0 rfl rfl V _ (fun w' hw'=>SV.out w' hw') underlying80 rfl Z0 ?_;simp only [Act.put,List.setIfInBounds_toArray,List.set_cons_zero,List.set_cons_succ]
    (first | go_big_quiet_step (exact K3.out _ _) | quiet_step (exact K3.out _ _))
    iterate 4 (first | go_big_quiet_step (fail) | quiet_step (fail))
    refine l0w 80 [(0,.tmp 17),(1,.tmp 19)] rfl rfl ZV (fun W=>BM.out W) ?_;simp only [Act.put,List.setIfInBounds_toArray,List.set_cons_zero,List.set_cons_succ]
    (first | go_big_quiet_step (exact K4.out _ _) | quiet_step (exact K4.out _ _))
    iterate 2 (first | go_big_quiet_step (fail) | quiet_step (fail))
    refine wpQuiet_nil ?_;intro _ hw';obtain ⟨⟨dq,osq⟩,hw''⟩:=hw';subst hw'';have HB1:=hid (hbg.out dq osq);clear p0 p1 K1 K2 K3 K4 SV BM hbg;generalize Sort.grow (redrawn W0 dq) osq=W1 at *
    have HBw:Hid (Below w.heap.size w W1):=by
     have h1:=HB0.out;have h2:=HB1.out;rw [← HG0.out] at *;exact a0b h1 h2
    have R1:=hid (HRow.out _ HB1.out);rw [HV.out] at R1;have HP1:=hid (HPw.out.kept HB1.out);have HN1:=hid (HNw.out.kept HB1.out);have ck:=b0R R1.out HW.out;rw [← HK.out] at ck;have cc:=c0r R1.out HW.out;rw [← HCL.out] at cc;clear HRow HPw HNw Z0 HB0 HB1 HV;by_cases e1:k=1
    ·as_aux_lemma =>
     subst e1;have HRV:Hid (RP=(d0l m.sub.number m.sub.kind m.sub.target && decide (m.sub.value.length <= 256))):=by show _=_;rw [HRP.out];unfold a0V;rw [if_pos HK.out.symm];rfl
     have c1:=h0i R1.out HW.out;have c2:=j0z R1.out HW.out;have c3:=h0j R1.out HW.out;have c4:=i0j R1.out HW.out;have HAs:=hid (n0s m.sub.number m.sub.kind m.sub.target W1);clear HRP HK;generalize d0l m.sub.number m.sub.kind m.sub.target=bA at *;generalize m.sub.number=x1 at *;generalize m.sub.kind=x2 at *;generalize m.sub.target=x3 at *;generalize m.sub.value=x4 at *;clear R1 HP1 HN1 HW HL HCL
     cases bA with
     | false =>
      go_wp2_with fail
      refine HAs.out.mono ?_;rintro e W2 ⟨rfl,e2⟩;subst W2;go_wp2;go_ret;exact ⟨by rw [HA.out,HRV.out];rfl,HBw.out⟩
     | true =>
      go_wp2_with fail
      refine HAs.out.mono ?_;rintro e W2 ⟨rfl,e2⟩;subst W2;go_wp2;go_ret;exact ⟨by rw [HA.out,HRV.out];simp;omega,HBw.out⟩
    by_cases e2:k=2
    ·as_aux_lemma =>
     subst e2;have HRV:Hid (RP=((c == 0) && repB m.rep)):=by show _=_;rw [HRP.out,HCL.out];unfold a0V;rw [if_neg (by have:=HK.out;omega),if_pos HK.out.symm]
     have SR:=hid (e0V R1.out HW.out);have ZR:(prog.info? 44).map (·.size)=some (repC m.rep vP).length:=by rw [a0j HW.out.rep];exact sizeRep
     have HRe:=hid (o0V x0w HW.out.rep HP1.out HL.out.1);clear HRP HK HCL;generalize repB m.rep=bA at *;generalize repC m.rep vP=RC at *;clear R1 HP1 HN1 HW HL
     cases hc0:(c == 0) with
     | false =>
      rw [hc0] at HRV;go_wp2;go_ret;exact ⟨by rw [HA.out,HRV.out];rfl,HBw.out⟩
     | true =>
      rw [hc0] at HRV
      go_wp2_with (first | ((with_reducible refine a0d 44 (.tmp 51) ?_ g0 70 ?_ ?_ RC _ SR.out underlying44 ?_ ZR ?_);iterate 4 exact rfl))
      refine HRe.out.mono ?_;rintro e W2 ⟨rfl,hb2⟩;have HB2:=hid (a0b HBw.out hb2);clear hb2;go_wp2;go_ret;exact ⟨by rw [HA.out,HRV.out];rfl,HB2.out⟩
    by_cases e3:k=3
    ·as_aux_lemma =>
     subst e3;have HRV:Hid (RP=((m.view != []) && Hist.rightB m.view 8)):=by show _=_;rw [HRP.out];unfold a0V;rw [if_neg (by have:=HK.out;omega),if_neg (by have:=HK.out;omega),if_pos HK.out.symm];rfl
     have c1:=a0y R1.out HW.out;have HRi:=hid (Hist.rright_any m.view 8 W1);clear HRP HK HCL;generalize Hist.rightB m.view 8=bA at *;generalize m.view=x1 at *;clear R1 HP1 HN1 HW HL
     cases x1 with
     | nil =>
      go_wp2;go_ret;exact ⟨by rw [HA.out,HRV.out];rfl,HBw.out⟩
     | cons y1 y2 =>
      go_wp2_with fail
      refine HRi.out.mono ?_;rintro e W2 ⟨rfl,e2⟩;subst W2;go_wp2;go_ret;exact ⟨by rw [HA.out,HRV.out];rfl,HBw.out⟩
    by_cases e4:k=4
    ·as_aux_lemma =>
     subst e4;have HRV:Hid (RP=((c == 0) && (inB m.blob.owner 0 7 && (inB m.blob.number 0 1099511627776 && decide (m.blob.cipher.length <= 4096))))):=by show _=_;rw [HRP.out,HCL.out];unfold a0V;rw [if_neg (by have:=HK.out;omega),if_neg (by have:=HK.out;omega),if_neg (by have:=HK.out;omega),if_pos (by have:=HK.out;omega)];rfl
     have c1:=e0E R1.out HW.out;have c2:=e0v R1.out HW.out;have c3:=e0w R1.out HW.out;have HW1:Hid (Calls prog 41 #[nu m.blob.owner,nu 0,nu 7] W1 fun e w'=>e = .returned (.bool (inB m.blob.owner 0 7))/\w' = W1):=a0Z m.blob.owner 0 7 W1;have HW2:Hid (Calls prog 41 #[nu m.blob.number,nu 0,nu 1099511627776] W1 fun e w'=>e = .returned (.bool (inB m.blob.number 0 1099511627776))/\w' = W1):=a0Z m.blob.number 0 1099511627776 W1;clear HRP HK HCL;generalize inB m.blob.owner 0 7=bA at *;generalize inB m.blob.number 0 1099511627776=bB at *;generalize m.blob.owner=x1 at *;generalize m.blob.number=x2 at *;generalize m.blob.cipher=x3 at *;clear R1 HP1 HN1 HW HL
     cases hc0:(c == 0) with
     | false =>
      rw [hc0] at HRV;go_wp2;go_ret;exact ⟨by rw [HA.out,HRV.out];rfl,HBw.out⟩
     | true =>
      rw [hc0] at HRV
      cases bA with
      | false =>
       go_wp2_with fail
       refine HW1.out.mono ?_;rintro e W2 ⟨rfl,e2⟩;subst W2;go_wp2;go_ret;exact ⟨by rw [HA.out,HRV.out];rfl,HBw.out⟩
      | true =>
       go_wp2_with fail
       refine HW1.out.mono ?_;rintro e W2 ⟨rfl,e2⟩;subst W2
       cases bB with
       | false =>
        go_wp2_with fail
        refine HW2.out.mono ?_;rintro e W2 ⟨rfl,e2⟩;subst W2;go_wp2;go_ret;exact ⟨by rw [HA.out,HRV.out];rfl,HBw.out⟩
       | true =>
        go_wp2_with fail
        refine HW2.out.mono ?_;rintro e W2 ⟨rfl,e2⟩;subst W2;go_wp2;go_ret;exact ⟨by rw [HA.out,HRV.out];simp;omega,HBw.out⟩
    by_cases e6:k=6
    ·as_aux_lemma =>
     subst e6;have HRV:Hid (RP=((c == 0) && (inB m.blob.owner 0 7 && (inB m.blob.number 0 1099511627776 && decide (m.blob.cipher.length <= 4096))))):=by show _=_;rw [HRP.out,HCL.out];unfold a0V;rw [if_neg (by have:=HK.out;omega),if_neg (by have:=HK.out;omega),if_neg (by have:=HK.out;omega),if_pos (by have:=HK.out;omega)];rfl
     have c1:=e0E R1.out HW.out;have c2:=e0v R1.out HW.out;have c3:=e0w R1.out HW.out;have HW1:Hid (Calls prog 41 #[nu m.blob.owner,nu 0,nu 7] W1 fun e w'=>e = .returned (.bool (inB m.blob.owner 0 7))/\w' = W1):=a0Z m.blob.owner 0 7 W1;have HW2:Hid (Calls prog 41 #[nu m.blob.number,nu 0,nu 1099511627776] W1 fun e w'=>e = .returned (.bool (inB m.blob.number 0 1099511627776))/\w' = W1):=a0Z m.blob.number 0 1099511627776 W1;clear HRP HK HCL;generalize inB m.blob.owner 0 7=bA at *;generalize inB m.blob.number 0 1099511627776=bB at *;generalize m.blob.owner=x1 at *;generalize m.blob.number=x2 at *;generalize m.blob.cipher=x3 at *;clear R1 HP1 HN1 HW HL
     cases hc0:(c == 0) with
     | false =>
      rw [hc0] at HRV;go_wp2;go_ret;exact ⟨by rw [HA.out,HRV.out];rfl,HBw.out⟩
     | true =>
      rw [hc0] at HRV
      cases bA with
      | false =>
       go_wp2_with fail
       refine HW1.out.mono ?_;rintro e W2 ⟨rfl,e2⟩;subst W2;go_wp2;go_ret;exact ⟨by rw [HA.out,HRV.out];rfl,HBw.out⟩
      | true =>
       go_wp2_with fail
       refine HW1.out.mono ?_;rintro e W2 ⟨rfl,e2⟩;subst W2
       cases bB with
       | false =>
        go_wp2_with fail
        refine HW2.out.mono ?_;rintro e W2 ⟨rfl,e2⟩;subst W2;go_wp2;go_ret;exact ⟨by rw [HA.out,HRV.out];rfl,HBw.out⟩
       | true =>
        go_wp2_with fail
        refine HW2.out.mono ?_;rintro e W2 ⟨rfl,e2⟩;subst W2;go_wp2;go_ret;exact ⟨by rw [HA.out,HRV.out];simp;omega,HBw.out⟩
    by_cases e5:k=5
    ·as_aux_lemma =>
     subst e5;have HRV:Hid (RP=d0y m.nums):=by show _=_;rw [HRP.out];unfold a0V;rw [if_neg (by have:=HK.out;omega),if_neg (by have:=HK.out;omega),if_neg (by have:=HK.out;omega),if_neg (by have:=HK.out;omega),if_pos (by have:=HK.out;omega)]
     have c1:=b0v R1.out HW.out;have HNu:=hid (h0A HN1.out HL.out.2);clear HRP HK HCL;generalize d0y m.nums=bA at *;clear R1 HP1 HN1 HW HL
     go_wp2_with fail
     refine HNu.out.mono ?_;rintro e W2 ⟨rfl,hb2⟩;have HB2:=hid (a0b HBw.out hb2);clear hb2;go_wp2;go_ret;exact ⟨by rw [HA.out,HRV.out];rfl,HB2.out⟩
    by_cases e7:k=7
    ·as_aux_lemma =>
     subst e7;have HRV:Hid (RP=d0y m.nums):=by show _=_;rw [HRP.out];unfold a0V;rw [if_neg (by have:=HK.out;omega),if_neg (by have:=HK.out;omega),if_neg (by have:=HK.out;omega),if_neg (by have:=HK.out;omega),if_pos (by have:=HK.out;omega)]
     have c1:=b0v R1.out HW.out;have HNu:=hid (h0A HN1.out HL.out.2);clear HRP HK HCL;generalize d0y m.nums=bA at *;clear R1 HP1 HN1 HW HL
     go_wp2_with fail
     refine HNu.out.mono ?_;rintro e W2 ⟨rfl,hb2⟩;have HB2:=hid (a0b HBw.out hb2);clear hb2;go_wp2;go_ret;exact ⟨by rw [HA.out,HRV.out];rfl,HB2.out⟩
    by_cases e8:k=8
    ·as_aux_lemma =>
     subst e8;have HRV:Hid (RP=d0y m.nums):=by show _=_;rw [HRP.out];unfold a0V;rw [if_neg (by have:=HK.out;omega),if_neg (by have:=HK.out;omega),if_neg (by have:=HK.out;omega),if_neg (by have:=HK.out;omega),if_pos (by have:=HK.out;omega)]
     have c1:=b0v R1.out HW.out;have HNu:=hid (h0A HN1.out HL.out.2);clear HRP HK HCL;generalize d0y m.nums=bA at *;clear R1 HP1 HN1 HW HL
     go_wp2_with fail
     refine HNu.out.mono ?_;rintro e W2 ⟨rfl,hb2⟩;have HB2:=hid (a0b HBw.out hb2);clear hb2;go_wp2;go_ret;exact ⟨by rw [HA.out,HRV.out];rfl,HB2.out⟩
    by_cases e10:k=10
    ·as_aux_lemma =>
     subst e10;have HRV:Hid (RP=(inB m.who 0 7 && ((m.view != []) && Hist.rightB m.view 8))):=by show _=_;rw [HRP.out];unfold a0V;rw [if_neg (by have:=HK.out;omega),if_neg (by have:=HK.out;omega),if_neg (by have:=HK.out;omega),if_neg (by have:=HK.out;omega),if_neg (by have:=HK.out;omega),if_pos HK.out.symm];rfl
     have c0:=a0J R1.out HW.out;have c1:=a0y R1.out HW.out;have HW1:Hid (Calls prog 41 #[nu m.who,nu 0,nu 7] W1 fun e w'=>e = .returned (.bool (inB m.who 0 7))/\w' = W1):=a0Z m.who 0 7 W1;have HRi:=hid (Hist.rright_any m.view 8 W1);clear HRP HK HCL;generalize Hist.rightB m.view 8=bB at *;generalize m.view=x1 at *;generalize inB m.who 0 7=bA at *;generalize m.who=x0 at *;clear R1 HP1 HN1 HW HL
     cases bA with
     | false =>
      go_wp2_with fail
      refine HW1.out.mono ?_;rintro e W2 ⟨rfl,e2⟩;subst W2;go_wp2;go_ret;exact ⟨by rw [HA.out,HRV.out];rfl,HBw.out⟩
     | true =>
      go_wp2_with fail
      refine HW1.out.mono ?_;rintro e W2 ⟨rfl,e2⟩;subst W2
      cases x1 with
      | nil =>
       go_wp2;go_ret;exact ⟨by rw [HA.out,HRV.out];rfl,HBw.out⟩
      | cons y1 y2 =>
       go_wp2_with fail
       refine HRi.out.mono ?_;rintro e W2 ⟨rfl,e2⟩;subst W2;go_wp2;go_ret;exact ⟨by rw [HA.out,HRV.out];rfl,HBw.out⟩
    have HRV:Hid (RP=true):=by show _=_;rw [HRP.out];unfold a0V;rw [if_neg (by have:=HK.out;omega),if_neg (by have:=HK.out;omega),if_neg (by have:=HK.out;omega),if_neg (by have:=HK.out;omega),if_neg (by have:=HK.out;omega),if_neg (by have:=HK.out;omega)]
    have d1:(k == 1)=false:=beq_false_of_ne e1;have d2:(k == 2)=false:=beq_false_of_ne e2;have d3:(k == 3)=false:=beq_false_of_ne e3;have d4:(k == 4)=false:=beq_false_of_ne e4;have d6:(k == 6)=false:=beq_false_of_ne e6;have d5:(k == 5)=false:=beq_false_of_ne e5;have d7:(k == 7)=false:=beq_false_of_ne e7;have d8:(k == 8)=false:=beq_false_of_ne e8;have d10:(k == 10)=false:=beq_false_of_ne e10;clear HRP HK HCL R1 HP1 HN1 HW HL;clear e1 e2 e3 e4 e6 e5 e7 e8 e10;go_wp2;go_ret;exact ⟨by rw [HA.out,HRV.out];rfl,HBw.out⟩
theorem rmay {w:World} {m:Msg} {vP vN:Value} (hw:m.Wf) (_hi:I64 m.who) (hp:a0g w vP m.rep.pend) (hn:a0w w vN m.nums) (hl:Lens m) (hk:m.kind=1 ∨ m.kind=3) :
  Calls prog 23 #[.agg (msgC m vP vN).toArray] w fun e w'=>e = .returned (.bool (mayB m))/\Below w.heap.size w w':=by
 rw [p0s];exact u0Q hw hp hn hl hk
end Go.Proofs.YtagmnmoaekbffaaGreatDoor.Ms
