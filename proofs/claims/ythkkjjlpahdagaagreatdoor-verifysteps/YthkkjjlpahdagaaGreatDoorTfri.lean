/-
  Which messages may be: what the reference answers (R10.Right).
-/
import Derived.Test.YthkkjjlpahdagaaGreatDoorTfba
import Derived.Test.YthkkjjlpahdagaaGreatDoorTjre
import Derived.Test.YthkkjjlpahdagaaGreatDoorS29
import Derived.Test.YthkkjjlpahdagaaGreatDoorS14
set_option maxHeartbeats 16000000
namespace Go.Proofs.YthkkjjlpahdagaaGreatDoor.Ms
open Go Go.RowKit
set_option maxRecDepth 100000
section
variable {P:Program} {ops:Array Oper} {C:World→Prop} {Q:Act→Prop} {a:Act} {o:Oper} {rest:List Oper}
theorem wq_buildL (ty:TypeId) (l:List (Nat × Operand)) (ho:o.op = .build ty l.toArray) (hw:Region.wanted o (yielded ops a.tmps)=true) (z:Array Value) (hr:∀ w,(Instr.build ty (l.map fun x=>(x.1,a.eval x.2)).toArray).run P w = .ok (.agg z) w)
  (h:wpQuiet P ops C Q rest (a.put o.dst (.agg z))):wpQuiet P ops C Q (o :: rest) a:=by
 unfold wpQuiet
 rw [if_pos hw]
 refine ⟨.agg z,fun w hC=>?_,h⟩
 have hr':=hr w
 unfold Oper.quietAt execOp
 simp only [ho,List.map_toArray,Sem.run_bind,hr',Result.andThen_ok,Sem.run_pure,Oper.quietUpon]
 first | exact ⟨rfl,hC⟩ | exact hC | trivial | simp
end
theorem bareM_rep {m:Msg} (h:m.kind ≠ 2):(bareM m).rep=m.rep:=by
 unfold bareM
 repeat' split
 all_goals first | rfl | contradiction
theorem bareM_nums {m:Msg} (h:¬ (m.kind=5 ∨ m.kind=7 ∨ m.kind=8)):(bareM m).nums=m.nums:=by
 unfold bareM
 repeat' split
 all_goals first | rfl | contradiction
theorem bareM_two {m:Msg} (h:m.kind=2):(bareM m).rep=zeroR:=by unfold bareM;rw [if_neg (by omega),if_pos h]
theorem bareM_list {m:Msg} (h:m.kind=5 ∨ m.kind=7 ∨ m.kind=8):(bareM m).nums = []:=by unfold bareM;rw [if_neg (by omega),if_neg (by omega),if_neg (by omega),if_neg (by omega),if_pos h]
theorem bareM_wf {m:Msg} (h:m.Wf):(bareM m).Wf:=by
 unfold bareM
 split
 ·exact ⟨wfZeroS,h.rep,h.tag,h.own,h.blob⟩
 ·split
  ·exact ⟨h.sub,wfZeroR,h.tag,h.own,h.blob⟩
  ·split
   ·exact ⟨h.sub,h.rep,rfl,h.own,h.blob⟩
   ·split
    ·exact ⟨h.sub,h.rep,h.tag,h.own,wfZeroB⟩
    ·split
     ·exact ⟨h.sub,h.rep,h.tag,h.own,h.blob⟩
     ·split
      ·exact ⟨h.sub,h.rep,rfl,rfl,h.blob⟩
      ·split
       ·exact ⟨h.sub,h.rep,h.tag,rfl,h.blob⟩
       ·exact h
theorem bare_pens {w:World} {m:Msg} {vP:Value} (h:PensAt w vP m.rep.pend):PensAt w (bareP m vP) (bareM m).rep.pend:=by
 unfold bareP
 by_cases e:m.kind=2
 ·rw [if_pos e,bareM_two e]
  exact PensAt.nil w
 ·rw [if_neg e,bareM_rep e]
  exact h
theorem bare_ints {w:World} {m:Msg} {vN:Value} (h:IntsAt w vN m.nums):IntsAt w (bareN m vN) (bareM m).nums:=by
 unfold bareN
 by_cases e:m.kind=5 ∨ m.kind=7 ∨ m.kind=8
 ·rw [if_pos e,bareM_list e]
  exact IntsAt.nil w
 ·rw [if_neg e,bareM_nums e]
  exact h
theorem bare_lens {m:Msg} (h:Lens m):Lens (bareM m):=by
 refine ⟨?_,?_⟩
 ·by_cases e:m.kind=2
  ·rw [bareM_two e];exact Nat.zero_le _
  ·rw [bareM_rep e];exact h.1
 ·by_cases e:m.kind=5 ∨ m.kind=7 ∨ m.kind=8
  ·rw [bareM_list e];exact Nat.zero_le _
  ·rw [bareM_nums e];exact h.2
theorem onePens {w:World} {v:Value} {l:List Pen} (h:PensAt w v l):v.oneCell' = true:=by obtain ⟨a,c,rfl,-⟩:=h;rfl
theorem oneInts {w:World} {v:Value} {l:List Int} (h:IntsAt w v l):v.oneCell' = true:=by obtain ⟨a,c,rfl,-⟩:=h;rfl
theorem rgtOk:RgtOk:=fun h n w=>Hist.rright_any h n w
theorem rrm_any {w:World} {m:Msg} {vP vN:Value} (hw:m.Wf) (hi:I64 m.who) (hp:PensAt w vP m.rep.pend) (hn:IntsAt w vN m.nums) (hl:Lens m) :
  Calls Tryz.prog 43 #[.agg (msgC m vP vN).toArray] w fun e w'=>e = .returned (.bool (rightM m))∧Below w.heap.size w w':=by
 have HB0:=hid (below_a1 w (.cells (msgC m vP vN).toArray 102))
 have R0:=hid (top_obj w (.cells (msgC m vP vN).toArray 102))
 have K1:Hid (∀ dd os,Calls Tryz.prog 72 #[nu m.kind,nu 1,nu 11] (Sort.grow (redrawn (w.alloc (.cells (msgC m vP vN).toArray 102)) dd) os) fun e w''=>e = .returned (.bool (inB m.kind 1 11))∧∃ p:Regrown,w'' = Sort.grow (redrawn (w.alloc (.cells (msgC m vP vN).toArray 102)) p.d) p.os):=fun dd os=>Calls.regrown_of ((within_any m.kind 1 11 _).mono (fun _ _ h=>⟨h.1,by rw [h.2];exact Below.refl _ _⟩))
 have K2:Hid (∀ dd os,Calls Tryz.prog 72 #[nu m.client,nu 0,nu 7] (Sort.grow (redrawn (w.alloc (.cells (msgC m vP vN).toArray 102)) dd) os) fun e w''=>e = .returned (.bool (inB m.client 0 7))∧∃ p:Regrown,w'' = Sort.grow (redrawn (w.alloc (.cells (msgC m vP vN).toArray 102)) p.d) p.os):=fun dd os=>Calls.regrown_of ((within_any m.client 0 7 _).mono (fun _ _ h=>⟨h.1,by rw [h.2];exact Below.refl _ _⟩))
 have K3:Hid (∀ dd os,Calls Tryz.prog 74 #[.agg (msgC m vP vN).toArray] (Sort.grow (redrawn (w.alloc (.cells (msgC m vP vN).toArray 102)) dd) os) fun e w''=>e = .returned (.agg (msgC (bareM m) (bareP m vP) (bareN m vN)).toArray)∧∃ p:Regrown,w'' = Sort.grow (redrawn (w.alloc (.cells (msgC m vP vN).toArray 102)) p.d) p.os):=fun dd os=>Calls.regrown_of (rbare_any hw hi (onePens hp) (oneInts hn))
 have K4:Hid (∀ dd os,Calls Tryz.prog 73 #[.agg (msgC (bareM m) (bareP m vP) (bareN m vN)).toArray,.agg (msgC (zeroM m.kind m.client) (.slice none 0 0) (.slice none 0 0)).toArray] (Sort.grow (redrawn (w.alloc (.cells (msgC m vP vN).toArray 102)) dd) os) fun e w''=>e = .returned (.bool (sameM (bareM m) (zeroM m.kind m.client)))∧∃ p:Regrown,w'' = Sort.grow (redrawn (w.alloc (.cells (msgC m vP vN).toArray 102)) p.d) p.os):=fun dd os=>Calls.regrown_of (same_any (bareM_wf hw) (zeroM_wf m.kind m.client) (bare_pens (hp.kept (below_two HB0.out (below_regrown _ dd os)))) (PensAt.nil _) (bare_ints (hn.kept (below_two HB0.out (below_regrown _ dd os)))) (IntsAt.nil _) (bare_lens hl).1 (bare_lens hl).2)
 have p0:∀ dd os,(Sort.grow (redrawn (w.alloc (.cells (msgC m vP vN).toArray 102)) dd) os).cell? ⟨w.heap.size,0,none⟩=some (nu m.kind):=fun dd os=>cell_regrown (mrow_kind R0.out hw) _ _
 have p1:∀ dd os,(Sort.grow (redrawn (w.alloc (.cells (msgC m vP vN).toArray 102)) dd) os).cell? ⟨w.heap.size,1,none⟩=some (nu m.client):=fun dd os=>cell_regrown (mrow_client R0.out hw) _ _
 have HPw:=hid (hp.kept HB0.out)
 have HNw:=hid (hn.kept HB0.out)
 have HL:=hid hl
 have HW:=hid hw
 have Z0:(Tryz.prog.info? 102).map (·.size)=some (msgC m vP vN).length:=by rw [msgC_len hw];exact sizeMsg
 have SV:Hid (∀ w':World,(∃ p:Regrown,w' = Sort.grow (redrawn (w.alloc (.cells (msgC m vP vN).toArray 102)) p.d) p.os)→∀ j v,(msgC m vP vN)[j]? = some v→w'.cell? ⟨w.heap.size,0 + j,none⟩=some v):=by
  rintro _ ⟨p,rfl⟩ j v hj
  exact cell_regrown (row_seg (off:=0) (A:=[]) (cs:=msgC m vP vN) (C:=[]) R0.out (by simp) rfl j v hj) _ _
 have BM:=hid (fun W=>build_msg W m.kind m.client)
 have HRM:Hid (rightM m=(inB m.kind 1 11 && (inB m.client 0 7 && (sameM (bareM m) (zeroM m.kind m.client) && refParts m)))):=rfl
 have HRP:Hid (refParts m=refParts m):=rfl
 obtain ⟨BB,hBB⟩:∃ BB,BB=rightM m:=⟨_,rfl⟩
 rw [← hBB] at HRM ⊢
 clear hBB hp hn hl hw hi HRP
 have HRow:Hid (∀ W,Below (w.alloc (.cells (msgC m vP vN).toArray 102)).heap.size (w.alloc (.cells (msgC m vP vN).toArray 102)) W→W.heap[w.heap.size]? = some (.cells (msgC m vP vN).toArray 102)):=fun W hb=>row_kept R0.out hb
 obtain ⟨RP,hRP⟩:∃ RP,RP=refParts m:=⟨_,rfl⟩
 rw [← hRP] at HRM
 have HRP:=hid hRP
 clear hRP R0
 have hVV:∀ (L:List Value),L=msgC m vP vN→True:=fun _ _=>trivial
 clear hVV
 obtain ⟨k,hk⟩:∃ k,k=m.kind:=⟨_,rfl⟩
 obtain ⟨c,hc⟩:∃ c,c=m.client:=⟨_,rfl⟩
 obtain ⟨b3,hb3⟩:∃ b3,b3=sameM (bareM m) (zeroM m.kind m.client):=⟨_,rfl⟩
 rw [← hb3] at K4 HRM
 clear hb3
 obtain ⟨BV,hBV⟩:∃ BV,BV=(msgC (bareM m) (bareP m vP) (bareN m vN)).toArray:=⟨_,rfl⟩
 rw [← hBV] at K3 K4
 clear hBV
 obtain ⟨ZV,hZV⟩:∃ ZV,ZV=(msgC (zeroM m.kind m.client) (.slice none 0 0) (.slice none 0 0)).toArray:=⟨_,rfl⟩
 rw [← hZV] at K4 BM
 clear hZV
 rw [← hk,← hc] at HRM
 rw [← hc] at K2
 rw [← hk] at K1 p0
 rw [← hc] at p1
 rw [← hk,← hc] at BM
 have HK:=hid hk
 have HCL:=hid hc
 clear hk hc
 generalize inB k 1 11=b1 at *
 generalize inB c 0 7=b2 at *
 have hbg:Hid (∀ dq osq,Below (w.alloc (.cells (msgC m vP vN).toArray 102)).heap.size (w.alloc (.cells (msgC m vP vN).toArray 102)) (Sort.grow (redrawn (w.alloc (.cells (msgC m vP vN).toArray 102)) dq) osq)):=fun dq osq=>below_regrown _ dq osq
 obtain ⟨V,hV⟩:∃ V,V=msgC m vP vN:=⟨_,rfl⟩
 rw [← hV] at HB0 K1 K2 K3 K4 p0 p1 HPw HNw Z0 SV HRow hbg ⊢
 have HV:=hid hV
 clear hV
 go_enter Tryz.func43,Tryz.ntmps43
 go_upto_region 1 with fail
 generalize w.alloc (.cells V.toArray 102)=W0 at *
 generalize hg0:w.heap.size=g0 at *
 have HG0:=hid hg0
 clear hg0
 cases b1 with
 | false=>as_aux_lemma =>
  have HF:Hid (BB=false):=by show _=_;rw [HRM.out];simp
  refine wp_region_quiet_below (by kernel_rfl) (by kernel_rfl) ?_
  iterate 2 (first | go_big_quiet_step (fail) | quiet_step (fail))
  (first | go_big_quiet_step (exact K1.out _ _) | quiet_step (exact K1.out _ _))
  iterate 18 (first | go_big_quiet_step (fail) | quiet_step (fail))
  refine wpQuiet_nil ?_
  intro _ hw'
  obtain ⟨⟨dq,osq⟩,hw''⟩:=hw'
  subst hw''
  have HB1:=hid (hbg.out dq osq)
  clear p0 p1 K1 K2 K3 K4 SV BM hbg
  generalize Sort.grow (redrawn W0 dq) osq=W1 at *
  have HBw:Hid (Below w.heap.size w W1):=by
   have h1:=HB0.out
   have h2:=HB1.out
   rw [← HG0.out] at *
   exact below_two h1 h2
  go_wp2
  go_ret
  exact ⟨by rw [HF.out];rfl,HBw.out⟩
 | true =>
  cases b2 with
  | false=>as_aux_lemma =>
   have HF:Hid (BB=false):=by show _=_;rw [HRM.out];simp
   refine wp_region_quiet_below (by kernel_rfl) (by kernel_rfl) ?_
   iterate 2 (first | go_big_quiet_step (fail) | quiet_step (fail))
   (first | go_big_quiet_step (exact K1.out _ _) | quiet_step (exact K1.out _ _))
   iterate 4 (first | go_big_quiet_step (fail) | quiet_step (fail))
   (first | go_big_quiet_step (exact K2.out _ _) | quiet_step (exact K2.out _ _))
   iterate 13 (first | go_big_quiet_step (fail) | quiet_step (fail))
   refine wpQuiet_nil ?_
   intro _ hw'
   obtain ⟨⟨dq,osq⟩,hw''⟩:=hw'
   subst hw''
   have HB1:=hid (hbg.out dq osq)
   clear p0 p1 K1 K2 K3 K4 SV BM hbg
   generalize Sort.grow (redrawn W0 dq) osq=W1 at *
   have HBw:Hid (Below w.heap.size w W1):=by
    have h1:=HB0.out
    have h2:=HB1.out
    rw [← HG0.out] at *
    exact below_two h1 h2
   go_wp2
   go_ret
   exact ⟨by rw [HF.out];rfl,HBw.out⟩
  | true =>
   cases b3 with
   | false=>as_aux_lemma =>
    have HF:Hid (BB=false):=by show _=_;rw [HRM.out];simp
    refine wp_region_quiet_below (by kernel_rfl) (by kernel_rfl) ?_
    iterate 2 (first | go_big_quiet_step (fail) | quiet_step (fail))
    (first | go_big_quiet_step (exact K1.out _ _) | quiet_step (exact K1.out _ _))
    iterate 4 (first | go_big_quiet_step (fail) | quiet_step (fail))
    (first | go_big_quiet_step (exact K2.out _ _) | quiet_step (exact K2.out _ _))
    iterate 3 (first | go_big_quiet_step (fail) | quiet_step (fail))
    refine wq_load 102 (.tmp 1) rfl g0 0 rfl rfl V _ (fun w' hw'=>SV.out w' hw') Tryz.underlying102 rfl Z0 ?_
    simp only [Act.put,List.setIfInBounds_toArray,List.set_cons_zero,List.set_cons_succ]
    (first | go_big_quiet_step (exact K3.out _ _) | quiet_step (exact K3.out _ _))
    iterate 4 (first | go_big_quiet_step (fail) | quiet_step (fail))
    refine wq_buildL 102 [(0,.tmp 17),(1,.tmp 19)] rfl rfl ZV (fun W=>BM.out W) ?_
    simp only [Act.put,List.setIfInBounds_toArray,List.set_cons_zero,List.set_cons_succ]
    (first | go_big_quiet_step (exact K4.out _ _) | quiet_step (exact K4.out _ _))
    iterate 2 (first | go_big_quiet_step (fail) | quiet_step (fail))
    refine wpQuiet_nil ?_
    intro _ hw'
    obtain ⟨⟨dq,osq⟩,hw''⟩:=hw'
    subst hw''
    have HB1:=hid (hbg.out dq osq)
    clear p0 p1 K1 K2 K3 K4 SV BM hbg
    generalize Sort.grow (redrawn W0 dq) osq=W1 at *
    have HBw:Hid (Below w.heap.size w W1):=by
     have h1:=HB0.out
     have h2:=HB1.out
     rw [← HG0.out] at *
     exact below_two h1 h2
    go_wp2
    go_ret
    exact ⟨by rw [HF.out];rfl,HBw.out⟩
   | true =>
    have HA:Hid (BB=RP):=by show _=_;rw [HRM.out];simp
    clear HRM
    refine wp_region_quiet_below (by kernel_rfl) (by kernel_rfl) ?_
    iterate 2 (first | go_big_quiet_step (fail) | quiet_step (fail))
    (first | go_big_quiet_step (exact K1.out _ _) | quiet_step (exact K1.out _ _))
    iterate 4 (first | go_big_quiet_step (fail) | quiet_step (fail))
    (first | go_big_quiet_step (exact K2.out _ _) | quiet_step (exact K2.out _ _))
    iterate 3 (first | go_big_quiet_step (fail) | quiet_step (fail))
    refine wq_load 102 (.tmp 1) rfl g0 0 rfl rfl V _ (fun w' hw'=>SV.out w' hw') Tryz.underlying102 rfl Z0 ?_
    simp only [Act.put,List.setIfInBounds_toArray,List.set_cons_zero,List.set_cons_succ]
    (first | go_big_quiet_step (exact K3.out _ _) | quiet_step (exact K3.out _ _))
    iterate 4 (first | go_big_quiet_step (fail) | quiet_step (fail))
    refine wq_buildL 102 [(0,.tmp 17),(1,.tmp 19)] rfl rfl ZV (fun W=>BM.out W) ?_
    simp only [Act.put,List.setIfInBounds_toArray,List.set_cons_zero,List.set_cons_succ]
    (first | go_big_quiet_step (exact K4.out _ _) | quiet_step (exact K4.out _ _))
    iterate 2 (first | go_big_quiet_step (fail) | quiet_step (fail))
    refine wpQuiet_nil ?_
    intro _ hw'
    obtain ⟨⟨dq,osq⟩,hw''⟩:=hw'
    subst hw''
    have HB1:=hid (hbg.out dq osq)
    clear p0 p1 K1 K2 K3 K4 SV BM hbg
    generalize Sort.grow (redrawn W0 dq) osq=W1 at *
    have HBw:Hid (Below w.heap.size w W1):=by
     have h1:=HB0.out
     have h2:=HB1.out
     rw [← HG0.out] at *
     exact below_two h1 h2
    have R1:=hid (HRow.out _ HB1.out)
    rw [HV.out] at R1
    have HP1:=hid (HPw.out.kept HB1.out)
    have HN1:=hid (HNw.out.kept HB1.out)
    have ck:=mrow_kind R1.out HW.out
    rw [← HK.out] at ck
    have cc:=mrow_client R1.out HW.out
    rw [← HCL.out] at cc
    clear HRow HPw HNw Z0 HB0 HB1 HV
    by_cases e1:k=1
    ·as_aux_lemma =>
     subst e1
     have HRV:Hid (RP=(asksB m.sub.number m.sub.kind m.sub.target && decide (m.sub.value.length ≤ 256))):=by show _=_;rw [HRP.out];unfold refParts;rw [if_pos HK.out.symm];rfl
     have c1:=mrow_sub_number R1.out HW.out
     have c2:=mrow_sub_kind R1.out HW.out
     have c3:=mrow_sub_target R1.out HW.out
     have c4:=mrow_sub_value R1.out HW.out
     have HAs:=hid (asks_any m.sub.number m.sub.kind m.sub.target W1)
     clear HRP HK
     generalize asksB m.sub.number m.sub.kind m.sub.target=bA at *
     generalize m.sub.number=x1 at *
     generalize m.sub.kind=x2 at *
     generalize m.sub.target=x3 at *
     generalize m.sub.value=x4 at *
     clear R1 HP1 HN1 HW HL HCL
     cases bA with
     | false =>
      go_wp2_with fail
      refine HAs.out.mono ?_
      rintro e W2 ⟨rfl,e2⟩
      subst W2
      go_wp2
      go_ret
      exact ⟨by rw [HA.out,HRV.out];rfl,HBw.out⟩
     | true =>
      go_wp2_with fail
      refine HAs.out.mono ?_
      rintro e W2 ⟨rfl,e2⟩
      subst W2
      go_wp2
      go_ret
      exact ⟨by rw [HA.out,HRV.out];simp;omega,HBw.out⟩
    by_cases e2:k=2
    ·as_aux_lemma =>
     subst e2
     have HRV:Hid (RP=((c == 0) && repB m.rep)):=by show _=_;rw [HRP.out,HCL.out];unfold refParts;rw [if_neg (by have:=HK.out;omega),if_pos HK.out.symm]
     have SR:=hid (mrow_rep R1.out HW.out)
     have ZR:(Tryz.prog.info? 42).map (·.size)=some (repC m.rep vP).length:=by rw [repC_len HW.out.rep];exact sizeRep
     have HRe:=hid (rreply_any rgtOk HW.out.rep HP1.out HL.out.1)
     clear HRP HK HCL
     generalize repB m.rep=bA at *
     generalize repC m.rep vP=RC at *
     clear R1 HP1 HN1 HW HL
     cases hc0:(c == 0) with
     | false =>
      rw [hc0] at HRV
      go_wp2
      go_ret
      exact ⟨by rw [HA.out,HRV.out];rfl,HBw.out⟩
     | true =>
      rw [hc0] at HRV
      go_wp2_with (first | ((with_reducible refine wl_load 42 (.tmp 51) ?_ g0 70 ?_ ?_ RC _ SR.out Tryz.underlying42 ?_ ZR ?_);iterate 4 exact rfl))
      refine HRe.out.mono ?_
      rintro e W2 ⟨rfl,hb2⟩
      have HB2:=hid (below_two HBw.out hb2)
      clear hb2
      go_wp2
      go_ret
      exact ⟨by rw [HA.out,HRV.out];rfl,HB2.out⟩
    by_cases e3:k=3
    ·as_aux_lemma =>
     subst e3
     have HRV:Hid (RP=((m.view != []) && Hist.rightB m.view 8)):=by show _=_;rw [HRP.out];unfold refParts;rw [if_neg (by have:=HK.out;omega),if_neg (by have:=HK.out;omega),if_pos HK.out.symm];rfl
     have c1:=mrow_view R1.out HW.out
     have HRi:=hid (Hist.rright_any m.view 8 W1)
     clear HRP HK HCL
     generalize Hist.rightB m.view 8=bA at *
     generalize m.view=x1 at *
     clear R1 HP1 HN1 HW HL
     cases x1 with
     | nil =>
      go_wp2
      go_ret
      exact ⟨by rw [HA.out,HRV.out];rfl,HBw.out⟩
     | cons y1 y2 =>
      go_wp2_with fail
      refine HRi.out.mono ?_
      rintro e W2 ⟨rfl,e2⟩
      subst W2
      go_wp2
      go_ret
      exact ⟨by rw [HA.out,HRV.out];rfl,HBw.out⟩
    by_cases e4:k=4
    ·as_aux_lemma =>
     subst e4
     have HRV:Hid (RP=((c == 0) && (inB m.blob.owner 0 7 && (inB m.blob.number 0 1099511627776 && decide (m.blob.cipher.length ≤ 4096))))):=by show _=_;rw [HRP.out,HCL.out];unfold refParts;rw [if_neg (by have:=HK.out;omega),if_neg (by have:=HK.out;omega),if_neg (by have:=HK.out;omega),if_pos (by have:=HK.out;omega)];rfl
     have c1:=mrow_blob_owner R1.out HW.out
     have c2:=mrow_blob_number R1.out HW.out
     have c3:=mrow_blob_cipher R1.out HW.out
     have HW1:Hid (Calls Tryz.prog 72 #[nu m.blob.owner,nu 0,nu 7] W1 fun e w'=>e = .returned (.bool (inB m.blob.owner 0 7))∧w' = W1):=within_any m.blob.owner 0 7 W1
     have HW2:Hid (Calls Tryz.prog 72 #[nu m.blob.number,nu 0,nu 1099511627776] W1 fun e w'=>e = .returned (.bool (inB m.blob.number 0 1099511627776))∧w' = W1):=within_any m.blob.number 0 1099511627776 W1
     clear HRP HK HCL
     generalize inB m.blob.owner 0 7=bA at *
     generalize inB m.blob.number 0 1099511627776=bB at *
     generalize m.blob.owner=x1 at *
     generalize m.blob.number=x2 at *
     generalize m.blob.cipher=x3 at *
     clear R1 HP1 HN1 HW HL
     cases hc0:(c == 0) with
     | false =>
      rw [hc0] at HRV
      go_wp2
      go_ret
      exact ⟨by rw [HA.out,HRV.out];rfl,HBw.out⟩
     | true =>
      rw [hc0] at HRV
      cases bA with
      | false =>
       go_wp2_with fail
       refine HW1.out.mono ?_
       rintro e W2 ⟨rfl,e2⟩
       subst W2
       go_wp2
       go_ret
       exact ⟨by rw [HA.out,HRV.out];rfl,HBw.out⟩
      | true =>
       go_wp2_with fail
       refine HW1.out.mono ?_
       rintro e W2 ⟨rfl,e2⟩
       subst W2
       cases bB with
       | false =>
        go_wp2_with fail
        refine HW2.out.mono ?_
        rintro e W2 ⟨rfl,e2⟩
        subst W2
        go_wp2
        go_ret
        exact ⟨by rw [HA.out,HRV.out];rfl,HBw.out⟩
       | true =>
        go_wp2_with fail
        refine HW2.out.mono ?_
        rintro e W2 ⟨rfl,e2⟩
        subst W2
        go_wp2
        go_ret
        exact ⟨by rw [HA.out,HRV.out];simp;omega,HBw.out⟩
    by_cases e6:k=6
    ·as_aux_lemma =>
     subst e6
     have HRV:Hid (RP=((c == 0) && (inB m.blob.owner 0 7 && (inB m.blob.number 0 1099511627776 && decide (m.blob.cipher.length ≤ 4096))))):=by show _=_;rw [HRP.out,HCL.out];unfold refParts;rw [if_neg (by have:=HK.out;omega),if_neg (by have:=HK.out;omega),if_neg (by have:=HK.out;omega),if_pos (by have:=HK.out;omega)];rfl
     have c1:=mrow_blob_owner R1.out HW.out
     have c2:=mrow_blob_number R1.out HW.out
     have c3:=mrow_blob_cipher R1.out HW.out
     have HW1:Hid (Calls Tryz.prog 72 #[nu m.blob.owner,nu 0,nu 7] W1 fun e w'=>e = .returned (.bool (inB m.blob.owner 0 7))∧w' = W1):=within_any m.blob.owner 0 7 W1
     have HW2:Hid (Calls Tryz.prog 72 #[nu m.blob.number,nu 0,nu 1099511627776] W1 fun e w'=>e = .returned (.bool (inB m.blob.number 0 1099511627776))∧w' = W1):=within_any m.blob.number 0 1099511627776 W1
     clear HRP HK HCL
     generalize inB m.blob.owner 0 7=bA at *
     generalize inB m.blob.number 0 1099511627776=bB at *
     generalize m.blob.owner=x1 at *
     generalize m.blob.number=x2 at *
     generalize m.blob.cipher=x3 at *
     clear R1 HP1 HN1 HW HL
     cases hc0:(c == 0) with
     | false =>
      rw [hc0] at HRV
      go_wp2
      go_ret
      exact ⟨by rw [HA.out,HRV.out];rfl,HBw.out⟩
     | true =>
      rw [hc0] at HRV
      cases bA with
      | false =>
       go_wp2_with fail
       refine HW1.out.mono ?_
       rintro e W2 ⟨rfl,e2⟩
       subst W2
       go_wp2
       go_ret
       exact ⟨by rw [HA.out,HRV.out];rfl,HBw.out⟩
      | true =>
       go_wp2_with fail
       refine HW1.out.mono ?_
       rintro e W2 ⟨rfl,e2⟩
       subst W2
       cases bB with
       | false =>
        go_wp2_with fail
        refine HW2.out.mono ?_
        rintro e W2 ⟨rfl,e2⟩
        subst W2
        go_wp2
        go_ret
        exact ⟨by rw [HA.out,HRV.out];rfl,HBw.out⟩
       | true =>
        go_wp2_with fail
        refine HW2.out.mono ?_
        rintro e W2 ⟨rfl,e2⟩
        subst W2
        go_wp2
        go_ret
        exact ⟨by rw [HA.out,HRV.out];simp;omega,HBw.out⟩
    by_cases e5:k=5
    ·as_aux_lemma =>
     subst e5
     have HRV:Hid (RP=numsB m.nums):=by show _=_;rw [HRP.out];unfold refParts;rw [if_neg (by have:=HK.out;omega),if_neg (by have:=HK.out;omega),if_neg (by have:=HK.out;omega),if_neg (by have:=HK.out;omega),if_pos (by have:=HK.out;omega)]
     have c1:=mrow_nums R1.out HW.out
     have HNu:=hid (rnums_any HN1.out HL.out.2)
     clear HRP HK HCL
     generalize numsB m.nums=bA at *
     clear R1 HP1 HN1 HW HL
     go_wp2_with fail
     refine HNu.out.mono ?_
     rintro e W2 ⟨rfl,hb2⟩
     have HB2:=hid (below_two HBw.out hb2)
     clear hb2
     go_wp2
     go_ret
     exact ⟨by rw [HA.out,HRV.out];rfl,HB2.out⟩
    by_cases e7:k=7
    ·as_aux_lemma =>
     subst e7
     have HRV:Hid (RP=numsB m.nums):=by show _=_;rw [HRP.out];unfold refParts;rw [if_neg (by have:=HK.out;omega),if_neg (by have:=HK.out;omega),if_neg (by have:=HK.out;omega),if_neg (by have:=HK.out;omega),if_pos (by have:=HK.out;omega)]
     have c1:=mrow_nums R1.out HW.out
     have HNu:=hid (rnums_any HN1.out HL.out.2)
     clear HRP HK HCL
     generalize numsB m.nums=bA at *
     clear R1 HP1 HN1 HW HL
     go_wp2_with fail
     refine HNu.out.mono ?_
     rintro e W2 ⟨rfl,hb2⟩
     have HB2:=hid (below_two HBw.out hb2)
     clear hb2
     go_wp2
     go_ret
     exact ⟨by rw [HA.out,HRV.out];rfl,HB2.out⟩
    by_cases e8:k=8
    ·as_aux_lemma =>
     subst e8
     have HRV:Hid (RP=numsB m.nums):=by show _=_;rw [HRP.out];unfold refParts;rw [if_neg (by have:=HK.out;omega),if_neg (by have:=HK.out;omega),if_neg (by have:=HK.out;omega),if_neg (by have:=HK.out;omega),if_pos (by have:=HK.out;omega)]
     have c1:=mrow_nums R1.out HW.out
     have HNu:=hid (rnums_any HN1.out HL.out.2)
     clear HRP HK HCL
     generalize numsB m.nums=bA at *
     clear R1 HP1 HN1 HW HL
     go_wp2_with fail
     refine HNu.out.mono ?_
     rintro e W2 ⟨rfl,hb2⟩
     have HB2:=hid (below_two HBw.out hb2)
     clear hb2
     go_wp2
     go_ret
     exact ⟨by rw [HA.out,HRV.out];rfl,HB2.out⟩
    by_cases e10:k=10
    ·as_aux_lemma =>
     subst e10
     have HRV:Hid (RP=(inB m.who 0 7 && ((m.view != []) && Hist.rightB m.view 8))):=by show _=_;rw [HRP.out];unfold refParts;rw [if_neg (by have:=HK.out;omega),if_neg (by have:=HK.out;omega),if_neg (by have:=HK.out;omega),if_neg (by have:=HK.out;omega),if_neg (by have:=HK.out;omega),if_pos HK.out.symm];rfl
     have c0:=mrow_who R1.out HW.out
     have c1:=mrow_view R1.out HW.out
     have HW1:Hid (Calls Tryz.prog 72 #[nu m.who,nu 0,nu 7] W1 fun e w'=>e = .returned (.bool (inB m.who 0 7))∧w' = W1):=within_any m.who 0 7 W1
     have HRi:=hid (Hist.rright_any m.view 8 W1)
     clear HRP HK HCL
     generalize Hist.rightB m.view 8=bB at *
     generalize m.view=x1 at *
     generalize inB m.who 0 7=bA at *
     generalize m.who=x0 at *
     clear R1 HP1 HN1 HW HL
     cases bA with
     | false =>
      go_wp2_with fail
      refine HW1.out.mono ?_
      rintro e W2 ⟨rfl,e2⟩
      subst W2
      go_wp2
      go_ret
      exact ⟨by rw [HA.out,HRV.out];rfl,HBw.out⟩
     | true =>
      go_wp2_with fail
      refine HW1.out.mono ?_
      rintro e W2 ⟨rfl,e2⟩
      subst W2
      cases x1 with
      | nil =>
       go_wp2
       go_ret
       exact ⟨by rw [HA.out,HRV.out];rfl,HBw.out⟩
      | cons y1 y2 =>
       go_wp2_with fail
       refine HRi.out.mono ?_
       rintro e W2 ⟨rfl,e2⟩
       subst W2
       go_wp2
       go_ret
       exact ⟨by rw [HA.out,HRV.out];rfl,HBw.out⟩
    have HRV:Hid (RP=true):=by show _=_;rw [HRP.out];unfold refParts;rw [if_neg (by have:=HK.out;omega),if_neg (by have:=HK.out;omega),if_neg (by have:=HK.out;omega),if_neg (by have:=HK.out;omega),if_neg (by have:=HK.out;omega),if_neg (by have:=HK.out;omega)]
    have d1:(k == 1)=false:=beq_false_of_ne e1
    have d2:(k == 2)=false:=beq_false_of_ne e2
    have d3:(k == 3)=false:=beq_false_of_ne e3
    have d4:(k == 4)=false:=beq_false_of_ne e4
    have d6:(k == 6)=false:=beq_false_of_ne e6
    have d5:(k == 5)=false:=beq_false_of_ne e5
    have d7:(k == 7)=false:=beq_false_of_ne e7
    have d8:(k == 8)=false:=beq_false_of_ne e8
    have d10:(k == 10)=false:=beq_false_of_ne e10
    clear HRP HK HCL R1 HP1 HN1 HW HL
    clear e1 e2 e3 e4 e6 e5 e7 e8 e10
    go_wp2
    go_ret
    exact ⟨by rw [HA.out,HRV.out];rfl,HBw.out⟩
theorem rmay {w:World} {m:Msg} {vP vN:Value} (hw:m.Wf) (hi:I64 m.who) (hp:PensAt w vP m.rep.pend) (hn:IntsAt w vN m.nums) (hl:Lens m) :
  Calls Tryz.prog 43 #[.agg (msgC m vP vN).toArray] w fun e w'=>e = .returned (.bool (mayB m))∧Below w.heap.size w w':=by
 rw [may_right]
 exact rrm_any hw hi hp hn hl
end Go.Proofs.YthkkjjlpahdagaaGreatDoor.Ms
