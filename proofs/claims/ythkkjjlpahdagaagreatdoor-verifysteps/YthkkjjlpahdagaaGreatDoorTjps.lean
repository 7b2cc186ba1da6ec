/-
  What msg.Same answers of two messages: whether they are the same.
-/
import Derived.Test.YthkkjjlpahdagaaGreatDoorThsr
import Derived.Test.YthkkjjlpahdagaaGreatDoorTjpr
set_option maxHeartbeats 8000000
namespace Go.Proofs.YthkkjjlpahdagaaGreatDoor.Ms
open Go Go.RowKit
set_option maxRecDepth 100000
theorem msame_any {w:World} {a b:Msg} {vP vQ vN vM:Value} (ha:a.Wf) (hb:b.Wf) (hp:PensAt w vP a.rep.pend) (hq:PensAt w vQ b.rep.pend) (hn:IntsAt w vN a.nums) (hm:IntsAt w vM b.nums) (hmx:a.rep.pend.length ≤ 9223372036854775807) (hnx:a.nums.length ≤ 9223372036854775807) :
  Calls Tryz.prog 133 #[.agg (msgC a vP vN).toArray,.agg (msgC b vQ vM).toArray] w fun e w'=>e = .returned (.bool (sameM a b))∧Below w.heap.size w w':=by
 have HB0:Hid (Below w.heap.size w ((w.alloc (.cells (msgC a vP vN).toArray 102)).alloc (.cells (msgC b vQ vM).toArray 102))):=(below_a1 w _).alloc (by simp) _
 have R0:Hid (((w.alloc (.cells (msgC a vP vN).toArray 102)).alloc (.cells (msgC b vQ vM).toArray 102)).heap[w.heap.size]? = some (.cells (msgC a vP vN).toArray 102)):=heap_alloc2_old w _ _
 have R1:Hid (((w.alloc (.cells (msgC a vP vN).toArray 102)).alloc (.cells (msgC b vQ vM).toArray 102)).heap[w.heap.size + 1]? = some (.cells (msgC b vQ vM).toArray 102)):=heap_alloc2_new w _ _
 have HP:=hid (hp.kept HB0.out)
 have HQ:=hid (hq.kept HB0.out)
 have HN:=hid (hn.kept HB0.out)
 have HM:=hid (hm.kept HB0.out)
 obtain ⟨pa,capa,hpa,-⟩:=hp
 obtain ⟨qa,capb,hqa,-⟩:=hq
 subst hpa
 subst hqa
 clear hn hm
 obtain ⟨RA,hRA⟩:∃ RA,RA=(msgC a (.slice pa a.rep.pend.length capa) vN).toArray:=⟨_,rfl⟩
 obtain ⟨RB,hRB⟩:∃ RB,RB=(msgC b (.slice qa b.rep.pend.length capb) vM).toArray:=⟨_,rfl⟩
 rw [← hRA] at HB0 R0 R1 HP HQ HN HM ⊢
 rw [← hRB] at HB0 R0 R1 HP HQ HN HM ⊢
 have HRA:=hid hRA
 have HRB:=hid hRB
 clear hRA hRB
 go_enter Tryz.func133,Tryz.ntmps133
 go_upto_region 1 with fail
 simp only [List.append_eq,List.cons_append,List.nil_append]
 generalize (w.alloc (.cells RA 102)).alloc (.cells RB 102)=W0 at *
 have r0:=R0.out
 have r1:=R1.out
 rw [HRA.out] at r0
 rw [HRB.out] at r1
 obtain ⟨g0,hg0⟩:∃ g0,g0=w.heap.size:=⟨_,rfl⟩
 obtain ⟨g1,hg1⟩:∃ g1,g1=w.heap.size + 1:=⟨_,rfl⟩
 rw [← hg1] at r1 ⊢
 rw [← hg0] at r0 ⊢
 have Q0:=hid r0
 have Q1:=hid r1
 have HA:=hid ha
 have HBw:=hid hb
 clear R0 R1 HRA HRB hg0 hg1
 have c0_kind:=mrow_kind r0 ha
 have c0_client:=mrow_client r0 ha
 have s0_sub:=hid (mrow_sub r0 ha)
 have s0_rep:=hid (mrow_rep r0 ha)
 have c1_kind:=mrow_kind r1 hb
 have c1_client:=mrow_client r1 hb
 have s1_sub:=hid (mrow_sub r1 hb)
 have s1_rep:=hid (mrow_rep r1 hb)
 clear r0 r1
 cases h_kind:(a.kind == b.kind) with
 | false=>as_aux_lemma =>
  have HF:=hid (sameM_kind h_kind)
  have d_kind:(a.kind == b.kind)=false:=h_kind
  clear h_kind
  clear ha hb
  go_wp2
  go_ret
  exact ⟨by rw [HF.out];rfl,HB0.out⟩
 | true =>
  cases h_client:(a.client == b.client) with
  | false=>as_aux_lemma =>
   have HF:=hid (sameM_client h_client)
   have d_kind:(a.kind == b.kind)=true:=h_kind
   have d_client:(a.client == b.client)=false:=h_client
   clear h_kind h_client
   clear ha hb
   go_wp2
   go_ret
   exact ⟨by rw [HF.out];rfl,HB0.out⟩
  | true =>
   cases h_sub:sameS a.sub b.sub with
   | false=>as_aux_lemma =>
    have HF:=hid (sameM_sub h_sub)
    have d_kind:(a.kind == b.kind)=true:=h_kind
    have d_client:(a.client == b.client)=true:=h_client
    have E_sub:=fun W=>equal_sub W a.sub b.sub ha.sub hb.sub
    rw [h_sub] at E_sub
    have Z0_sub:(Tryz.prog.info? 39).map (·.size)=some (subC a.sub).length:=by rw [subC_len ha.sub];exact sizeSub
    have Z1_sub:(Tryz.prog.info? 39).map (·.size)=some (subC b.sub).length:=by rw [subC_len hb.sub];exact sizeSub
    clear h_kind h_client h_sub
    clear ha hb
    generalize subC a.sub=A_sub at *
    generalize subC b.sub=B_sub at *
    go_wp2_with (first | ((with_reducible refine wl_load 39 (.tmp 18) ?_ g0 2 ?_ ?_ A_sub _ s0_sub.out Tryz.underlying39 ?_ Z0_sub ?_);iterate 4 exact rfl) | ((with_reducible refine wl_load 39 (.tmp 20) ?_ g1 2 ?_ ?_ B_sub _ s1_sub.out Tryz.underlying39 ?_ Z1_sub ?_);iterate 4 exact rfl))
    go_ret
    exact ⟨by rw [HF.out];rfl,HB0.out⟩
   | true =>
    cases h_rep:sameR a.rep b.rep with
    | false=>as_aux_lemma =>
     have HF:=hid (sameM_rep h_rep)
     have d_kind:(a.kind == b.kind)=true:=h_kind
     have d_client:(a.client == b.client)=true:=h_client
     have E_sub:=fun W=>equal_sub W a.sub b.sub ha.sub hb.sub
     rw [h_sub] at E_sub
     have Z0_sub:(Tryz.prog.info? 39).map (·.size)=some (subC a.sub).length:=by rw [subC_len ha.sub];exact sizeSub
     have Z1_sub:(Tryz.prog.info? 39).map (·.size)=some (subC b.sub).length:=by rw [subC_len hb.sub];exact sizeSub
     have K_rep:=hid (fun (W:World) (h1:PensAt W (.slice pa a.rep.pend.length capa) a.rep.pend) (h2:PensAt W (.slice qa b.rep.pend.length capb) b.rep.pend)=>msamereply_any ha.rep hb.rep h1 h2 hmx)
     rw [h_rep] at K_rep
     have Z0_rep:(Tryz.prog.info? 42).map (·.size)=some (repC a.rep (.slice pa a.rep.pend.length capa)).length:=by rw [repC_len ha.rep _];exact sizeRep
     have Z1_rep:(Tryz.prog.info? 42).map (·.size)=some (repC b.rep (.slice qa b.rep.pend.length capb)).length:=by rw [repC_len hb.rep _];exact sizeRep
     clear h_kind h_client h_sub h_rep
     clear ha hb
     generalize subC a.sub=A_sub at *
     generalize subC b.sub=B_sub at *
     generalize repC a.rep (.slice pa a.rep.pend.length capa)=A_rep at *
     generalize repC b.rep (.slice qa b.rep.pend.length capb)=B_rep at *
     go_wp2_with (first | ((with_reducible refine wl_load 39 (.tmp 18) ?_ g0 2 ?_ ?_ A_sub _ s0_sub.out Tryz.underlying39 ?_ Z0_sub ?_);iterate 4 exact rfl) | ((with_reducible refine wl_load 39 (.tmp 20) ?_ g1 2 ?_ ?_ B_sub _ s1_sub.out Tryz.underlying39 ?_ Z1_sub ?_);iterate 4 exact rfl) | ((with_reducible refine wl_load 42 (.tmp 25) ?_ g0 70 ?_ ?_ A_rep _ s0_rep.out Tryz.underlying42 ?_ Z0_rep ?_);iterate 4 exact rfl) | ((with_reducible refine wl_load 42 (.tmp 27) ?_ g1 70 ?_ ?_ B_rep _ s1_rep.out Tryz.underlying42 ?_ Z1_rep ?_);iterate 4 exact rfl))
     refine (K_rep.out _ HP.out HQ.out).mono ?_
     rintro e w1 ⟨rfl,hb1⟩
     have HB1:=hid (below_two HB0.out hb1)
     clear hb1
     go_wp2
     go_ret
     exact ⟨by rw [HF.out];rfl,HB1.out⟩
    | true =>
     cases h_view:(a.view == b.view) with
     | false=>as_aux_lemma =>
      have HF:=hid (sameM_view h_view)
      have d_kind:(a.kind == b.kind)=true:=h_kind
      have d_client:(a.client == b.client)=true:=h_client
      have E_sub:=fun W=>equal_sub W a.sub b.sub ha.sub hb.sub
      rw [h_sub] at E_sub
      have Z0_sub:(Tryz.prog.info? 39).map (·.size)=some (subC a.sub).length:=by rw [subC_len ha.sub];exact sizeSub
      have Z1_sub:(Tryz.prog.info? 39).map (·.size)=some (subC b.sub).length:=by rw [subC_len hb.sub];exact sizeSub
      have K_rep:=hid (fun (W:World) (h1:PensAt W (.slice pa a.rep.pend.length capa) a.rep.pend) (h2:PensAt W (.slice qa b.rep.pend.length capb) b.rep.pend)=>msamereply_any ha.rep hb.rep h1 h2 hmx)
      rw [h_rep] at K_rep
      have Z0_rep:(Tryz.prog.info? 42).map (·.size)=some (repC a.rep (.slice pa a.rep.pend.length capa)).length:=by rw [repC_len ha.rep _];exact sizeRep
      have Z1_rep:(Tryz.prog.info? 42).map (·.size)=some (repC b.rep (.slice qa b.rep.pend.length capb)).length:=by rw [repC_len hb.rep _];exact sizeRep
      have d_view:¬ a.view=b.view:=by simpa using h_view
      clear h_kind h_client h_sub h_rep h_view
      have HFx:Hid (∀ W,Below W0.heap.size W0 W→W.heap[g0]? = some (.cells (msgC a (.slice pa a.rep.pend.length capa) vN).toArray 102)∧W.heap[g1]? = some (.cells (msgC b (.slice qa b.rep.pend.length capb) vM).toArray 102)):=fun W hb=>⟨row_kept Q0.out hb,row_kept Q1.out hb⟩
      clear Q0 Q1
      obtain ⟨LA,hLA⟩:∃ LA,LA=msgC a (.slice pa a.rep.pend.length capa) vN:=⟨_,rfl⟩
      obtain ⟨LB,hLB⟩:∃ LB,LB=msgC b (.slice qa b.rep.pend.length capb) vM:=⟨_,rfl⟩
      rw [← hLA,← hLB] at HFx
      have HLA:=hid hLA
      have HLB:=hid hLB
      clear hLA hLB ha hb
      generalize subC a.sub=A_sub at *
      generalize subC b.sub=B_sub at *
      generalize repC a.rep (.slice pa a.rep.pend.length capa)=A_rep at *
      generalize repC b.rep (.slice qa b.rep.pend.length capb)=B_rep at *
      go_wp2_with (first | ((with_reducible refine wl_load 39 (.tmp 18) ?_ g0 2 ?_ ?_ A_sub _ s0_sub.out Tryz.underlying39 ?_ Z0_sub ?_);iterate 4 exact rfl) | ((with_reducible refine wl_load 39 (.tmp 20) ?_ g1 2 ?_ ?_ B_sub _ s1_sub.out Tryz.underlying39 ?_ Z1_sub ?_);iterate 4 exact rfl) | ((with_reducible refine wl_load 42 (.tmp 25) ?_ g0 70 ?_ ?_ A_rep _ s0_rep.out Tryz.underlying42 ?_ Z0_rep ?_);iterate 4 exact rfl) | ((with_reducible refine wl_load 42 (.tmp 27) ?_ g1 70 ?_ ?_ B_rep _ s1_rep.out Tryz.underlying42 ?_ Z1_rep ?_);iterate 4 exact rfl))
      refine (K_rep.out _ HP.out HQ.out).mono ?_
      rintro e w1 ⟨rfl,hb1⟩
      have HB1:=hid (below_two HB0.out hb1)
      have ha:=HA.out
      have hb:=HBw.out
      obtain ⟨q0,q1⟩:=HFx.out _ hb1
      rw [HLA.out] at q0
      rw [HLB.out] at q1
      have HN1:=hid (HN.out.kept hb1)
      have HM1:=hid (HM.out.kept hb1)
      have c0_view:=mrow_view q0 ha
      have c1_view:=mrow_view q1 hb
      clear hb1 ha hb q0 q1 HFx HLA HLB s0_sub s1_sub s0_rep s1_rep E_sub Z0_sub Z1_sub Z0_rep Z1_rep c0_kind c1_kind c0_client c1_client
      go_wp2
      go_ret
      exact ⟨by rw [HF.out];rfl,HB1.out⟩
     | true =>
      cases h_who:(a.who == b.who) with
      | false=>as_aux_lemma =>
       have HF:=hid (sameM_who h_who)
       have d_kind:(a.kind == b.kind)=true:=h_kind
       have d_client:(a.client == b.client)=true:=h_client
       have E_sub:=fun W=>equal_sub W a.sub b.sub ha.sub hb.sub
       rw [h_sub] at E_sub
       have Z0_sub:(Tryz.prog.info? 39).map (·.size)=some (subC a.sub).length:=by rw [subC_len ha.sub];exact sizeSub
       have Z1_sub:(Tryz.prog.info? 39).map (·.size)=some (subC b.sub).length:=by rw [subC_len hb.sub];exact sizeSub
       have K_rep:=hid (fun (W:World) (h1:PensAt W (.slice pa a.rep.pend.length capa) a.rep.pend) (h2:PensAt W (.slice qa b.rep.pend.length capb) b.rep.pend)=>msamereply_any ha.rep hb.rep h1 h2 hmx)
       rw [h_rep] at K_rep
       have Z0_rep:(Tryz.prog.info? 42).map (·.size)=some (repC a.rep (.slice pa a.rep.pend.length capa)).length:=by rw [repC_len ha.rep _];exact sizeRep
       have Z1_rep:(Tryz.prog.info? 42).map (·.size)=some (repC b.rep (.slice qa b.rep.pend.length capb)).length:=by rw [repC_len hb.rep _];exact sizeRep
       have d_view:a.view=b.view:=by simpa using h_view
       have d_who:(a.who == b.who)=false:=h_who
       clear h_kind h_client h_sub h_rep h_view h_who
       have HFx:Hid (∀ W,Below W0.heap.size W0 W→W.heap[g0]? = some (.cells (msgC a (.slice pa a.rep.pend.length capa) vN).toArray 102)∧W.heap[g1]? = some (.cells (msgC b (.slice qa b.rep.pend.length capb) vM).toArray 102)):=fun W hb=>⟨row_kept Q0.out hb,row_kept Q1.out hb⟩
       clear Q0 Q1
       obtain ⟨LA,hLA⟩:∃ LA,LA=msgC a (.slice pa a.rep.pend.length capa) vN:=⟨_,rfl⟩
       obtain ⟨LB,hLB⟩:∃ LB,LB=msgC b (.slice qa b.rep.pend.length capb) vM:=⟨_,rfl⟩
       rw [← hLA,← hLB] at HFx
       have HLA:=hid hLA
       have HLB:=hid hLB
       clear hLA hLB ha hb
       generalize subC a.sub=A_sub at *
       generalize subC b.sub=B_sub at *
       generalize repC a.rep (.slice pa a.rep.pend.length capa)=A_rep at *
       generalize repC b.rep (.slice qa b.rep.pend.length capb)=B_rep at *
       go_wp2_with (first | ((with_reducible refine wl_load 39 (.tmp 18) ?_ g0 2 ?_ ?_ A_sub _ s0_sub.out Tryz.underlying39 ?_ Z0_sub ?_);iterate 4 exact rfl) | ((with_reducible refine wl_load 39 (.tmp 20) ?_ g1 2 ?_ ?_ B_sub _ s1_sub.out Tryz.underlying39 ?_ Z1_sub ?_);iterate 4 exact rfl) | ((with_reducible refine wl_load 42 (.tmp 25) ?_ g0 70 ?_ ?_ A_rep _ s0_rep.out Tryz.underlying42 ?_ Z0_rep ?_);iterate 4 exact rfl) | ((with_reducible refine wl_load 42 (.tmp 27) ?_ g1 70 ?_ ?_ B_rep _ s1_rep.out Tryz.underlying42 ?_ Z1_rep ?_);iterate 4 exact rfl))
       refine (K_rep.out _ HP.out HQ.out).mono ?_
       rintro e w1 ⟨rfl,hb1⟩
       have HB1:=hid (below_two HB0.out hb1)
       have ha:=HA.out
       have hb:=HBw.out
       obtain ⟨q0,q1⟩:=HFx.out _ hb1
       rw [HLA.out] at q0
       rw [HLB.out] at q1
       have HN1:=hid (HN.out.kept hb1)
       have HM1:=hid (HM.out.kept hb1)
       have c0_view:=mrow_view q0 ha
       have c0_who:=mrow_who q0 ha
       have c1_view:=mrow_view q1 hb
       have c1_who:=mrow_who q1 hb
       clear hb1 ha hb q0 q1 HFx HLA HLB s0_sub s1_sub s0_rep s1_rep E_sub Z0_sub Z1_sub Z0_rep Z1_rep c0_kind c1_kind c0_client c1_client
       go_wp2
       go_ret
       exact ⟨by rw [HF.out];rfl,HB1.out⟩
      | true =>
       cases h_tag:(a.tag == b.tag) with
       | false=>as_aux_lemma =>
        have HF:=hid (sameM_tag h_tag)
        have d_kind:(a.kind == b.kind)=true:=h_kind
        have d_client:(a.client == b.client)=true:=h_client
        have E_sub:=fun W=>equal_sub W a.sub b.sub ha.sub hb.sub
        rw [h_sub] at E_sub
        have Z0_sub:(Tryz.prog.info? 39).map (·.size)=some (subC a.sub).length:=by rw [subC_len ha.sub];exact sizeSub
        have Z1_sub:(Tryz.prog.info? 39).map (·.size)=some (subC b.sub).length:=by rw [subC_len hb.sub];exact sizeSub
        have K_rep:=hid (fun (W:World) (h1:PensAt W (.slice pa a.rep.pend.length capa) a.rep.pend) (h2:PensAt W (.slice qa b.rep.pend.length capb) b.rep.pend)=>msamereply_any ha.rep hb.rep h1 h2 hmx)
        rw [h_rep] at K_rep
        have Z0_rep:(Tryz.prog.info? 42).map (·.size)=some (repC a.rep (.slice pa a.rep.pend.length capa)).length:=by rw [repC_len ha.rep _];exact sizeRep
        have Z1_rep:(Tryz.prog.info? 42).map (·.size)=some (repC b.rep (.slice qa b.rep.pend.length capb)).length:=by rw [repC_len hb.rep _];exact sizeRep
        have d_view:a.view=b.view:=by simpa using h_view
        have d_who:(a.who == b.who)=true:=h_who
        have E_tag:=fun W=>equal_dig W a.tag b.tag ha.tag hb.tag
        rw [h_tag] at E_tag
        have Z0_tag:(Tryz.prog.info? 23).map (·.size)=some (dg a.tag).length:=by rw [(by rw [dg_len,ha.tag]:(dg a.tag).length=32)];exact sizeDig
        have Z1_tag:(Tryz.prog.info? 23).map (·.size)=some (dg b.tag).length:=by rw [(by rw [dg_len,hb.tag]:(dg b.tag).length=32)];exact sizeDig
        clear h_kind h_client h_sub h_rep h_view h_who h_tag
        have HFx:Hid (∀ W,Below W0.heap.size W0 W→W.heap[g0]? = some (.cells (msgC a (.slice pa a.rep.pend.length capa) vN).toArray 102)∧W.heap[g1]? = some (.cells (msgC b (.slice qa b.rep.pend.length capb) vM).toArray 102)):=fun W hb=>⟨row_kept Q0.out hb,row_kept Q1.out hb⟩
        clear Q0 Q1
        obtain ⟨LA,hLA⟩:∃ LA,LA=msgC a (.slice pa a.rep.pend.length capa) vN:=⟨_,rfl⟩
        obtain ⟨LB,hLB⟩:∃ LB,LB=msgC b (.slice qa b.rep.pend.length capb) vM:=⟨_,rfl⟩
        rw [← hLA,← hLB] at HFx
        have HLA:=hid hLA
        have HLB:=hid hLB
        clear hLA hLB ha hb
        generalize subC a.sub=A_sub at *
        generalize subC b.sub=B_sub at *
        generalize repC a.rep (.slice pa a.rep.pend.length capa)=A_rep at *
        generalize repC b.rep (.slice qa b.rep.pend.length capb)=B_rep at *
        go_wp2_with (first | ((with_reducible refine wl_load 39 (.tmp 18) ?_ g0 2 ?_ ?_ A_sub _ s0_sub.out Tryz.underlying39 ?_ Z0_sub ?_);iterate 4 exact rfl) | ((with_reducible refine wl_load 39 (.tmp 20) ?_ g1 2 ?_ ?_ B_sub _ s1_sub.out Tryz.underlying39 ?_ Z1_sub ?_);iterate 4 exact rfl) | ((with_reducible refine wl_load 42 (.tmp 25) ?_ g0 70 ?_ ?_ A_rep _ s0_rep.out Tryz.underlying42 ?_ Z0_rep ?_);iterate 4 exact rfl) | ((with_reducible refine wl_load 42 (.tmp 27) ?_ g1 70 ?_ ?_ B_rep _ s1_rep.out Tryz.underlying42 ?_ Z1_rep ?_);iterate 4 exact rfl))
        refine (K_rep.out _ HP.out HQ.out).mono ?_
        rintro e w1 ⟨rfl,hb1⟩
        have HB1:=hid (below_two HB0.out hb1)
        have ha:=HA.out
        have hb:=HBw.out
        obtain ⟨q0,q1⟩:=HFx.out _ hb1
        rw [HLA.out] at q0
        rw [HLB.out] at q1
        have HN1:=hid (HN.out.kept hb1)
        have HM1:=hid (HM.out.kept hb1)
        have c0_view:=mrow_view q0 ha
        have c0_who:=mrow_who q0 ha
        have s0_tag:=hid (mrow_tag q0 ha)
        have c1_view:=mrow_view q1 hb
        have c1_who:=mrow_who q1 hb
        have s1_tag:=hid (mrow_tag q1 hb)
        clear hb1 ha hb q0 q1 HFx HLA HLB s0_sub s1_sub s0_rep s1_rep E_sub Z0_sub Z1_sub Z0_rep Z1_rep c0_kind c1_kind c0_client c1_client
        generalize dg a.tag=A_tag at *
        generalize dg b.tag=B_tag at *
        go_wp2_with (first | ((with_reducible refine wl_load 23 (.tmp 46) ?_ g0 175 ?_ ?_ A_tag _ s0_tag.out Tryz.underlying23 ?_ Z0_tag ?_);iterate 4 exact rfl) | ((with_reducible refine wl_load 23 (.tmp 48) ?_ g1 175 ?_ ?_ B_tag _ s1_tag.out Tryz.underlying23 ?_ Z1_tag ?_);iterate 4 exact rfl))
        go_ret
        exact ⟨by rw [HF.out];rfl,HB1.out⟩
       | true =>
        cases h_own:(a.own == b.own) with
        | false=>as_aux_lemma =>
         have HF:=hid (sameM_own h_own)
         have d_kind:(a.kind == b.kind)=true:=h_kind
         have d_client:(a.client == b.client)=true:=h_client
         have E_sub:=fun W=>equal_sub W a.sub b.sub ha.sub hb.sub
         rw [h_sub] at E_sub
         have Z0_sub:(Tryz.prog.info? 39).map (·.size)=some (subC a.sub).length:=by rw [subC_len ha.sub];exact sizeSub
         have Z1_sub:(Tryz.prog.info? 39).map (·.size)=some (subC b.sub).length:=by rw [subC_len hb.sub];exact sizeSub
         have K_rep:=hid (fun (W:World) (h1:PensAt W (.slice pa a.rep.pend.length capa) a.rep.pend) (h2:PensAt W (.slice qa b.rep.pend.length capb) b.rep.pend)=>msamereply_any ha.rep hb.rep h1 h2 hmx)
         rw [h_rep] at K_rep
         have Z0_rep:(Tryz.prog.info? 42).map (·.size)=some (repC a.rep (.slice pa a.rep.pend.length capa)).length:=by rw [repC_len ha.rep _];exact sizeRep
         have Z1_rep:(Tryz.prog.info? 42).map (·.size)=some (repC b.rep (.slice qa b.rep.pend.length capb)).length:=by rw [repC_len hb.rep _];exact sizeRep
         have d_view:a.view=b.view:=by simpa using h_view
         have d_who:(a.who == b.who)=true:=h_who
         have E_tag:=fun W=>equal_dig W a.tag b.tag ha.tag hb.tag
         rw [h_tag] at E_tag
         have Z0_tag:(Tryz.prog.info? 23).map (·.size)=some (dg a.tag).length:=by rw [(by rw [dg_len,ha.tag]:(dg a.tag).length=32)];exact sizeDig
         have Z1_tag:(Tryz.prog.info? 23).map (·.size)=some (dg b.tag).length:=by rw [(by rw [dg_len,hb.tag]:(dg b.tag).length=32)];exact sizeDig
         have E_own:=fun W=>equal_dig W a.own b.own ha.own hb.own
         rw [h_own] at E_own
         have Z0_own:(Tryz.prog.info? 23).map (·.size)=some (dg a.own).length:=by rw [(by rw [dg_len,ha.own]:(dg a.own).length=32)];exact sizeDig
         have Z1_own:(Tryz.prog.info? 23).map (·.size)=some (dg b.own).length:=by rw [(by rw [dg_len,hb.own]:(dg b.own).length=32)];exact sizeDig
         clear h_kind h_client h_sub h_rep h_view h_who h_tag h_own
         have HFx:Hid (∀ W,Below W0.heap.size W0 W→W.heap[g0]? = some (.cells (msgC a (.slice pa a.rep.pend.length capa) vN).toArray 102)∧W.heap[g1]? = some (.cells (msgC b (.slice qa b.rep.pend.length capb) vM).toArray 102)):=fun W hb=>⟨row_kept Q0.out hb,row_kept Q1.out hb⟩
         clear Q0 Q1
         obtain ⟨LA,hLA⟩:∃ LA,LA=msgC a (.slice pa a.rep.pend.length capa) vN:=⟨_,rfl⟩
         obtain ⟨LB,hLB⟩:∃ LB,LB=msgC b (.slice qa b.rep.pend.length capb) vM:=⟨_,rfl⟩
         rw [← hLA,← hLB] at HFx
         have HLA:=hid hLA
         have HLB:=hid hLB
         clear hLA hLB ha hb
         generalize subC a.sub=A_sub at *
         generalize subC b.sub=B_sub at *
         generalize repC a.rep (.slice pa a.rep.pend.length capa)=A_rep at *
         generalize repC b.rep (.slice qa b.rep.pend.length capb)=B_rep at *
         go_wp2_with (first | ((with_reducible refine wl_load 39 (.tmp 18) ?_ g0 2 ?_ ?_ A_sub _ s0_sub.out Tryz.underlying39 ?_ Z0_sub ?_);iterate 4 exact rfl) | ((with_reducible refine wl_load 39 (.tmp 20) ?_ g1 2 ?_ ?_ B_sub _ s1_sub.out Tryz.underlying39 ?_ Z1_sub ?_);iterate 4 exact rfl) | ((with_reducible refine wl_load 42 (.tmp 25) ?_ g0 70 ?_ ?_ A_rep _ s0_rep.out Tryz.underlying42 ?_ Z0_rep ?_);iterate 4 exact rfl) | ((with_reducible refine wl_load 42 (.tmp 27) ?_ g1 70 ?_ ?_ B_rep _ s1_rep.out Tryz.underlying42 ?_ Z1_rep ?_);iterate 4 exact rfl))
         refine (K_rep.out _ HP.out HQ.out).mono ?_
         rintro e w1 ⟨rfl,hb1⟩
         have HB1:=hid (below_two HB0.out hb1)
         have ha:=HA.out
         have hb:=HBw.out
         obtain ⟨q0,q1⟩:=HFx.out _ hb1
         rw [HLA.out] at q0
         rw [HLB.out] at q1
         have HN1:=hid (HN.out.kept hb1)
         have HM1:=hid (HM.out.kept hb1)
         have c0_view:=mrow_view q0 ha
         have c0_who:=mrow_who q0 ha
         have s0_tag:=hid (mrow_tag q0 ha)
         have s0_own:=hid (mrow_own q0 ha)
         have c1_view:=mrow_view q1 hb
         have c1_who:=mrow_who q1 hb
         have s1_tag:=hid (mrow_tag q1 hb)
         have s1_own:=hid (mrow_own q1 hb)
         clear hb1 ha hb q0 q1 HFx HLA HLB s0_sub s1_sub s0_rep s1_rep E_sub Z0_sub Z1_sub Z0_rep Z1_rep c0_kind c1_kind c0_client c1_client
         generalize dg a.tag=A_tag at *
         generalize dg b.tag=B_tag at *
         generalize dg a.own=A_own at *
         generalize dg b.own=B_own at *
         go_wp2_with (first | ((with_reducible refine wl_load 23 (.tmp 46) ?_ g0 175 ?_ ?_ A_tag _ s0_tag.out Tryz.underlying23 ?_ Z0_tag ?_);iterate 4 exact rfl) | ((with_reducible refine wl_load 23 (.tmp 48) ?_ g1 175 ?_ ?_ B_tag _ s1_tag.out Tryz.underlying23 ?_ Z1_tag ?_);iterate 4 exact rfl) | ((with_reducible refine wl_load 23 (.tmp 53) ?_ g0 207 ?_ ?_ A_own _ s0_own.out Tryz.underlying23 ?_ Z0_own ?_);iterate 4 exact rfl) | ((with_reducible refine wl_load 23 (.tmp 55) ?_ g1 207 ?_ ?_ B_own _ s1_own.out Tryz.underlying23 ?_ Z1_own ?_);iterate 4 exact rfl))
         go_ret
         exact ⟨by rw [HF.out];rfl,HB1.out⟩
        | true =>
         cases h_blob:sameB a.blob b.blob with
         | false=>as_aux_lemma =>
          have HF:=hid (sameM_blob h_blob)
          have d_kind:(a.kind == b.kind)=true:=h_kind
          have d_client:(a.client == b.client)=true:=h_client
          have E_sub:=fun W=>equal_sub W a.sub b.sub ha.sub hb.sub
          rw [h_sub] at E_sub
          have Z0_sub:(Tryz.prog.info? 39).map (·.size)=some (subC a.sub).length:=by rw [subC_len ha.sub];exact sizeSub
          have Z1_sub:(Tryz.prog.info? 39).map (·.size)=some (subC b.sub).length:=by rw [subC_len hb.sub];exact sizeSub
          have K_rep:=hid (fun (W:World) (h1:PensAt W (.slice pa a.rep.pend.length capa) a.rep.pend) (h2:PensAt W (.slice qa b.rep.pend.length capb) b.rep.pend)=>msamereply_any ha.rep hb.rep h1 h2 hmx)
          rw [h_rep] at K_rep
          have Z0_rep:(Tryz.prog.info? 42).map (·.size)=some (repC a.rep (.slice pa a.rep.pend.length capa)).length:=by rw [repC_len ha.rep _];exact sizeRep
          have Z1_rep:(Tryz.prog.info? 42).map (·.size)=some (repC b.rep (.slice qa b.rep.pend.length capb)).length:=by rw [repC_len hb.rep _];exact sizeRep
          have d_view:a.view=b.view:=by simpa using h_view
          have d_who:(a.who == b.who)=true:=h_who
          have E_tag:=fun W=>equal_dig W a.tag b.tag ha.tag hb.tag
          rw [h_tag] at E_tag
          have Z0_tag:(Tryz.prog.info? 23).map (·.size)=some (dg a.tag).length:=by rw [(by rw [dg_len,ha.tag]:(dg a.tag).length=32)];exact sizeDig
          have Z1_tag:(Tryz.prog.info? 23).map (·.size)=some (dg b.tag).length:=by rw [(by rw [dg_len,hb.tag]:(dg b.tag).length=32)];exact sizeDig
          have E_own:=fun W=>equal_dig W a.own b.own ha.own hb.own
          rw [h_own] at E_own
          have Z0_own:(Tryz.prog.info? 23).map (·.size)=some (dg a.own).length:=by rw [(by rw [dg_len,ha.own]:(dg a.own).length=32)];exact sizeDig
          have Z1_own:(Tryz.prog.info? 23).map (·.size)=some (dg b.own).length:=by rw [(by rw [dg_len,hb.own]:(dg b.own).length=32)];exact sizeDig
          have E_blob:=fun W=>equal_blo W a.blob b.blob ha.blob hb.blob
          rw [h_blob] at E_blob
          have Z0_blob:(Tryz.prog.info? 100).map (·.size)=some (bloC a.blob).length:=by rw [bloC_len ha.blob];exact sizeBlo
          have Z1_blob:(Tryz.prog.info? 100).map (·.size)=some (bloC b.blob).length:=by rw [bloC_len hb.blob];exact sizeBlo
          clear h_kind h_client h_sub h_rep h_view h_who h_tag h_own h_blob
          have HFx:Hid (∀ W,Below W0.heap.size W0 W→W.heap[g0]? = some (.cells (msgC a (.slice pa a.rep.pend.length capa) vN).toArray 102)∧W.heap[g1]? = some (.cells (msgC b (.slice qa b.rep.pend.length capb) vM).toArray 102)):=fun W hb=>⟨row_kept Q0.out hb,row_kept Q1.out hb⟩
          clear Q0 Q1
          obtain ⟨LA,hLA⟩:∃ LA,LA=msgC a (.slice pa a.rep.pend.length capa) vN:=⟨_,rfl⟩
          obtain ⟨LB,hLB⟩:∃ LB,LB=msgC b (.slice qa b.rep.pend.length capb) vM:=⟨_,rfl⟩
          rw [← hLA,← hLB] at HFx
          have HLA:=hid hLA
          have HLB:=hid hLB
          clear hLA hLB ha hb
          generalize subC a.sub=A_sub at *
          generalize subC b.sub=B_sub at *
          generalize repC a.rep (.slice pa a.rep.pend.length capa)=A_rep at *
          generalize repC b.rep (.slice qa b.rep.pend.length capb)=B_rep at *
          go_wp2_with (first | ((with_reducible refine wl_load 39 (.tmp 18) ?_ g0 2 ?_ ?_ A_sub _ s0_sub.out Tryz.underlying39 ?_ Z0_sub ?_);iterate 4 exact rfl) | ((with_reducible refine wl_load 39 (.tmp 20) ?_ g1 2 ?_ ?_ B_sub _ s1_sub.out Tryz.underlying39 ?_ Z1_sub ?_);iterate 4 exact rfl) | ((with_reducible refine wl_load 42 (.tmp 25) ?_ g0 70 ?_ ?_ A_rep _ s0_rep.out Tryz.underlying42 ?_ Z0_rep ?_);iterate 4 exact rfl) | ((with_reducible refine wl_load 42 (.tmp 27) ?_ g1 70 ?_ ?_ B_rep _ s1_rep.out Tryz.underlying42 ?_ Z1_rep ?_);iterate 4 exact rfl))
          refine (K_rep.out _ HP.out HQ.out).mono ?_
          rintro e w1 ⟨rfl,hb1⟩
          have HB1:=hid (below_two HB0.out hb1)
          have ha:=HA.out
          have hb:=HBw.out
          obtain ⟨q0,q1⟩:=HFx.out _ hb1
          rw [HLA.out] at q0
          rw [HLB.out] at q1
          have HN1:=hid (HN.out.kept hb1)
          have HM1:=hid (HM.out.kept hb1)
          have c0_view:=mrow_view q0 ha
          have c0_who:=mrow_who q0 ha
          have s0_tag:=hid (mrow_tag q0 ha)
          have s0_own:=hid (mrow_own q0 ha)
          have s0_blob:=hid (mrow_blob q0 ha)
          have c1_view:=mrow_view q1 hb
          have c1_who:=mrow_who q1 hb
          have s1_tag:=hid (mrow_tag q1 hb)
          have s1_own:=hid (mrow_own q1 hb)
          have s1_blob:=hid (mrow_blob q1 hb)
          clear hb1 ha hb q0 q1 HFx HLA HLB s0_sub s1_sub s0_rep s1_rep E_sub Z0_sub Z1_sub Z0_rep Z1_rep c0_kind c1_kind c0_client c1_client
          generalize dg a.tag=A_tag at *
          generalize dg b.tag=B_tag at *
          generalize dg a.own=A_own at *
          generalize dg b.own=B_own at *
          generalize bloC a.blob=A_blob at *
          generalize bloC b.blob=B_blob at *
          go_wp2_with (first | ((with_reducible refine wl_load 23 (.tmp 46) ?_ g0 175 ?_ ?_ A_tag _ s0_tag.out Tryz.underlying23 ?_ Z0_tag ?_);iterate 4 exact rfl) | ((with_reducible refine wl_load 23 (.tmp 48) ?_ g1 175 ?_ ?_ B_tag _ s1_tag.out Tryz.underlying23 ?_ Z1_tag ?_);iterate 4 exact rfl) | ((with_reducible refine wl_load 23 (.tmp 53) ?_ g0 207 ?_ ?_ A_own _ s0_own.out Tryz.underlying23 ?_ Z0_own ?_);iterate 4 exact rfl) | ((with_reducible refine wl_load 23 (.tmp 55) ?_ g1 207 ?_ ?_ B_own _ s1_own.out Tryz.underlying23 ?_ Z1_own ?_);iterate 4 exact rfl) | ((with_reducible refine wl_load 100 (.tmp 60) ?_ g0 239 ?_ ?_ A_blob _ s0_blob.out Tryz.underlying100 ?_ Z0_blob ?_);iterate 4 exact rfl) | ((with_reducible refine wl_load 100 (.tmp 62) ?_ g1 239 ?_ ?_ B_blob _ s1_blob.out Tryz.underlying100 ?_ Z1_blob ?_);iterate 4 exact rfl))
          go_ret
          exact ⟨by rw [HF.out];rfl,HB1.out⟩
         | true =>
          cases h_nums:(a.nums == b.nums) with
          | false=>as_aux_lemma =>
           have HF:=hid (sameM_nums h_nums)
           have d_kind:(a.kind == b.kind)=true:=h_kind
           have d_client:(a.client == b.client)=true:=h_client
           have E_sub:=fun W=>equal_sub W a.sub b.sub ha.sub hb.sub
           rw [h_sub] at E_sub
           have Z0_sub:(Tryz.prog.info? 39).map (·.size)=some (subC a.sub).length:=by rw [subC_len ha.sub];exact sizeSub
           have Z1_sub:(Tryz.prog.info? 39).map (·.size)=some (subC b.sub).length:=by rw [subC_len hb.sub];exact sizeSub
           have K_rep:=hid (fun (W:World) (h1:PensAt W (.slice pa a.rep.pend.length capa) a.rep.pend) (h2:PensAt W (.slice qa b.rep.pend.length capb) b.rep.pend)=>msamereply_any ha.rep hb.rep h1 h2 hmx)
           rw [h_rep] at K_rep
           have Z0_rep:(Tryz.prog.info? 42).map (·.size)=some (repC a.rep (.slice pa a.rep.pend.length capa)).length:=by rw [repC_len ha.rep _];exact sizeRep
           have Z1_rep:(Tryz.prog.info? 42).map (·.size)=some (repC b.rep (.slice qa b.rep.pend.length capb)).length:=by rw [repC_len hb.rep _];exact sizeRep
           have d_view:a.view=b.view:=by simpa using h_view
           have d_who:(a.who == b.who)=true:=h_who
           have E_tag:=fun W=>equal_dig W a.tag b.tag ha.tag hb.tag
           rw [h_tag] at E_tag
           have Z0_tag:(Tryz.prog.info? 23).map (·.size)=some (dg a.tag).length:=by rw [(by rw [dg_len,ha.tag]:(dg a.tag).length=32)];exact sizeDig
           have Z1_tag:(Tryz.prog.info? 23).map (·.size)=some (dg b.tag).length:=by rw [(by rw [dg_len,hb.tag]:(dg b.tag).length=32)];exact sizeDig
           have E_own:=fun W=>equal_dig W a.own b.own ha.own hb.own
           rw [h_own] at E_own
           have Z0_own:(Tryz.prog.info? 23).map (·.size)=some (dg a.own).length:=by rw [(by rw [dg_len,ha.own]:(dg a.own).length=32)];exact sizeDig
           have Z1_own:(Tryz.prog.info? 23).map (·.size)=some (dg b.own).length:=by rw [(by rw [dg_len,hb.own]:(dg b.own).length=32)];exact sizeDig
           have E_blob:=fun W=>equal_blo W a.blob b.blob ha.blob hb.blob
           rw [h_blob] at E_blob
           have Z0_blob:(Tryz.prog.info? 100).map (·.size)=some (bloC a.blob).length:=by rw [bloC_len ha.blob];exact sizeBlo
           have Z1_blob:(Tryz.prog.info? 100).map (·.size)=some (bloC b.blob).length:=by rw [bloC_len hb.blob];exact sizeBlo
           have K_nums:=hid (fun (W:World) (h1:IntsAt W vN a.nums) (h2:IntsAt W vM b.nums)=>eqInts_any h1 h2 hnx)
           rw [h_nums] at K_nums
           clear h_kind h_client h_sub h_rep h_view h_who h_tag h_own h_blob h_nums
           have HFx:Hid (∀ W,Below W0.heap.size W0 W→W.heap[g0]? = some (.cells (msgC a (.slice pa a.rep.pend.length capa) vN).toArray 102)∧W.heap[g1]? = some (.cells (msgC b (.slice qa b.rep.pend.length capb) vM).toArray 102)):=fun W hb=>⟨row_kept Q0.out hb,row_kept Q1.out hb⟩
           clear Q0 Q1
           obtain ⟨LA,hLA⟩:∃ LA,LA=msgC a (.slice pa a.rep.pend.length capa) vN:=⟨_,rfl⟩
           obtain ⟨LB,hLB⟩:∃ LB,LB=msgC b (.slice qa b.rep.pend.length capb) vM:=⟨_,rfl⟩
           rw [← hLA,← hLB] at HFx
           have HLA:=hid hLA
           have HLB:=hid hLB
           clear hLA hLB ha hb
           generalize subC a.sub=A_sub at *
           generalize subC b.sub=B_sub at *
           generalize repC a.rep (.slice pa a.rep.pend.length capa)=A_rep at *
           generalize repC b.rep (.slice qa b.rep.pend.length capb)=B_rep at *
           go_wp2_with (first | ((with_reducible refine wl_load 39 (.tmp 18) ?_ g0 2 ?_ ?_ A_sub _ s0_sub.out Tryz.underlying39 ?_ Z0_sub ?_);iterate 4 exact rfl) | ((with_reducible refine wl_load 39 (.tmp 20) ?_ g1 2 ?_ ?_ B_sub _ s1_sub.out Tryz.underlying39 ?_ Z1_sub ?_);iterate 4 exact rfl) | ((with_reducible refine wl_load 42 (.tmp 25) ?_ g0 70 ?_ ?_ A_rep _ s0_rep.out Tryz.underlying42 ?_ Z0_rep ?_);iterate 4 exact rfl) | ((with_reducible refine wl_load 42 (.tmp 27) ?_ g1 70 ?_ ?_ B_rep _ s1_rep.out Tryz.underlying42 ?_ Z1_rep ?_);iterate 4 exact rfl))
           refine (K_rep.out _ HP.out HQ.out).mono ?_
           rintro e w1 ⟨rfl,hb1⟩
           have HB1:=hid (below_two HB0.out hb1)
           have ha:=HA.out
           have hb:=HBw.out
           obtain ⟨q0,q1⟩:=HFx.out _ hb1
           rw [HLA.out] at q0
           rw [HLB.out] at q1
           have HN1:=hid (HN.out.kept hb1)
           have HM1:=hid (HM.out.kept hb1)
           have c0_view:=mrow_view q0 ha
           have c0_who:=mrow_who q0 ha
           have s0_tag:=hid (mrow_tag q0 ha)
           have s0_own:=hid (mrow_own q0 ha)
           have s0_blob:=hid (mrow_blob q0 ha)
           have c0_nums:=mrow_nums q0 ha
           have c1_view:=mrow_view q1 hb
           have c1_who:=mrow_who q1 hb
           have s1_tag:=hid (mrow_tag q1 hb)
           have s1_own:=hid (mrow_own q1 hb)
           have s1_blob:=hid (mrow_blob q1 hb)
           have c1_nums:=mrow_nums q1 hb
           clear hb1 ha hb q0 q1 HFx HLA HLB s0_sub s1_sub s0_rep s1_rep E_sub Z0_sub Z1_sub Z0_rep Z1_rep c0_kind c1_kind c0_client c1_client
           generalize dg a.tag=A_tag at *
           generalize dg b.tag=B_tag at *
           generalize dg a.own=A_own at *
           generalize dg b.own=B_own at *
           generalize bloC a.blob=A_blob at *
           generalize bloC b.blob=B_blob at *
           go_wp2_with (first | ((with_reducible refine wl_load 23 (.tmp 46) ?_ g0 175 ?_ ?_ A_tag _ s0_tag.out Tryz.underlying23 ?_ Z0_tag ?_);iterate 4 exact rfl) | ((with_reducible refine wl_load 23 (.tmp 48) ?_ g1 175 ?_ ?_ B_tag _ s1_tag.out Tryz.underlying23 ?_ Z1_tag ?_);iterate 4 exact rfl) | ((with_reducible refine wl_load 23 (.tmp 53) ?_ g0 207 ?_ ?_ A_own _ s0_own.out Tryz.underlying23 ?_ Z0_own ?_);iterate 4 exact rfl) | ((with_reducible refine wl_load 23 (.tmp 55) ?_ g1 207 ?_ ?_ B_own _ s1_own.out Tryz.underlying23 ?_ Z1_own ?_);iterate 4 exact rfl) | ((with_reducible refine wl_load 100 (.tmp 60) ?_ g0 239 ?_ ?_ A_blob _ s0_blob.out Tryz.underlying100 ?_ Z0_blob ?_);iterate 4 exact rfl) | ((with_reducible refine wl_load 100 (.tmp 62) ?_ g1 239 ?_ ?_ B_blob _ s1_blob.out Tryz.underlying100 ?_ Z1_blob ?_);iterate 4 exact rfl))
           refine (K_nums.out _ HN1.out HM1.out).mono ?_
           rintro e w2 ⟨rfl,hb2⟩
           have HB2:=hid (below_two HB1.out hb2)
           clear hb2
           go_wp2
           go_ret
           exact ⟨by rw [HF.out];rfl,HB2.out⟩
          | true =>
           as_aux_lemma =>
           have HF:=hid (sameM_all h_kind h_client h_sub h_rep h_view h_who h_tag h_own h_blob h_nums)
           have d_kind:(a.kind == b.kind)=true:=h_kind
           have d_client:(a.client == b.client)=true:=h_client
           have E_sub:=fun W=>equal_sub W a.sub b.sub ha.sub hb.sub
           rw [h_sub] at E_sub
           have Z0_sub:(Tryz.prog.info? 39).map (·.size)=some (subC a.sub).length:=by rw [subC_len ha.sub];exact sizeSub
           have Z1_sub:(Tryz.prog.info? 39).map (·.size)=some (subC b.sub).length:=by rw [subC_len hb.sub];exact sizeSub
           have K_rep:=hid (fun (W:World) (h1:PensAt W (.slice pa a.rep.pend.length capa) a.rep.pend) (h2:PensAt W (.slice qa b.rep.pend.length capb) b.rep.pend)=>msamereply_any ha.rep hb.rep h1 h2 hmx)
           rw [h_rep] at K_rep
           have Z0_rep:(Tryz.prog.info? 42).map (·.size)=some (repC a.rep (.slice pa a.rep.pend.length capa)).length:=by rw [repC_len ha.rep _];exact sizeRep
           have Z1_rep:(Tryz.prog.info? 42).map (·.size)=some (repC b.rep (.slice qa b.rep.pend.length capb)).length:=by rw [repC_len hb.rep _];exact sizeRep
           have d_view:a.view=b.view:=by simpa using h_view
           have d_who:(a.who == b.who)=true:=h_who
           have E_tag:=fun W=>equal_dig W a.tag b.tag ha.tag hb.tag
           rw [h_tag] at E_tag
           have Z0_tag:(Tryz.prog.info? 23).map (·.size)=some (dg a.tag).length:=by rw [(by rw [dg_len,ha.tag]:(dg a.tag).length=32)];exact sizeDig
           have Z1_tag:(Tryz.prog.info? 23).map (·.size)=some (dg b.tag).length:=by rw [(by rw [dg_len,hb.tag]:(dg b.tag).length=32)];exact sizeDig
           have E_own:=fun W=>equal_dig W a.own b.own ha.own hb.own
           rw [h_own] at E_own
           have Z0_own:(Tryz.prog.info? 23).map (·.size)=some (dg a.own).length:=by rw [(by rw [dg_len,ha.own]:(dg a.own).length=32)];exact sizeDig
           have Z1_own:(Tryz.prog.info? 23).map (·.size)=some (dg b.own).length:=by rw [(by rw [dg_len,hb.own]:(dg b.own).length=32)];exact sizeDig
           have E_blob:=fun W=>equal_blo W a.blob b.blob ha.blob hb.blob
           rw [h_blob] at E_blob
           have Z0_blob:(Tryz.prog.info? 100).map (·.size)=some (bloC a.blob).length:=by rw [bloC_len ha.blob];exact sizeBlo
           have Z1_blob:(Tryz.prog.info? 100).map (·.size)=some (bloC b.blob).length:=by rw [bloC_len hb.blob];exact sizeBlo
           have K_nums:=hid (fun (W:World) (h1:IntsAt W vN a.nums) (h2:IntsAt W vM b.nums)=>eqInts_any h1 h2 hnx)
           rw [h_nums] at K_nums
           clear h_kind h_client h_sub h_rep h_view h_who h_tag h_own h_blob h_nums
           have HFx:Hid (∀ W,Below W0.heap.size W0 W→W.heap[g0]? = some (.cells (msgC a (.slice pa a.rep.pend.length capa) vN).toArray 102)∧W.heap[g1]? = some (.cells (msgC b (.slice qa b.rep.pend.length capb) vM).toArray 102)):=fun W hb=>⟨row_kept Q0.out hb,row_kept Q1.out hb⟩
           clear Q0 Q1
           obtain ⟨LA,hLA⟩:∃ LA,LA=msgC a (.slice pa a.rep.pend.length capa) vN:=⟨_,rfl⟩
           obtain ⟨LB,hLB⟩:∃ LB,LB=msgC b (.slice qa b.rep.pend.length capb) vM:=⟨_,rfl⟩
           rw [← hLA,← hLB] at HFx
           have HLA:=hid hLA
           have HLB:=hid hLB
           clear hLA hLB ha hb
           generalize subC a.sub=A_sub at *
           generalize subC b.sub=B_sub at *
           generalize repC a.rep (.slice pa a.rep.pend.length capa)=A_rep at *
           generalize repC b.rep (.slice qa b.rep.pend.length capb)=B_rep at *
           go_wp2_with (first | ((with_reducible refine wl_load 39 (.tmp 18) ?_ g0 2 ?_ ?_ A_sub _ s0_sub.out Tryz.underlying39 ?_ Z0_sub ?_);iterate 4 exact rfl) | ((with_reducible refine wl_load 39 (.tmp 20) ?_ g1 2 ?_ ?_ B_sub _ s1_sub.out Tryz.underlying39 ?_ Z1_sub ?_);iterate 4 exact rfl) | ((with_reducible refine wl_load 42 (.tmp 25) ?_ g0 70 ?_ ?_ A_rep _ s0_rep.out Tryz.underlying42 ?_ Z0_rep ?_);iterate 4 exact rfl) | ((with_reducible refine wl_load 42 (.tmp 27) ?_ g1 70 ?_ ?_ B_rep _ s1_rep.out Tryz.underlying42 ?_ Z1_rep ?_);iterate 4 exact rfl))
           refine (K_rep.out _ HP.out HQ.out).mono ?_
           rintro e w1 ⟨rfl,hb1⟩
           have HB1:=hid (below_two HB0.out hb1)
           have ha:=HA.out
           have hb:=HBw.out
           obtain ⟨q0,q1⟩:=HFx.out _ hb1
           rw [HLA.out] at q0
           rw [HLB.out] at q1
           have HN1:=hid (HN.out.kept hb1)
           have HM1:=hid (HM.out.kept hb1)
           have c0_view:=mrow_view q0 ha
           have c0_who:=mrow_who q0 ha
           have s0_tag:=hid (mrow_tag q0 ha)
           have s0_own:=hid (mrow_own q0 ha)
           have s0_blob:=hid (mrow_blob q0 ha)
           have c0_nums:=mrow_nums q0 ha
           have c1_view:=mrow_view q1 hb
           have c1_who:=mrow_who q1 hb
           have s1_tag:=hid (mrow_tag q1 hb)
           have s1_own:=hid (mrow_own q1 hb)
           have s1_blob:=hid (mrow_blob q1 hb)
           have c1_nums:=mrow_nums q1 hb
           clear hb1 ha hb q0 q1 HFx HLA HLB s0_sub s1_sub s0_rep s1_rep E_sub Z0_sub Z1_sub Z0_rep Z1_rep c0_kind c1_kind c0_client c1_client
           generalize dg a.tag=A_tag at *
           generalize dg b.tag=B_tag at *
           generalize dg a.own=A_own at *
           generalize dg b.own=B_own at *
           generalize bloC a.blob=A_blob at *
           generalize bloC b.blob=B_blob at *
           go_wp2_with (first | ((with_reducible refine wl_load 23 (.tmp 46) ?_ g0 175 ?_ ?_ A_tag _ s0_tag.out Tryz.underlying23 ?_ Z0_tag ?_);iterate 4 exact rfl) | ((with_reducible refine wl_load 23 (.tmp 48) ?_ g1 175 ?_ ?_ B_tag _ s1_tag.out Tryz.underlying23 ?_ Z1_tag ?_);iterate 4 exact rfl) | ((with_reducible refine wl_load 23 (.tmp 53) ?_ g0 207 ?_ ?_ A_own _ s0_own.out Tryz.underlying23 ?_ Z0_own ?_);iterate 4 exact rfl) | ((with_reducible refine wl_load 23 (.tmp 55) ?_ g1 207 ?_ ?_ B_own _ s1_own.out Tryz.underlying23 ?_ Z1_own ?_);iterate 4 exact rfl) | ((with_reducible refine wl_load 100 (.tmp 60) ?_ g0 239 ?_ ?_ A_blob _ s0_blob.out Tryz.underlying100 ?_ Z0_blob ?_);iterate 4 exact rfl) | ((with_reducible refine wl_load 100 (.tmp 62) ?_ g1 239 ?_ ?_ B_blob _ s1_blob.out Tryz.underlying100 ?_ Z1_blob ?_);iterate 4 exact rfl))
           refine (K_nums.out _ HN1.out HM1.out).mono ?_
           rintro e w2 ⟨rfl,hb2⟩
           have HB2:=hid (below_two HB1.out hb2)
           clear hb2
           go_wp2
           go_ret
           exact ⟨by rw [HF.out];rfl,HB2.out⟩
end Go.Proofs.YthkkjjlpahdagaaGreatDoor.Ms
