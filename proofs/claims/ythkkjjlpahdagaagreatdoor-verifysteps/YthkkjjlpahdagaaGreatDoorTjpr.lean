/-
  What msg.sameReply answers of two replies: whether they are the same.
-/
import Derived.Test.YthkkjjlpahdagaaGreatDoorS13
set_option maxHeartbeats 8000000
namespace Go.Proofs.YthkkjjlpahdagaaGreatDoor.Ms
open Go Go.RowKit
set_option maxRecDepth 100000
theorem sameR_every {a b:Rep} (h0:(a.number == b.number)=true) (h1:(a.last == b.last)=true) (h2:(a.view == b.view)=true) (h3:(a.commit == b.commit)=true) (h4:sameL sameP a.pend b.pend=true) (h5:(a.vnum == b.vnum)=true) (h6:(a.value == b.value)=true) (h7:(a.data == b.data)=true) (h8:(a.seen == b.seen)=true) (h9:(a.stag == b.stag)=true):sameR a b=true:=by unfold sameR;rw [h0,h1,h2,h3,h4,h5,h6,h7,h8,h9];rfl
theorem msamereply_any {w:World} {a b:Rep} {vP vQ:Value} (ha:a.Wf) (hb:b.Wf) (hp:PensAt w vP a.pend) (hq:PensAt w vQ b.pend) (hmx:a.pend.length ≤ 9223372036854775807) :
  Calls Tryz.prog 159 #[.agg (repC a vP).toArray,.agg (repC b vQ).toArray] w fun e w'=>e = .returned (.bool (sameR a b))∧Below w.heap.size w w':=by
 have HB0:Hid (Below w.heap.size w ((w.alloc (.cells (repC a vP).toArray 42)).alloc (.cells (repC b vQ).toArray 42))):=(below_a1 w _).alloc (by simp) _
 have R0:Hid (((w.alloc (.cells (repC a vP).toArray 42)).alloc (.cells (repC b vQ).toArray 42)).heap[w.heap.size]? = some (.cells (repC a vP).toArray 42)):=heap_alloc2_old w _ _
 have R1:Hid (((w.alloc (.cells (repC a vP).toArray 42)).alloc (.cells (repC b vQ).toArray 42)).heap[w.heap.size + 1]? = some (.cells (repC b vQ).toArray 42)):=heap_alloc2_new w _ _
 have HP:=hid (hp.kept HB0.out)
 have HQ:=hid (hq.kept HB0.out)
 obtain ⟨pa,capa,hpa,-⟩:=hp
 obtain ⟨qa,capb,hqa,-⟩:=hq
 subst hpa
 subst hqa
 obtain ⟨RA,hRA⟩:∃ RA,RA=(repC a (.slice pa a.pend.length capa)).toArray:=⟨_,rfl⟩
 obtain ⟨RB,hRB⟩:∃ RB,RB=(repC b (.slice qa b.pend.length capb)).toArray:=⟨_,rfl⟩
 rw [← hRA] at HB0 R0 R1 HP HQ ⊢
 rw [← hRB] at HB0 R0 R1 HP HQ ⊢
 have HRA:=hid hRA
 have HRB:=hid hRB
 clear hRA hRB
 go_enter Tryz.func159,Tryz.ntmps159
 go_upto_region 1 with fail
 simp only [List.append_eq,List.cons_append,List.nil_append]
 generalize (w.alloc (.cells RA 42)).alloc (.cells RB 42)=W0 at *
 have r0:=R0.out
 have r1:=R1.out
 rw [HRA.out] at r0
 rw [HRB.out] at r1
 obtain ⟨g0,hg0⟩:∃ g0,g0=w.heap.size:=⟨_,rfl⟩
 obtain ⟨g1,hg1⟩:∃ g1,g1=w.heap.size + 1:=⟨_,rfl⟩
 rw [← hg1] at r1 ⊢
 rw [← hg0] at r0 ⊢
 have Q0:=hid r0
 have Q1:=hid r1
 have HA:=hid ha
 have HBw:=hid hb
 clear R0 R1 HRA HRB hg0 hg1
 have c0_number:=rrow_number r0 ha
 have c0_last:=rrow_last r0 ha
 have c0_view:=rrow_view r0 ha
 have s0_commit:=hid (rrow_commit r0 ha)
 have c0_P:=rrow_P r0 ha
 have c1_number:=rrow_number r1 hb
 have c1_last:=rrow_last r1 hb
 have c1_view:=rrow_view r1 hb
 have s1_commit:=hid (rrow_commit r1 hb)
 have c1_P:=rrow_P r1 hb
 clear r0 r1
 cases h_number:(a.number == b.number) with
 | false=>as_aux_lemma =>
  have HF:=hid (sameR_number h_number)
  have d_number:(a.number == b.number)=false:=h_number
  clear h_number
  clear ha hb
  go_wp2
  go_ret
  exact ⟨by rw [HF.out];rfl,HB0.out⟩
 | true =>
  cases h_last:(a.last == b.last) with
  | false=>as_aux_lemma =>
   have HF:=hid (sameR_last h_last)
   have d_number:(a.number == b.number)=true:=h_number
   have d_last:(a.last == b.last)=false:=h_last
   clear h_number h_last
   clear ha hb
   go_wp2
   go_ret
   exact ⟨by rw [HF.out];rfl,HB0.out⟩
  | true =>
   cases h_view:(a.view == b.view) with
   | false=>as_aux_lemma =>
    have HF:=hid (sameR_view h_view)
    have d_number:(a.number == b.number)=true:=h_number
    have d_last:(a.last == b.last)=true:=h_last
    have d_view:¬ a.view=b.view:=by simpa using h_view
    clear h_number h_last h_view
    clear ha hb
    go_wp2
    go_ret
    exact ⟨by rw [HF.out];rfl,HB0.out⟩
   | true =>
    cases h_commit:(a.commit == b.commit) with
    | false=>as_aux_lemma =>
     have HF:=hid (sameR_commit h_commit)
     have d_number:(a.number == b.number)=true:=h_number
     have d_last:(a.last == b.last)=true:=h_last
     have d_view:a.view=b.view:=by simpa using h_view
     have E_commit:=fun W=>equal_dig W a.commit b.commit ha.commit hb.commit
     rw [h_commit] at E_commit
     have Z0_commit:(Tryz.prog.info? 23).map (·.size)=some (dg a.commit).length:=by rw [dg_len,ha.commit];exact sizeDig
     have Z1_commit:(Tryz.prog.info? 23).map (·.size)=some (dg b.commit).length:=by rw [dg_len,hb.commit];exact sizeDig
     clear h_number h_last h_view h_commit
     clear ha hb
     generalize dg a.commit=A_commit at *
     generalize dg b.commit=B_commit at *
     go_wp2_with (first | ((with_reducible refine wl_load 23 (.tmp 25) ?_ g0 3 ?_ ?_ A_commit _ s0_commit.out Tryz.underlying23 ?_ Z0_commit ?_);iterate 4 exact rfl) | ((with_reducible refine wl_load 23 (.tmp 27) ?_ g1 3 ?_ ?_ B_commit _ s1_commit.out Tryz.underlying23 ?_ Z1_commit ?_);iterate 4 exact rfl))
     go_ret
     exact ⟨by rw [HF.out];rfl,HB0.out⟩
    | true =>
     cases h_pend:sameL sameP a.pend b.pend with
     | false=>as_aux_lemma =>
      have HF:=hid (sameR_pend h_pend)
      have d_number:(a.number == b.number)=true:=h_number
      have d_last:(a.last == b.last)=true:=h_last
      have d_view:a.view=b.view:=by simpa using h_view
      have E_commit:=fun W=>equal_dig W a.commit b.commit ha.commit hb.commit
      rw [h_commit] at E_commit
      have Z0_commit:(Tryz.prog.info? 23).map (·.size)=some (dg a.commit).length:=by rw [dg_len,ha.commit];exact sizeDig
      have Z1_commit:(Tryz.prog.info? 23).map (·.size)=some (dg b.commit).length:=by rw [dg_len,hb.commit];exact sizeDig
      have K_pend:=hid (fun (W:World) (h1:PensAt W (.slice pa a.pend.length capa) a.pend) (h2:PensAt W (.slice qa b.pend.length capb) b.pend)=>eqPens_any ha.pend hb.pend h1 h2 hmx)
      rw [h_pend] at K_pend
      clear h_number h_last h_view h_commit h_pend
      clear ha hb
      generalize dg a.commit=A_commit at *
      generalize dg b.commit=B_commit at *
      go_wp2_with (first | ((with_reducible refine wl_load 23 (.tmp 25) ?_ g0 3 ?_ ?_ A_commit _ s0_commit.out Tryz.underlying23 ?_ Z0_commit ?_);iterate 4 exact rfl) | ((with_reducible refine wl_load 23 (.tmp 27) ?_ g1 3 ?_ ?_ B_commit _ s1_commit.out Tryz.underlying23 ?_ Z1_commit ?_);iterate 4 exact rfl))
      refine (K_pend.out _ HP.out HQ.out).mono ?_
      rintro e w1 ⟨rfl,hb1⟩
      have HB1:=hid (below_two HB0.out hb1)
      clear hb1
      go_wp2
      go_ret
      exact ⟨by rw [HF.out];rfl,HB1.out⟩
     | true =>
      cases h_vnum:(a.vnum == b.vnum) with
      | false=>as_aux_lemma =>
       have HF:=hid (sameR_vnum h_vnum)
       have d_number:(a.number == b.number)=true:=h_number
       have d_last:(a.last == b.last)=true:=h_last
       have d_view:a.view=b.view:=by simpa using h_view
       have E_commit:=fun W=>equal_dig W a.commit b.commit ha.commit hb.commit
       rw [h_commit] at E_commit
       have Z0_commit:(Tryz.prog.info? 23).map (·.size)=some (dg a.commit).length:=by rw [dg_len,ha.commit];exact sizeDig
       have Z1_commit:(Tryz.prog.info? 23).map (·.size)=some (dg b.commit).length:=by rw [dg_len,hb.commit];exact sizeDig
       have K_pend:=hid (fun (W:World) (h1:PensAt W (.slice pa a.pend.length capa) a.pend) (h2:PensAt W (.slice qa b.pend.length capb) b.pend)=>eqPens_any ha.pend hb.pend h1 h2 hmx)
       rw [h_pend] at K_pend
       have d_vnum:(a.vnum == b.vnum)=false:=h_vnum
       clear h_number h_last h_view h_commit h_pend h_vnum
       have HFx:Hid (∀ W,Below W0.heap.size W0 W→W.heap[g0]? = some (.cells (repC a (.slice pa a.pend.length capa)).toArray 42)∧W.heap[g1]? = some (.cells (repC b (.slice qa b.pend.length capb)).toArray 42)):=fun W hb=>⟨row_kept Q0.out hb,row_kept Q1.out hb⟩
       clear Q0 Q1
       obtain ⟨LA,hLA⟩:∃ LA,LA=repC a (.slice pa a.pend.length capa):=⟨_,rfl⟩
       obtain ⟨LB,hLB⟩:∃ LB,LB=repC b (.slice qa b.pend.length capb):=⟨_,rfl⟩
       rw [← hLA,← hLB] at HFx
       have HLA:=hid hLA
       have HLB:=hid hLB
       clear hLA hLB ha hb
       generalize dg a.commit=A_commit at *
       generalize dg b.commit=B_commit at *
       go_wp2_with (first | ((with_reducible refine wl_load 23 (.tmp 25) ?_ g0 3 ?_ ?_ A_commit _ s0_commit.out Tryz.underlying23 ?_ Z0_commit ?_);iterate 4 exact rfl) | ((with_reducible refine wl_load 23 (.tmp 27) ?_ g1 3 ?_ ?_ B_commit _ s1_commit.out Tryz.underlying23 ?_ Z1_commit ?_);iterate 4 exact rfl))
       refine (K_pend.out _ HP.out HQ.out).mono ?_
       rintro e w1 ⟨rfl,hb1⟩
       have HB1:=hid (below_two HB0.out hb1)
       have ha:=HA.out
       have hb:=HBw.out
       obtain ⟨q0,q1⟩:=HFx.out _ hb1
       rw [HLA.out] at q0
       rw [HLB.out] at q1
       have c0_vnum:=rrow_vnum q0 ha
       have c1_vnum:=rrow_vnum q1 hb
       clear hb1 ha hb q0 q1 HFx HLA HLB s0_commit s1_commit E_commit Z0_commit Z1_commit c0_number c1_number c0_last c1_last c0_view c1_view c0_P c1_P
       go_wp2
       go_ret
       exact ⟨by rw [HF.out];rfl,HB1.out⟩
      | true =>
       cases h_value:(a.value == b.value) with
       | false=>as_aux_lemma =>
        have HF:=hid (sameR_value h_value)
        have d_number:(a.number == b.number)=true:=h_number
        have d_last:(a.last == b.last)=true:=h_last
        have d_view:a.view=b.view:=by simpa using h_view
        have E_commit:=fun W=>equal_dig W a.commit b.commit ha.commit hb.commit
        rw [h_commit] at E_commit
        have Z0_commit:(Tryz.prog.info? 23).map (·.size)=some (dg a.commit).length:=by rw [dg_len,ha.commit];exact sizeDig
        have Z1_commit:(Tryz.prog.info? 23).map (·.size)=some (dg b.commit).length:=by rw [dg_len,hb.commit];exact sizeDig
        have K_pend:=hid (fun (W:World) (h1:PensAt W (.slice pa a.pend.length capa) a.pend) (h2:PensAt W (.slice qa b.pend.length capb) b.pend)=>eqPens_any ha.pend hb.pend h1 h2 hmx)
        rw [h_pend] at K_pend
        have d_vnum:(a.vnum == b.vnum)=true:=h_vnum
        have d_value:¬ a.value=b.value:=by simpa using h_value
        clear h_number h_last h_view h_commit h_pend h_vnum h_value
        have HFx:Hid (∀ W,Below W0.heap.size W0 W→W.heap[g0]? = some (.cells (repC a (.slice pa a.pend.length capa)).toArray 42)∧W.heap[g1]? = some (.cells (repC b (.slice qa b.pend.length capb)).toArray 42)):=fun W hb=>⟨row_kept Q0.out hb,row_kept Q1.out hb⟩
        clear Q0 Q1
        obtain ⟨LA,hLA⟩:∃ LA,LA=repC a (.slice pa a.pend.length capa):=⟨_,rfl⟩
        obtain ⟨LB,hLB⟩:∃ LB,LB=repC b (.slice qa b.pend.length capb):=⟨_,rfl⟩
        rw [← hLA,← hLB] at HFx
        have HLA:=hid hLA
        have HLB:=hid hLB
        clear hLA hLB ha hb
        generalize dg a.commit=A_commit at *
        generalize dg b.commit=B_commit at *
        go_wp2_with (first | ((with_reducible refine wl_load 23 (.tmp 25) ?_ g0 3 ?_ ?_ A_commit _ s0_commit.out Tryz.underlying23 ?_ Z0_commit ?_);iterate 4 exact rfl) | ((with_reducible refine wl_load 23 (.tmp 27) ?_ g1 3 ?_ ?_ B_commit _ s1_commit.out Tryz.underlying23 ?_ Z1_commit ?_);iterate 4 exact rfl))
        refine (K_pend.out _ HP.out HQ.out).mono ?_
        rintro e w1 ⟨rfl,hb1⟩
        have HB1:=hid (below_two HB0.out hb1)
        have ha:=HA.out
        have hb:=HBw.out
        obtain ⟨q0,q1⟩:=HFx.out _ hb1
        rw [HLA.out] at q0
        rw [HLB.out] at q1
        have c0_vnum:=rrow_vnum q0 ha
        have c0_value:=rrow_value q0 ha
        have c1_vnum:=rrow_vnum q1 hb
        have c1_value:=rrow_value q1 hb
        clear hb1 ha hb q0 q1 HFx HLA HLB s0_commit s1_commit E_commit Z0_commit Z1_commit c0_number c1_number c0_last c1_last c0_view c1_view c0_P c1_P
        go_wp2
        go_ret
        exact ⟨by rw [HF.out];rfl,HB1.out⟩
       | true =>
        cases h_data:(a.data == b.data) with
        | false=>as_aux_lemma =>
         have HF:=hid (sameR_data h_data)
         have d_number:(a.number == b.number)=true:=h_number
         have d_last:(a.last == b.last)=true:=h_last
         have d_view:a.view=b.view:=by simpa using h_view
         have E_commit:=fun W=>equal_dig W a.commit b.commit ha.commit hb.commit
         rw [h_commit] at E_commit
         have Z0_commit:(Tryz.prog.info? 23).map (·.size)=some (dg a.commit).length:=by rw [dg_len,ha.commit];exact sizeDig
         have Z1_commit:(Tryz.prog.info? 23).map (·.size)=some (dg b.commit).length:=by rw [dg_len,hb.commit];exact sizeDig
         have K_pend:=hid (fun (W:World) (h1:PensAt W (.slice pa a.pend.length capa) a.pend) (h2:PensAt W (.slice qa b.pend.length capb) b.pend)=>eqPens_any ha.pend hb.pend h1 h2 hmx)
         rw [h_pend] at K_pend
         have d_vnum:(a.vnum == b.vnum)=true:=h_vnum
         have d_value:a.value=b.value:=by simpa using h_value
         have E_data:=fun W=>equal_dig W a.data b.data ha.data hb.data
         rw [h_data] at E_data
         have Z0_data:(Tryz.prog.info? 23).map (·.size)=some (dg a.data).length:=by rw [dg_len,ha.data];exact sizeDig
         have Z1_data:(Tryz.prog.info? 23).map (·.size)=some (dg b.data).length:=by rw [dg_len,hb.data];exact sizeDig
         clear h_number h_last h_view h_commit h_pend h_vnum h_value h_data
         have HFx:Hid (∀ W,Below W0.heap.size W0 W→W.heap[g0]? = some (.cells (repC a (.slice pa a.pend.length capa)).toArray 42)∧W.heap[g1]? = some (.cells (repC b (.slice qa b.pend.length capb)).toArray 42)):=fun W hb=>⟨row_kept Q0.out hb,row_kept Q1.out hb⟩
         clear Q0 Q1
         obtain ⟨LA,hLA⟩:∃ LA,LA=repC a (.slice pa a.pend.length capa):=⟨_,rfl⟩
         obtain ⟨LB,hLB⟩:∃ LB,LB=repC b (.slice qa b.pend.length capb):=⟨_,rfl⟩
         rw [← hLA,← hLB] at HFx
         have HLA:=hid hLA
         have HLB:=hid hLB
         clear hLA hLB ha hb
         generalize dg a.commit=A_commit at *
         generalize dg b.commit=B_commit at *
         go_wp2_with (first | ((with_reducible refine wl_load 23 (.tmp 25) ?_ g0 3 ?_ ?_ A_commit _ s0_commit.out Tryz.underlying23 ?_ Z0_commit ?_);iterate 4 exact rfl) | ((with_reducible refine wl_load 23 (.tmp 27) ?_ g1 3 ?_ ?_ B_commit _ s1_commit.out Tryz.underlying23 ?_ Z1_commit ?_);iterate 4 exact rfl))
         refine (K_pend.out _ HP.out HQ.out).mono ?_
         rintro e w1 ⟨rfl,hb1⟩
         have HB1:=hid (below_two HB0.out hb1)
         have ha:=HA.out
         have hb:=HBw.out
         obtain ⟨q0,q1⟩:=HFx.out _ hb1
         rw [HLA.out] at q0
         rw [HLB.out] at q1
         have c0_vnum:=rrow_vnum q0 ha
         have c0_value:=rrow_value q0 ha
         have s0_data:=hid (rrow_data q0 ha)
         have c1_vnum:=rrow_vnum q1 hb
         have c1_value:=rrow_value q1 hb
         have s1_data:=hid (rrow_data q1 hb)
         clear hb1 ha hb q0 q1 HFx HLA HLB s0_commit s1_commit E_commit Z0_commit Z1_commit c0_number c1_number c0_last c1_last c0_view c1_view c0_P c1_P
         generalize dg a.data=A_data at *
         generalize dg b.data=B_data at *
         go_wp2_with (first | ((with_reducible refine wl_load 23 (.tmp 53) ?_ g0 38 ?_ ?_ A_data _ s0_data.out Tryz.underlying23 ?_ Z0_data ?_);iterate 4 exact rfl) | ((with_reducible refine wl_load 23 (.tmp 55) ?_ g1 38 ?_ ?_ B_data _ s1_data.out Tryz.underlying23 ?_ Z1_data ?_);iterate 4 exact rfl))
         go_ret
         exact ⟨by rw [HF.out];rfl,HB1.out⟩
        | true =>
         cases h_seen:(a.seen == b.seen) with
         | false=>as_aux_lemma =>
          have HF:=hid (sameR_seen h_seen)
          have d_number:(a.number == b.number)=true:=h_number
          have d_last:(a.last == b.last)=true:=h_last
          have d_view:a.view=b.view:=by simpa using h_view
          have E_commit:=fun W=>equal_dig W a.commit b.commit ha.commit hb.commit
          rw [h_commit] at E_commit
          have Z0_commit:(Tryz.prog.info? 23).map (·.size)=some (dg a.commit).length:=by rw [dg_len,ha.commit];exact sizeDig
          have Z1_commit:(Tryz.prog.info? 23).map (·.size)=some (dg b.commit).length:=by rw [dg_len,hb.commit];exact sizeDig
          have K_pend:=hid (fun (W:World) (h1:PensAt W (.slice pa a.pend.length capa) a.pend) (h2:PensAt W (.slice qa b.pend.length capb) b.pend)=>eqPens_any ha.pend hb.pend h1 h2 hmx)
          rw [h_pend] at K_pend
          have d_vnum:(a.vnum == b.vnum)=true:=h_vnum
          have d_value:a.value=b.value:=by simpa using h_value
          have E_data:=fun W=>equal_dig W a.data b.data ha.data hb.data
          rw [h_data] at E_data
          have Z0_data:(Tryz.prog.info? 23).map (·.size)=some (dg a.data).length:=by rw [dg_len,ha.data];exact sizeDig
          have Z1_data:(Tryz.prog.info? 23).map (·.size)=some (dg b.data).length:=by rw [dg_len,hb.data];exact sizeDig
          have d_seen:¬ a.seen=b.seen:=by simpa using h_seen
          clear h_number h_last h_view h_commit h_pend h_vnum h_value h_data h_seen
          have HFx:Hid (∀ W,Below W0.heap.size W0 W→W.heap[g0]? = some (.cells (repC a (.slice pa a.pend.length capa)).toArray 42)∧W.heap[g1]? = some (.cells (repC b (.slice qa b.pend.length capb)).toArray 42)):=fun W hb=>⟨row_kept Q0.out hb,row_kept Q1.out hb⟩
          clear Q0 Q1
          obtain ⟨LA,hLA⟩:∃ LA,LA=repC a (.slice pa a.pend.length capa):=⟨_,rfl⟩
          obtain ⟨LB,hLB⟩:∃ LB,LB=repC b (.slice qa b.pend.length capb):=⟨_,rfl⟩
          rw [← hLA,← hLB] at HFx
          have HLA:=hid hLA
          have HLB:=hid hLB
          clear hLA hLB ha hb
          generalize dg a.commit=A_commit at *
          generalize dg b.commit=B_commit at *
          go_wp2_with (first | ((with_reducible refine wl_load 23 (.tmp 25) ?_ g0 3 ?_ ?_ A_commit _ s0_commit.out Tryz.underlying23 ?_ Z0_commit ?_);iterate 4 exact rfl) | ((with_reducible refine wl_load 23 (.tmp 27) ?_ g1 3 ?_ ?_ B_commit _ s1_commit.out Tryz.underlying23 ?_ Z1_commit ?_);iterate 4 exact rfl))
          refine (K_pend.out _ HP.out HQ.out).mono ?_
          rintro e w1 ⟨rfl,hb1⟩
          have HB1:=hid (below_two HB0.out hb1)
          have ha:=HA.out
          have hb:=HBw.out
          obtain ⟨q0,q1⟩:=HFx.out _ hb1
          rw [HLA.out] at q0
          rw [HLB.out] at q1
          have c0_vnum:=rrow_vnum q0 ha
          have c0_value:=rrow_value q0 ha
          have s0_data:=hid (rrow_data q0 ha)
          have c0_seen:=rrow_seen q0 ha
          have c1_vnum:=rrow_vnum q1 hb
          have c1_value:=rrow_value q1 hb
          have s1_data:=hid (rrow_data q1 hb)
          have c1_seen:=rrow_seen q1 hb
          clear hb1 ha hb q0 q1 HFx HLA HLB s0_commit s1_commit E_commit Z0_commit Z1_commit c0_number c1_number c0_last c1_last c0_view c1_view c0_P c1_P
          generalize dg a.data=A_data at *
          generalize dg b.data=B_data at *
          go_wp2_with (first | ((with_reducible refine wl_load 23 (.tmp 53) ?_ g0 38 ?_ ?_ A_data _ s0_data.out Tryz.underlying23 ?_ Z0_data ?_);iterate 4 exact rfl) | ((with_reducible refine wl_load 23 (.tmp 55) ?_ g1 38 ?_ ?_ B_data _ s1_data.out Tryz.underlying23 ?_ Z1_data ?_);iterate 4 exact rfl))
          go_ret
          exact ⟨by rw [HF.out];rfl,HB1.out⟩
         | true =>
          cases h_stag:(a.stag == b.stag) with
          | false=>as_aux_lemma =>
           have HF:=hid (sameR_stag h_stag)
           have d_number:(a.number == b.number)=true:=h_number
           have d_last:(a.last == b.last)=true:=h_last
           have d_view:a.view=b.view:=by simpa using h_view
           have E_commit:=fun W=>equal_dig W a.commit b.commit ha.commit hb.commit
           rw [h_commit] at E_commit
           have Z0_commit:(Tryz.prog.info? 23).map (·.size)=some (dg a.commit).length:=by rw [dg_len,ha.commit];exact sizeDig
           have Z1_commit:(Tryz.prog.info? 23).map (·.size)=some (dg b.commit).length:=by rw [dg_len,hb.commit];exact sizeDig
           have K_pend:=hid (fun (W:World) (h1:PensAt W (.slice pa a.pend.length capa) a.pend) (h2:PensAt W (.slice qa b.pend.length capb) b.pend)=>eqPens_any ha.pend hb.pend h1 h2 hmx)
           rw [h_pend] at K_pend
           have d_vnum:(a.vnum == b.vnum)=true:=h_vnum
           have d_value:a.value=b.value:=by simpa using h_value
           have E_data:=fun W=>equal_dig W a.data b.data ha.data hb.data
           rw [h_data] at E_data
           have Z0_data:(Tryz.prog.info? 23).map (·.size)=some (dg a.data).length:=by rw [dg_len,ha.data];exact sizeDig
           have Z1_data:(Tryz.prog.info? 23).map (·.size)=some (dg b.data).length:=by rw [dg_len,hb.data];exact sizeDig
           have d_seen:a.seen=b.seen:=by simpa using h_seen
           have E_stag:=fun W=>equal_dig W a.stag b.stag ha.stag hb.stag
           rw [h_stag] at E_stag
           have Z0_stag:(Tryz.prog.info? 23).map (·.size)=some (dg a.stag).length:=by rw [dg_len,ha.stag];exact sizeDig
           have Z1_stag:(Tryz.prog.info? 23).map (·.size)=some (dg b.stag).length:=by rw [dg_len,hb.stag];exact sizeDig
           clear h_number h_last h_view h_commit h_pend h_vnum h_value h_data h_seen h_stag
           have HFx:Hid (∀ W,Below W0.heap.size W0 W→W.heap[g0]? = some (.cells (repC a (.slice pa a.pend.length capa)).toArray 42)∧W.heap[g1]? = some (.cells (repC b (.slice qa b.pend.length capb)).toArray 42)):=fun W hb=>⟨row_kept Q0.out hb,row_kept Q1.out hb⟩
           clear Q0 Q1
           obtain ⟨LA,hLA⟩:∃ LA,LA=repC a (.slice pa a.pend.length capa):=⟨_,rfl⟩
           obtain ⟨LB,hLB⟩:∃ LB,LB=repC b (.slice qa b.pend.length capb):=⟨_,rfl⟩
           rw [← hLA,← hLB] at HFx
           have HLA:=hid hLA
           have HLB:=hid hLB
           clear hLA hLB ha hb
           generalize dg a.commit=A_commit at *
           generalize dg b.commit=B_commit at *
           go_wp2_with (first | ((with_reducible refine wl_load 23 (.tmp 25) ?_ g0 3 ?_ ?_ A_commit _ s0_commit.out Tryz.underlying23 ?_ Z0_commit ?_);iterate 4 exact rfl) | ((with_reducible refine wl_load 23 (.tmp 27) ?_ g1 3 ?_ ?_ B_commit _ s1_commit.out Tryz.underlying23 ?_ Z1_commit ?_);iterate 4 exact rfl))
           refine (K_pend.out _ HP.out HQ.out).mono ?_
           rintro e w1 ⟨rfl,hb1⟩
           have HB1:=hid (below_two HB0.out hb1)
           have ha:=HA.out
           have hb:=HBw.out
           obtain ⟨q0,q1⟩:=HFx.out _ hb1
           rw [HLA.out] at q0
           rw [HLB.out] at q1
           have c0_vnum:=rrow_vnum q0 ha
           have c0_value:=rrow_value q0 ha
           have s0_data:=hid (rrow_data q0 ha)
           have c0_seen:=rrow_seen q0 ha
           have s0_stag:=hid (rrow_stag q0 ha)
           have c1_vnum:=rrow_vnum q1 hb
           have c1_value:=rrow_value q1 hb
           have s1_data:=hid (rrow_data q1 hb)
           have c1_seen:=rrow_seen q1 hb
           have s1_stag:=hid (rrow_stag q1 hb)
           clear hb1 ha hb q0 q1 HFx HLA HLB s0_commit s1_commit E_commit Z0_commit Z1_commit c0_number c1_number c0_last c1_last c0_view c1_view c0_P c1_P
           generalize dg a.data=A_data at *
           generalize dg b.data=B_data at *
           generalize dg a.stag=A_stag at *
           generalize dg b.stag=B_stag at *
           go_wp2_with (first | ((with_reducible refine wl_load 23 (.tmp 53) ?_ g0 38 ?_ ?_ A_data _ s0_data.out Tryz.underlying23 ?_ Z0_data ?_);iterate 4 exact rfl) | ((with_reducible refine wl_load 23 (.tmp 55) ?_ g1 38 ?_ ?_ B_data _ s1_data.out Tryz.underlying23 ?_ Z1_data ?_);iterate 4 exact rfl) | ((with_reducible refine wl_load 23 (.tmp 67) ?_ g0 71 ?_ ?_ A_stag _ s0_stag.out Tryz.underlying23 ?_ Z0_stag ?_);iterate 4 exact rfl) | ((with_reducible refine wl_load 23 (.tmp 69) ?_ g1 71 ?_ ?_ B_stag _ s1_stag.out Tryz.underlying23 ?_ Z1_stag ?_);iterate 4 exact rfl))
           go_ret
           exact ⟨by rw [HF.out];rfl,HB1.out⟩
          | true =>
           as_aux_lemma =>
           have HF:=hid (sameR_every h_number h_last h_view h_commit h_pend h_vnum h_value h_data h_seen h_stag)
           have d_number:(a.number == b.number)=true:=h_number
           have d_last:(a.last == b.last)=true:=h_last
           have d_view:a.view=b.view:=by simpa using h_view
           have E_commit:=fun W=>equal_dig W a.commit b.commit ha.commit hb.commit
           rw [h_commit] at E_commit
           have Z0_commit:(Tryz.prog.info? 23).map (·.size)=some (dg a.commit).length:=by rw [dg_len,ha.commit];exact sizeDig
           have Z1_commit:(Tryz.prog.info? 23).map (·.size)=some (dg b.commit).length:=by rw [dg_len,hb.commit];exact sizeDig
           have K_pend:=hid (fun (W:World) (h1:PensAt W (.slice pa a.pend.length capa) a.pend) (h2:PensAt W (.slice qa b.pend.length capb) b.pend)=>eqPens_any ha.pend hb.pend h1 h2 hmx)
           rw [h_pend] at K_pend
           have d_vnum:(a.vnum == b.vnum)=true:=h_vnum
           have d_value:a.value=b.value:=by simpa using h_value
           have E_data:=fun W=>equal_dig W a.data b.data ha.data hb.data
           rw [h_data] at E_data
           have Z0_data:(Tryz.prog.info? 23).map (·.size)=some (dg a.data).length:=by rw [dg_len,ha.data];exact sizeDig
           have Z1_data:(Tryz.prog.info? 23).map (·.size)=some (dg b.data).length:=by rw [dg_len,hb.data];exact sizeDig
           have d_seen:a.seen=b.seen:=by simpa using h_seen
           have E_stag:=fun W=>equal_dig W a.stag b.stag ha.stag hb.stag
           rw [h_stag] at E_stag
           have Z0_stag:(Tryz.prog.info? 23).map (·.size)=some (dg a.stag).length:=by rw [dg_len,ha.stag];exact sizeDig
           have Z1_stag:(Tryz.prog.info? 23).map (·.size)=some (dg b.stag).length:=by rw [dg_len,hb.stag];exact sizeDig
           clear h_number h_last h_view h_commit h_pend h_vnum h_value h_data h_seen h_stag
           have HFx:Hid (∀ W,Below W0.heap.size W0 W→W.heap[g0]? = some (.cells (repC a (.slice pa a.pend.length capa)).toArray 42)∧W.heap[g1]? = some (.cells (repC b (.slice qa b.pend.length capb)).toArray 42)):=fun W hb=>⟨row_kept Q0.out hb,row_kept Q1.out hb⟩
           clear Q0 Q1
           obtain ⟨LA,hLA⟩:∃ LA,LA=repC a (.slice pa a.pend.length capa):=⟨_,rfl⟩
           obtain ⟨LB,hLB⟩:∃ LB,LB=repC b (.slice qa b.pend.length capb):=⟨_,rfl⟩
           rw [← hLA,← hLB] at HFx
           have HLA:=hid hLA
           have HLB:=hid hLB
           clear hLA hLB ha hb
           generalize dg a.commit=A_commit at *
           generalize dg b.commit=B_commit at *
           go_wp2_with (first | ((with_reducible refine wl_load 23 (.tmp 25) ?_ g0 3 ?_ ?_ A_commit _ s0_commit.out Tryz.underlying23 ?_ Z0_commit ?_);iterate 4 exact rfl) | ((with_reducible refine wl_load 23 (.tmp 27) ?_ g1 3 ?_ ?_ B_commit _ s1_commit.out Tryz.underlying23 ?_ Z1_commit ?_);iterate 4 exact rfl))
           refine (K_pend.out _ HP.out HQ.out).mono ?_
           rintro e w1 ⟨rfl,hb1⟩
           have HB1:=hid (below_two HB0.out hb1)
           have ha:=HA.out
           have hb:=HBw.out
           obtain ⟨q0,q1⟩:=HFx.out _ hb1
           rw [HLA.out] at q0
           rw [HLB.out] at q1
           have c0_vnum:=rrow_vnum q0 ha
           have c0_value:=rrow_value q0 ha
           have s0_data:=hid (rrow_data q0 ha)
           have c0_seen:=rrow_seen q0 ha
           have s0_stag:=hid (rrow_stag q0 ha)
           have c1_vnum:=rrow_vnum q1 hb
           have c1_value:=rrow_value q1 hb
           have s1_data:=hid (rrow_data q1 hb)
           have c1_seen:=rrow_seen q1 hb
           have s1_stag:=hid (rrow_stag q1 hb)
           clear hb1 ha hb q0 q1 HFx HLA HLB s0_commit s1_commit E_commit Z0_commit Z1_commit c0_number c1_number c0_last c1_last c0_view c1_view c0_P c1_P
           generalize dg a.data=A_data at *
           generalize dg b.data=B_data at *
           generalize dg a.stag=A_stag at *
           generalize dg b.stag=B_stag at *
           go_wp2_with (first | ((with_reducible refine wl_load 23 (.tmp 53) ?_ g0 38 ?_ ?_ A_data _ s0_data.out Tryz.underlying23 ?_ Z0_data ?_);iterate 4 exact rfl) | ((with_reducible refine wl_load 23 (.tmp 55) ?_ g1 38 ?_ ?_ B_data _ s1_data.out Tryz.underlying23 ?_ Z1_data ?_);iterate 4 exact rfl) | ((with_reducible refine wl_load 23 (.tmp 67) ?_ g0 71 ?_ ?_ A_stag _ s0_stag.out Tryz.underlying23 ?_ Z0_stag ?_);iterate 4 exact rfl) | ((with_reducible refine wl_load 23 (.tmp 69) ?_ g1 71 ?_ ?_ B_stag _ s1_stag.out Tryz.underlying23 ?_ Z1_stag ?_);iterate 4 exact rfl))
           go_ret
           exact ⟨by rw [HF.out];rfl,HB1.out⟩
end Go.Proofs.YthkkjjlpahdagaaGreatDoor.Ms
