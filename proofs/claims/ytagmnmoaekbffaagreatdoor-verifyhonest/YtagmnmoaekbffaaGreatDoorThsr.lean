/- Thsr -/
import Derived.Test.YtagmnmoaekbffaaGreatDoorS01
set_option maxHeartbeats 8000000
namespace Go.Proofs.YtagmnmoaekbffaaGreatDoor.Ms
open Go.Proofs.Tryz
open Go Go.RowKit
set_option maxRecDepth 100000
theorem k0E {α:Type} (f:α->α->Bool) (hf:∀ x y,f x y=true ↔ x=y) (xs ys:List α) (h:xs.length ≠ ys.length):e0C f xs ys=false:=by
 rw [Bool.eq_false_iff];intro e;exact h (by rw [(d0U f hf xs ys).1 e])
theorem n0k {α:Type} (f:α->α->Bool) (hf:∀ x y,f x y=true ↔ x=y) (d:α) (xs ys:List α) (j:Nat) (h:f (xs.getD j d) (ys.getD j d)=false):e0C f xs ys=false:=by
 rw [Bool.eq_false_iff];intro e;rw [(d0U f hf xs ys).1 e,(hf _ _).2 rfl] at h
 cases h
theorem e0F {ps:List Pen} (h:∀ p ∈ ps,p.Wf) (j:Nat) (hj:j < ps.length):(ps.getD j a0z).Wf:=by
 have e:ps.getD j a0z=ps[j]:=by simp [List.getD,hj]
 rw [e];exact h _ (List.getElem_mem hj)
theorem g0x {a b:Rep} (h:(a.number == b.number)=false):b0Y a b=false:=by unfold b0Y;rw [h];simp
theorem i0y {a b:Rep} (h:(a.last == b.last)=false):b0Y a b=false:=by unfold b0Y;rw [h];simp
theorem i0z {a b:Rep} (h:(a.view == b.view)=false):b0Y a b=false:=by unfold b0Y;rw [h];simp
theorem g0y {a b:Rep} (h:(a.commit == b.commit)=false):b0Y a b=false:=by unfold b0Y;rw [h];simp
theorem i0A {a b:Rep} (h:(a.vnum == b.vnum)=false):b0Y a b=false:=by unfold b0Y;rw [h];simp
theorem h0p {a b:Rep} (h:(a.value == b.value)=false):b0Y a b=false:=by unfold b0Y;rw [h];simp
theorem i0B {a b:Rep} (h:(a.data == b.data)=false):b0Y a b=false:=by unfold b0Y;rw [h];simp
theorem i0C {a b:Rep} (h:(a.seen == b.seen)=false):b0Y a b=false:=by unfold b0Y;rw [h];simp
theorem i0D {a b:Rep} (h:(a.stag == b.stag)=false):b0Y a b=false:=by unfold b0Y;rw [h];simp
theorem g0h {a b:Rep} (h:e0C c0C a.pend b.pend=false):b0Y a b=false:=by unfold b0Y;rw [h];simp
theorem p0v {a b:Rep} (h0:(a.number == b.number)=true) (h1:(a.last == b.last)=true) (h2:(a.view == b.view)=true) (h3:(a.commit == b.commit)=true) (h4:(a.vnum == b.vnum)=true) (h5:(a.value == b.value)=true) (h6:(a.data == b.data)=true) (h7:(a.seen == b.seen)=true) (h8:(a.stag == b.stag)=true) (hp:e0C c0C a.pend b.pend=true):b0Y a b=true:=by unfold b0Y;rw [h0,h1,h2,h3,h4,h5,h6,h7,h8,hp];rfl
theorem b0y {w:World} {a b:Rep} {vP vQ:Value} (ha:a.Wf) (hb:b.Wf) (hp:a0g w vP a.pend) (hq:a0g w vQ b.pend) (hmx:a.pend.length <= 9223372036854775807) :
  Calls prog 71 #[.agg (repC a vP).toArray,.agg (repC b vQ).toArray] w fun e w'=>e = .returned (.bool (b0Y a b))/\Below w.heap.size w w':=by
 have HB0:Hid (Below w.heap.size w ((w.alloc (.cells (repC a vP).toArray 44)).alloc (.cells (repC b vQ).toArray 44))):=(a0c w _).alloc (by simp) _;have R0:Hid (((w.alloc (.cells (repC a vP).toArray 44)).alloc (.cells (repC b vQ).toArray 44)).heap[w.heap.size]? = some (.cells (repC a vP).toArray 44)):=heap_alloc2_old w _ _;have R1:Hid (((w.alloc (.cells (repC a vP).toArray 44)).alloc (.cells (repC b vQ).toArray 44)).heap[w.heap.size + 1]? = some (.cells (repC b vQ).toArray 44)):=heap_alloc2_new w _ _;have HP:=hid (hp.kept HB0.out);have HQ:=hid (hq.kept HB0.out);obtain ⟨pa,capa,hpa,-⟩:=hp;obtain ⟨qa,capb,hqa,-⟩:=hq;subst hpa;subst hqa;obtain ⟨RA,hRA⟩:∃ RA,RA=(repC a (.slice pa a.pend.length capa)).toArray:=⟨_,rfl⟩;obtain ⟨RB,hRB⟩:∃ RB,RB=(repC b (.slice qa b.pend.length capb)).toArray:=⟨_,rfl⟩;rw [← hRA] at HB0 R0 R1 HP HQ ⊢;rw [← hRB] at HB0 R0 R1 HP HQ ⊢;have HRA:=hid hRA;have HRB:=hid hRB;clear hRA hRB;go_enter func71,ntmps71;go_upto_region 1 with fail
 generalize (w.alloc (.cells RA 44)).alloc (.cells RB 44)=W0 at *;have r0:=R0.out;have r1:=R1.out;rw [HRA.out] at r0;rw [HRB.out] at r1;obtain ⟨g0,hg0⟩:∃ g0,g0=w.heap.size:=⟨_,rfl⟩;obtain ⟨g1,hg1⟩:∃ g1,g1=w.heap.size + 1:=⟨_,rfl⟩;rw [← hg1] at r1 ⊢;rw [← hg0] at r0 ⊢;have c0_number:=c0s r0 ha;have c0_last:=d0f r0 ha;have c0_view:=b0B r0 ha;have s0_commit:=hid (c0W r0 ha);have c0_P:=f0n r0 ha;have c1_number:=c0s r1 hb;have c1_last:=d0f r1 hb;have c1_view:=b0B r1 hb;have s1_commit:=hid (c0W r1 hb);have c1_P:=f0n r1 hb;have Q0:=hid r0;have Q1:=hid r1;have HA:=hid ha;have HBw:=hid hb;have HG0:=hid hg0;clear r0 r1 R0 R1 HRA HRB hg0 hg1
 cases h_number:(a.number == b.number) with
 | false=>as_aux_lemma =>
  have HF:=hid (g0x h_number);have d_number:(a.number != b.number)=true:=by simpa using h_number
  have e_number:(a.number == b.number)=false:=by simpa using h_number
  clear h_number ha hb;go_wp2;go_ret;exact ⟨by rw [HF.out];rfl,HB0.out⟩
 | true =>
  cases h_last:(a.last == b.last) with
  | false=>as_aux_lemma =>
   have HF:=hid (i0y h_last);have d_number:(a.number != b.number)=false:=by simpa using h_number
   have e_number:(a.number == b.number)=true:=by simpa using h_number
   have d_last:(a.last != b.last)=true:=by simpa using h_last
   have e_last:(a.last == b.last)=false:=by simpa using h_last
   clear h_number h_last ha hb;go_wp2;go_ret;exact ⟨by rw [HF.out];rfl,HB0.out⟩
  | true =>
   cases h_view:(a.view == b.view) with
   | false=>as_aux_lemma =>
    have HF:=hid (i0z h_view);have d_number:(a.number != b.number)=false:=by simpa using h_number
    have e_number:(a.number == b.number)=true:=by simpa using h_number
    have d_last:(a.last != b.last)=false:=by simpa using h_last
    have e_last:(a.last == b.last)=true:=by simpa using h_last
    have d_view:¬ a.view=b.view:=by simpa using h_view
    clear h_number h_last h_view ha hb;go_wp2;go_ret;exact ⟨by rw [HF.out];rfl,HB0.out⟩
   | true =>
    cases h_commit:(a.commit == b.commit) with
    | false=>as_aux_lemma =>
     have HF:=hid (g0y h_commit);have d_number:(a.number != b.number)=false:=by simpa using h_number
     have e_number:(a.number == b.number)=true:=by simpa using h_number
     have d_last:(a.last != b.last)=false:=by simpa using h_last
     have e_last:(a.last == b.last)=true:=by simpa using h_last
     have d_view:a.view=b.view:=by simpa using h_view
     have E_commit:=fun W=>a0m W a.commit b.commit ha.commit hb.commit;rw [h_commit] at E_commit;have Z0_commit:(prog.info? 38).map (·.size)=some (dg a.commit).length:=by rw [a0e,ha.commit];exact sizeDig
     have Z1_commit:(prog.info? 38).map (·.size)=some (dg b.commit).length:=by rw [a0e,hb.commit];exact sizeDig
     clear h_number h_last h_view h_commit ha hb;generalize dg a.commit=A_commit at *;generalize dg b.commit=B_commit at *
     go_wp2_with (first | ((with_reducible refine a0d 38 (.tmp 26) ?_ g0 3 ?_ ?_ A_commit _ s0_commit.out underlying38 ?_ Z0_commit ?_);iterate 4 exact rfl) | ((with_reducible refine a0d 38 (.tmp 28) ?_ g1 3 ?_ ?_ B_commit _ s1_commit.out underlying38 ?_ Z1_commit ?_);iterate 4 exact rfl))
     go_ret;exact ⟨by rw [HF.out];rfl,HB0.out⟩
    | true =>
     by_cases hl:a.pend.length=b.pend.length
     ·as_aux_lemma =>
      have dl:((a.pend.length:Int) != (b.pend.length:Int))=false:=by simp;omega
      have dl':(a.pend.length != b.pend.length)=false:=by simp;omega
      have HL:=hid hl;have HH:Hid ((a.number == b.number)=true/\(a.last == b.last)=true/\(a.view == b.view)=true/\(a.commit == b.commit)=true):=⟨h_number,h_last,h_view,h_commit⟩;have d_number:(a.number != b.number)=false:=by simpa using h_number
      have e_number:(a.number == b.number)=true:=by simpa using h_number
      have d_last:(a.last != b.last)=false:=by simpa using h_last
      have e_last:(a.last == b.last)=true:=by simpa using h_last
      have d_view:a.view=b.view:=by simpa using h_view
      have E_commit:=fun W=>a0m W a.commit b.commit ha.commit hb.commit;rw [h_commit] at E_commit;have Z0_commit:(prog.info? 38).map (·.size)=some (dg a.commit).length:=by rw [a0e,ha.commit];exact sizeDig
      have Z1_commit:(prog.info? 38).map (·.size)=some (dg b.commit).length:=by rw [a0e,hb.commit];exact sizeDig
      clear h_number h_last h_view h_commit ha hb hl;generalize dg a.commit=A_commit at *;generalize dg b.commit=B_commit at *;have HW0:=hid (Below.refl W0.heap.size W0)
      go_wp2_with (first | ((with_reducible refine a0d 38 (.tmp 26) ?_ g0 3 ?_ ?_ A_commit _ s0_commit.out underlying38 ?_ Z0_commit ?_);iterate 4 exact rfl) | ((with_reducible refine a0d 38 (.tmp 28) ?_ g1 3 ?_ ?_ B_commit _ s1_commit.out underlying38 ?_ Z1_commit ?_);iterate 4 exact rfl))
      go_loopw [5] (fun i w'=>∃ j:Nat,j <= a.pend.length/\i = .int .i64 j/\Hid (∀ k,k < j->c0C (a.pend.getD k a0z) (b.pend.getD k a0z)=true)/\Hid (Below W0.heap.size W0 w')) (fun i _=>a.pend.length - (intOf i).toNat)
      case atStart=>exact ⟨0,by omega,rfl,fun k hk=>absurd hk (Nat.not_lt_zero k),HW0.out⟩
      case round =>
       obtain ⟨k,hk,rfl,HN,HB⟩:=hrel;clear c0_number c1_number c0_last c1_last c0_view c1_view c0_P c1_P s0_commit s1_commit E_commit Z0_commit Z1_commit d_number e_number d_last e_last d_view dl dl';have ha:=HA.out;have hb:=HBw.out;have q0:=a0a Q0.out HB.out;have q1:=a0a Q1.out HB.out;have c0_P:=f0n q0 ha;have c1_P:=f0n q1 hb;by_cases hlt:k < a.pend.length
       ·as_aux_lemma =>
        have hlb:k < b.pend.length:=by have:=HL.out;omega
        have d1:decide ((k:Int) < (a.pend.length:Int))=true:=decide_eq_true (by omega);have d1':decide (k < a.pend.length)=true:=decide_eq_true hlt;obtain ⟨pa',cp',e',hpc⟩:=HP.out.kept HB.out
        cases e'
        obtain ⟨qa',cq',e',hqc⟩:=HQ.out.kept HB.out
        cases e'
        obtain ⟨ba,oa,rfl,hca⟩:=hpc (fun e=>by rw [e] at hlt;exact absurd hlt (Nat.not_lt_zero k));obtain ⟨bb,ob,rfl,hcb⟩:=hqc (fun e=>by rw [e] at hlb;exact absurd hlb (Nat.not_lt_zero k));have wa:=e0F ha.pend k hlt;have wb:=e0F hb.pend k hlb;have EP:=fun W=>k0C W _ _ wa wb;have ZA:(prog.info? 57).map (·.size)=some (penC (a.pend.getD k a0z)).length:=by rw [a0K wa];exact sizePen
        have ZB:(prog.info? 57).map (·.size)=some (penC (b.pend.getD k a0z)).length:=by rw [a0K wb];exact sizePen
        have SA:=hid (fun w' (hw:∃ p:Regrown,w' = Sort.grow (redrawn wr p.d) p.os)=>(by obtain ⟨p,rfl⟩:=hw;exact fun i c hi=>cell_regrown (hca k hlt i c hi) _ _:∀ i c,(penC (a.pend.getD k a0z))[i]? = some c->w'.cell? ⟨ba,oa + k * 68 + i,none⟩=some c));have SB:=hid (fun w' (hw:∃ p:Regrown,w' = Sort.grow (redrawn wr p.d) p.os)=>(by obtain ⟨p,rfl⟩:=hw;exact fun i c hi=>cell_regrown (hcb k hlb i c hi) _ _:∀ i c,(penC (b.pend.getD k a0z))[i]? = some c->w'.cell? ⟨bb,ob + k * 68 + i,none⟩=some c));have p0:∀ dd os,(Sort.grow (redrawn wr dd) os).cell? ⟨g0,35,none⟩=some (.slice (some ⟨ba,oa,none⟩) a.pend.length capa):=fun dd os=>cell_regrown c0_P _ _;have p1:∀ dd os,(Sort.grow (redrawn wr dd) os).cell? ⟨g1,35,none⟩=some (.slice (some ⟨bb,ob,none⟩) b.pend.length capb):=fun dd os=>cell_regrown c1_P _ _
        have HM:Hid (c0C (a.pend.getD k a0z) (b.pend.getD k a0z)=true->∀ j,j < k + 1->c0C (a.pend.getD j a0z) (b.pend.getD j a0z)=true):=fun h j hj=>by
         by_cases e:j=k
         ·rw [e];exact h
         ·exact HN.out j (by omega)
        have HF:Hid (c0C (a.pend.getD k a0z) (b.pend.getD k a0z)=false->b0Y a b=false):=fun h=>g0h (n0k c0C c0E a0z _ _ k h);have HBg:=hid (fun dq osq=>HB.out.trans ((below_regrown wr dq osq).mono HB.out.size));clear hpc hqc hca hcb wa wb ha hb q0 q1 HN;generalize c0C (a.pend.getD k a0z) (b.pend.getD k a0z)=r at *;generalize penC (a.pend.getD k a0z)=PA at *;generalize penC (b.pend.getD k a0z)=PB at *
        go_wp2_with fail
        refine wp_region_quiet_below (by kernel_rfl) (by kernel_rfl) ?_
        iterate 4 (first | go_big_quiet_step (fail) | quiet_step (fail))
        refine c0H 57 (.tmp 51) rfl ba (oa + k * 68) rfl rfl PA _ (fun w' hw'=>SA.out w' hw') underlying57 rfl ZA ?_;simp only [Act.put,List.setIfInBounds_toArray,List.set_cons_zero,List.set_cons_succ]
        iterate 4 (first | go_big_quiet_step (fail) | quiet_step (fail))
        refine c0H 57 (.tmp 56) rfl bb (ob + k * 68) rfl rfl PB _ (fun w' hw'=>SB.out w' hw') underlying57 rfl ZB ?_;simp only [Act.put,List.setIfInBounds_toArray,List.set_cons_zero,List.set_cons_succ];refine t0t rfl 57 57 (.tmp 52) (.tmp 57) rfl PA.toArray PB.toArray rfl rfl guardPen r EP ?_;simp only [Act.put,List.setIfInBounds_toArray,List.set_cons_zero,List.set_cons_succ];refine wpQuiet_nil ?_;intro _ hw';obtain ⟨⟨dq,osq⟩,hw''⟩:=hw';subst hw'';have HBq:=hid (HBg.out dq osq);generalize Sort.grow (redrawn wr dq) osq=w5 at *;clear p0 p1 SA SB EP ZA ZB HBg c0_P c1_P
        cases hr:r with
        | true =>
         have HM':=hid (HM.out hr);subst hr;clear HM HF;go_wp2;exact ⟨⟨k + 1,by omega,by go_num,HM'.out,HBq.out⟩,by simp [intOf];omega⟩
        | false =>
         have HF':=hid (HF.out hr);subst hr;clear HM HF;go_wp2;go_ret;have hz:=HG0.out;exact ⟨by rw [HF'.out];rfl,a0b HB0.out HBq.out⟩
       ·as_aux_lemma =>
        have e:k=a.pend.length:=by omega
        subst e;have dk:decide ((a.pend.length:Int) < (a.pend.length:Int))=false:=decide_eq_false (by omega);have HPL:Hid (e0C c0C a.pend b.pend=true):=(d0U c0C c0E _ _).2 (e0W a0z _ _ HL.out (fun j hj=>(c0E _ _).1 (HN.out j hj)));have c0_vnum:=a0Q q0 ha;have c0_value:=a0Y q0 ha;have s0_data:=hid (b0S q0 ha);have c0_seen:=b0x q0 ha;have s0_stag:=hid (d0g q0 ha);have c1_vnum:=a0Q q1 hb;have c1_value:=a0Y q1 hb;have s1_data:=hid (b0S q1 hb);have c1_seen:=b0x q1 hb;have s1_stag:=hid (d0g q1 hb);have HBq:=hid (a0b HB0.out HB.out);clear HN HP HQ hmx HW0 hlt
        cases h_vnum:(a.vnum == b.vnum) with
        | false=>as_aux_lemma =>
         have HF:=hid (i0A h_vnum);have d_vnum:(a.vnum != b.vnum)=true:=by simpa using h_vnum
         have e_vnum:(a.vnum == b.vnum)=false:=by simpa using h_vnum
         clear h_vnum ha hb q0 q1;go_wp2;go_ret;exact ⟨by rw [HF.out];rfl,HBq.out⟩
        | true =>
         cases h_value:(a.value == b.value) with
         | false=>as_aux_lemma =>
          have HF:=hid (h0p h_value);have d_vnum:(a.vnum != b.vnum)=false:=by simpa using h_vnum
          have e_vnum:(a.vnum == b.vnum)=true:=by simpa using h_vnum
          have d_value:¬ a.value=b.value:=by simpa using h_value
          clear h_vnum h_value ha hb q0 q1;go_wp2;go_ret;exact ⟨by rw [HF.out];rfl,HBq.out⟩
         | true =>
          cases h_data:(a.data == b.data) with
          | false=>as_aux_lemma =>
           have HF:=hid (i0B h_data);have d_vnum:(a.vnum != b.vnum)=false:=by simpa using h_vnum
           have e_vnum:(a.vnum == b.vnum)=true:=by simpa using h_vnum
           have d_value:a.value=b.value:=by simpa using h_value
           have E_data:=fun W=>a0m W a.data b.data ha.data hb.data;rw [h_data] at E_data;have Z0_data:(prog.info? 38).map (·.size)=some (dg a.data).length:=by rw [a0e,ha.data];exact sizeDig
           have Z1_data:(prog.info? 38).map (·.size)=some (dg b.data).length:=by rw [a0e,hb.data];exact sizeDig
           clear h_vnum h_value h_data ha hb q0 q1;generalize dg a.data=A_data at *;generalize dg b.data=B_data at *
           go_wp2_with (first | ((with_reducible refine a0d 38 (.tmp 72) ?_ g0 38 ?_ ?_ A_data _ s0_data.out underlying38 ?_ Z0_data ?_);iterate 4 exact rfl) | ((with_reducible refine a0d 38 (.tmp 74) ?_ g1 38 ?_ ?_ B_data _ s1_data.out underlying38 ?_ Z1_data ?_);iterate 4 exact rfl))
           go_ret;exact ⟨by rw [HF.out];rfl,HBq.out⟩
          | true =>
           cases h_seen:(a.seen == b.seen) with
           | false=>as_aux_lemma =>
            have HF:=hid (i0C h_seen);have d_vnum:(a.vnum != b.vnum)=false:=by simpa using h_vnum
            have e_vnum:(a.vnum == b.vnum)=true:=by simpa using h_vnum
            have d_value:a.value=b.value:=by simpa using h_value
            have E_data:=fun W=>a0m W a.data b.data ha.data hb.data;rw [h_data] at E_data;have Z0_data:(prog.info? 38).map (·.size)=some (dg a.data).length:=by rw [a0e,ha.data];exact sizeDig
            have Z1_data:(prog.info? 38).map (·.size)=some (dg b.data).length:=by rw [a0e,hb.data];exact sizeDig
            have d_seen:¬ a.seen=b.seen:=by simpa using h_seen
            clear h_vnum h_value h_data h_seen ha hb q0 q1;generalize dg a.data=A_data at *;generalize dg b.data=B_data at *
            go_wp2_with (first | ((with_reducible refine a0d 38 (.tmp 72) ?_ g0 38 ?_ ?_ A_data _ s0_data.out underlying38 ?_ Z0_data ?_);iterate 4 exact rfl) | ((with_reducible refine a0d 38 (.tmp 74) ?_ g1 38 ?_ ?_ B_data _ s1_data.out underlying38 ?_ Z1_data ?_);iterate 4 exact rfl))
            go_ret;exact ⟨by rw [HF.out];rfl,HBq.out⟩
           | true =>
            cases h_stag:(a.stag == b.stag) with
            | false=>as_aux_lemma =>
             have HF:=hid (i0D h_stag);have d_vnum:(a.vnum != b.vnum)=false:=by simpa using h_vnum
             have e_vnum:(a.vnum == b.vnum)=true:=by simpa using h_vnum
             have d_value:a.value=b.value:=by simpa using h_value
             have E_data:=fun W=>a0m W a.data b.data ha.data hb.data;rw [h_data] at E_data;have Z0_data:(prog.info? 38).map (·.size)=some (dg a.data).length:=by rw [a0e,ha.data];exact sizeDig
             have Z1_data:(prog.info? 38).map (·.size)=some (dg b.data).length:=by rw [a0e,hb.data];exact sizeDig
             have d_seen:a.seen=b.seen:=by simpa using h_seen
             have E_stag:=fun W=>a0m W a.stag b.stag ha.stag hb.stag;rw [h_stag] at E_stag;have Z0_stag:(prog.info? 38).map (·.size)=some (dg a.stag).length:=by rw [a0e,ha.stag];exact sizeDig
             have Z1_stag:(prog.info? 38).map (·.size)=some (dg b.stag).length:=by rw [a0e,hb.stag];exact sizeDig
             clear h_vnum h_value h_data h_seen h_stag ha hb q0 q1;generalize dg a.data=A_data at *;generalize dg b.data=B_data at *;generalize dg a.stag=A_stag at *;generalize dg b.stag=B_stag at *
             go_wp2_with (first | ((with_reducible refine a0d 38 (.tmp 72) ?_ g0 38 ?_ ?_ A_data _ s0_data.out underlying38 ?_ Z0_data ?_);iterate 4 exact rfl) | ((with_reducible refine a0d 38 (.tmp 74) ?_ g1 38 ?_ ?_ B_data _ s1_data.out underlying38 ?_ Z1_data ?_);iterate 4 exact rfl) | ((with_reducible refine a0d 38 (.tmp 86) ?_ g0 71 ?_ ?_ A_stag _ s0_stag.out underlying38 ?_ Z0_stag ?_);iterate 4 exact rfl) | ((with_reducible refine a0d 38 (.tmp 88) ?_ g1 71 ?_ ?_ B_stag _ s1_stag.out underlying38 ?_ Z1_stag ?_);iterate 4 exact rfl))
             go_ret;exact ⟨by rw [HF.out];rfl,HBq.out⟩
            | true =>
             as_aux_lemma =>
             have HF:=hid (p0v HH.out.1 HH.out.2.1 HH.out.2.2.1 HH.out.2.2.2 h_vnum h_value h_data h_seen h_stag HPL.out);have d_vnum:(a.vnum != b.vnum)=false:=by simpa using h_vnum
             have e_vnum:(a.vnum == b.vnum)=true:=by simpa using h_vnum
             have d_value:a.value=b.value:=by simpa using h_value
             have E_data:=fun W=>a0m W a.data b.data ha.data hb.data;rw [h_data] at E_data;have Z0_data:(prog.info? 38).map (·.size)=some (dg a.data).length:=by rw [a0e,ha.data];exact sizeDig
             have Z1_data:(prog.info? 38).map (·.size)=some (dg b.data).length:=by rw [a0e,hb.data];exact sizeDig
             have d_seen:a.seen=b.seen:=by simpa using h_seen
             have E_stag:=fun W=>a0m W a.stag b.stag ha.stag hb.stag;rw [h_stag] at E_stag;have Z0_stag:(prog.info? 38).map (·.size)=some (dg a.stag).length:=by rw [a0e,ha.stag];exact sizeDig
             have Z1_stag:(prog.info? 38).map (·.size)=some (dg b.stag).length:=by rw [a0e,hb.stag];exact sizeDig
             clear h_vnum h_value h_data h_seen h_stag ha hb q0 q1;generalize dg a.data=A_data at *;generalize dg b.data=B_data at *;generalize dg a.stag=A_stag at *;generalize dg b.stag=B_stag at *
             go_wp2_with (first | ((with_reducible refine a0d 38 (.tmp 72) ?_ g0 38 ?_ ?_ A_data _ s0_data.out underlying38 ?_ Z0_data ?_);iterate 4 exact rfl) | ((with_reducible refine a0d 38 (.tmp 74) ?_ g1 38 ?_ ?_ B_data _ s1_data.out underlying38 ?_ Z1_data ?_);iterate 4 exact rfl) | ((with_reducible refine a0d 38 (.tmp 86) ?_ g0 71 ?_ ?_ A_stag _ s0_stag.out underlying38 ?_ Z0_stag ?_);iterate 4 exact rfl) | ((with_reducible refine a0d 38 (.tmp 88) ?_ g1 71 ?_ ?_ B_stag _ s1_stag.out underlying38 ?_ Z1_stag ?_);iterate 4 exact rfl))
             go_ret;exact ⟨by rw [HF.out];rfl,HBq.out⟩
     ·as_aux_lemma =>
      have HF:=hid (g0h (k0E c0C c0E _ _ hl));have dl:((a.pend.length:Int) != (b.pend.length:Int))=true:=by simp;omega
      have dl':(a.pend.length != b.pend.length)=true:=by simp;omega
      have d_number:(a.number != b.number)=false:=by simpa using h_number
      have e_number:(a.number == b.number)=true:=by simpa using h_number
      have d_last:(a.last != b.last)=false:=by simpa using h_last
      have e_last:(a.last == b.last)=true:=by simpa using h_last
      have d_view:a.view=b.view:=by simpa using h_view
      have E_commit:=fun W=>a0m W a.commit b.commit ha.commit hb.commit;rw [h_commit] at E_commit;have Z0_commit:(prog.info? 38).map (·.size)=some (dg a.commit).length:=by rw [a0e,ha.commit];exact sizeDig
      have Z1_commit:(prog.info? 38).map (·.size)=some (dg b.commit).length:=by rw [a0e,hb.commit];exact sizeDig
      clear h_number h_last h_view h_commit ha hb hl;generalize dg a.commit=A_commit at *;generalize dg b.commit=B_commit at *
      go_wp2_with (first | ((with_reducible refine a0d 38 (.tmp 26) ?_ g0 3 ?_ ?_ A_commit _ s0_commit.out underlying38 ?_ Z0_commit ?_);iterate 4 exact rfl) | ((with_reducible refine a0d 38 (.tmp 28) ?_ g1 3 ?_ ?_ B_commit _ s1_commit.out underlying38 ?_ Z1_commit ?_);iterate 4 exact rfl))
      go_ret;exact ⟨by rw [HF.out];rfl,HB0.out⟩
open Go Go.RowKit
set_option maxRecDepth 100000
theorem i0E {a b:Msg} (h:(a.kind == b.kind)=false):b0Z a b=false:=by unfold b0Z;rw [h];simp
theorem g0z {a b:Msg} (h:(a.client == b.client)=false):b0Z a b=false:=by unfold b0Z;rw [h];simp
theorem k0F {a b:Msg} (h:f0s a.sub b.sub=false):b0Z a b=false:=by unfold b0Z;rw [h];simp
theorem k0G {a b:Msg} (h:b0Y a.rep b.rep=false):b0Z a b=false:=by unfold b0Z;rw [h];simp
theorem i0F {a b:Msg} (h:(a.view == b.view)=false):b0Z a b=false:=by unfold b0Z;rw [h];simp
theorem k0H {a b:Msg} (h:(a.who == b.who)=false):b0Z a b=false:=by unfold b0Z;rw [h];simp
theorem k0I {a b:Msg} (h:(a.tag == b.tag)=false):b0Z a b=false:=by unfold b0Z;rw [h];simp
theorem k0J {a b:Msg} (h:(a.own == b.own)=false):b0Z a b=false:=by unfold b0Z;rw [h];simp
theorem i0G {a b:Msg} (h:j0n a.blob b.blob=false):b0Z a b=false:=by unfold b0Z;rw [h];simp
theorem i0H {a b:Msg} (h:(a.nums == b.nums)=false):b0Z a b=false:=by unfold b0Z;rw [h];simp
theorem k0K {a b:Msg} (h0:(a.kind == b.kind)=true) (h1:(a.client == b.client)=true) (h2:f0s a.sub b.sub=true) (h3:b0Y a.rep b.rep=true) (h4:(a.view == b.view)=true) (h5:(a.who == b.who)=true) (h6:(a.tag == b.tag)=true) (h7:(a.own == b.own)=true) (h8:j0n a.blob b.blob=true) (h9:(a.nums == b.nums)=true):b0Z a b=true:=by unfold b0Z;rw [h0,h1,h2,h3,h4,h5,h6,h7,h8,h9];rfl
theorem r0U {w:World} {a b:Msg} {vP vQ vN vM:Value} (ha:a.Wf) (hb:b.Wf) (hp:a0g w vP a.rep.pend) (hq:a0g w vQ b.rep.pend) (hn:a0w w vN a.nums) (hm:a0w w vM b.nums) (hmx:a.rep.pend.length <= 9223372036854775807) (hnx:a.nums.length <= 9223372036854775807) :
  Calls prog 42 #[.agg (msgC a vP vN).toArray,.agg (msgC b vQ vM).toArray] w fun e w'=>e = .returned (.bool (b0Z a b))/\Below w.heap.size w w':=by
 have HB0:Hid (Below w.heap.size w ((w.alloc (.cells (msgC a vP vN).toArray 80)).alloc (.cells (msgC b vQ vM).toArray 80))):=(a0c w _).alloc (by simp) _;have R0:Hid (((w.alloc (.cells (msgC a vP vN).toArray 80)).alloc (.cells (msgC b vQ vM).toArray 80)).heap[w.heap.size]? = some (.cells (msgC a vP vN).toArray 80)):=heap_alloc2_old w _ _;have R1:Hid (((w.alloc (.cells (msgC a vP vN).toArray 80)).alloc (.cells (msgC b vQ vM).toArray 80)).heap[w.heap.size + 1]? = some (.cells (msgC b vQ vM).toArray 80)):=heap_alloc2_new w _ _;have HP:=hid (hp.kept HB0.out);have HQ:=hid (hq.kept HB0.out);have HN:=hid (hn.kept HB0.out);have HM:=hid (hm.kept HB0.out);obtain ⟨pa,capa,hpa,-⟩:=hp;obtain ⟨qa,capb,hqa,-⟩:=hq;subst hpa;subst hqa;clear hn hm;obtain ⟨RA,hRA⟩:∃ RA,RA=(msgC a (.slice pa a.rep.pend.length capa) vN).toArray:=⟨_,rfl⟩;obtain ⟨RB,hRB⟩:∃ RB,RB=(msgC b (.slice qa b.rep.pend.length capb) vM).toArray:=⟨_,rfl⟩;rw [← hRA] at HB0 R0 R1 HP HQ HN HM ⊢;rw [← hRB] at HB0 R0 R1 HP HQ HN HM ⊢;have HRA:=hid hRA;have HRB:=hid hRB;clear hRA hRB;go_enter func42,ntmps42;go_upto_region 1 with fail
 simp only [List.append_eq,List.cons_append,List.nil_append];generalize (w.alloc (.cells RA 80)).alloc (.cells RB 80)=W0 at *;have r0:=R0.out;have r1:=R1.out;rw [HRA.out] at r0;rw [HRB.out] at r1;obtain ⟨g0,hg0⟩:∃ g0,g0=w.heap.size:=⟨_,rfl⟩;obtain ⟨g1,hg1⟩:∃ g1,g1=w.heap.size + 1:=⟨_,rfl⟩;rw [← hg1] at r1 ⊢;rw [← hg0] at r0 ⊢;have Q0:=hid r0;have Q1:=hid r1;have HA:=hid ha;have HBw:=hid hb;clear R0 R1 HRA HRB hg0 hg1;have c0_kind:=b0R r0 ha;have c0_client:=c0r r0 ha;have s0_sub:=hid (f0I r0 ha);have s0_rep:=hid (e0V r0 ha);have c1_kind:=b0R r1 hb;have c1_client:=c0r r1 hb;have s1_sub:=hid (f0I r1 hb);have s1_rep:=hid (e0V r1 hb);clear r0 r1
 cases h_kind:(a.kind == b.kind) with
 | false=>as_aux_lemma =>
  have HF:=hid (i0E h_kind);have d_kind:(a.kind == b.kind)=false:=h_kind;clear h_kind;clear ha hb;go_wp2;go_ret;exact ⟨by rw [HF.out];rfl,HB0.out⟩
 | true =>
  cases h_client:(a.client == b.client) with
  | false=>as_aux_lemma =>
   have HF:=hid (g0z h_client);have d_kind:(a.kind == b.kind)=true:=h_kind;have d_client:(a.client == b.client)=false:=h_client;clear h_kind h_client;clear ha hb;go_wp2;go_ret;exact ⟨by rw [HF.out];rfl,HB0.out⟩
  | true =>
   cases h_sub:f0s a.sub b.sub with
   | false=>as_aux_lemma =>
    have HF:=hid (k0F h_sub);have d_kind:(a.kind == b.kind)=true:=h_kind;have d_client:(a.client == b.client)=true:=h_client;have E_sub:=fun W=>a0P W a.sub b.sub ha.sub hb.sub;rw [h_sub] at E_sub;have Z0_sub:(prog.info? 40).map (·.size)=some (subC a.sub).length:=by rw [a0h ha.sub];exact sizeSub
    have Z1_sub:(prog.info? 40).map (·.size)=some (subC b.sub).length:=by rw [a0h hb.sub];exact sizeSub
    clear h_kind h_client h_sub;clear ha hb;generalize subC a.sub=A_sub at *;generalize subC b.sub=B_sub at *
    go_wp2_with (first | ((with_reducible refine a0d 40 (.tmp 18) ?_ g0 2 ?_ ?_ A_sub _ s0_sub.out underlying40 ?_ Z0_sub ?_);iterate 4 exact rfl) | ((with_reducible refine a0d 40 (.tmp 20) ?_ g1 2 ?_ ?_ B_sub _ s1_sub.out underlying40 ?_ Z1_sub ?_);iterate 4 exact rfl))
    go_ret;exact ⟨by rw [HF.out];rfl,HB0.out⟩
   | true =>
    cases h_rep:b0Y a.rep b.rep with
    | false=>as_aux_lemma =>
     have HF:=hid (k0G h_rep);have d_kind:(a.kind == b.kind)=true:=h_kind;have d_client:(a.client == b.client)=true:=h_client;have E_sub:=fun W=>a0P W a.sub b.sub ha.sub hb.sub;rw [h_sub] at E_sub;have Z0_sub:(prog.info? 40).map (·.size)=some (subC a.sub).length:=by rw [a0h ha.sub];exact sizeSub
     have Z1_sub:(prog.info? 40).map (·.size)=some (subC b.sub).length:=by rw [a0h hb.sub];exact sizeSub
     have K_rep:=hid (fun (W:World) (h1:a0g W (.slice pa a.rep.pend.length capa) a.rep.pend) (h2:a0g W (.slice qa b.rep.pend.length capb) b.rep.pend)=>b0y ha.rep hb.rep h1 h2 hmx);rw [h_rep] at K_rep;have Z0_rep:(prog.info? 44).map (·.size)=some (repC a.rep (.slice pa a.rep.pend.length capa)).length:=by rw [a0j ha.rep _];exact sizeRep
     have Z1_rep:(prog.info? 44).map (·.size)=some (repC b.rep (.slice qa b.rep.pend.length capb)).length:=by rw [a0j hb.rep _];exact sizeRep
     clear h_kind h_client h_sub h_rep;clear ha hb;generalize subC a.sub=A_sub at *;generalize subC b.sub=B_sub at *;generalize repC a.rep (.slice pa a.rep.pend.length capa)=A_rep at *;generalize repC b.rep (.slice qa b.rep.pend.length capb)=B_rep at *
     go_wp2_with (first | ((with_reducible refine a0d 40 (.tmp 18) ?_ g0 2 ?_ ?_ A_sub _ s0_sub.out underlying40 ?_ Z0_sub ?_);iterate 4 exact rfl) | ((with_reducible refine a0d 40 (.tmp 20) ?_ g1 2 ?_ ?_ B_sub _ s1_sub.out underlying40 ?_ Z1_sub ?_);iterate 4 exact rfl) | ((with_reducible refine a0d 44 (.tmp 25) ?_ g0 70 ?_ ?_ A_rep _ s0_rep.out underlying44 ?_ Z0_rep ?_);iterate 4 exact rfl) | ((with_reducible refine a0d 44 (.tmp 27) ?_ g1 70 ?_ ?_ B_rep _ s1_rep.out underlying44 ?_ Z1_rep ?_);iterate 4 exact rfl))
     refine (K_rep.out _ HP.out HQ.out).mono ?_;rintro e w1 ⟨rfl,hb1⟩;have HB1:=hid (a0b HB0.out hb1);clear hb1;go_wp2;go_ret;exact ⟨by rw [HF.out];rfl,HB1.out⟩
    | true =>
     cases h_view:(a.view == b.view) with
     | false=>as_aux_lemma =>
      have HF:=hid (i0F h_view);have d_kind:(a.kind == b.kind)=true:=h_kind;have d_client:(a.client == b.client)=true:=h_client;have E_sub:=fun W=>a0P W a.sub b.sub ha.sub hb.sub;rw [h_sub] at E_sub;have Z0_sub:(prog.info? 40).map (·.size)=some (subC a.sub).length:=by rw [a0h ha.sub];exact sizeSub
      have Z1_sub:(prog.info? 40).map (·.size)=some (subC b.sub).length:=by rw [a0h hb.sub];exact sizeSub
      have K_rep:=hid (fun (W:World) (h1:a0g W (.slice pa a.rep.pend.length capa) a.rep.pend) (h2:a0g W (.slice qa b.rep.pend.length capb) b.rep.pend)=>b0y ha.rep hb.rep h1 h2 hmx);rw [h_rep] at K_rep;have Z0_rep:(prog.info? 44).map (·.size)=some (repC a.rep (.slice pa a.rep.pend.length capa)).length:=by rw [a0j ha.rep _];exact sizeRep
      have Z1_rep:(prog.info? 44).map (·.size)=some (repC b.rep (.slice qa b.rep.pend.length capb)).length:=by rw [a0j hb.rep _];exact sizeRep
      have d_view:¬ a.view=b.view:=by simpa using h_view
      clear h_kind h_client h_sub h_rep h_view;have HFx:Hid (∀ W,Below W0.heap.size W0 W->W.heap[g0]? = some (.cells (msgC a (.slice pa a.rep.pend.length capa) vN).toArray 80)/\W.heap[g1]? = some (.cells (msgC b (.slice qa b.rep.pend.length capb) vM).toArray 80)):=fun W hb=>⟨a0a Q0.out hb,a0a Q1.out hb⟩;clear Q0 Q1;obtain ⟨LA,hLA⟩:∃ LA,LA=msgC a (.slice pa a.rep.pend.length capa) vN:=⟨_,rfl⟩;obtain ⟨LB,hLB⟩:∃ LB,LB=msgC b (.slice qa b.rep.pend.length capb) vM:=⟨_,rfl⟩;rw [← hLA,← hLB] at HFx;have HLA:=hid hLA;have HLB:=hid hLB;clear hLA hLB ha hb;generalize subC a.sub=A_sub at *;generalize subC b.sub=B_sub at *;generalize repC a.rep (.slice pa a.rep.pend.length capa)=A_rep at *;generalize repC b.rep (.slice qa b.rep.pend.length capb)=B_rep at *
      go_wp2_with (first | ((with_reducible refine a0d 40 (.tmp 18) ?_ g0 2 ?_ ?_ A_sub _ s0_sub.out underlying40 ?_ Z0_sub ?_);iterate 4 exact rfl) | ((with_reducible refine a0d 40 (.tmp 20) ?_ g1 2 ?_ ?_ B_sub _ s1_sub.out underlying40 ?_ Z1_sub ?_);iterate 4 exact rfl) | ((with_reducible refine a0d 44 (.tmp 25) ?_ g0 70 ?_ ?_ A_rep _ s0_rep.out underlying44 ?_ Z0_rep ?_);iterate 4 exact rfl) | ((with_reducible refine a0d 44 (.tmp 27) ?_ g1 70 ?_ ?_ B_rep _ s1_rep.out underlying44 ?_ Z1_rep ?_);iterate 4 exact rfl))
      refine (K_rep.out _ HP.out HQ.out).mono ?_;rintro e w1 ⟨rfl,hb1⟩;have HB1:=hid (a0b HB0.out hb1);have ha:=HA.out;have hb:=HBw.out;obtain ⟨q0,q1⟩:=HFx.out _ hb1;rw [HLA.out] at q0;rw [HLB.out] at q1;have HN1:=hid (HN.out.kept hb1);have HM1:=hid (HM.out.kept hb1);have c0_view:=a0y q0 ha;have c1_view:=a0y q1 hb;clear hb1 ha hb q0 q1 HFx HLA HLB s0_sub s1_sub s0_rep s1_rep E_sub Z0_sub Z1_sub Z0_rep Z1_rep c0_kind c1_kind c0_client c1_client;go_wp2;go_ret;exact ⟨by rw [HF.out];rfl,HB1.out⟩
     | true =>
      cases h_who:(a.who == b.who) with
      | false=>as_aux_lemma =>
       have HF:=hid (k0H h_who);have d_kind:(a.kind == b.kind)=true:=h_kind;have d_client:(a.client == b.client)=true:=h_client;have E_sub:=fun W=>a0P W a.sub b.sub ha.sub hb.sub;rw [h_sub] at E_sub;have Z0_sub:(prog.info? 40).map (·.size)=some (subC a.sub).length:=by rw [a0h ha.sub];exact sizeSub
       have Z1_sub:(prog.info? 40).map (·.size)=some (subC b.sub).length:=by rw [a0h hb.sub];exact sizeSub
       have K_rep:=hid (fun (W:World) (h1:a0g W (.slice pa a.rep.pend.length capa) a.rep.pend) (h2:a0g W (.slice qa b.rep.pend.length capb) b.rep.pend)=>b0y ha.rep hb.rep h1 h2 hmx);rw [h_rep] at K_rep;have Z0_rep:(prog.info? 44).map (·.size)=some (repC a.rep (.slice pa a.rep.pend.length capa)).length:=by rw [a0j ha.rep _];exact sizeRep
       have Z1_rep:(prog.info? 44).map (·.size)=some (repC b.rep (.slice qa b.rep.pend.length capb)).length:=by rw [a0j hb.rep _];exact sizeRep
       have d_view:a.view=b.view:=by simpa using h_view
       have d_who:(a.who == b.who)=false:=h_who;clear h_kind h_client h_sub h_rep h_view h_who;have HFx:Hid (∀ W,Below W0.heap.size W0 W->W.heap[g0]? = some (.cells (msgC a (.slice pa a.rep.pend.length capa) vN).toArray 80)/\W.heap[g1]? = some (.cells (msgC b (.slice qa b.rep.pend.length capb) vM).toArray 80)):=fun W hb=>⟨a0a Q0.out hb,a0a Q1.out hb⟩;clear Q0 Q1;obtain ⟨LA,hLA⟩:∃ LA,LA=msgC a (.slice pa a.rep.pend.length capa) vN:=⟨_,rfl⟩;obtain ⟨LB,hLB⟩:∃ LB,LB=msgC b (.slice qa b.rep.pend.length capb) vM:=⟨_,rfl⟩;rw [← hLA,← hLB] at HFx;have HLA:=hid hLA;have HLB:=hid hLB;clear hLA hLB ha hb;generalize subC a.sub=A_sub at *;generalize subC b.sub=B_sub at *;generalize repC a.rep (.slice pa a.rep.pend.length capa)=A_rep at *;generalize repC b.rep (.slice qa b.rep.pend.length capb)=B_rep at *
       go_wp2_with (first | ((with_reducible refine a0d 40 (.tmp 18) ?_ g0 2 ?_ ?_ A_sub _ s0_sub.out underlying40 ?_ Z0_sub ?_);iterate 4 exact rfl) | ((with_reducible refine a0d 40 (.tmp 20) ?_ g1 2 ?_ ?_ B_sub _ s1_sub.out underlying40 ?_ Z1_sub ?_);iterate 4 exact rfl) | ((with_reducible refine a0d 44 (.tmp 25) ?_ g0 70 ?_ ?_ A_rep _ s0_rep.out underlying44 ?_ Z0_rep ?_);iterate 4 exact rfl) | ((with_reducible refine a0d 44 (.tmp 27) ?_ g1 70 ?_ ?_ B_rep _ s1_rep.out underlying44 ?_ Z1_rep ?_);iterate 4 exact rfl))
       refine (K_rep.out _ HP.out HQ.out).mono ?_;rintro e w1 ⟨rfl,hb1⟩;have HB1:=hid (a0b HB0.out hb1);have ha:=HA.out;have hb:=HBw.out;obtain ⟨q0,q1⟩:=HFx.out _ hb1;rw [HLA.out] at q0;rw [HLB.out] at q1;have HN1:=hid (HN.out.kept hb1);have HM1:=hid (HM.out.kept hb1);have c0_view:=a0y q0 ha;have c0_who:=a0J q0 ha;have c1_view:=a0y q1 hb;have c1_who:=a0J q1 hb;clear hb1 ha hb q0 q1 HFx HLA HLB s0_sub s1_sub s0_rep s1_rep E_sub Z0_sub Z1_sub Z0_rep Z1_rep c0_kind c1_kind c0_client c1_client;go_wp2;go_ret;exact ⟨by rw [HF.out];rfl,HB1.out⟩
      | true =>
       cases h_tag:(a.tag == b.tag) with
       | false=>as_aux_lemma =>
        have HF:=hid (k0I h_tag);have d_kind:(a.kind == b.kind)=true:=h_kind;have d_client:(a.client == b.client)=true:=h_client;have E_sub:=fun W=>a0P W a.sub b.sub ha.sub hb.sub;rw [h_sub] at E_sub;have Z0_sub:(prog.info? 40).map (·.size)=some (subC a.sub).length:=by rw [a0h ha.sub];exact sizeSub
        have Z1_sub:(prog.info? 40).map (·.size)=some (subC b.sub).length:=by rw [a0h hb.sub];exact sizeSub
        have K_rep:=hid (fun (W:World) (h1:a0g W (.slice pa a.rep.pend.length capa) a.rep.pend) (h2:a0g W (.slice qa b.rep.pend.length capb) b.rep.pend)=>b0y ha.rep hb.rep h1 h2 hmx);rw [h_rep] at K_rep;have Z0_rep:(prog.info? 44).map (·.size)=some (repC a.rep (.slice pa a.rep.pend.length capa)).length:=by rw [a0j ha.rep _];exact sizeRep
        have Z1_rep:(prog.info? 44).map (·.size)=some (repC b.rep (.slice qa b.rep.pend.length capb)).length:=by rw [a0j hb.rep _];exact sizeRep
        have d_view:a.view=b.view:=by simpa using h_view
        have d_who:(a.who == b.who)=true:=h_who;have E_tag:=fun W=>a0m W a.tag b.tag ha.tag hb.tag;rw [h_tag] at E_tag;have Z0_tag:(prog.info? 38).map (·.size)=some (dg a.tag).length:=by rw [(by rw [a0e,ha.tag]:(dg a.tag).length=32)];exact sizeDig
        have Z1_tag:(prog.info? 38).map (·.size)=some (dg b.tag).length:=by rw [(by rw [a0e,hb.tag]:(dg b.tag).length=32)];exact sizeDig
        clear h_kind h_client h_sub h_rep h_view h_who h_tag;have HFx:Hid (∀ W,Below W0.heap.size W0 W->W.heap[g0]? = some (.cells (msgC a (.slice pa a.rep.pend.length capa) vN).toArray 80)/\W.heap[g1]? = some (.cells (msgC b (.slice qa b.rep.pend.length capb) vM).toArray 80)):=fun W hb=>⟨a0a Q0.out hb,a0a Q1.out hb⟩;clear Q0 Q1;obtain ⟨LA,hLA⟩:∃ LA,LA=msgC a (.slice pa a.rep.pend.length capa) vN:=⟨_,rfl⟩;obtain ⟨LB,hLB⟩:∃ LB,LB=msgC b (.slice qa b.rep.pend.length capb) vM:=⟨_,rfl⟩;rw [← hLA,← hLB] at HFx;have HLA:=hid hLA;have HLB:=hid hLB;clear hLA hLB ha hb;generalize subC a.sub=A_sub at *;generalize subC b.sub=B_sub at *;generalize repC a.rep (.slice pa a.rep.pend.length capa)=A_rep at *;generalize repC b.rep (.slice qa b.rep.pend.length capb)=B_rep at *
        go_wp2_with (first | ((with_reducible refine a0d 40 (.tmp 18) ?_ g0 2 ?_ ?_ A_sub _ s0_sub.out underlying40 ?_ Z0_sub ?_);iterate 4 exact rfl) | ((with_reducible refine a0d 40 (.tmp 20) ?_ g1 2 ?_ ?_ B_sub _ s1_sub.out underlying40 ?_ Z1_sub ?_);iterate 4 exact rfl) | ((with_reducible refine a0d 44 (.tmp 25) ?_ g0 70 ?_ ?_ A_rep _ s0_rep.out underlying44 ?_ Z0_rep ?_);iterate 4 exact rfl) | ((with_reducible refine a0d 44 (.tmp 27) ?_ g1 70 ?_ ?_ B_rep _ s1_rep.out underlying44 ?_ Z1_rep ?_);iterate 4 exact rfl))
        refine (K_rep.out _ HP.out HQ.out).mono ?_;rintro e w1 ⟨rfl,hb1⟩;have HB1:=hid (a0b HB0.out hb1);have ha:=HA.out;have hb:=HBw.out;obtain ⟨q0,q1⟩:=HFx.out _ hb1;rw [HLA.out] at q0;rw [HLB.out] at q1;have HN1:=hid (HN.out.kept hb1);have HM1:=hid (HM.out.kept hb1);have c0_view:=a0y q0 ha;have c0_who:=a0J q0 ha;have s0_tag:=hid (b0j q0 ha);have c1_view:=a0y q1 hb;have c1_who:=a0J q1 hb;have s1_tag:=hid (b0j q1 hb);clear hb1 ha hb q0 q1 HFx HLA HLB s0_sub s1_sub s0_rep s1_rep E_sub Z0_sub Z1_sub Z0_rep Z1_rep c0_kind c1_kind c0_client c1_client;generalize dg a.tag=A_tag at *;generalize dg b.tag=B_tag at *
        go_wp2_with (first | ((with_reducible refine a0d 38 (.tmp 46) ?_ g0 175 ?_ ?_ A_tag _ s0_tag.out underlying38 ?_ Z0_tag ?_);iterate 4 exact rfl) | ((with_reducible refine a0d 38 (.tmp 48) ?_ g1 175 ?_ ?_ B_tag _ s1_tag.out underlying38 ?_ Z1_tag ?_);iterate 4 exact rfl))
        go_ret;exact ⟨by rw [HF.out];rfl,HB1.out⟩
       | true =>
        cases h_own:(a.own == b.own) with
        | false=>as_aux_lemma =>
         have HF:=hid (k0J h_own);have d_kind:(a.kind == b.kind)=true:=h_kind;have d_client:(a.client == b.client)=true:=h_client;have E_sub:=fun W=>a0P W a.sub b.sub ha.sub hb.sub;rw [h_sub] at E_sub;have Z0_sub:(prog.info? 40).map (·.size)=some (subC a.sub).length:=by rw [a0h ha.sub];exact sizeSub
         have Z1_sub:(prog.info? 40).map (·.size)=some (subC b.sub).length:=by rw [a0h hb.sub];exact sizeSub
         have K_rep:=hid (fun (W:World) (h1:a0g W (.slice pa a.rep.pend.length capa) a.rep.pend) (h2:a0g W (.slice qa b.rep.pend.length capb) b.rep.pend)=>b0y ha.rep hb.rep h1 h2 hmx);rw [h_rep] at K_rep;have Z0_rep:(prog.info? 44).map (·.size)=some (repC a.rep (.slice pa a.rep.pend.length capa)).length:=by rw [a0j ha.rep _];exact sizeRep
         have Z1_rep:(prog.info? 44).map (·.size)=some (repC b.rep (.slice qa b.rep.pend.length capb)).length:=by rw [a0j hb.rep _];exact sizeRep
         have d_view:a.view=b.view:=by simpa using h_view
         have d_who:(a.who == b.who)=true:=h_who;have E_tag:=fun W=>a0m W a.tag b.tag ha.tag hb.tag;rw [h_tag] at E_tag;have Z0_tag:(prog.info? 38).map (·.size)=some (dg a.tag).length:=by rw [(by rw [a0e,ha.tag]:(dg a.tag).length=32)];exact sizeDig
         have Z1_tag:(prog.info? 38).map (·.size)=some (dg b.tag).length:=by rw [(by rw [a0e,hb.tag]:(dg b.tag).length=32)];exact sizeDig
         have E_own:=fun W=>a0m W a.own b.own ha.own hb.own;rw [h_own] at E_own;have Z0_own:(prog.info? 38).map (·.size)=some (dg a.own).length:=by rw [(by rw [a0e,ha.own]:(dg a.own).length=32)];exact sizeDig
         have Z1_own:(prog.info? 38).map (·.size)=some (dg b.own).length:=by rw [(by rw [a0e,hb.own]:(dg b.own).length=32)];exact sizeDig
         clear h_kind h_client h_sub h_rep h_view h_who h_tag h_own;have HFx:Hid (∀ W,Below W0.heap.size W0 W->W.heap[g0]? = some (.cells (msgC a (.slice pa a.rep.pend.length capa) vN).toArray 80)/\W.heap[g1]? = some (.cells (msgC b (.slice qa b.rep.pend.length capb) vM).toArray 80)):=fun W hb=>⟨a0a Q0.out hb,a0a Q1.out hb⟩;clear Q0 Q1;obtain ⟨LA,hLA⟩:∃ LA,LA=msgC a (.slice pa a.rep.pend.length capa) vN:=⟨_,rfl⟩;obtain ⟨LB,hLB⟩:∃ LB,LB=msgC b (.slice qa b.rep.pend.length capb) vM:=⟨_,rfl⟩;rw [← hLA,← hLB] at HFx;have HLA:=hid hLA;have HLB:=hid hLB;clear hLA hLB ha hb;generalize subC a.sub=A_sub at *;generalize subC b.sub=B_sub at *;generalize repC a.rep (.slice pa a.rep.pend.length capa)=A_rep at *;generalize repC b.rep (.slice qa b.rep.pend.length capb)=B_rep at *
         go_wp2_with (first | ((with_reducible refine a0d 40 (.tmp 18) ?_ g0 2 ?_ ?_ A_sub _ s0_sub.out underlying40 ?_ Z0_sub ?_);iterate 4 exact rfl) | ((with_reducible refine a0d 40 (.tmp 20) ?_ g1 2 ?_ ?_ B_sub _ s1_sub.out underlying40 ?_ Z1_sub ?_);iterate 4 exact rfl) | ((with_reducible refine a0d 44 (.tmp 25) ?_ g0 70 ?_ ?_ A_rep _ s0_rep.out underlying44 ?_ Z0_rep ?_);iterate 4 exact rfl) | ((with_reducible refine a0d 44 (.tmp 27) ?_ g1 70 ?_ ?_ B_rep _ s1_rep.out underlying44 ?_ Z1_rep ?_);iterate 4 exact rfl))
         refine (K_rep.out _ HP.out HQ.out).mono ?_;rintro e w1 ⟨rfl,hb1⟩;have HB1:=hid (a0b HB0.out hb1);have ha:=HA.out;have hb:=HBw.out;obtain ⟨q0,q1⟩:=HFx.out _ hb1;rw [HLA.out] at q0;rw [HLB.out] at q1;have HN1:=hid (HN.out.kept hb1);have HM1:=hid (HM.out.kept hb1);have c0_view:=a0y q0 ha;have c0_who:=a0J q0 ha;have s0_tag:=hid (b0j q0 ha);have s0_own:=hid (b0A q0 ha);have c1_view:=a0y q1 hb;have c1_who:=a0J q1 hb;have s1_tag:=hid (b0j q1 hb);have s1_own:=hid (b0A q1 hb);clear hb1 ha hb q0 q1 HFx HLA HLB s0_sub s1_sub s0_rep s1_rep E_sub Z0_sub Z1_sub Z0_rep Z1_rep c0_kind c1_kind c0_client c1_client;generalize dg a.tag=A_tag at *;generalize dg b.tag=B_tag at *;generalize dg a.own=A_own at *;generalize dg b.own=B_own at *
         go_wp2_with (first | ((with_reducible refine a0d 38 (.tmp 46) ?_ g0 175 ?_ ?_ A_tag _ s0_tag.out underlying38 ?_ Z0_tag ?_);iterate 4 exact rfl) | ((with_reducible refine a0d 38 (.tmp 48) ?_ g1 175 ?_ ?_ B_tag _ s1_tag.out underlying38 ?_ Z1_tag ?_);iterate 4 exact rfl) | ((with_reducible refine a0d 38 (.tmp 53) ?_ g0 207 ?_ ?_ A_own _ s0_own.out underlying38 ?_ Z0_own ?_);iterate 4 exact rfl) | ((with_reducible refine a0d 38 (.tmp 55) ?_ g1 207 ?_ ?_ B_own _ s1_own.out underlying38 ?_ Z1_own ?_);iterate 4 exact rfl))
         go_ret;exact ⟨by rw [HF.out];rfl,HB1.out⟩
        | true =>
         cases h_blob:j0n a.blob b.blob with
         | false=>as_aux_lemma =>
          have HF:=hid (i0G h_blob);have d_kind:(a.kind == b.kind)=true:=h_kind;have d_client:(a.client == b.client)=true:=h_client;have E_sub:=fun W=>a0P W a.sub b.sub ha.sub hb.sub;rw [h_sub] at E_sub;have Z0_sub:(prog.info? 40).map (·.size)=some (subC a.sub).length:=by rw [a0h ha.sub];exact sizeSub
          have Z1_sub:(prog.info? 40).map (·.size)=some (subC b.sub).length:=by rw [a0h hb.sub];exact sizeSub
          have K_rep:=hid (fun (W:World) (h1:a0g W (.slice pa a.rep.pend.length capa) a.rep.pend) (h2:a0g W (.slice qa b.rep.pend.length capb) b.rep.pend)=>b0y ha.rep hb.rep h1 h2 hmx);rw [h_rep] at K_rep;have Z0_rep:(prog.info? 44).map (·.size)=some (repC a.rep (.slice pa a.rep.pend.length capa)).length:=by rw [a0j ha.rep _];exact sizeRep
          have Z1_rep:(prog.info? 44).map (·.size)=some (repC b.rep (.slice qa b.rep.pend.length capb)).length:=by rw [a0j hb.rep _];exact sizeRep
          have d_view:a.view=b.view:=by simpa using h_view
          have d_who:(a.who == b.who)=true:=h_who;have E_tag:=fun W=>a0m W a.tag b.tag ha.tag hb.tag;rw [h_tag] at E_tag;have Z0_tag:(prog.info? 38).map (·.size)=some (dg a.tag).length:=by rw [(by rw [a0e,ha.tag]:(dg a.tag).length=32)];exact sizeDig
          have Z1_tag:(prog.info? 38).map (·.size)=some (dg b.tag).length:=by rw [(by rw [a0e,hb.tag]:(dg b.tag).length=32)];exact sizeDig
          have E_own:=fun W=>a0m W a.own b.own ha.own hb.own;rw [h_own] at E_own;have Z0_own:(prog.info? 38).map (·.size)=some (dg a.own).length:=by rw [(by rw [a0e,ha.own]:(dg a.own).length=32)];exact sizeDig
          have Z1_own:(prog.info? 38).map (·.size)=some (dg b.own).length:=by rw [(by rw [a0e,hb.own]:(dg b.own).length=32)];exact sizeDig
          have E_blob:=fun W=>d0Y W a.blob b.blob ha.blob hb.blob;rw [h_blob] at E_blob;have Z0_blob:(prog.info? 78).map (·.size)=some (bloC a.blob).length:=by rw [a0S ha.blob];exact sizeBlo
          have Z1_blob:(prog.info? 78).map (·.size)=some (bloC b.blob).length:=by rw [a0S hb.blob];exact sizeBlo
          clear h_kind h_client h_sub h_rep h_view h_who h_tag h_own h_blob;have HFx:Hid (∀ W,Below W0.heap.size W0 W->W.heap[g0]? = some (.cells (msgC a (.slice pa a.rep.pend.length capa) vN).toArray 80)/\W.heap[g1]? = some (.cells (msgC b (.slice qa b.rep.pend.length capb) vM).toArray 80)):=fun W hb=>⟨a0a Q0.out hb,a0a Q1.out hb⟩;clear Q0 Q1;obtain ⟨LA,hLA⟩:∃ LA,LA=msgC a (.slice pa a.rep.pend.length capa) vN:=⟨_,rfl⟩;obtain ⟨LB,hLB⟩:∃ LB,LB=msgC b (.slice qa b.rep.pend.length capb) vM:=⟨_,rfl⟩;rw [← hLA,← hLB] at HFx;have HLA:=hid hLA;have HLB:=hid hLB;clear hLA hLB ha hb;generalize subC a.sub=A_sub at *;generalize subC b.sub=B_sub at *;generalize repC a.rep (.slice pa a.rep.pend.length capa)=A_rep at *;generalize repC b.rep (.slice qa b.rep.pend.length capb)=B_rep at *
          go_wp2_with (first | ((with_reducible refine a0d 40 (.tmp 18) ?_ g0 2 ?_ ?_ A_sub _ s0_sub.out underlying40 ?_ Z0_sub ?_);iterate 4 exact rfl) | ((with_reducible refine a0d 40 (.tmp 20) ?_ g1 2 ?_ ?_ B_sub _ s1_sub.out underlying40 ?_ Z1_sub ?_);iterate 4 exact rfl) | ((with_reducible refine a0d 44 (.tmp 25) ?_ g0 70 ?_ ?_ A_rep _ s0_rep.out underlying44 ?_ Z0_rep ?_);iterate 4 exact rfl) | ((with_reducible refine a0d 44 (.tmp 27) ?_ g1 70 ?_ ?_ B_rep _ s1_rep.out underlying44 ?_ Z1_rep ?_);iterate 4 exact rfl))
          refine (K_rep.out _ HP.out HQ.out).mono ?_;rintro e w1 ⟨rfl,hb1⟩;have HB1:=hid (a0b HB0.out hb1);have ha:=HA.out;have hb:=HBw.out;obtain ⟨q0,q1⟩:=HFx.out _ hb1;rw [HLA.out] at q0;rw [HLB.out] at q1;have HN1:=hid (HN.out.kept hb1);have HM1:=hid (HM.out.kept hb1);have c0_view:=a0y q0 ha;have c0_who:=a0J q0 ha;have s0_tag:=hid (b0j q0 ha);have s0_own:=hid (b0A q0 ha);have s0_blob:=hid (b0w q0 ha);have c1_view:=a0y q1 hb;have c1_who:=a0J q1 hb;have s1_tag:=hid (b0j q1 hb);have s1_own:=hid (b0A q1 hb);have s1_blob:=hid (b0w q1 hb);clear hb1 ha hb q0 q1 HFx HLA HLB s0_sub s1_sub s0_rep s1_rep E_sub Z0_sub Z1_sub Z0_rep Z1_rep c0_kind c1_kind c0_client c1_client;generalize dg a.tag=A_tag at *;generalize dg b.tag=B_tag at *;generalize dg a.own=A_own at *;generalize dg b.own=B_own at *;generalize bloC a.blob=A_blob at *;generalize bloC b.blob=B_blob at *
          go_wp2_with (first | ((with_reducible refine a0d 38 (.tmp 46) ?_ g0 175 ?_ ?_ A_tag _ s0_tag.out underlying38 ?_ Z0_tag ?_);iterate 4 exact rfl) | ((with_reducible refine a0d 38 (.tmp 48) ?_ g1 175 ?_ ?_ B_tag _ s1_tag.out underlying38 ?_ Z1_tag ?_);iterate 4 exact rfl) | ((with_reducible refine a0d 38 (.tmp 53) ?_ g0 207 ?_ ?_ A_own _ s0_own.out underlying38 ?_ Z0_own ?_);iterate 4 exact rfl) | ((with_reducible refine a0d 38 (.tmp 55) ?_ g1 207 ?_ ?_ B_own _ s1_own.out underlying38 ?_ Z1_own ?_);iterate 4 exact rfl) | ((with_reducible refine a0d 78 (.tmp 60) ?_ g0 239 ?_ ?_ A_blob _ s0_blob.out underlying78 ?_ Z0_blob ?_);iterate 4 exact rfl) | ((with_reducible refine a0d 78 (.tmp 62) ?_ g1 239 ?_ ?_ B_blob _ s1_blob.out underlying78 ?_ Z1_blob ?_);iterate 4 exact rfl))
          go_ret;exact ⟨by rw [HF.out];rfl,HB1.out⟩
         | true =>
          cases h_nums:(a.nums == b.nums) with
          | false=>as_aux_lemma =>
           have HF:=hid (i0H h_nums);have d_kind:(a.kind == b.kind)=true:=h_kind;have d_client:(a.client == b.client)=true:=h_client;have E_sub:=fun W=>a0P W a.sub b.sub ha.sub hb.sub;rw [h_sub] at E_sub;have Z0_sub:(prog.info? 40).map (·.size)=some (subC a.sub).length:=by rw [a0h ha.sub];exact sizeSub
           have Z1_sub:(prog.info? 40).map (·.size)=some (subC b.sub).length:=by rw [a0h hb.sub];exact sizeSub
           have K_rep:=hid (fun (W:World) (h1:a0g W (.slice pa a.rep.pend.length capa) a.rep.pend) (h2:a0g W (.slice qa b.rep.pend.length capb) b.rep.pend)=>b0y ha.rep hb.rep h1 h2 hmx);rw [h_rep] at K_rep;have Z0_rep:(prog.info? 44).map (·.size)=some (repC a.rep (.slice pa a.rep.pend.length capa)).length:=by rw [a0j ha.rep _];exact sizeRep
           have Z1_rep:(prog.info? 44).map (·.size)=some (repC b.rep (.slice qa b.rep.pend.length capb)).length:=by rw [a0j hb.rep _];exact sizeRep
           have d_view:a.view=b.view:=by simpa using h_view
           have d_who:(a.who == b.who)=true:=h_who;have E_tag:=fun W=>a0m W a.tag b.tag ha.tag hb.tag;rw [h_tag] at E_tag;have Z0_tag:(prog.info? 38).map (·.size)=some (dg a.tag).length:=by rw [(by rw [a0e,ha.tag]:(dg a.tag).length=32)];exact sizeDig
           have Z1_tag:(prog.info? 38).map (·.size)=some (dg b.tag).length:=by rw [(by rw [a0e,hb.tag]:(dg b.tag).length=32)];exact sizeDig
           have E_own:=fun W=>a0m W a.own b.own ha.own hb.own;rw [h_own] at E_own;have Z0_own:(prog.info? 38).map (·.size)=some (dg a.own).length:=by rw [(by rw [a0e,ha.own]:(dg a.own).length=32)];exact sizeDig
           have Z1_own:(prog.info? 38).map (·.size)=some (dg b.own).length:=by rw [(by rw [a0e,hb.own]:(dg b.own).length=32)];exact sizeDig
           have E_blob:=fun W=>d0Y W a.blob b.blob ha.blob hb.blob;rw [h_blob] at E_blob;have Z0_blob:(prog.info? 78).map (·.size)=some (bloC a.blob).length:=by rw [a0S ha.blob];exact sizeBlo
           have Z1_blob:(prog.info? 78).map (·.size)=some (bloC b.blob).length:=by rw [a0S hb.blob];exact sizeBlo
           have K_nums:=hid (fun (W:World) (h1:a0w W vN a.nums) (h2:a0w W vM b.nums)=>k0D h1 h2 hnx);rw [h_nums] at K_nums;clear h_kind h_client h_sub h_rep h_view h_who h_tag h_own h_blob h_nums;have HFx:Hid (∀ W,Below W0.heap.size W0 W->W.heap[g0]? = some (.cells (msgC a (.slice pa a.rep.pend.length capa) vN).toArray 80)/\W.heap[g1]? = some (.cells (msgC b (.slice qa b.rep.pend.length capb) vM).toArray 80)):=fun W hb=>⟨a0a Q0.out hb,a0a Q1.out hb⟩;clear Q0 Q1;obtain ⟨LA,hLA⟩:∃ LA,LA=msgC a (.slice pa a.rep.pend.length capa) vN:=⟨_,rfl⟩;obtain ⟨LB,hLB⟩:∃ LB,LB=msgC b (.slice qa b.rep.pend.length capb) vM:=⟨_,rfl⟩;rw [← hLA,← hLB] at HFx;have HLA:=hid hLA;have HLB:=hid hLB;clear hLA hLB ha hb;generalize subC a.sub=A_sub at *;generalize subC b.sub=B_sub at *;generalize repC a.rep (.slice pa a.rep.pend.length capa)=A_rep at *;generalize repC b.rep (.slice qa b.rep.pend.length capb)=B_rep at *
           go_wp2_with (first | ((with_reducible refine a0d 40 (.tmp 18) ?_ g0 2 ?_ ?_ A_sub _ s0_sub.out underlying40 ?_ Z0_sub ?_);iterate 4 exact rfl) | ((with_reducible refine a0d 40 (.tmp 20) ?_ g1 2 ?_ ?_ B_sub _ s1_sub.out underlying40 ?_ Z1_sub ?_);iterate 4 exact rfl) | ((with_reducible refine a0d 44 (.tmp 25) ?_ g0 70 ?_ ?_ A_rep _ s0_rep.out underlying44 ?_ Z0_rep ?_);iterate 4 exact rfl) | ((with_reducible refine a0d 44 (.tmp 27) ?_ g1 70 ?_ ?_ B_rep _ s1_rep.out underlying44 ?_ Z1_rep ?_);iterate 4 exact rfl))
           refine (K_rep.out _ HP.out HQ.out).mono ?_;rintro e w1 ⟨rfl,hb1⟩;have HB1:=hid (a0b HB0.out hb1);have ha:=HA.out;have hb:=HBw.out;obtain ⟨q0,q1⟩:=HFx.out _ hb1;rw [HLA.out] at q0;rw [HLB.out] at q1;have HN1:=hid (HN.out.kept hb1);have HM1:=hid (HM.out.kept hb1);have c0_view:=a0y q0 ha;have c0_who:=a0J q0 ha;have s0_tag:=hid (b0j q0 ha);have s0_own:=hid (b0A q0 ha);have s0_blob:=hid (b0w q0 ha);have c0_nums:=b0v q0 ha;have c1_view:=a0y q1 hb;have c1_who:=a0J q1 hb;have s1_tag:=hid (b0j q1 hb);have s1_own:=hid (b0A q1 hb);have s1_blob:=hid (b0w q1 hb);have c1_nums:=b0v q1 hb;clear hb1 ha hb q0 q1 HFx HLA HLB s0_sub s1_sub s0_rep s1_rep E_sub Z0_sub Z1_sub Z0_rep Z1_rep c0_kind c1_kind c0_client c1_client;generalize dg a.tag=A_tag at *;generalize dg b.tag=B_tag at *;generalize dg a.own=A_own at *;generalize dg b.own=B_own at *;generalize bloC a.blob=A_blob at *;generalize bloC b.blob=B_blob at *
           go_wp2_with (first | ((with_reducible refine a0d 38 (.tmp 46) ?_ g0 175 ?_ ?_ A_tag _ s0_tag.out underlying38 ?_ Z0_tag ?_);iterate 4 exact rfl) | ((with_reducible refine a0d 38 (.tmp 48) ?_ g1 175 ?_ ?_ B_tag _ s1_tag.out underlying38 ?_ Z1_tag ?_);iterate 4 exact rfl) | ((with_reducible refine a0d 38 (.tmp 53) ?_ g0 207 ?_ ?_ A_own _ s0_own.out underlying38 ?_ Z0_own ?_);iterate 4 exact rfl) | ((with_reducible refine a0d 38 (.tmp 55) ?_ g1 207 ?_ ?_ B_own _ s1_own.out underlying38 ?_ Z1_own ?_);iterate 4 exact rfl) | ((with_reducible refine a0d 78 (.tmp 60) ?_ g0 239 ?_ ?_ A_blob _ s0_blob.out underlying78 ?_ Z0_blob ?_);iterate 4 exact rfl) | ((with_reducible refine a0d 78 (.tmp 62) ?_ g1 239 ?_ ?_ B_blob _ s1_blob.out underlying78 ?_ Z1_blob ?_);iterate 4 exact rfl))
           refine (K_nums.out _ HN1.out HM1.out).mono ?_;rintro e w2 ⟨rfl,hb2⟩;have HB2:=hid (a0b HB1.out hb2);clear hb2;go_wp2;go_ret;exact ⟨by rw [HF.out];rfl,HB2.out⟩
          | true =>
           as_aux_lemma =>
           have HF:=hid (k0K h_kind h_client h_sub h_rep h_view h_who h_tag h_own h_blob h_nums);have d_kind:(a.kind == b.kind)=true:=h_kind;have d_client:(a.client == b.client)=true:=h_client;have E_sub:=fun W=>a0P W a.sub b.sub ha.sub hb.sub;rw [h_sub] at E_sub;have Z0_sub:(prog.info? 40).map (·.size)=some (subC a.sub).length:=by rw [a0h ha.sub];exact sizeSub
           have Z1_sub:(prog.info? 40).map (·.size)=some (subC b.sub).length:=by rw [a0h hb.sub];exact sizeSub
           have K_rep:=hid (fun (W:World) (h1:a0g W (.slice pa a.rep.pend.length capa) a.rep.pend) (h2:a0g W (.slice qa b.rep.pend.length capb) b.rep.pend)=>b0y ha.rep hb.rep h1 h2 hmx);rw [h_rep] at K_rep;have Z0_rep:(prog.info? 44).map (·.size)=some (repC a.rep (.slice pa a.rep.pend.length capa)).length:=by rw [a0j ha.rep _];exact sizeRep
           have Z1_rep:(prog.info? 44).map (·.size)=some (repC b.rep (.slice qa b.rep.pend.length capb)).length:=by rw [a0j hb.rep _];exact sizeRep
           have d_view:a.view=b.view:=by simpa using h_view
           have d_who:(a.who == b.who)=true:=h_who;have E_tag:=fun W=>a0m W a.tag b.tag ha.tag hb.tag;rw [h_tag] at E_tag;have Z0_tag:(prog.info? 38).map (·.size)=some (dg a.tag).length:=by rw [(by rw [a0e,ha.tag]:(dg a.tag).length=32)];exact sizeDig
           have Z1_tag:(prog.info? 38).map (·.size)=some (dg b.tag).length:=by rw [(by rw [a0e,hb.tag]:(dg b.tag).length=32)];exact sizeDig
           have E_own:=fun W=>a0m W a.own b.own ha.own hb.own;rw [h_own] at E_own;have Z0_own:(prog.info? 38).map (·.size)=some (dg a.own).length:=by rw [(by rw [a0e,ha.own]:(dg a.own).length=32)];exact sizeDig
           have Z1_own:(prog.info? 38).map (·.size)=some (dg b.own).length:=by rw [(by rw [a0e,hb.own]:(dg b.own).length=32)];exact sizeDig
           have E_blob:=fun W=>d0Y W a.blob b.blob ha.blob hb.blob;rw [h_blob] at E_blob;have Z0_blob:(prog.info? 78).map (·.size)=some (bloC a.blob).length:=by rw [a0S ha.blob];exact sizeBlo
           have Z1_blob:(prog.info? 78).map (·.size)=some (bloC b.blob).length:=by rw [a0S hb.blob];exact sizeBlo
           have K_nums:=hid (fun (W:World) (h1:a0w W vN a.nums) (h2:a0w W vM b.nums)=>k0D h1 h2 hnx);rw [h_nums] at K_nums;clear h_kind h_client h_sub h_rep h_view h_who h_tag h_own h_blob h_nums;have HFx:Hid (∀ W,Below W0.heap.size W0 W->W.heap[g0]? = some (.cells (msgC a (.slice pa a.rep.pend.length capa) vN).toArray 80)/\W.heap[g1]? = some (.cells (msgC b (.slice qa b.rep.pend.length capb) vM).toArray 80)):=fun W hb=>⟨a0a Q0.out hb,a0a Q1.out hb⟩;clear Q0 Q1;obtain ⟨LA,hLA⟩:∃ LA,LA=msgC a (.slice pa a.rep.pend.length capa) vN:=⟨_,rfl⟩;obtain ⟨LB,hLB⟩:∃ LB,LB=msgC b (.slice qa b.rep.pend.length capb) vM:=⟨_,rfl⟩;rw [← hLA,← hLB] at HFx;have HLA:=hid hLA;have HLB:=hid hLB;clear hLA hLB ha hb;generalize subC a.sub=A_sub at *;generalize subC b.sub=B_sub at *;generalize repC a.rep (.slice pa a.rep.pend.length capa)=A_rep at *;generalize repC b.rep (.slice qa b.rep.pend.length capb)=B_rep at *
           go_wp2_with (first | ((with_reducible refine a0d 40 (.tmp 18) ?_ g0 2 ?_ ?_ A_sub _ s0_sub.out underlying40 ?_ Z0_sub ?_);iterate 4 exact rfl) | ((with_reducible refine a0d 40 (.tmp 20) ?_ g1 2 ?_ ?_ B_sub _ s1_sub.out underlying40 ?_ Z1_sub ?_);iterate 4 exact rfl) | ((with_reducible refine a0d 44 (.tmp 25) ?_ g0 70 ?_ ?_ A_rep _ s0_rep.out underlying44 ?_ Z0_rep ?_);iterate 4 exact rfl) | ((with_reducible refine a0d 44 (.tmp 27) ?_ g1 70 ?_ ?_ B_rep _ s1_rep.out underlying44 ?_ Z1_rep ?_);iterate 4 exact rfl))
           refine (K_rep.out _ HP.out HQ.out).mono ?_;rintro e w1 ⟨rfl,hb1⟩;have HB1:=hid (a0b HB0.out hb1);have ha:=HA.out;have hb:=HBw.out;obtain ⟨q0,q1⟩:=HFx.out _ hb1;rw [HLA.out] at q0;rw [HLB.out] at q1;have HN1:=hid (HN.out.kept hb1);have HM1:=hid (HM.out.kept hb1);have c0_view:=a0y q0 ha;have c0_who:=a0J q0 ha;have s0_tag:=hid (b0j q0 ha);have s0_own:=hid (b0A q0 ha);have s0_blob:=hid (b0w q0 ha);have c0_nums:=b0v q0 ha;have c1_view:=a0y q1 hb;have c1_who:=a0J q1 hb;have s1_tag:=hid (b0j q1 hb);have s1_own:=hid (b0A q1 hb);have s1_blob:=hid (b0w q1 hb);have c1_nums:=b0v q1 hb;clear hb1 ha hb q0 q1 HFx HLA HLB s0_sub s1_sub s0_rep s1_rep E_sub Z0_sub Z1_sub Z0_rep Z1_rep c0_kind c1_kind c0_client c1_client;generalize dg a.tag=A_tag at *;generalize dg b.tag=B_tag at *;generalize dg a.own=A_own at *;generalize dg b.own=B_own at *;generalize bloC a.blob=A_blob at *;generalize bloC b.blob=B_blob at *
           go_wp2_with (first | ((with_reducible refine a0d 38 (.tmp 46) ?_ g0 175 ?_ ?_ A_tag _ s0_tag.out underlying38 ?_ Z0_tag ?_);iterate 4 exact rfl) | ((with_reducible refine a0d 38 (.tmp 48) ?_ g1 175 ?_ ?_ B_tag _ s1_tag.out underlying38 ?_ Z1_tag ?_);iterate 4 exact rfl) | ((with_reducible refine a0d 38 (.tmp 53) ?_ g0 207 ?_ ?_ A_own _ s0_own.out underlying38 ?_ Z0_own ?_);iterate 4 exact rfl) | ((with_reducible refine a0d 38 (.tmp 55) ?_ g1 207 ?_ ?_ B_own _ s1_own.out underlying38 ?_ Z1_own ?_);iterate 4 exact rfl) | ((with_reducible refine a0d 78 (.tmp 60) ?_ g0 239 ?_ ?_ A_blob _ s0_blob.out underlying78 ?_ Z0_blob ?_);iterate 4 exact rfl) | ((with_reducible refine a0d 78 (.tmp 62) ?_ g1 239 ?_ ?_ B_blob _ s1_blob.out underlying78 ?_ Z1_blob ?_);iterate 4 exact rfl))
           refine (K_nums.out _ HN1.out HM1.out).mono ?_;rintro e w2 ⟨rfl,hb2⟩;have HB2:=hid (a0b HB1.out hb2);clear hb2;go_wp2;go_ret;exact ⟨by rw [HF.out];rfl,HB2.out⟩
end Go.Proofs.YtagmnmoaekbffaaGreatDoor.Ms
