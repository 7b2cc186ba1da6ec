/- Tjre -/
import Derived.Test.YtagmnmoaekbffaaGreatDoorTjas
import Derived.Test.YtagmnmoaekbffaaGreatDoorThsr
set_option maxHeartbeats 8000000
namespace Go.Proofs.YtagmnmoaekbffaaGreatDoor.Ms
open Go.Proofs.Tryz
open Go Go.RowKit
set_option maxRecDepth 100000
def w0A:Prop:=∀ (h:List UInt8) (n:Int) (w:World),Calls prog 46 #[.string ⟨h.toArray⟩,.int .i64 n] w fun e w'=>e = .returned (.bool (Hist.rightB h n))/\w' = w
theorem q0Z (r:Rep) (j:Nat) (hj:j < r.pend.length) (h:penB (r.pend.getD j a0z)=false):repB r=false:=by
 unfold repB
 have:r.pend.all penB=false:=by
  rw [List.all_eq_false];refine ⟨r.pend.getD j a0z,?_,by rw [h];exact Bool.false_ne_true⟩;simp [List.getD,hj]
 rw [this];rfl
theorem r0a (r:Rep) (h:∀ j,j < r.pend.length->penB (r.pend.getD j a0z)=true):repB r=(e0u r && chainB r):=by
 unfold repB
 have:r.pend.all penB=true:=by
  rw [List.all_eq_true];intro p hp;obtain ⟨j,hj,rfl⟩:=List.getElem_of_mem hp;have:=h j hj;simpa [List.getD,hj] using this
 rw [this];rfl
theorem zeroPen:(prog.info? 57).map (·.zero)=some (some (.agg (penC ⟨0,0,0,0,List.replicate 32 0,List.replicate 32 0⟩).toArray)):=by kernel_rfl
theorem o0V (hG:w0A) {w:World} {r:Rep} {vP:Value} (hr:r.Wf) (hp:a0g w vP r.pend) (hmx:r.pend.length <= 9223372036854775807) :
  Calls prog 45 #[.agg (repC r vP).toArray] w fun e w'=>e = .returned (.bool (repB r))/\Below w.heap.size w w':=by
 have HB0:=hid (a0c w (.cells (repC r vP).toArray 44));have R0:=hid (a0f w (.cells (repC r vP).toArray 44));have HP:=hid (hp.kept HB0.out);obtain ⟨pa,cap,hpa,-⟩:=hp;subst hpa;have HBad:=hid (q0Z r);have HRest:=hid (r0a r);have HW:=hid hr;have HG:=hid hG;obtain ⟨L,hL⟩:∃ L,L=repC r (.slice pa r.pend.length cap):=⟨_,rfl⟩;rw [← hL] at HB0 R0 HP ⊢;have HL:=hid hL;obtain ⟨ZP,hZ⟩:∃ ZP:List Value,penC ⟨0,0,0,0,List.replicate 32 0,List.replicate 32 0⟩=ZP:=⟨_,rfl⟩;have hz:=zeroPen;have hzl:ZP.length=68:=by rw [← hZ];rfl
 rw [hZ] at hz;have HZ:=hid hz;have HZL:=hid hzl;clear hL hr hz hZ hzl hG;obtain ⟨RA,hRA⟩:∃ RA,RA=L.toArray:=⟨_,rfl⟩;rw [← hRA] at HB0 R0 HP ⊢;have HRA:=hid hRA;clear hRA;go_enter func45,ntmps45;go_upto_region 1 with fail
 generalize w.alloc (.cells RA 44)=W0 at *;obtain ⟨g0,hg0⟩:∃ g0,g0=w.heap.size:=⟨_,rfl⟩;rw [← hg0] at R0 ⊢;clear hg0
 have HRow:Hid (∀ W,Below W0.heap.size W0 W->W.heap[g0]? = some (.cells (repC r (.slice pa r.pend.length cap)).toArray 44)):=fun W hb=>by
  have h:=a0a R0.out hb;rw [HRA.out,HL.out] at h;exact h
 have HW0:=hid (Below.refl W0.heap.size W0);clear R0;go_wp2;go_loopw [3] (fun i w'=>∃ j:Nat,j <= r.pend.length/\i = .int .i64 j/\Hid (∀ k,k < j->penB (r.pend.getD k a0z)=true)/\Hid (Below W0.heap.size W0 w')) (fun i _=>r.pend.length - (intOf i).toNat)
 case atStart=>exact ⟨0,by omega,rfl,fun k hk=>absurd hk (Nat.not_lt_zero k),HW0.out⟩
 case round =>
  obtain ⟨j,hj,rfl,HN,HB⟩:=hrel;have q0:=HRow.out _ HB.out;have cP:=f0n q0 HW.out;have HBw:=hid (a0b HB0.out HB.out);by_cases hlt:j < r.pend.length
  ·have d1:decide ((j:Int) < (r.pend.length:Int))=true:=decide_eq_true (by omega)
   have d1':decide (j < r.pend.length)=true:=decide_eq_true hlt;obtain ⟨a',c',e',hc⟩:=HP.out.kept HB.out
   cases e'
   obtain ⟨b,off,rfl,hcc⟩:=hc (fun e=>by rw [e] at hlt;exact absurd hlt (Nat.not_lt_zero j));have wp:=e0F HW.out.pend j hlt;have S0:=hid (hcc j hlt);have Z0:(prog.info? 57).map (·.size)=some (penC (r.pend.getD j a0z)).length:=by rw [a0K wp];exact sizePen
   have hone:=hid (h0n (r.pend.getD j a0z));have hlen:ZP.length=(penC (r.pend.getD j a0z)).length:=by rw [a0K wp];exact HZL.out
   have HBt:=hid (a0c wr (.cells (penC (r.pend.getD j a0z)).toArray 57));have t0:=a0f wr (.cells (penC (r.pend.getD j a0z)).toArray 57);have c0:=d0z t0 wp;have c1:=d0A t0 wp;have c2:=h0m t0 wp;have c3:=f0v t0 wp;have HC:=hid (fun W=>a0Z (r.pend.getD j a0z).client 0 7 W);have ec:(decide (0 <= (r.pend.getD j a0z).client) && decide ((r.pend.getD j a0z).client <= 7))=inB (r.pend.getD j a0z).client 0 7:=rfl;rw [ec] at HC;have HK:=hid (fun W=>n0s (r.pend.getD j a0z).number (r.pend.getD j a0z).kind (r.pend.getD j a0z).target W);have hpb:penB (r.pend.getD j a0z)=(inB (r.pend.getD j a0z).client 0 7 && d0l (r.pend.getD j a0z).number (r.pend.getD j a0z).kind (r.pend.getD j a0z).target):=rfl;have HF:Hid (penB (r.pend.getD j a0z)=false->repB r=false):=HBad.out j hlt
   have hon:Hid (penB (r.pend.getD j a0z)=true->∀ k,k < j + 1->penB (r.pend.getD k a0z)=true):=fun h k hk=>by
    by_cases e:k=j
    ·rw [e];exact h
    ·exact HN.out k (by omega)
   rw [hpb] at HF hon;generalize inB (r.pend.getD j a0z).client 0 7=b1 at *;generalize d0l (r.pend.getD j a0z).number (r.pend.getD j a0z).kind (r.pend.getD j a0z).target=b2 at *;generalize (r.pend.getD j a0z).client=x0 at *;generalize (r.pend.getD j a0z).number=x1 at *;generalize (r.pend.getD j a0z).kind=x2 at *;generalize (r.pend.getD j a0z).target=x3 at *;have HBn:=hid (HB.out.trans (HBt.out.mono HB.out.size));have HBm:=hid (a0b HBw.out HBt.out);generalize penC (r.pend.getD j a0z)=PA at *;clear hc hcc wp t0 ec hpb HN HBad HRest HP q0 HG HL HRA HRow HW HB0 HW0
   cases b1 with
   | false=>as_aux_lemma =>
    have HF':=hid (HF.out rfl);clear HF hon
    go_wp2_with (first | ((with_reducible refine a0d 57 (.tmp 15) ?_ b (off + j * 68) ?_ ?_ PA _ S0.out underlying57 ?_ Z0 ?_);iterate 4 exact rfl) | ((with_reducible refine a0G 57 ?_ ?_ ZP.toArray HZ.out ?_);exact rfl;exact rfl) | ((with_reducible refine a0v 57 (.tmp 4) (.tmp 16) ?_ ?_ ?_ ?_ PA ZP ?_ 57 hlen hone.out Z0 ?_);exact rfl;iterate 4 exact rfl))
    refine (HC.out _).mono ?_;rintro e v ⟨rfl,hv⟩;subst v;go_wp2;go_ret;exact ⟨by rw [HF'.out];rfl,HBm.out⟩
   | true =>
    cases b2 with
    | false=>as_aux_lemma =>
     have HF':=hid (HF.out rfl);clear HF hon
     go_wp2_with (first | ((with_reducible refine a0d 57 (.tmp 15) ?_ b (off + j * 68) ?_ ?_ PA _ S0.out underlying57 ?_ Z0 ?_);iterate 4 exact rfl) | ((with_reducible refine a0G 57 ?_ ?_ ZP.toArray HZ.out ?_);exact rfl;exact rfl) | ((with_reducible refine a0v 57 (.tmp 4) (.tmp 16) ?_ ?_ ?_ ?_ PA ZP ?_ 57 hlen hone.out Z0 ?_);exact rfl;iterate 4 exact rfl))
     refine (HC.out _).mono ?_;rintro e v ⟨rfl,hv⟩;subst v
     go_wp2_with fail
     refine (HK.out _).mono ?_;rintro e v ⟨rfl,hv⟩;subst v;go_wp2;go_ret;exact ⟨by rw [HF'.out];rfl,HBm.out⟩
    | true=>as_aux_lemma =>
     have HN':=hid (hon.out rfl);clear HF hon
     go_wp2_with (first | ((with_reducible refine a0d 57 (.tmp 15) ?_ b (off + j * 68) ?_ ?_ PA _ S0.out underlying57 ?_ Z0 ?_);iterate 4 exact rfl) | ((with_reducible refine a0G 57 ?_ ?_ ZP.toArray HZ.out ?_);exact rfl;exact rfl) | ((with_reducible refine a0v 57 (.tmp 4) (.tmp 16) ?_ ?_ ?_ ?_ PA ZP ?_ 57 hlen hone.out Z0 ?_);exact rfl;iterate 4 exact rfl))
     refine (HC.out _).mono ?_;rintro e v ⟨rfl,hv⟩;subst v
     go_wp2_with fail
     refine (HK.out _).mono ?_;rintro e v ⟨rfl,hv⟩;subst v;go_wp2;exact ⟨⟨j + 1,by omega,by go_num,HN'.out,HBn.out⟩,by simp [intOf];omega⟩
  ·have e:j=r.pend.length:=by omega
   subst e;have dk:decide ((r.pend.length:Int) < (r.pend.length:Int))=false:=decide_eq_false (by omega);have HR:=hid (HRest.out HN.out);have c_number:=c0s q0 HW.out;have c_last:=d0f q0 HW.out;have c_view:=b0B q0 HW.out;have c_vnum:=a0Q q0 HW.out;have c_value:=a0Y q0 HW.out;have c_seen:=b0x q0 HW.out;have K0:=hid (fun W=>a0Z r.number 1 512 W);have k0:(decide (1 <= r.number) && decide (r.number <= 512))=inB r.number 1 512:=rfl;rw [k0] at K0;have K1:=hid (fun W=>a0Z r.last (-1) 7 W);have k1:(decide (-1 <= r.last) && decide (r.last <= 7))=inB r.last (-1) 7:=rfl;rw [k1] at K1;have K2:=hid (fun W=>HG.out r.view 8 W);have K3:=hid (fun W=>HG.out r.seen 8 W);have K5:=hid (fun W=>a0Z r.vnum 0 512 W);have k5:(decide (0 <= r.vnum) && decide (r.vnum <= 512))=inB r.vnum 0 512:=rfl;rw [k5] at K5;have hvs:(⟨r.value.toArray⟩:ByteArray).size=r.value.length:=rfl;clear k0 k1 k5 HN HBad HRest HP q0 HG HL HRA HRow HW HB0 HW0 HZ HZL hlt HB;by_cases hv:r.view = []
   ·by_cases hl:r.last = -1
    ·have dn:(r.last != -1)=false:=by simpa using hl
     have dq:(r.last == -1)=true:=by simpa using hl
     have hie:r.view.isEmpty=true:=by simp [hv]
     have hvo:e0u r=true:=by unfold e0u;simp [hv,hl]
     replace K2:Hid (∀ W,Calls prog 46 #[.string ⟨([]:List UInt8).toArray⟩,.int .i64 8] W fun e w'=>e = .returned (.bool (Hist.rightB r.view 8))/\w' = W):=fun W=>by have h:=K2.out W;rw [hv] at h ⊢;exact h
     clear hl
     cases h0:inB r.number 1 512 with
     | false=>as_aux_lemma =>
      have HF:Hid (repB r=false):=by show _=_;rw [HR.out,hvo];unfold chainB;rw [h0];simp
      rw [h0] at K0;clear HR hvo h0
      go_wp2_with fail
      refine (K0.out _).mono ?_;rintro e v ⟨rfl,hv⟩;subst v;go_wp2;go_ret;exact ⟨by rw [HF.out];rfl,HBw.out⟩
     | true =>
      cases h1:inB r.last (-1) 7 with
      | false=>as_aux_lemma =>
       have HF:Hid (repB r=false):=by show _=_;rw [HR.out,hvo];unfold chainB;rw [h0,h1];simp
       rw [h0] at K0;rw [h1] at K1;clear HR hvo h0 h1
       go_wp2_with fail
       refine (K0.out _).mono ?_;rintro e v ⟨rfl,hv⟩;subst v
       go_wp2_with fail
       refine (K1.out _).mono ?_;rintro e v ⟨rfl,hv⟩;subst v;go_wp2;go_ret;exact ⟨by rw [HF.out];rfl,HBw.out⟩
      | true =>
       cases h2:Hist.rightB r.view 8 with
       | false=>as_aux_lemma =>
        have HF:Hid (repB r=false):=by show _=_;rw [HR.out,hvo];unfold chainB;rw [h0,h1,h2];simp
        rw [h0] at K0;rw [h1] at K1;rw [h2] at K2;clear HR hvo h0 h1 h2
        go_wp2_with fail
        refine (K0.out _).mono ?_;rintro e v ⟨rfl,hv⟩;subst v
        go_wp2_with fail
        refine (K1.out _).mono ?_;rintro e v ⟨rfl,hv⟩;subst v
        go_wp2_with fail
        refine (K2.out _).mono ?_;rintro e v ⟨rfl,hv⟩;subst v;go_wp2;go_ret;exact ⟨by rw [HF.out];rfl,HBw.out⟩
       | true =>
        cases h3:Hist.rightB r.seen 8 with
        | false=>as_aux_lemma =>
         have HF:Hid (repB r=false):=by show _=_;rw [HR.out,hvo];unfold chainB;rw [h0,h1,h2,h3];simp
         rw [h0] at K0;rw [h1] at K1;rw [h2] at K2;rw [h3] at K3;clear HR hvo h0 h1 h2 h3
         go_wp2_with fail
         refine (K0.out _).mono ?_;rintro e v ⟨rfl,hv⟩;subst v
         go_wp2_with fail
         refine (K1.out _).mono ?_;rintro e v ⟨rfl,hv⟩;subst v
         go_wp2_with fail
         refine (K2.out _).mono ?_;rintro e v ⟨rfl,hv⟩;subst v
         go_wp2_with fail
         refine (K3.out _).mono ?_;rintro e v ⟨rfl,hv⟩;subst v;go_wp2;go_ret;exact ⟨by rw [HF.out];rfl,HBw.out⟩
        | true =>
         cases h4:decide (r.pend.length <= 8) with
         | false=>as_aux_lemma =>
          have HF:Hid (repB r=false):=by show _=_;rw [HR.out,hvo];unfold chainB;rw [h0,h1,h2,h3,h4];simp
          rw [h0] at K0;rw [h1] at K1;rw [h2] at K2;rw [h3] at K3;have e4:decide ((r.pend.length:Int) <= 8)=false:=by rw [← h4];exact decide_eq_decide.2 (by omega)
          clear HR hvo h0 h1 h2 h3
          go_wp2_with fail
          refine (K0.out _).mono ?_;rintro e v ⟨rfl,hv⟩;subst v
          go_wp2_with fail
          refine (K1.out _).mono ?_;rintro e v ⟨rfl,hv⟩;subst v
          go_wp2_with fail
          refine (K2.out _).mono ?_;rintro e v ⟨rfl,hv⟩;subst v
          go_wp2_with fail
          refine (K3.out _).mono ?_;rintro e v ⟨rfl,hv⟩;subst v;go_wp2;go_ret;exact ⟨by rw [HF.out];rfl,HBw.out⟩
         | true =>
          cases h5:inB r.vnum 0 512 with
          | false=>as_aux_lemma =>
           have HF:Hid (repB r=false):=by show _=_;rw [HR.out,hvo];unfold chainB;rw [h0,h1,h2,h3,h4,h5];simp
           rw [h0] at K0;rw [h1] at K1;rw [h2] at K2;rw [h3] at K3;have e4:decide ((r.pend.length:Int) <= 8)=true:=by rw [← h4];exact decide_eq_decide.2 (by omega)
           rw [h5] at K5;clear HR hvo h0 h1 h2 h3 h5
           go_wp2_with fail
           refine (K0.out _).mono ?_;rintro e v ⟨rfl,hv⟩;subst v
           go_wp2_with fail
           refine (K1.out _).mono ?_;rintro e v ⟨rfl,hv⟩;subst v
           go_wp2_with fail
           refine (K2.out _).mono ?_;rintro e v ⟨rfl,hv⟩;subst v
           go_wp2_with fail
           refine (K3.out _).mono ?_;rintro e v ⟨rfl,hv⟩;subst v
           go_wp2_with fail
           refine (K5.out _).mono ?_;rintro e v ⟨rfl,hv⟩;subst v;go_wp2;go_ret;exact ⟨by rw [HF.out];rfl,HBw.out⟩
          | true =>
           cases h6:decide (r.value.length <= 256) with
           | false=>as_aux_lemma =>
            have HF:Hid (repB r=false):=by show _=_;rw [HR.out,hvo];unfold chainB;rw [h0,h1,h2,h3,h4,h5,h6];simp
            rw [h0] at K0;rw [h1] at K1;rw [h2] at K2;rw [h3] at K3;have e4:decide ((r.pend.length:Int) <= 8)=true:=by rw [← h4];exact decide_eq_decide.2 (by omega)
            rw [h5] at K5;have e6:decide ((r.value.length:Int) <= 256)=false:=by rw [← h6];exact decide_eq_decide.2 (by omega)
            clear HR hvo h0 h1 h2 h3 h5
            go_wp2_with fail
            refine (K0.out _).mono ?_;rintro e v ⟨rfl,hv⟩;subst v
            go_wp2_with fail
            refine (K1.out _).mono ?_;rintro e v ⟨rfl,hv⟩;subst v
            go_wp2_with fail
            refine (K2.out _).mono ?_;rintro e v ⟨rfl,hv⟩;subst v
            go_wp2_with fail
            refine (K3.out _).mono ?_;rintro e v ⟨rfl,hv⟩;subst v
            go_wp2_with fail
            refine (K5.out _).mono ?_;rintro e v ⟨rfl,hv⟩;subst v;go_wp2;go_ret;exact ⟨by rw [HF.out];rfl,HBw.out⟩
           | true =>
            as_aux_lemma =>
            have HF:Hid (repB r=true):=by show _=_;rw [HR.out,hvo];unfold chainB;rw [h0,h1,h2,h3,h4,h5,h6];rfl
            rw [h0] at K0;rw [h1] at K1;rw [h2] at K2;rw [h3] at K3;have e4:decide ((r.pend.length:Int) <= 8)=true:=by rw [← h4];exact decide_eq_decide.2 (by omega)
            rw [h5] at K5;have e6:decide ((r.value.length:Int) <= 256)=true:=by rw [← h6];exact decide_eq_decide.2 (by omega)
            clear HR hvo h0 h1 h2 h3 h5
            go_wp2_with fail
            refine (K0.out _).mono ?_;rintro e v ⟨rfl,hv⟩;subst v
            go_wp2_with fail
            refine (K1.out _).mono ?_;rintro e v ⟨rfl,hv⟩;subst v
            go_wp2_with fail
            refine (K2.out _).mono ?_;rintro e v ⟨rfl,hv⟩;subst v
            go_wp2_with fail
            refine (K3.out _).mono ?_;rintro e v ⟨rfl,hv⟩;subst v
            go_wp2_with fail
            refine (K5.out _).mono ?_;rintro e v ⟨rfl,hv⟩;subst v;go_wp2;go_ret;exact ⟨by rw [HF.out];rfl,HBw.out⟩
    ·have dn:(r.last != -1)=true:=by simpa using hl
     have dq:(r.last == -1)=false:=by simpa using hl
     have hie:r.view.isEmpty=true:=by simp [hv]
     have hvo:e0u r=false:=by unfold e0u;simp [hv,hl]
     replace K2:Hid (∀ W,Calls prog 46 #[.string ⟨([]:List UInt8).toArray⟩,.int .i64 8] W fun e w'=>e = .returned (.bool (Hist.rightB r.view 8))/\w' = W):=fun W=>by have h:=K2.out W;rw [hv] at h ⊢;exact h
     clear hl
     as_aux_lemma =>
     have HF:Hid (repB r=false):=by show _=_;rw [HR.out,hvo];rfl
     clear HR hvo;go_wp2;go_ret;exact ⟨by rw [HF.out];rfl,HBw.out⟩
   ·by_cases hl:r.last = -1
    ·have dn:(r.last != -1)=false:=by simpa using hl
     have dq:(r.last == -1)=true:=by simpa using hl
     have hie:r.view.isEmpty=false:=by simp [hv]
     have hvo:e0u r=false:=by unfold e0u;simp [hv,hl]
     clear hl
     as_aux_lemma =>
     have HF:Hid (repB r=false):=by show _=_;rw [HR.out,hvo];rfl
     clear HR hvo;go_wp2;go_ret;exact ⟨by rw [HF.out];rfl,HBw.out⟩
    ·have dn:(r.last != -1)=true:=by simpa using hl
     have dq:(r.last == -1)=false:=by simpa using hl
     have hie:r.view.isEmpty=false:=by simp [hv]
     have hvo:e0u r=true:=by unfold e0u;simp [hv,hl]
     clear hl
     cases h0:inB r.number 1 512 with
     | false=>as_aux_lemma =>
      have HF:Hid (repB r=false):=by show _=_;rw [HR.out,hvo];unfold chainB;rw [h0];simp
      rw [h0] at K0;clear HR hvo h0
      go_wp2_with fail
      refine (K0.out _).mono ?_;rintro e v ⟨rfl,hv⟩;subst v;go_wp2;go_ret;exact ⟨by rw [HF.out];rfl,HBw.out⟩
     | true =>
      cases h1:inB r.last (-1) 7 with
      | false=>as_aux_lemma =>
       have HF:Hid (repB r=false):=by show _=_;rw [HR.out,hvo];unfold chainB;rw [h0,h1];simp
       rw [h0] at K0;rw [h1] at K1;clear HR hvo h0 h1
       go_wp2_with fail
       refine (K0.out _).mono ?_;rintro e v ⟨rfl,hv⟩;subst v
       go_wp2_with fail
       refine (K1.out _).mono ?_;rintro e v ⟨rfl,hv⟩;subst v;go_wp2;go_ret;exact ⟨by rw [HF.out];rfl,HBw.out⟩
      | true =>
       cases h2:Hist.rightB r.view 8 with
       | false=>as_aux_lemma =>
        have HF:Hid (repB r=false):=by show _=_;rw [HR.out,hvo];unfold chainB;rw [h0,h1,h2];simp
        rw [h0] at K0;rw [h1] at K1;rw [h2] at K2;clear HR hvo h0 h1 h2
        go_wp2_with fail
        refine (K0.out _).mono ?_;rintro e v ⟨rfl,hv⟩;subst v
        go_wp2_with fail
        refine (K1.out _).mono ?_;rintro e v ⟨rfl,hv⟩;subst v
        go_wp2_with fail
        refine (K2.out _).mono ?_;rintro e v ⟨rfl,hv⟩;subst v;go_wp2;go_ret;exact ⟨by rw [HF.out];rfl,HBw.out⟩
       | true =>
        cases h3:Hist.rightB r.seen 8 with
        | false=>as_aux_lemma =>
         have HF:Hid (repB r=false):=by show _=_;rw [HR.out,hvo];unfold chainB;rw [h0,h1,h2,h3];simp
         rw [h0] at K0;rw [h1] at K1;rw [h2] at K2;rw [h3] at K3;clear HR hvo h0 h1 h2 h3
         go_wp2_with fail
         refine (K0.out _).mono ?_;rintro e v ⟨rfl,hv⟩;subst v
         go_wp2_with fail
         refine (K1.out _).mono ?_;rintro e v ⟨rfl,hv⟩;subst v
         go_wp2_with fail
         refine (K2.out _).mono ?_;rintro e v ⟨rfl,hv⟩;subst v
         go_wp2_with fail
         refine (K3.out _).mono ?_;rintro e v ⟨rfl,hv⟩;subst v;go_wp2;go_ret;exact ⟨by rw [HF.out];rfl,HBw.out⟩
        | true =>
         cases h4:decide (r.pend.length <= 8) with
         | false=>as_aux_lemma =>
          have HF:Hid (repB r=false):=by show _=_;rw [HR.out,hvo];unfold chainB;rw [h0,h1,h2,h3,h4];simp
          rw [h0] at K0;rw [h1] at K1;rw [h2] at K2;rw [h3] at K3;have e4:decide ((r.pend.length:Int) <= 8)=false:=by rw [← h4];exact decide_eq_decide.2 (by omega)
          clear HR hvo h0 h1 h2 h3
          go_wp2_with fail
          refine (K0.out _).mono ?_;rintro e v ⟨rfl,hv⟩;subst v
          go_wp2_with fail
          refine (K1.out _).mono ?_;rintro e v ⟨rfl,hv⟩;subst v
          go_wp2_with fail
          refine (K2.out _).mono ?_;rintro e v ⟨rfl,hv⟩;subst v
          go_wp2_with fail
          refine (K3.out _).mono ?_;rintro e v ⟨rfl,hv⟩;subst v;go_wp2;go_ret;exact ⟨by rw [HF.out];rfl,HBw.out⟩
         | true =>
          cases h5:inB r.vnum 0 512 with
          | false=>as_aux_lemma =>
           have HF:Hid (repB r=false):=by show _=_;rw [HR.out,hvo];unfold chainB;rw [h0,h1,h2,h3,h4,h5];simp
           rw [h0] at K0;rw [h1] at K1;rw [h2] at K2;rw [h3] at K3;have e4:decide ((r.pend.length:Int) <= 8)=true:=by rw [← h4];exact decide_eq_decide.2 (by omega)
           rw [h5] at K5;clear HR hvo h0 h1 h2 h3 h5
           go_wp2_with fail
           refine (K0.out _).mono ?_;rintro e v ⟨rfl,hv⟩;subst v
           go_wp2_with fail
           refine (K1.out _).mono ?_;rintro e v ⟨rfl,hv⟩;subst v
           go_wp2_with fail
           refine (K2.out _).mono ?_;rintro e v ⟨rfl,hv⟩;subst v
           go_wp2_with fail
           refine (K3.out _).mono ?_;rintro e v ⟨rfl,hv⟩;subst v
           go_wp2_with fail
           refine (K5.out _).mono ?_;rintro e v ⟨rfl,hv⟩;subst v;go_wp2;go_ret;exact ⟨by rw [HF.out];rfl,HBw.out⟩
          | true =>
           cases h6:decide (r.value.length <= 256) with
           | false=>as_aux_lemma =>
            have HF:Hid (repB r=false):=by show _=_;rw [HR.out,hvo];unfold chainB;rw [h0,h1,h2,h3,h4,h5,h6];simp
            rw [h0] at K0;rw [h1] at K1;rw [h2] at K2;rw [h3] at K3;have e4:decide ((r.pend.length:Int) <= 8)=true:=by rw [← h4];exact decide_eq_decide.2 (by omega)
            rw [h5] at K5;have e6:decide ((r.value.length:Int) <= 256)=false:=by rw [← h6];exact decide_eq_decide.2 (by omega)
            clear HR hvo h0 h1 h2 h3 h5
            go_wp2_with fail
            refine (K0.out _).mono ?_;rintro e v ⟨rfl,hv⟩;subst v
            go_wp2_with fail
            refine (K1.out _).mono ?_;rintro e v ⟨rfl,hv⟩;subst v
            go_wp2_with fail
            refine (K2.out _).mono ?_;rintro e v ⟨rfl,hv⟩;subst v
            go_wp2_with fail
            refine (K3.out _).mono ?_;rintro e v ⟨rfl,hv⟩;subst v
            go_wp2_with fail
            refine (K5.out _).mono ?_;rintro e v ⟨rfl,hv⟩;subst v;go_wp2;go_ret;exact ⟨by rw [HF.out];rfl,HBw.out⟩
           | true =>
            as_aux_lemma =>
            have HF:Hid (repB r=true):=by show _=_;rw [HR.out,hvo];unfold chainB;rw [h0,h1,h2,h3,h4,h5,h6];rfl
            rw [h0] at K0;rw [h1] at K1;rw [h2] at K2;rw [h3] at K3;have e4:decide ((r.pend.length:Int) <= 8)=true:=by rw [← h4];exact decide_eq_decide.2 (by omega)
            rw [h5] at K5;have e6:decide ((r.value.length:Int) <= 256)=true:=by rw [← h6];exact decide_eq_decide.2 (by omega)
            clear HR hvo h0 h1 h2 h3 h5
            go_wp2_with fail
            refine (K0.out _).mono ?_;rintro e v ⟨rfl,hv⟩;subst v
            go_wp2_with fail
            refine (K1.out _).mono ?_;rintro e v ⟨rfl,hv⟩;subst v
            go_wp2_with fail
            refine (K2.out _).mono ?_;rintro e v ⟨rfl,hv⟩;subst v
            go_wp2_with fail
            refine (K3.out _).mono ?_;rintro e v ⟨rfl,hv⟩;subst v
            go_wp2_with fail
            refine (K5.out _).mono ?_;rintro e v ⟨rfl,hv⟩;subst v;go_wp2;go_ret;exact ⟨by rw [HF.out];rfl,HBw.out⟩
end Go.Proofs.YtagmnmoaekbffaaGreatDoor.Ms
