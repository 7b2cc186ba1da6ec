/- V10 -/
import Derived.Test.YtagmnmoaekbffaaGreatDoorV04
import Derived.Test.YtagmnmoaekbffaaGreatDoorV09
namespace Go.Proofs.YtagmnmoaekbffaaGreatDoor.Ms
open Go.Proofs.Tryz
open Go
set_option maxRecDepth 100000
section
variable {s:List UInt8} {n:Nat} {R:Rs} {wait:List (List UInt8)}
theorem n0Z (R:Rs) (x:Sub):(ansR R x).number=x.number:=by unfold ansR;split <;> rfl
theorem i0g (R:Rs) (x:Sub):(ansR R x).last=R.who:=by unfold ansR;split <;> rfl
theorem n0a (R:Rs) (x:Sub):(ansR R x).commit=R.ltag:=by unfold ansR;split <;> rfl
theorem p0k (R:Rs):∃ t,a0u R=R.long++t:=⟨_,rfl⟩
theorem o0a (h:HonT s n R wait):∀ b ∈ R.long,bv b < (n:Int):=fun b hb=>h.byn b (by rw [a0u];exact List.mem_append_left _ hb)
theorem o0b (h:HonT s n R wait) (j:Nat) (hj:j < n):∀ b ∈ (R.reg (j:Int)).view,bv b < (n:Int):=fun b hb=>by
 obtain ⟨t,ht⟩:=h.hon.views j (by rw [h.nn];exact hj);exact h.byn b (by rw [ht];exact List.mem_append_left _ hb)
theorem l0O (h:HonT s n R wait) (x:Sub):l0l s n (ansR R x)=0:=by
 have hn8:=h.hon.inv.n;have hn:=h.nn;unfold l0l;rw [d0e,i0g,n0a];by_cases hl:R.long = []
 ·rw [if_pos hl]
 ·obtain ⟨h1,h2,h3⟩:=h.lwho hl
  have hr:(hasB n R.who && Hist.rightB R.long n)=true:=by
   rw [Bool.and_eq_true,e0l];exact ⟨h1,g0X ⟨by omega,by omega⟩ h.hon.inv.long (o0a h)⟩
  rw [if_neg hl,if_neg (by rw [hr];decide),if_neg (by rw [h2];simp)];exact l0K (g0H h1.1 h1.2 (by decide) (by have:=h.hon.inv.long;omega)) h3
theorem l0P (h:HonT s n R wait) (c:Nat) (hc:c < n) (hw:wait.getD c [] = []) (ho:(a0u R).length < 512):c0T s n (c:Int) R.long (a0M R)=(0,a0u R):=by
 have e:=n0U (s:=s) (n:=n) (me:=(c:Int)) (a0M R) R.long (fun i hi=>by
  have hi2:i < R.pend.length:=by rw [c0p] at hi;exact hi
  have e1:(a0M R)[i] = { R.pend[i] with proof:=(R.reg R.pend[i].client).tag }:=by simp [a0M]
  have e2:((a0M R).take i).map (fun p=>by8 p.client)=(R.pend.take i).map fun p=>by8 p.client:=by simp [a0M,List.map_take];rfl
  rw [e1,e2];refine ⟨fun e=>?_,?_⟩
  ·obtain ⟨q,hq⟩:=pf h hi2
   have c1:=hq.cl;rw [List.getD_eq_getElem?_getD,List.getElem?_eq_getElem hi2] at c1;have c2:R.pend[i].client=(q:Int):=c1;have e3:R.pend[i].client=(c:Int):=e;have:q=c:=by omega
   subst this;exact hq.wait hw
  ·rw [← t0i R i]
   exact m0V h ho hi2)
 rw [e];simp [a0u,a0M]
theorem l0Q (h:HonT s n R wait) (c:Nat) (hc:c < n) (hw:wait.getD c [] = []) (ho:(a0u R).length < 512) (x:Sub) :
  c0n s n (c:Int) (R.reg (c:Int)).view (ansR R x)=0/\c0B s n (c:Int) (R.reg (c:Int)).view (ansR R x)=a0u R:=by
 have hn:=h.nn;have hol:=e0h R;have hp:=l0P h c hc hw ho
 have hg:goB (c:Int) (R.reg (c:Int)).view (ansR R x)=true:=by
  unfold goB;rw [d0e,Bool.and_eq_true,decide_eq_true_eq];obtain ⟨t,ht⟩:=h.hon.views c (by omega);have hv:=g0W ⟨t,ht⟩;have hs:=h.short c hc;have hL:R.long=(a0u R).take R.long.length:=g0W (p0k R);have h1:=h.hon.done c (by omega) hw;have h2:=h.hon.cnts c (by omega);have h3:=cnt_mono (a0u R) (R.reg (c:Int)).view.length R.long.length hs (c:Int);have h4:=Hist.cnt_take_le (a0u R) R.long.length (c:Int);rw [← hv,← hL] at h3;rw [← hL] at h4;refine ⟨n0S ⟨R.long.drop (R.reg (c:Int)).view.length,?_⟩,by omega⟩
  have e1:(R.reg (c:Int)).view=R.long.take (R.reg (c:Int)).view.length:=by
   have:R.long.take (R.reg (c:Int)).view.length=(a0u R).take (R.reg (c:Int)).view.length:=by
    unfold a0u;rw [List.take_append_of_le_length hs]
   rw [this];exact hv
  rw [← List.take_append_drop (R.reg (c:Int)).view.length R.long,← e1];simp
 have e0:c0n s n (c:Int) (R.reg (c:Int)).view (ansR R x)=0:=by
  unfold c0n;rw [l0O h x,d0e,c0k,hp,if_neg (by decide),if_neg (by rw [hg];decide),if_neg (by show ¬ ((0:Int) ≠ 0);simp),if_neg (by show ¬ (512 <= (a0u R).length);omega)]
 refine ⟨e0,?_⟩;unfold c0B;rw [if_pos e0,d0e,c0k,hp]
theorem k0t (h:HonT s n R wait) (j:Nat):(R.reg (j:Int)).view.length <= 512:=(h.hon.inv.reg (j:Int)).view
theorem v0a (h:HonT s n R wait) (x:Sub) (hx:1 <= x.number/\x.number <= 512) (ht:0 <= x.target/\x.target < (n:Int)):f0T x (ansR R x)=true:=by
 have hn8:=h.hon.inv.n;have hn:=h.nn;obtain ⟨t,htn⟩:∃ t:Nat,x.target=(t:Int):=⟨x.target.toNat,by omega⟩;have htl:t < n:=by omega
 have hg:=h.hon.inv.reg (t:Int);have hgn:=hg.num;have hgv:=hg.value;have hvb:=o0b h t htl;have hvl:=k0t h t;have hr8:Hist.rightB R.long 8=true:=g0X (n:=8) ⟨by omega,by omega⟩ h.hon.inv.long (fun b hb=>by have:=o0a h b hb;omega);have hs8:Hist.rightB (R.reg (t:Int)).view 8=true:=g0X (n:=8) ⟨by omega,by omega⟩ hvl (fun b hb=>by have:=hvb b hb;omega);have hwho:=h.hon.inv.who
 have hwb:((R.who == -1) || inB R.who 0 7)=true:=by
  rw [Bool.or_eq_true,beq_iff_eq,b0h];omega
 have hwl:((R.who == -1) == R.long.isEmpty)=true:=by
  by_cases hl:R.long = []
  ·rw [h.lnil hl,hl];rfl
  ·have h1:=(h.lwho hl).1
   have e1:(R.who == -1)=false:=beq_false_of_ne (by omega)
   have e2:R.long.isEmpty=false:=by cases e:R.long with
    | nil=>exact absurd e hl
    | cons a l=>rfl
   rw [e1,e2];rfl
 have hps:(a0M R).all penB=true:=by
  rw [List.all_eq_true];intro p hp;simp only [a0M,List.mem_map] at hp;obtain ⟨q,hq,rfl⟩:=hp;have h1:=(h.hon.inv.pend q hq);obtain ⟨h2,h3,-⟩:=h.pends q hq;have h4:=h1.cl;have h5:=h1.num;simp only [penB,d0l,Bool.and_eq_true,b0h];exact ⟨⟨h4.1,by omega⟩,h5,h2,h3.1,by omega⟩
 have hpl:(a0M R).length <= 8:=by rw [c0p];exact h.hon.inv.plen
 unfold f0T;rw [r0x,m0N,n0Z,i0g,d0e,c0k,hwb,hr8,hwl,hps,decide_eq_true hpl];have e1:inB x.number 1 512=true:=(b0h _ _ _).2 hx;rw [e1];unfold ansR;by_cases hk:x.kind=2
 ·rw [if_pos hk,htn]
  have e2:(((R.reg (t:Int)).asked.number == 0) || inB (R.reg (t:Int)).asked.number 1 512)=true:=by
   rw [Bool.or_eq_true,beq_iff_eq,b0h];omega
  simp only [e2,hs8,decide_eq_true hgv,Bool.and_self,beq_self_eq_true]
 ·rw [if_neg hk]
  simp [inB,Hist.rightB]
theorem v0b (h:HonT s n R wait) (c:Nat) (hc:c < n) (hw:wait.getD c [] = []) (ho:(a0u R).length < 512) {kind target:Int} (hk:1 <= kind/\kind <= 2) (ht:0 <= target/\target < (n:Int)) {value:List UInt8} (hv:value.length <= 256) :
  i0o n (c:Int) (R.reg (c:Int)).view (honX s R (c:Int) kind target value)=true/\1 <= (honX s R (c:Int) kind target value).number/\(honX s R (c:Int) kind target value).number <= 512:=by
 have hn:=h.nn;have hn8:=h.hon.inv.n;obtain ⟨h0,hnum⟩:=i0b h c hc hw ho hk ht hv;obtain ⟨h1,h2,h3,h4,h5⟩:=b0r (h0g h0);refine ⟨?_,h3⟩;unfold i0o vsub;rw [j0w];simp only [Bool.and_eq_true,e0l,b0h,subB,d0l,decide_eq_true_eq,beq_iff_eq];exact ⟨⟨⟨by omega,by omega⟩,⟨ht.1,ht.2⟩,⟨by omega,by omega⟩,⟨h3,h4,by omega,by omega⟩,h5⟩,g0X ⟨by omega,by omega⟩ (k0t h c) (o0b h c hc),rfl⟩
theorem p0l (h:HonT s n R wait) (t:Nat) (ht:t < n) (x:Sub) (hk:x.kind=2) (hx:x.target=(t:Int)):valE s n (t:Int) (a0u R) (ansR R x)=0:=by
 have hn:=h.nn;have hn8:=h.hon.inv.n
 have e:ansR R x=⟨x.number,R.who,R.long,R.ltag,a0M R,(R.reg (t:Int)).asked.number,(R.reg (t:Int)).asked.value,(R.reg (t:Int)).asked.data,(R.reg (t:Int)).view,(R.reg (t:Int)).tag⟩:=by
  unfold ansR;rw [if_pos hk,hx]
 rw [e];have h1:=h.hon.cnts t (by omega);have hg:=h.hon.inv.reg (t:Int);have hgn:=hg.num;obtain ⟨hz,hd⟩:=h.vals t ht;obtain ⟨tl,htl⟩:=h.hon.views t (by omega);have hvt:=g0W ⟨tl,htl⟩;have hvc:=Hist.cnt_take_le (a0u R) (R.reg (t:Int)).view.length (t:Int);rw [← hvt] at hvc
 have hcase:(Hist.cnt (R.reg (t:Int)).view (t:Int):Int)=(R.reg (t:Int)).asked.number ∨ (Hist.cnt (R.reg (t:Int)).view (t:Int):Int)=(R.reg (t:Int)).asked.number - 1:=by
  by_cases hwt:wait.getD t [] = []
  ·exact .inl (h.hon.done t (by omega) hwt)
  ·obtain ⟨-,-,h4⟩:=h.hon.last t (by omega) hwt
   exact .inr (by omega)
 have hpos:(R.reg (t:Int)).view ≠ []->1 <= Hist.cnt (R.reg (t:Int)).view (t:Int):=fun hne=>by
  have hl:=h.vlast t ht hne;have hlen:0 < (R.reg (t:Int)).view.length:=List.length_pos_iff.2 hne;have hs:=Hist.cnt_step (R.reg (t:Int)).view ((R.reg (t:Int)).view.length - 1) (by omega) (t:Int);rw [Nat.sub_add_cancel hlen,Hist.cnt_all] at hs;have hc:Hist.bv ((R.reg (t:Int)).view.getD ((R.reg (t:Int)).view.length - 1) 0)=(t:Int):=hl;rw [if_pos hc] at hs;omega
 unfold valE;rw [if_neg (by show ¬ ((R.reg (t:Int)).asked.number ≠ (Hist.cnt (a0u R) (t:Int):Int));omega)];by_cases h0:(R.reg (t:Int)).asked.number=0
 ·have hvn:(R.reg (t:Int)).view = []:=Classical.byContradiction fun hne=>by
   have:=hpos hne;omega
  rw [if_pos h0];show (if (R.reg (t:Int)).asked.value = []/\(R.reg (t:Int)).view = [] then (0:Int) else 8)=0;rw [if_pos ⟨hz h0,hvn⟩]
 ·rw [if_neg h0]
  have hj:jdg s n (t:Int) 2 (numB (R.reg (t:Int)).asked.number++layT (R.reg (t:Int)).asked.value) (R.reg (t:Int)).asked.data=0 :=
   l0K (g0H (by omega) (by omega) (by decide) (r0z _ ⟨by omega,by omega⟩ _ hg.value)) (hd h0)
  rw [if_neg (by rw [hj];simp)];unfold q0K;by_cases hvn:(R.reg (t:Int)).view = []
  ·rw [if_pos hvn]
   rw [hvn,Hist.cnt_nil] at hcase;show (if (R.reg (t:Int)).asked.number=1 then (0:Int) else 8)=0;rw [if_pos (by omega)]
  ·rw [if_neg hvn]
   have hso:h0N (t:Int) (a0u R) ⟨x.number,R.who,R.long,R.ltag,a0M R,(R.reg (t:Int)).asked.number,(R.reg (t:Int)).asked.value,(R.reg (t:Int)).asked.data,(R.reg (t:Int)).view,(R.reg (t:Int)).tag⟩=true:=by
    unfold h0N;simp only [Bool.and_eq_true,Bool.or_eq_true,decide_eq_true_eq];exact ⟨h.vlast t ht hvn,n0S ⟨tl,htl⟩,hcase⟩
   rw [if_neg (by rw [hso];decide)];exact l0K (g0H (by omega) (by omega) (by decide) (by have:=k0t h t;show (R.reg (t:Int)).view.length <= 16384;omega)) (h.vtag t ht hvn)
theorem l0R (h:HonT s n R wait) (c:Nat) (hc:c < n) (hw:wait.getD c [] = []) (ho:(a0u R).length < 512) {kind target:Int} (hk:1 <= kind/\kind <= 2) (ht:0 <= target/\target < (n:Int)) {value:List UInt8} (hv:value.length <= 256) :
  chkE s n (c:Int) (R.reg (c:Int)).view (honX s R (c:Int) kind target value) (ansR R (honX s R (c:Int) kind target value))=0
  /\ (chkG s n (c:Int) (R.reg (c:Int)).view (honX s R (c:Int) kind target value) (ansR R (honX s R (c:Int) kind target value))).view=d0X (ansR R (honX s R (c:Int) kind target value)) (c:Int)
  /\ (kind=2->(chkG s n (c:Int) (R.reg (c:Int)).view (honX s R (c:Int) kind target value) (ansR R (honX s R (c:Int) kind target value))).value=(ansR R (honX s R (c:Int) kind target value)).value):=by
 obtain ⟨ha,hnb⟩:=v0b h c hc hw ho hk ht hv;have hans:=v0a h (honX s R (c:Int) kind target value) hnb ht;obtain ⟨e0,e1⟩:=l0Q h c hc hw ho (honX s R (c:Int) kind target value);have haf:=l0J R (c:Int) (honX s R (c:Int) kind target value);have hkx:(honX s R (c:Int) kind target value).kind=kind:=rfl;have htx:(honX s R (c:Int) kind target value).target=target:=rfl
 have hval:kind=2->valE s n target (a0u R) (ansR R (honX s R (c:Int) kind target value))=0:=fun e=>by
  obtain ⟨t,htn⟩:∃ t:Nat,target=(t:Int):=⟨target.toNat,by omega⟩;have:=p0l h t (by omega) (honX s R (c:Int) kind target value) (by rw [hkx];exact e) (by rw [htx];exact htn);rw [htn] at this ⊢;exact this
 have hE:chkE s n (c:Int) (R.reg (c:Int)).view (honX s R (c:Int) kind target value) (ansR R (honX s R (c:Int) kind target value))=0:=by
  unfold chkE;rw [if_neg (by rw [ha,hans];decide),if_neg (by rw [e0];simp),hkx,htx,e1];by_cases hk2:kind=2
  ·rw [if_neg (by simp [hk2]),hval hk2]
  ·rw [if_pos hk2]
 have hlv:∀ (v:List UInt8) (y:Rep),(c0U v y).view=v:=fun v y=>by unfold c0U;split <;> rfl
 refine ⟨hE,?_,fun e=>?_⟩
 ·unfold chkG
  rw [if_neg (by rw [hE];simp),hkx,e1,haf]
  split
  ·exact hlv _ _
  ·exact hlv _ _
 ·unfold chkG
  rw [if_neg (by rw [hE];simp),hkx,if_neg (by simp [e])];rfl
theorem n0b (h:HonT s n R wait) (c:Nat) (hc:c < n) (hw:wait.getD c [] = []) (ho:(a0u R).length < 512) {kind target:Int} (hk:1 <= kind/\kind <= 2) (ht:0 <= target/\target < (n:Int)) {value:List UInt8} (hv:value.length <= 256) :
  subR R (c:Int) (honX s R (c:Int) kind target value)=subN R (c:Int) (honX s R (c:Int) kind target value)/\subY R (c:Int) (honX s R (c:Int) kind target value)=ansR R (honX s R (c:Int) kind target value)
  /\ HonT s n (subN R (c:Int) (honX s R (c:Int) kind target value)) (wait.set c (d0X (ansR R (honX s R (c:Int) kind target value)) (c:Int))):=by
 have hn:=h.nn;have hn8:=h.hon.inv.n;obtain ⟨h0,hnum⟩:=i0b h c hc hw ho hk ht hv;obtain ⟨r1,r2,r3⟩:=o0Z h.hon c (by omega) hw _ (u0W s R (c:Int) kind target value) hnum h0
 have hreg:∀ j:Nat,(subN R (c:Int) (honX s R (c:Int) kind target value)).reg (j:Int)=if j=c then { R.reg (c:Int) with asked:=honX s R (c:Int) kind target value,ans:=ansR R (honX s R (c:Int) kind target value) } else R.reg (j:Int) :=
  fun j=>i0a R h.hon.inv.len c j (by omega) _ _ rfl
 have hview:∀ j:Nat,((subN R (c:Int) (honX s R (c:Int) kind target value)).reg (j:Int)).view=(R.reg (j:Int)).view:=fun j=>by
  rw [hreg];by_cases e:j=c
  ·rw [if_pos e,e]
  ·rw [if_neg e]
 have htag:∀ j:Nat,((subN R (c:Int) (honX s R (c:Int) kind target value)).reg (j:Int)).tag=(R.reg (j:Int)).tag:=fun j=>by
  rw [hreg];by_cases e:j=c
  ·rw [if_pos e,e]
  ·rw [if_neg e]
 refine ⟨r1,r2,r3,hn,?_,?_,?_,?_,h.lnil,h.lwho,?_,?_⟩
 ·rw [g0s]
  intro b hb;simp only [List.mem_append,List.mem_cons,List.not_mem_nil,or_false] at hb;rcases hb with hb | rfl
  ·exact h.byn b hb
  ·rw [d0Q _ (by omega)];omega
 ·intro j hj
  rw [hview];exact h.short j hj
 ·intro j hj
  rw [hview,htag];exact h.vtag j hj
 ·intro j hj
  rw [hview];exact h.vlast j hj
 ·intro p hp
  have hp2:p ∈ R.pend++[e0B (c:Int) (honX s R (c:Int) kind target value)]:=hp;simp only [List.mem_append,List.mem_cons,List.not_mem_nil,or_false] at hp2;rcases hp2 with hp2 | rfl
  ·exact h.pends p hp2
  ·exact ⟨hk,ht,rfl⟩
 ·intro j hj
  rw [hreg];by_cases hjc:j=c
  ·subst hjc
   rw [if_pos rfl];refine ⟨fun e=>?_,fun _=>rfl⟩;have e2:(Hist.cnt (R.reg (j:Int)).view (j:Int):Int) + 1=0:=e;omega
  ·rw [if_neg hjc]
   exact h.vals j hj
theorem n0c (h:HonT s n R wait) (c:Nat) (hc:c < n) (hw:wait.getD c [] ≠ []) :
  a0u (comR R (c:Int) (wait.getD c []) (tagB s ((c:Int),3,wait.getD c [])))=a0u R/\HonT s n (comR R (c:Int) (wait.getD c []) (tagB s ((c:Int),3,wait.getD c []))) (wait.set c [])
  /\ ((comR R (c:Int) (wait.getD c []) (tagB s ((c:Int),3,wait.getD c []))).reg (c:Int)).view=wait.getD c []/\∀ j:Nat,j ≠ c->((comR R (c:Int) (wait.getD c []) (tagB s ((c:Int),3,wait.getD c []))).reg (j:Int)).view=(R.reg (j:Int)).view:=by
 have hn:=h.nn;have hn8:=h.hon.inv.n;obtain ⟨h0,eo,hh⟩:=p0a h.hon c (by omega) hw (tagB s ((c:Int),3,wait.getD c [])) (c0e _ _);obtain ⟨l1,l2,l3⟩:=h.hon.last c (by omega) hw;generalize htg:tagB s ((c:Int),3,wait.getD c [])=tg at *;generalize wait.getD c []=v at *
 have hr:comR R (c:Int) v tg=if R.long.length < v.length then comL R (c:Int) v tg else comS R (c:Int) v tg:=by
  unfold comR;rw [if_neg (by omega)]
 have hreg:∀ j:Nat,(comR R (c:Int) v tg).reg (j:Int)=if j=c then { R.reg (c:Int) with view:=v,tag:=tg } else R.reg (j:Int):=by
  intro j;refine i0a R h.hon.inv.len c j (by omega) _ _ ?_;rw [hr]
  split <;> rfl
 have hlong:(comR R (c:Int) v tg).long=if R.long.length < v.length then v else R.long:=by rw [hr];split <;> rfl
 have hwho:(comR R (c:Int) v tg).who=if R.long.length < v.length then (c:Int) else R.who:=by rw [hr];split <;> rfl
 have hlt:(comR R (c:Int) v tg).ltag=if R.long.length < v.length then tg else R.ltag:=by rw [hr];split <;> rfl
 refine ⟨eo,⟨hh,?_,?_,?_,?_,?_,?_,?_,?_,?_⟩,by rw [hreg,if_pos rfl],fun j hj=>by rw [hreg,if_neg hj]⟩
 ·rw [hr];split <;> exact hn
 ·rw [eo];exact h.byn
 ·intro j hj
  rw [hreg,hlong];have:=h.short j hj;by_cases hjc:j=c
  ·rw [if_pos hjc]
   show v.length <= _
   split <;> omega
  ·rw [if_neg hjc]
   split <;> omega
 ·intro j hj hne
  rw [hreg] at hne ⊢;by_cases hjc:j=c
  ·subst hjc
   rw [if_pos rfl];exact htg.symm
  ·rw [if_neg hjc] at hne ⊢
   exact h.vtag j hj hne
 ·intro j hj hne
  rw [hreg] at hne ⊢;by_cases hjc:j=c
  ·subst hjc
   rw [if_pos rfl];exact l1
  ·rw [if_neg hjc] at hne ⊢
   exact h.vlast j hj hne
 ·intro hl
  rw [hlong] at hl;rw [hwho]
  split at hl
  ·exact absurd hl hw
  ·rename_i e
   rw [if_neg e];exact h.lnil hl
 ·intro hl
  rw [hlong] at hl;rw [hwho,hlong,hlt]
  split at hl
  ·rename_i e
   rw [if_pos e,if_pos e,if_pos e];exact ⟨⟨by omega,by omega⟩,l1,htg.symm⟩
  ·rename_i e
   rw [if_neg e,if_neg e,if_neg e];exact h.lwho hl
 ·intro p hp
  have:p ∈ R.pend:=by
   rw [hr] at hp
   split at hp
   ·obtain ⟨m,hm⟩:=n0i (c:Int) (R.reg (c:Int)).asked.number R.pend
    have hp2:p ∈ cutP (c:Int) (R.reg (c:Int)).asked.number R.pend:=hp;rw [hm] at hp2;exact List.mem_of_mem_drop hp2
   ·exact hp
  exact h.pends p this
 ·intro j hj
  rw [hreg];by_cases hjc:j=c
  ·subst hjc
   rw [if_pos rfl];exact h.vals j hj
  ·rw [if_neg hjc]
   exact h.vals j hj
end
open Go Go.RowKit
set_option maxRecDepth 100000
structure HV (n:Nat) (R:Rs) (V Wt:List (List UInt8)) (j:Nat):Prop where
 hon:HonT seed n R Wt
 vw:∀ i:Nat,i < n->V.getD i []=(R.reg (i:Int)).view
 lv:V.length=n
 lw:Wt.length=n
 ord:(a0u R).length <= j
theorem HV.new (n:Nat) (h:2 <= n/\n <= 8):HV n (newR n) (List.replicate n []) (List.replicate n []) 0:=by
 refine ⟨t0f seed n h,fun i hi=>?_,by simp,by simp,by show ([]:List UInt8).length <= 0;decide⟩;rw [d0O,List.getD_eq_getElem?_getD,List.getElem?_replicate,if_pos hi];rfl
section
variable {n:Nat} {R:Rs} {V Wt:List (List UInt8)} {j:Nat}
theorem HV.next (h:HV n R V Wt j):HV n R V Wt (j + 1):=⟨h.hon,h.vw,h.lv,h.lw,by have:=h.ord;omega⟩
theorem HV.commit (h:HV n R V Wt j) {c:Nat} (hc:c < n) (hw:Wt.getD c [] ≠ []):HV n (comR R (c:Int) (Wt.getD c []) (tagB seed ((c:Int),3,Wt.getD c []))) (V.set c (Wt.getD c [])) (Wt.set c []) (j + 1):=by
 obtain ⟨h1,h2,h3,h4⟩:=n0c h.hon c hc hw;refine ⟨h2,fun i hi=>?_,by simpa using h.lv,by simpa using h.lw,by rw [h1];have:=h.ord;omega⟩;rw [List.getD_eq_getElem?_getD,List.getElem?_set];by_cases e:c=i
 ·subst e
  rw [if_pos rfl,if_pos (by rw [h.lv];exact hc),h3];rfl
 ·rw [if_neg e,h4 i (fun e2=>e e2.symm),← List.getD_eq_getElem?_getD]
  exact h.vw i hi
theorem r0O (hl:R.regs.length=8) (c:Nat) (hc:c < 8) (x:Sub) (i:Nat):((subN R (c:Int) x).reg (i:Int)).view=(R.reg (i:Int)).view:=by
 rw [i0a R hl c i hc _ (subN R (c:Int) x) rfl]
 split
 ·rename_i e
  rw [e]
 ·rfl
theorem v0c (h:HV n R V Wt j) {x:Sub} (hx:I64 x.number):RepRng (ansR R x):=by
 have hi:=h.hon.hon.inv;have hw:=hi.who;have hn:=hi.n;refine ⟨by rw [n0Z];exact hx,by rw [i0g];exact ⟨by omega,by omega⟩,?_,fun p hp=>?_⟩
 ·unfold ansR
  split
  ·have:=(hi.reg x.target).num
   exact ⟨by show (-9223372036854775808:Int) <= (R.reg x.target).asked.number;omega,by show (R.reg x.target).asked.number <= 9223372036854775807;omega⟩
  ·exact a0r
 ·rw [c0k] at hp
  simp only [a0M,List.mem_map] at hp;obtain ⟨z,hz,rfl⟩:=hp;have h1:=hi.pend z hz;have h2:=h.hon.pends z hz;have h3:=h.hon.nn;have h4:=h1.cl;have h5:=h1.num;exact ⟨⟨by show (-9223372036854775808:Int) <= z.client;omega,by show z.client <= 9223372036854775807;omega⟩,⟨by show (-9223372036854775808:Int) <= z.number;omega,by show z.number <= 9223372036854775807;omega⟩,⟨by show (-9223372036854775808:Int) <= z.kind;omega,by show z.kind <= 9223372036854775807;omega⟩,⟨by show (-9223372036854775808:Int) <= z.target;omega,by show z.target <= 9223372036854775807;omega⟩,h1.wf.asked,(hi.reg z.client).tag⟩
theorem HV.submit (h:HV n R V Wt j) (hj:j < 512) {c:Nat} (hc:c < n) (hn:n <= 8) (hw:Wt.getD c [] = []) {kind target:Int} (hk:1 <= kind/\kind <= 2) (ht:0 <= target/\target < (n:Int)) {value:List UInt8} (hv:value.length <= 256) {X:Sub} (hX:X=mkX seed V (c:Int) kind target value) :
  subE R (c:Int) X=0/\chkE seed n (c:Int) (V.getD c []) X (subY R (c:Int) X)=0/\(chkG seed n (c:Int) (V.getD c []) X (subY R (c:Int) X)).view=d0X (subY R (c:Int) X) (c:Int)
   /\ (X.kind=2->(chkG seed n (c:Int) (V.getD c []) X (subY R (c:Int) X)).value=(subY R (c:Int) X).value)/\HV n (subR R (c:Int) X) V (Wt.set c (d0X (subY R (c:Int) X) (c:Int))) (j + 1)/\RepRng (subY R (c:Int) X)/\(subM (c:Int) X).Rng:=by
 have ho:(a0u R).length < 512:=by have:=h.ord;omega
 have e:mkX seed V (c:Int) kind target value=honX seed R (c:Int) kind target value:=by
  unfold mkX honX;rw [Int.toNat_natCast,h.vw c hc]
 rw [e] at hX;subst hX;obtain ⟨t1,-⟩:=i0b h.hon c hc hw ho hk ht hv;obtain ⟨s1,s2,s3⟩:=n0b h.hon c hc hw ho hk ht hv;obtain ⟨c1,c2,c3⟩:=l0R h.hon c hc hw ho hk ht hv;have hcl:=Hist.cnt_le (R.reg (c:Int)).view (c:Int);have hvl:=(h.hon.hon.inv.reg (c:Int)).view;have iN:I64 ((Hist.cnt (R.reg (c:Int)).view (c:Int):Int) + 1):=⟨by omega,by omega⟩;rw [s1,s2,h.vw c hc];refine ⟨t1,c1,c2,c3,⟨s3,fun i hi=>?_,h.lv,by simpa using h.lw,by rw [g0s];have:=h.ord;simp;omega⟩,v0c h iN,?_⟩
 ·rw [r0O h.hon.hon.inv.len c (by omega)]
  exact h.vw i hi
 ·have h0:=p0r 1 (c:Int) ⟨by decide,by decide⟩ ⟨by omega,by omega⟩
  exact ⟨h0.kind,h0.client,iN,⟨by show (-9223372036854775808:Int) <= kind;omega,by show kind <= 9223372036854775807;omega⟩,⟨by show (-9223372036854775808:Int) <= target;omega,by show target <= 9223372036854775807;omega⟩,h0.rn,h0.rl,h0.rv,h0.who,h0.bo,h0.bn,h0.ns,h0.ps⟩
end
end Go.Proofs.YtagmnmoaekbffaaGreatDoor.Ms
