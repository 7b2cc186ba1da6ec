/- V04 -/
import Derived.Test.YtagmnmoaekbffaaGreatDoorS01
import Derived.Test.YtagmnmoaekbffaaGreatDoorS25
import Derived.Test.YtagmnmoaekbffaaGreatDoorS27
import Derived.Test.YtagmnmoaekbffaaGreatDoorV03
import Derived.Test.YtagmnmoaekbffaaGreatDoorU05
import Derived.Test.YtagmnmoaekbffaaGreatDoorS15
set_option maxHeartbeats 4000000
namespace Go.Proofs.YtagmnmoaekbffaaGreatDoor.Ms
open Go.Proofs.Tryz
open Go
set_option maxRecDepth 100000
structure Hon (R:Rs) (nx:List (List UInt8)):Prop where
 inv:RInv R
 len:nx.length=R.n
 olen:(a0u R).length <= 512
 bytes:∀ b ∈ a0u R,bv b < 8
 cnts:∀ j:Nat,j < R.n->(Hist.cnt (a0u R) (j:Int):Int)=(R.reg (j:Int)).asked.number
 views:∀ j:Nat,j < R.n->∃ t,a0u R=(R.reg (j:Int)).view++t
 done:∀ j:Nat,j < R.n->nx.getD j [] = []->(Hist.cnt (R.reg (j:Int)).view (j:Int):Int)=(R.reg (j:Int)).asked.number
 goes:∀ j:Nat,j < R.n->∃ t,a0u R=nx.getD j []++t
 last:∀ j:Nat,j < R.n->nx.getD j [] ≠ []->c0i (nx.getD j [])=(j:Int)/\(Hist.cnt (nx.getD j []) (j:Int):Int)=(R.reg (j:Int)).asked.number/\(Hist.cnt (R.reg (j:Int)).view (j:Int):Int) + 1=(R.reg (j:Int)).asked.number
 nums:∀ i:Nat,i < R.pend.length->(R.pend.getD i c0Q).number=(Hist.cnt ((a0u R).take (R.long.length + i + 1)) (R.pend.getD i c0Q).client:Int)
theorem e0h (R:Rs):(a0u R).length=R.long.length + R.pend.length:=by simp [a0u]
theorem d0O (n:Nat) (c:Int):(newR n).reg c=j0v:=by
 unfold Rs.reg newR;rw [List.getD_eq_getElem?_getD];by_cases h:c.toNat < 8
 ·rw [List.getElem?_replicate_of_lt h];rfl
 ·rw [List.getElem?_eq_none (by rw [List.length_replicate];omega)];rfl
theorem u0V (n:Nat) (h:2 <= n/\n <= 8):Hon (newR n) (List.replicate n []):=by
 have e:∀ j,(List.replicate n ([]:List UInt8)).getD j [] = []:=by
  intro j;rw [List.getD_eq_getElem?_getD];by_cases hj:j < n
  ·rw [List.getElem?_replicate_of_lt hj];rfl
  ·rw [List.getElem?_eq_none (by simpa using hj)];rfl
 have eo:a0u (newR n) = []:=rfl;refine ⟨RInv.new n h,by simp [newR],by rw [eo];decide,fun b hb=>by (rw [eo] at hb;cases hb),fun j _=>?_,fun j _=>?_,fun j _ _=>?_,fun j _=>⟨[],by rw [e j,eo];rfl⟩,fun j _ hj=>absurd (e j) hj,fun i hi=>absurd hi (by simp [newR])⟩
 ·rw [d0O];rfl
 ·rw [d0O,eo];exact ⟨[],rfl⟩
 ·rw [d0O];rfl
theorem h0Z {α:Type} (l:List α) (i j:Nat) (a d:α) (hi:i < l.length):(l.set i a).getD j d=if j=i then a else l.getD j d:=by
 rw [List.getD_eq_getElem?_getD,List.getD_eq_getElem?_getD,List.getElem?_set];by_cases h:i=j
 ·subst h;simp [hi]
 ·simp [h,Ne.symm h]
theorem i0a (R:Rs) (h:R.regs.length=8) (c j:Nat) (hc:c < 8) (g:Reg) (R':Rs) (he:R'.regs=R.regs.set c g):R'.reg (j:Int)=if j=c then g else R.reg (j:Int):=by
 rw [j0x,j0x,he,h0Z _ _ _ _ _ (by omega)]
theorem g0s (R:Rs) (c:Int) (x:Sub):a0u (subN R c x)=a0u R++[by8 c]:=by simp [a0u,subN,e0B]
theorem l0J (R:Rs) (c:Int) (x:Sub):d0X (ansR R x) c=a0u R++[by8 c]:=by
 unfold d0X a0u;rw [c0k,d0e];simp [a0M]
theorem k0m (b:UInt8):Hist.bv b=bv b:=rfl
theorem k0n (O:List UInt8) (c:Nat) (hc:c < 256) (j:Int):Hist.cnt (O++[by8 (c:Int)]) j=Hist.cnt O j + if j=(c:Int) then 1 else 0:=by
 rw [Hist.cnt_append,Hist.cnt_one,k0m,d0Q _ (by omega)];by_cases h:(c:Int)=j
 ·rw [if_pos h,if_pos h.symm]
 ·rw [if_neg h,if_neg (Ne.symm h)]
theorem o0Z {R:Rs} {nx:List (List UInt8)} (h:Hon R nx) (c:Nat) (hc:c < R.n) (hx:nx.getD c [] = []) (x:Sub) (hw:x.Wf) (hnum:x.number=(R.reg (c:Int)).asked.number + 1) (h0:subE R (c:Int) x=0) :
  subR R (c:Int) x=subN R (c:Int) x/\subY R (c:Int) x=ansR R x/\Hon (subN R (c:Int) x) (nx.set c (d0X (ansR R x) (c:Int))):=by
 have hne:x.number ≠ (R.reg (c:Int)).asked.number:=by omega
 obtain ⟨-,hf⟩:=r0S h0 hne;have hn:=h.inv.n;have hl:=h.inv.len;have hi:=h.inv.subN hw (h0g h0) hf;have eo:=g0s R (c:Int) x;have ea:=l0J R (c:Int) x
 have hreg:∀ j:Nat,(subN R (c:Int) x).reg (j:Int)=if j=c then { R.reg (c:Int) with asked:=x,ans:=ansR R x } else R.reg (j:Int) :=
  fun j=>i0a R hl c j (by omega) _ _ rfl
 have hnx:∀ j:Nat,(nx.set c (d0X (ansR R x) (c:Int))).getD j []=if j=c then a0u R++[by8 (c:Int)] else nx.getD j []:=fun j=>by
  rw [h0Z _ _ _ _ _ (by rw [h.len];exact hc),ea]
 simp only [f0H,Bool.or_eq_false_iff,decide_eq_false_iff_not] at hf;refine ⟨by unfold subR;rw [if_neg (by omega),if_neg hne],by unfold subY;rw [if_neg (by omega),if_neg hne],hi,by simpa [subN] using h.len,?_,?_,?_,?_,?_,?_,?_,?_⟩
 ·rw [eo,List.length_append,e0h]
  simp only [List.length_cons,List.length_nil];omega
 ·rw [eo]
  intro b hb;simp only [List.mem_append,List.mem_cons,List.not_mem_nil,or_false] at hb;rcases hb with hb | rfl
  ·exact h.bytes b hb
  ·rw [d0Q _ (by omega)];omega
 ·intro j hj
  rw [eo,k0n _ _ (by omega),hreg];have:=h.cnts j hj;by_cases hjc:j=c
  ·subst hjc
   simp only [if_true];omega
  ·rw [if_neg hjc,if_neg (by omega)]
   simpa using this
 ·intro j hj
  obtain ⟨t,ht⟩:=h.views j hj;rw [eo,hreg];by_cases hjc:j=c
  ·subst hjc
   rw [if_pos rfl];exact ⟨t++[by8 (j:Int)],by rw [ht,List.append_assoc]⟩
  ·rw [if_neg hjc]
   exact ⟨t++[by8 (c:Int)],by rw [ht,List.append_assoc]⟩
 ·intro j hj hjx
  rw [hnx] at hjx;by_cases hjc:j=c
  ·rw [if_pos hjc] at hjx
   simp at hjx
  ·rw [if_neg hjc] at hjx
   rw [hreg,if_neg hjc];exact h.done j hj hjx
 ·intro j hj
  rw [hnx,eo];by_cases hjc:j=c
  ·rw [if_pos hjc]
   exact ⟨[],by simp⟩
  ·rw [if_neg hjc]
   obtain ⟨t,ht⟩:=h.goes j hj;exact ⟨t++[by8 (c:Int)],by rw [ht,List.append_assoc]⟩
 ·intro j hj hjx
  rw [hnx] at hjx ⊢;rw [hreg];by_cases hjc:j=c
  ·subst hjc
   rw [if_pos rfl,if_pos rfl];have h1:=h.cnts j hj;have h2:=h.done j hj hx;refine ⟨?_,?_,?_⟩
   ·unfold c0i
    rw [List.length_append];simp only [List.length_cons,List.length_nil,Nat.add_sub_cancel];rw [List.getD_eq_getElem?_getD,List.getElem?_append_right (by omega)];simp only [Nat.sub_self,List.getElem?_cons_zero,Option.getD_some];exact d0Q _ (by omega)
   ·rw [k0n _ _ (by omega)]
    simp only [if_true];omega
   ·simp only
    omega
  ·rw [if_neg hjc] at hjx ⊢
   rw [if_neg hjc];exact h.last j hj hjx
 ·intro i hi2
  have hp:(subN R (c:Int) x).pend=R.pend++[e0B (c:Int) x]:=rfl;have hlg:(subN R (c:Int) x).long=R.long:=rfl;rw [hp] at hi2 ⊢;rw [hlg,eo];simp only [List.length_append,List.length_cons,List.length_nil] at hi2;have hol:=e0h R;by_cases hip:i < R.pend.length
  ·have e1:(R.pend++[e0B (c:Int) x]).getD i c0Q=R.pend.getD i c0Q:=by
    rw [List.getD_eq_getElem?_getD,List.getD_eq_getElem?_getD,List.getElem?_append_left hip]
   rw [e1,List.take_append_of_le_length (by omega)];exact h.nums i hip
  ·have hie:i=R.pend.length:=by omega
   subst hie
   have e1:(R.pend++[e0B (c:Int) x]).getD R.pend.length c0Q=e0B (c:Int) x:=by
    rw [List.getD_eq_getElem?_getD,List.getElem?_append_right (by omega)];simp
   rw [e1,List.take_of_length_le (by simp;omega)];show x.number=_;have h1:=h.cnts c hc;show x.number=((Hist.cnt (a0u R++[by8 (c:Int)]) (c:Int):Nat):Int);rw [k0n _ _ (by omega)];simp only [if_true];omega
theorem cnt_mono (O:List UInt8) (a b:Nat) (hab:a <= b) (c:Int):Hist.cnt (O.take a) c <= Hist.cnt (O.take b) c:=by
 have:=Hist.cnt_take_le (O.take b) a c;rw [List.take_take,Nat.min_eq_left hab] at this;exact this
theorem j0k {α:Type} (p:α->Bool):∀ (l:List α) (i:Nat) (d:α),i < l.length->p (l.getD i d)=true->(∀ j,j < i->p (l.getD j d)=false)->l.findIdx? p=some i
 | [],i,d,h,_,_=>by simp at h
 | a :: l,0,d,_,h,_=>by simpa [List.findIdx?_cons] using h
 | a :: l,i + 1,d,hl,h,hn=>by
  have h0:p a=false:=by simpa using hn 0 (by omega)
  have ih:=j0k p l i d (by simpa using hl) (by simpa using h) (fun j hj=>by simpa using hn (j + 1) (by omega));rw [List.findIdx?_cons,h0,ih];rfl
theorem r0s {R:Rs} {nx:List (List UInt8)} (h:Hon R nx) (c:Nat) (hc:c < R.n) (hx:nx.getD c [] ≠ []) (hlt:R.long.length < (nx.getD c []).length) :
  ∃ i,i < R.pend.length/\(nx.getD c []).length=R.long.length + i + 1/\cutP (c:Int) (R.reg (c:Int)).asked.number R.pend=R.pend.drop (i + 1):=by
 obtain ⟨t,ht⟩:=h.goes c hc;obtain ⟨h1,h2,-⟩:=h.last c hc hx;have hol:=e0h R;have hlen:=congrArg List.length ht;rw [List.length_append] at hlen;have hn:=h.inv.n;obtain ⟨i,hi⟩:∃ i,(nx.getD c []).length=R.long.length + i + 1:=⟨(nx.getD c []).length - R.long.length - 1,by omega⟩;have hip:i < R.pend.length:=by omega
 refine ⟨i,hip,hi,?_⟩
 have etk:nx.getD c []=(a0u R).take (R.long.length + i + 1):=by
  rw [ht,← hi,List.take_left]
 have hby:∀ j,j < R.pend.length->(a0u R).getD (R.long.length + j) 0=by8 (R.pend.getD j c0Q).client:=by
  intro j hj;unfold a0u;rw [List.getD_eq_getElem?_getD,List.getElem?_append_right (by omega),Nat.add_sub_cancel_left,List.getElem?_map,List.getD_eq_getElem?_getD,List.getElem?_eq_getElem hj];rfl
 have hcl:∀ j,j < R.pend.length->0 <= (R.pend.getD j c0Q).client/\(R.pend.getD j c0Q).client < 8:=by
  intro j hj;rw [List.getD_eq_getElem?_getD,List.getElem?_eq_getElem hj];have:=(h.inv.pend _ (List.getElem_mem hj)).cl;exact ⟨this.1,by simp only [Option.getD_some];omega⟩
 have hlast:(R.pend.getD i c0Q).client=(c:Int):=by
  rw [etk] at h1;unfold c0i at h1;rw [List.length_take,Nat.min_eq_left (by omega),List.getD_eq_getElem?_getD,List.getElem?_take_of_lt (by omega),← List.getD_eq_getElem?_getD] at h1;rw [show R.long.length + i + 1 - 1=R.long.length + i by omega,hby i hip,d0Q _ (by have:=hcl i hip;omega)] at h1;exact h1
 have hnum:(R.pend.getD i c0Q).number=(R.reg (c:Int)).asked.number:=by
  rw [h.nums i hip,hlast,← etk];exact h2
 have hf:R.pend.findIdx? (isOp (c:Int) (R.reg (c:Int)).asked.number)=some i:=by
  refine j0k _ _ i c0Q hip ?_ ?_
  ·unfold isOp
   rw [hlast,hnum];simp
  ·intro j hj
   unfold isOp;by_cases hjc:(R.pend.getD j c0Q).client=(c:Int)
   ·have e1:=h.nums j (by omega)
    rw [hjc] at e1;have e2:=cnt_mono (a0u R) (R.long.length + j + 1) (R.long.length + i) (by omega) (c:Int);have e3:=Hist.cnt_step (a0u R) (R.long.length + i) (by omega) (c:Int);rw [hby i hip,k0m,d0Q _ (by have:=hcl i hip;omega),hlast,if_pos rfl,← etk] at e3;have:¬ (R.pend.getD j c0Q).number=(R.reg (c:Int)).asked.number:=by omega
    rw [beq_false_of_ne this,Bool.and_false]
   ·rw [beq_false_of_ne hjc,Bool.false_and]
 unfold cutP;rw [hf]
theorem p0a {R:Rs} {nx:List (List UInt8)} (h:Hon R nx) (c:Nat) (hc:c < R.n) (hx:nx.getD c [] ≠ []) (t:List UInt8) (htl:t.length=32) :
  comE R (c:Int) (nx.getD c []) t=0/\a0u (comR R (c:Int) (nx.getD c []) t)=a0u R/\Hon (comR R (c:Int) (nx.getD c []) t) (nx.set c []):=by
 obtain ⟨tl,ht⟩:=h.goes c hc;obtain ⟨h1,h2,h3⟩:=h.last c hc hx;have hn:=h.inv.n;have hl:=h.inv.len;have hlen:=congrArg List.length ht;rw [List.length_append] at hlen;have hol:=h.olen
 have h0:comE R (c:Int) (nx.getD c []) t=0:=by
  have hok:d0P R (c:Int) (nx.getD c []) t=true:=by
   unfold d0P;rw [p0t];simp only [Bool.and_eq_true,e0l,b0h,e0D,Hist.rightB,bne_iff_ne,decide_eq_true_eq,List.all_eq_true];refine ⟨⟨by omega,by omega⟩,⟨by omega,by omega⟩,hx,⟨⟨by decide,by decide⟩,by omega⟩,fun b hb=>?_⟩;exact h.bytes b (by rw [ht];exact List.mem_append_left _ hb)
  unfold comE;rw [if_neg (by rw [hok];simp),if_neg (by omega),if_neg (by omega)]
 have hr:comR R (c:Int) (nx.getD c []) t=if R.long.length < (nx.getD c []).length then comL R (c:Int) (nx.getD c []) t else comS R (c:Int) (nx.getD c []) t:=by
  unfold comR;rw [if_neg (by omega)]
 have hinv:RInv (comR R (c:Int) (nx.getD c []) t):=h.inv.comR htl
 have eo:a0u (comR R (c:Int) (nx.getD c []) t)=a0u R:=by
  rw [hr];by_cases hlt:R.long.length < (nx.getD c []).length
  ·rw [if_pos hlt]
   obtain ⟨i,hip,hi,hcut⟩:=r0s h c hc hx hlt;show nx.getD c []++(cutP (c:Int) (R.reg (c:Int)).asked.number R.pend).map (fun p=>by8 p.client)=_;rw [hcut]
   have etk:nx.getD c []=(a0u R).take (R.long.length + i + 1):=by
    rw [ht,← hi,List.take_left]
   rw [etk];unfold a0u;rw [show R.long.length + i + 1=R.long.length + (i + 1) by omega,List.take_length_add_append,List.append_assoc,← List.map_take,← List.map_append,List.take_append_drop]
  ·rw [if_neg hlt]
   rfl
 have hrn:(comR R (c:Int) (nx.getD c []) t).n=R.n:=by
  rw [hr];split <;> rfl
 have hreg:∀ j:Nat,(comR R (c:Int) (nx.getD c []) t).reg (j:Int)=if j=c then { R.reg (c:Int) with view:=nx.getD c [],tag:=t } else R.reg (j:Int):=by
  intro j;refine i0a R hl c j (by omega) _ _ ?_;rw [hr]
  split <;> rfl
 have hnx:∀ j:Nat,(nx.set c []).getD j []=if j=c then [] else nx.getD j []:=fun j=>h0Z _ _ _ _ _ (by rw [h.len];exact hc)
 refine ⟨h0,eo,hinv,by rw [hrn];simpa using h.len,by rw [eo];exact hol,by rw [eo];exact h.bytes,?_,?_,?_,?_,?_,?_⟩
 ·intro j hj
  rw [hrn] at hj;rw [eo,hreg];have:=h.cnts j hj;by_cases hjc:j=c
  ·subst hjc
   rw [if_pos rfl];exact this
  ·rw [if_neg hjc]
   exact this
 ·intro j hj
  rw [hrn] at hj;rw [eo,hreg];by_cases hjc:j=c
  ·subst hjc
   rw [if_pos rfl];exact ⟨tl,ht⟩
  ·rw [if_neg hjc]
   exact h.views j hj
 ·intro j hj hjx
  rw [hrn] at hj;rw [hnx] at hjx;rw [hreg];by_cases hjc:j=c
  ·subst hjc
   rw [if_pos rfl];exact h2
  ·rw [if_neg hjc] at hjx ⊢
   exact h.done j hj hjx
 ·intro j hj
  rw [hrn] at hj;rw [eo,hnx];by_cases hjc:j=c
  ·rw [if_pos hjc]
   exact ⟨a0u R,rfl⟩
  ·rw [if_neg hjc]
   exact h.goes j hj
 ·intro j hj hjx
  rw [hrn] at hj;rw [hnx] at hjx ⊢;rw [hreg];by_cases hjc:j=c
  ·rw [if_pos hjc] at hjx
   exact absurd rfl hjx
  ·rw [if_neg hjc] at hjx ⊢
   rw [if_neg hjc];exact h.last j hj hjx
 ·intro i hi
  rw [eo];by_cases hlt:R.long.length < (nx.getD c []).length
  ·obtain ⟨k,hkp,hk,hcut⟩:=r0s h c hc hx hlt
   have hp:(comR R (c:Int) (nx.getD c []) t).pend=R.pend.drop (k + 1):=by
    rw [hr,if_pos hlt,← hcut];rfl
   have hlg:(comR R (c:Int) (nx.getD c []) t).long=nx.getD c []:=by
    rw [hr,if_pos hlt];rfl
   rw [hp,List.length_drop] at hi;rw [hp,hlg,hk]
   have e1:(R.pend.drop (k + 1)).getD i c0Q=R.pend.getD (k + 1 + i) c0Q:=by
    rw [List.getD_eq_getElem?_getD,List.getD_eq_getElem?_getD,List.getElem?_drop]
   rw [e1,show R.long.length + k + 1 + i + 1=R.long.length + (k + 1 + i) + 1 by omega];exact h.nums (k + 1 + i) (by omega)
  ·have hp:(comR R (c:Int) (nx.getD c []) t).pend=R.pend:=by
    rw [hr,if_neg hlt];rfl
   have hlg:(comR R (c:Int) (nx.getD c []) t).long=R.long:=by
    rw [hr,if_neg hlt];rfl
   rw [hp] at hi;rw [hp,hlg];exact h.nums i hi
theorem n0S {O v:List UInt8} (h:∃ t,O=v++t):Hist.goesB O v=true:=by
 obtain ⟨t,rfl⟩:=h;unfold Hist.goesB;rw [List.isPrefixOf_iff_prefix];exact List.prefix_append v t
end Go.Proofs.YtagmnmoaekbffaaGreatDoor.Ms
namespace Go.Proofs.YtagmnmoaekbffaaGreatDoor.Hist
open Go.Proofs.Tryz
open Go
set_option maxRecDepth 100000
theorem p0b (x:List UInt8) (c:Int):∀ (m:Nat),m <= x.length->∀ n:Nat,1 <= n->n <= cnt (x.take m) c->∃ k,k < m/\hit x c n k=true:=by
 intro m
 induction m with
 | zero=>intro _ n h1 h2;simp [cnt_nil] at h2;omega
 | succ m ih =>
  intro hm n h1 h2;have e:=cnt_step x m (by omega) c;by_cases hn:n <= cnt (x.take m) c
  ·obtain ⟨k,hk,hh⟩:=ih (by omega) n h1 hn
   exact ⟨k,by omega,hh⟩
  ·by_cases hb:bv (x.getD m 0)=c
   ·rw [if_pos hb] at e
    exact ⟨m,by omega,(hit_iff x c n m).2 ⟨hb,by omega⟩⟩
   ·rw [if_neg hb] at e
    omega
theorem r0t (x y:List UInt8) (c n:Int) (j:Nat) (hj:j < x.length):hit (x++y) c n j=hit x c n j:=by
 unfold hit;rw [List.take_append_of_le_length (by omega)];have e:(x++y).getD j 0=x.getD j 0:=by simp [List.getD,List.getElem?_append_left hj]
 rw [e]
theorem r0u (x y:List UInt8) (c:Int) (n:Nat) (h1:1 <= n) (h2:n <= cnt x c):placeI (x++y) c n=placeI x c n:=by
 rcases k0z x c n with ⟨_,hno⟩ | ⟨i,hi,hp,ht,hb⟩
 ·obtain ⟨k,hk,hh⟩:=p0b x c x.length (Nat.le_refl _) n h1 (by rw [cnt_all];exact h2)
  rw [hno k hk] at hh
  cases hh
 ·rw [hp]
  refine plc_some (by simp;omega) (by rw [r0t x y c n i hi];exact ht) (fun j hj=>?_);rw [r0t x y c n j (by omega)];exact hb j hj
theorem j0l (x:List UInt8) (c:Int):placeI x c ((0:Nat):Int) = -1:=by
 refine n0f fun j hj=>?_;rw [Bool.eq_false_iff];intro ht;have hh:=(hit_iff x c _ j).1 ht;have e:=cnt_step x j hj c;rw [if_pos hh.1] at e;omega
theorem upto_app (x y:List UInt8) (c:Int) (h:cnt y c=0):uptoL (x++y) c=uptoL x c:=by
 have e:cnt (x++y) c=cnt x c:=by rw [cnt_append,h];rfl
 unfold uptoL;rw [e];by_cases h0:cnt x c=0
 ·rw [h0,j0l,j0l]
  rfl
 ·rw [r0u x y c (cnt x c) (by omega) (Nat.le_refl _)]
  have hr:=h0f x c (cnt x c);rw [List.take_append_of_le_length (by omega)]
end Go.Proofs.YtagmnmoaekbffaaGreatDoor.Hist
namespace Go.Proofs.YtagmnmoaekbffaaGreatDoor.Ms
open Go.Proofs.Tryz
open Go
set_option maxRecDepth 100000
theorem t0e {s:List UInt8} {n:Nat} {c d:Int} {t D:List UInt8} (h:May n (c,d,t)) (hD:D=tagB s (c,d,t)):chkB s n c d t D=true:=by
 unfold chkB;rw [Bool.and_eq_true];exact ⟨decide_eq_true h,decide_eq_true hD.symm⟩
theorem l0K {s:List UInt8} {n:Nat} {c d:Int} {t D:List UInt8} (h:May n (c,d,t)) (hD:D=tagB s (c,d,t)):jdg s n c d t D=0:=by
 unfold jdg;rw [t0e h hD];rfl
theorem g0H {n:Nat} {c d:Int} {t:List UInt8} (h1:0 <= c) (h2:c < (n:Int)) (h3:1 <= d/\d <= 6) (h4:t.length <= 16384):May n (c,d,t):=⟨h1,h2,h3.1,h3.2,h4⟩
def honX (s:List UInt8) (R:Rs) (c kind target:Int) (value:List UInt8):Sub :=
 let nm:Int:=(Hist.cnt (R.reg c).view c:Int) + 1
 ⟨nm,kind,target,value,tagB s (c,1,askB c ⟨nm,kind,target,[],a0n,a0n⟩),tagB s (c,2,numB nm++layT value)⟩
theorem u0W (s:List UInt8) (R:Rs) (c kind target:Int) (value:List UInt8):(honX s R c kind target value).Wf:=⟨c0e _ _,c0e _ _⟩
structure HonT (s:List UInt8) (n:Nat) (R:Rs) (wait:List (List UInt8)):Prop where
 hon:Hon R wait
 nn:R.n=n
 byn:∀ b ∈ a0u R,bv b < (n:Int)
 short:∀ j:Nat,j < n->(R.reg (j:Int)).view.length <= R.long.length
 vtag:∀ j:Nat,j < n->(R.reg (j:Int)).view ≠ []->(R.reg (j:Int)).tag=tagB s ((j:Int),3,(R.reg (j:Int)).view)
 vlast:∀ j:Nat,j < n->(R.reg (j:Int)).view ≠ []->c0i (R.reg (j:Int)).view=(j:Int)
 lnil:R.long = []->R.who = -1
 lwho:R.long ≠ []->(0 <= R.who/\R.who < (n:Int))/\c0i R.long=R.who/\R.ltag=tagB s (R.who,3,R.long)
 pends:∀ p ∈ R.pend,(1 <= p.kind/\p.kind <= 2)/\(0 <= p.target/\p.target < (n:Int))/\p.asked=tagB s (p.client,1,askB p.client (b0V p))
 vals:∀ j:Nat,j < n->((R.reg (j:Int)).asked.number=0->(R.reg (j:Int)).asked.value = [])/\((R.reg (j:Int)).asked.number ≠ 0->(R.reg (j:Int)).asked.data=tagB s ((j:Int),2,numB (R.reg (j:Int)).asked.number++layT (R.reg (j:Int)).asked.value))
theorem t0f (s:List UInt8) (n:Nat) (h:2 <= n/\n <= 8):HonT s n (newR n) (List.replicate n []):=by
 have eo:a0u (newR n) = []:=rfl;refine ⟨u0V n h,rfl,fun b hb=>by (rw [eo] at hb;cases hb),fun j _=>?_,fun j _ hj=>?_,fun j _ hj=>?_,fun _=>rfl,fun hl=>absurd rfl hl,(fun p hp=>by cases hp),fun j _=>?_⟩
 ·rw [d0O];exact Nat.zero_le _
 ·rw [d0O] at hj;exact absurd rfl hj
 ·rw [d0O] at hj;exact absurd rfl hj
 ·rw [d0O];exact ⟨fun _=>rfl,fun hn=>absurd rfl hn⟩
theorem k0o:∀ (n:Nat) (l:List Nat),l.Nodup->(∀ x ∈ l,x < n)->l.length <= n
 | 0,l,_,h=>by
  cases l with
  | nil=>exact Nat.le_refl _
  | cons a l=>exact absurd (h a (by simp)) (by omega)
 | n + 1,l,hd,h=>by
  by_cases hm:n ∈ l
  ·have h1:=k0o n (l.erase n) (hd.erase n) (fun x hx=>by
    have h2:=(hd.mem_erase_iff).1 hx;have:=h x h2.2
    omega)
   rw [List.length_erase_of_mem hm] at h1;omega
  ·have:=k0o n l hd (fun x hx=>by
    have h1:=h x hx;have:x ≠ n:=fun e=>hm (e ▸ hx)
    omega)
   omega
theorem r0v {v:List UInt8} {c:Int} (hne:v ≠ []) (hl:c0i v=c):Hist.uptoL v c=v:=by
 have hlen:0 < v.length:=List.length_pos_iff.2 hne;have hc:bv (v.getD (v.length - 1) 0)=c:=hl;have hs:=Hist.cnt_step v (v.length - 1) (by omega) c;rw [Nat.sub_add_cancel hlen,Hist.cnt_all,k0m,hc,if_pos rfl] at hs
 have hp:Hist.placeI v c (Hist.cnt v c:Int)=((v.length - 1:Nat):Int):=by
  refine Hist.plc_some (by omega) ?_ ?_
  ·rw [Hist.hit_iff,Nat.sub_add_cancel hlen,Hist.cnt_all]
   exact ⟨hc,rfl⟩
  ·intro j hj
   cases hh:Hist.hit v c (Hist.cnt v c:Int) j with
   | false=>rfl
   | true =>
    rw [Hist.hit_iff] at hh;have:=cnt_mono v (j + 1) (v.length - 1) (by omega) c;omega
 unfold Hist.uptoL;rw [hp,show (((v.length - 1:Nat):Int) + 1).toNat=v.length by omega,List.take_length]
theorem g0W {O v:List UInt8} (h:∃ t,O=v++t):v=O.take v.length:=by
 obtain ⟨t,rfl⟩:=h;rw [List.take_left]
structure PF (s:List UInt8) (n:Nat) (R:Rs) (wait:List (List UInt8)) (i:Nat) (q:Nat):Prop where
 ql:q < n
 cl:(R.pend.getD i c0Q).client=(q:Int)
 wait:wait.getD q [] ≠ []
 num:(R.pend.getD i c0Q).number=(Hist.cnt (R.reg (q:Int)).view (q:Int):Int) + 1
 cnt:Hist.cnt ((a0u R).take (R.long.length + i)) (q:Int)=Hist.cnt (R.reg (q:Int)).view (q:Int)
 upto:(R.reg (q:Int)).view ≠ []->Hist.uptoL ((a0u R).take (R.long.length + i)) (q:Int)=(R.reg (q:Int)).view
theorem pf {s:List UInt8} {n:Nat} {R:Rs} {wait:List (List UInt8)} (h:HonT s n R wait) {i:Nat} (hi:i < R.pend.length):∃ q,PF s n R wait i q:=by
 have hn:=h.nn;have hp:=h.hon.inv.pend _ (List.getElem_mem hi);have eg:R.pend.getD i c0Q=R.pend[i]:=by rw [List.getD_eq_getElem?_getD,List.getElem?_eq_getElem hi];rfl
 have hn8:=h.hon.inv.n;obtain ⟨q,hq⟩:∃ q:Nat,R.pend[i].client=(q:Int):=⟨R.pend[i].client.toNat,by have:=hp.cl;omega⟩;have hqn:q < n:=by have:=hp.cl;omega
 have hnum:=h.hon.nums i hi;rw [eg,hq] at hnum;have hol:=e0h R
 have hby:(a0u R).getD (R.long.length + i) 0=by8 (q:Int):=by
  unfold a0u;rw [List.getD_eq_getElem?_getD,List.getElem?_append_right (by omega),Nat.add_sub_cancel_left,List.getElem?_map,List.getElem?_eq_getElem hi];show by8 R.pend[i].client=_;rw [hq]
 have hst:=Hist.cnt_step (a0u R) (R.long.length + i) (by omega) (q:Int);rw [hby,k0m,d0Q _ (by omega),if_pos rfl] at hst;obtain ⟨t,ht⟩:=h.hon.views q (by omega);have hv:=g0W ⟨t,ht⟩;have hsh:=h.short q hqn;have h1:=cnt_mono (a0u R) (R.reg (q:Int)).view.length (R.long.length + i) (by omega) (q:Int);rw [← hv] at h1;have h2:=Hist.cnt_take_le (a0u R) (R.long.length + i + 1) (q:Int);have h3:=h.hon.cnts q (by omega)
 have hw:wait.getD q [] ≠ []:=fun e=>by
  have:=h.hon.done q (by omega) e;omega
 obtain ⟨-,-,h4⟩:=h.hon.last q (by omega) hw;have hc:Hist.cnt ((a0u R).take (R.long.length + i)) (q:Int)=Hist.cnt (R.reg (q:Int)).view (q:Int):=by omega
 refine ⟨q,hqn,by rw [eg,hq],hw,by rw [eg];omega,hc,fun hne=>?_⟩
 have hd:(a0u R).take (R.long.length + i)=(R.reg (q:Int)).view++t.take (R.long.length + i - (R.reg (q:Int)).view.length):=by
  rw [ht,List.take_append];rw [List.take_of_length_le (by omega)]
 rw [hd,Hist.upto_app _ _ _ (by rw [hd,Hist.cnt_append] at hc;omega)];exact r0v hne (h.vlast q hqn hne)
theorem w0L {s:List UInt8} {n:Nat} {R:Rs} {wait:List (List UInt8)} (h:HonT s n R wait) {i j q:Nat} (hij:i < j) (hj:j < R.pend.length) (pi:PF s n R wait i q) (pj:PF s n R wait j q):False:=by
 have h1:=h.hon.nums i (by omega);have h2:=h.hon.nums j hj;rw [pi.cl,pi.num] at h1;rw [pj.cl,pj.num] at h2;have h3:=cnt_mono (a0u R) (R.long.length + i + 1) (R.long.length + j) (by omega) (q:Int);have:=pj.cnt;omega
theorem t0g {s:List UInt8} {n:Nat} {R:Rs} {wait:List (List UInt8)} (h:HonT s n R wait) (c:Nat) (hc:c < n) (hw:wait.getD c [] = []):R.pend.length + 1 <= n:=by
 have hf:∀ i,i < R.pend.length->∃ q:Nat,PF s n R wait i q:=fun i hi=>pf h hi
 have hg:∀ (i:Nat) (hi:i < R.pend.length),PF s n R wait i (R.pend[i].client.toNat):=fun i hi=>by
  obtain ⟨q,hq⟩:=hf i hi;have e:=hq.cl;rw [List.getD_eq_getElem?_getD,List.getElem?_eq_getElem hi] at e;have e2:R.pend[i].client=(q:Int):=e;rw [e2,Int.toNat_natCast];exact hq
 have:=k0o n (c :: R.pend.map fun p=>p.client.toNat) (by
  rw [List.nodup_cons];refine ⟨fun hm=>?_,?_⟩
  ·rw [List.mem_map] at hm
   obtain ⟨p,hp,he⟩:=hm;obtain ⟨i,hi,rfl⟩:=List.getElem_of_mem hp;have:=(hg i hi).wait;rw [he] at this;exact this hw
  ·rw [List.Nodup,List.pairwise_iff_getElem]
   intro i j hi hj hij e;rw [List.getElem_map,List.getElem_map] at e;rw [List.length_map] at hi hj;have p1:=hg i hi;rw [e] at p1
   exact w0L h hij hj p1 (hg j hj)) (fun x hx=>by
  rw [List.mem_cons,List.mem_map] at hx;rcases hx with rfl | ⟨p,hp,rfl⟩
  ·exact hc
  ·obtain ⟨i,hi,rfl⟩:=List.getElem_of_mem hp
   exact (hg i hi).ql)
 simpa using this
theorem i0b {s:List UInt8} {n:Nat} {R:Rs} {wait:List (List UInt8)} (h:HonT s n R wait) (c:Nat) (hc:c < n) (hw:wait.getD c [] = []) (ho:(a0u R).length < 512) {kind target:Int} (hk:1 <= kind/\kind <= 2) (ht:0 <= target/\target < (n:Int)) {value:List UInt8} (hv:value.length <= 256) :
  subE R (c:Int) (honX s R (c:Int) kind target value)=0/\(honX s R (c:Int) kind target value).number=(R.reg (c:Int)).asked.number + 1:=by
 have hn:=h.nn;have hn8:=h.hon.inv.n;have h1:=h.hon.done c (by omega) hw;have h2:=h.hon.cnts c (by omega);have h3:=Hist.cnt_le (a0u R) (c:Int);have h4:=t0g h c hc hw;have hol:=e0h R
 have hnum:(honX s R (c:Int) kind target value).number=(R.reg (c:Int)).asked.number + 1:=by
  show (Hist.cnt (R.reg (c:Int)).view (c:Int):Int) + 1=_;omega
 have hok:c0R R (c:Int) (honX s R (c:Int) kind target value)=true:=by
  unfold c0R;rw [j0w];simp only [Bool.and_eq_true,e0l,b0h,subB,d0l,decide_eq_true_eq];refine ⟨⟨by omega,by omega⟩,⟨by show 0 <= target;omega,by show target < _;omega⟩,⟨by omega,by omega⟩,⟨⟨by omega,by omega⟩,⟨by show 1 <= kind;omega,by show kind <= 2;omega⟩,by show 0 <= target;omega,by show target <= 7;omega⟩,hv⟩
 have hf:f0H R=false:=by
  simp only [f0H,Bool.or_eq_false_iff,decide_eq_false_iff_not];omega
 refine ⟨?_,hnum⟩;unfold subE;rw [if_neg (by rw [hok];simp),if_neg (by omega),if_neg (by omega),if_neg (by rw [hf];simp)]
theorem t0h {s:List UInt8} {n:Nat} {me:Int} {d:List UInt8} {x:Pen} {ps:List Pen} (h:x.client=me):c0T s n me d (x :: ps)=(8,[]):=by unfold c0T;rw [if_pos h]
theorem r0w {s:List UInt8} {n:Nat} {me:Int} {d:List UInt8} {x:Pen} {ps:List Pen} (h:x.client ≠ me) (h2:c0w s n d x ≠ 0):c0T s n me d (x :: ps)=(c0w s n d x,[]):=by unfold c0T;rw [if_neg h,if_pos h2]
theorem n0T {s:List UInt8} {n:Nat} {me:Int} {d:List UInt8} {x:Pen} {ps:List Pen} (h:x.client ≠ me) (h2:c0w s n d x=0):c0T s n me d (x :: ps)=c0T s n me (d++[by8 x.client]) ps:=by
 conv=>lhs;unfold c0T
 rw [if_neg h,if_neg (by rw [h2];decide)]
theorem n0U {s:List UInt8} {n:Nat} {me:Int}:∀ (ps:List Pen) (d:List UInt8),(∀ (i:Nat) (hi:i < ps.length),ps[i].client ≠ me/\c0w s n (d++(ps.take i).map fun p=>by8 p.client) ps[i]=0)->c0T s n me d ps=(0,d++ps.map fun p=>by8 p.client)
 | [],d,_=>by simp [c0T]
 | p :: ps,d,h=>by
  have h0:=h 0 (by simp);have e0:c0w s n d p=0:=by simpa using h0.2
  have ih:=n0U ps (d++[by8 p.client]) (fun i hi=>by
   have:=h (i + 1) (by simpa using hi)
   simpa [List.append_assoc] using this)
  have h1:p.client ≠ me:=h0.1;rw [n0T h1 e0,ih];simp
theorem r0x (y:Rep):mayB (repM y)=repB y:=by
 have hr:g0I (repM y)=true:=by
  unfold g0I;rw [f0E];rcases b0g (2:Int) with ⟨h,_⟩ | ⟨_,e⟩ | ⟨h,_⟩ | ⟨h,_⟩ | ⟨h,_⟩ | ⟨h,_⟩ | ⟨h,_⟩ | ⟨h,_⟩ | ⟨h,_⟩
  ·omega
  ·show a0U (a0T 2) (repM y)=b0m 2 0
   rw [e];obtain ⟨a1,a2,a3,a4,a5,a6,a7,a8,a9,a10⟩:=y;simp [repM,l0T,a0U,e0j,g0Z,h0a,e0k,h0b,h0c,f0t,h0d,h0e,l0S,Slot.zero,Val.n,Val.s,Val.d,Val.p,b0m,a0p]
  all_goals omega
 unfold mayB;rw [hr];simp [a0L,repM,b0m,inB]
theorem r0y (c:Int) (x:Sub) (h:(I64 c/\I64 x.number)/\I64 x.kind/\I64 x.target):(askB c x).length <= 88:=by
 have h1:=b0e c h.1.1;have h2:=b0e x.number h.1.2;have h3:=b0e x.kind h.2.1;have h4:=b0e x.target h.2.2;simp only [askB,List.length_append];omega
theorem r0z (n:Int) (hn:I64 n) (v:List UInt8) (hv:v.length <= 256):(numB n++layT v).length <= 16384:=by
 have h1:=b0e n hn;have h2:=e0i v (by omega);have e:layT v=txtB v:=by unfold layT;rw [if_neg (by omega)]
 rw [e,List.length_append];omega
theorem m0V {s:List UInt8} {n:Nat} {R:Rs} {wait:List (List UInt8)} (h:HonT s n R wait) (ho:(a0u R).length < 512) {i:Nat} (hi:i < R.pend.length) :
  c0w s n ((a0u R).take (R.long.length + i)) { R.pend[i] with proof:=(R.reg R.pend[i].client).tag } = 0:=by
 obtain ⟨q,hq⟩:=pf h hi;have eg:R.pend.getD i c0Q=R.pend[i]:=by rw [List.getD_eq_getElem?_getD,List.getElem?_eq_getElem hi];rfl
 have hp:=h.hon.inv.pend _ (List.getElem_mem hi);obtain ⟨hk,ht,ha⟩:=h.pends _ (List.getElem_mem hi);have hn:=h.nn;have hn8:=h.hon.inv.n;have c1:=hq.cl;have c2:=hq.num;have c3:=hq.cnt;have c4:=hq.upto;rw [eg] at c1 c2;have hqn:=hq.ql;have hcl:=hp.cl;have hnu:=hp.num;have hvl:=(h.hon.inv.reg (q:Int)).view;generalize R.pend[i]=p at *
 have hv:vsub n p.client (b0V { p with proof:=(R.reg p.client).tag })=true:=by
  unfold vsub;rw [j0w];simp only [Bool.and_eq_true,e0l,b0h,subB,d0l,decide_eq_true_eq];refine ⟨⟨by omega,by omega⟩,⟨ht.1,ht.2⟩,⟨by omega,by omega⟩,⟨⟨hnu.1,hnu.2⟩,⟨hk.1,hk.2⟩,ht.1,?_⟩,by simp [b0V]⟩;have h2:=ht.2;show p.target <= 7;omega
 have i1:I64 p.client:=⟨by omega,by omega⟩;have i2:I64 p.number:=⟨by omega,by omega⟩;have i3:I64 p.kind:=⟨by omega,by omega⟩;have i4:I64 p.target:=⟨by omega,by omega⟩
 have hj1:jdg s n p.client 1 (askB p.client (b0V { p with proof:=(R.reg p.client).tag })) p.asked=0:=by
  have hal:=r0y p.client (b0V { p with proof:=(R.reg p.client).tag }) ⟨⟨i1,i2⟩,i3,i4⟩;exact l0K (g0H (by omega) (by omega) (by decide) (by omega)) ha
 have hpr:proE s n ((a0u R).take (R.long.length + i)) { p with proof:=(R.reg p.client).tag } = 0:=by
  unfold proE;by_cases h1:p.number=1
  ·rw [if_pos h1]
  ·rw [if_neg h1]
   show jdg s n p.client 3 (Hist.uptoL _ p.client) (R.reg p.client).tag=0
   have hne:(R.reg (q:Int)).view ≠ []:=fun e=>by
    rw [e,Hist.cnt_nil] at c2;exact h1 (by omega)
   rw [c1,c4 hne];exact l0K (g0H (by omega) (by omega) (by decide) (by omega)) (h.vtag q hqn hne)
 unfold c0w
 rw [if_neg (by rw [hv];decide),if_neg (by
  show ¬ (p.number ≠ (Hist.cnt _ p.client:Int) + 1)
  rw [c1,c3];omega),if_neg (by
  show ¬ (jdg s n p.client 1 (askB p.client (b0V { p with proof:=(R.reg p.client).tag })) p.asked ≠ 0)
  rw [hj1];simp),if_neg (by rw [hpr];simp),if_neg (by rw [List.length_take];omega)]
theorem t0i (R:Rs) (i:Nat):(a0u R).take (R.long.length + i)=R.long++(R.pend.take i).map fun p=>by8 p.client:=by
 unfold a0u;rw [List.take_length_add_append,List.map_take]
theorem g0X {v:List UInt8} {n:Nat} (h1:1 <= n/\n <= 256) (h2:v.length <= 512) (h3:∀ b ∈ v,bv b < (n:Int)):Hist.rightB v (n:Int)=true:=by
 unfold Hist.rightB;simp only [Bool.and_eq_true,decide_eq_true_eq,List.all_eq_true];exact ⟨⟨⟨by omega,by omega⟩,h2⟩,h3⟩
open Go Go.RowKit
set_option maxRecDepth 100000
section
variable {B0:Nat} {w:World} {P p q x vb wb hb h g b n:Nat} {G:List Nat} {R:Rs} {V Wt H:List (List UInt8)} {L:List Ent}
def mkX (s:List UInt8) (V:List (List UInt8)) (c kind target:Int) (value:List UInt8):Sub :=
 let nm:Int:=(Hist.cnt (V.getD c.toNat []) c:Int) + 1
 ⟨nm,kind,target,value,tagB s (c,1,askB c ⟨nm,kind,target,[],a0n,a0n⟩),tagB s (c,2,numB nm++layT value)⟩
def d0S (k:Int):Int:=if k.tmod 2=1 then 2 else 1
def d0T (k c tg:Int):Int:=if k.tmod 2=1 then tg else c
def k0p (k:Int) (held value:List UInt8):List UInt8:=if k.tmod 2=1 then held else value
theorem n0V (L:List Ent) (x:Ent):(e0M L x).length <= L.length + 1:=by unfold e0M;split <;> simp
theorem St.pcell (s:St B0 w P p q x vb wb hb h g b n G R V Wt H L) {i:Nat} {v:Value} (hv:(c0x p q x vb wb hb n)[i]? = some v) {X:List Nat} {W:World} (hk:Kp X w W) (hX:P ∉ X):W.cell? ⟨P,i,none⟩=some v:=by
 have:=a0k (hk.row s.row hX) i v hv
 rwa [Nat.zero_add] at this
theorem St.pb (s:St B0 w P p q x vb wb hb h g b n G R V Wt H L):P ≠ b:=by
 have:=(s.o1 b (by simp)).1;omega
theorem St.rkp (s:St B0 w P p q x vb wb hb h g b n G R V Wt H L) {X:List Nat} {W:World} (hk:Kp X w W) (hX:∀ y ∈ X,B0 <= y/\(y=b ∨ (p < y/\h < y/\g < y/\b < y))) {L':List Ent} (hb:Book W b L'):RgL W p h g b seed n L':=by
 have r:=s.ring;have k6:=s.k6
 have e1:∀ z ∈ [p,h,g],z ∉ X:=by
  intro z hz hx;obtain ⟨h1,h2⟩:=hX z hx;simp only [List.mem_cons,List.not_mem_nil,or_false] at hz;have np:p ≠ b:=r.ring.book.ne r.ring.obj;have nh:h ≠ b:=r.ring.book.ne r.ring.var;have ng:g ≠ b:=r.ring.book.ne r.ring.keys;rcases hz with rfl | rfl | rfl <;> omega
 have e0:∀ z,z < 6->z ∉ X:=fun z hz hx=>by have:=(hX z hx).1;omega
 refine ⟨r.n2,r.n8,⟨hk.row r.ring.obj (e1 p (by simp)),hk.row r.ring.var (e1 h (by simp)),hk.row r.ring.keys (e1 g (by simp)),hb⟩,?_,?_⟩
 ·obtain ⟨t,fr,h0⟩:=r.kt
  exact ⟨t,fr,hk.row h0 (e0 0 (by decide))⟩
 ·obtain ⟨h1,tp,q',h2⟩:=r.tb
  have hv:∀ {i:Nat} {nm:String} {cs:Array Value},prog.globalNamed nm=some i->i < 6->w.var? prog nm=some cs->W.var? prog nm=some cs:=by
   intro i nm cs hg hi hv;unfold World.var? at *;rw [hg] at *;simp only [Option.bind_some] at *
   cases e:w.heap[i]? with
   | none=>rw [e] at hv;cases hv
   | some o=>rw [hk.row e (e0 i hi),← e];exact hv
  exact ⟨hv Lay.gPow (by decide) h1,tp,q',hv Lay.gRange (by decide) h2⟩
theorem j0m (s:St B0 w P p q x vb wb hb h g b n G R V Wt H L) {c:Nat} (hc:c < n) (k tg:Int) (htg:I64 tg) (av:List UInt8) (hav:av.length <= 256) (hH:∀ j,(H.getD j []).length <= 256) (hV:∀ j,(V.getD j []).length <= 100000) (hL:L.length + 2 < 1000000) :
  Calls prog 9 #[pt P 0,.agg #[nu k,nu c,nu tg,st av]] w fun e w'=>e = .returned (.agg (subC (mkX seed V c (d0S k) (d0T k c tg) (k0p k (H.getD c []) av))).toArray)/\Kp [b,hb] w w'
   /\ ∃ L',L'.length <= L.length + 2/\St B0 w' P p q x vb wb hb h g b n G R V Wt (H.set c (k0p k (H.getD c []) av)) L':=by
 have hn8:=s.ring.n8;have hbk:=s.ring.ring.book;obtain ⟨l1,l2,l3,l4,l5,l6⟩:=s.low;obtain ⟨o1,o2,o3,o4,o5⟩:=s.o1 b (by simp);have hhb:hb ≠ b:=by omega
 have hlt:=a0D s.held;have hcH:c < H.length:=by rw [s.lh];exact hc
 have hcV:c < V.length:=by rw [s.lv];exact hc
 have hPX:P ∉ [b,hb]:=by simp only [List.mem_cons,List.not_mem_nil,or_false,not_or];exact ⟨s.pb,s.ne.2.2.2.2.2⟩
 obtain ⟨VW,hVW⟩:∃ VW,VW=V.getD c []:=⟨_,rfl⟩;have hVl:VW.length <= 100000:=by rw [hVW];exact hV c
 have hcl:=Hist.cnt_le VW (c:Int);obtain ⟨VL,hVL⟩:∃ VL,VL=k0p k (H.getD c []) av:=⟨_,rfl⟩
 have hVLl:VL.length <= 256:=by
  rw [hVL];unfold k0p
  split
  ·exact hH c
  ·exact hav
 have iK:I64 (d0S k):=by unfold d0S;split <;> exact ⟨by decide,by decide⟩
 have ic:I64 (c:Int):=⟨by omega,by omega⟩;have iT:I64 (d0T k c tg):=by unfold d0T;split;exact htg;exact ic
 have iN:I64 ((Hist.cnt VW (c:Int):Int) + 1):=⟨by omega,by omega⟩
 have eX:mkX seed V c (d0S k) (d0T k c tg) VL=⟨(Hist.cnt VW (c:Int):Int) + 1,d0S k,d0T k c tg,VL,tagB seed (c,1,askB c ⟨(Hist.cnt VW (c:Int):Int) + 1,d0S k,d0T k c tg,[],a0n,a0n⟩),tagB seed (c,2,numB ((Hist.cnt VW (c:Int):Int) + 1)++layT VL)⟩:=by
  unfold mkX;rw [Int.toNat_natCast,← hVW]
 rw [← hVL,eX];have lA:=r0y (c:Int) ⟨(Hist.cnt VW (c:Int):Int) + 1,d0S k,d0T k c tg,[],a0n,a0n⟩ ⟨⟨ic,iN⟩,iK,iT⟩;have lD:=r0z _ iN VL hVLl;generalize hTA:askB (c:Int) ⟨(Hist.cnt VW (c:Int):Int) + 1,d0S k,d0T k c tg,[],a0n,a0n⟩=TA at *;generalize hTD:numB ((Hist.cnt VW (c:Int):Int) + 1)++layT VL=TD at *;obtain ⟨DA,hDA⟩:∃ DA,DA=tagB seed ((c:Int),1,TA):=⟨_,rfl⟩;obtain ⟨DD,hDD⟩:∃ DD,DD=tagB seed ((c:Int),2,TD):=⟨_,rfl⟩;have lDA:DA.length=32:=by rw [hDA];exact c0e _ _
 have lDD:DD.length=32:=by rw [hDD];exact c0e _ _
 rw [← hDA,← hDD];have hxw:Sub.Wf ⟨(Hist.cnt VW (c:Int):Int) + 1,d0S k,d0T k c tg,VL,DA,DD⟩:=⟨lDA,lDD⟩;have mA:May n ((c:Int),1,TA):=g0H (by omega) (by omega) (by decide) (by omega);have mD:May n ((c:Int),2,TD):=g0H (by omega) (by omega) (by decide) (by omega)
 have hkp:∀ y ∈ [b,hb],B0 <= y/\(y=b ∨ (p < y/\h < y/\g < y/\b < y)):=by
  intro y hy;have q1:=(s.o1 p (by simp)).2.2.2.1;have q2:=(s.o1 h (by simp)).2.2.2.1;have q3:=(s.o1 g (by simp)).2.2.2.1;simp only [List.mem_cons,List.not_mem_nil,or_false] at hy;rcases hy with rfl | rfl
  ·exact ⟨l1,Or.inl rfl⟩
  ·exact ⟨l5,Or.inr ⟨q1,q2,q3,o4⟩⟩
 have hnl:=fun (L:List Ent) (e:Ent)=>n0V L e
 refine (l0I (n:=n) (cn:=(Hist.cnt VW (c:Int):Int)) (nm:=(Hist.cnt VW (c:Int):Int) + 1) (KD:=d0S k) (TG:=d0T k c tg) (vw:=VW) (vl:=VL) (TA:=TA) (TD:=TD) (rd:=k.tmod 2 == 1) (vo:=st (H.getD c [])) (vo2:=st VL) (TL:=dg a0n++dg a0n) (ZD0:=dg a0n) (Z:=subC c0j)
  (D1:=dg DA) (D2:=dg DD) (V2:=subC ⟨(Hist.cnt VW (c:Int):Int) + 1,d0S k,d0T k c tg,VL,DA,DD⟩) (A1:=[nu ((Hist.cnt VW (c:Int):Int) + 1),nu (d0S k),nu (d0T k c tg),st VL]) (V0:=subC ⟨(Hist.cnt VW (c:Int):Int) + 1,1,c,[],a0n,a0n⟩) (V1:=subC ⟨(Hist.cnt VW (c:Int):Int) + 1,d0S k,d0T k c tg,VL,a0n,a0n⟩)
  (HA:=(H.take c).map st) (HC:=(H.drop (c + 1)).map st) (L0:=L) (L1:=e0M L (c,1,TA)) (L2:=e0M (e0M L (c,1,TA)) (c,2,TD))
  hc hlt hhb ?_ ?_ rfl ?_ zeroSubY (a0h wfZeroS) ?_ zeroDigY (by simp [a0e,a0n]) rfl (u0F _ (by omega) (by omega)) rfl (fun W=>j0i W _ _ _) (fun W=>Hist.rcount_any VW (by omega) (c:Int) W)
  (fun W hk=>s.pcell (i:=0) rfl hk hPX) (fun W hk=>s.pcell (i:=3) rfl hk hPX) (fun W hk=>s.pcell (i:=5) rfl hk hPX) (fun W hb=>by rw [hVW];exact m0U (a0a s.views hb) hcV) (h0Y s.held hcH) (by simp;omega) rfl hbk
  ?_ ?_ ?_ ?_ (by rw [a0e,lDA]) (h0X _) (l0E lDA) (by rw [a0e,lDD]) (h0X _) (l0E lDD) ?_ rfl ?_ (by simp [a0e,lDA]) (a0h hxw) (f0w _) (szSY hxw) ?_ ?_).mono ?_
 ·show _=_;simp [subC]
 ·show _=_;simp [subC]
 ·intro v hv
  rcases List.mem_append.1 hv with hv | hv <;> exact h0X _ v hv
 ·intro l hl
  rw [hl];exact sizeSub
 ·intro W
  have e:=o0w v0X (c:Int) ic ⟨(Hist.cnt VW (c:Int):Int) + 1,d0S k,d0T k c tg,VL,a0n,a0n⟩ ⟨rfl,rfl⟩ iN iK iT W;rw [q0g] at e;rw [← hTA];exact e
 ·intro W
  have e:=j0Q x0f v0X ((Hist.cnt VW (c:Int):Int) + 1) iN VL W;rw [← hTD];exact e
 ·intro W hk hb
  have e:=u0I (s.rkp hk hkp hb) (c:Int) 1 TA mA (by omega);rw [← hDA] at e;exact e
 ·intro W hk hb
  have e:=u0I (s.rkp hk hkp hb) (c:Int) 2 TD mD (by have:=hnl L ((c:Int),1,TA);omega);rw [← hDD] at e;exact e
 ·show _=_;simp [subC]
 ·show _=_;simp [subC]
 ·intro hr
  have h2:k.tmod 2=1:=by simpa using hr
  unfold d0S d0T;rw [if_pos h2,if_pos h2,hVL];unfold k0p;rw [if_pos h2];exact ⟨rfl,rfl,rfl⟩
 ·intro hr
  have h2:¬ k.tmod 2=1:=by simpa using hr
  unfold d0S d0T;rw [if_neg h2,if_neg h2,hVL];unfold k0p;rw [if_neg h2];exact ⟨rfl,rfl,rfl⟩
 ·rintro e w' ⟨he,hb',hk,hh⟩
  obtain ⟨q1,q2,q3,q4⟩:=s.out;obtain ⟨n1,n2,n3,n4,n5,n6⟩:=s.ne;obtain ⟨x1,x2,x3,x4,x5⟩:=s.o1 q (by simp);have a1:=hnl L ((c:Int),1,TA);have a2:=hnl (e0M L ((c:Int),1,TA)) ((c:Int),2,TD);refine ⟨he,hk,_,?_,⟨hk.row s.row hPX,hk.row s.views ?_,hk.row s.waits ?_,k0l hh hcH,s.regs.kp hk ?_,s.rkp hk hkp hb',⟨hk.row s.ref.obj ?_,Or.inl ⟨rfl,rfl⟩⟩,s.lv,s.lw,by simpa using s.lh,s.k6,s.low,s.o1,s.qb,s.ne,s.out⟩⟩
  ·omega
  ·simp only [List.mem_cons,List.not_mem_nil,or_false,not_or];exact ⟨by omega,n2⟩
  ·simp only [List.mem_cons,List.not_mem_nil,or_false,not_or];exact ⟨by omega,n3⟩
  ·intro y hy
   simp only [List.mem_cons,List.not_mem_nil,or_false,not_or];exact ⟨by have:=o5 y hy;omega,fun e=>q4 (e ▸ hy)⟩
  ·simp only [List.mem_cons,List.not_mem_nil,or_false,not_or];exact ⟨s.qb,by omega⟩
end
end Go.Proofs.YtagmnmoaekbffaaGreatDoor.Ms
