/- S30 -/
import Derived.Test.YtagmnmoaekbffaaGreatDoorS03
import Derived.Test.YtagmnmoaekbffaaGreatDoorS08
import Derived.Test.YtagmnmoaekbffaaGreatDoorS01
import Derived.Laws.Concat
import Derived.Test.YtagmnmoaekbffaaGreatDoorS25
namespace Go.Proofs.YtagmnmoaekbffaaGreatDoor.Ms
open Go.Proofs.Tryz
open Go Go.RowKit
set_option maxRecDepth 100000
theorem s0S {x c:Value} (h:x=c):[x].toArray=#[c]:=by rw [h]
theorem s0T {x c y d:Value} (h:x=c) (k:y=d):[x,y].toArray=#[c,d]:=by rw [h,k]
theorem w0j {x c y d z e:Value} (h:x=c) (k:y=d) (l:z=e):[x,y,z].toArray=#[c,d,e]:=by rw [h,k,l]
theorem s0U {x c y d z e u f:Value} (h:x=c) (k:y=d) (l:z=e) (m:u=f):[x,y,z,u].toArray=#[c,d,e,f]:=by rw [h,k,l,m]
def vG (S:List Nat) (sp:Nat->Value->World->Prop) (cs:List Value) (i:Nat) (v:Value) (w:World):Prop:=if i ∈ S then sp i v w else v=cs.getD i undef
section
variable {S:List Nat} {sp:Nat->Value->World->Prop} {cs:List Value} {i:Nat} {v:Value} {w:World}
theorem vG_c (h:vG S sp cs i v w) (hi:i ∉ S):v=cs.getD i undef:=by
 unfold vG at h
 rwa [if_neg hi] at h
theorem vG_s (h:vG S sp cs i v w) (hi:i ∈ S):sp i v w:=by
 unfold vG at h
 rwa [if_pos hi] at h
theorem mkC (hi:i ∉ S) (h:v=cs.getD i undef):vG S sp cs i v w:=by
 unfold vG
 rwa [if_neg hi]
theorem mkS (hi:i ∈ S) (h:sp i v w):vG S sp cs i v w:=by
 unfold vG
 rwa [if_pos hi]
theorem u0H (hsp:∀ i v w w',sp i v w->Below w.heap.size w w'->sp i v w'):∀ i v w w',vG S sp cs i v w->Below w.heap.size w w'->vG S sp cs i v w':=by
 intro i v w w' h hb;unfold vG at h ⊢;by_cases hi:i ∈ S
 ·rw [if_pos hi] at h ⊢
  exact hsp i v w w' h hb
 ·rw [if_neg hi] at h ⊢
  exact h
end
theorem t0I (g off:Nat) (w:World):(Instr.fieldAt 40 (.pointer (some ⟨g,off,none⟩)) 0).run prog w = .ok (.pointer (some ⟨g,off + 0,none⟩)) w:=by kernel_rfl
theorem w0k (g off:Nat) (w:World):(Instr.fieldAt 40 (.pointer (some ⟨g,off,none⟩)) 1).run prog w = .ok (.pointer (some ⟨g,off + 1,none⟩)) w:=by kernel_rfl
theorem w0l (g off:Nat) (w:World):(Instr.fieldAt 40 (.pointer (some ⟨g,off,none⟩)) 2).run prog w = .ok (.pointer (some ⟨g,off + 2,none⟩)) w:=by kernel_rfl
theorem w0m (g off:Nat) (w:World):(Instr.fieldAt 40 (.pointer (some ⟨g,off,none⟩)) 4).run prog w = .ok (.pointer (some ⟨g,off + 4,none⟩)) w:=by kernel_rfl
theorem w0n (g off:Nat) (w:World):(Instr.fieldAt 86 (.pointer (some ⟨g,off,none⟩)) 4).run prog w = .ok (.pointer (some ⟨g,off + 4,none⟩)) w:=by kernel_rfl
theorem w0o (g off:Nat) (w:World):(Instr.fieldAt 86 (.pointer (some ⟨g,off,none⟩)) 5).run prog w = .ok (.pointer (some ⟨g,off + 5,none⟩)) w:=by kernel_rfl
theorem w0p (g off:Nat) (w:World):(Instr.fieldAt 86 (.pointer (some ⟨g,off,none⟩)) 6).run prog w = .ok (.pointer (some ⟨g,off + 6,none⟩)) w:=by kernel_rfl
theorem t0J (g off:Nat) (w:World):(Instr.fieldAt 86 (.pointer (some ⟨g,off,none⟩)) 7).run prog w = .ok (.pointer (some ⟨g,off + 38,none⟩)) w:=by kernel_rfl
open Go Go.RowKit
def vA (ia st:Nat) (T:TypeId) (len:Nat) (new:List Value) (B:Nat) (cs:List Value) (L:Nat->Bool) (i:Nat) (v:Value) (w:World):Prop :=
 if i=ia then ∃ g row,v=pt g 0/\B <= g/\w.heap[g]? = some (.cells (List.toArray row) T)/\row.length=len/\(L st=true->row=new) else v=cs.getD i undef
section
variable {P:Program} {ops:Array Oper} {Q:Exit->Act->World->Prop} {N:Nat} {a0:Act} {w0:World} {ia st:Nat} {T:TypeId} {len:Nat} {new cs:List Value} {i:Nat} {o:Oper}
theorem vA_c {B:Nat} {L:Nat->Bool} {v:Value} {w:World} (h:vA ia st T len new B cs L i v w) (hi:i ≠ ia):v=cs.getD i undef:=by
 unfold vA at h
 rwa [if_neg hi] at h
theorem d0I (c:Value) (hi:i ≠ ia) (hi':i ≠ st) (hc:cs.getD i undef=c)
  (H:∀ (L:Nat->Bool) (a:Act) (w:World),Below w0.heap.size w0 w->(∀ j,waits o j=true->L j=true)->(∀ t,d0Z ops i t=true->a.tmps.getD t undef=a0.tmps.getD t undef)->(∀ j d,waits o j=true->j ≠ ia->a0E ops j=some d->a.tmps.getD d undef=cs.getD j undef)->∀ K:Act->World->Prop,K (a.put o.dst c) w->o.wp P a w K Q) :
  Owe P ops Q N a0 (vA ia st T len new w0.heap.size cs) (fun _ w=>Below w0.heap.size w0 w) i o:=by
 intro L a w hLi hw hnot hJ hs hk hv;refine H L a w hJ hw hk (fun j d hj h9 hd=>vA_c (hv j d (hw j hj) hd) h9) _ ⟨c,rfl,fun _=>?_,hJ,fun j d hj hd=>?_⟩
 ·unfold vA
  rw [if_neg hi];exact hc.symm
 ·have hu:=hv j d hj hd
  unfold vA at hu ⊢;rw [b0p hi'];exact hu
theorem o0P (hop:o.op = .alloc T) (z:List Value) (hz:(P.info? T).map (·.zero)=some (some (.agg z.toArray))) (hl:z.length=len) (ost:Oper) (hst:ops[st]? = some ost) (hws:waits ost ia=true) (hne:ia ≠ st) :
  Owe P ops Q N a0 (vA ia st T len new w0.heap.size cs) (fun _ w=>Below w0.heap.size w0 w) ia o:=by
 intro L a w hLi hw hnot hJ hs hk hv;refine g0Q T hop z.toArray hz ⟨_,rfl,fun _=>?_,hJ.trans ((a0c w _).mono hJ.size),fun j d hj hd=>?_⟩
 ·unfold vA
  rw [if_pos rfl];refine ⟨w.heap.size,z,rfl,hJ.size,a0f w _,hl,fun h10=>?_⟩;rw [b0p hne,hnot st _ hst hws] at h10
  cases h10
 ·have hj9:j ≠ ia:=by rintro rfl;rw [hLi] at hj;cases hj
  have:=vA_c (hv j d hj hd) hj9;unfold vA;rw [if_neg hj9];exact this
theorem o0Q (x y:Tmp) (hop:o.op = .store T (.tmp x) (.tmp y)) (hn:o.dst=none) (hx:a0E ops ia=some x) (iy:Nat) (hiy:a0E ops iy=some y) (hia:iy ≠ ia) (hw1:waits o ia=true) (hw2:waits o iy=true) (hcy:cs.getD iy undef = .agg new.toArray) (hlen:new.length=len) (h1:∀ v ∈ new,v.oneCell' = true) (hi:(P.info? T).map (·.size)=some new.length) :
  Owe P ops Q N a0 (vA ia st T len new w0.heap.size cs) (fun _ w=>Below w0.heap.size w0 w) st o:=by
 intro L a w hLi hw hnot hJ hs hk hv;have h9:=hv ia x (hw ia hw1) hx;have h7:=(vA_c (hv iy y (hw iy hw2) hiy) hia).trans hcy;unfold vA at h9;rw [if_pos rfl] at h9;obtain ⟨g,row,e1,hg,hrow,hl,-⟩:=h9;refine j0E T (.tmp x) (.tmp y) hop hn g e1 new row h7 T hrow (hl.trans hlen.symm) h1 hi ⟨undef,by rw [hn];rfl,fun h=>(by rw [hn] at h;exact Bool.noConfusion h),?_,fun j d hj hd=>?_⟩
 ·exact hJ.trans (((Kp.refl [g] w).setRow g _ (Or.inl (by simp))).below (by simpa using hg) hJ.size)
 ·by_cases hj9:j=ia
  ·subst hj9
   have:d=x:=by
    rw [hx] at hd
    cases hd
    rfl
   subst this;unfold vA;rw [if_pos rfl];exact ⟨g,new,e1,hg,setRow_heap w g _ _ _ (0,0) hrow,hlen,fun _=>rfl⟩
  ·have:=vA_c (hv j d hj hd) hj9
   unfold vA;rw [if_neg hj9];exact this
theorem e0f (f:Nat->Option Nat) (c:Nat->Value):∀ (l:List Nat) (B:Array Value),l.foldl (fun B i=>match f i with | some d=>B.setIfInBounds d (c i) | none=>B) B=(l.filterMap fun i=>(f i).map fun d=>(d,c i)).foldl (fun B p=>B.setIfInBounds p.1 p.2) B
 | [],_=>rfl
 | i :: l,B=>by
  rw [List.foldl_cons,e0f f c l,List.filterMap_cons]
  cases f i <;> rfl
theorem k0a {id:Nat} (ia st da:Nat) (T:TypeId) (len:Nat) (new cs:List Value) (ds:Nat->List (Nat × Value)) (hf:P.follows .mixedOrders=true) (hok:okMd ops N=true) (hN:a0.tmps.size=N)
  (hdst:a0E ops ia=some da) (hst:st < ops.size) (hic:ia < cs.length) (hds:∀ g,(List.range ops.size).filterMap (fun i=>(a0E ops i).map fun d=>(d,(cs.set ia (pt g 0)).getD i undef))=ds g)
  (hown:∀ i o,ops[i]? = some o->Owe P ops Q N a0 (vA ia st T len new w0.heap.size cs) (fun _ w=>Below w0.heap.size w0 w) i o)
  (hend:∀ g W,w0.heap.size <= g->W.heap[g]? = some (.cells new.toArray T)->Below w0.heap.size w0 W->Q .normal { tmps:=(ds g).foldl (fun B p=>B.setIfInBounds p.1 p.2) a0.tmps,defers:=a0.defers } W) :
  (Code.region id ops true).wp P Q a0 w0:=by
 refine e0G (N:=N) (vA ia st T len new w0.heap.size cs) (fun _ w=>Below w0.heap.size w0 w) hf hok hN (fun w1 h1=>h1) hown ?_;intro L a W hall hJ hs hd hk hv;have h9:=hv ia da hdst;unfold vA at h9;rw [if_pos rfl] at h9;obtain ⟨g,row,e1,hg,hrow,-,hrx⟩:=h9;obtain rfl:=hrx (hall st hst)
 have e:=g0R (c:=fun i=>(cs.set ia (pt g 0)).getD i undef) (hs.trans hN.symm) hk (fun i d hdd=>by
  by_cases h9:i=ia
  ·subst h9
   rw [hdst] at hdd
   cases hdd
   rw [e1,List.getD_eq_getElem?_getD,List.getElem?_set_self hic];rfl
  ·rw [vA_c (hv i d hdd) h9,List.getD_eq_getElem?_getD,List.getD_eq_getElem?_getD,List.getElem?_set_ne (fun h=>h9 h.symm)])
 have e2:=e.trans (e0f (fun i=>a0E ops i) (fun i=>(cs.set ia (pt g 0)).getD i undef) (List.range ops.size) a0.tmps);rw [hds] at e2
 have ea:a = { tmps:=(ds g).foldl (fun B p=>B.setIfInBounds p.1 p.2) a0.tmps,defers:=a0.defers }:=by
  obtain ⟨tm,df⟩:=a
  cases e2
  cases hd
  rfl
 rw [ea];exact hend g W hg hrow hJ
end
open Go Go.RowKit
set_option maxRecDepth 100000
section
variable {P:Program} {ops:Array Oper} {Q:Exit->Act->World->Prop} {N:Nat} {a0:Act} {w0:World} {i:Nat} {o:Oper}
def OweK (P:Program) (ops:Array Oper) (Q:Exit->Act->World->Prop) (a0:Act) (cs:List Value) (J:(Nat->Bool)->World->Prop) (i:Nat) (o:Oper):Prop :=
 ∀ L a w,L i=false->(∀ j,waits o j=true->L j=true)->(∀ j oj,ops[j]? = some oj->waits oj i=true->L j=false)->J L w ->
  (∀ t,d0Z ops i t=true->a.tmps.getD t undef=a0.tmps.getD t undef)->(∀ j d,waits o j=true->a0E ops j=some d->a.tmps.getD d undef=cs.getD j undef) ->
  ∀ K:Act->World->Prop,(∀ w',J (up L i) w'->K (a.put o.dst (cs.getD i undef)) w')->o.wp P a w K Q
theorem b0W {id:Nat} (cs:List Value) (J:(Nat->Bool)->World->Prop) (ds:List (Nat × Value)) (hf:P.follows .mixedOrders=true) (hok:okMd ops N=true) (hN:a0.tmps.size=N)
  (h0:∀ w1,Below w0.heap.size w0 w1->J (fun _=>false) w1) (hds:(List.range ops.size).filterMap (fun i=>(a0E ops i).map fun d=>(d,cs.getD i undef))=ds)
  (hown:∀ i o,ops[i]? = some o->OweK P ops Q a0 cs J i o)
  (hend:∀ L W,(∀ i,i < ops.size->L i=true)->J L W->Q .normal { tmps:=ds.foldl (fun B p=>B.setIfInBounds p.1 p.2) a0.tmps,defers:=a0.defers } W) :
  (Code.region id ops true).wp P Q a0 w0:=by
 refine e0G (N:=N) (fun _ i v _=>v=cs.getD i undef) J hf hok hN h0 ?_ ?_
 ·intro i o ho L a w hLi hw hnot hJ hs hk hv
  exact hown i o ho L a w hLi hw hnot hJ hk (fun j d hj hd=>hv j d (hw j hj) hd) _ (fun w' hJ'=>⟨_,rfl,fun _=>rfl,hJ',fun j d hj hd=>hv j d hj hd⟩)
 ·intro L a W hall hJ hs hd hk hv
  have e:=g0R (c:=fun i=>cs.getD i undef) (hs.trans hN.symm) hk hv;have e2:=e.trans (e0f (fun i=>a0E ops i) (fun i=>cs.getD i undef) (List.range ops.size) a0.tmps);rw [hds] at e2
  have ea:a = { tmps:=ds.foldl (fun B p=>B.setIfInBounds p.1 p.2) a0.tmps,defers:=a0.defers }:=by
   obtain ⟨tm,df⟩:=a
   cases e2
   cases hd
   rfl
  rw [ea];exact hend L W hall hJ
theorem l0o (ty:TypeId) (l:List (Nat × Operand)) (ho:o.op = .build ty l.toArray) (z:Value) {a:Act} {w:World} {K:Act->World->Prop} (hr:(Instr.build ty (l.map fun x=>(x.1,a.eval x.2)).toArray).run P w = .ok z w) (h:K (a.put o.dst z) w):o.wp P a w K Q:=by
 unfold Oper.wp execOp;simp only [ho,List.map_toArray,Sem.run_bind,hr,Result.andThen_ok,Sem.run_pure];exact h
end
def spN (st:Nat) (T:TypeId) (len:Nat) (new:List Value) (B:Nat) (L:Nat->Bool) (v:Value) (w:World):Prop :=
 ∃ g row,v=pt g 0/\B <= g/\w.heap[g]? = some (.cells (List.toArray row) T)/\row.length=len/\(L st=true->row=new)
def vN (ia st:Nat) (T:TypeId) (len:Nat) (new:List Value) (B:Nat) (cs:List Value) (L:Nat->Bool) (i:Nat) (v:Value) (w:World):Prop :=
 if i=ia then spN st T len new B L v w else v=cs.getD i undef
section
variable {P:Program} {ops:Array Oper} {Q:Exit->Act->World->Prop} {N:Nat} {a0:Act} {w0:World} {i:Nat} {o:Oper} {ia st:Nat} {T:TypeId} {len:Nat} {new cs:List Value} {B:Nat} {J:(Nat->Bool)->World->Prop}
theorem vN_c {L:Nat->Bool} {v:Value} {w:World} (h:vN ia st T len new B cs L i v w) (hi:i ≠ ia):v=cs.getD i undef:=by
 unfold vN at h
 rwa [if_neg hi] at h
theorem oweN (c:Value) (hi:i ≠ ia) (hi':i ≠ st) (hc:cs.getD i undef=c)
  (H:∀ (L:Nat->Bool) (a:Act) (w:World),L i=false->J L w->(∀ j,waits o j=true->L j=true)->(∀ j oj,ops[j]? = some oj->waits oj i=true->L j=false)->(∀ t,d0Z ops i t=true->a.tmps.getD t undef=a0.tmps.getD t undef)->(∀ j d,waits o j=true->j ≠ ia->a0E ops j=some d->a.tmps.getD d undef=cs.getD j undef) ->
   ∀ K:Act->World->Prop,(∀ w',J (up L i) w'->(∀ k r,B <= k->w.heap[k]? = some (.cells r T)->w'.heap[k]? = some (.cells r T))->K (a.put o.dst c) w')->o.wp P a w K Q) :
  Owe P ops Q N a0 (vN ia st T len new B cs) J i o:=by
 intro L a w hLi hw hnot hJ hs hk hv;refine H L a w hLi hJ hw hnot hk (fun j d hj h9 hd=>vN_c (hv j d (hw j hj) hd) h9) _ (fun w' hJ' hrow=>⟨c,rfl,fun _=>?_,hJ',fun j d hj hd=>?_⟩)
 ·unfold vN
  rw [if_neg hi];exact hc.symm
 ·have hu:=hv j d hj hd
  unfold vN at hu ⊢
  split at hu
  ·rename_i e
   rw [if_pos e];obtain ⟨g,row,e1,hg,hr,hl,hx⟩:=hu;exact ⟨g,row,e1,hg,hrow g _ hg hr,hl,by rw [b0p hi'];exact hx⟩
  ·rename_i e
   rw [if_neg e];exact hu
theorem d0a (hop:o.op = .alloc T) (z:List Value) (hz:(P.info? T).map (·.zero)=some (some (.agg z.toArray))) (hl:z.length=len) (ost:Oper) (hst:ops[st]? = some ost) (hws:waits ost ia=true) (hne:ia ≠ st)
  (hJB:∀ L w,J L w->B <= w.heap.size) (hJa:∀ L w o',J L w->J (up L ia) (w.alloc o')) :
  Owe P ops Q N a0 (vN ia st T len new B cs) J ia o:=by
 intro L a w hLi hw hnot hJ hs hk hv;refine g0Q T hop z.toArray hz ⟨_,rfl,fun _=>?_,hJa _ _ _ hJ,fun j d hj hd=>?_⟩
 ·unfold vN
  rw [if_pos rfl];refine ⟨w.heap.size,z,rfl,hJB _ _ hJ,a0f w _,hl,fun h10=>?_⟩;rw [b0p hne,hnot st _ hst hws] at h10
  cases h10
 ·have hj9:j ≠ ia:=by rintro rfl;rw [hLi] at hj;cases hj
  have:=vN_c (hv j d hj hd) hj9;unfold vN;rw [if_neg hj9];exact this
theorem d0b (x y:Tmp) (hop:o.op = .store T (.tmp x) (.tmp y)) (hn:o.dst=none) (hx:a0E ops ia=some x) (iy:Nat) (hiy:a0E ops iy=some y) (hia:iy ≠ ia) (hw1:waits o ia=true) (hw2:waits o iy=true) (hcy:cs.getD iy undef = .agg new.toArray) (hlen:new.length=len) (h1:∀ v ∈ new,v.oneCell' = true) (hi:(P.info? T).map (·.size)=some new.length)
  (hJs:∀ L w w' g r,J L w->B <= g->w.heap[g]? = some (.cells r T)->But g w w'->J (up L st) w') :
  Owe P ops Q N a0 (vN ia st T len new B cs) J st o:=by
 intro L a w hLi hw hnot hJ hs hk hv;have h9:=hv ia x (hw ia hw1) hx;have h7:=(vN_c (hv iy y (hw iy hw2) hiy) hia).trans hcy;unfold vN at h9;rw [if_pos rfl] at h9;obtain ⟨g,row,e1,hg,hrow,hl,-⟩:=h9;refine j0E T (.tmp x) (.tmp y) hop hn g e1 new row h7 T hrow (hl.trans hlen.symm) h1 hi ⟨undef,by rw [hn];rfl,fun h=>(by rw [hn] at h;exact Bool.noConfusion h),?_,fun j d hj hd=>?_⟩
 ·exact hJs L w _ g _ hJ hg hrow (d0u w g _)
 ·by_cases hj9:j=ia
  ·subst hj9
   have:d=x:=by
    rw [hx] at hd
    cases hd
    rfl
   subst this;unfold vN;rw [if_pos rfl];exact ⟨g,new,e1,hg,setRow_heap w g _ _ _ (0,0) hrow,hlen,fun _=>rfl⟩
  ·have:=vN_c (hv j d hj hd) hj9
   unfold vN;rw [if_neg hj9];exact this
theorem b0X {id:Nat} (ia st da:Nat) (T:TypeId) (len:Nat) (new:List Value) (B:Nat) (cs:List Value) (J:(Nat->Bool)->World->Prop) (ds:Nat->List (Nat × Value)) (hf:P.follows .mixedOrders=true) (hok:okMd ops N=true) (hN:a0.tmps.size=N)
  (hdst:a0E ops ia=some da) (hst:st < ops.size) (hic:ia < cs.length) (hds:∀ g,(List.range ops.size).filterMap (fun i=>(a0E ops i).map fun d=>(d,(cs.set ia (pt g 0)).getD i undef))=ds g)
  (h0:∀ w1,Below w0.heap.size w0 w1->J (fun _=>false) w1)
  (hown:∀ i o,ops[i]? = some o->Owe P ops Q N a0 (vN ia st T len new B cs) J i o)
  (hend:∀ g L W,B <= g->W.heap[g]? = some (.cells new.toArray T)->(∀ i,i < ops.size->L i=true)->J L W->Q .normal { tmps:=(ds g).foldl (fun B p=>B.setIfInBounds p.1 p.2) a0.tmps,defers:=a0.defers } W) :
  (Code.region id ops true).wp P Q a0 w0:=by
 refine e0G (N:=N) (vN ia st T len new B cs) J hf hok hN h0 hown ?_;intro L a W hall hJ hs hd hk hv;have h9:=hv ia da hdst;unfold vN at h9;rw [if_pos rfl] at h9;obtain ⟨g,row,e1,hg,hrow,-,hrx⟩:=h9;obtain rfl:=hrx (hall st hst)
 have e:=g0R (c:=fun i=>(cs.set ia (pt g 0)).getD i undef) (hs.trans hN.symm) hk (fun i d hdd=>by
  by_cases h9:i=ia
  ·subst h9
   rw [hdst] at hdd
   cases hdd
   rw [e1,List.getD_eq_getElem?_getD,List.getElem?_set_self hic];rfl
  ·rw [vN_c (hv i d hdd) h9,List.getD_eq_getElem?_getD,List.getD_eq_getElem?_getD,List.getElem?_set_ne (fun h=>h9 h.symm)])
 have e2:=e.trans (e0f (fun i=>a0E ops i) (fun i=>(cs.set ia (pt g 0)).getD i undef) (List.range ops.size) a0.tmps);rw [hds] at e2
 have ea:a = { tmps:=(ds g).foldl (fun B p=>B.setIfInBounds p.1 p.2) a0.tmps,defers:=a0.defers }:=by
  obtain ⟨tm,df⟩:=a
  cases e2
  cases hd
  rfl
 rw [ea];exact hend g L W hg hrow hall hJ
end
end Go.Proofs.YtagmnmoaekbffaaGreatDoor.Ms
