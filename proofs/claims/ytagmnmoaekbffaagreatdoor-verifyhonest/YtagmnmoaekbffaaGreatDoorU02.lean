/- U02 -/
import Derived.Test.YtagmnmoaekbffaaGreatDoorS03
import Derived.StillTailTactics
import Derived.Test.YtagmnmoaekbffaaGreatDoorS25
import Derived.Test.YtagmnmoaekbffaaGreatDoorS30
import Derived.Test.YtagmnmoaekbffaaGreatDoorS27
set_option maxHeartbeats 4000000
namespace Go.Proofs.YtagmnmoaekbffaaGreatDoor.Ms
open Go.Proofs.Tryz
open Go Go.RowKit
set_option maxRecDepth 100000
section
variable {P:Program} {ops:Array Oper} {Q:Exit->Act->World->Prop} {N:Nat} {a0:Act} {w0:World}
def OweJ (P:Program) (ops:Array Oper) (Q:Exit->Act->World->Prop) (a0:Act) (S:List Nat) (cs:List Value) (J:(Nat->Bool)->World->Prop) (i:Nat) (o:Oper):Prop :=
 ∀ (L:Nat->Bool) (a:Act) (w:World),L i=false->(∀ j,waits o j=true->L j=true)->(∀ j oj,ops[j]? = some oj->waits oj i=true->L j=false)->J L w->Kpt ops a0 a i->Cst ops S cs a o->∀ K:Act->World->Prop,K (a.put o.dst (cs.getD i undef)) w->o.wp P a w K Q
def OweW (P:Program) (ops:Array Oper) (Q:Exit->Act->World->Prop) (a0:Act) (S:List Nat) (vs:(Nat->Bool)->Nat->Value->World->Prop) (cs:List Value) (J:(Nat->Bool)->World->Prop) (i:Nat) (o:Oper):Prop :=
 ∀ (L:Nat->Bool) (a:Act) (w:World),L i=false->(∀ j,waits o j=true->L j=true)->(∀ j oj,ops[j]? = some oj->waits oj i=true->L j=false)->(∀ j oj,ops[j]? = some oj->L j=true->∀ q,waits oj q=true->L q=true)->J L w->Kpt ops a0 a i->Cst ops S cs a o ->
  (∀ j d,L j=true->j ∈ S->a0E ops j=some d->vs L j (a.tmps.getD d undef) w) ->
  o.wp P a w (fun a' w'=>∃ v,a' = a.put o.dst v/\(o.dst.isSome=true->vs (up L i) i v w')/\J (up L i) w'/\∀ j d,L j=true->j ∈ S->a0E ops j=some d->vs (up L i) j (a.tmps.getD d undef) w') Q
theorem l0q {id:Nat} (n:Nat) (S:List Nat) (vs:(Nat->Bool)->Nat->Value->World->Prop) (cs:List Value) (J:(Nat->Bool)->World->Prop) (hf:P.follows .mixedOrders=true) (hok:okMd ops N=true) (hlast:n0o ops n=true) (hN:a0.tmps.size=N)
  (hJ0:∀ w1,Below w0.heap.size w0 w1->J (fun _=>false) w1)
  (hJc:∀ i,i ∉ S->i < n->∀ L w,J L w->J (up L i) w)
  (hvs:∀ i,i ∉ S->i < n->∀ L j u w,vs L j u w->vs (up L i) j u w)
  (hc:∀ i o,i < n->i ∉ S->ops[i]? = some o->OweJ P ops Q a0 S cs J i o)
  (hs:∀ i o,i < n->i ∈ S->ops[i]? = some o->OweW P ops Q a0 S vs cs J i o)
  (hlo:∀ L o a w,(∀ i,i < n->L i=true)->L n=false->ops[n]? = some o->J L w->a.tmps.size=N->a.defers=a0.defers->Kpt ops a0 a n->(∀ i d,i < n->i ∉ S->a0E ops i=some d->a.tmps.getD d undef=cs.getD i undef)->(∀ i d,i < n->i ∈ S->a0E ops i=some d->vs L i (a.tmps.getD d undef) w)->(∀ t,m0g ops t=true->a.tmps.getD t undef=a0.tmps.getD t undef)->o.wp P a w (Q .normal) Q) :
  (Code.region id ops true).wp P Q a0 w0:=by
 have hsz:n + 1=ops.size/\∀ i,i < n->∀ o,ops[n]? = some o->waits o i=true ∨ ∃ j oj,waits o j=true/\ops[j]? = some oj/\waits oj i=true:=by
  unfold n0o at hlast;rw [Bool.and_eq_true,decide_eq_true_eq,List.all_eq_true] at hlast;refine ⟨hlast.1,fun i hi o ho=>?_⟩;have h1:=hlast.2 i (List.mem_range.2 hi);rw [ho] at h1;simp only [Bool.or_eq_true,List.any_eq_true,List.mem_range,Bool.and_eq_true] at h1;rcases h1 with h1 | ⟨j,-,h1,h2⟩
  ·exact Or.inl h1
  ·cases hoj:ops[j]? with
   | none=>rw [hoj] at h2;cases h2
   | some oj=>rw [hoj] at h2;exact Or.inr ⟨j,oj,h1,hoj,h2⟩
 refine d0r (fun L a w=>(L n=true->Q .normal a w/\∀ i,i < ops.size->L i=true)/\(L n=false->Md ops N a0 (vS S vs cs) J L a w)) hf (g0j hok).1 (fun w1 hw1=>⟨fun h=>Bool.noConfusion h,fun _=>⟨hN,rfl,fun _ _=>rfl,by simp,by simp,hJ0 w1 hw1⟩⟩) ?_ ?_
 ·intro L a w i o ho hI hLi hw
  have hi:i < ops.size:=(Array.getElem?_eq_some_iff.1 ho).1
  cases hLn:L n with
  | true =>
   rw [(hI.1 hLn).2 i hi] at hLi
   cases hLi
  | false =>
   have hm:=hI.2 hLn;by_cases hin:i=n
   ·subst hin
    have hall:∀ j,j < i->L j=true:=by
     intro j hj;rcases hsz.2 j hj o ho with h1 | ⟨k,ok,h1,h2,h3⟩
     ·exact hw j h1
     ·exact hm.clos k ok h2 (hw k h1) j h3
    refine Oper.wp_mono ?_ (hlo L o a w hall hLn ho hm.inv hm.size hm.defs (hm.keepAt hLi) (fun j d hj hjs hd=>vS_c (hm.done j d (hall j hj) hd) hjs) (fun j d hj hjs hd=>vS_s (hm.done j d (hall j hj) hd) hjs) (fun t ht=>hm.kept t (fun j _ e=>by
     unfold m0g at ht;rw [List.all_eq_true] at ht;have:=ht j (List.mem_range.2 (h0q e))
     simp [e] at this)))
    intro a' w' hQ;refine ⟨fun _=>⟨hQ,fun j hj=>?_⟩,fun h=>?_⟩
    ·unfold up
     split
     ·rfl
     ·exact hall j (by omega)
    ·rw [b0s] at h
     cases h
   ·have hil:i < n:=by omega
    have hcst:Cst ops S cs a o:=fun j d hj hjs hd=>vS_c (hm.done j d (hw j hj) hd) hjs;by_cases hiS:i ∈ S
    ·refine Oper.wp_mono ?_ (hs i o hil hiS ho L a w hLi hw (hm.not hLi) hm.clos hm.inv (hm.keepAt hLi) hcst (fun j d hj hjs hd=>vS_s (hm.done j d hj hd) hjs))
     rintro a' w' ⟨v,rfl,hv,hB,hmono⟩;refine ⟨fun h=>?_,fun _=>hm.step hok ho hw (fun hd=>?_) hB (fun j d hj hd=>?_)⟩
     ·rw [b0p hin,hLn] at h
      cases h
     ·unfold vS
      rw [if_pos hiS];exact hv hd
     ·have h0:=hm.done j d hj hd
      unfold vS at h0 ⊢;by_cases hjs:j ∈ S
      ·rw [if_pos hjs]
       exact hmono j d hj hjs hd
      ·rw [if_neg hjs] at h0 ⊢
       exact h0
    ·refine hc i o hil hiS ho L a w hLi hw (hm.not hLi) hm.inv (hm.keepAt hLi) hcst _ ⟨fun h=>?_,fun _=>hm.step hok ho hw (fun _=>?_) (hJc i hiS hil L w hm.inv) (fun j d hj hd=>?_)⟩
     ·rw [b0p hin,hLn] at h
      cases h
     ·unfold vS
      rw [if_neg hiS]
     ·have h0:=hm.done j d hj hd
      unfold vS at h0 ⊢;by_cases hjs:j ∈ S
      ·rw [if_pos hjs] at h0 ⊢
       exact hvs i hiS hil L j _ w h0
      ·rw [if_neg hjs] at h0 ⊢
       exact h0
 ·intro L a w hall hI
  exact (hI.1 (hall n (by omega))).1
end
section
variable {P:Program} {ops:Array Oper} {Q:Act->Prop} {a:Act} {o:Oper} {rest:List Oper} {w:World}
theorem h0S (ty:TypeId) (x:Operand) (ho:o.op = .load ty x)
  (g off:Nat) (hx:a.eval x = .pointer (some ⟨g,off,none⟩)) (hw:Region.wanted o (yielded ops a.tmps)=true) (cs:List Value) (d:TypeDesc) (hc:∀ j v,cs[j]? = some v->w.cell? ⟨g,off + j,none⟩=some v)
  (hu:P.underlying ty=some d) (hd:(match d with | .struct _ | .array _ _=>true | _=>false)=true) (hi:(P.info? ty).map (·.size)=some cs.length)
  (h:wpStill P ops w Q rest (a.put o.dst (.agg cs.toArray))):wpStill P ops w Q (o :: rest) a:=by
 unfold wpStill;rw [if_pos hw]
 have hl:(loadCells ⟨g,off,none⟩ cs.length).run P w = .ok cs.toArray w :=
  run_loadCells_list (P:=P) w ⟨g,off,none⟩ cs (fun j v hv=>by rw [b0f];exact hc j v hv)
 cases hq:P.info? ty with
 | none=>simp [hq] at hi
 | some i =>
  have hs:i.size=cs.length:=by simpa [hq] using hi
  have hagg:(isAgg ty).run P w = .ok true w:=by
   unfold isAgg;rw [Sem.run_bind,run_underlying hu w]
   cases d <;> simp_all
  unfold Oper.still execOp;simp [ho,hx,Instr.loadAt,Instr.sureAddr,Sem.run_bind,loadVar,hagg,sizeOf,typeInfo,hq,hs,hl,Oper.stillUpon];exact h
end
open Go Go.RowKit
set_option maxRecDepth 100000
theorem infoPn:(prog.info? 57).map (fun i=>(i.zero,i.size,i.bytes))=some (some (.agg (penC c0Q).toArray),68,96):=by kernel_rfl
theorem zeroP_cells:(Value.agg (penC c0Q).toArray).cells.size=68:=by
 show (penC c0Q).toArray.size=68;rw [List.size_toArray];exact a0K ⟨rfl,rfl⟩
theorem n0J (a b:List Pen):c0S (a++b)=c0S a++c0S b:=by simp [c0S]
theorem l0r {w:World} {v x:Value} {ps news:List Pen} (ty:TypeId) (h:OwnP w v ps) (hp:Pc w 68 x news.length (c0S news)) (hl:ps.length + news.length <= 1000000) :
  ∃ v' w',(Builtin.append_ #[42,42] ty #[v,x]).run prog w = .ok v' w'/\OwnP w' v' (ps++news)/\w.grownBy w' v.ownBlock/\(v'.ownBlock=v.ownBlock ∨ v'.ownBlock=some w.heap.size):=by
 obtain ⟨v',w',h1,h2,h3,h4⟩:=e0n (P:=prog) (w:=w) 0 42 ty 57 _ 68 96 underlying42 infoPn zeroP_cells (by decide) v x ps.length news.length (c0S ps) (c0S news) h hp (j0B news) hl (by decide) (Nat.zero_le _);refine ⟨v',w',h1,?_,h3,h4⟩;unfold OwnP;rw [List.length_append,n0J];exact h2
theorem m0O {P:Program} {ops:Array Oper} {rest:List Oper} {o:Oper} {a:Act} {w:World} {Q:Exit->Act->World->Prop} (hg:o.guard=none) (s x:Operand) (ts:Array TypeId)
  (ho:o.op = .call { callee:=.builtin .append,args:=#[s,x],argTypes:=ts }) (v u:Value) (hs:a.eval s=v) (hx:a.eval x=u) (v':Value) (w':World) (hr:(Builtin.append_ ts o.type #[v,u]).run P w = .ok v' w')
  (h:wpList P ops Q rest (a.put o.dst v') w'):wpList P ops Q (o :: rest) a w:=by
 refine wpList_plain hg fun K hK=>?_;have h':=hK _ _ h;unfold Oper.wp execOp;simp only [ho,resolve,invoke,builtin,Sem.run_bind,Sem.run_pure,Result.andThen_ok,List.map_toArray,List.map_cons,List.map_nil,hs,hx,hr];exact h'
theorem c0P {B:Nat} {w w':World} (h:Below B w w') (n:Nat):Below B w (w'.drewN n):=⟨h.os,h.tape,h.output,h.size,h.block⟩
section
variable {P:Program} {ops:Array Oper} {rest:List Oper} {o:Oper} {a:Act} {w:World} {Q:Exit->Act->World->Prop}
theorem b0t (ty:TypeId) (l:List (Nat × Operand)) (ho:o.op = .build ty l.toArray) (hw:Region.wanted o (yielded ops a.tmps)=true) (z:Array Value) (hr:(Instr.build ty (l.map fun x=>(x.1,a.eval x.2)).toArray).run P w = .ok (.agg z) w)
  (h:wpList P ops Q rest (a.put o.dst (.agg z)) w):wpList P ops Q (o :: rest) a w:=by
 refine BigFrame.wpList_want hw fun K hK=>?_;have h':=hK _ _ h;unfold Oper.wp execOp;simp only [ho,List.map_toArray,Sem.run_bind,hr,Result.andThen_ok,Sem.run_pure];exact h'
end
theorem c0h {P:Program} {fn:Func} {p u:Tmp} {ty:TypeId} (h:fn.results=#[.cell p ty,.tmp u]) (tmps:Array Value) (w:World) (g:Nat) (t:TypeId) (cs:Array Value) (fr:Nat × Nat) (d:TypeDesc)
  (hp:tmps.getD p undef = .pointer (some ⟨g,0,none⟩)) (hg:w.heap[g]? = some (.cells cs t fr))
  (hu:P.underlying ty=some d) (hd:(match d with | .struct _ | .array _ _=>true | _=>false)=true) (hi:(P.info? ty).map (·.size)=some cs.size) :
  (results fn tmps).run P w = .ok (.tuple #[.agg cs,tmps.getD u undef]) w:=by
 have hp':tmps[p]?.getD undef = .pointer (some ⟨g,0,none⟩):=by simpa using hp
 simp [results,h,hp',asAddr,run_loadVar_row w g t ty cs fr d hg hu hd hi]
theorem zeroRep:(prog.info? 44).map (·.zero)=some (some (.agg (repC a0p (.slice none 0 0)).toArray)):=by kernel_rfl
theorem l0s (r:Rep) (v:Value):repC r v=([nu r.number,nu r.last,st r.view]++dg r.commit)++([v]++([nu r.vnum,st r.value]++(dg r.data++([st r.seen]++dg r.stag)))):=by simp [repC]
theorem size41:(prog.info? 42).map (·.size)=some 1:=by kernel_rfl
def penH (p:Pen):List Value:=[nu p.client,nu p.number,nu p.kind,nu p.target]++dg p.asked
theorem l0t (p:Pen):penC p=penH p++dg p.proof:=by simp [penC,penH]
theorem s0V {p:Pen} (h:p.Wf):(penH p).length=36:=by rw [penH,List.length_append,a0e,h.asked];rfl
theorem g0F {c:Int} {x:Sub} (hx:x.Wf):(subM c x).Wf:=⟨hx,wfZeroR,rfl,rfl,wfZeroB⟩
def subA (R:Rs) (c:Int) (x:Sub):Rs:={ R with regs:=R.regs.set c.toNat { R.reg c with asked:=x,ans:=ansR R x } }
theorem s0W {R:Rs} (h:RInv R) {c:Int} {x:Sub} (hx:x.Wf) (hok:c0R R c x=true) (hf:f0H R=false):RInv (subA R c x):=by
 have h1:=h.subN hx hok hf;exact ⟨h.n,h1.len,h1.regs,h.long,h.ltag,h.who,h.plen,h.pend⟩
theorem e0P {u:Value} {b:Nat}:b ∈ u.ownBlock.toList ↔ u.ownBlock=some b:=by
 cases u.ownBlock <;> simp [eq_comm]
theorem q0W {P:Program} {o:Oper} {a:Act} {w:World} {Q:Exit->Act->World->Prop} {K:Act->World->Prop} (s x:Tmp) (ts:Array TypeId)
  (ho:o.op = .call { callee:=.builtin .append,args:=#[.tmp s,.tmp x],argTypes:=ts }) (v u:Value) (hs:a.tmps.getD s undef=v) (hx:a.tmps.getD x undef=u) (v':Value) (w':World) (hr:(Builtin.append_ ts o.type #[v,u]).run P w = .ok v' w') (h:K (a.put o.dst v') w'):o.wp P a w K Q:=by
 have e1:a.eval (.tmp s)=v:=hs;have e2:a.eval (.tmp x)=u:=hx;unfold Oper.wp execOp;simp only [ho,resolve,invoke,builtin,Sem.run_bind,Sem.run_pure,Result.andThen_ok,List.map_toArray,List.map_cons,List.map_nil,e1,e2,hr];exact h
theorem l0u {P:Program} {o:Oper} {a:Act} {w:World} {Q:Exit->Act->World->Prop} {K:Act->World->Prop} (ty:TypeId) (l:List (Nat × Operand)) (ho:o.op = .build ty l.toArray) (z:Value) (hr:(Instr.build ty (l.map fun x=>(x.1,a.eval x.2)).toArray).run P w = .ok z w) (h:K (a.put o.dst z) w):o.wp P a w K Q:=by
 unfold Oper.wp execOp;simp only [ho,List.map_toArray,Sem.run_bind,hr,Result.andThen_ok,Sem.run_pure];exact h
theorem n0K (p:Pen):c0S [p]=penC p:=by simp [c0S]
theorem t0K {w:World} {g:Nat} {p:Pen} (hp:p.Wf) (h:w.heap[g]? = some (.cells (penC p).toArray 57)):Pc w 68 (.slice (some ⟨g,0,none⟩) 1 1) [p].length (c0S [p]):=by
 refine ⟨by rw [n0K,a0K hp];rfl,_,_,rfl,fun _=>⟨_,rfl,fun j u hj=>?_⟩⟩;rw [n0K] at hj;rw [b0f];exact a0s (off:=0) (A:=[]) (cs:=penC p) (C:=[]) h (by simp) rfl j u hj
theorem e0r {w w':World} {g i:Nat} {u:Value} (h:w.cell? ⟨g,i,none⟩=some u) (hb:Below w.heap.size w w'):w'.cell? ⟨g,i,none⟩=some u:=(hb.cell (p:=⟨g,i,none⟩) (World.block_lt_of_cell? w _ h)).trans h
open Go Go.RowKit
set_option maxRecDepth 100000
section
variable {α:Type}
theorem t0L (f:α->List Value) (k:Nat):∀ l:List α,(∀ a ∈ l,(f a).length=k)->(l.flatMap f).length=l.length * k
 | [],_=>by simp
 | a :: l,h=>by
  have h1:=h a (by simp);have h2:=t0L f k l (fun b hb=>h b (by simp [hb]));rw [List.flatMap_cons,List.length_append,h1,h2,List.length_cons,Nat.add_mul,Nat.one_mul,Nat.add_comm]
theorem f0d (f:α->List Value) (l:List α) (c:Nat) (h:c < l.length):l.flatMap f=(l.take c).flatMap f++(f l[c]++(l.drop (c + 1)).flatMap f):=by
 conv=>lhs;rw [← List.take_append_drop c l,List.drop_eq_getElem_cons h]
 rw [List.flatMap_append,List.flatMap_cons]
theorem l0v (f:α->List Value) (l:List α) (c:Nat) (a:α) (h:c < l.length):(l.set c a).flatMap f=(l.take c).flatMap f++(f a++(l.drop (c + 1)).flatMap f):=by
 rw [List.set_eq_take_append_cons_drop,if_pos h,List.flatMap_append,List.flatMap_cons]
theorem h0T (f:α->List Value) (k:Nat) (l:List α) (hk:∀ a ∈ l,(f a).length=k) (c:Nat) (h:c < l.length):((l.take c).flatMap f).length=c * k:=by
 rw [t0L f k _ (fun a ha=>hk a (List.mem_of_mem_take ha)),List.length_take,Nat.min_eq_left (by omega)]
theorem n0L {w:World} {g:Nat} {t:TypeId} (f:α->List Value) (k:Nat) (l:List α) (hk:∀ a ∈ l,(f a).length=k) (h:w.heap[g]? = some (.cells (l.flatMap f).toArray t)) (c:Nat) (hc:c < l.length):∀ j v,(f l[c])[j]? = some v->w.cell? ⟨g,c * k + j,none⟩=some v :=
 a0s h (f0d f l c hc) (h0T f k l hk c hc)
end
abbrev RG:Type:=Reg × Value
def fS (q:RG):List Value:=subC q.1.asked
def fR (q:RG):List Value:=repC q.1.ans q.2
def fV (q:RG):List Value:=[st q.1.view]
def fT (q:RG):List Value:=dg q.1.tag
def sl (g n:Nat):Value:=.slice (some ⟨g,0,none⟩) n n
def refC (R:Rs) (bs br bv bt:Nat) (vP:Value):List Value:=[sl bs R.n,sl br R.n,sl bv R.n,sl bt R.n,nu R.who,st R.long]++(dg R.ltag++[vP])
def b0N (w:World) (Y:List Nat) (v:Value) (l:List Pen):Prop:=∃ a cap,v = .slice a l.length cap/\l.length <= cap/\(l ≠ []->∃ b off,a=some ⟨b,off,none⟩/\b ∈ Y/\∀ j,j < l.length->∀ i c,(penC (l.getD j a0z))[i]? = some c->w.cell? ⟨b,off + j * 68 + i,none⟩=some c)
theorem b0N.pens {w:World} {Y:List Nat} {v:Value} {l:List Pen} (h:b0N w Y v l):a0g w v l:=by
 obtain ⟨a,cap,rfl,-,h2⟩:=h;refine ⟨a,cap,rfl,fun hn=>?_⟩;obtain ⟨b,off,h3,-,h4⟩:=h2 hn;exact ⟨b,off,h3,h4⟩
theorem b0N.nil (w:World) (Y:List Nat):b0N w Y (.slice none 0 0) []:=⟨none,0,rfl,Nat.le_refl _,fun h=>absurd rfl h⟩
theorem b0N.more {w:World} {Y Y':List Nat} {v:Value} {l:List Pen} (h:b0N w Y v l) (hY:∀ b ∈ Y,b ∈ Y'):b0N w Y' v l:=by
 obtain ⟨a,cap,rfl,h1,h2⟩:=h;refine ⟨a,cap,rfl,h1,fun hn=>?_⟩;obtain ⟨b,off,h3,h4,h5⟩:=h2 hn;exact ⟨b,off,h3,hY b h4,h5⟩
theorem f0W {X:List Nat} {w w':World} {b i:Nat} {u:Value} (hk:Kp X w w') (hb:b ∉ X) (h:w.cell? ⟨b,i,none⟩=some u):w'.cell? ⟨b,i,none⟩=some u:=by
 have hl:b < w.heap.size:=World.block_lt_of_cell? w _ h;have e:=hk.block b hl hb;unfold World.cell? at h ⊢;rw [e];exact h
theorem b0N.kp {X Y:List Nat} {w w':World} {v:Value} {l:List Pen} (h:b0N w Y v l) (hk:Kp X w w') (hX:∀ b ∈ Y,b ∉ X):b0N w' Y v l:=by
 obtain ⟨a,cap,rfl,h1,h2⟩:=h;refine ⟨a,cap,rfl,h1,fun hn=>?_⟩;obtain ⟨b,off,h3,h4,h5⟩:=h2 hn;exact ⟨b,off,h3,h4,fun j hj i c hi=>f0W hk (hX b h4) (h5 j hj i c hi)⟩
theorem b0N.one {w:World} {Y:List Nat} {v:Value} {l:List Pen} (h:b0N w Y v l):v.oneCell' = true:=by obtain ⟨a,cap,rfl,-⟩:=h;rfl
theorem OwnP.gens {w:World} {v:Value} {ps:List Pen} (h:OwnP w v ps) (hw:∀ p ∈ ps,p.Wf) (Y:List Nat) (hY:∀ b,v.ownBlock=some b->b ∈ Y):b0N w Y v ps:=by
 rcases h.form with ⟨rfl,rfl⟩ | ⟨g,cap,cur,rfl,h1,h2,-⟩
 ·exact b0N.nil w Y
 ·refine ⟨_,cap,rfl,h2,fun _=>⟨g,0,rfl,hY g rfl,fun j hj i c hi=>?_⟩⟩
  have e:=h.cell (j * 68 + i) c (n0l hw j hj i c hi);rw [show 0 + j * 68 + i=j * 68 + i by omega];exact e
theorem b0N.pc {w:World} {Y:List Nat} {v:Value} {l:List Pen} (h:b0N w Y v l) (hw:∀ p ∈ l,p.Wf):Pc w 68 v l.length (c0S l):=by
 obtain ⟨a,cap,rfl,-,h2⟩:=h;refine ⟨k0L hw,a,cap,rfl,fun hn=>?_⟩;obtain ⟨b,off,rfl,-,h4⟩:=h2 (fun e=>hn (by rw [e];rfl));refine ⟨_,rfl,fun j u hj=>?_⟩;rw [b0f]
 have hl:j < l.length * 68:=by
  have:=(List.getElem?_eq_some_iff.1 hj).1;rw [k0L hw] at this;exact this
 have hq:j / 68 < l.length:=by omega
 have e:j=j / 68 * 68 + j % 68:=by omega
 have hp:=e0F hw (j / 68) hq;have hi:j % 68 < (penC (l.getD (j / 68) a0z)).length:=by rw [a0K hp];omega
 have h5:=n0l hw (j / 68) hq (j % 68) _ (List.getElem?_eq_getElem hi);rw [← e,hj] at h5;have h6:=h4 (j / 68) hq (j % 68) u (by rw [List.getElem?_eq_getElem hi];exact h5.symm);rw [show off + j / 68 * 68 + j % 68=off + j by omega] at h6;exact h6
structure RZ (w:World) (x bs br bv bt:Nat) (R:Rs) (ps:List RG) (vP:Value) (Y:List Nat):Prop where
 inv:RInv R
 row:w.heap[x]? = some (.cells (refC R bs br bv bt vP).toArray 86)
 subs:w.heap[bs]? = some (.cells (ps.flatMap fS).toArray 40)
 reps:w.heap[br]? = some (.cells (ps.flatMap fR).toArray 44)
 views:w.heap[bv]? = some (.cells (ps.flatMap fV).toArray 9)
 tags:w.heap[bt]? = some (.cells (ps.flatMap fT).toArray 38)
 regs:ps.map (·.1)=R.regs.take R.n
 pens:b0N w Y vP R.pend
 all:∀ q ∈ ps,b0N w Y q.2 q.1.ans.pend
 away:∀ b ∈ Y,b ∉ [x,bs,br,bv,bt]
section
variable {w w':World} {x bs br bv bt:Nat} {R:Rs} {ps:List RG} {vP:Value} {Y X:List Nat}
theorem RZ.len (h:RZ w x bs br bv bt R ps vP Y):ps.length=R.n:=by
 have e:=congrArg List.length h.regs;rw [List.length_map,List.length_take,h.inv.len,Nat.min_eq_left h.inv.n.2] at e;exact e
theorem RZ.at (h:RZ w x bs br bv bt R ps vP Y) {c:Nat} (hc:c < ps.length):(ps[c]).1=R.reg (c:Int):=by
 have e:(ps.map (·.1))[c]? = (R.regs.take R.n)[c]?:=by rw [h.regs]
 have hn:c < R.n:=by rw [← h.len];exact hc
 rw [List.getElem?_map,List.getElem?_eq_getElem hc,List.getElem?_take_of_lt hn] at e;rw [j0x,List.getD_eq_getElem?_getD,← e];rfl
theorem RZ.ok (h:RZ w x bs br bv bt R ps vP Y):∀ q ∈ ps,GOk q.1:=by
 intro q hq;obtain ⟨c,hc,rfl⟩:=List.getElem_of_mem hq;rw [h.at hc];exact h.inv.reg _
theorem RZ.kS (h:RZ w x bs br bv bt R ps vP Y):∀ q ∈ ps,(fS q).length=68:=fun q hq=>a0h (h.ok q hq).asked
theorem RZ.kR (h:RZ w x bs br bv bt R ps vP Y):∀ q ∈ ps,(fR q).length=103:=fun q hq=>a0j (h.ok q hq).ans _
theorem RZ.kV (_h:RZ w x bs br bv bt R ps vP Y):∀ q ∈ ps,(fV q).length=1:=fun _ _=>rfl
theorem RZ.kT (h:RZ w x bs br bv bt R ps vP Y):∀ q ∈ ps,(fT q).length=32:=fun q hq=>by rw [fT,a0e];exact (h.ok q hq).tag
theorem RZ.sub (h:RZ w x bs br bv bt R ps vP Y) {c:Nat} (hc:c < R.n):∀ j v,(subC (R.reg (c:Int)).asked)[j]? = some v->w.cell? ⟨bs,c * 68 + j,none⟩=some v:=by
 have hc':c < ps.length:=by rw [h.len];exact hc
 have e:=n0L fS 68 ps h.kS h.subs c hc';rw [fS,h.at hc'] at e;exact e
theorem RZ.rep (h:RZ w x bs br bv bt R ps vP Y) {c:Nat} (hc:c < R.n):∃ v,b0N w Y v (R.reg (c:Int)).ans.pend/\∀ j u,(repC (R.reg (c:Int)).ans v)[j]? = some u->w.cell? ⟨br,c * 103 + j,none⟩=some u:=by
 have hc':c < ps.length:=by rw [h.len];exact hc
 have e:=n0L fR 103 ps h.kR h.reps c hc';have e2:=h.all _ (List.getElem_mem hc');rw [fR,h.at hc'] at e;rw [h.at hc'] at e2;exact ⟨_,e2,e⟩
theorem RZ.view (h:RZ w x bs br bv bt R ps vP Y) {c:Nat} (hc:c < R.n):w.cell? ⟨bv,c,none⟩=some (st (R.reg (c:Int)).view):=by
 have hc':c < ps.length:=by rw [h.len];exact hc
 have e:=n0L fV 1 ps h.kV h.views c hc' 0 _ rfl;rw [h.at hc',Nat.mul_one,Nat.add_zero] at e;exact e
theorem RZ.tag (h:RZ w x bs br bv bt R ps vP Y) {c:Nat} (hc:c < R.n):∀ j v,(dg (R.reg (c:Int)).tag)[j]? = some v->w.cell? ⟨bt,c * 32 + j,none⟩=some v:=by
 have hc':c < ps.length:=by rw [h.len];exact hc
 have e:=n0L fT 32 ps h.kT h.tags c hc';rw [fT,h.at hc'] at e;exact e
theorem RZ.cS (h:RZ w x bs br bv bt R ps vP Y):w.cell? ⟨x,0,none⟩=some (sl bs R.n):=a0l (A:=[]) h.row rfl rfl
theorem RZ.cR (h:RZ w x bs br bv bt R ps vP Y):w.cell? ⟨x,1,none⟩=some (sl br R.n):=a0l (A:=[sl bs R.n]) h.row rfl rfl
theorem RZ.cV (h:RZ w x bs br bv bt R ps vP Y):w.cell? ⟨x,2,none⟩=some (sl bv R.n):=a0l (A:=[sl bs R.n,sl br R.n]) h.row rfl rfl
theorem RZ.cT (h:RZ w x bs br bv bt R ps vP Y):w.cell? ⟨x,3,none⟩=some (sl bt R.n):=a0l (A:=[sl bs R.n,sl br R.n,sl bv R.n]) h.row rfl rfl
theorem RZ.cW (h:RZ w x bs br bv bt R ps vP Y):w.cell? ⟨x,4,none⟩=some (nu R.who):=a0l (A:=[sl bs R.n,sl br R.n,sl bv R.n,sl bt R.n]) h.row rfl rfl
theorem RZ.cL (h:RZ w x bs br bv bt R ps vP Y):w.cell? ⟨x,5,none⟩=some (st R.long):=a0l (A:=[sl bs R.n,sl br R.n,sl bv R.n,sl bt R.n,nu R.who]) h.row rfl rfl
theorem RZ.cG (h:RZ w x bs br bv bt R ps vP Y):∀ j v,(dg R.ltag)[j]? = some v->w.cell? ⟨x,6 + j,none⟩=some v:=a0s (A:=[sl bs R.n,sl br R.n,sl bv R.n,sl bt R.n,nu R.who,st R.long]) (C:=[vP]) h.row rfl rfl
theorem RZ.cP (h:RZ w x bs br bv bt R ps vP Y):w.cell? ⟨x,38,none⟩=some vP:=a0l (A:=[sl bs R.n,sl br R.n,sl bv R.n,sl bt R.n,nu R.who,st R.long]++dg R.ltag) (C:=[]) h.row (by simp [refC]) (by simp [a0e,h.inv.ltag])
theorem RZ.kp (h:RZ w x bs br bv bt R ps vP Y) (hk:Kp X w w') (hX:∀ b ∈ [x,bs,br,bv,bt]++Y,b ∉ X):RZ w' x bs br bv bt R ps vP Y :=
 ⟨h.inv,hk.row h.row (hX _ (by simp)),hk.row h.subs (hX _ (by simp)),hk.row h.reps (hX _ (by simp)),hk.row h.views (hX _ (by simp)),hk.row h.tags (hX _ (by simp)),h.regs,h.pens.kp hk (fun b hb=>hX b (by simp [hb])),fun q hq=>(h.all q hq).kp hk (fun b hb=>hX b (by simp [hb])),h.away⟩
theorem RZ.kept (h:RZ w x bs br bv bt R ps vP Y) (hb:Below w.heap.size w w'):RZ w' x bs br bv bt R ps vP Y:=h.kp (X:=[]) (Kp.of hb) (fun _ _=>by simp)
theorem f0r {w:World} {a b:Nat} {c d:Array Value} {s t:TypeId} {f g:Nat × Nat} (h1:w.heap[a]? = some (.cells c s f)) (h2:w.heap[b]? = some (.cells d t g)) (h:s ≠ t):a ≠ b:=by
 rintro rfl;rw [h1] at h2
 cases h2
 exact h rfl
end
def RY (w:World) (x:Nat) (G:List Nat) (R:Rs):Prop:=∃ bs br bv bt ps vP Y,RZ w x bs br bv bt R ps vP Y/\(∀ b ∈ [x,bs,br,bv,bt]++Y,b ∈ G)/\∀ b ∈ G,b < w.heap.size
theorem RY.kp {w w':World} {x:Nat} {G X:List Nat} {R:Rs} (h:RY w x G R) (hk:Kp X w w') (hX:∀ b ∈ G,b ∉ X):RY w' x G R:=by
 obtain ⟨bs,br,bv,bt,ps,vP,Y,h1,h2,h3⟩:=h;exact ⟨bs,br,bv,bt,ps,vP,Y,h1.kp hk (fun b hb=>hX b (h2 b hb)),h2,fun b hb=>Nat.lt_of_lt_of_le (h3 b hb) hk.size⟩
theorem RY.kept {w w':World} {x:Nat} {G:List Nat} {R:Rs} (h:RY w x G R) (hb:Below w.heap.size w w'):RY w' x G R:=h.kp (X:=[]) (Kp.of hb) (fun _ _=>by simp)
theorem RY.inv {w:World} {x:Nat} {G:List Nat} {R:Rs} (h:RY w x G R):RInv R:=by
 obtain ⟨bs,br,bv,bt,ps,vP,Y,h1,-⟩:=h;exact h1.inv
open Go Go.RowKit
set_option maxRecDepth 100000
theorem n0M {α:Type} (f:α->List Value) (n:Nat) (a:α):(List.replicate n a).flatMap f=(List.replicate n (f a)).flatten:=by
 induction n with
 | zero=>rfl
 | succ n ih=>rw [List.replicate_succ,List.flatMap_cons,ih,List.replicate_succ,List.flatten_cons]
theorem infoSub:(prog.info? 40).map (fun i=>(i.zero,i.size,i.bytes))=some (some (.agg (subC c0j).toArray),68,104):=by kernel_rfl
theorem infoRep:(prog.info? 44).map (fun i=>(i.zero,i.size,i.bytes))=some (some (.agg (repC a0p (.slice none 0 0)).toArray),103,192):=by kernel_rfl
theorem infoDig:(prog.info? 38).map (fun i=>(i.zero,i.size,i.bytes))=some (some (.agg (dg a0n).toArray),32,32):=by kernel_rfl
theorem infoSt:(prog.info? 9).map (fun i=>(i.zero,i.size,i.bytes))=some (some (st []),1,16):=by kernel_rfl
theorem sizeStr:(prog.info? 9).map (·.size)=some 1:=by kernel_rfl
theorem s0X {T e:TypeId} {z:Value} {L:List Value} {k by':Nat} (hT:prog.underlying T=some (.slice e)) (hI:(prog.info? e).map (fun i=>(i.zero,i.size,i.bytes))=some (some z,k,by')) (hz:z.cells=L.toArray) (hL:L.length=k) (hk:0 < k/\k <= 1000) (hb:by' <= 1000) (n:Nat) (hn:n <= 8) (W:World) :
  (Instr.makeSlice T (.int .i64 (n:Int)) (.int .i64 (n:Int))).run prog W = .ok (sl W.heap.size n) (W.alloc (.cells ((List.replicate n L).flatten).toArray e)):=by
 cases hi:prog.info? e with
 | none=>rw [hi] at hI;cases hI
 | some i =>
  rw [hi] at hI;simp only [Option.map_some,Option.some.injEq,Prod.mk.injEq] at hI;obtain ⟨hz0,hz1,hz2⟩:=hI;have hnk:n * k <= 8 * 1000:=Nat.mul_le_mul hn hk.2;have hnb:n * by' <= 8 * 1000:=Nat.mul_le_mul hn hb
  have h:=run_makeSlice (P:=prog) W T e i _ hT hi hz0 .i64 .i64 n n (by omega) (by omega) (by rw [hz1,Int.toNat_natCast];omega) (by rw [hz2,Int.mul_comm];omega) (by omega);rw [hz1] at h;simp only [Int.toNat_natCast] at h;rw [hz,← hL,q0Q L (by omega) n] at h;exact h
section
variable {w:World} {o:Oper} {a:Act} {Q:Exit->Act->World->Prop} {K:Act->World->Prop}
theorem f0A {T e:TypeId} {z:Value} {L:List Value} {k by':Nat} (x:Tmp) (ho:o.op = .makeSlice T (.tmp x) (.tmp x)) (hT:prog.underlying T=some (.slice e)) (hI:(prog.info? e).map (fun i=>(i.zero,i.size,i.bytes))=some (some z,k,by')) (hz:z.cells=L.toArray) (hL:L.length=k) (hk:0 < k/\k <= 1000) (hb:by' <= 1000) (n:Nat) (hn:n <= 8)
  (hx:a.tmps.getD x undef=nu (n:Int)) (h:K (a.put o.dst (sl w.heap.size n)) (w.alloc (.cells ((List.replicate n L).flatten).toArray e))):o.wp prog a w K Q:=by
 have ex:a.eval (.tmp x)=nu (n:Int):=hx;have hr:=s0X hT hI hz hL hk hb n hn w;unfold Oper.wp execOp;simp only [ho,ex,Sem.run_bind,hr,Result.andThen_ok,Sem.run_pure];exact h
theorem t0M (T:TypeId) (x:Tmp) (cs:List Value) (ho:o.op = .box T (.tmp x)) (hx:a.tmps.getD x undef = .agg cs.toArray) (hr:∀ w,(Instr.box T (.agg cs.toArray)).run prog w = .ok (pt w.heap.size 0) (w.alloc (.cells cs.toArray T))) (h:K (a.put o.dst (pt w.heap.size 0)) (w.alloc (.cells cs.toArray T))):o.wp prog a w K Q:=by
 have ex:a.eval (.tmp x) = .agg cs.toArray:=hx;unfold Oper.wp execOp;simp only [ho,ex,Sem.run_bind,hr,Result.andThen_ok,Sem.run_pure];exact h
end
theorem q0X (W:World) (n gs gr gv gt:Nat):(Instr.build 86 #[(0,sl gs n),(1,sl gr n),(2,sl gv n),(3,sl gt n),(4,.int .i64 (-1))]).run prog W = .ok (.agg (refC (newR n) gs gr gv gt (.slice none 0 0)).toArray) W:=by kernel_rfl
def rowS (n:Nat):List Value:=(List.replicate n (subC c0j)).flatten
def u0K (n:Nat):List Value:=(List.replicate n (repC a0p (.slice none 0 0))).flatten
def rowV (n:Nat):List Value:=(List.replicate n [st []]).flatten
def rowT (n:Nat):List Value:=(List.replicate n (dg a0n)).flatten
def vNn (B n:Nat) (i:Nat) (v:Value) (w:World):Prop :=
 if i=1 then ∃ g,v=sl g n/\B <= g/\w.heap[g]? = some (.cells (rowS n).toArray 40)
 else if i=3 then ∃ g,v=sl g n/\B <= g/\w.heap[g]? = some (.cells (u0K n).toArray 44)
 else if i=5 then ∃ g,v=sl g n/\B <= g/\w.heap[g]? = some (.cells (rowV n).toArray 9)
 else if i=7 then ∃ g,v=sl g n/\B <= g/\w.heap[g]? = some (.cells (rowT n).toArray 38)
 else ∃ gs gr gv gt,(if i=8 then v = .agg (refC (newR n) gs gr gv gt (.slice none 0 0)).toArray else ∃ x,v=pt x 0/\B <= x/\w.heap[x]? = some (.cells (refC (newR n) gs gr gv gt (.slice none 0 0)).toArray 86)) /\
  (B <= gs/\w.heap[gs]? = some (.cells (rowS n).toArray 40))/\(B <= gr/\w.heap[gr]? = some (.cells (u0K n).toArray 44))/\(B <= gv/\w.heap[gv]? = some (.cells (rowV n).toArray 9))/\(B <= gt/\w.heap[gt]? = some (.cells (rowT n).toArray 38))
theorem s0Y (B n:Nat):∀ i v w w',vNn B n i v w->Below w.heap.size w w'->vNn B n i v w':=by
 intro i v w w' h hb;unfold vNn at h ⊢
 split
 ·rename_i e
  rw [if_pos e] at h;obtain ⟨g,h1,h2,h3⟩:=h;exact ⟨g,h1,h2,a0a h3 hb⟩
 ·rename_i e1
  rw [if_neg e1] at h
  split
  ·rename_i e
   rw [if_pos e] at h;obtain ⟨g,h1,h2,h3⟩:=h;exact ⟨g,h1,h2,a0a h3 hb⟩
  ·rename_i e2
   rw [if_neg e2] at h
   split
   ·rename_i e
    rw [if_pos e] at h;obtain ⟨g,h1,h2,h3⟩:=h;exact ⟨g,h1,h2,a0a h3 hb⟩
   ·rename_i e3
    rw [if_neg e3] at h
    split
    ·rename_i e
     rw [if_pos e] at h;obtain ⟨g,h1,h2,h3⟩:=h;exact ⟨g,h1,h2,a0a h3 hb⟩
    ·rename_i e4
     rw [if_neg e4] at h;obtain ⟨gs,gr,gv,gt,h0,h1,h2,h3,h4⟩:=h;refine ⟨gs,gr,gv,gt,?_,⟨h1.1,a0a h1.2 hb⟩,⟨h2.1,a0a h2.2 hb⟩,⟨h3.1,a0a h3.2 hb⟩,⟨h4.1,a0a h4.2 hb⟩⟩
     split
     ·rename_i e
      rw [if_pos e] at h0;exact h0
     ·rename_i e
      rw [if_neg e] at h0;obtain ⟨x,h5,h6,h7⟩:=h0;exact ⟨x,h5,h6,a0a h7 hb⟩
theorem w0q (n:Nat) (hn:n <= 8):(List.replicate n (j0v,Value.slice none 0 0)).map (·.1)=(newR n).regs.take (newR n).n:=by
 show _=(List.replicate 8 j0v).take n;rw [List.map_replicate,List.take_replicate,Nat.min_eq_left hn]
theorem w0r {w:World} {n x gs gr gv gt:Nat} (hn:2 <= n/\n <= 8) (hx:w.heap[x]? = some (.cells (refC (newR n) gs gr gv gt (.slice none 0 0)).toArray 86)) (h1:w.heap[gs]? = some (.cells (rowS n).toArray 40)) (h2:w.heap[gr]? = some (.cells (u0K n).toArray 44)) (h3:w.heap[gv]? = some (.cells (rowV n).toArray 9)) (h4:w.heap[gt]? = some (.cells (rowT n).toArray 38)) :
  RZ w x gs gr gv gt (newR n) (List.replicate n (j0v,Value.slice none 0 0)) (.slice none 0 0) [] :=
 ⟨RInv.new n hn,hx,by rw [n0M];exact h1,by rw [n0M];exact h2,by rw [n0M];exact h3,by rw [n0M];exact h4,w0q n hn.2,b0N.nil w [],fun q hq=>by rw [List.eq_of_mem_replicate hq];exact b0N.nil w [],fun b hb=>by cases hb⟩
theorem o0U (w:World) (n:Nat) (hn:2 <= n/\n <= 8):Calls prog 18 #[nu (n:Int)] w fun e w'=>∃ x G,e = .returned (pt x 0)/\RY w' x G (newR n)/\(∀ b ∈ G,w.heap.size <= b)/\Below w.heap.size w w':=by
 have hn8:=hn.2;go_enter func18,ntmps18;go_upto_region 1 with fail
 refine i0k (N:=13) 10 (vG [1,3,5,7,8,9] (vNn w.heap.size n) [nu (n:Int),undef,nu (n:Int),undef,nu (n:Int),undef,nu (n:Int)]) (by kernel_rfl) (by kernel_rfl) (by kernel_rfl) rfl (u0H (s0Y w.heap.size n)) ?_ ?_
 ·intro i o hi ho
  match i,ho with
  | 0,ho=>cases ho;exact fun a w hB hk hD=>a0q 0 _ rfl (hk 0 (by kernel_rfl)) ⟨_,rfl,mkC (by decide) rfl,Below.refl _ _⟩
  | 1,ho=>cases ho;exact fun a w hB hk hD=>f0A 3 rfl underlying82 infoSub rfl (a0h wfZeroS) ⟨by decide,by decide⟩ (by decide) n hn8 (vG_c (hD 0 3 (by kernel_rfl) (by kernel_rfl)) (by decide)) ⟨_,rfl,mkS (by decide) ⟨w.heap.size,rfl,hB.size,a0f w _⟩,a0c _ _⟩
  | 2,ho=>cases ho;exact fun a w hB hk hD=>a0q 0 _ rfl (hk 0 (by kernel_rfl)) ⟨_,rfl,mkC (by decide) rfl,Below.refl _ _⟩
  | 3,ho=>cases ho;exact fun a w hB hk hD=>f0A 5 rfl underlying83 infoRep rfl (a0j wfZeroR _) ⟨by decide,by decide⟩ (by decide) n hn8 (vG_c (hD 2 5 (by kernel_rfl) (by kernel_rfl)) (by decide)) ⟨_,rfl,mkS (by decide) ⟨w.heap.size,rfl,hB.size,a0f w _⟩,a0c _ _⟩
  | 4,ho=>cases ho;exact fun a w hB hk hD=>a0q 0 _ rfl (hk 0 (by kernel_rfl)) ⟨_,rfl,mkC (by decide) rfl,Below.refl _ _⟩
  | 5,ho=>cases ho;exact fun a w hB hk hD=>f0A 7 rfl underlying33 infoSt rfl rfl ⟨by decide,by decide⟩ (by decide) n hn8 (vG_c (hD 4 7 (by kernel_rfl) (by kernel_rfl)) (by decide)) ⟨_,rfl,mkS (by decide) ⟨w.heap.size,rfl,hB.size,a0f w _⟩,a0c _ _⟩
  | 6,ho=>cases ho;exact fun a w hB hk hD=>a0q 0 _ rfl (hk 0 (by kernel_rfl)) ⟨_,rfl,mkC (by decide) rfl,Below.refl _ _⟩
  | 7,ho=>cases ho;exact fun a w hB hk hD=>f0A 9 rfl underlying84 infoDig rfl rfl ⟨by decide,by decide⟩ (by decide) n hn8 (vG_c (hD 6 9 (by kernel_rfl) (by kernel_rfl)) (by decide)) ⟨_,rfl,mkS (by decide) ⟨w.heap.size,rfl,hB.size,a0f w _⟩,a0c _ _⟩
  | 8,ho =>
   cases ho
   intro a w hB hk hD;obtain ⟨gs,e1,b1,r1⟩:=vG_s (hD 1 4 (by kernel_rfl) (by kernel_rfl)) (by decide);obtain ⟨gr,e2,b2,r2⟩:=vG_s (hD 3 6 (by kernel_rfl) (by kernel_rfl)) (by decide);obtain ⟨gv,e3,b3,r3⟩:=vG_s (hD 5 8 (by kernel_rfl) (by kernel_rfl)) (by decide);obtain ⟨gt,e4,b4,r4⟩:=vG_s (hD 7 10 (by kernel_rfl) (by kernel_rfl)) (by decide);have hb:=q0X w n gs gr gv gt;rw [← e1,← e2,← e3,← e4] at hb;exact r0Y _ _ rfl _ (by simp only [List.map_toArray,List.map_cons,List.map_nil];exact hb) ⟨_,rfl,mkS (by decide) ⟨gs,gr,gv,gt,rfl,⟨b1,r1⟩,⟨b2,r2⟩,⟨b3,r3⟩,⟨b4,r4⟩⟩,Below.refl _ _⟩
  | 9,ho =>
   cases ho
   intro a w hB hk hD;obtain ⟨gs,gr,gv,gt,e0,h1,h2,h3,h4⟩:=vG_s (hD 8 11 (by kernel_rfl) (by kernel_rfl)) (by decide);refine t0M _ 11 _ rfl e0 (fun W=>rfl) ⟨_,rfl,mkS (by decide) ⟨gs,gr,gv,gt,⟨w.heap.size,rfl,hB.size,a0f w _⟩,⟨h1.1,a0a h1.2 (a0c _ _)⟩,⟨h2.1,a0a h2.2 (a0c _ _)⟩,⟨h3.1,a0a h3.2 (a0c _ _)⟩,⟨h4.1,a0a h4.2 (a0c _ _)⟩⟩,a0c _ _⟩
  | (i + 10),ho=>omega
 ·intro o a w' ho hB hs hd hk hv
  cases ho
  obtain ⟨gs,gr,gv,gt,⟨x,e0,b0,r0⟩,h1,h2,h3,h4⟩:=vG_s (hv 9 12 (by omega) (by kernel_rfl)) (by decide);refine c0l 12 _ rfl e0 ?_;obtain ⟨tm,df⟩:=a;obtain rfl:df = []:=hd
  have h5:2 < tm.size:=by
   have:tm.size=13:=hs;omega
  have HZ:=hid (w0r hn r0 h1.2 h2.2 h3.2 h4.2);have HB:=hid hB
  have HG:Hid (∀ b ∈ [x,gs,gr,gv,gt],w.heap.size <= b):=by
   intro b hb;simp only [List.mem_cons,List.not_mem_nil,or_false] at hb;rcases hb with rfl | rfl | rfl | rfl | rfl
   ·exact b0
   ·exact h1.1
   ·exact h2.1
   ·exact h3.1
   ·exact h4.1
  have HL:Hid (∀ b ∈ [x,gs,gr,gv,gt],b < w'.heap.size):=by
   intro b hb;simp only [List.mem_cons,List.not_mem_nil,or_false] at hb;rcases hb with rfl | rfl | rfl | rfl | rfl
   ·exact a0D r0
   ·exact a0D h1.2
   ·exact a0D h2.2
   ·exact a0D h3.2
   ·exact a0D h4.2
  clear hv hk hs r0 h1 h2 h3 h4 b0 hB;go_wp2;go_ret;exact ⟨x,by simp [h5],[x,gs,gr,gv,gt],⟨gs,gr,gv,gt,_,_,[],HZ.out,by simp,HL.out⟩,HG.out,HB.out⟩
theorem a0F {w:World} {x:Nat} {G:List Nat} {R:Rs} (h:RY w x G R) (c:Int):Calls prog 24 #[pt x 0,nu c] w fun e w'=>e = .returned (.bool (hasB R.n c))/\w' = w:=by
 obtain ⟨bs,br,bv,bt,ps,vP,Y,hz,-⟩:=h;have c1:=hz.cS;unfold sl at c1;unfold hasB;clear hz;by_cases h0:0 <= c
 ·have d0:decide (0 <= c)=true:=decide_eq_true h0
  rw [d0,Bool.true_and];go_enter func24,ntmps24;go_wp2;go_ret;exact ⟨rfl,rfl⟩
 ·have d0:decide (0 <= c)=false:=decide_eq_false h0
  rw [d0,Bool.false_and];go_enter func24,ntmps24;go_wp2;go_ret;exact ⟨rfl,rfl⟩
open Go Go.RowKit
set_option maxRecDepth 100000
theorem d0m {α:Type} (f:α->List Value) (l:List α) (c:Nat) (h:c < l.length) (a:α) (e:f a=f l[c]):(l.set c a).flatMap f=l.flatMap f:=by
 rw [l0v f l c a h,f0d f l c h,e]
theorem d0N {R R':Rs} {ps:List RG} {c:Nat} {g':Reg} (v':Value) (h:ps.map (·.1)=R.regs.take R.n) (e1:R'.n=R.n) (e2:R'.regs=R.regs.set c g'):(ps.set c (g',v')).map (·.1)=R'.regs.take R'.n:=by
 rw [List.map_set,h,e1,e2,List.take_set]
def setG (R:Rs) (c:Nat) (g:Reg):Rs:={ R with regs:=R.regs.set c g }
section
variable {w w':World} {x bs br bv bt:Nat} {R:Rs} {ps:List RG} {vP:Value} {Y:List Nat}
theorem RZ.snd (h:RZ w x bs br bv bt R ps vP Y) {c:Nat} (hc:c < R.n):∃ u,ps[c]? = some (R.reg (c:Int),u)/\b0N w Y u (R.reg (c:Int)).ans.pend:=by
 have hc':c < ps.length:=by rw [h.len];exact hc
 refine ⟨(ps[c]).2,?_,?_⟩
 ·rw [List.getElem?_eq_getElem hc',← h.at hc']
 ·have:=h.all _ (List.getElem_mem hc')
  rwa [h.at hc'] at this
theorem RZ.open (h:RZ w x bs br bv bt R ps vP Y) {c:Nat} (hc:c < R.n) {u:Value} (hu:ps[c]? = some (R.reg (c:Int),u)) :
  (ps.flatMap fS=(ps.take c).flatMap fS++(subC (R.reg (c:Int)).asked++(ps.drop (c + 1)).flatMap fS))/\(ps.flatMap fR=(ps.take c).flatMap fR++(repC (R.reg (c:Int)).ans u++(ps.drop (c + 1)).flatMap fR)) /\
  (ps.flatMap fV=(ps.take c).flatMap fV++([st (R.reg (c:Int)).view]++(ps.drop (c + 1)).flatMap fV))/\(ps.flatMap fT=(ps.take c).flatMap fT++(dg (R.reg (c:Int)).tag++(ps.drop (c + 1)).flatMap fT)):=by
 have hc':c < ps.length:=by rw [h.len];exact hc
 have e:ps[c]=(R.reg (c:Int),u):=by
  rw [List.getElem?_eq_getElem hc'] at hu;exact Option.some.inj hu
 refine ⟨?_,?_,?_,?_⟩
 ·have:=f0d fS ps c hc'
  rwa [e] at this
 ·have:=f0d fR ps c hc'
  rwa [e] at this
 ·have:=f0d fV ps c hc'
  rwa [e] at this
 ·have:=f0d fT ps c hc'
  rwa [e] at this
theorem RZ.nes (h:RZ w x bs br bv bt R ps vP Y):x ≠ bs/\x ≠ br/\x ≠ bv/\x ≠ bt/\bs ≠ br/\bs ≠ bv/\bs ≠ bt/\br ≠ bv/\br ≠ bt/\bv ≠ bt :=
 ⟨f0r h.row h.subs (by decide),f0r h.row h.reps (by decide),f0r h.row h.views (by decide),f0r h.row h.tags (by decide),f0r h.subs h.reps (by decide),f0r h.subs h.views (by decide),f0r h.subs h.tags (by decide),f0r h.reps h.views (by decide),f0r h.reps h.tags (by decide),f0r h.views h.tags (by decide)⟩
theorem b0N.but {v:Value} {l:List Pen} {g:Nat} (h:b0N w Y v l) (hb:But g w w') (hg:g ∉ Y):b0N w' Y v l:=h.kp (X:=[g]) ((Kp.refl _ _).but hb (Or.inl (by simp))) (fun b hb' hx=>by rw [List.mem_singleton] at hx;subst hx;exact hg hb')
theorem g0T {α:Type} {l:List α} {c:Nat} {a q:α} (h:q ∈ l.set c a):q ∈ l ∨ q=a:=List.mem_or_eq_of_mem_set h
theorem RZ.putView (h:RZ w x bs br bv bt R ps vP Y) {c:Nat} (hc:c < R.n) {u:Value} (hu:ps[c]? = some (R.reg (c:Int),u)) (hp:b0N w Y u (R.reg (c:Int)).ans.pend) {v:List UInt8} (hv:RInv (setG R c { R.reg (c:Int) with view:=v }))
  (hr:w'.heap[bv]? = some (.cells ((ps.take c).flatMap fV++([st v]++(ps.drop (c + 1)).flatMap fV)).toArray 9)) (hb:But bv w w') :
  RZ w' x bs br bv bt (setG R c { R.reg (c:Int) with view:=v }) (ps.set c ({ R.reg (c:Int) with view:=v },u)) vP Y:=by
 have hc':c < ps.length:=by rw [h.len];exact hc
 have e:ps[c]=(R.reg (c:Int),u):=by
  rw [List.getElem?_eq_getElem hc'] at hu;exact Option.some.inj hu
 obtain ⟨-,-,n3,-,-,n6,-,n8,-,n10⟩:=h.nes;have hY:bv ∉ Y:=fun hy=>h.away bv hy (by simp);refine ⟨hv,hb.row h.row n3,?_,?_,?_,?_,d0N u h.regs rfl rfl,h.pens.but hb hY,fun q hq=>?_,h.away⟩
 ·rw [d0m fS ps c hc' _ (by rw [e];rfl)]
  exact hb.row h.subs n6
 ·rw [d0m fR ps c hc' _ (by rw [e];rfl)]
  exact hb.row h.reps n8
 ·rw [l0v fV ps c _ hc']
  exact hr
 ·rw [d0m fT ps c hc' _ (by rw [e];rfl)]
  exact hb.row h.tags n10.symm
 ·rcases g0T hq with hq | rfl
  ·exact (h.all q hq).but hb hY
  ·exact hp.but hb hY
theorem RZ.putTag (h:RZ w x bs br bv bt R ps vP Y) {c:Nat} (hc:c < R.n) {u:Value} (hu:ps[c]? = some (R.reg (c:Int),u)) (hp:b0N w Y u (R.reg (c:Int)).ans.pend) {t:List UInt8} (hv:RInv (setG R c { R.reg (c:Int) with tag:=t }))
  (hr:w'.heap[bt]? = some (.cells ((ps.take c).flatMap fT++(dg t++(ps.drop (c + 1)).flatMap fT)).toArray 38)) (hb:But bt w w') :
  RZ w' x bs br bv bt (setG R c { R.reg (c:Int) with tag:=t }) (ps.set c ({ R.reg (c:Int) with tag:=t },u)) vP Y:=by
 have hc':c < ps.length:=by rw [h.len];exact hc
 have e:ps[c]=(R.reg (c:Int),u):=by
  rw [List.getElem?_eq_getElem hc'] at hu;exact Option.some.inj hu
 obtain ⟨-,-,-,n4,-,-,n7,-,n9,n10⟩:=h.nes;have hY:bt ∉ Y:=fun hy=>h.away bt hy (by simp);refine ⟨hv,hb.row h.row n4,?_,?_,?_,?_,d0N u h.regs rfl rfl,h.pens.but hb hY,fun q hq=>?_,h.away⟩
 ·rw [d0m fS ps c hc' _ (by rw [e];rfl)]
  exact hb.row h.subs n7
 ·rw [d0m fR ps c hc' _ (by rw [e];rfl)]
  exact hb.row h.reps n9
 ·rw [d0m fV ps c hc' _ (by rw [e];rfl)]
  exact hb.row h.views n10
 ·rw [l0v fT ps c _ hc']
  exact hr
 ·rcases g0T hq with hq | rfl
  ·exact (h.all q hq).but hb hY
  ·exact hp.but hb hY
theorem RZ.putSub (h:RZ w x bs br bv bt R ps vP Y) {c:Nat} (hc:c < R.n) {u:Value} (hu:ps[c]? = some (R.reg (c:Int),u)) (hp:b0N w Y u (R.reg (c:Int)).ans.pend) {s:Sub} (hv:RInv (setG R c { R.reg (c:Int) with asked:=s }))
  (hr:w'.heap[bs]? = some (.cells ((ps.take c).flatMap fS++(subC s++(ps.drop (c + 1)).flatMap fS)).toArray 40)) (hb:But bs w w') :
  RZ w' x bs br bv bt (setG R c { R.reg (c:Int) with asked:=s }) (ps.set c ({ R.reg (c:Int) with asked:=s },u)) vP Y:=by
 have hc':c < ps.length:=by rw [h.len];exact hc
 have e:ps[c]=(R.reg (c:Int),u):=by
  rw [List.getElem?_eq_getElem hc'] at hu;exact Option.some.inj hu
 obtain ⟨n1,-,-,-,n5,n6,n7,-,-,-⟩:=h.nes;have hY:bs ∉ Y:=fun hy=>h.away bs hy (by simp);refine ⟨hv,hb.row h.row n1,?_,?_,?_,?_,d0N u h.regs rfl rfl,h.pens.but hb hY,fun q hq=>?_,h.away⟩
 ·rw [l0v fS ps c _ hc']
  exact hr
 ·rw [d0m fR ps c hc' _ (by rw [e];rfl)]
  exact hb.row h.reps n5.symm
 ·rw [d0m fV ps c hc' _ (by rw [e];rfl)]
  exact hb.row h.views n6.symm
 ·rw [d0m fT ps c hc' _ (by rw [e];rfl)]
  exact hb.row h.tags n7.symm
 ·rcases g0T hq with hq | rfl
  ·exact (h.all q hq).but hb hY
  ·exact hp.but hb hY
theorem RZ.putRep (h:RZ w x bs br bv bt R ps vP Y) {c:Nat} (hc:c < R.n) {u:Value} (hu:ps[c]? = some (R.reg (c:Int),u)) {y:Rep} {u':Value} (hp:b0N w Y u' y.pend) (hv:RInv (setG R c { R.reg (c:Int) with ans:=y }))
  (hr:w'.heap[br]? = some (.cells ((ps.take c).flatMap fR++(repC y u' ++ (ps.drop (c + 1)).flatMap fR)).toArray 44)) (hb:But br w w') :
  RZ w' x bs br bv bt (setG R c { R.reg (c:Int) with ans:=y }) (ps.set c ({ R.reg (c:Int) with ans:=y },u')) vP Y:=by
 have hc':c < ps.length:=by rw [h.len];exact hc
 have e:ps[c]=(R.reg (c:Int),u):=by
  rw [List.getElem?_eq_getElem hc'] at hu;exact Option.some.inj hu
 obtain ⟨-,n2,-,-,n5,-,-,n8,n9,-⟩:=h.nes;have hY:br ∉ Y:=fun hy=>h.away br hy (by simp);refine ⟨hv,hb.row h.row n2,?_,?_,?_,?_,d0N u' h.regs rfl rfl,h.pens.but hb hY,fun q hq=>?_,h.away⟩
 ·rw [d0m fS ps c hc' _ (by rw [e];rfl)]
  exact hb.row h.subs n5
 ·rw [l0v fR ps c _ hc']
  exact hr
 ·rw [d0m fV ps c hc' _ (by rw [e];rfl)]
  exact hb.row h.views n8.symm
 ·rw [d0m fT ps c hc' _ (by rw [e];rfl)]
  exact hb.row h.tags n9.symm
 ·rcases g0T hq with hq | rfl
  ·exact (h.all q hq).but hb hY
  ·exact hp.but hb hY
theorem RZ.more (h:RZ w x bs br bv bt R ps vP Y) {Y':List Nat} (hY:∀ b ∈ Y,b ∈ Y') (ha:∀ b ∈ Y',b ∉ [x,bs,br,bv,bt]):RZ w x bs br bv bt R ps vP Y':=⟨h.inv,h.row,h.subs,h.reps,h.views,h.tags,h.regs,h.pens.more hY,fun q hq=>(h.all q hq).more hY,ha⟩
end
theorem k0c (R:Rs) (bs br bv bt:Nat) (vP:Value):refC R bs br bv bt vP=([sl bs R.n,sl br R.n,sl bv R.n,sl bt R.n,nu R.who,st R.long]++dg R.ltag)++([vP]++[]):=by simp [refC]
theorem k0d {R:Rs} (h:RInv R) {c:Nat} (hc:c < R.n) (g:Reg):(setG R c g).reg (c:Int)=g:=by
 rw [j0x];have h8:=h.n;exact j0C R.regs c g j0v (by rw [h.len];omega)
theorem f0e (R:Rs) (c:Nat) (g g':Reg):setG (setG R c g) c g' = setG R c g':=by
 unfold setG;simp [List.set_set]
end Go.Proofs.YtagmnmoaekbffaaGreatDoor.Ms
