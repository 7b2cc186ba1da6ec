/-
  One law for regions that draw their order and call, make and write memory; loads of whole structs in a region's still part. No program plays a part.
-/
import Derived.Test.YthkkjjlpahdagaaGreatDoorS03
import Derived.StillTailTactics
import Derived.Test.YthkkjjlpahdagaaGreatDoorS25
namespace Go.Proofs.YthkkjjlpahdagaaGreatDoor.Ms
open Go Go.RowKit
set_option maxRecDepth 100000
section
variable {P:Program} {ops:Array Oper} {Q:Exit→Act→World→Prop} {N:Nat} {a0:Act} {w0:World}
def OweJ (P:Program) (ops:Array Oper) (Q:Exit→Act→World→Prop) (a0:Act) (S:List Nat) (cs:List Value) (J:(Nat→Bool)→World→Prop) (i:Nat) (o:Oper):Prop :=
 ∀ (L:Nat→Bool) (a:Act) (w:World),L i=false→(∀ j,waits o j=true→L j=true)→(∀ j oj,ops[j]? = some oj→waits oj i=true→L j=false)→J L w→Kpt ops a0 a i→Cst ops S cs a o→∀ K:Act→World→Prop,K (a.put o.dst (cs.getD i undef)) w→o.wp P a w K Q
def OweW (P:Program) (ops:Array Oper) (Q:Exit→Act→World→Prop) (a0:Act) (S:List Nat) (vs:(Nat→Bool)→Nat→Value→World→Prop) (cs:List Value) (J:(Nat→Bool)→World→Prop) (i:Nat) (o:Oper):Prop :=
 ∀ (L:Nat→Bool) (a:Act) (w:World),L i=false→(∀ j,waits o j=true→L j=true)→(∀ j oj,ops[j]? = some oj→waits oj i=true→L j=false)→(∀ j oj,ops[j]? = some oj→L j=true→∀ q,waits oj q=true→L q=true)→J L w→Kpt ops a0 a i→Cst ops S cs a o →
  (∀ j d,L j=true→j ∈ S→dstOf ops j=some d→vs L j (a.tmps.getD d undef) w) →
  o.wp P a w (fun a' w'=>∃ v,a' = a.put o.dst v∧(o.dst.isSome=true→vs (up L i) i v w')∧J (up L i) w'∧∀ j d,L j=true→j ∈ S→dstOf ops j=some d→vs (up L i) j (a.tmps.getD d undef) w') Q
theorem wp_region_cj {id:Nat} (n:Nat) (S:List Nat) (vs:(Nat→Bool)→Nat→Value→World→Prop) (cs:List Value) (J:(Nat→Bool)→World→Prop) (hf:P.follows .mixedOrders=true) (hok:okMd ops N=true) (hlast:lastOk ops n=true) (hN:a0.tmps.size=N)
  (hJ0:∀ w1,Below w0.heap.size w0 w1→J (fun _=>false) w1)
  (hJc:∀ i,i ∉ S→i < n→∀ L w,J L w→J (up L i) w)
  (hvs:∀ i,i ∉ S→i < n→∀ L j u w,vs L j u w→vs (up L i) j u w)
  (hc:∀ i o,i < n→i ∉ S→ops[i]? = some o→OweJ P ops Q a0 S cs J i o)
  (hs:∀ i o,i < n→i ∈ S→ops[i]? = some o→OweW P ops Q a0 S vs cs J i o)
  (hlo:∀ L o a w,(∀ i,i < n→L i=true)→L n=false→ops[n]? = some o→J L w→a.tmps.size=N→a.defers=a0.defers→Kpt ops a0 a n→(∀ i d,i < n→i ∉ S→dstOf ops i=some d→a.tmps.getD d undef=cs.getD i undef)→(∀ i d,i < n→i ∈ S→dstOf ops i=some d→vs L i (a.tmps.getD d undef) w)→(∀ t,noneW ops t=true→a.tmps.getD t undef=a0.tmps.getD t undef)→o.wp P a w (Q .normal) Q) :
  (Code.region id ops true).wp P Q a0 w0:=by
 have hsz:n + 1=ops.size∧∀ i,i < n→∀ o,ops[n]? = some o→waits o i=true ∨ ∃ j oj,waits o j=true∧ops[j]? = some oj∧waits oj i=true:=by
  unfold lastOk at hlast
  rw [Bool.and_eq_true,decide_eq_true_eq,List.all_eq_true] at hlast
  refine ⟨hlast.1,fun i hi o ho=>?_⟩
  have h1:=hlast.2 i (List.mem_range.2 hi)
  rw [ho] at h1
  simp only [Bool.or_eq_true,List.any_eq_true,List.mem_range,Bool.and_eq_true] at h1
  rcases h1 with h1 | ⟨j,-,h1,h2⟩
  ·exact Or.inl h1
  ·cases hoj:ops[j]? with
   | none=>rw [hoj] at h2;cases h2
   | some oj=>rw [hoj] at h2;exact Or.inr ⟨j,oj,h1,hoj,h2⟩
 refine wp_region_inv (fun L a w=>(L n=true→Q .normal a w∧∀ i,i < ops.size→L i=true)∧(L n=false→Md ops N a0 (vS S vs cs) J L a w)) hf (okMd_at hok).1 (fun w1 hw1=>⟨fun h=>Bool.noConfusion h,fun _=>⟨hN,rfl,fun _ _=>rfl,by simp,by simp,hJ0 w1 hw1⟩⟩) ?_ ?_
 ·intro L a w i o ho hI hLi hw
  have hi:i < ops.size:=(Array.getElem?_eq_some_iff.1 ho).1
  cases hLn:L n with
  | true =>
   rw [(hI.1 hLn).2 i hi] at hLi
   cases hLi
  | false =>
   have hm:=hI.2 hLn
   by_cases hin:i=n
   ·subst hin
    have hall:∀ j,j < i→L j=true:=by
     intro j hj
     rcases hsz.2 j hj o ho with h1 | ⟨k,ok,h1,h2,h3⟩
     ·exact hw j h1
     ·exact hm.clos k ok h2 (hw k h1) j h3
    refine Oper.wp_mono ?_ (hlo L o a w hall hLn ho hm.inv hm.size hm.defs (hm.keepAt hLi) (fun j d hj hjs hd=>vS_c (hm.done j d (hall j hj) hd) hjs) (fun j d hj hjs hd=>vS_s (hm.done j d (hall j hj) hd) hjs) (fun t ht=>hm.kept t (fun j _ e=>by
     unfold noneW at ht
     rw [List.all_eq_true] at ht
     have:=ht j (List.mem_range.2 (dst_lt e))
     simp [e] at this)))
    intro a' w' hQ
    refine ⟨fun _=>⟨hQ,fun j hj=>?_⟩,fun h=>?_⟩
    ·unfold up
     split
     ·rfl
     ·exact hall j (by omega)
    ·rw [up_self] at h
     cases h
   ·have hil:i < n:=by omega
    have hcst:Cst ops S cs a o:=fun j d hj hjs hd=>vS_c (hm.done j d (hw j hj) hd) hjs
    by_cases hiS:i ∈ S
    ·refine Oper.wp_mono ?_ (hs i o hil hiS ho L a w hLi hw (hm.not hLi) hm.clos hm.inv (hm.keepAt hLi) hcst (fun j d hj hjs hd=>vS_s (hm.done j d hj hd) hjs))
     rintro a' w' ⟨v,rfl,hv,hB,hmono⟩
     refine ⟨fun h=>?_,fun _=>hm.step hok ho hw (fun hd=>?_) hB (fun j d hj hd=>?_)⟩
     ·rw [up_ne hin,hLn] at h
      cases h
     ·unfold vS
      rw [if_pos hiS]
      exact hv hd
     ·have h0:=hm.done j d hj hd
      unfold vS at h0 ⊢
      by_cases hjs:j ∈ S
      ·rw [if_pos hjs]
       exact hmono j d hj hjs hd
      ·rw [if_neg hjs] at h0 ⊢
       exact h0
    ·refine hc i o hil hiS ho L a w hLi hw (hm.not hLi) hm.inv (hm.keepAt hLi) hcst _ ⟨fun h=>?_,fun _=>hm.step hok ho hw (fun _=>?_) (hJc i hiS hil L w hm.inv) (fun j d hj hd=>?_)⟩
     ·rw [up_ne hin,hLn] at h
      cases h
     ·unfold vS
      rw [if_neg hiS]
     ·have h0:=hm.done j d hj hd
      unfold vS at h0 ⊢
      by_cases hjs:j ∈ S
      ·rw [if_pos hjs] at h0 ⊢
       exact hvs i hiS hil L j _ w h0
      ·rw [if_neg hjs] at h0 ⊢
       exact h0
 ·intro L a w hall hI
  exact (hI.1 (hall n (by omega))).1
end
section
variable {P:Program} {ops:Array Oper} {Q:Act→Prop} {a:Act} {o:Oper} {rest:List Oper} {w:World}
theorem ws_load (ty:TypeId) (x:Operand) (ho:o.op = .load ty x)
  (g off:Nat) (hx:a.eval x = .pointer (some ⟨g,off,none⟩)) (hw:Region.wanted o (yielded ops a.tmps)=true) (cs:List Value) (d:TypeDesc) (hc:∀ j v,cs[j]? = some v→w.cell? ⟨g,off + j,none⟩=some v)
  (hu:P.underlying ty=some d) (hd:(match d with | .struct _ | .array _ _=>true | _=>false)=true) (hi:(P.info? ty).map (·.size)=some cs.length)
  (h:wpStill P ops w Q rest (a.put o.dst (.agg cs.toArray))):wpStill P ops w Q (o :: rest) a:=by
 unfold wpStill
 rw [if_pos hw]
 have hl:(loadCells ⟨g,off,none⟩ cs.length).run P w = .ok cs.toArray w :=
  run_loadCells_list (P:=P) w ⟨g,off,none⟩ cs (fun j v hv=>by rw [add_none];exact hc j v hv)
 cases hq:P.info? ty with
 | none=>simp [hq] at hi
 | some i =>
  have hs:i.size=cs.length:=by simpa [hq] using hi
  have hagg:(isAgg ty).run P w = .ok true w:=by
   unfold isAgg
   rw [Sem.run_bind,run_underlying hu w]
   cases d <;> simp_all
  unfold Oper.still execOp
  simp [ho,hx,Instr.loadAt,Instr.sureAddr,Sem.run_bind,loadVar,hagg,sizeOf,typeInfo,hq,hs,hl,Oper.stillUpon]
  exact h
end
open Go Go.RowKit
set_option maxRecDepth 100000
theorem infoPn:(Tryz.prog.info? 25).map (fun i=>(i.zero,i.size,i.bytes))=some (some (.agg (penC zeroP).toArray),68,96):=by kernel_rfl
theorem zeroP_cells:(Value.agg (penC zeroP).toArray).cells.size=68:=by
 show (penC zeroP).toArray.size=68
 rw [List.size_toArray]
 exact penC_len ⟨rfl,rfl⟩
theorem flat_app (a b:List Pen):flatQ (a++b)=flatQ a++flatQ b:=by simp [flatQ]
theorem run_app_pens {w:World} {v x:Value} {ps news:List Pen} (ty:TypeId) (h:OwnP w v ps) (hp:Pc w 68 x news.length (flatQ news)) (hl:ps.length + news.length ≤ 1000000) :
  ∃ v' w',(Builtin.append_ #[40,40] ty #[v,x]).run Tryz.prog w = .ok v' w'∧OwnP w' v' (ps++news)∧w.grownBy w' v.ownBlock∧(v'.ownBlock=v.ownBlock ∨ v'.ownBlock=some w.heap.size):=by
 obtain ⟨v',w',h1,h2,h3,h4⟩:=run_append_pc (P:=Tryz.prog) (w:=w) 0 40 ty 25 _ 68 96 Tryz.underlying40 infoPn zeroP_cells (by decide) v x ps.length news.length (flatQ ps) (flatQ news) h hp (one_flat news) hl (by decide) (Nat.zero_le _)
 refine ⟨v',w',h1,?_,h3,h4⟩
 unfold OwnP
 rw [List.length_append,flat_app]
 exact h2
theorem wl_app_pens {P:Program} {ops:Array Oper} {rest:List Oper} {o:Oper} {a:Act} {w:World} {Q:Exit→Act→World→Prop} (hg:o.guard=none) (s x:Operand) (ts:Array TypeId)
  (ho:o.op = .call { callee:=.builtin .append,args:=#[s,x],argTypes:=ts }) (v u:Value) (hs:a.eval s=v) (hx:a.eval x=u) (v':Value) (w':World) (hr:(Builtin.append_ ts o.type #[v,u]).run P w = .ok v' w')
  (h:wpList P ops Q rest (a.put o.dst v') w'):wpList P ops Q (o :: rest) a w:=by
 refine wpList_plain hg fun K hK=>?_
 have h':=hK _ _ h
 unfold Oper.wp execOp
 simp only [ho,resolve,invoke,builtin,Sem.run_bind,Sem.run_pure,Result.andThen_ok,List.map_toArray,List.map_cons,List.map_nil,hs,hx,hr]
 exact h'
theorem below_dn {B:Nat} {w w':World} (h:Below B w w') (n:Nat):Below B w (w'.drewN n):=⟨h.os,h.tape,h.output,h.size,h.block⟩
section
variable {P:Program} {ops:Array Oper} {rest:List Oper} {o:Oper} {a:Act} {w:World} {Q:Exit→Act→World→Prop}
theorem wl_buildL (ty:TypeId) (l:List (Nat × Operand)) (ho:o.op = .build ty l.toArray) (hw:Region.wanted o (yielded ops a.tmps)=true) (z:Array Value) (hr:(Instr.build ty (l.map fun x=>(x.1,a.eval x.2)).toArray).run P w = .ok (.agg z) w)
  (h:wpList P ops Q rest (a.put o.dst (.agg z)) w):wpList P ops Q (o :: rest) a w:=by
 refine BigFrame.wpList_want hw fun K hK=>?_
 have h':=hK _ _ h
 unfold Oper.wp execOp
 simp only [ho,List.map_toArray,Sem.run_bind,hr,Result.andThen_ok,Sem.run_pure]
 exact h'
end
theorem results_ct {P:Program} {fn:Func} {p u:Tmp} {ty:TypeId} (h:fn.results=#[.cell p ty,.tmp u]) (tmps:Array Value) (w:World) (g:Nat) (t:TypeId) (cs:Array Value) (fr:Nat × Nat) (d:TypeDesc)
  (hp:tmps.getD p undef = .pointer (some ⟨g,0,none⟩)) (hg:w.heap[g]? = some (.cells cs t fr))
  (hu:P.underlying ty=some d) (hd:(match d with | .struct _ | .array _ _=>true | _=>false)=true) (hi:(P.info? ty).map (·.size)=some cs.size) :
  (results fn tmps).run P w = .ok (.tuple #[.agg cs,tmps.getD u undef]) w:=by
 have hp':tmps[p]?.getD undef = .pointer (some ⟨g,0,none⟩):=by simpa using hp
 simp [results,h,hp',asAddr,run_loadVar_row w g t ty cs fr d hg hu hd hi]
theorem zeroRep:(Tryz.prog.info? 42).map (·.zero)=some (some (.agg (repC zeroR (.slice none 0 0)).toArray)):=by kernel_rfl
theorem rep_split (r:Rep) (v:Value):repC r v=([nu r.number,nu r.last,st r.view]++dg r.commit)++([v]++([nu r.vnum,st r.value]++(dg r.data++([st r.seen]++dg r.stag)))):=by simp [repC]
theorem size41:(Tryz.prog.info? 40).map (·.size)=some 1:=by kernel_rfl
def penH (p:Pen):List Value:=[nu p.client,nu p.number,nu p.kind,nu p.target]++dg p.asked
theorem pen_split (p:Pen):penC p=penH p++dg p.proof:=by simp [penC,penH]
theorem penH_len {p:Pen} (h:p.Wf):(penH p).length=36:=by rw [penH,List.length_append,dg_len,h.asked];rfl
theorem sub_wf {c:Int} {x:Sub} (hx:x.Wf):(subM c x).Wf:=⟨hx,wfZeroR,rfl,rfl,wfZeroB⟩
def subA (R:Rs) (c:Int) (x:Sub):Rs:={ R with regs:=R.regs.set c.toNat { R.reg c with asked:=x,ans:=ansR R x } }
theorem subA_inv {R:Rs} (h:RInv R) {c:Int} {x:Sub} (hx:x.Wf) (hok:subOk R c x=true) (hf:fullB R=false):RInv (subA R c x):=by
 have h1:=h.subN hx hok hf
 exact ⟨h.n,h1.len,h1.regs,h.long,h.ltag,h.who,h.plen,h.pend⟩
theorem mem_own {u:Value} {b:Nat}:b ∈ u.ownBlock.toList ↔ u.ownBlock=some b:=by
 cases u.ownBlock <;> simp [eq_comm]
theorem op_appE {P:Program} {o:Oper} {a:Act} {w:World} {Q:Exit→Act→World→Prop} {K:Act→World→Prop} (s x:Tmp) (ts:Array TypeId)
  (ho:o.op = .call { callee:=.builtin .append,args:=#[.tmp s,.tmp x],argTypes:=ts }) (v u:Value) (hs:a.tmps.getD s undef=v) (hx:a.tmps.getD x undef=u) (v':Value) (w':World) (hr:(Builtin.append_ ts o.type #[v,u]).run P w = .ok v' w') (h:K (a.put o.dst v') w'):o.wp P a w K Q:=by
 have e1:a.eval (.tmp s)=v:=hs
 have e2:a.eval (.tmp x)=u:=hx
 unfold Oper.wp execOp
 simp only [ho,resolve,invoke,builtin,Sem.run_bind,Sem.run_pure,Result.andThen_ok,List.map_toArray,List.map_cons,List.map_nil,e1,e2,hr]
 exact h
theorem op_buildL {P:Program} {o:Oper} {a:Act} {w:World} {Q:Exit→Act→World→Prop} {K:Act→World→Prop} (ty:TypeId) (l:List (Nat × Operand)) (ho:o.op = .build ty l.toArray) (z:Value) (hr:(Instr.build ty (l.map fun x=>(x.1,a.eval x.2)).toArray).run P w = .ok z w) (h:K (a.put o.dst z) w):o.wp P a w K Q:=by
 unfold Oper.wp execOp
 simp only [ho,List.map_toArray,Sem.run_bind,hr,Result.andThen_ok,Sem.run_pure]
 exact h
theorem flat_one (p:Pen):flatQ [p]=penC p:=by simp [flatQ]
theorem pc_one {w:World} {g:Nat} {p:Pen} (hp:p.Wf) (h:w.heap[g]? = some (.cells (penC p).toArray 25)):Pc w 68 (.slice (some ⟨g,0,none⟩) 1 1) [p].length (flatQ [p]):=by
 refine ⟨by rw [flat_one,penC_len hp];rfl,_,_,rfl,fun _=>⟨_,rfl,fun j u hj=>?_⟩⟩
 rw [flat_one] at hj
 rw [add_none]
 exact row_seg (off:=0) (A:=[]) (cs:=penC p) (C:=[]) h (by simp) rfl j u hj
theorem cell_kq {w w':World} {g i:Nat} {u:Value} (h:w.cell? ⟨g,i,none⟩=some u) (hb:Below w.heap.size w w'):w'.cell? ⟨g,i,none⟩=some u:=(hb.cell (p:=⟨g,i,none⟩) (World.block_lt_of_cell? w _ h)).trans h
open Go Go.RowKit
set_option maxRecDepth 100000
section
variable {α:Type}
theorem fm_len (f:α→List Value) (k:Nat):∀ l:List α,(∀ a ∈ l,(f a).length=k)→(l.flatMap f).length=l.length * k
 | [],_=>by simp
 | a :: l,h=>by
  have h1:=h a (by simp)
  have h2:=fm_len f k l (fun b hb=>h b (by simp [hb]))
  rw [List.flatMap_cons,List.length_append,h1,h2,List.length_cons,Nat.add_mul,Nat.one_mul,Nat.add_comm]
theorem fm_split (f:α→List Value) (l:List α) (c:Nat) (h:c < l.length):l.flatMap f=(l.take c).flatMap f++(f l[c]++(l.drop (c + 1)).flatMap f):=by
 conv=>lhs;rw [← List.take_append_drop c l,List.drop_eq_getElem_cons h]
 rw [List.flatMap_append,List.flatMap_cons]
theorem fm_set (f:α→List Value) (l:List α) (c:Nat) (a:α) (h:c < l.length):(l.set c a).flatMap f=(l.take c).flatMap f++(f a++(l.drop (c + 1)).flatMap f):=by
 rw [List.set_eq_take_append_cons_drop,if_pos h,List.flatMap_append,List.flatMap_cons]
theorem fm_pre (f:α→List Value) (k:Nat) (l:List α) (hk:∀ a ∈ l,(f a).length=k) (c:Nat) (h:c < l.length):((l.take c).flatMap f).length=c * k:=by
 rw [fm_len f k _ (fun a ha=>hk a (List.mem_of_mem_take ha)),List.length_take,Nat.min_eq_left (by omega)]
theorem fm_seg {w:World} {g:Nat} {t:TypeId} (f:α→List Value) (k:Nat) (l:List α) (hk:∀ a ∈ l,(f a).length=k) (h:w.heap[g]? = some (.cells (l.flatMap f).toArray t)) (c:Nat) (hc:c < l.length):∀ j v,(f l[c])[j]? = some v→w.cell? ⟨g,c * k + j,none⟩=some v :=
 row_seg h (fm_split f l c hc) (fm_pre f k l hk c hc)
end
abbrev RG:Type:=Reg × Value
def fS (q:RG):List Value:=subC q.1.asked
def fR (q:RG):List Value:=repC q.1.ans q.2
def fV (q:RG):List Value:=[st q.1.view]
def fT (q:RG):List Value:=dg q.1.tag
def sl (g n:Nat):Value:=.slice (some ⟨g,0,none⟩) n n
def refC (R:Rs) (bs br bv bt:Nat) (vP:Value):List Value:=[sl bs R.n,sl br R.n,sl bv R.n,sl bt R.n,nu R.who,st R.long]++(dg R.ltag++[vP])
def PensG (w:World) (Y:List Nat) (v:Value) (l:List Pen):Prop:=∃ a cap,v = .slice a l.length cap∧l.length ≤ cap∧(l ≠ []→∃ b off,a=some ⟨b,off,none⟩∧b ∈ Y∧∀ j,j < l.length→∀ i c,(penC (l.getD j noPen))[i]? = some c→w.cell? ⟨b,off + j * 68 + i,none⟩=some c)
theorem PensG.pens {w:World} {Y:List Nat} {v:Value} {l:List Pen} (h:PensG w Y v l):PensAt w v l:=by
 obtain ⟨a,cap,rfl,-,h2⟩:=h
 refine ⟨a,cap,rfl,fun hn=>?_⟩
 obtain ⟨b,off,h3,-,h4⟩:=h2 hn
 exact ⟨b,off,h3,h4⟩
theorem PensG.nil (w:World) (Y:List Nat):PensG w Y (.slice none 0 0) []:=⟨none,0,rfl,Nat.le_refl _,fun h=>absurd rfl h⟩
theorem PensG.more {w:World} {Y Y':List Nat} {v:Value} {l:List Pen} (h:PensG w Y v l) (hY:∀ b ∈ Y,b ∈ Y'):PensG w Y' v l:=by
 obtain ⟨a,cap,rfl,h1,h2⟩:=h
 refine ⟨a,cap,rfl,h1,fun hn=>?_⟩
 obtain ⟨b,off,h3,h4,h5⟩:=h2 hn
 exact ⟨b,off,h3,hY b h4,h5⟩
theorem cell_kpX {X:List Nat} {w w':World} {b i:Nat} {u:Value} (hk:Kp X w w') (hb:b ∉ X) (h:w.cell? ⟨b,i,none⟩=some u):w'.cell? ⟨b,i,none⟩=some u:=by
 have hl:b < w.heap.size:=World.block_lt_of_cell? w _ h
 have e:=hk.block b hl hb
 unfold World.cell? at h ⊢
 rw [e]
 exact h
theorem PensG.kp {X Y:List Nat} {w w':World} {v:Value} {l:List Pen} (h:PensG w Y v l) (hk:Kp X w w') (hX:∀ b ∈ Y,b ∉ X):PensG w' Y v l:=by
 obtain ⟨a,cap,rfl,h1,h2⟩:=h
 refine ⟨a,cap,rfl,h1,fun hn=>?_⟩
 obtain ⟨b,off,h3,h4,h5⟩:=h2 hn
 exact ⟨b,off,h3,h4,fun j hj i c hi=>cell_kpX hk (hX b h4) (h5 j hj i c hi)⟩
theorem PensG.one {w:World} {Y:List Nat} {v:Value} {l:List Pen} (h:PensG w Y v l):v.oneCell' = true:=by obtain ⟨a,cap,rfl,-⟩:=h;rfl
theorem OwnP.gens {w:World} {v:Value} {ps:List Pen} (h:OwnP w v ps) (hw:∀ p ∈ ps,p.Wf) (Y:List Nat) (hY:∀ b,v.ownBlock=some b→b ∈ Y):PensG w Y v ps:=by
 rcases h.form with ⟨rfl,rfl⟩ | ⟨g,cap,cur,rfl,h1,h2,-⟩
 ·exact PensG.nil w Y
 ·refine ⟨_,cap,rfl,h2,fun _=>⟨g,0,rfl,hY g rfl,fun j hj i c hi=>?_⟩⟩
  have e:=h.cell (j * 68 + i) c (flatQ_at hw j hj i c hi)
  rw [show 0 + j * 68 + i=j * 68 + i by omega]
  exact e
theorem PensG.pc {w:World} {Y:List Nat} {v:Value} {l:List Pen} (h:PensG w Y v l) (hw:∀ p ∈ l,p.Wf):Pc w 68 v l.length (flatQ l):=by
 obtain ⟨a,cap,rfl,-,h2⟩:=h
 refine ⟨flatQ_len hw,a,cap,rfl,fun hn=>?_⟩
 obtain ⟨b,off,rfl,-,h4⟩:=h2 (fun e=>hn (by rw [e];rfl))
 refine ⟨_,rfl,fun j u hj=>?_⟩
 rw [add_none]
 have hl:j < l.length * 68:=by
  have:=(List.getElem?_eq_some_iff.1 hj).1
  rw [flatQ_len hw] at this
  exact this
 have hq:j / 68 < l.length:=by omega
 have e:j=j / 68 * 68 + j % 68:=by omega
 have hp:=getD_wf hw (j / 68) hq
 have hi:j % 68 < (penC (l.getD (j / 68) noPen)).length:=by rw [penC_len hp];omega
 have h5:=flatQ_at hw (j / 68) hq (j % 68) _ (List.getElem?_eq_getElem hi)
 rw [← e,hj] at h5
 have h6:=h4 (j / 68) hq (j % 68) u (by rw [List.getElem?_eq_getElem hi];exact h5.symm)
 rw [show off + j / 68 * 68 + j % 68=off + j by omega] at h6
 exact h6
structure RZ (w:World) (x bs br bv bt:Nat) (R:Rs) (ps:List RG) (vP:Value) (Y:List Nat):Prop where
 inv:RInv R
 row:w.heap[x]? = some (.cells (refC R bs br bv bt vP).toArray 108)
 subs:w.heap[bs]? = some (.cells (ps.flatMap fS).toArray 39)
 reps:w.heap[br]? = some (.cells (ps.flatMap fR).toArray 42)
 views:w.heap[bv]? = some (.cells (ps.flatMap fV).toArray 9)
 tags:w.heap[bt]? = some (.cells (ps.flatMap fT).toArray 23)
 regs:ps.map (·.1)=R.regs.take R.n
 pens:PensG w Y vP R.pend
 all:∀ q ∈ ps,PensG w Y q.2 q.1.ans.pend
 away:∀ b ∈ Y,b ∉ [x,bs,br,bv,bt]
section
variable {w w':World} {x bs br bv bt:Nat} {R:Rs} {ps:List RG} {vP:Value} {Y X:List Nat}
theorem RZ.len (h:RZ w x bs br bv bt R ps vP Y):ps.length=R.n:=by
 have e:=congrArg List.length h.regs
 rw [List.length_map,List.length_take,h.inv.len,Nat.min_eq_left h.inv.n.2] at e
 exact e
theorem RZ.at (h:RZ w x bs br bv bt R ps vP Y) {c:Nat} (hc:c < ps.length):(ps[c]).1=R.reg (c:Int):=by
 have e:(ps.map (·.1))[c]? = (R.regs.take R.n)[c]?:=by rw [h.regs]
 have hn:c < R.n:=by rw [← h.len];exact hc
 rw [List.getElem?_map,List.getElem?_eq_getElem hc,List.getElem?_take_of_lt hn] at e
 rw [reg_nat,List.getD_eq_getElem?_getD,← e]
 rfl
theorem RZ.ok (h:RZ w x bs br bv bt R ps vP Y):∀ q ∈ ps,GOk q.1:=by
 intro q hq
 obtain ⟨c,hc,rfl⟩:=List.getElem_of_mem hq
 rw [h.at hc]
 exact h.inv.reg _
theorem RZ.kS (h:RZ w x bs br bv bt R ps vP Y):∀ q ∈ ps,(fS q).length=68:=fun q hq=>subC_len (h.ok q hq).asked
theorem RZ.kR (h:RZ w x bs br bv bt R ps vP Y):∀ q ∈ ps,(fR q).length=103:=fun q hq=>repC_len (h.ok q hq).ans _
theorem RZ.kV (_h:RZ w x bs br bv bt R ps vP Y):∀ q ∈ ps,(fV q).length=1:=fun _ _=>rfl
theorem RZ.kT (h:RZ w x bs br bv bt R ps vP Y):∀ q ∈ ps,(fT q).length=32:=fun q hq=>by rw [fT,dg_len];exact (h.ok q hq).tag
theorem RZ.sub (h:RZ w x bs br bv bt R ps vP Y) {c:Nat} (hc:c < R.n):∀ j v,(subC (R.reg (c:Int)).asked)[j]? = some v→w.cell? ⟨bs,c * 68 + j,none⟩=some v:=by
 have hc':c < ps.length:=by rw [h.len];exact hc
 have e:=fm_seg fS 68 ps h.kS h.subs c hc'
 rw [fS,h.at hc'] at e
 exact e
theorem RZ.rep (h:RZ w x bs br bv bt R ps vP Y) {c:Nat} (hc:c < R.n):∃ v,PensG w Y v (R.reg (c:Int)).ans.pend∧∀ j u,(repC (R.reg (c:Int)).ans v)[j]? = some u→w.cell? ⟨br,c * 103 + j,none⟩=some u:=by
 have hc':c < ps.length:=by rw [h.len];exact hc
 have e:=fm_seg fR 103 ps h.kR h.reps c hc'
 have e2:=h.all _ (List.getElem_mem hc')
 rw [fR,h.at hc'] at e
 rw [h.at hc'] at e2
 exact ⟨_,e2,e⟩
theorem RZ.view (h:RZ w x bs br bv bt R ps vP Y) {c:Nat} (hc:c < R.n):w.cell? ⟨bv,c,none⟩=some (st (R.reg (c:Int)).view):=by
 have hc':c < ps.length:=by rw [h.len];exact hc
 have e:=fm_seg fV 1 ps h.kV h.views c hc' 0 _ rfl
 rw [h.at hc',Nat.mul_one,Nat.add_zero] at e
 exact e
theorem RZ.tag (h:RZ w x bs br bv bt R ps vP Y) {c:Nat} (hc:c < R.n):∀ j v,(dg (R.reg (c:Int)).tag)[j]? = some v→w.cell? ⟨bt,c * 32 + j,none⟩=some v:=by
 have hc':c < ps.length:=by rw [h.len];exact hc
 have e:=fm_seg fT 32 ps h.kT h.tags c hc'
 rw [fT,h.at hc'] at e
 exact e
theorem RZ.cS (h:RZ w x bs br bv bt R ps vP Y):w.cell? ⟨x,0,none⟩=some (sl bs R.n):=row_cell (A:=[]) h.row rfl rfl
theorem RZ.cR (h:RZ w x bs br bv bt R ps vP Y):w.cell? ⟨x,1,none⟩=some (sl br R.n):=row_cell (A:=[sl bs R.n]) h.row rfl rfl
theorem RZ.cV (h:RZ w x bs br bv bt R ps vP Y):w.cell? ⟨x,2,none⟩=some (sl bv R.n):=row_cell (A:=[sl bs R.n,sl br R.n]) h.row rfl rfl
theorem RZ.cT (h:RZ w x bs br bv bt R ps vP Y):w.cell? ⟨x,3,none⟩=some (sl bt R.n):=row_cell (A:=[sl bs R.n,sl br R.n,sl bv R.n]) h.row rfl rfl
theorem RZ.cW (h:RZ w x bs br bv bt R ps vP Y):w.cell? ⟨x,4,none⟩=some (nu R.who):=row_cell (A:=[sl bs R.n,sl br R.n,sl bv R.n,sl bt R.n]) h.row rfl rfl
theorem RZ.cL (h:RZ w x bs br bv bt R ps vP Y):w.cell? ⟨x,5,none⟩=some (st R.long):=row_cell (A:=[sl bs R.n,sl br R.n,sl bv R.n,sl bt R.n,nu R.who]) h.row rfl rfl
theorem RZ.cG (h:RZ w x bs br bv bt R ps vP Y):∀ j v,(dg R.ltag)[j]? = some v→w.cell? ⟨x,6 + j,none⟩=some v:=row_seg (A:=[sl bs R.n,sl br R.n,sl bv R.n,sl bt R.n,nu R.who,st R.long]) (C:=[vP]) h.row rfl rfl
theorem RZ.cP (h:RZ w x bs br bv bt R ps vP Y):w.cell? ⟨x,38,none⟩=some vP:=row_cell (A:=[sl bs R.n,sl br R.n,sl bv R.n,sl bt R.n,nu R.who,st R.long]++dg R.ltag) (C:=[]) h.row (by simp [refC]) (by simp [dg_len,h.inv.ltag])
theorem RZ.kp (h:RZ w x bs br bv bt R ps vP Y) (hk:Kp X w w') (hX:∀ b ∈ [x,bs,br,bv,bt]++Y,b ∉ X):RZ w' x bs br bv bt R ps vP Y :=
 ⟨h.inv,hk.row h.row (hX _ (by simp)),hk.row h.subs (hX _ (by simp)),hk.row h.reps (hX _ (by simp)),hk.row h.views (hX _ (by simp)),hk.row h.tags (hX _ (by simp)),h.regs,h.pens.kp hk (fun b hb=>hX b (by simp [hb])),fun q hq=>(h.all q hq).kp hk (fun b hb=>hX b (by simp [hb])),h.away⟩
theorem RZ.kept (h:RZ w x bs br bv bt R ps vP Y) (hb:Below w.heap.size w w'):RZ w' x bs br bv bt R ps vP Y:=h.kp (X:=[]) (Kp.of hb) (fun _ _=>by simp)
theorem typ_ne {w:World} {a b:Nat} {c d:Array Value} {s t:TypeId} {f g:Nat × Nat} (h1:w.heap[a]? = some (.cells c s f)) (h2:w.heap[b]? = some (.cells d t g)) (h:s ≠ t):a ≠ b:=by
 rintro rfl
 rw [h1] at h2
 cases h2
 exact h rfl
end
def RY (w:World) (x:Nat) (G:List Nat) (R:Rs):Prop:=∃ bs br bv bt ps vP Y,RZ w x bs br bv bt R ps vP Y∧(∀ b ∈ [x,bs,br,bv,bt]++Y,b ∈ G)∧∀ b ∈ G,b < w.heap.size
theorem RY.kp {w w':World} {x:Nat} {G X:List Nat} {R:Rs} (h:RY w x G R) (hk:Kp X w w') (hX:∀ b ∈ G,b ∉ X):RY w' x G R:=by
 obtain ⟨bs,br,bv,bt,ps,vP,Y,h1,h2,h3⟩:=h
 exact ⟨bs,br,bv,bt,ps,vP,Y,h1.kp hk (fun b hb=>hX b (h2 b hb)),h2,fun b hb=>Nat.lt_of_lt_of_le (h3 b hb) hk.size⟩
theorem RY.kept {w w':World} {x:Nat} {G:List Nat} {R:Rs} (h:RY w x G R) (hb:Below w.heap.size w w'):RY w' x G R:=h.kp (X:=[]) (Kp.of hb) (fun _ _=>by simp)
end Go.Proofs.YthkkjjlpahdagaaGreatDoor.Ms
