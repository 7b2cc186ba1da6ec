/- S25 -/
import Derived.Test.YtagmnmoaekbffaaGreatDoorS03
import Derived.Test.YtagmnmoaekbffaaGreatDoorS01
import Derived.Test.YtagmnmoaekbffaaGreatDoorS15
import Derived.Test.YtagmnmoaekbffaaGreatDoorS22
import Derived.Test.YtagmnmoaekbffaaGreatDoorS23
import Derived.Lib.QuietBelow
namespace Go.Proofs.YtagmnmoaekbffaaGreatDoor.Ms
open Go.Proofs.Tryz
open Go Go.RowKit
set_option maxRecDepth 100000
theorem l0k (off:Nat):∀ (cs:List Value) (k:Nat) (A old C:List Value),A.length=off + k->old.length=cs.length ->
  (cs.zipIdx k).foldl (fun (acc:Array Value) (x:Value × Nat)=>acc.setIfInBounds (off + x.2) x.1) (A++(old++C)).toArray=(A++(cs++C)).toArray
 | [],k,A,old,C,_,h=>by
  have:old = []:=List.eq_nil_of_length_eq_zero (by simpa using h);subst this;rfl
 | c :: cs,k,A,[],C,_,h=>by simp at h
 | c :: cs,k,A,o :: old,C,hA,h=>by
  have ih:=l0k off cs (k + 1) (A++[c]) old C (by simp [hA];omega) (by simpa using h);rw [List.zipIdx_cons,List.foldl_cons]
  have e:((A++(o :: old++C)).toArray).setIfInBounds (off + k) c=((A++[c])++(old++C)).toArray:=by
   rw [← hA];simp
  simp only;rw [e,ih];simp
theorem q0H (place:Nat->Option (Nat × Nat)) (i off:Nat) (v:Value) (cs A old C:List Value) (rest:List (Nat × Value)) (hp:place i=some (off,cs.length)) (hv:v.cells=cs.toArray) (hA:A.length=off) (hold:old.length=cs.length) :
  Instr.fill place (A++(old++C)).toArray ((i,v) :: rest)=Instr.fill place (A++(cs++C)).toArray rest:=by
 have hf:=l0k off cs 0 A old C (by simpa using hA) hold
 conv=>lhs;unfold Instr.fill
 rw [hp];simp only [hv]
 have hc:(cs.toArray.size ≠ cs.length || off + cs.toArray.size > (A++(old++C)).toArray.size)=false:=by
  subst hA;simp [hold]
 rw [if_neg (by rw [hc];simp)]
 congr 1
 rw [← hf];simp
def Fits (place:Nat->Option (Nat × Nat)) (segs:List (List Value)):Prop:=∀ i s,segs[i]? = some s->place i=some ((segs.take i).flatten.length,s.length)
theorem f0S (segs:List (List Value)) (i:Nat) (hi:i < segs.length):segs.flatten=(segs.take i).flatten++(segs[i]++(segs.drop (i + 1)).flatten):=by
 conv=>lhs;rw [← List.take_append_drop i segs]
 rw [List.flatten_append,List.drop_eq_getElem_cons hi,List.flatten_cons]
theorem s0J {place:Nat->Option (Nat × Nat)} {segs:List (List Value)} (h:Fits place segs) (i:Nat) (hi:i < segs.length) (cs:List Value) (hl:cs.length=(segs[i]).length):Fits place (segs.set i cs):=by
 have hlen:∀ j,((segs.set i cs).take j).flatten.length=(segs.take j).flatten.length:=by
  intro j;simp only [List.length_flatten]
  congr 1
  apply List.ext_getElem?;intro k;simp only [List.getElem?_map,List.getElem?_take]
  split
  ·rw [List.getElem?_set]
   split
   ·rename_i e
    subst e;simp [hi,hl]
   ·rfl
  ·rfl
 intro j s hs;rw [hlen];rw [List.getElem?_set] at hs
 split at hs
 ·rename_i e
  subst e
  cases hs
  rw [hl];exact h i _ (List.getElem?_eq_getElem hi)
 ·exact h j s hs
theorem n0G {place:Nat->Option (Nat × Nat)}:∀ (parts:List (Nat × List Value × Value)) (segs:List (List Value)),Fits place segs->(∀ x ∈ parts,x.2.2.cells=x.2.1.toArray/\∃ s,segs[x.1]? = some s/\x.2.1.length=s.length) ->
  Instr.fill place segs.flatten.toArray (parts.map fun x=>(x.1,x.2.2))=some (parts.foldl (fun s x=>s.set x.1 x.2.1) segs).flatten.toArray
 | [],segs,_,_=>rfl
 | (i,cs,v) :: parts,segs,hf,hp=>by
  obtain ⟨hv,s,hs,hl⟩:=hp (i,cs,v) (by simp);obtain ⟨hi,hs'⟩:=List.getElem?_eq_some_iff.1 hs;simp only at hv hl hs;subst hs'
  have hset:(segs.set i cs).flatten=(segs.take i).flatten++(cs++(segs.drop (i + 1)).flatten):=by
   rw [f0S (segs.set i cs) i (by simpa using hi)];rw [List.take_set_of_le (Nat.le_refl i),List.drop_set_of_lt (by omega),List.getElem_set_self]
  rw [List.map_cons,f0S segs i hi];simp only;rw [q0H place i _ v cs _ _ _ _ (by rw [hl];exact hf i _ hs) hv rfl hl.symm,← hset,List.foldl_cons]
  exact n0G parts (segs.set i cs) (s0J hf i hi cs hl) (fun x hx=>by
   obtain ⟨h1,s',h2,h3⟩:=hp x (by simp [hx]);refine ⟨h1,?_⟩;rw [List.getElem?_set]
   split
   ·rename_i e
    subst e;rw [h2] at hs
    cases hs
    exact ⟨cs,by simp,by rw [h3,hl]⟩
   ·exact ⟨s',h2,h3⟩)
theorem c0f {P:Program} {W:World} {t:TypeId} {fields:Array Field} {zs:List Value} (pl:List (Nat × Nat)) (hu:P.underlying t=some (.struct fields)) (hz:(P.info? t).map (·.zero)=some (some (.agg zs.toArray)))
  (hp:fields.toList.mapM (fun f=>(P.info? f.type).map fun i=>(f.offset,i.size))=some pl) (segs:List (List Value)) (hs:segs.flatten=zs) (hf:Fits (pl.toArray[·]?) segs) (parts:List (Nat × List Value × Value))
  (hx:∀ x ∈ parts,x.2.2.cells=x.2.1.toArray/\∃ s,segs[x.1]? = some s/\x.2.1.length=s.length) (out:List Value) (ho:(parts.foldl (fun s x=>s.set x.1 x.2.1) segs).flatten=out) :
  (Instr.build t (parts.map fun x=>(x.1,x.2.2)).toArray).run P W = .ok (.agg out.toArray) W:=by
 have h:=n0G (place:=(pl.toArray[·]?)) parts segs hf hx;rw [hs,ho] at h;refine run_build W t _ _ ?_
 cases hq:P.info? t with
 | none=>simp [hq] at hz
 | some i =>
  have hz':i.zero=some (.agg zs.toArray):=by simpa [hq] using hz
  unfold Program.built;rw [hq,hu];simp only [hz',hp];exact h
theorem g0o (segs:List (List Value)) (pl:List (Nat × Nat)) (h:(List.range segs.length).all (fun i=>decide (pl[i]? = some ((segs.take i).flatten.length,(segs.getD i []).length)))=true):Fits (pl.toArray[·]?) segs:=by
 intro i s hs;obtain ⟨hi,rfl⟩:=List.getElem?_eq_some_iff.1 hs;rw [List.all_eq_true] at h;have:=of_decide_eq_true (h i (List.mem_range.2 hi));rw [List.getD_eq_getElem?_getD,List.getElem?_eq_getElem hi] at this;simpa using this
def repS:List (List Value):=[[nu 0],[nu 0],[st []],dg a0n,[.slice none 0 0],[nu 0],[st []],dg a0n,[st []],dg a0n]
def x0n:List (Nat × Nat):=[(0,1),(1,1),(2,1),(3,32),(35,1),(36,1),(37,1),(38,32),(70,1),(71,32)]
theorem zeroRepl:(prog.info? 44).map (·.zero)=some (some (.agg repS.flatten.toArray)):=by kernel_rfl
def msgS:List (List Value):=[[nu 0],[nu 0],subC c0j,repC a0p (.slice none 0 0),[st []],[nu 0],dg a0n,dg a0n,bloC o0d,[.slice none 0 0]]
def u0z:List (Nat × Nat):=[(0,1),(1,1),(2,68),(70,103),(173,1),(174,1),(175,32),(207,32),(239,35),(274,1)]
theorem zeroMsgs:(prog.info? 80).map (·.zero)=some (some (.agg msgS.flatten.toArray)):=by kernel_rfl
theorem c0g (W:World) (c:Int) (x:Sub) (hx:x.Wf):(Instr.build 80 #[(0,nu 1),(1,nu c),(2,.agg (subC x).toArray)]).run prog W = .ok (.agg (msgC (subM c x) (.slice none 0 0) (.slice none 0 0)).toArray) W:=by
 refine c0f u0z underlying80 zeroMsgs (by kernel_rfl) msgS rfl (g0o _ _ (by kernel_rfl)) [(0,[nu 1],nu 1),(1,[nu c],nu c),(2,subC x,.agg (subC x).toArray)] ?_ _ ?_
 ·intro y hy
  simp only [List.mem_cons,List.not_mem_nil,or_false] at hy;rcases hy with rfl | rfl | rfl
  ·exact ⟨rfl,_,rfl,rfl⟩
  ·exact ⟨rfl,_,rfl,rfl⟩
  ·exact ⟨rfl,_,rfl,by rw [a0h hx,a0h wfZeroS]⟩
 ·simp [msgS,msgC,subM,b0m]
theorem c0Z (W:World) (c:Int) (v t:List UInt8) (ht:t.length=32):(Instr.build 80 #[(0,nu 3),(1,nu c),(4,st v),(6,.agg (dg t).toArray)]).run prog W = .ok (.agg (msgC (comM c v t) (.slice none 0 0) (.slice none 0 0)).toArray) W:=by
 refine c0f u0z underlying80 zeroMsgs (by kernel_rfl) msgS rfl (g0o _ _ (by kernel_rfl)) [(0,[nu 3],nu 3),(1,[nu c],nu c),(4,[st v],st v),(6,dg t,.agg (dg t).toArray)] ?_ _ ?_
 ·intro y hy
  simp only [List.mem_cons,List.not_mem_nil,or_false] at hy;rcases hy with rfl | rfl | rfl | rfl
  ·exact ⟨rfl,_,rfl,rfl⟩
  ·exact ⟨rfl,_,rfl,rfl⟩
  ·exact ⟨rfl,_,rfl,rfl⟩
  ·exact ⟨rfl,_,rfl,by rw [a0e,a0e,ht];rfl⟩
 ·simp [msgS,msgC,comM,b0m]
def penS:List (List Value):=[[nu 0],[nu 0],[nu 0],[nu 0],dg a0n,dg a0n]
def x0o:List (Nat × Nat):=[(0,1),(1,1),(2,1),(3,1),(4,32),(36,32)]
theorem zeroPens:(prog.info? 57).map (·.zero)=some (some (.agg penS.flatten.toArray)):=by kernel_rfl
theorem q0I (W:World) (c:Int) (x:Sub) (hx:x.Wf):(Instr.build 57 #[(0,nu c),(1,nu x.number),(2,nu x.kind),(3,nu x.target),(4,.agg (dg x.asked).toArray)]).run prog W = .ok (.agg (penC (e0B c x)).toArray) W:=by
 refine c0f x0o underlying57 zeroPens (by kernel_rfl) penS rfl (g0o _ _ (by kernel_rfl)) [(0,[nu c],nu c),(1,[nu x.number],nu x.number),(2,[nu x.kind],nu x.kind),(3,[nu x.target],nu x.target),(4,dg x.asked,.agg (dg x.asked).toArray)] ?_ _ ?_
 ·intro y hy
  simp only [List.mem_cons,List.not_mem_nil,or_false] at hy;rcases hy with rfl | rfl | rfl | rfl | rfl
  ·exact ⟨rfl,_,rfl,rfl⟩
  ·exact ⟨rfl,_,rfl,rfl⟩
  ·exact ⟨rfl,_,rfl,rfl⟩
  ·exact ⟨rfl,_,rfl,rfl⟩
  ·exact ⟨rfl,_,rfl,by rw [a0e,a0e,hx.asked];rfl⟩
 ·simp [penS,penC,e0B]
open Go Go.RowKit
set_option maxRecDepth 100000
section
variable {P:Program} {ops:Array Oper} {rest:List Oper} {o:Oper} {a:Act} {w:World} {Q:Exit->Act->World->Prop}
theorem e0e (ty:TypeId) (l:List (Nat × Operand)) (ho:o.op = .build ty l.toArray) (hw:Region.wanted o (yielded ops a.tmps)=true) (z:Array Value) (hr:(Instr.build ty (l.map fun x=>(x.1,a.eval x.2)).toArray).run P w = .ok (.agg z) w)
  (h:wpList P ops Q rest (a.put o.dst (.agg z)) w):wpList P ops Q (o :: rest) a w:=by
 refine BigFrame.wpList_want hw fun K hK=>?_;have h':=hK _ _ h;unfold Oper.wp execOp;simp only [ho,List.map_toArray,Sem.run_bind,hr,Result.andThen_ok,Sem.run_pure];exact h'
end
theorem b0l {P:Program} {fn:Func} {p u:Tmp} {ty:TypeId} (h:fn.results=#[.cell p ty,.tmp u]) (tmps:Array Value) (w:World) (g:Nat) (t:TypeId) (cs:Array Value) (fr:Nat × Nat) (d:TypeDesc)
  (hp:tmps.getD p undef = .pointer (some ⟨g,0,none⟩)) (hg:w.heap[g]? = some (.cells cs t fr))
  (hu:P.underlying ty=some d) (hd:(match d with | .struct _ | .array _ _=>true | _=>false)=true) (hi:(P.info? ty).map (·.size)=some cs.size) :
  (results fn tmps).run P w = .ok (.tuple #[.agg cs,tmps.getD u undef]) w:=by
 have hp':tmps[p]?.getD undef = .pointer (some ⟨g,0,none⟩):=by simpa using hp
 simp [results,h,hp',asAddr,run_loadVar_row w g t ty cs fr d hg hu hd hi]
theorem f0c {P:Program} {fn:Func} {p:Tmp} {ty:TypeId} (h:fn.results=#[.cell p ty]) (tmps:Array Value) (w:World) (g:Nat) (t:TypeId) (cs:Array Value) (fr:Nat × Nat) (d:TypeDesc)
  (hp:tmps.getD p undef = .pointer (some ⟨g,0,none⟩)) (hg:w.heap[g]? = some (.cells cs t fr))
  (hu:P.underlying ty=some d) (hd:(match d with | .struct _ | .array _ _=>true | _=>false)=true) (hi:(P.info? ty).map (·.size)=some cs.size) :
  (results fn tmps).run P w = .ok (.agg cs) w:=by
 have hp':tmps[p]?.getD undef = .pointer (some ⟨g,0,none⟩):=by simpa using hp
 simp [results,h,hp',asAddr,run_loadVar_row w g t ty cs fr d hg hu hd hi]
theorem c0O {w:World} {g:Nat} {L:List Value} {t:TypeId} (h:w.heap[g]? = some (.cells L.toArray t)):w.heap[g]? = some (.cells ([]++(L++[])).toArray t):=by simpa using h
theorem a0k {w:World} {g:Nat} {cs:List Value} {t:TypeId} (h:w.heap[g]? = some (.cells cs.toArray t)):∀ j v,cs[j]? = some v->w.cell? ⟨g,0 + j,none⟩=some v:=a0s (A:=[]) (C:=[]) h (by simp) rfl
theorem j0d {w w':World} {g i:Nat} {u:Value} (h:w.cell? ⟨g,i,none⟩=some u) (hb:Below w.heap.size w w'):w'.cell? ⟨g,i,none⟩=some u:=(hb.cell (p:=⟨g,i,none⟩) (World.block_lt_of_cell? w _ h)).trans h
theorem zeroSubY:(prog.info? 40).map (·.zero)=some (some (.agg (subC c0j).toArray)):=by kernel_rfl
theorem szSY {x:Sub} (h:x.Wf):(prog.info? 40).map (·.size)=some (subC x).length:=by rw [a0h h];exact sizeSub
theorem szRY {x:Rep} (h:x.Wf) (v:Value):(prog.info? 44).map (·.size)=some (repC x v).length:=by rw [a0j h];exact sizeRep
open Go
set_option maxRecDepth 100000
def chkB (s:List UInt8) (n:Nat) (c d:Int) (t D:List UInt8):Bool:=decide (May n (c,d,t)) && decide (tagB s (c,d,t)=D)
def jdg (s:List UInt8) (n:Nat) (c d:Int) (t D:List UInt8):Int:=if chkB s n c d t D=true then 0 else 7
def b0V (p:Pen):Sub:=⟨p.number,p.kind,p.target,[],a0n,a0n⟩
theorem q0J (p:Pen):(b0V p).Wf:=⟨rfl,rfl⟩
def vsub (n:Nat) (c:Int) (x:Sub):Bool:=hasB n c && (hasB n x.target && mayB (subM c x))
def proE (s:List UInt8) (n:Nat) (d:List UInt8) (p:Pen):Int:=if p.number=1 then 0 else jdg s n p.client 3 (Hist.uptoL d p.client) p.proof
def c0w (s:List UInt8) (n:Nat) (d:List UInt8) (p:Pen):Int :=
 if vsub n p.client (b0V p)=false then 2
 else if p.number ≠ (Hist.cnt d p.client:Int) + 1 then 8
 else if jdg s n p.client 1 (askB p.client (b0V p)) p.asked ≠ 0 then jdg s n p.client 1 (askB p.client (b0V p)) p.asked
 else if proE s n d p ≠ 0 then proE s n d p
 else if 512 <= d.length then 11 else 0
def stepT (s:List UInt8) (n:Nat) (d:List UInt8) (p:Pen):List UInt8:=if c0w s n d p=0 then d++[by8 p.client] else []
def c0T (s:List UInt8) (n:Nat) (me:Int):List UInt8->List Pen->Int × List UInt8
 | d,[]=>(0,d)
 | d,p :: ps=>if p.client=me then (8,[]) else if c0w s n d p ≠ 0 then (c0w s n d p,[]) else c0T s n me (d++[by8 p.client]) ps
def l0l (s:List UInt8) (n:Nat) (y:Rep):Int :=
 if y.view = [] then 0 else if (hasB n y.last && Hist.rightB y.view n)=false then 2 else if c0i y.view ≠ y.last then 8 else jdg s n y.last 3 y.view y.commit
def goB (me:Int) (view:List UInt8) (y:Rep):Bool:=Hist.goesB y.view view && decide (Hist.cnt y.view me=Hist.cnt view me)
def c0n (s:List UInt8) (n:Nat) (me:Int) (view:List UInt8) (y:Rep):Int :=
 if l0l s n y ≠ 0 then l0l s n y else if goB me view y=false then 8
 else if (c0T s n me y.view y.pend).1 ≠ 0 then (c0T s n me y.view y.pend).1 else if 512 <= (c0T s n me y.view y.pend).2.length then 11 else 0
def c0B (s:List UInt8) (n:Nat) (me:Int) (view:List UInt8) (y:Rep):List UInt8:=if c0n s n me view y=0 then (c0T s n me y.view y.pend).2 else []
def h0N (t:Int) (d:List UInt8) (y:Rep):Bool:=decide (c0i y.seen=t) && (Hist.goesB d y.seen && (decide ((Hist.cnt y.seen t:Int)=y.vnum) || decide ((Hist.cnt y.seen t:Int)=y.vnum - 1)))
def q0K (s:List UInt8) (n:Nat) (t:Int) (d:List UInt8) (y:Rep):Int :=
 if y.seen = [] then (if y.vnum=1 then 0 else 8) else if h0N t d y=false then 8 else jdg s n t 3 y.seen y.stag
def valE (s:List UInt8) (n:Nat) (t:Int) (d:List UInt8) (y:Rep):Int :=
 if y.vnum ≠ (Hist.cnt d t:Int) then 8 else if y.vnum=0 then (if y.value = []/\y.seen = [] then 0 else 8)
 else if jdg s n t 2 (numB y.vnum++layT y.value) y.data ≠ 0 then jdg s n t 2 (numB y.vnum++layT y.value) y.data else q0K s n t d y
def repM (y:Rep):Msg:={ b0m 2 0 with rep:=y }
def i0o (n:Nat) (me:Int) (view:List UInt8) (x:Sub):Bool:=vsub n me x && (Hist.rightB view n && (x.number == (Hist.cnt view me:Int) + 1))
def f0T (x:Sub) (y:Rep):Bool:=mayB (repM y) && (y.number == x.number)
structure Got where
 view:List UInt8
 number:Int
 value:List UInt8
 who:Int
 long:List UInt8
 ltag:List UInt8
 seen:List UInt8
 stag:List UInt8
def f0l:Got:=⟨[],0,[],0,[],a0n,[],a0n⟩
def gotC (g:Got):List Value:=[st g.view,nu g.number,st g.value,nu g.who,st g.long]++(dg g.ltag++([st g.seen]++dg g.stag))
structure Got.Wf (g:Got):Prop where
 ltag:g.ltag.length=32
 stag:g.stag.length=32
theorem b0M {g:Got} (h:g.Wf):(gotC g).length=70:=by simp [gotC,a0e,h.ltag,h.stag]
theorem zeroT_wf:f0l.Wf:=⟨rfl,rfl⟩
def c0U (v:List UInt8) (y:Rep):Got:=if y.view = [] then ⟨v,0,[],-1,[],a0n,[],a0n⟩ else ⟨v,0,[],y.last,y.view,y.commit,[],a0n⟩
def j0e (g:Got) (y:Rep):Got:={ g with number:=y.vnum,value:=y.value,seen:=y.seen,stag:=y.stag }
theorem f0U {v:List UInt8} {y:Rep} (h:y.Wf):(c0U v y).Wf:=by
 unfold c0U
 split
 ·exact ⟨rfl,rfl⟩
 ·exact ⟨h.commit,rfl⟩
theorem h0O {g:Got} {y:Rep} (h:y.Wf) (hg:g.Wf):(j0e g y).Wf:=⟨hg.ltag,h.stag⟩
def chkE (s:List UInt8) (n:Nat) (me:Int) (view:List UInt8) (x:Sub) (y:Rep):Int :=
 if (i0o n me view x && f0T x y)=false then 2
 else if c0n s n me view y ≠ 0 then c0n s n me view y
 else if x.kind ≠ 2 then 0 else valE s n x.target (c0B s n me view y) y
def chkG (s:List UInt8) (n:Nat) (me:Int) (view:List UInt8) (x:Sub) (y:Rep):Got :=
 if chkE s n me view x y ≠ 0 then f0l
 else if x.kind ≠ 2 then c0U (c0B s n me view y++[by8 me]) y else j0e (c0U (c0B s n me view y++[by8 me]) y) y
theorem e0q (g:Got):∀ v ∈ gotC g,v.oneCell' = true:=by
 intro v hv;simp only [gotC,List.mem_append,List.mem_cons,List.not_mem_nil,or_false,dg,List.mem_map] at hv;rcases hv with (rfl | rfl | rfl | rfl | rfl) | ⟨x,-,rfl⟩ | rfl | ⟨x,-,rfl⟩ <;> rfl
open Go Go.RowKit
set_option maxRecDepth 100000
structure RgAt (w:World) (p:Nat) (s:List UInt8) (n:Nat):Prop where
 n2:2 <= n
 n8:n <= 8
 ring:∃ h g b L,RingAt w p h g b s n L
 kt:Ktab w
 tb:Lay.Tabs w
theorem RgAt.kept {w w':World} {p n:Nat} {s:List UInt8} (r:RgAt w p s n) (hb:Below w.heap.size w w'):RgAt w' p s n:=by
 obtain ⟨h,g,b,L,hr⟩:=r.ring;exact ⟨r.n2,r.n8,⟨h,g,b,L,hr.kept hb⟩,r.kt.stays hb r.kt.pos,r.tb.stays hb⟩
theorem h0P {w:World} {p n:Nat} {s:List UInt8} (r:RgAt w p s n):Calls prog 50 #[pt p 0] w fun e w'=>e = .returned (nu (n:Int))/\w' = w:=by
 obtain ⟨h,g,b,L,hr⟩:=r.ring;exact e0p hr
theorem x0p (d:List UInt8):dg d=d.map Go.Proofs.YtagmnmoaekbffaaGreatDoor.cb:=rfl
theorem u0A {w:World} {p n:Nat} {s:List UInt8} (r:RgAt w p s n) (c d:Int) (t D:List UInt8) (hD:D.length=32) :
  Calls prog 54 #[pt p 0,nu c,nu d,st t,.agg (dg D).toArray] w fun e w'=>e = .returned (.bool (chkB s n c d t D))/\Below w.heap.size w w':=by
 obtain ⟨h,g,b,L,hr⟩:=r.ring;unfold chkB;by_cases hm:May n (c,d,t)
 ·rw [decide_eq_true hm,Bool.true_and]
  exact u0x hr c d t D hD hm r.kt r.tb
 ·rw [decide_eq_false hm,Bool.false_and]
  exact q0G hr c d t D hm
theorem regr {f:Nat} {args:Array Value} {v:Value} {w:World} (H:∀ W,Below w.heap.size w W->Calls prog f args W fun e w'=>e = .returned v/\Below W.heap.size W w') :
  Hid (∀ dd os,Calls prog f args (Sort.grow (redrawn w dd) os) fun e w''=>e = .returned v/\∃ q:Regrown,w'' = Sort.grow (redrawn w q.d) q.os) :=
 fun dd os=>Calls.regrown_of (H _ (below_regrown w dd os))
end Go.Proofs.YtagmnmoaekbffaaGreatDoor.Ms
