/- U01 -/
import Derived.Test.YtagmnmoaekbffaaGreatDoorS30
import Derived.Test.YtagmnmoaekbffaaGreatDoorS25
import Derived.Test.YtagmnmoaekbffaaGreatDoorS23
namespace Go.Proofs.YtagmnmoaekbffaaGreatDoor.Ms
open Go.Proofs.Tryz
open Go Go.RowKit
set_option maxRecDepth 100000
def e0z (ops:Array Oper) (a:Act) (i:Nat):Value:=match a0E ops i with | some d=>a.tmps.getD d undef | none=>undef
section
variable {P:Program} {ops:Array Oper} {Q:Exit->Act->World->Prop} {N:Nat} {a0:Act} {w0:World} {J:(Nat->Bool)->(Nat->Value)->World->Prop} {L:Nat->Bool} {a:Act} {w w':World} {i:Nat} {o:Oper}
def OweR (P:Program) (ops:Array Oper) (Q:Exit->Act->World->Prop) (a0:Act) (J:(Nat->Bool)->(Nat->Value)->World->Prop) (i:Nat) (o:Oper):Prop :=
 ∀ L a w u,L i=false->(∀ j,waits o j=true->L j=true)->(∀ j oj,ops[j]? = some oj->waits oj i=true->L j=false)->J L u w ->
  (∀ t,d0Z ops i t=true->a.tmps.getD t undef=a0.tmps.getD t undef)->(∀ j d,L j=true->a0E ops j=some d->a.tmps.getD d undef=u j) ->
  ∀ K:Act->World->Prop,(∀ v w',(∀ u',(∀ j,j ≠ i->u' j=u j)->(o.dst.isSome=true->u' i=v)->J (up L i) u' w')->K (a.put o.dst v) w')->o.wp P a w K Q
theorem q0U (hok:okMd ops N=true) (hN:a.tmps.size=N) (ho:ops[i]? = some o) (v:Value):(∀ j,j ≠ i->e0z ops (a.put o.dst v) j=e0z ops a j)/\(o.dst.isSome=true->e0z ops (a.put o.dst v) i=v):=by
 obtain ⟨-,hd⟩:=g0j hok;have hdi:a0E ops i=o.dst:=by unfold a0E;rw [ho];rfl
 refine ⟨fun j hj=>?_,fun h=>?_⟩
 ·unfold e0z
  cases hdj:a0E ops j with
  | none=>rfl
  | some d =>
   have hne:o.dst ≠ some d:=fun e=>hj ((hd j d hdj).2 i (hdi.trans e)).symm
   cases e:o.dst with
   | none=>rfl
   | some d'=>exact k0N _ _ _ _ (fun e2=>hne (by rw [e,e2]))
 ·unfold e0z
  rw [hdi]
  cases e:o.dst with
  | none=>rw [e] at h;cases h
  | some d=>exact put_eq _ _ _ (by rw [hN];exact (hd i d (hdi.trans e)).1)
theorem e0O {id:Nat} (J:(Nat->Bool)->(Nat->Value)->World->Prop) (ds:(Nat->Value)->List (Nat × Value)) (hf:P.follows .mixedOrders=true) (hok:okMd ops N=true) (hN:a0.tmps.size=N)
  (hds:∀ u:Nat->Value,(List.range ops.size).filterMap (fun i=>(a0E ops i).map fun d=>(d,u i))=ds u)
  (h0:∀ u w1,Below w0.heap.size w0 w1->J (fun _=>false) u w1)
  (hown:∀ i o,ops[i]? = some o->OweR P ops Q a0 J i o)
  (hend:∀ u L W,(∀ i,i < ops.size->L i=true)->J L u W->Q .normal { tmps:=(ds u).foldl (fun B p=>B.setIfInBounds p.1 p.2) a0.tmps,defers:=a0.defers } W) :
  (Code.region id ops true).wp P Q a0 w0:=by
 refine d0r (fun L a w=>Md ops N a0 (fun _ _ _ _=>True) (fun _ _=>True) L a w/\J L (e0z ops a) w) hf (g0j hok).1 (fun w1 hw1=>⟨⟨hN,rfl,fun _ _=>rfl,by simp,by simp,trivial⟩,h0 _ w1 hw1⟩) ?_ ?_
 ·rintro L a w i o ho ⟨hm,hj⟩ hLi hw
  refine hown i o ho L a w (e0z ops a) hLi hw (hm.not hLi) hj (hm.keepAt hLi) (fun j d _ hd=>by unfold e0z;rw [hd]) _ (fun v w' hJ=>⟨hm.step hok ho hw (fun _=>trivial) trivial (fun _ _ _ _=>trivial),?_⟩);obtain ⟨h1,h2⟩:=q0U hok hm.size ho v;exact hJ _ h1 h2
 ·rintro L a W hall ⟨hm,hj⟩
  have e:=g0R (c:=e0z ops a) (hm.size.trans hN.symm) (fun t ht=>hm.kept t (fun i _ e=>by
   unfold m0g at ht;rw [List.all_eq_true] at ht;have:=ht i (List.mem_range.2 (h0q e))
   simp [e] at this)) (fun i d hd=>by unfold e0z;rw [hd])
  have e2:=e.trans (e0f (fun i=>a0E ops i) (e0z ops a) (List.range ops.size) a0.tmps);rw [hds] at e2
  have ea:a = { tmps:=(ds (e0z ops a)).foldl (fun B p=>B.setIfInBounds p.1 p.2) a0.tmps,defers:=a0.defers }:=by
   have hd:=hm.defs;obtain ⟨tm,df⟩:=a
   cases hd
   exact congrArg (fun t=>Act.mk t _) e2
  rw [ea];exact hend _ L W hall hj
theorem k0b {K:Act->World->Prop} (f:FuncId) (xs:List Operand) (ts:Array TypeId) (vs:Array Value) (ho:o.op = .call { callee:=.value (.func f),args:=xs.toArray,argTypes:=ts }) (hc:∀ args w,(callFunc f args).run P w = .ok (.enter f args) w) (hx:(xs.map a.eval).toArray=vs)
  {R:Value->World->Prop} (hm:Calls P f vs w fun e w'=>∃ v,e = .returned v/\R v w') (h:∀ v w',R v w'->K (a.put o.dst v) w'):o.wp P a w K Q:=by
 unfold Oper.wp execOp
 have e:(do let d ← resolve a.eval { callee:=.value (.func f),args:=xs.toArray,argTypes:=ts } o.type;invoke d.target d.args:Sem Next).run P w = .ok (.enter f vs) w:=by
  have e0:a.eval (.func f) = .func (.func f) #[] #[]:=rfl;simp [resolve,Deferred.ofValue,invoke,hc,e0,hx]
 simp only [ho];rw [e];simp only [Oper.upon];refine hm.mono ?_;rintro e w' ⟨v,rfl,hJ⟩;exact h v w' hJ
theorem a0i {L:Nat->Bool} {i k:Nat} (h:up L i k=true) (hne:i ≠ k):L k=true:=by rwa [b0p hne] at h
end
open Go Go.RowKit
set_option maxRecDepth 100000
structure RgL (w:World) (p h g b:Nat) (s:List UInt8) (n:Nat) (L:List Ent):Prop where
 n2:2 <= n
 n8:n <= 8
 ring:RingAt w p h g b s n L
 kt:Ktab w
 tb:Lay.Tabs w
section
variable {w w' W0:World} {p h g b n:Nat} {s:List UInt8} {L L':List Ent}
theorem RgL.rg (r:RgL w p h g b s n L):RgAt w p s n:=⟨r.n2,r.n8,⟨h,g,b,L,r.ring⟩,r.kt,r.tb⟩
theorem RgL.kept (r:RgL w p h g b s n L) (hb:Below w.heap.size w w'):RgL w' p h g b s n L:=⟨r.n2,r.n8,r.ring.kept hb,r.kt.stays hb r.kt.pos,r.tb.stays hb⟩
theorem RgL.touch (r:RgL w p h g b s n L) (ht:Touch b w w') (hb:Book w' b L'):RgL w' p h g b s n L' :=
 ⟨r.n2,r.n8,r.ring.grown hb ht,j0c r.kt r.ring.book ht,j0b r.tb r.ring.book ht⟩
theorem h0R {x:Nat} (ht:Touch b W0 w) (hb:But x w w') (hx:W0.heap.size <= x):Touch b W0 w' :=
 ⟨hb.os.trans ht.os,hb.tape.trans ht.tape,hb.output.trans ht.output,Nat.le_trans ht.size (Nat.le_of_eq hb.size.symm),fun k hk hne=>(hb.block k (by omega)).trans (ht.block k hk hne)⟩
theorem zeroDigY:(prog.info? 38).map (·.zero)=some (some (.agg (dg a0n).toArray)):=by kernel_rfl
theorem u0I (r:RgL w p h g b s n L) (c d:Int) (t:List UInt8) (hm:May n (c,d,t)) (hL:L.length < 1000000):Calls prog 19 #[pt p 0,nu c,nu d,st t] w fun e w1=>e = .returned (.tuple #[.agg (dg (tagB s (c,d,t))).toArray,nu 0])/\(Touch b w w1/\Book w1 b (e0M L (c,d,t))):=by
 rw [x0p];refine (x0m r.ring r.n8 c d t hm hL r.kt r.tb).mono ?_;rintro e w1 ⟨h1,h2,h3⟩;exact ⟨h1,h3,h2.book⟩
end
section
variable {w w':World} {p h g b n G:Nat} {s:List UInt8} {L:List Ent}
theorem q0V {i:Nat} {nm:String} {cs:Array Value} (hg:prog.globalNamed nm=some i) (hi:i ≠ G) (hv:w.var? prog nm=some cs) (hb:But G w w'):w'.var? prog nm=some cs:=by
 unfold World.var? at *;rw [hg] at *;simp only [Option.bind_some] at *;rw [hb.block i hi];exact hv
theorem u0J (r:RgL w p h g b s n L) (hG:6 <= G) (hp:p < G) (hh:h < G) (hg:g < G) (hbG:b < G) (hb:But G w w'):RgL w' p h g b s n L:=by
 refine ⟨r.n2,r.n8,⟨hb.row r.ring.obj (by omega),hb.row r.ring.var (by omega),hb.row r.ring.keys (by omega),r.ring.book.at (hb.block b (by omega))⟩,?_,?_⟩
 ·obtain ⟨t,fr,h0⟩:=r.kt
  exact ⟨t,fr,(hb.block 0 (by omega)).trans h0⟩
 ·obtain ⟨h1,tp,q,h2⟩:=r.tb
  exact ⟨q0V Lay.gPow (by omega) h1 hb,tp,q,q0V Lay.gRange (by omega) h2 hb⟩
theorem f0V (h:Lay.Tabs w):6 <= w.heap.size:=by
 obtain ⟨-,tp,q,h2⟩:=h;unfold World.var? at h2;rw [Lay.gRange] at h2;simp only [Option.bind_some] at h2;by_cases hl:5 < w.heap.size
 ·omega
 ·rw [Array.getElem?_eq_none (by omega)] at h2
  cases h2
end
end Go.Proofs.YtagmnmoaekbffaaGreatDoor.Ms
