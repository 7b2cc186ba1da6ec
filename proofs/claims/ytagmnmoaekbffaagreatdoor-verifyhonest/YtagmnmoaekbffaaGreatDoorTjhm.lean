/- Tjhm -/
import Derived.Test.YtagmnmoaekbffaaGreatDoorS09
import Derived.Test.YtagmnmoaekbffaaGreatDoorS01
namespace Go.Proofs.YtagmnmoaekbffaaGreatDoor.Ms
open Go.Proofs.Tryz
open Go Go.RowKit
set_option maxRecDepth 100000
def pP:Slot->Value->Value->Value
 | .inr (.inr (.inr (.inr _))),cv,_=>cv
 | _,_,vP=>vP
def pN:Slot->Value->Value->Value
 | .inr (.inr (.inr (.inl _))),cv,_=>cv
 | _,_,vN=>vN
def cvOf (vP vN:Value):Val->Value
 | .inl n=>nu n
 | .inr (.inl s)=>st s
 | .inr (.inr (.inl _))=>undef
 | .inr (.inr (.inr (.inl _)))=>vN
 | .inr (.inr (.inr (.inr _)))=>vP
def p0Q (cv:Value):Val->Prop
 | .inl n=>cv=nu n
 | .inr (.inl s)=>cv=st s
 | _=>True
def Sp (f:Fl Msg) (m:Msg) (vP vN:Value):Prop:=∃ A C,A.length=f.off/\msgC m vP vN=A++(cc (cvOf vP vN (f.get m)) (f.get m)++C) /\
 ∀ v cv,v.slot=f.slot->p0Q cv v->msgC (f.set m v) (pP f.slot cv vP) (pN f.slot cv vN)=A++(cc cv v++C)
structure FOk (f:Fl Msg):Prop where
 sp:∀ m vP vN,m.Wf->Sp f m vP vN
 sl:∀ m,(f.get m).slot=f.slot
 wf:∀ m v,m.Wf->m.Rng->v.slot=f.slot->d0V v->(f.set m v).Wf/\(f.set m v).Rng
 pend:(f.slot ≠ .pens/\∀ m v,(f.set m v).rep.pend=m.rep.pend) ∨ (f.slot = .pens/\∀ m v,(f.set m v).rep.pend=v.p)
 nums:(f.slot ≠ .nums/\∀ m v,(f.set m v).nums=m.nums) ∨ (f.slot = .nums/\∀ m v,(f.set m v).nums=v.l)
 dl:∀ m n,m.Wf->f.get m = .dig n->n.length=32
 gp:f.slot = .pens->∀ m,f.get m = .pens m.rep.pend
 gn:f.slot = .nums->∀ m,f.get m = .nums m.nums
theorem d0v:FOk b0P:=by
 refine ⟨fun m vP vN hw=>⟨[nu m.kind],[nu m.sub.number]++([nu m.sub.kind]++([nu m.sub.target]++([st m.sub.value]++(dg m.sub.asked++(dg m.sub.data++([nu m.rep.number]++([nu m.rep.last]++([st m.rep.view]++(dg m.rep.commit++([vP]++([nu m.rep.vnum]++([st m.rep.value]++(dg m.rep.data++([st m.rep.seen]++(dg m.rep.stag++([st m.view]++([nu m.who]++(dg m.tag++(dg m.own++([nu m.blob.owner]++([nu m.blob.number]++([st m.blob.cipher]++(dg m.blob.tag++([vN])))))))))))))))))))))))),rfl,?_,fun v cv hs hc=>?_⟩,fun m=>rfl,fun m v hw hr hs ho=>?_,.inl ⟨(fun h=>by cases h),fun m v=>rfl⟩,.inl ⟨(fun h=>by cases h),fun m v=>rfl⟩,(fun m n hw h=>by cases h),(fun h=>by cases h),(fun h=>by cases h)⟩
 ·simp [msgC,subC,repC,bloC,b0P,cc,cvOf]
 ·obtain ⟨n,rfl⟩:=b0q hs
  obtain rfl:cv=nu n:=hc;simp [msgC,subC,repC,bloC,b0P,cc,pP,pN,Val.n]
 ·obtain ⟨n,rfl⟩:=b0q hs
  exact ⟨⟨hw.sub,hw.rep,hw.tag,hw.own,hw.blob⟩,{ hr with client:=ho }⟩
theorem m0t:FOk e0Q:=by
 refine ⟨fun m vP vN hw=>⟨[nu m.kind]++([nu m.client]),[nu m.sub.kind]++([nu m.sub.target]++([st m.sub.value]++(dg m.sub.asked++(dg m.sub.data++([nu m.rep.number]++([nu m.rep.last]++([st m.rep.view]++(dg m.rep.commit++([vP]++([nu m.rep.vnum]++([st m.rep.value]++(dg m.rep.data++([st m.rep.seen]++(dg m.rep.stag++([st m.view]++([nu m.who]++(dg m.tag++(dg m.own++([nu m.blob.owner]++([nu m.blob.number]++([st m.blob.cipher]++(dg m.blob.tag++([vN]))))))))))))))))))))))),rfl,?_,fun v cv hs hc=>?_⟩,fun m=>rfl,fun m v hw hr hs ho=>?_,.inl ⟨(fun h=>by cases h),fun m v=>rfl⟩,.inl ⟨(fun h=>by cases h),fun m v=>rfl⟩,(fun m n hw h=>by cases h),(fun h=>by cases h),(fun h=>by cases h)⟩
 ·simp [msgC,subC,repC,bloC,e0Q,cc,cvOf]
 ·obtain ⟨n,rfl⟩:=b0q hs
  obtain rfl:cv=nu n:=hc;simp [msgC,subC,repC,bloC,e0Q,cc,pP,pN,Val.n]
 ·obtain ⟨n,rfl⟩:=b0q hs
  exact ⟨⟨⟨hw.sub.asked,hw.sub.data⟩,⟨hw.rep.commit,hw.rep.data,hw.rep.stag,hw.rep.pend⟩,hw.tag,hw.own,⟨hw.blob.tag⟩⟩,{ hr with sn:=ho }⟩
theorem p0R:FOk i0v:=by
 refine ⟨fun m vP vN hw=>⟨[nu m.kind]++([nu m.client]++([nu m.sub.number])),[nu m.sub.target]++([st m.sub.value]++(dg m.sub.asked++(dg m.sub.data++([nu m.rep.number]++([nu m.rep.last]++([st m.rep.view]++(dg m.rep.commit++([vP]++([nu m.rep.vnum]++([st m.rep.value]++(dg m.rep.data++([st m.rep.seen]++(dg m.rep.stag++([st m.view]++([nu m.who]++(dg m.tag++(dg m.own++([nu m.blob.owner]++([nu m.blob.number]++([st m.blob.cipher]++(dg m.blob.tag++([vN])))))))))))))))))))))),rfl,?_,fun v cv hs hc=>?_⟩,fun m=>rfl,fun m v hw hr hs ho=>?_,.inl ⟨(fun h=>by cases h),fun m v=>rfl⟩,.inl ⟨(fun h=>by cases h),fun m v=>rfl⟩,(fun m n hw h=>by cases h),(fun h=>by cases h),(fun h=>by cases h)⟩
 ·simp [msgC,subC,repC,bloC,i0v,cc,cvOf]
 ·obtain ⟨n,rfl⟩:=b0q hs
  obtain rfl:cv=nu n:=hc;simp [msgC,subC,repC,bloC,i0v,cc,pP,pN,Val.n]
 ·obtain ⟨n,rfl⟩:=b0q hs
  exact ⟨⟨⟨hw.sub.asked,hw.sub.data⟩,⟨hw.rep.commit,hw.rep.data,hw.rep.stag,hw.rep.pend⟩,hw.tag,hw.own,⟨hw.blob.tag⟩⟩,{ hr with sk:=ho }⟩
theorem m0u:FOk e0R:=by
 refine ⟨fun m vP vN hw=>⟨[nu m.kind]++([nu m.client]++([nu m.sub.number]++([nu m.sub.kind]))),[st m.sub.value]++(dg m.sub.asked++(dg m.sub.data++([nu m.rep.number]++([nu m.rep.last]++([st m.rep.view]++(dg m.rep.commit++([vP]++([nu m.rep.vnum]++([st m.rep.value]++(dg m.rep.data++([st m.rep.seen]++(dg m.rep.stag++([st m.view]++([nu m.who]++(dg m.tag++(dg m.own++([nu m.blob.owner]++([nu m.blob.number]++([st m.blob.cipher]++(dg m.blob.tag++([vN]))))))))))))))))))))),rfl,?_,fun v cv hs hc=>?_⟩,fun m=>rfl,fun m v hw hr hs ho=>?_,.inl ⟨(fun h=>by cases h),fun m v=>rfl⟩,.inl ⟨(fun h=>by cases h),fun m v=>rfl⟩,(fun m n hw h=>by cases h),(fun h=>by cases h),(fun h=>by cases h)⟩
 ·simp [msgC,subC,repC,bloC,e0R,cc,cvOf]
 ·obtain ⟨n,rfl⟩:=b0q hs
  obtain rfl:cv=nu n:=hc;simp [msgC,subC,repC,bloC,e0R,cc,pP,pN,Val.n]
 ·obtain ⟨n,rfl⟩:=b0q hs
  exact ⟨⟨⟨hw.sub.asked,hw.sub.data⟩,⟨hw.rep.commit,hw.rep.data,hw.rep.stag,hw.rep.pend⟩,hw.tag,hw.own,⟨hw.blob.tag⟩⟩,{ hr with st:=ho }⟩
theorem o0r:FOk g0a:=by
 refine ⟨fun m vP vN hw=>⟨[nu m.kind]++([nu m.client]++([nu m.sub.number]++([nu m.sub.kind]++([nu m.sub.target])))),dg m.sub.asked++(dg m.sub.data++([nu m.rep.number]++([nu m.rep.last]++([st m.rep.view]++(dg m.rep.commit++([vP]++([nu m.rep.vnum]++([st m.rep.value]++(dg m.rep.data++([st m.rep.seen]++(dg m.rep.stag++([st m.view]++([nu m.who]++(dg m.tag++(dg m.own++([nu m.blob.owner]++([nu m.blob.number]++([st m.blob.cipher]++(dg m.blob.tag++([vN])))))))))))))))))))),rfl,?_,fun v cv hs hc=>?_⟩,fun m=>rfl,fun m v hw hr hs ho=>?_,.inl ⟨(fun h=>by cases h),fun m v=>rfl⟩,.inl ⟨(fun h=>by cases h),fun m v=>rfl⟩,(fun m n hw h=>by cases h),(fun h=>by cases h),(fun h=>by cases h)⟩
 ·simp [msgC,subC,repC,bloC,g0a,cc,cvOf]
 ·obtain ⟨n,rfl⟩:=d0J hs
  obtain rfl:cv=st n:=hc;simp [msgC,subC,repC,bloC,g0a,cc,pP,pN,Val.s]
 ·obtain ⟨n,rfl⟩:=d0J hs
  exact ⟨⟨⟨hw.sub.asked,hw.sub.data⟩,⟨hw.rep.commit,hw.rep.data,hw.rep.stag,hw.rep.pend⟩,hw.tag,hw.own,⟨hw.blob.tag⟩⟩,{ hr with }⟩
theorem o0s:FOk g0b:=by
 refine ⟨fun m vP vN hw=>⟨[nu m.kind]++([nu m.client]++([nu m.sub.number]++([nu m.sub.kind]++([nu m.sub.target]++([st m.sub.value]))))),dg m.sub.data++([nu m.rep.number]++([nu m.rep.last]++([st m.rep.view]++(dg m.rep.commit++([vP]++([nu m.rep.vnum]++([st m.rep.value]++(dg m.rep.data++([st m.rep.seen]++(dg m.rep.stag++([st m.view]++([nu m.who]++(dg m.tag++(dg m.own++([nu m.blob.owner]++([nu m.blob.number]++([st m.blob.cipher]++(dg m.blob.tag++([vN]))))))))))))))))))),rfl,?_,fun v cv hs hc=>?_⟩,fun m=>rfl,fun m v hw hr hs ho=>?_,.inl ⟨(fun h=>by cases h),fun m v=>rfl⟩,.inl ⟨(fun h=>by cases h),fun m v=>rfl⟩,(fun m n hw h=>by cases h;exact hw.sub.asked),(fun h=>by cases h),(fun h=>by cases h)⟩
 ·simp [msgC,subC,repC,bloC,g0b,cc]
 ·obtain ⟨n,rfl⟩:=b0Q hs
  simp [msgC,subC,repC,bloC,g0b,cc,pP,pN,Val.d]
 ·obtain ⟨n,rfl⟩:=b0Q hs
  have hv:n.length=32:=ho;exact ⟨{ hw with sub:={ hw.sub with asked:=hv } },{ hr with }⟩
theorem p0S:FOk g0Y:=by
 refine ⟨fun m vP vN hw=>⟨[nu m.kind]++([nu m.client]++([nu m.sub.number]++([nu m.sub.kind]++([nu m.sub.target]++([st m.sub.value]++(dg m.sub.asked)))))),[nu m.rep.number]++([nu m.rep.last]++([st m.rep.view]++(dg m.rep.commit++([vP]++([nu m.rep.vnum]++([st m.rep.value]++(dg m.rep.data++([st m.rep.seen]++(dg m.rep.stag++([st m.view]++([nu m.who]++(dg m.tag++(dg m.own++([nu m.blob.owner]++([nu m.blob.number]++([st m.blob.cipher]++(dg m.blob.tag++([vN])))))))))))))))))),by simp [g0Y,a0e,hw.sub.asked],?_,fun v cv hs hc=>?_⟩,fun m=>rfl,fun m v hw hr hs ho=>?_,.inl ⟨(fun h=>by cases h),fun m v=>rfl⟩,.inl ⟨(fun h=>by cases h),fun m v=>rfl⟩,(fun m n hw h=>by cases h;exact hw.sub.data),(fun h=>by cases h),(fun h=>by cases h)⟩
 ·simp [msgC,subC,repC,bloC,g0Y,cc]
 ·obtain ⟨n,rfl⟩:=b0Q hs
  simp [msgC,subC,repC,bloC,g0Y,cc,pP,pN,Val.d]
 ·obtain ⟨n,rfl⟩:=b0Q hs
  have hv:n.length=32:=ho;exact ⟨{ hw with sub:={ hw.sub with data:=hv } },{ hr with }⟩
theorem m0v:FOk e0j:=by
 refine ⟨fun m vP vN hw=>⟨[nu m.kind]++([nu m.client]++([nu m.sub.number]++([nu m.sub.kind]++([nu m.sub.target]++([st m.sub.value]++(dg m.sub.asked++(dg m.sub.data))))))),[nu m.rep.last]++([st m.rep.view]++(dg m.rep.commit++([vP]++([nu m.rep.vnum]++([st m.rep.value]++(dg m.rep.data++([st m.rep.seen]++(dg m.rep.stag++([st m.view]++([nu m.who]++(dg m.tag++(dg m.own++([nu m.blob.owner]++([nu m.blob.number]++([st m.blob.cipher]++(dg m.blob.tag++([vN]))))))))))))))))),by simp [e0j,a0e,hw.sub.asked,hw.sub.data],?_,fun v cv hs hc=>?_⟩,fun m=>rfl,fun m v hw hr hs ho=>?_,.inl ⟨(fun h=>by cases h),fun m v=>rfl⟩,.inl ⟨(fun h=>by cases h),fun m v=>rfl⟩,(fun m n hw h=>by cases h),(fun h=>by cases h),(fun h=>by cases h)⟩
 ·simp [msgC,subC,repC,bloC,e0j,cc,cvOf]
 ·obtain ⟨n,rfl⟩:=b0q hs
  obtain rfl:cv=nu n:=hc;simp [msgC,subC,repC,bloC,e0j,cc,pP,pN,Val.n]
 ·obtain ⟨n,rfl⟩:=b0q hs
  exact ⟨⟨⟨hw.sub.asked,hw.sub.data⟩,⟨hw.rep.commit,hw.rep.data,hw.rep.stag,hw.rep.pend⟩,hw.tag,hw.own,⟨hw.blob.tag⟩⟩,{ hr with rn:=ho }⟩
theorem p0T:FOk g0Z:=by
 refine ⟨fun m vP vN hw=>⟨[nu m.kind]++([nu m.client]++([nu m.sub.number]++([nu m.sub.kind]++([nu m.sub.target]++([st m.sub.value]++(dg m.sub.asked++(dg m.sub.data++([nu m.rep.number])))))))),[st m.rep.view]++(dg m.rep.commit++([vP]++([nu m.rep.vnum]++([st m.rep.value]++(dg m.rep.data++([st m.rep.seen]++(dg m.rep.stag++([st m.view]++([nu m.who]++(dg m.tag++(dg m.own++([nu m.blob.owner]++([nu m.blob.number]++([st m.blob.cipher]++(dg m.blob.tag++([vN])))))))))))))))),by simp [g0Z,a0e,hw.sub.asked,hw.sub.data],?_,fun v cv hs hc=>?_⟩,fun m=>rfl,fun m v hw hr hs ho=>?_,.inl ⟨(fun h=>by cases h),fun m v=>rfl⟩,.inl ⟨(fun h=>by cases h),fun m v=>rfl⟩,(fun m n hw h=>by cases h),(fun h=>by cases h),(fun h=>by cases h)⟩
 ·simp [msgC,subC,repC,bloC,g0Z,cc,cvOf]
 ·obtain ⟨n,rfl⟩:=b0q hs
  obtain rfl:cv=nu n:=hc;simp [msgC,subC,repC,bloC,g0Z,cc,pP,pN,Val.n]
 ·obtain ⟨n,rfl⟩:=b0q hs
  exact ⟨⟨⟨hw.sub.asked,hw.sub.data⟩,⟨hw.rep.commit,hw.rep.data,hw.rep.stag,hw.rep.pend⟩,hw.tag,hw.own,⟨hw.blob.tag⟩⟩,{ hr with rl:=ho }⟩
theorem p0U:FOk h0a:=by
 refine ⟨fun m vP vN hw=>⟨[nu m.kind]++([nu m.client]++([nu m.sub.number]++([nu m.sub.kind]++([nu m.sub.target]++([st m.sub.value]++(dg m.sub.asked++(dg m.sub.data++([nu m.rep.number]++([nu m.rep.last]))))))))),dg m.rep.commit++([vP]++([nu m.rep.vnum]++([st m.rep.value]++(dg m.rep.data++([st m.rep.seen]++(dg m.rep.stag++([st m.view]++([nu m.who]++(dg m.tag++(dg m.own++([nu m.blob.owner]++([nu m.blob.number]++([st m.blob.cipher]++(dg m.blob.tag++([vN]))))))))))))))),by simp [h0a,a0e,hw.sub.asked,hw.sub.data],?_,fun v cv hs hc=>?_⟩,fun m=>rfl,fun m v hw hr hs ho=>?_,.inl ⟨(fun h=>by cases h),fun m v=>rfl⟩,.inl ⟨(fun h=>by cases h),fun m v=>rfl⟩,(fun m n hw h=>by cases h),(fun h=>by cases h),(fun h=>by cases h)⟩
 ·simp [msgC,subC,repC,bloC,h0a,cc,cvOf]
 ·obtain ⟨n,rfl⟩:=d0J hs
  obtain rfl:cv=st n:=hc;simp [msgC,subC,repC,bloC,h0a,cc,pP,pN,Val.s]
 ·obtain ⟨n,rfl⟩:=d0J hs
  exact ⟨⟨⟨hw.sub.asked,hw.sub.data⟩,⟨hw.rep.commit,hw.rep.data,hw.rep.stag,hw.rep.pend⟩,hw.tag,hw.own,⟨hw.blob.tag⟩⟩,{ hr with }⟩
theorem m0w:FOk e0k:=by
 refine ⟨fun m vP vN hw=>⟨[nu m.kind]++([nu m.client]++([nu m.sub.number]++([nu m.sub.kind]++([nu m.sub.target]++([st m.sub.value]++(dg m.sub.asked++(dg m.sub.data++([nu m.rep.number]++([nu m.rep.last]++([st m.rep.view])))))))))),[vP]++([nu m.rep.vnum]++([st m.rep.value]++(dg m.rep.data++([st m.rep.seen]++(dg m.rep.stag++([st m.view]++([nu m.who]++(dg m.tag++(dg m.own++([nu m.blob.owner]++([nu m.blob.number]++([st m.blob.cipher]++(dg m.blob.tag++([vN])))))))))))))),by simp [e0k,a0e,hw.sub.asked,hw.sub.data],?_,fun v cv hs hc=>?_⟩,fun m=>rfl,fun m v hw hr hs ho=>?_,.inl ⟨(fun h=>by cases h),fun m v=>rfl⟩,.inl ⟨(fun h=>by cases h),fun m v=>rfl⟩,(fun m n hw h=>by cases h;exact hw.rep.commit),(fun h=>by cases h),(fun h=>by cases h)⟩
 ·simp [msgC,subC,repC,bloC,e0k,cc]
 ·obtain ⟨n,rfl⟩:=b0Q hs
  simp [msgC,subC,repC,bloC,e0k,cc,pP,pN,Val.d]
 ·obtain ⟨n,rfl⟩:=b0Q hs
  have hv:n.length=32:=ho;exact ⟨{ hw with rep:={ hw.rep with commit:=hv } },{ hr with }⟩
theorem p0V:FOk h0b:=by
 refine ⟨fun m vP vN hw=>⟨[nu m.kind]++([nu m.client]++([nu m.sub.number]++([nu m.sub.kind]++([nu m.sub.target]++([st m.sub.value]++(dg m.sub.asked++(dg m.sub.data++([nu m.rep.number]++([nu m.rep.last]++([st m.rep.view]++(dg m.rep.commit))))))))))),[nu m.rep.vnum]++([st m.rep.value]++(dg m.rep.data++([st m.rep.seen]++(dg m.rep.stag++([st m.view]++([nu m.who]++(dg m.tag++(dg m.own++([nu m.blob.owner]++([nu m.blob.number]++([st m.blob.cipher]++(dg m.blob.tag++([vN]))))))))))))),by simp [h0b,a0e,hw.sub.asked,hw.sub.data,hw.rep.commit],?_,fun v cv hs hc=>?_⟩,fun m=>rfl,fun m v hw hr hs ho=>?_,.inr ⟨rfl,fun m v=>rfl⟩,.inl ⟨(fun h=>by cases h),fun m v=>rfl⟩,(fun m n hw h=>by cases h),fun _ m=>rfl,(fun h=>by cases h)⟩
 ·simp [msgC,subC,repC,bloC,h0b,cc,cvOf]
 ·obtain ⟨n,rfl⟩:=g0e hs
  simp [msgC,subC,repC,bloC,h0b,cc,pP,pN,Val.p]
 ·obtain ⟨n,rfl⟩:=g0e hs
  have hv:d0V (.pens n):=ho;exact ⟨{ hw with rep:={ hw.rep with pend:=fun p h=>n0g (hv.2 p h) } },{ hr with ps:=ho.2 }⟩
theorem p0W:FOk h0c:=by
 refine ⟨fun m vP vN hw=>⟨[nu m.kind]++([nu m.client]++([nu m.sub.number]++([nu m.sub.kind]++([nu m.sub.target]++([st m.sub.value]++(dg m.sub.asked++(dg m.sub.data++([nu m.rep.number]++([nu m.rep.last]++([st m.rep.view]++(dg m.rep.commit++([vP])))))))))))),[st m.rep.value]++(dg m.rep.data++([st m.rep.seen]++(dg m.rep.stag++([st m.view]++([nu m.who]++(dg m.tag++(dg m.own++([nu m.blob.owner]++([nu m.blob.number]++([st m.blob.cipher]++(dg m.blob.tag++([vN])))))))))))),by simp [h0c,a0e,hw.sub.asked,hw.sub.data,hw.rep.commit],?_,fun v cv hs hc=>?_⟩,fun m=>rfl,fun m v hw hr hs ho=>?_,.inl ⟨(fun h=>by cases h),fun m v=>rfl⟩,.inl ⟨(fun h=>by cases h),fun m v=>rfl⟩,(fun m n hw h=>by cases h),(fun h=>by cases h),(fun h=>by cases h)⟩
 ·simp [msgC,subC,repC,bloC,h0c,cc,cvOf]
 ·obtain ⟨n,rfl⟩:=b0q hs
  obtain rfl:cv=nu n:=hc;simp [msgC,subC,repC,bloC,h0c,cc,pP,pN,Val.n]
 ·obtain ⟨n,rfl⟩:=b0q hs
  exact ⟨⟨⟨hw.sub.asked,hw.sub.data⟩,⟨hw.rep.commit,hw.rep.data,hw.rep.stag,hw.rep.pend⟩,hw.tag,hw.own,⟨hw.blob.tag⟩⟩,{ hr with rv:=ho }⟩
theorem o0t:FOk f0t:=by
 refine ⟨fun m vP vN hw=>⟨[nu m.kind]++([nu m.client]++([nu m.sub.number]++([nu m.sub.kind]++([nu m.sub.target]++([st m.sub.value]++(dg m.sub.asked++(dg m.sub.data++([nu m.rep.number]++([nu m.rep.last]++([st m.rep.view]++(dg m.rep.commit++([vP]++([nu m.rep.vnum]))))))))))))),dg m.rep.data++([st m.rep.seen]++(dg m.rep.stag++([st m.view]++([nu m.who]++(dg m.tag++(dg m.own++([nu m.blob.owner]++([nu m.blob.number]++([st m.blob.cipher]++(dg m.blob.tag++([vN]))))))))))),by simp [f0t,a0e,hw.sub.asked,hw.sub.data,hw.rep.commit],?_,fun v cv hs hc=>?_⟩,fun m=>rfl,fun m v hw hr hs ho=>?_,.inl ⟨(fun h=>by cases h),fun m v=>rfl⟩,.inl ⟨(fun h=>by cases h),fun m v=>rfl⟩,(fun m n hw h=>by cases h),(fun h=>by cases h),(fun h=>by cases h)⟩
 ·simp [msgC,subC,repC,bloC,f0t,cc,cvOf]
 ·obtain ⟨n,rfl⟩:=d0J hs
  obtain rfl:cv=st n:=hc;simp [msgC,subC,repC,bloC,f0t,cc,pP,pN,Val.s]
 ·obtain ⟨n,rfl⟩:=d0J hs
  exact ⟨⟨⟨hw.sub.asked,hw.sub.data⟩,⟨hw.rep.commit,hw.rep.data,hw.rep.stag,hw.rep.pend⟩,hw.tag,hw.own,⟨hw.blob.tag⟩⟩,{ hr with }⟩
theorem p0X:FOk h0d:=by
 refine ⟨fun m vP vN hw=>⟨[nu m.kind]++([nu m.client]++([nu m.sub.number]++([nu m.sub.kind]++([nu m.sub.target]++([st m.sub.value]++(dg m.sub.asked++(dg m.sub.data++([nu m.rep.number]++([nu m.rep.last]++([st m.rep.view]++(dg m.rep.commit++([vP]++([nu m.rep.vnum]++([st m.rep.value])))))))))))))),[st m.rep.seen]++(dg m.rep.stag++([st m.view]++([nu m.who]++(dg m.tag++(dg m.own++([nu m.blob.owner]++([nu m.blob.number]++([st m.blob.cipher]++(dg m.blob.tag++([vN])))))))))),by simp [h0d,a0e,hw.sub.asked,hw.sub.data,hw.rep.commit],?_,fun v cv hs hc=>?_⟩,fun m=>rfl,fun m v hw hr hs ho=>?_,.inl ⟨(fun h=>by cases h),fun m v=>rfl⟩,.inl ⟨(fun h=>by cases h),fun m v=>rfl⟩,(fun m n hw h=>by cases h;exact hw.rep.data),(fun h=>by cases h),(fun h=>by cases h)⟩
 ·simp [msgC,subC,repC,bloC,h0d,cc]
 ·obtain ⟨n,rfl⟩:=b0Q hs
  simp [msgC,subC,repC,bloC,h0d,cc,pP,pN,Val.d]
 ·obtain ⟨n,rfl⟩:=b0Q hs
  have hv:n.length=32:=ho;exact ⟨{ hw with rep:={ hw.rep with data:=hv } },{ hr with }⟩
theorem p0Y:FOk h0e:=by
 refine ⟨fun m vP vN hw=>⟨[nu m.kind]++([nu m.client]++([nu m.sub.number]++([nu m.sub.kind]++([nu m.sub.target]++([st m.sub.value]++(dg m.sub.asked++(dg m.sub.data++([nu m.rep.number]++([nu m.rep.last]++([st m.rep.view]++(dg m.rep.commit++([vP]++([nu m.rep.vnum]++([st m.rep.value]++(dg m.rep.data))))))))))))))),dg m.rep.stag++([st m.view]++([nu m.who]++(dg m.tag++(dg m.own++([nu m.blob.owner]++([nu m.blob.number]++([st m.blob.cipher]++(dg m.blob.tag++([vN]))))))))),by simp [h0e,a0e,hw.sub.asked,hw.sub.data,hw.rep.commit,hw.rep.data],?_,fun v cv hs hc=>?_⟩,fun m=>rfl,fun m v hw hr hs ho=>?_,.inl ⟨(fun h=>by cases h),fun m v=>rfl⟩,.inl ⟨(fun h=>by cases h),fun m v=>rfl⟩,(fun m n hw h=>by cases h),(fun h=>by cases h),(fun h=>by cases h)⟩
 ·simp [msgC,subC,repC,bloC,h0e,cc,cvOf]
 ·obtain ⟨n,rfl⟩:=d0J hs
  obtain rfl:cv=st n:=hc;simp [msgC,subC,repC,bloC,h0e,cc,pP,pN,Val.s]
 ·obtain ⟨n,rfl⟩:=d0J hs
  exact ⟨⟨⟨hw.sub.asked,hw.sub.data⟩,⟨hw.rep.commit,hw.rep.data,hw.rep.stag,hw.rep.pend⟩,hw.tag,hw.own,⟨hw.blob.tag⟩⟩,{ hr with }⟩
theorem s0i:FOk l0S:=by
 refine ⟨fun m vP vN hw=>⟨[nu m.kind]++([nu m.client]++([nu m.sub.number]++([nu m.sub.kind]++([nu m.sub.target]++([st m.sub.value]++(dg m.sub.asked++(dg m.sub.data++([nu m.rep.number]++([nu m.rep.last]++([st m.rep.view]++(dg m.rep.commit++([vP]++([nu m.rep.vnum]++([st m.rep.value]++(dg m.rep.data++([st m.rep.seen])))))))))))))))),[st m.view]++([nu m.who]++(dg m.tag++(dg m.own++([nu m.blob.owner]++([nu m.blob.number]++([st m.blob.cipher]++(dg m.blob.tag++([vN])))))))),by simp [l0S,a0e,hw.sub.asked,hw.sub.data,hw.rep.commit,hw.rep.data],?_,fun v cv hs hc=>?_⟩,fun m=>rfl,fun m v hw hr hs ho=>?_,.inl ⟨(fun h=>by cases h),fun m v=>rfl⟩,.inl ⟨(fun h=>by cases h),fun m v=>rfl⟩,(fun m n hw h=>by cases h;exact hw.rep.stag),(fun h=>by cases h),(fun h=>by cases h)⟩
 ·simp [msgC,subC,repC,bloC,l0S,cc]
 ·obtain ⟨n,rfl⟩:=b0Q hs
  simp [msgC,subC,repC,bloC,l0S,cc,pP,pN,Val.d]
 ·obtain ⟨n,rfl⟩:=b0Q hs
  have hv:n.length=32:=ho;exact ⟨{ hw with rep:={ hw.rep with stag:=hv } },{ hr with }⟩
theorem n0y:FOk j0s:=by
 refine ⟨fun m vP vN hw=>⟨[nu m.kind]++([nu m.client]++([nu m.sub.number]++([nu m.sub.kind]++([nu m.sub.target]++([st m.sub.value]++(dg m.sub.asked++(dg m.sub.data++([nu m.rep.number]++([nu m.rep.last]++([st m.rep.view]++(dg m.rep.commit++([vP]++([nu m.rep.vnum]++([st m.rep.value]++(dg m.rep.data++([st m.rep.seen]++(dg m.rep.stag))))))))))))))))),[nu m.who]++(dg m.tag++(dg m.own++([nu m.blob.owner]++([nu m.blob.number]++([st m.blob.cipher]++(dg m.blob.tag++([vN]))))))),by simp [j0s,a0e,hw.sub.asked,hw.sub.data,hw.rep.commit,hw.rep.data,hw.rep.stag],?_,fun v cv hs hc=>?_⟩,fun m=>rfl,fun m v hw hr hs ho=>?_,.inl ⟨(fun h=>by cases h),fun m v=>rfl⟩,.inl ⟨(fun h=>by cases h),fun m v=>rfl⟩,(fun m n hw h=>by cases h),(fun h=>by cases h),(fun h=>by cases h)⟩
 ·simp [msgC,subC,repC,bloC,j0s,cc,cvOf]
 ·obtain ⟨n,rfl⟩:=d0J hs
  obtain rfl:cv=st n:=hc;simp [msgC,subC,repC,bloC,j0s,cc,pP,pN,Val.s]
 ·obtain ⟨n,rfl⟩:=d0J hs
  exact ⟨⟨⟨hw.sub.asked,hw.sub.data⟩,⟨hw.rep.commit,hw.rep.data,hw.rep.stag,hw.rep.pend⟩,hw.tag,hw.own,⟨hw.blob.tag⟩⟩,{ hr with }⟩
theorem v0P:FOk fBy:=by
 refine ⟨fun m vP vN hw=>⟨[nu m.kind]++([nu m.client]++([nu m.sub.number]++([nu m.sub.kind]++([nu m.sub.target]++([st m.sub.value]++(dg m.sub.asked++(dg m.sub.data++([nu m.rep.number]++([nu m.rep.last]++([st m.rep.view]++(dg m.rep.commit++([vP]++([nu m.rep.vnum]++([st m.rep.value]++(dg m.rep.data++([st m.rep.seen]++(dg m.rep.stag++([st m.view])))))))))))))))))),dg m.tag++(dg m.own++([nu m.blob.owner]++([nu m.blob.number]++([st m.blob.cipher]++(dg m.blob.tag++([vN])))))),by simp [fBy,a0e,hw.sub.asked,hw.sub.data,hw.rep.commit,hw.rep.data,hw.rep.stag],?_,fun v cv hs hc=>?_⟩,fun m=>rfl,fun m v hw hr hs ho=>?_,.inl ⟨(fun h=>by cases h),fun m v=>rfl⟩,.inl ⟨(fun h=>by cases h),fun m v=>rfl⟩,(fun m n hw h=>by cases h),(fun h=>by cases h),(fun h=>by cases h)⟩
 ·simp [msgC,subC,repC,bloC,fBy,cc,cvOf]
 ·obtain ⟨n,rfl⟩:=b0q hs
  obtain rfl:cv=nu n:=hc;simp [msgC,subC,repC,bloC,fBy,cc,pP,pN,Val.n]
 ·obtain ⟨n,rfl⟩:=b0q hs
  exact ⟨⟨hw.sub,hw.rep,hw.tag,hw.own,hw.blob⟩,{ hr with who:=ho }⟩
theorem p0Z:FOk fTag:=by
 refine ⟨fun m vP vN hw=>⟨[nu m.kind]++([nu m.client]++([nu m.sub.number]++([nu m.sub.kind]++([nu m.sub.target]++([st m.sub.value]++(dg m.sub.asked++(dg m.sub.data++([nu m.rep.number]++([nu m.rep.last]++([st m.rep.view]++(dg m.rep.commit++([vP]++([nu m.rep.vnum]++([st m.rep.value]++(dg m.rep.data++([st m.rep.seen]++(dg m.rep.stag++([st m.view]++([nu m.who]))))))))))))))))))),dg m.own++([nu m.blob.owner]++([nu m.blob.number]++([st m.blob.cipher]++(dg m.blob.tag++([vN]))))),by simp [fTag,a0e,hw.sub.asked,hw.sub.data,hw.rep.commit,hw.rep.data,hw.rep.stag],?_,fun v cv hs hc=>?_⟩,fun m=>rfl,fun m v hw hr hs ho=>?_,.inl ⟨(fun h=>by cases h),fun m v=>rfl⟩,.inl ⟨(fun h=>by cases h),fun m v=>rfl⟩,(fun m n hw h=>by cases h;exact hw.tag),(fun h=>by cases h),(fun h=>by cases h)⟩
 ·simp [msgC,subC,repC,bloC,fTag,cc]
 ·obtain ⟨n,rfl⟩:=b0Q hs
  simp [msgC,subC,repC,bloC,fTag,cc,pP,pN,Val.d]
 ·obtain ⟨n,rfl⟩:=b0Q hs
  have hv:n.length=32:=ho;exact ⟨{ hw with tag:=hv },{ hr with }⟩
theorem q0a:FOk fOwn:=by
 refine ⟨fun m vP vN hw=>⟨[nu m.kind]++([nu m.client]++([nu m.sub.number]++([nu m.sub.kind]++([nu m.sub.target]++([st m.sub.value]++(dg m.sub.asked++(dg m.sub.data++([nu m.rep.number]++([nu m.rep.last]++([st m.rep.view]++(dg m.rep.commit++([vP]++([nu m.rep.vnum]++([st m.rep.value]++(dg m.rep.data++([st m.rep.seen]++(dg m.rep.stag++([st m.view]++([nu m.who]++(dg m.tag)))))))))))))))))))),[nu m.blob.owner]++([nu m.blob.number]++([st m.blob.cipher]++(dg m.blob.tag++([vN])))),by simp [fOwn,a0e,hw.sub.asked,hw.sub.data,hw.rep.commit,hw.rep.data,hw.rep.stag,hw.tag],?_,fun v cv hs hc=>?_⟩,fun m=>rfl,fun m v hw hr hs ho=>?_,.inl ⟨(fun h=>by cases h),fun m v=>rfl⟩,.inl ⟨(fun h=>by cases h),fun m v=>rfl⟩,(fun m n hw h=>by cases h;exact hw.own),(fun h=>by cases h),(fun h=>by cases h)⟩
 ·simp [msgC,subC,repC,bloC,fOwn,cc]
 ·obtain ⟨n,rfl⟩:=b0Q hs
  simp [msgC,subC,repC,bloC,fOwn,cc,pP,pN,Val.d]
 ·obtain ⟨n,rfl⟩:=b0Q hs
  have hv:n.length=32:=ho;exact ⟨{ hw with own:=hv },{ hr with }⟩
theorem o0u:FOk g0c:=by
 refine ⟨fun m vP vN hw=>⟨[nu m.kind]++([nu m.client]++([nu m.sub.number]++([nu m.sub.kind]++([nu m.sub.target]++([st m.sub.value]++(dg m.sub.asked++(dg m.sub.data++([nu m.rep.number]++([nu m.rep.last]++([st m.rep.view]++(dg m.rep.commit++([vP]++([nu m.rep.vnum]++([st m.rep.value]++(dg m.rep.data++([st m.rep.seen]++(dg m.rep.stag++([st m.view]++([nu m.who]++(dg m.tag++(dg m.own))))))))))))))))))))),[nu m.blob.number]++([st m.blob.cipher]++(dg m.blob.tag++([vN]))),by simp [g0c,a0e,hw.sub.asked,hw.sub.data,hw.rep.commit,hw.rep.data,hw.rep.stag,hw.tag,hw.own],?_,fun v cv hs hc=>?_⟩,fun m=>rfl,fun m v hw hr hs ho=>?_,.inl ⟨(fun h=>by cases h),fun m v=>rfl⟩,.inl ⟨(fun h=>by cases h),fun m v=>rfl⟩,(fun m n hw h=>by cases h),(fun h=>by cases h),(fun h=>by cases h)⟩
 ·simp [msgC,subC,repC,bloC,g0c,cc,cvOf]
 ·obtain ⟨n,rfl⟩:=b0q hs
  obtain rfl:cv=nu n:=hc;simp [msgC,subC,repC,bloC,g0c,cc,pP,pN,Val.n]
 ·obtain ⟨n,rfl⟩:=b0q hs
  exact ⟨⟨⟨hw.sub.asked,hw.sub.data⟩,⟨hw.rep.commit,hw.rep.data,hw.rep.stag,hw.rep.pend⟩,hw.tag,hw.own,⟨hw.blob.tag⟩⟩,{ hr with bo:=ho }⟩
theorem m0x:FOk e0S:=by
 refine ⟨fun m vP vN hw=>⟨[nu m.kind]++([nu m.client]++([nu m.sub.number]++([nu m.sub.kind]++([nu m.sub.target]++([st m.sub.value]++(dg m.sub.asked++(dg m.sub.data++([nu m.rep.number]++([nu m.rep.last]++([st m.rep.view]++(dg m.rep.commit++([vP]++([nu m.rep.vnum]++([st m.rep.value]++(dg m.rep.data++([st m.rep.seen]++(dg m.rep.stag++([st m.view]++([nu m.who]++(dg m.tag++(dg m.own++([nu m.blob.owner])))))))))))))))))))))),[st m.blob.cipher]++(dg m.blob.tag++([vN])),by simp [e0S,a0e,hw.sub.asked,hw.sub.data,hw.rep.commit,hw.rep.data,hw.rep.stag,hw.tag,hw.own],?_,fun v cv hs hc=>?_⟩,fun m=>rfl,fun m v hw hr hs ho=>?_,.inl ⟨(fun h=>by cases h),fun m v=>rfl⟩,.inl ⟨(fun h=>by cases h),fun m v=>rfl⟩,(fun m n hw h=>by cases h),(fun h=>by cases h),(fun h=>by cases h)⟩
 ·simp [msgC,subC,repC,bloC,e0S,cc,cvOf]
 ·obtain ⟨n,rfl⟩:=b0q hs
  obtain rfl:cv=nu n:=hc;simp [msgC,subC,repC,bloC,e0S,cc,pP,pN,Val.n]
 ·obtain ⟨n,rfl⟩:=b0q hs
  exact ⟨⟨⟨hw.sub.asked,hw.sub.data⟩,⟨hw.rep.commit,hw.rep.data,hw.rep.stag,hw.rep.pend⟩,hw.tag,hw.own,⟨hw.blob.tag⟩⟩,{ hr with bn:=ho }⟩
theorem m0y:FOk e0T:=by
 refine ⟨fun m vP vN hw=>⟨[nu m.kind]++([nu m.client]++([nu m.sub.number]++([nu m.sub.kind]++([nu m.sub.target]++([st m.sub.value]++(dg m.sub.asked++(dg m.sub.data++([nu m.rep.number]++([nu m.rep.last]++([st m.rep.view]++(dg m.rep.commit++([vP]++([nu m.rep.vnum]++([st m.rep.value]++(dg m.rep.data++([st m.rep.seen]++(dg m.rep.stag++([st m.view]++([nu m.who]++(dg m.tag++(dg m.own++([nu m.blob.owner]++([nu m.blob.number]))))))))))))))))))))))),dg m.blob.tag++([vN]),by simp [e0T,a0e,hw.sub.asked,hw.sub.data,hw.rep.commit,hw.rep.data,hw.rep.stag,hw.tag,hw.own],?_,fun v cv hs hc=>?_⟩,fun m=>rfl,fun m v hw hr hs ho=>?_,.inl ⟨(fun h=>by cases h),fun m v=>rfl⟩,.inl ⟨(fun h=>by cases h),fun m v=>rfl⟩,(fun m n hw h=>by cases h),(fun h=>by cases h),(fun h=>by cases h)⟩
 ·simp [msgC,subC,repC,bloC,e0T,cc,cvOf]
 ·obtain ⟨n,rfl⟩:=d0J hs
  obtain rfl:cv=st n:=hc;simp [msgC,subC,repC,bloC,e0T,cc,pP,pN,Val.s]
 ·obtain ⟨n,rfl⟩:=d0J hs
  exact ⟨⟨⟨hw.sub.asked,hw.sub.data⟩,⟨hw.rep.commit,hw.rep.data,hw.rep.stag,hw.rep.pend⟩,hw.tag,hw.own,⟨hw.blob.tag⟩⟩,{ hr with }⟩
theorem s0j:FOk o0e:=by
 refine ⟨fun m vP vN hw=>⟨[nu m.kind]++([nu m.client]++([nu m.sub.number]++([nu m.sub.kind]++([nu m.sub.target]++([st m.sub.value]++(dg m.sub.asked++(dg m.sub.data++([nu m.rep.number]++([nu m.rep.last]++([st m.rep.view]++(dg m.rep.commit++([vP]++([nu m.rep.vnum]++([st m.rep.value]++(dg m.rep.data++([st m.rep.seen]++(dg m.rep.stag++([st m.view]++([nu m.who]++(dg m.tag++(dg m.own++([nu m.blob.owner]++([nu m.blob.number]++([st m.blob.cipher])))))))))))))))))))))))),[vN],by simp [o0e,a0e,hw.sub.asked,hw.sub.data,hw.rep.commit,hw.rep.data,hw.rep.stag,hw.tag,hw.own],?_,fun v cv hs hc=>?_⟩,fun m=>rfl,fun m v hw hr hs ho=>?_,.inl ⟨(fun h=>by cases h),fun m v=>rfl⟩,.inl ⟨(fun h=>by cases h),fun m v=>rfl⟩,(fun m n hw h=>by cases h;exact hw.blob.tag),(fun h=>by cases h),(fun h=>by cases h)⟩
 ·simp [msgC,subC,repC,bloC,o0e,cc]
 ·obtain ⟨n,rfl⟩:=b0Q hs
  simp [msgC,subC,repC,bloC,o0e,cc,pP,pN,Val.d]
 ·obtain ⟨n,rfl⟩:=b0Q hs
  have hv:n.length=32:=ho;exact ⟨{ hw with blob:=⟨hv⟩ },{ hr with }⟩
theorem s0k:FOk o0f:=by
 refine ⟨fun m vP vN hw=>⟨[nu m.kind]++([nu m.client]++([nu m.sub.number]++([nu m.sub.kind]++([nu m.sub.target]++([st m.sub.value]++(dg m.sub.asked++(dg m.sub.data++([nu m.rep.number]++([nu m.rep.last]++([st m.rep.view]++(dg m.rep.commit++([vP]++([nu m.rep.vnum]++([st m.rep.value]++(dg m.rep.data++([st m.rep.seen]++(dg m.rep.stag++([st m.view]++([nu m.who]++(dg m.tag++(dg m.own++([nu m.blob.owner]++([nu m.blob.number]++([st m.blob.cipher]++(dg m.blob.tag))))))))))))))))))))))))),[],by simp [o0f,a0e,hw.sub.asked,hw.sub.data,hw.rep.commit,hw.rep.data,hw.rep.stag,hw.tag,hw.own,hw.blob.tag],?_,fun v cv hs hc=>?_⟩,fun m=>rfl,fun m v hw hr hs ho=>?_,.inl ⟨(fun h=>by cases h),fun m v=>rfl⟩,.inr ⟨rfl,fun m v=>rfl⟩,(fun m n hw h=>by cases h),(fun h=>by cases h),fun _ m=>rfl⟩
 ·simp [msgC,subC,repC,bloC,o0f,cc,cvOf]
 ·obtain ⟨n,rfl⟩:=g0d hs
  simp [msgC,subC,repC,bloC,o0f,cc,pP,pN,Val.l]
 ·obtain ⟨n,rfl⟩:=g0d hs
  exact ⟨⟨hw.sub,hw.rep,hw.tag,hw.own,hw.blob⟩,{ hr with ns:=ho.2 }⟩
theorem k0V (k:Int):∀ f ∈ a0T k,FOk f:=by
 intro f hf;rcases b0g k with ⟨_,e⟩ | ⟨_,e⟩ | ⟨_,e⟩ | ⟨_,e⟩ | ⟨_,e⟩ | ⟨_,e⟩ | ⟨_,e⟩ | ⟨_,e⟩ | ⟨_,e⟩ <;> rw [e] at hf
 ·simp only [k0w,List.mem_cons,List.not_mem_nil,or_false] at hf
  rcases hf with rfl | rfl | rfl | rfl | rfl | rfl | rfl
  ·exact d0v
  ·exact m0t
  ·exact p0R
  ·exact m0u
  ·exact o0r
  ·exact o0s
  ·exact p0S
 ·simp only [l0T,List.mem_cons,List.not_mem_nil,or_false] at hf
  rcases hf with rfl | rfl | rfl | rfl | rfl | rfl | rfl | rfl | rfl | rfl
  ·exact m0v
  ·exact p0T
  ·exact p0U
  ·exact m0w
  ·exact p0V
  ·exact p0W
  ·exact o0t
  ·exact p0X
  ·exact p0Y
  ·exact s0i
 ·simp only [k0x,List.mem_cons,List.not_mem_nil,or_false] at hf
  rcases hf with rfl | rfl | rfl
  ·exact d0v
  ·exact n0y
  ·exact p0Z
 ·simp only [l0U,List.mem_cons,List.not_mem_nil,or_false] at hf
  rcases hf with rfl | rfl | rfl | rfl
  ·exact o0u
  ·exact m0x
  ·exact m0y
  ·exact s0j
 ·simp only [l0V,List.mem_cons,List.not_mem_nil,or_false] at hf
  rcases hf with rfl | rfl
  ·exact d0v
  ·exact s0k
 ·simp only [k0y,List.mem_cons,List.not_mem_nil,or_false] at hf
  subst hf;exact d0v
 ·simp only [l0W,List.mem_cons,List.not_mem_nil,or_false] at hf
  rcases hf with rfl | rfl | rfl | rfl | rfl
  ·exact d0v
  ·exact v0P
  ·exact n0y
  ·exact p0Z
  ·exact q0a
 ·simp only [l0X,List.mem_cons,List.not_mem_nil,or_false] at hf
  rcases hf with rfl | rfl
  ·exact d0v
  ·exact q0a
 ·cases hf
def Away (g:Nat) (v:Value) (n:Nat):Prop:=n ≠ 0->∀ a l c,v = .slice (some a) l c->a.block ≠ g
theorem k0W {w w':World} {b o:Nat} (h:w'.heap[b]? = w.heap[b]?):w'.cell? ⟨b,o,none⟩=w.cell? ⟨b,o,none⟩:=by unfold World.cell?;rw [h]
theorem a0w.but {w w':World} {g:Nat} {v:Value} {l:List Int} (h:a0w w v l) (ha:Away g v l.length) (hb:But g w w'):a0w w' v l:=by
 obtain ⟨a,cap,rfl,hc⟩:=h;refine ⟨a,cap,rfl,fun hne=>?_⟩;obtain ⟨b,off,rfl,hj⟩:=hc hne;have hn:b ≠ g:=ha (fun e=>hne (List.length_eq_zero_iff.1 e)) _ _ _ rfl;exact ⟨b,off,rfl,fun j h=>(k0W (hb.block b hn)).trans (hj j h)⟩
theorem a0g.but {w w':World} {g:Nat} {v:Value} {l:List Pen} (h:a0g w v l) (ha:Away g v l.length) (hb:But g w w'):a0g w' v l:=by
 obtain ⟨a,cap,rfl,hc⟩:=h;refine ⟨a,cap,rfl,fun hne=>?_⟩;obtain ⟨b,off,rfl,hj⟩:=hc hne;have hn:b ≠ g:=ha (fun e=>hne (List.length_eq_zero_iff.1 e)) _ _ _ rfl;exact ⟨b,off,rfl,fun j h i c hi=>(k0W (hb.block b hn)).trans (hj j h i c hi)⟩
structure MsgAt (X:List Nat) (g:Nat) (m:Msg) (w:World):Prop where
 row:∃ vP vN,w.heap[g]? = some (.cells (msgC m vP vN).toArray 80)/\a0g w vP m.rep.pend/\a0w w vN m.nums/\(∀ x ∈ g :: X,Away x vP m.rep.pend.length)/\(∀ x ∈ g :: X,Away x vN m.nums.length)
 low:∀ x ∈ X,x < w.heap.size
 wf:m.Wf
 rng:m.Rng
 len:m.rep.pend.length <= 9223372036854775807/\m.nums.length <= 9223372036854775807
theorem j0O {g B:Nat} {cv:Value} {n:Nat} (h:Fr B cv) (hg:g < B):Away g cv n:=fun _ a l c e=>by have:=h a l c e;omega
theorem q0b {w:World} {cv:Value} {v:Val} (h:CvAt w cv v):p0Q cv v:=by cases v using Val.cut with | num _=>exact h | txt _=>exact h | dig _=>trivial | nums _=>trivial | pens _=>trivial
theorem v0Q {k:Slot} {cv vP:Value} (h:k ≠ .pens):pP k cv vP=vP:=by cases k using Slot.cut <;> first | rfl | exact absurd rfl h
theorem v0R {k:Slot} {cv vN:Value} (h:k ≠ .nums):pN k cv vN=vN:=by cases k using Slot.cut <;> first | rfl | exact absurd rfl h
theorem j0P (X:List Nat) (g:Nat) (k:Int):Hold (a0T k) g 0 (MsgAt X g) where
 own:=fun m w h=>by
  obtain ⟨vP,vN,hr,-⟩:=h.row;exact ⟨_,_,hr,.inl rfl⟩
 stay:=fun m w w' h hb=>by
  obtain ⟨vP,vN,hr,h1,h2,h3,h4⟩:=h.row;exact ⟨⟨vP,vN,a0a hr hb,h1.kept hb,h2.kept hb,h3,h4⟩,(fun x hx=>Nat.lt_of_lt_of_le (h.low x hx) hb.size),h.wf,h.rng,h.len⟩
 load:=fun m w h f hf=>by
  have hok:=k0V k f hf;refine ⟨?_,hok.sl m⟩;obtain ⟨vP,vN,hr,h1,h2,h3,h4⟩:=h.row;obtain ⟨A,C,hA,he,-⟩:=hok.sp m vP vN h.wf;have hA':A.length=0 + f.off:=by omega
  have hsl:=hok.sl m;have hgp:=hok.gp;have hgn:=hok.gn
  cases hv:f.get m using Val.cut with
  | num n=>rw [hv] at he;exact a0l hr he hA'
  | txt n=>rw [hv] at he;exact a0l hr he hA'
  | dig n=>rw [hv] at he;exact a0s hr he hA'
  | nums n =>
   rw [hv] at he hsl;have e:=hgn hsl.symm m;rw [hv] at e
   cases e
   exact ⟨vN,a0l hr he hA',h2⟩
  | pens n =>
   rw [hv] at he hsl;have e:=hgp hsl.symm m;rw [hv] at e
   cases e
   exact ⟨vP,a0l hr he hA',h1⟩
 store:=fun m w h f hf=>by
  have hok:=k0V k f hf;obtain ⟨vP,vN,hr,h1,h2,h3,h4⟩:=h.row;obtain ⟨A,C,hA,he,hset⟩:=hok.sp m vP vN h.wf;refine ⟨A,cc (cvOf vP vN (f.get m)) (f.get m),C,80,by rw [← he];exact hr,by omega,?_,?_⟩
  ·have hsl:=hok.sl m
   cases hv:f.get m using Val.cut with
   | num n=>rw [hv] at hsl;rw [← hsl];rfl
   | txt n=>rw [hv] at hsl;rw [← hsl];rfl
   | dig n =>
    rw [hv] at hsl;rw [← hsl];exact (a0e n).trans (hok.dl m n h.wf hv)
   | nums n=>rw [hv] at hsl;rw [← hsl];rfl
   | pens n=>rw [hv] at hsl;rw [← hsl];rfl
  ·intro v w' hs ho hst
   obtain ⟨cv,w1,hb,hcv,hfr,hrow,hbut⟩:=hst;have hg:g < w.heap.size:=(Array.getElem?_eq_some_iff.1 hr).1;obtain ⟨hw',hr'⟩:=hok.wf m v h.wf h.rng hs ho;refine ⟨⟨pP f.slot cv vP,pN f.slot cv vN,by rw [hset v cv hs (q0b hcv)];exact hrow,?_,?_,?_,?_⟩,(fun x hx=>by rw [hbut.size];exact Nat.lt_of_lt_of_le (h.low x hx) hb.size),hw',hr',?_,?_⟩
   ·rcases hok.pend with ⟨hne,e⟩ | ⟨hsl,e⟩
    ·rw [v0Q hne,e]
     exact (h1.kept hb).but (h3 g (by simp)) hbut
    ·rw [hsl] at hs ⊢
     obtain ⟨l,rfl⟩:=g0e hs;rw [e];exact a0g.but hcv (j0O hfr hg) hbut
   ·rcases hok.nums with ⟨hne,e⟩ | ⟨hsl,e⟩
    ·rw [v0R hne,e]
     exact (h2.kept hb).but (h4 g (by simp)) hbut
    ·rw [hsl] at hs ⊢
     obtain ⟨l,rfl⟩:=g0d hs;rw [e];exact a0w.but hcv (j0O hfr hg) hbut
   ·intro x hx
    have hxl:x < w.heap.size:=by
     rcases List.mem_cons.1 hx with rfl | hx
     ·exact hg
     ·exact h.low x hx
    rcases hok.pend with ⟨hne,e⟩ | ⟨hsl,e⟩
    ·rw [v0Q hne,e]
     exact h3 x hx
    ·rw [hsl]
     exact j0O hfr hxl
   ·intro x hx
    have hxl:x < w.heap.size:=by
     rcases List.mem_cons.1 hx with rfl | hx
     ·exact hg
     ·exact h.low x hx
    rcases hok.nums with ⟨hne,e⟩ | ⟨hsl,e⟩
    ·rw [v0R hne,e]
     exact h4 x hx
    ·rw [hsl]
     exact j0O hfr hxl
   ·rcases hok.pend with ⟨hne,e⟩ | ⟨hsl,e⟩
    ·rw [e];exact h.len.1
    ·rw [hsl] at hs
     obtain ⟨l,rfl⟩:=g0e hs;rw [e];have:l.length <= 8:=ho.1;show l.length <= _;omega
   ·rcases hok.nums with ⟨hne,e⟩ | ⟨hsl,e⟩
    ·rw [e];exact h.len.2
    ·rw [hsl] at hs
     obtain ⟨l,rfl⟩:=g0d hs;rw [e];have:l.length <= 512:=ho.1;show l.length <= _;omega
end Go.Proofs.YtagmnmoaekbffaaGreatDoor.Ms
