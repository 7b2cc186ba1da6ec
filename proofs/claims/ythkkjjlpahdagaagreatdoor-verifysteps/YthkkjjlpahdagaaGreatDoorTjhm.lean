/-
  A message in memory, as a thing that has fields: what they hold, and what it is when another value comes to lie at one's place.
-/
import Derived.Test.YthkkjjlpahdagaaGreatDoorS09
import Derived.Test.YthkkjjlpahdagaaGreatDoorS02
namespace Go.Proofs.YthkkjjlpahdagaaGreatDoor.Ms
open Go Go.RowKit
set_option maxRecDepth 100000
def pP:Slot→Value→Value→Value
 | .inr (.inr (.inr (.inr _))),cv,_=>cv
 | _,_,vP=>vP
def pN:Slot→Value→Value→Value
 | .inr (.inr (.inr (.inl _))),cv,_=>cv
 | _,_,vN=>vN
def cvOf (vP vN:Value):Val→Value
 | .inl n=>nu n
 | .inr (.inl s)=>st s
 | .inr (.inr (.inl _))=>undef
 | .inr (.inr (.inr (.inl _)))=>vN
 | .inr (.inr (.inr (.inr _)))=>vP
def cvForm (cv:Value):Val→Prop
 | .inl n=>cv=nu n
 | .inr (.inl s)=>cv=st s
 | _=>True
def Sp (f:Fl Msg) (m:Msg) (vP vN:Value):Prop:=∃ A C,A.length=f.off∧msgC m vP vN=A++(cc (cvOf vP vN (f.get m)) (f.get m)++C) ∧
 ∀ v cv,v.slot=f.slot→cvForm cv v→msgC (f.set m v) (pP f.slot cv vP) (pN f.slot cv vN)=A++(cc cv v++C)
structure FOk (f:Fl Msg):Prop where
 sp:∀ m vP vN,m.Wf→Sp f m vP vN
 sl:∀ m,(f.get m).slot=f.slot
 wf:∀ m v,m.Wf→m.Rng→v.slot=f.slot→okVal v→(f.set m v).Wf∧(f.set m v).Rng
 pend:(f.slot ≠ .pens∧∀ m v,(f.set m v).rep.pend=m.rep.pend) ∨ (f.slot = .pens∧∀ m v,(f.set m v).rep.pend=v.p)
 nums:(f.slot ≠ .nums∧∀ m v,(f.set m v).nums=m.nums) ∨ (f.slot = .nums∧∀ m v,(f.set m v).nums=v.l)
 dl:∀ m n,m.Wf→f.get m = .dig n→n.length=32
 gp:f.slot = .pens→∀ m,f.get m = .pens m.rep.pend
 gn:f.slot = .nums→∀ m,f.get m = .nums m.nums
theorem ok_fClient:FOk fClient:=by
 refine ⟨fun m vP vN hw=>⟨[nu m.kind],[nu m.sub.number]++([nu m.sub.kind]++([nu m.sub.target]++([st m.sub.value]++(dg m.sub.asked++(dg m.sub.data++([nu m.rep.number]++([nu m.rep.last]++([st m.rep.view]++(dg m.rep.commit++([vP]++([nu m.rep.vnum]++([st m.rep.value]++(dg m.rep.data++([st m.rep.seen]++(dg m.rep.stag++([st m.view]++([nu m.who]++(dg m.tag++(dg m.own++([nu m.blob.owner]++([nu m.blob.number]++([st m.blob.cipher]++(dg m.blob.tag++([vN])))))))))))))))))))))))),rfl,?_,fun v cv hs hc=>?_⟩,fun m=>rfl,fun m v hw hr hs ho=>?_,.inl ⟨(fun h=>by cases h),fun m v=>rfl⟩,.inl ⟨(fun h=>by cases h),fun m v=>rfl⟩,(fun m n hw h=>by cases h),(fun h=>by cases h),(fun h=>by cases h)⟩
 ·simp [msgC,subC,repC,bloC,fClient,cc,cvOf]
 ·obtain ⟨n,rfl⟩:=of_num hs
  obtain rfl:cv=nu n:=hc
  simp [msgC,subC,repC,bloC,fClient,cc,pP,pN,Val.n]
 ·obtain ⟨n,rfl⟩:=of_num hs
  exact ⟨⟨hw.sub,hw.rep,hw.tag,hw.own,hw.blob⟩,{ hr with client:=ho }⟩
theorem ok_fSNumber:FOk fSNumber:=by
 refine ⟨fun m vP vN hw=>⟨[nu m.kind]++([nu m.client]),[nu m.sub.kind]++([nu m.sub.target]++([st m.sub.value]++(dg m.sub.asked++(dg m.sub.data++([nu m.rep.number]++([nu m.rep.last]++([st m.rep.view]++(dg m.rep.commit++([vP]++([nu m.rep.vnum]++([st m.rep.value]++(dg m.rep.data++([st m.rep.seen]++(dg m.rep.stag++([st m.view]++([nu m.who]++(dg m.tag++(dg m.own++([nu m.blob.owner]++([nu m.blob.number]++([st m.blob.cipher]++(dg m.blob.tag++([vN]))))))))))))))))))))))),rfl,?_,fun v cv hs hc=>?_⟩,fun m=>rfl,fun m v hw hr hs ho=>?_,.inl ⟨(fun h=>by cases h),fun m v=>rfl⟩,.inl ⟨(fun h=>by cases h),fun m v=>rfl⟩,(fun m n hw h=>by cases h),(fun h=>by cases h),(fun h=>by cases h)⟩
 ·simp [msgC,subC,repC,bloC,fSNumber,cc,cvOf]
 ·obtain ⟨n,rfl⟩:=of_num hs
  obtain rfl:cv=nu n:=hc
  simp [msgC,subC,repC,bloC,fSNumber,cc,pP,pN,Val.n]
 ·obtain ⟨n,rfl⟩:=of_num hs
  exact ⟨⟨⟨hw.sub.asked,hw.sub.data⟩,⟨hw.rep.commit,hw.rep.data,hw.rep.stag,hw.rep.pend⟩,hw.tag,hw.own,⟨hw.blob.tag⟩⟩,{ hr with sn:=ho }⟩
theorem ok_fSKind:FOk fSKind:=by
 refine ⟨fun m vP vN hw=>⟨[nu m.kind]++([nu m.client]++([nu m.sub.number])),[nu m.sub.target]++([st m.sub.value]++(dg m.sub.asked++(dg m.sub.data++([nu m.rep.number]++([nu m.rep.last]++([st m.rep.view]++(dg m.rep.commit++([vP]++([nu m.rep.vnum]++([st m.rep.value]++(dg m.rep.data++([st m.rep.seen]++(dg m.rep.stag++([st m.view]++([nu m.who]++(dg m.tag++(dg m.own++([nu m.blob.owner]++([nu m.blob.number]++([st m.blob.cipher]++(dg m.blob.tag++([vN])))))))))))))))))))))),rfl,?_,fun v cv hs hc=>?_⟩,fun m=>rfl,fun m v hw hr hs ho=>?_,.inl ⟨(fun h=>by cases h),fun m v=>rfl⟩,.inl ⟨(fun h=>by cases h),fun m v=>rfl⟩,(fun m n hw h=>by cases h),(fun h=>by cases h),(fun h=>by cases h)⟩
 ·simp [msgC,subC,repC,bloC,fSKind,cc,cvOf]
 ·obtain ⟨n,rfl⟩:=of_num hs
  obtain rfl:cv=nu n:=hc
  simp [msgC,subC,repC,bloC,fSKind,cc,pP,pN,Val.n]
 ·obtain ⟨n,rfl⟩:=of_num hs
  exact ⟨⟨⟨hw.sub.asked,hw.sub.data⟩,⟨hw.rep.commit,hw.rep.data,hw.rep.stag,hw.rep.pend⟩,hw.tag,hw.own,⟨hw.blob.tag⟩⟩,{ hr with sk:=ho }⟩
theorem ok_fSTarget:FOk fSTarget:=by
 refine ⟨fun m vP vN hw=>⟨[nu m.kind]++([nu m.client]++([nu m.sub.number]++([nu m.sub.kind]))),[st m.sub.value]++(dg m.sub.asked++(dg m.sub.data++([nu m.rep.number]++([nu m.rep.last]++([st m.rep.view]++(dg m.rep.commit++([vP]++([nu m.rep.vnum]++([st m.rep.value]++(dg m.rep.data++([st m.rep.seen]++(dg m.rep.stag++([st m.view]++([nu m.who]++(dg m.tag++(dg m.own++([nu m.blob.owner]++([nu m.blob.number]++([st m.blob.cipher]++(dg m.blob.tag++([vN]))))))))))))))))))))),rfl,?_,fun v cv hs hc=>?_⟩,fun m=>rfl,fun m v hw hr hs ho=>?_,.inl ⟨(fun h=>by cases h),fun m v=>rfl⟩,.inl ⟨(fun h=>by cases h),fun m v=>rfl⟩,(fun m n hw h=>by cases h),(fun h=>by cases h),(fun h=>by cases h)⟩
 ·simp [msgC,subC,repC,bloC,fSTarget,cc,cvOf]
 ·obtain ⟨n,rfl⟩:=of_num hs
  obtain rfl:cv=nu n:=hc
  simp [msgC,subC,repC,bloC,fSTarget,cc,pP,pN,Val.n]
 ·obtain ⟨n,rfl⟩:=of_num hs
  exact ⟨⟨⟨hw.sub.asked,hw.sub.data⟩,⟨hw.rep.commit,hw.rep.data,hw.rep.stag,hw.rep.pend⟩,hw.tag,hw.own,⟨hw.blob.tag⟩⟩,{ hr with st:=ho }⟩
theorem ok_fSValue:FOk fSValue:=by
 refine ⟨fun m vP vN hw=>⟨[nu m.kind]++([nu m.client]++([nu m.sub.number]++([nu m.sub.kind]++([nu m.sub.target])))),dg m.sub.asked++(dg m.sub.data++([nu m.rep.number]++([nu m.rep.last]++([st m.rep.view]++(dg m.rep.commit++([vP]++([nu m.rep.vnum]++([st m.rep.value]++(dg m.rep.data++([st m.rep.seen]++(dg m.rep.stag++([st m.view]++([nu m.who]++(dg m.tag++(dg m.own++([nu m.blob.owner]++([nu m.blob.number]++([st m.blob.cipher]++(dg m.blob.tag++([vN])))))))))))))))))))),rfl,?_,fun v cv hs hc=>?_⟩,fun m=>rfl,fun m v hw hr hs ho=>?_,.inl ⟨(fun h=>by cases h),fun m v=>rfl⟩,.inl ⟨(fun h=>by cases h),fun m v=>rfl⟩,(fun m n hw h=>by cases h),(fun h=>by cases h),(fun h=>by cases h)⟩
 ·simp [msgC,subC,repC,bloC,fSValue,cc,cvOf]
 ·obtain ⟨n,rfl⟩:=of_txt hs
  obtain rfl:cv=st n:=hc
  simp [msgC,subC,repC,bloC,fSValue,cc,pP,pN,Val.s]
 ·obtain ⟨n,rfl⟩:=of_txt hs
  exact ⟨⟨⟨hw.sub.asked,hw.sub.data⟩,⟨hw.rep.commit,hw.rep.data,hw.rep.stag,hw.rep.pend⟩,hw.tag,hw.own,⟨hw.blob.tag⟩⟩,{ hr with }⟩
theorem ok_fSAsked:FOk fSAsked:=by
 refine ⟨fun m vP vN hw=>⟨[nu m.kind]++([nu m.client]++([nu m.sub.number]++([nu m.sub.kind]++([nu m.sub.target]++([st m.sub.value]))))),dg m.sub.data++([nu m.rep.number]++([nu m.rep.last]++([st m.rep.view]++(dg m.rep.commit++([vP]++([nu m.rep.vnum]++([st m.rep.value]++(dg m.rep.data++([st m.rep.seen]++(dg m.rep.stag++([st m.view]++([nu m.who]++(dg m.tag++(dg m.own++([nu m.blob.owner]++([nu m.blob.number]++([st m.blob.cipher]++(dg m.blob.tag++([vN]))))))))))))))))))),rfl,?_,fun v cv hs hc=>?_⟩,fun m=>rfl,fun m v hw hr hs ho=>?_,.inl ⟨(fun h=>by cases h),fun m v=>rfl⟩,.inl ⟨(fun h=>by cases h),fun m v=>rfl⟩,(fun m n hw h=>by cases h;exact hw.sub.asked),(fun h=>by cases h),(fun h=>by cases h)⟩
 ·simp [msgC,subC,repC,bloC,fSAsked,cc]
 ·obtain ⟨n,rfl⟩:=of_dig hs
  simp [msgC,subC,repC,bloC,fSAsked,cc,pP,pN,Val.d]
 ·obtain ⟨n,rfl⟩:=of_dig hs
  have hv:n.length=32:=ho
  exact ⟨{ hw with sub:={ hw.sub with asked:=hv } },{ hr with }⟩
theorem ok_fSData:FOk fSData:=by
 refine ⟨fun m vP vN hw=>⟨[nu m.kind]++([nu m.client]++([nu m.sub.number]++([nu m.sub.kind]++([nu m.sub.target]++([st m.sub.value]++(dg m.sub.asked)))))),[nu m.rep.number]++([nu m.rep.last]++([st m.rep.view]++(dg m.rep.commit++([vP]++([nu m.rep.vnum]++([st m.rep.value]++(dg m.rep.data++([st m.rep.seen]++(dg m.rep.stag++([st m.view]++([nu m.who]++(dg m.tag++(dg m.own++([nu m.blob.owner]++([nu m.blob.number]++([st m.blob.cipher]++(dg m.blob.tag++([vN])))))))))))))))))),by simp [fSData,dg_len,hw.sub.asked],?_,fun v cv hs hc=>?_⟩,fun m=>rfl,fun m v hw hr hs ho=>?_,.inl ⟨(fun h=>by cases h),fun m v=>rfl⟩,.inl ⟨(fun h=>by cases h),fun m v=>rfl⟩,(fun m n hw h=>by cases h;exact hw.sub.data),(fun h=>by cases h),(fun h=>by cases h)⟩
 ·simp [msgC,subC,repC,bloC,fSData,cc]
 ·obtain ⟨n,rfl⟩:=of_dig hs
  simp [msgC,subC,repC,bloC,fSData,cc,pP,pN,Val.d]
 ·obtain ⟨n,rfl⟩:=of_dig hs
  have hv:n.length=32:=ho
  exact ⟨{ hw with sub:={ hw.sub with data:=hv } },{ hr with }⟩
theorem ok_fRNumber:FOk fRNumber:=by
 refine ⟨fun m vP vN hw=>⟨[nu m.kind]++([nu m.client]++([nu m.sub.number]++([nu m.sub.kind]++([nu m.sub.target]++([st m.sub.value]++(dg m.sub.asked++(dg m.sub.data))))))),[nu m.rep.last]++([st m.rep.view]++(dg m.rep.commit++([vP]++([nu m.rep.vnum]++([st m.rep.value]++(dg m.rep.data++([st m.rep.seen]++(dg m.rep.stag++([st m.view]++([nu m.who]++(dg m.tag++(dg m.own++([nu m.blob.owner]++([nu m.blob.number]++([st m.blob.cipher]++(dg m.blob.tag++([vN]))))))))))))))))),by simp [fRNumber,dg_len,hw.sub.asked,hw.sub.data],?_,fun v cv hs hc=>?_⟩,fun m=>rfl,fun m v hw hr hs ho=>?_,.inl ⟨(fun h=>by cases h),fun m v=>rfl⟩,.inl ⟨(fun h=>by cases h),fun m v=>rfl⟩,(fun m n hw h=>by cases h),(fun h=>by cases h),(fun h=>by cases h)⟩
 ·simp [msgC,subC,repC,bloC,fRNumber,cc,cvOf]
 ·obtain ⟨n,rfl⟩:=of_num hs
  obtain rfl:cv=nu n:=hc
  simp [msgC,subC,repC,bloC,fRNumber,cc,pP,pN,Val.n]
 ·obtain ⟨n,rfl⟩:=of_num hs
  exact ⟨⟨⟨hw.sub.asked,hw.sub.data⟩,⟨hw.rep.commit,hw.rep.data,hw.rep.stag,hw.rep.pend⟩,hw.tag,hw.own,⟨hw.blob.tag⟩⟩,{ hr with rn:=ho }⟩
theorem ok_fRLast:FOk fRLast:=by
 refine ⟨fun m vP vN hw=>⟨[nu m.kind]++([nu m.client]++([nu m.sub.number]++([nu m.sub.kind]++([nu m.sub.target]++([st m.sub.value]++(dg m.sub.asked++(dg m.sub.data++([nu m.rep.number])))))))),[st m.rep.view]++(dg m.rep.commit++([vP]++([nu m.rep.vnum]++([st m.rep.value]++(dg m.rep.data++([st m.rep.seen]++(dg m.rep.stag++([st m.view]++([nu m.who]++(dg m.tag++(dg m.own++([nu m.blob.owner]++([nu m.blob.number]++([st m.blob.cipher]++(dg m.blob.tag++([vN])))))))))))))))),by simp [fRLast,dg_len,hw.sub.asked,hw.sub.data],?_,fun v cv hs hc=>?_⟩,fun m=>rfl,fun m v hw hr hs ho=>?_,.inl ⟨(fun h=>by cases h),fun m v=>rfl⟩,.inl ⟨(fun h=>by cases h),fun m v=>rfl⟩,(fun m n hw h=>by cases h),(fun h=>by cases h),(fun h=>by cases h)⟩
 ·simp [msgC,subC,repC,bloC,fRLast,cc,cvOf]
 ·obtain ⟨n,rfl⟩:=of_num hs
  obtain rfl:cv=nu n:=hc
  simp [msgC,subC,repC,bloC,fRLast,cc,pP,pN,Val.n]
 ·obtain ⟨n,rfl⟩:=of_num hs
  exact ⟨⟨⟨hw.sub.asked,hw.sub.data⟩,⟨hw.rep.commit,hw.rep.data,hw.rep.stag,hw.rep.pend⟩,hw.tag,hw.own,⟨hw.blob.tag⟩⟩,{ hr with rl:=ho }⟩
theorem ok_fRView:FOk fRView:=by
 refine ⟨fun m vP vN hw=>⟨[nu m.kind]++([nu m.client]++([nu m.sub.number]++([nu m.sub.kind]++([nu m.sub.target]++([st m.sub.value]++(dg m.sub.asked++(dg m.sub.data++([nu m.rep.number]++([nu m.rep.last]))))))))),dg m.rep.commit++([vP]++([nu m.rep.vnum]++([st m.rep.value]++(dg m.rep.data++([st m.rep.seen]++(dg m.rep.stag++([st m.view]++([nu m.who]++(dg m.tag++(dg m.own++([nu m.blob.owner]++([nu m.blob.number]++([st m.blob.cipher]++(dg m.blob.tag++([vN]))))))))))))))),by simp [fRView,dg_len,hw.sub.asked,hw.sub.data],?_,fun v cv hs hc=>?_⟩,fun m=>rfl,fun m v hw hr hs ho=>?_,.inl ⟨(fun h=>by cases h),fun m v=>rfl⟩,.inl ⟨(fun h=>by cases h),fun m v=>rfl⟩,(fun m n hw h=>by cases h),(fun h=>by cases h),(fun h=>by cases h)⟩
 ·simp [msgC,subC,repC,bloC,fRView,cc,cvOf]
 ·obtain ⟨n,rfl⟩:=of_txt hs
  obtain rfl:cv=st n:=hc
  simp [msgC,subC,repC,bloC,fRView,cc,pP,pN,Val.s]
 ·obtain ⟨n,rfl⟩:=of_txt hs
  exact ⟨⟨⟨hw.sub.asked,hw.sub.data⟩,⟨hw.rep.commit,hw.rep.data,hw.rep.stag,hw.rep.pend⟩,hw.tag,hw.own,⟨hw.blob.tag⟩⟩,{ hr with }⟩
theorem ok_fRCommit:FOk fRCommit:=by
 refine ⟨fun m vP vN hw=>⟨[nu m.kind]++([nu m.client]++([nu m.sub.number]++([nu m.sub.kind]++([nu m.sub.target]++([st m.sub.value]++(dg m.sub.asked++(dg m.sub.data++([nu m.rep.number]++([nu m.rep.last]++([st m.rep.view])))))))))),[vP]++([nu m.rep.vnum]++([st m.rep.value]++(dg m.rep.data++([st m.rep.seen]++(dg m.rep.stag++([st m.view]++([nu m.who]++(dg m.tag++(dg m.own++([nu m.blob.owner]++([nu m.blob.number]++([st m.blob.cipher]++(dg m.blob.tag++([vN])))))))))))))),by simp [fRCommit,dg_len,hw.sub.asked,hw.sub.data],?_,fun v cv hs hc=>?_⟩,fun m=>rfl,fun m v hw hr hs ho=>?_,.inl ⟨(fun h=>by cases h),fun m v=>rfl⟩,.inl ⟨(fun h=>by cases h),fun m v=>rfl⟩,(fun m n hw h=>by cases h;exact hw.rep.commit),(fun h=>by cases h),(fun h=>by cases h)⟩
 ·simp [msgC,subC,repC,bloC,fRCommit,cc]
 ·obtain ⟨n,rfl⟩:=of_dig hs
  simp [msgC,subC,repC,bloC,fRCommit,cc,pP,pN,Val.d]
 ·obtain ⟨n,rfl⟩:=of_dig hs
  have hv:n.length=32:=ho
  exact ⟨{ hw with rep:={ hw.rep with commit:=hv } },{ hr with }⟩
theorem ok_fRPend:FOk fRPend:=by
 refine ⟨fun m vP vN hw=>⟨[nu m.kind]++([nu m.client]++([nu m.sub.number]++([nu m.sub.kind]++([nu m.sub.target]++([st m.sub.value]++(dg m.sub.asked++(dg m.sub.data++([nu m.rep.number]++([nu m.rep.last]++([st m.rep.view]++(dg m.rep.commit))))))))))),[nu m.rep.vnum]++([st m.rep.value]++(dg m.rep.data++([st m.rep.seen]++(dg m.rep.stag++([st m.view]++([nu m.who]++(dg m.tag++(dg m.own++([nu m.blob.owner]++([nu m.blob.number]++([st m.blob.cipher]++(dg m.blob.tag++([vN]))))))))))))),by simp [fRPend,dg_len,hw.sub.asked,hw.sub.data,hw.rep.commit],?_,fun v cv hs hc=>?_⟩,fun m=>rfl,fun m v hw hr hs ho=>?_,.inr ⟨rfl,fun m v=>rfl⟩,.inl ⟨(fun h=>by cases h),fun m v=>rfl⟩,(fun m n hw h=>by cases h),fun _ m=>rfl,(fun h=>by cases h)⟩
 ·simp [msgC,subC,repC,bloC,fRPend,cc,cvOf]
 ·obtain ⟨n,rfl⟩:=of_pens hs
  simp [msgC,subC,repC,bloC,fRPend,cc,pP,pN,Val.p]
 ·obtain ⟨n,rfl⟩:=of_pens hs
  have hv:okVal (.pens n):=ho
  exact ⟨{ hw with rep:={ hw.rep with pend:=fun p h=>wf_of_ok (hv.2 p h) } },{ hr with ps:=ho.2 }⟩
theorem ok_fRVnum:FOk fRVnum:=by
 refine ⟨fun m vP vN hw=>⟨[nu m.kind]++([nu m.client]++([nu m.sub.number]++([nu m.sub.kind]++([nu m.sub.target]++([st m.sub.value]++(dg m.sub.asked++(dg m.sub.data++([nu m.rep.number]++([nu m.rep.last]++([st m.rep.view]++(dg m.rep.commit++([vP])))))))))))),[st m.rep.value]++(dg m.rep.data++([st m.rep.seen]++(dg m.rep.stag++([st m.view]++([nu m.who]++(dg m.tag++(dg m.own++([nu m.blob.owner]++([nu m.blob.number]++([st m.blob.cipher]++(dg m.blob.tag++([vN])))))))))))),by simp [fRVnum,dg_len,hw.sub.asked,hw.sub.data,hw.rep.commit],?_,fun v cv hs hc=>?_⟩,fun m=>rfl,fun m v hw hr hs ho=>?_,.inl ⟨(fun h=>by cases h),fun m v=>rfl⟩,.inl ⟨(fun h=>by cases h),fun m v=>rfl⟩,(fun m n hw h=>by cases h),(fun h=>by cases h),(fun h=>by cases h)⟩
 ·simp [msgC,subC,repC,bloC,fRVnum,cc,cvOf]
 ·obtain ⟨n,rfl⟩:=of_num hs
  obtain rfl:cv=nu n:=hc
  simp [msgC,subC,repC,bloC,fRVnum,cc,pP,pN,Val.n]
 ·obtain ⟨n,rfl⟩:=of_num hs
  exact ⟨⟨⟨hw.sub.asked,hw.sub.data⟩,⟨hw.rep.commit,hw.rep.data,hw.rep.stag,hw.rep.pend⟩,hw.tag,hw.own,⟨hw.blob.tag⟩⟩,{ hr with rv:=ho }⟩
theorem ok_fRValue:FOk fRValue:=by
 refine ⟨fun m vP vN hw=>⟨[nu m.kind]++([nu m.client]++([nu m.sub.number]++([nu m.sub.kind]++([nu m.sub.target]++([st m.sub.value]++(dg m.sub.asked++(dg m.sub.data++([nu m.rep.number]++([nu m.rep.last]++([st m.rep.view]++(dg m.rep.commit++([vP]++([nu m.rep.vnum]))))))))))))),dg m.rep.data++([st m.rep.seen]++(dg m.rep.stag++([st m.view]++([nu m.who]++(dg m.tag++(dg m.own++([nu m.blob.owner]++([nu m.blob.number]++([st m.blob.cipher]++(dg m.blob.tag++([vN]))))))))))),by simp [fRValue,dg_len,hw.sub.asked,hw.sub.data,hw.rep.commit],?_,fun v cv hs hc=>?_⟩,fun m=>rfl,fun m v hw hr hs ho=>?_,.inl ⟨(fun h=>by cases h),fun m v=>rfl⟩,.inl ⟨(fun h=>by cases h),fun m v=>rfl⟩,(fun m n hw h=>by cases h),(fun h=>by cases h),(fun h=>by cases h)⟩
 ·simp [msgC,subC,repC,bloC,fRValue,cc,cvOf]
 ·obtain ⟨n,rfl⟩:=of_txt hs
  obtain rfl:cv=st n:=hc
  simp [msgC,subC,repC,bloC,fRValue,cc,pP,pN,Val.s]
 ·obtain ⟨n,rfl⟩:=of_txt hs
  exact ⟨⟨⟨hw.sub.asked,hw.sub.data⟩,⟨hw.rep.commit,hw.rep.data,hw.rep.stag,hw.rep.pend⟩,hw.tag,hw.own,⟨hw.blob.tag⟩⟩,{ hr with }⟩
theorem ok_fRData:FOk fRData:=by
 refine ⟨fun m vP vN hw=>⟨[nu m.kind]++([nu m.client]++([nu m.sub.number]++([nu m.sub.kind]++([nu m.sub.target]++([st m.sub.value]++(dg m.sub.asked++(dg m.sub.data++([nu m.rep.number]++([nu m.rep.last]++([st m.rep.view]++(dg m.rep.commit++([vP]++([nu m.rep.vnum]++([st m.rep.value])))))))))))))),[st m.rep.seen]++(dg m.rep.stag++([st m.view]++([nu m.who]++(dg m.tag++(dg m.own++([nu m.blob.owner]++([nu m.blob.number]++([st m.blob.cipher]++(dg m.blob.tag++([vN])))))))))),by simp [fRData,dg_len,hw.sub.asked,hw.sub.data,hw.rep.commit],?_,fun v cv hs hc=>?_⟩,fun m=>rfl,fun m v hw hr hs ho=>?_,.inl ⟨(fun h=>by cases h),fun m v=>rfl⟩,.inl ⟨(fun h=>by cases h),fun m v=>rfl⟩,(fun m n hw h=>by cases h;exact hw.rep.data),(fun h=>by cases h),(fun h=>by cases h)⟩
 ·simp [msgC,subC,repC,bloC,fRData,cc]
 ·obtain ⟨n,rfl⟩:=of_dig hs
  simp [msgC,subC,repC,bloC,fRData,cc,pP,pN,Val.d]
 ·obtain ⟨n,rfl⟩:=of_dig hs
  have hv:n.length=32:=ho
  exact ⟨{ hw with rep:={ hw.rep with data:=hv } },{ hr with }⟩
theorem ok_fRSeen:FOk fRSeen:=by
 refine ⟨fun m vP vN hw=>⟨[nu m.kind]++([nu m.client]++([nu m.sub.number]++([nu m.sub.kind]++([nu m.sub.target]++([st m.sub.value]++(dg m.sub.asked++(dg m.sub.data++([nu m.rep.number]++([nu m.rep.last]++([st m.rep.view]++(dg m.rep.commit++([vP]++([nu m.rep.vnum]++([st m.rep.value]++(dg m.rep.data))))))))))))))),dg m.rep.stag++([st m.view]++([nu m.who]++(dg m.tag++(dg m.own++([nu m.blob.owner]++([nu m.blob.number]++([st m.blob.cipher]++(dg m.blob.tag++([vN]))))))))),by simp [fRSeen,dg_len,hw.sub.asked,hw.sub.data,hw.rep.commit,hw.rep.data],?_,fun v cv hs hc=>?_⟩,fun m=>rfl,fun m v hw hr hs ho=>?_,.inl ⟨(fun h=>by cases h),fun m v=>rfl⟩,.inl ⟨(fun h=>by cases h),fun m v=>rfl⟩,(fun m n hw h=>by cases h),(fun h=>by cases h),(fun h=>by cases h)⟩
 ·simp [msgC,subC,repC,bloC,fRSeen,cc,cvOf]
 ·obtain ⟨n,rfl⟩:=of_txt hs
  obtain rfl:cv=st n:=hc
  simp [msgC,subC,repC,bloC,fRSeen,cc,pP,pN,Val.s]
 ·obtain ⟨n,rfl⟩:=of_txt hs
  exact ⟨⟨⟨hw.sub.asked,hw.sub.data⟩,⟨hw.rep.commit,hw.rep.data,hw.rep.stag,hw.rep.pend⟩,hw.tag,hw.own,⟨hw.blob.tag⟩⟩,{ hr with }⟩
theorem ok_fRTag:FOk fRTag:=by
 refine ⟨fun m vP vN hw=>⟨[nu m.kind]++([nu m.client]++([nu m.sub.number]++([nu m.sub.kind]++([nu m.sub.target]++([st m.sub.value]++(dg m.sub.asked++(dg m.sub.data++([nu m.rep.number]++([nu m.rep.last]++([st m.rep.view]++(dg m.rep.commit++([vP]++([nu m.rep.vnum]++([st m.rep.value]++(dg m.rep.data++([st m.rep.seen])))))))))))))))),[st m.view]++([nu m.who]++(dg m.tag++(dg m.own++([nu m.blob.owner]++([nu m.blob.number]++([st m.blob.cipher]++(dg m.blob.tag++([vN])))))))),by simp [fRTag,dg_len,hw.sub.asked,hw.sub.data,hw.rep.commit,hw.rep.data],?_,fun v cv hs hc=>?_⟩,fun m=>rfl,fun m v hw hr hs ho=>?_,.inl ⟨(fun h=>by cases h),fun m v=>rfl⟩,.inl ⟨(fun h=>by cases h),fun m v=>rfl⟩,(fun m n hw h=>by cases h;exact hw.rep.stag),(fun h=>by cases h),(fun h=>by cases h)⟩
 ·simp [msgC,subC,repC,bloC,fRTag,cc]
 ·obtain ⟨n,rfl⟩:=of_dig hs
  simp [msgC,subC,repC,bloC,fRTag,cc,pP,pN,Val.d]
 ·obtain ⟨n,rfl⟩:=of_dig hs
  have hv:n.length=32:=ho
  exact ⟨{ hw with rep:={ hw.rep with stag:=hv } },{ hr with }⟩
theorem ok_fView:FOk fView:=by
 refine ⟨fun m vP vN hw=>⟨[nu m.kind]++([nu m.client]++([nu m.sub.number]++([nu m.sub.kind]++([nu m.sub.target]++([st m.sub.value]++(dg m.sub.asked++(dg m.sub.data++([nu m.rep.number]++([nu m.rep.last]++([st m.rep.view]++(dg m.rep.commit++([vP]++([nu m.rep.vnum]++([st m.rep.value]++(dg m.rep.data++([st m.rep.seen]++(dg m.rep.stag))))))))))))))))),[nu m.who]++(dg m.tag++(dg m.own++([nu m.blob.owner]++([nu m.blob.number]++([st m.blob.cipher]++(dg m.blob.tag++([vN]))))))),by simp [fView,dg_len,hw.sub.asked,hw.sub.data,hw.rep.commit,hw.rep.data,hw.rep.stag],?_,fun v cv hs hc=>?_⟩,fun m=>rfl,fun m v hw hr hs ho=>?_,.inl ⟨(fun h=>by cases h),fun m v=>rfl⟩,.inl ⟨(fun h=>by cases h),fun m v=>rfl⟩,(fun m n hw h=>by cases h),(fun h=>by cases h),(fun h=>by cases h)⟩
 ·simp [msgC,subC,repC,bloC,fView,cc,cvOf]
 ·obtain ⟨n,rfl⟩:=of_txt hs
  obtain rfl:cv=st n:=hc
  simp [msgC,subC,repC,bloC,fView,cc,pP,pN,Val.s]
 ·obtain ⟨n,rfl⟩:=of_txt hs
  exact ⟨⟨⟨hw.sub.asked,hw.sub.data⟩,⟨hw.rep.commit,hw.rep.data,hw.rep.stag,hw.rep.pend⟩,hw.tag,hw.own,⟨hw.blob.tag⟩⟩,{ hr with }⟩
theorem ok_fBy:FOk fBy:=by
 refine ⟨fun m vP vN hw=>⟨[nu m.kind]++([nu m.client]++([nu m.sub.number]++([nu m.sub.kind]++([nu m.sub.target]++([st m.sub.value]++(dg m.sub.asked++(dg m.sub.data++([nu m.rep.number]++([nu m.rep.last]++([st m.rep.view]++(dg m.rep.commit++([vP]++([nu m.rep.vnum]++([st m.rep.value]++(dg m.rep.data++([st m.rep.seen]++(dg m.rep.stag++([st m.view])))))))))))))))))),dg m.tag++(dg m.own++([nu m.blob.owner]++([nu m.blob.number]++([st m.blob.cipher]++(dg m.blob.tag++([vN])))))),by simp [fBy,dg_len,hw.sub.asked,hw.sub.data,hw.rep.commit,hw.rep.data,hw.rep.stag],?_,fun v cv hs hc=>?_⟩,fun m=>rfl,fun m v hw hr hs ho=>?_,.inl ⟨(fun h=>by cases h),fun m v=>rfl⟩,.inl ⟨(fun h=>by cases h),fun m v=>rfl⟩,(fun m n hw h=>by cases h),(fun h=>by cases h),(fun h=>by cases h)⟩
 ·simp [msgC,subC,repC,bloC,fBy,cc,cvOf]
 ·obtain ⟨n,rfl⟩:=of_num hs
  obtain rfl:cv=nu n:=hc
  simp [msgC,subC,repC,bloC,fBy,cc,pP,pN,Val.n]
 ·obtain ⟨n,rfl⟩:=of_num hs
  exact ⟨⟨hw.sub,hw.rep,hw.tag,hw.own,hw.blob⟩,{ hr with who:=ho }⟩
theorem ok_fTag:FOk fTag:=by
 refine ⟨fun m vP vN hw=>⟨[nu m.kind]++([nu m.client]++([nu m.sub.number]++([nu m.sub.kind]++([nu m.sub.target]++([st m.sub.value]++(dg m.sub.asked++(dg m.sub.data++([nu m.rep.number]++([nu m.rep.last]++([st m.rep.view]++(dg m.rep.commit++([vP]++([nu m.rep.vnum]++([st m.rep.value]++(dg m.rep.data++([st m.rep.seen]++(dg m.rep.stag++([st m.view]++([nu m.who]))))))))))))))))))),dg m.own++([nu m.blob.owner]++([nu m.blob.number]++([st m.blob.cipher]++(dg m.blob.tag++([vN]))))),by simp [fTag,dg_len,hw.sub.asked,hw.sub.data,hw.rep.commit,hw.rep.data,hw.rep.stag],?_,fun v cv hs hc=>?_⟩,fun m=>rfl,fun m v hw hr hs ho=>?_,.inl ⟨(fun h=>by cases h),fun m v=>rfl⟩,.inl ⟨(fun h=>by cases h),fun m v=>rfl⟩,(fun m n hw h=>by cases h;exact hw.tag),(fun h=>by cases h),(fun h=>by cases h)⟩
 ·simp [msgC,subC,repC,bloC,fTag,cc]
 ·obtain ⟨n,rfl⟩:=of_dig hs
  simp [msgC,subC,repC,bloC,fTag,cc,pP,pN,Val.d]
 ·obtain ⟨n,rfl⟩:=of_dig hs
  have hv:n.length=32:=ho
  exact ⟨{ hw with tag:=hv },{ hr with }⟩
theorem ok_fOwn:FOk fOwn:=by
 refine ⟨fun m vP vN hw=>⟨[nu m.kind]++([nu m.client]++([nu m.sub.number]++([nu m.sub.kind]++([nu m.sub.target]++([st m.sub.value]++(dg m.sub.asked++(dg m.sub.data++([nu m.rep.number]++([nu m.rep.last]++([st m.rep.view]++(dg m.rep.commit++([vP]++([nu m.rep.vnum]++([st m.rep.value]++(dg m.rep.data++([st m.rep.seen]++(dg m.rep.stag++([st m.view]++([nu m.who]++(dg m.tag)))))))))))))))))))),[nu m.blob.owner]++([nu m.blob.number]++([st m.blob.cipher]++(dg m.blob.tag++([vN])))),by simp [fOwn,dg_len,hw.sub.asked,hw.sub.data,hw.rep.commit,hw.rep.data,hw.rep.stag,hw.tag],?_,fun v cv hs hc=>?_⟩,fun m=>rfl,fun m v hw hr hs ho=>?_,.inl ⟨(fun h=>by cases h),fun m v=>rfl⟩,.inl ⟨(fun h=>by cases h),fun m v=>rfl⟩,(fun m n hw h=>by cases h;exact hw.own),(fun h=>by cases h),(fun h=>by cases h)⟩
 ·simp [msgC,subC,repC,bloC,fOwn,cc]
 ·obtain ⟨n,rfl⟩:=of_dig hs
  simp [msgC,subC,repC,bloC,fOwn,cc,pP,pN,Val.d]
 ·obtain ⟨n,rfl⟩:=of_dig hs
  have hv:n.length=32:=ho
  exact ⟨{ hw with own:=hv },{ hr with }⟩
theorem ok_fBOwner:FOk fBOwner:=by
 refine ⟨fun m vP vN hw=>⟨[nu m.kind]++([nu m.client]++([nu m.sub.number]++([nu m.sub.kind]++([nu m.sub.target]++([st m.sub.value]++(dg m.sub.asked++(dg m.sub.data++([nu m.rep.number]++([nu m.rep.last]++([st m.rep.view]++(dg m.rep.commit++([vP]++([nu m.rep.vnum]++([st m.rep.value]++(dg m.rep.data++([st m.rep.seen]++(dg m.rep.stag++([st m.view]++([nu m.who]++(dg m.tag++(dg m.own))))))))))))))))))))),[nu m.blob.number]++([st m.blob.cipher]++(dg m.blob.tag++([vN]))),by simp [fBOwner,dg_len,hw.sub.asked,hw.sub.data,hw.rep.commit,hw.rep.data,hw.rep.stag,hw.tag,hw.own],?_,fun v cv hs hc=>?_⟩,fun m=>rfl,fun m v hw hr hs ho=>?_,.inl ⟨(fun h=>by cases h),fun m v=>rfl⟩,.inl ⟨(fun h=>by cases h),fun m v=>rfl⟩,(fun m n hw h=>by cases h),(fun h=>by cases h),(fun h=>by cases h)⟩
 ·simp [msgC,subC,repC,bloC,fBOwner,cc,cvOf]
 ·obtain ⟨n,rfl⟩:=of_num hs
  obtain rfl:cv=nu n:=hc
  simp [msgC,subC,repC,bloC,fBOwner,cc,pP,pN,Val.n]
 ·obtain ⟨n,rfl⟩:=of_num hs
  exact ⟨⟨⟨hw.sub.asked,hw.sub.data⟩,⟨hw.rep.commit,hw.rep.data,hw.rep.stag,hw.rep.pend⟩,hw.tag,hw.own,⟨hw.blob.tag⟩⟩,{ hr with bo:=ho }⟩
theorem ok_fBNumber:FOk fBNumber:=by
 refine ⟨fun m vP vN hw=>⟨[nu m.kind]++([nu m.client]++([nu m.sub.number]++([nu m.sub.kind]++([nu m.sub.target]++([st m.sub.value]++(dg m.sub.asked++(dg m.sub.data++([nu m.rep.number]++([nu m.rep.last]++([st m.rep.view]++(dg m.rep.commit++([vP]++([nu m.rep.vnum]++([st m.rep.value]++(dg m.rep.data++([st m.rep.seen]++(dg m.rep.stag++([st m.view]++([nu m.who]++(dg m.tag++(dg m.own++([nu m.blob.owner])))))))))))))))))))))),[st m.blob.cipher]++(dg m.blob.tag++([vN])),by simp [fBNumber,dg_len,hw.sub.asked,hw.sub.data,hw.rep.commit,hw.rep.data,hw.rep.stag,hw.tag,hw.own],?_,fun v cv hs hc=>?_⟩,fun m=>rfl,fun m v hw hr hs ho=>?_,.inl ⟨(fun h=>by cases h),fun m v=>rfl⟩,.inl ⟨(fun h=>by cases h),fun m v=>rfl⟩,(fun m n hw h=>by cases h),(fun h=>by cases h),(fun h=>by cases h)⟩
 ·simp [msgC,subC,repC,bloC,fBNumber,cc,cvOf]
 ·obtain ⟨n,rfl⟩:=of_num hs
  obtain rfl:cv=nu n:=hc
  simp [msgC,subC,repC,bloC,fBNumber,cc,pP,pN,Val.n]
 ·obtain ⟨n,rfl⟩:=of_num hs
  exact ⟨⟨⟨hw.sub.asked,hw.sub.data⟩,⟨hw.rep.commit,hw.rep.data,hw.rep.stag,hw.rep.pend⟩,hw.tag,hw.own,⟨hw.blob.tag⟩⟩,{ hr with bn:=ho }⟩
theorem ok_fBCipher:FOk fBCipher:=by
 refine ⟨fun m vP vN hw=>⟨[nu m.kind]++([nu m.client]++([nu m.sub.number]++([nu m.sub.kind]++([nu m.sub.target]++([st m.sub.value]++(dg m.sub.asked++(dg m.sub.data++([nu m.rep.number]++([nu m.rep.last]++([st m.rep.view]++(dg m.rep.commit++([vP]++([nu m.rep.vnum]++([st m.rep.value]++(dg m.rep.data++([st m.rep.seen]++(dg m.rep.stag++([st m.view]++([nu m.who]++(dg m.tag++(dg m.own++([nu m.blob.owner]++([nu m.blob.number]))))))))))))))))))))))),dg m.blob.tag++([vN]),by simp [fBCipher,dg_len,hw.sub.asked,hw.sub.data,hw.rep.commit,hw.rep.data,hw.rep.stag,hw.tag,hw.own],?_,fun v cv hs hc=>?_⟩,fun m=>rfl,fun m v hw hr hs ho=>?_,.inl ⟨(fun h=>by cases h),fun m v=>rfl⟩,.inl ⟨(fun h=>by cases h),fun m v=>rfl⟩,(fun m n hw h=>by cases h),(fun h=>by cases h),(fun h=>by cases h)⟩
 ·simp [msgC,subC,repC,bloC,fBCipher,cc,cvOf]
 ·obtain ⟨n,rfl⟩:=of_txt hs
  obtain rfl:cv=st n:=hc
  simp [msgC,subC,repC,bloC,fBCipher,cc,pP,pN,Val.s]
 ·obtain ⟨n,rfl⟩:=of_txt hs
  exact ⟨⟨⟨hw.sub.asked,hw.sub.data⟩,⟨hw.rep.commit,hw.rep.data,hw.rep.stag,hw.rep.pend⟩,hw.tag,hw.own,⟨hw.blob.tag⟩⟩,{ hr with }⟩
theorem ok_fBTag:FOk fBTag:=by
 refine ⟨fun m vP vN hw=>⟨[nu m.kind]++([nu m.client]++([nu m.sub.number]++([nu m.sub.kind]++([nu m.sub.target]++([st m.sub.value]++(dg m.sub.asked++(dg m.sub.data++([nu m.rep.number]++([nu m.rep.last]++([st m.rep.view]++(dg m.rep.commit++([vP]++([nu m.rep.vnum]++([st m.rep.value]++(dg m.rep.data++([st m.rep.seen]++(dg m.rep.stag++([st m.view]++([nu m.who]++(dg m.tag++(dg m.own++([nu m.blob.owner]++([nu m.blob.number]++([st m.blob.cipher])))))))))))))))))))))))),[vN],by simp [fBTag,dg_len,hw.sub.asked,hw.sub.data,hw.rep.commit,hw.rep.data,hw.rep.stag,hw.tag,hw.own],?_,fun v cv hs hc=>?_⟩,fun m=>rfl,fun m v hw hr hs ho=>?_,.inl ⟨(fun h=>by cases h),fun m v=>rfl⟩,.inl ⟨(fun h=>by cases h),fun m v=>rfl⟩,(fun m n hw h=>by cases h;exact hw.blob.tag),(fun h=>by cases h),(fun h=>by cases h)⟩
 ·simp [msgC,subC,repC,bloC,fBTag,cc]
 ·obtain ⟨n,rfl⟩:=of_dig hs
  simp [msgC,subC,repC,bloC,fBTag,cc,pP,pN,Val.d]
 ·obtain ⟨n,rfl⟩:=of_dig hs
  have hv:n.length=32:=ho
  exact ⟨{ hw with blob:=⟨hv⟩ },{ hr with }⟩
theorem ok_fNums:FOk fNums:=by
 refine ⟨fun m vP vN hw=>⟨[nu m.kind]++([nu m.client]++([nu m.sub.number]++([nu m.sub.kind]++([nu m.sub.target]++([st m.sub.value]++(dg m.sub.asked++(dg m.sub.data++([nu m.rep.number]++([nu m.rep.last]++([st m.rep.view]++(dg m.rep.commit++([vP]++([nu m.rep.vnum]++([st m.rep.value]++(dg m.rep.data++([st m.rep.seen]++(dg m.rep.stag++([st m.view]++([nu m.who]++(dg m.tag++(dg m.own++([nu m.blob.owner]++([nu m.blob.number]++([st m.blob.cipher]++(dg m.blob.tag))))))))))))))))))))))))),[],by simp [fNums,dg_len,hw.sub.asked,hw.sub.data,hw.rep.commit,hw.rep.data,hw.rep.stag,hw.tag,hw.own,hw.blob.tag],?_,fun v cv hs hc=>?_⟩,fun m=>rfl,fun m v hw hr hs ho=>?_,.inl ⟨(fun h=>by cases h),fun m v=>rfl⟩,.inr ⟨rfl,fun m v=>rfl⟩,(fun m n hw h=>by cases h),(fun h=>by cases h),fun _ m=>rfl⟩
 ·simp [msgC,subC,repC,bloC,fNums,cc,cvOf]
 ·obtain ⟨n,rfl⟩:=of_nums hs
  simp [msgC,subC,repC,bloC,fNums,cc,pP,pN,Val.l]
 ·obtain ⟨n,rfl⟩:=of_nums hs
  exact ⟨⟨hw.sub,hw.rep,hw.tag,hw.own,hw.blob⟩,{ hr with ns:=ho.2 }⟩
theorem ok_fields (k:Int):∀ f ∈ fieldsM k,FOk f:=by
 intro f hf
 rcases fields_cases k with ⟨_,e⟩ | ⟨_,e⟩ | ⟨_,e⟩ | ⟨_,e⟩ | ⟨_,e⟩ | ⟨_,e⟩ | ⟨_,e⟩ | ⟨_,e⟩ | ⟨_,e⟩ <;> rw [e] at hf
 ·simp only [subFs,List.mem_cons,List.not_mem_nil,or_false] at hf
  rcases hf with rfl | rfl | rfl | rfl | rfl | rfl | rfl
  ·exact ok_fClient
  ·exact ok_fSNumber
  ·exact ok_fSKind
  ·exact ok_fSTarget
  ·exact ok_fSValue
  ·exact ok_fSAsked
  ·exact ok_fSData
 ·simp only [repFs,List.mem_cons,List.not_mem_nil,or_false] at hf
  rcases hf with rfl | rfl | rfl | rfl | rfl | rfl | rfl | rfl | rfl | rfl
  ·exact ok_fRNumber
  ·exact ok_fRLast
  ·exact ok_fRView
  ·exact ok_fRCommit
  ·exact ok_fRPend
  ·exact ok_fRVnum
  ·exact ok_fRValue
  ·exact ok_fRData
  ·exact ok_fRSeen
  ·exact ok_fRTag
 ·simp only [comFs,List.mem_cons,List.not_mem_nil,or_false] at hf
  rcases hf with rfl | rfl | rfl
  ·exact ok_fClient
  ·exact ok_fView
  ·exact ok_fTag
 ·simp only [bloFs,List.mem_cons,List.not_mem_nil,or_false] at hf
  rcases hf with rfl | rfl | rfl | rfl
  ·exact ok_fBOwner
  ·exact ok_fBNumber
  ·exact ok_fBCipher
  ·exact ok_fBTag
 ·simp only [lstFs,List.mem_cons,List.not_mem_nil,or_false] at hf
  rcases hf with rfl | rfl
  ·exact ok_fClient
  ·exact ok_fNums
 ·simp only [proFs,List.mem_cons,List.not_mem_nil,or_false] at hf
  subst hf
  exact ok_fClient
 ·simp only [verFs,List.mem_cons,List.not_mem_nil,or_false] at hf
  rcases hf with rfl | rfl | rfl | rfl | rfl
  ·exact ok_fClient
  ·exact ok_fBy
  ·exact ok_fView
  ·exact ok_fTag
  ·exact ok_fOwn
 ·simp only [alaFs,List.mem_cons,List.not_mem_nil,or_false] at hf
  rcases hf with rfl | rfl
  ·exact ok_fClient
  ·exact ok_fOwn
 ·cases hf
def Away (g:Nat) (v:Value) (n:Nat):Prop:=n ≠ 0→∀ a l c,v = .slice (some a) l c→a.block ≠ g
theorem cell_same {w w':World} {b o:Nat} (h:w'.heap[b]? = w.heap[b]?):w'.cell? ⟨b,o,none⟩=w.cell? ⟨b,o,none⟩:=by unfold World.cell?;rw [h]
theorem IntsAt.but {w w':World} {g:Nat} {v:Value} {l:List Int} (h:IntsAt w v l) (ha:Away g v l.length) (hb:But g w w'):IntsAt w' v l:=by
 obtain ⟨a,cap,rfl,hc⟩:=h
 refine ⟨a,cap,rfl,fun hne=>?_⟩
 obtain ⟨b,off,rfl,hj⟩:=hc hne
 have hn:b ≠ g:=ha (fun e=>hne (List.length_eq_zero_iff.1 e)) _ _ _ rfl
 exact ⟨b,off,rfl,fun j h=>(cell_same (hb.block b hn)).trans (hj j h)⟩
theorem PensAt.but {w w':World} {g:Nat} {v:Value} {l:List Pen} (h:PensAt w v l) (ha:Away g v l.length) (hb:But g w w'):PensAt w' v l:=by
 obtain ⟨a,cap,rfl,hc⟩:=h
 refine ⟨a,cap,rfl,fun hne=>?_⟩
 obtain ⟨b,off,rfl,hj⟩:=hc hne
 have hn:b ≠ g:=ha (fun e=>hne (List.length_eq_zero_iff.1 e)) _ _ _ rfl
 exact ⟨b,off,rfl,fun j h i c hi=>(cell_same (hb.block b hn)).trans (hj j h i c hi)⟩
structure MsgAt (X:List Nat) (g:Nat) (m:Msg) (w:World):Prop where
 row:∃ vP vN,w.heap[g]? = some (.cells (msgC m vP vN).toArray 102)∧PensAt w vP m.rep.pend∧IntsAt w vN m.nums∧(∀ x ∈ g :: X,Away x vP m.rep.pend.length)∧(∀ x ∈ g :: X,Away x vN m.nums.length)
 low:∀ x ∈ X,x < w.heap.size
 wf:m.Wf
 rng:m.Rng
 len:m.rep.pend.length ≤ 9223372036854775807∧m.nums.length ≤ 9223372036854775807
theorem fr_away {g B:Nat} {cv:Value} {n:Nat} (h:Fr B cv) (hg:g < B):Away g cv n:=fun _ a l c e=>by have:=h a l c e;omega
theorem cv_form {w:World} {cv:Value} {v:Val} (h:CvAt w cv v):cvForm cv v:=by cases v using Val.cut with | num _=>exact h | txt _=>exact h | dig _=>trivial | nums _=>trivial | pens _=>trivial
theorem pP_ne {k:Slot} {cv vP:Value} (h:k ≠ .pens):pP k cv vP=vP:=by cases k using Slot.cut <;> first | rfl | exact absurd rfl h
theorem pN_ne {k:Slot} {cv vN:Value} (h:k ≠ .nums):pN k cv vN=vN:=by cases k using Slot.cut <;> first | rfl | exact absurd rfl h
theorem msg_hold (X:List Nat) (g:Nat) (k:Int):Hold (fieldsM k) g 0 (MsgAt X g) where
 own:=fun m w h=>by
  obtain ⟨vP,vN,hr,-⟩:=h.row
  exact ⟨_,_,hr,.inl rfl⟩
 stay:=fun m w w' h hb=>by
  obtain ⟨vP,vN,hr,h1,h2,h3,h4⟩:=h.row
  exact ⟨⟨vP,vN,row_kept hr hb,h1.kept hb,h2.kept hb,h3,h4⟩,(fun x hx=>Nat.lt_of_lt_of_le (h.low x hx) hb.size),h.wf,h.rng,h.len⟩
 load:=fun m w h f hf=>by
  have hok:=ok_fields k f hf
  refine ⟨?_,hok.sl m⟩
  obtain ⟨vP,vN,hr,h1,h2,h3,h4⟩:=h.row
  obtain ⟨A,C,hA,he,-⟩:=hok.sp m vP vN h.wf
  have hA':A.length=0 + f.off:=by omega
  have hsl:=hok.sl m
  have hgp:=hok.gp
  have hgn:=hok.gn
  cases hv:f.get m using Val.cut with
  | num n=>rw [hv] at he;exact row_cell hr he hA'
  | txt n=>rw [hv] at he;exact row_cell hr he hA'
  | dig n=>rw [hv] at he;exact row_seg hr he hA'
  | nums n =>
   rw [hv] at he hsl
   have e:=hgn hsl.symm m
   rw [hv] at e
   cases e
   exact ⟨vN,row_cell hr he hA',h2⟩
  | pens n =>
   rw [hv] at he hsl
   have e:=hgp hsl.symm m
   rw [hv] at e
   cases e
   exact ⟨vP,row_cell hr he hA',h1⟩
 store:=fun m w h f hf=>by
  have hok:=ok_fields k f hf
  obtain ⟨vP,vN,hr,h1,h2,h3,h4⟩:=h.row
  obtain ⟨A,C,hA,he,hset⟩:=hok.sp m vP vN h.wf
  refine ⟨A,cc (cvOf vP vN (f.get m)) (f.get m),C,102,by rw [← he];exact hr,by omega,?_,?_⟩
  ·have hsl:=hok.sl m
   cases hv:f.get m using Val.cut with
   | num n=>rw [hv] at hsl;rw [← hsl];rfl
   | txt n=>rw [hv] at hsl;rw [← hsl];rfl
   | dig n =>
    rw [hv] at hsl;rw [← hsl]
    exact (dg_len n).trans (hok.dl m n h.wf hv)
   | nums n=>rw [hv] at hsl;rw [← hsl];rfl
   | pens n=>rw [hv] at hsl;rw [← hsl];rfl
  ·intro v w' hs ho hst
   obtain ⟨cv,w1,hb,hcv,hfr,hrow,hbut⟩:=hst
   have hg:g < w.heap.size:=(Array.getElem?_eq_some_iff.1 hr).1
   obtain ⟨hw',hr'⟩:=hok.wf m v h.wf h.rng hs ho
   refine ⟨⟨pP f.slot cv vP,pN f.slot cv vN,by rw [hset v cv hs (cv_form hcv)];exact hrow,?_,?_,?_,?_⟩,(fun x hx=>by rw [hbut.size];exact Nat.lt_of_lt_of_le (h.low x hx) hb.size),hw',hr',?_,?_⟩
   ·rcases hok.pend with ⟨hne,e⟩ | ⟨hsl,e⟩
    ·rw [pP_ne hne,e]
     exact (h1.kept hb).but (h3 g (by simp)) hbut
    ·rw [hsl] at hs ⊢
     obtain ⟨l,rfl⟩:=of_pens hs
     rw [e]
     exact PensAt.but hcv (fr_away hfr hg) hbut
   ·rcases hok.nums with ⟨hne,e⟩ | ⟨hsl,e⟩
    ·rw [pN_ne hne,e]
     exact (h2.kept hb).but (h4 g (by simp)) hbut
    ·rw [hsl] at hs ⊢
     obtain ⟨l,rfl⟩:=of_nums hs
     rw [e]
     exact IntsAt.but hcv (fr_away hfr hg) hbut
   ·intro x hx
    have hxl:x < w.heap.size:=by
     rcases List.mem_cons.1 hx with rfl | hx
     ·exact hg
     ·exact h.low x hx
    rcases hok.pend with ⟨hne,e⟩ | ⟨hsl,e⟩
    ·rw [pP_ne hne,e]
     exact h3 x hx
    ·rw [hsl]
     exact fr_away hfr hxl
   ·intro x hx
    have hxl:x < w.heap.size:=by
     rcases List.mem_cons.1 hx with rfl | hx
     ·exact hg
     ·exact h.low x hx
    rcases hok.nums with ⟨hne,e⟩ | ⟨hsl,e⟩
    ·rw [pN_ne hne,e]
     exact h4 x hx
    ·rw [hsl]
     exact fr_away hfr hxl
   ·rcases hok.pend with ⟨hne,e⟩ | ⟨hsl,e⟩
    ·rw [e];exact h.len.1
    ·rw [hsl] at hs
     obtain ⟨l,rfl⟩:=of_pens hs
     rw [e]
     have:l.length ≤ 8:=ho.1
     show l.length ≤ _
     omega
   ·rcases hok.nums with ⟨hne,e⟩ | ⟨hsl,e⟩
    ·rw [e];exact h.len.2
    ·rw [hsl] at hs
     obtain ⟨l,rfl⟩:=of_nums hs
     rw [e]
     have:l.length ≤ 512:=ho.1
     show l.length ≤ _
     omega
end Go.Proofs.YthkkjjlpahdagaaGreatDoor.Ms
