/-
  Which messages may be, what any bytes are, and that messages go there and back: in plain words. No program plays a part.
-/
import Derived.Test.YthkkjjlpahdagaaGreatDoorS01
import Derived.Test.YthkkjjlpahdagaaGreatDoorChecked
import Derived.DeepKeys
import Derived.Laws.StructEq
import Derived.WalkKit
import Derived.Laws.Rows
import Derived.Laws.CopyRow
import Derived.Laws.AppendOwn
import Derived.Below
import Derived.BigQuiet
import Derived.Lib.QuietBelow
import Derived.Deep.CutBlock
import Derived.Deep.CutRange
set_option maxHeartbeats 2000000
namespace Go.Proofs.YthkkjjlpahdagaaGreatDoor.Ms
open Go
set_option maxRecDepth 100000
def inB (n a b:Int):Bool:=decide (a ≤ n) && decide (n ≤ b)
def asksB (n k t:Int):Bool:=inB n 1 512 && (inB k 1 2 && inB t 0 7)
def okAt (l:List Int) (i:Nat):Bool:=inB (l.getD i 0) 0 1099511627776 && (decide (i=0) || decide (l.getD (i - 1) 0 < l.getD i 0))
def numsB (l:List Int):Bool:=(List.range l.length).all (okAt l) && inB (l.length:Int) 1 64
def penB (p:Pen):Bool:=inB p.client 0 7 && asksB p.number p.kind p.target
def viewOk (r:Rep):Bool:=!((r.view == [] && r.last != -1) || (r.view != [] && r.last == -1))
def chainB (r:Rep):Bool:=inB r.number 1 512 && (inB r.last (-1) 7 && (Hist.rightB r.view 8 && (Hist.rightB r.seen 8 && (decide (r.pend.length ≤ 8) && (inB r.vnum 0 512 && decide (r.value.length ≤ 256))))))
def repB (r:Rep):Bool:=r.pend.all penB && (viewOk r && chainB r)
def subB (x:Sub):Bool:=asksB x.number x.kind x.target && decide (x.value.length ≤ 256)
def viewB (v:List UInt8):Bool:=(v != []) && Hist.rightB v 8
def bloB (b:Blo):Bool:=inB b.owner 0 7 && (inB b.number 0 1099511627776 && decide (b.cipher.length ≤ 4096))
def partsB (m:Msg):Bool :=
 if m.kind=1 then subB m.sub else if m.kind=2 then repB m.rep else if m.kind=3 then viewB m.view else if m.kind=4 ∨ m.kind=6 then bloB m.blob else
 if m.kind=5 ∨ m.kind=7 ∨ m.kind=8 then numsB m.nums else if m.kind=9 then true else if m.kind=10 then inB m.who 0 7 && viewB m.view else if m.kind=11 then true else false
def restB (m:Msg):Bool:=sameM (emptyAll (fieldsM m.kind) m) (zeroM m.kind 0)
def mayB (m:Msg):Bool:=inB m.client 0 7 && (partsB m && restB m)
theorem fields_cases (k:Int):(k=1∧fieldsM k=subFs) ∨ (k=2∧fieldsM k=repFs) ∨ (k=3∧fieldsM k=comFs) ∨ ((k=4 ∨ k=6)∧fieldsM k=bloFs) ∨ ((k=5 ∨ k=7 ∨ k=8)∧fieldsM k=lstFs) ∨ (k=9∧fieldsM k=proFs) ∨ (k=10∧fieldsM k=verFs) ∨ (k=11∧fieldsM k=alaFs) ∨ ((k < 1 ∨ 11 < k)∧fieldsM k = []):=by
 unfold fieldsM
 by_cases h1:k=1
 ·exact .inl ⟨h1,by rw [if_pos h1]⟩
 by_cases h2:k=2
 ·exact .inr (.inl ⟨h2,by rw [if_neg h1,if_pos h2]⟩)
 by_cases h3:k=3
 ·exact .inr (.inr (.inl ⟨h3,by rw [if_neg h1,if_neg h2,if_pos h3]⟩))
 by_cases h4:k=4 ∨ k=6
 ·exact .inr (.inr (.inr (.inl ⟨h4,by rw [if_neg h1,if_neg h2,if_neg h3,if_pos h4]⟩)))
 by_cases h5:k=5 ∨ k=7 ∨ k=8
 ·exact .inr (.inr (.inr (.inr (.inl ⟨h5,by rw [if_neg h1,if_neg h2,if_neg h3,if_neg h4,if_pos h5]⟩))))
 by_cases h6:k=9
 ·exact .inr (.inr (.inr (.inr (.inr (.inl ⟨h6,by rw [if_neg h1,if_neg h2,if_neg h3,if_neg h4,if_neg h5,if_pos h6]⟩)))))
 by_cases h7:k=10
 ·exact .inr (.inr (.inr (.inr (.inr (.inr (.inl ⟨h7,by rw [if_neg h1,if_neg h2,if_neg h3,if_neg h4,if_neg h5,if_neg h6,if_pos h7]⟩))))))
 by_cases h8:k=11
 ·exact .inr (.inr (.inr (.inr (.inr (.inr (.inr (.inl ⟨h8,by rw [if_neg h1,if_neg h2,if_neg h3,if_neg h4,if_neg h5,if_neg h6,if_neg h7,if_pos h8]⟩)))))))
 ·exact .inr (.inr (.inr (.inr (.inr (.inr (.inr (.inr ⟨by omega,by rw [if_neg h1,if_neg h2,if_neg h3,if_neg h4,if_neg h5,if_neg h6,if_neg h7,if_neg h8]⟩)))))))
theorem inB_iff (n a b:Int):inB n a b=true ↔ a ≤ n∧n ≤ b:=by simp [inB]
theorem right_len (h:List UInt8) (n:Int) (hr:Hist.rightB h n=true):h.length ≤ 512:=by
 unfold Hist.rightB at hr
 simp at hr
 omega
theorem wf_pens {r:Rep} (hw:r.Wf) (hb:r.pend.all penB=true):∀ p ∈ r.pend,penOk p:=by
 intro p hp
 rw [List.all_eq_true] at hb
 have h:=hb p hp
 have w:=hw.pend p hp
 simp only [penB,asksB,Bool.and_eq_true,inB_iff] at h
 exact ⟨⟨by omega,by omega⟩,⟨by omega,by omega⟩,⟨by omega,by omega⟩,⟨by omega,by omega⟩,w.asked,w.proof⟩
theorem nums_ok {l:List Int} (h:numsB l=true):l.length ≤ 64∧∀ n ∈ l,0 ≤ n∧n ≤ 1099511627776:=by
 simp only [numsB,Bool.and_eq_true,inB_iff,List.all_eq_true] at h
 refine ⟨by omega,fun n hn=>?_⟩
 obtain ⟨i,hi,rfl⟩:=List.getElem_of_mem hn
 have:=h.1 i (List.mem_range.2 hi)
 simp only [okAt,Bool.and_eq_true,inB_iff] at this
 have e:l.getD i 0=l[i]:=by simp [List.getD,hi]
 rw [e] at this
 exact this.1
theorem may_fits {m:Msg} (hw:m.Wf) (h:mayB m=true):(1 ≤ m.kind∧m.kind ≤ 11)∧∀ g ∈ fieldsM m.kind,(g.get m).slot=g.slot∧okVal (g.get m):=by
 simp only [mayB,Bool.and_eq_true,inB_iff] at h
 obtain ⟨hc,hp,-⟩:=h
 have hC:okVal (.num m.client):=⟨by omega,by omega⟩
 rcases fields_cases m.kind with ⟨k,e⟩ | ⟨k,e⟩ | ⟨k,e⟩ | ⟨k,e⟩ | ⟨k,e⟩ | ⟨k,e⟩ | ⟨k,e⟩ | ⟨k,e⟩ | ⟨k,e⟩ <;> rw [e]
 ·refine ⟨by omega,?_⟩
  simp only [partsB,if_pos k,subB,asksB,Bool.and_eq_true,inB_iff,decide_eq_true_eq] at hp
  intro g hg
  simp only [subFs,List.mem_cons,List.not_mem_nil,or_false] at hg
  rcases hg with rfl | rfl | rfl | rfl | rfl | rfl | rfl
  ·exact ⟨rfl,hC⟩
  ·exact ⟨rfl,by show _ ≤ m.sub.number;omega,by show m.sub.number ≤ _;omega⟩
  ·exact ⟨rfl,by show _ ≤ m.sub.kind;omega,by show m.sub.kind ≤ _;omega⟩
  ·exact ⟨rfl,by show _ ≤ m.sub.target;omega,by show m.sub.target ≤ _;omega⟩
  ·exact ⟨rfl,by show m.sub.value.length ≤ _;omega⟩
  ·exact ⟨rfl,hw.sub.asked⟩
  ·exact ⟨rfl,hw.sub.data⟩
 ·refine ⟨by omega,?_⟩
  simp only [partsB,k] at hp
  simp only [show ((2:Int)=1)=False by simp,if_false,if_true,repB,chainB,Bool.and_eq_true,inB_iff,decide_eq_true_eq] at hp
  obtain ⟨h1,-,h2,h3,h4,h5,h6,h7,h8⟩:=hp
  have h4':=right_len _ _ h4
  have h5':=right_len _ _ h5
  intro g hg
  simp only [repFs,List.mem_cons,List.not_mem_nil,or_false] at hg
  rcases hg with rfl | rfl | rfl | rfl | rfl | rfl | rfl | rfl | rfl | rfl
  ·exact ⟨rfl,by show _ ≤ m.rep.number;omega,by show m.rep.number ≤ _;omega⟩
  ·exact ⟨rfl,by show _ ≤ m.rep.last;omega,by show m.rep.last ≤ _;omega⟩
  ·exact ⟨rfl,by show m.rep.view.length ≤ _;omega⟩
  ·exact ⟨rfl,hw.rep.commit⟩
  ·exact ⟨rfl,h6,wf_pens hw.rep h1⟩
  ·exact ⟨rfl,by show _ ≤ m.rep.vnum;omega,by show m.rep.vnum ≤ _;omega⟩
  ·exact ⟨rfl,by show m.rep.value.length ≤ _;omega⟩
  ·exact ⟨rfl,hw.rep.data⟩
  ·exact ⟨rfl,by show m.rep.seen.length ≤ _;omega⟩
  ·exact ⟨rfl,hw.rep.stag⟩
 ·refine ⟨by omega,?_⟩
  simp only [partsB,k] at hp
  simp only [show ((3:Int)=1)=False by simp,show ((3:Int)=2)=False by simp,if_false,if_true,viewB,Bool.and_eq_true] at hp
  have h4':=right_len _ _ hp.2
  intro g hg
  simp only [comFs,List.mem_cons,List.not_mem_nil,or_false] at hg
  rcases hg with rfl | rfl | rfl
  ·exact ⟨rfl,hC⟩
  ·exact ⟨rfl,by show m.view.length ≤ _;omega⟩
  ·exact ⟨rfl,hw.tag⟩
 ·refine ⟨by omega,?_⟩
  simp only [partsB,if_neg (by omega:¬ m.kind=1),if_neg (by omega:¬ m.kind=2),if_neg (by omega:¬ m.kind=3),if_pos k,bloB,Bool.and_eq_true,inB_iff,decide_eq_true_eq] at hp
  intro g hg
  simp only [bloFs,List.mem_cons,List.not_mem_nil,or_false] at hg
  rcases hg with rfl | rfl | rfl | rfl
  ·exact ⟨rfl,by show _ ≤ m.blob.owner;omega,by show m.blob.owner ≤ _;omega⟩
  ·exact ⟨rfl,by show _ ≤ m.blob.number;omega,by show m.blob.number ≤ _;omega⟩
  ·exact ⟨rfl,by show m.blob.cipher.length ≤ _;omega⟩
  ·exact ⟨rfl,hw.blob.tag⟩
 ·refine ⟨by omega,?_⟩
  simp only [partsB,if_neg (by omega:¬ m.kind=1),if_neg (by omega:¬ m.kind=2),if_neg (by omega:¬ m.kind=3),if_neg (by omega:¬ (m.kind=4 ∨ m.kind=6)),if_pos k] at hp
  obtain ⟨h1,h2⟩:=nums_ok hp
  intro g hg
  simp only [lstFs,List.mem_cons,List.not_mem_nil,or_false] at hg
  rcases hg with rfl | rfl
  ·exact ⟨rfl,hC⟩
  ·exact ⟨rfl,by show m.nums.length ≤ _;omega,fun n hn=>⟨by have:=h2 n hn;omega,by have:=h2 n hn;omega⟩⟩
 ·refine ⟨by omega,?_⟩
  intro g hg
  simp only [proFs,List.mem_cons,List.not_mem_nil,or_false] at hg
  subst hg
  exact ⟨rfl,hC⟩
 ·refine ⟨by omega,?_⟩
  simp only [partsB,if_neg (by omega:¬ m.kind=1),if_neg (by omega:¬ m.kind=2),if_neg (by omega:¬ m.kind=3),if_neg (by omega:¬ (m.kind=4 ∨ m.kind=6)),if_neg (by omega:¬ (m.kind=5 ∨ m.kind=7 ∨ m.kind=8)),if_neg (by omega:¬ m.kind=9),if_pos k,viewB,Bool.and_eq_true,inB_iff] at hp
  have h4':=right_len _ _ hp.2.2
  intro g hg
  simp only [verFs,List.mem_cons,List.not_mem_nil,or_false] at hg
  rcases hg with rfl | rfl | rfl | rfl | rfl
  ·exact ⟨rfl,hC⟩
  ·exact ⟨rfl,by show _ ≤ m.who;omega,by show m.who ≤ _;omega⟩
  ·exact ⟨rfl,by show m.view.length ≤ _;omega⟩
  ·exact ⟨rfl,hw.tag⟩
  ·exact ⟨rfl,hw.own⟩
 ·refine ⟨by omega,?_⟩
  intro g hg
  simp only [alaFs,List.mem_cons,List.not_mem_nil,or_false] at hg
  rcases hg with rfl | rfl
  ·exact ⟨rfl,hC⟩
  ·exact ⟨rfl,hw.own⟩
 ·simp only [partsB,if_neg (by omega:¬ m.kind=1),if_neg (by omega:¬ m.kind=2),if_neg (by omega:¬ m.kind=3),if_neg (by omega:¬ (m.kind=4 ∨ m.kind=6)),if_neg (by omega:¬ (m.kind=5 ∨ m.kind=7 ∨ m.kind=8)),if_neg (by omega:¬ m.kind=9),if_neg (by omega:¬ m.kind=10),if_neg (by omega:¬ m.kind=11)] at hp
  exact absurd hp Bool.false_ne_true
open Go
set_option maxRecDepth 100000
structure Msg.Rng (m:Msg):Prop where
 kind:I64 m.kind
 client:I64 m.client
 sn:I64 m.sub.number
 sk:I64 m.sub.kind
 st:I64 m.sub.target
 rn:I64 m.rep.number
 rl:I64 m.rep.last
 rv:I64 m.rep.vnum
 who:I64 m.who
 bo:I64 m.blob.owner
 bn:I64 m.blob.number
 ns:∀ n ∈ m.nums,I64 n
 ps:∀ p ∈ m.rep.pend,penOk p
theorem i64_zero:I64 0:=⟨by decide,by decide⟩
theorem zeroD_len:zeroD.length=32:=rfl
theorem zeroM_wf (k c:Int):(zeroM k c).Wf:=⟨⟨rfl,rfl⟩,⟨rfl,rfl,rfl,fun p hp=>by cases hp⟩,rfl,rfl,⟨rfl⟩⟩
theorem wf_of_ok {p:Pen} (h:penOk p):p.Wf:=⟨h.asked,h.proof⟩
def bareM (m:Msg):Msg :=
 if m.kind=1 then { m with sub:=zeroS } else if m.kind=2 then { m with rep:=zeroR } else if m.kind=3 then { m with view:=[],tag:=zeroD } else
 if m.kind=4 ∨ m.kind=6 then { m with blob:=zeroB } else if m.kind=5 ∨ m.kind=7 ∨ m.kind=8 then { m with nums:=[] } else
 if m.kind=10 then { m with who:=0,view:=[],tag:=zeroD,own:=zeroD } else if m.kind=11 then { m with own:=zeroD } else m
def refParts (m:Msg):Bool :=
 if m.kind=1 then subB m.sub else if m.kind=2 then (m.client == 0) && repB m.rep else if m.kind=3 then viewB m.view else if m.kind=4 ∨ m.kind=6 then (m.client == 0) && bloB m.blob else
 if m.kind=5 ∨ m.kind=7 ∨ m.kind=8 then numsB m.nums else if m.kind=10 then inB m.who 0 7 && viewB m.view else true
def rightM (m:Msg):Bool:=inB m.kind 1 11 && (inB m.client 0 7 && (sameM (bareM m) (zeroM m.kind m.client) && refParts m))
theorem may_right (m:Msg):mayB m=rightM m:=by
 rw [Bool.eq_iff_iff]
 unfold mayB rightM restB
 simp only [Bool.and_eq_true,sameM_iff,inB_iff]
 obtain ⟨k,c,⟨s1,s2,s3,s4,s5,s6⟩,⟨r1,r2,r3,r4,r5,r6,r7,r8,r9,r10⟩,vw,wh,tg,ow,⟨b1,b2,b3,b4⟩,ns⟩:=m
 simp only
 rcases fields_cases k with ⟨hk,e⟩ | ⟨hk,e⟩ | ⟨hk,e⟩ | ⟨hk,e⟩ | ⟨hk,e⟩ | ⟨hk,e⟩ | ⟨hk,e⟩ | ⟨hk,e⟩ | ⟨hk,e⟩ <;> rw [e]
 ·subst hk
  simp only [partsB,refParts,bareM,if_true,subFs,emptyAll,fClient,fSNumber,fSKind,fSTarget,fSValue,fSAsked,fSData,Slot.zero,Val.n,Val.s,Val.d,zeroM,zeroS,Msg.mk.injEq]
  constructor <;> (intro h;simp_all)
 ·subst hk
  simp only [partsB,refParts,bareM,show ((2:Int)=1)=False by simp,if_false,if_true,repFs,emptyAll,fRNumber,fRLast,fRView,fRCommit,fRPend,fRVnum,fRValue,fRData,fRSeen,fRTag,Slot.zero,Val.n,Val.s,Val.d,Val.p,zeroM,zeroR,Msg.mk.injEq,Bool.and_eq_true,beq_iff_eq]
  constructor <;> (intro h;simp_all)
 ·subst hk
  simp only [partsB,refParts,bareM,show ((3:Int)=1)=False by simp,show ((3:Int)=2)=False by simp,if_false,if_true,comFs,emptyAll,fClient,fView,fTag,Slot.zero,Val.n,Val.s,Val.d,zeroM,Msg.mk.injEq]
  constructor <;> (intro h;simp_all)
 ·simp only [partsB,refParts,bareM,if_neg (by omega:¬ k=1),if_neg (by omega:¬ k=2),if_neg (by omega:¬ k=3),if_pos hk,bloFs,emptyAll,fBOwner,fBNumber,fBCipher,fBTag,Slot.zero,Val.n,Val.s,Val.d,zeroM,zeroB,Msg.mk.injEq,Bool.and_eq_true,beq_iff_eq]
  have hk':1 ≤ k∧k ≤ 11:=by omega
  constructor <;> (intro h;simp_all)
 ·simp only [partsB,refParts,bareM,if_neg (by omega:¬ k=1),if_neg (by omega:¬ k=2),if_neg (by omega:¬ k=3),if_neg (by omega:¬ (k=4 ∨ k=6)),if_pos hk,lstFs,emptyAll,fClient,fNums,Slot.zero,Val.n,Val.l,zeroM,Msg.mk.injEq]
  have hk':1 ≤ k∧k ≤ 11:=by omega
  constructor <;> (intro h;simp_all)
 ·subst hk
  simp only [partsB,refParts,bareM,show ((9:Int)=1)=False by simp,show ((9:Int)=2)=False by simp,show ((9:Int)=3)=False by simp,show ((9:Int)=4 ∨ (9:Int)=6)=False by simp,show ((9:Int)=5 ∨ (9:Int)=7 ∨ (9:Int)=8)=False by simp,show ((9:Int)=10)=False by simp,show ((9:Int)=11)=False by simp,if_false,if_true,proFs,emptyAll,fClient,Slot.zero,Val.n,zeroM,Msg.mk.injEq]
  constructor <;> (intro h;simp_all)
 ·subst hk
  simp only [partsB,refParts,bareM,show ((10:Int)=1)=False by simp,show ((10:Int)=2)=False by simp,show ((10:Int)=3)=False by simp,show ((10:Int)=4 ∨ (10:Int)=6)=False by simp,show ((10:Int)=5 ∨ (10:Int)=7 ∨ (10:Int)=8)=False by simp,show ((10:Int)=9)=False by simp,if_false,if_true,verFs,emptyAll,fClient,fBy,fView,fTag,fOwn,Slot.zero,Val.n,Val.s,Val.d,zeroM,Msg.mk.injEq]
  constructor <;> (intro h;simp_all)
 ·subst hk
  simp only [partsB,refParts,bareM,show ((11:Int)=1)=False by simp,show ((11:Int)=2)=False by simp,show ((11:Int)=3)=False by simp,show ((11:Int)=4 ∨ (11:Int)=6)=False by simp,show ((11:Int)=5 ∨ (11:Int)=7 ∨ (11:Int)=8)=False by simp,show ((11:Int)=9)=False by simp,show ((11:Int)=10)=False by simp,if_false,if_true,alaFs,emptyAll,fClient,fOwn,Slot.zero,Val.n,Val.d,zeroM,Msg.mk.injEq]
  constructor <;> (intro h;simp_all)
 ·simp only [partsB,if_neg (by omega:¬ k=1),if_neg (by omega:¬ k=2),if_neg (by omega:¬ k=3),if_neg (by omega:¬ (k=4 ∨ k=6)),if_neg (by omega:¬ (k=5 ∨ k=7 ∨ k=8)),if_neg (by omega:¬ k=9),if_neg (by omega:¬ k=10),if_neg (by omega:¬ k=11)]
  constructor
  ·rintro ⟨-,h,-⟩
   exact absurd h Bool.false_ne_true
  ·rintro ⟨h,-⟩
   omega
open Go
set_option maxRecDepth 100000
structure Reg where
 asked:Sub
 ans:Rep
 view:List UInt8
 tag:List UInt8
def zeroG:Reg:=⟨zeroS,zeroR,[],zeroD⟩
structure Rs where
 n:Nat
 regs:List Reg
 long:List UInt8
 ltag:List UInt8
 who:Int
 pend:List Pen
def newR (n:Nat):Rs:=⟨n,List.replicate 8 zeroG,[],zeroD,-1,[]⟩
def hasB (n:Nat) (c:Int):Bool:=decide (0 ≤ c) && decide (c < (n:Int))
def Rs.reg (R:Rs) (c:Int):Reg:=R.regs.getD c.toNat zeroG
def subM (c:Int) (x:Sub):Msg:={ zeroM 1 c with sub:=x }
def by8 (c:Int):UInt8:=UInt8.ofNat c.toNat
def subOk (R:Rs) (c:Int) (x:Sub):Bool:=hasB R.n c && (hasB R.n x.target && mayB (subM c x))
def provenL (R:Rs):List Pen:=R.pend.map fun p=>{ p with proof:=(R.reg p.client).tag }
def ansR (R:Rs) (x:Sub):Rep :=
 if x.kind=2 then ⟨x.number,R.who,R.long,R.ltag,provenL R,(R.reg x.target).asked.number,(R.reg x.target).asked.value,(R.reg x.target).asked.data,(R.reg x.target).view,(R.reg x.target).tag⟩
 else ⟨x.number,R.who,R.long,R.ltag,provenL R,0,[],zeroD,[],zeroD⟩
def fullB (R:Rs):Bool:=decide (512 ≤ R.long.length + R.pend.length) || decide (8 ≤ R.pend.length)
def penOf (c:Int) (x:Sub):Pen:=⟨c,x.number,x.kind,x.target,x.asked,zeroD⟩
def subE (R:Rs) (c:Int) (x:Sub):Int :=
 if subOk R c x=false then 2 else if x.number=(R.reg c).asked.number then (if sameS x (R.reg c).asked=true then 0 else 10)
 else if x.number ≠ (R.reg c).asked.number + 1 then 3 else if fullB R=true then 11 else 0
def subY (R:Rs) (c:Int) (x:Sub):Rep:=if subE R c x ≠ 0 then zeroR else if x.number=(R.reg c).asked.number then (R.reg c).ans else ansR R x
def subN (R:Rs) (c:Int) (x:Sub):Rs:={ R with regs:=R.regs.set c.toNat { R.reg c with asked:=x,ans:=ansR R x },pend:=R.pend++[penOf c x] }
def subR (R:Rs) (c:Int) (x:Sub):Rs:=if subE R c x ≠ 0 then R else if x.number=(R.reg c).asked.number then R else subN R c x
structure GOk (g:Reg):Prop where
 asked:g.asked.Wf
 ans:g.ans.Wf
 tag:g.tag.length=32
 num:0 ≤ g.asked.number∧g.asked.number ≤ 512
 value:g.asked.value.length ≤ 256
 view:g.view.length ≤ 512
 apend:g.ans.pend.length ≤ 8
 aview:g.ans.view.length ≤ 512
 acl:∀ p ∈ g.ans.pend,0 ≤ p.client∧p.client < 8
structure PdOk (n:Nat) (p:Pen):Prop where
 wf:p.Wf
 cl:0 ≤ p.client∧p.client < (n:Int)
 num:1 ≤ p.number∧p.number ≤ 512
structure RInv (R:Rs):Prop where
 n:2 ≤ R.n∧R.n ≤ 8
 len:R.regs.length=8
 regs:∀ g ∈ R.regs,GOk g
 long:R.long.length ≤ 512
 ltag:R.ltag.length=32
 who:-1 ≤ R.who∧R.who < 8
 plen:R.pend.length ≤ 8
 pend:∀ p ∈ R.pend,PdOk R.n p
theorem zeroG_ok:GOk zeroG:=⟨⟨rfl,rfl⟩,⟨rfl,rfl,rfl,fun p hp=>by cases hp⟩,rfl,⟨by decide,by decide⟩,by decide,by decide,by decide,by decide,fun p hp=>by cases hp⟩
theorem hasB_iff (n:Nat) (c:Int):hasB n c=true ↔ 0 ≤ c∧c < (n:Int):=by simp [hasB]
theorem RInv.reg {R:Rs} (h:RInv R) (c:Int):GOk (R.reg c):=by
 unfold Rs.reg
 by_cases hc:c.toNat < R.regs.length
 ·rw [List.getD_eq_getElem?_getD,List.getElem?_eq_getElem hc]
  exact h.regs _ (List.getElem_mem hc)
 ·rw [List.getD_eq_getElem?_getD,List.getElem?_eq_none (by omega)]
  exact zeroG_ok
theorem RInv.new (n:Nat) (h:2 ≤ n∧n ≤ 8):RInv (newR n) :=
 ⟨h,rfl,fun g hg=>by rw [List.eq_of_mem_replicate hg];exact zeroG_ok,by simp [newR],rfl,⟨by simp [newR],by simp [newR]⟩,by simp [newR],fun p hp=>by cases hp⟩
theorem mem_set_cases {α:Type} {l:List α} {i:Nat} {a x:α} (h:x ∈ l.set i a):x ∈ l ∨ x=a:=List.mem_or_eq_of_mem_set h
theorem provenL_len (R:Rs):(provenL R).length=R.pend.length:=by simp [provenL]
theorem provenL_wf {R:Rs} (h:RInv R):∀ p ∈ provenL R,p.Wf:=by
 intro p hp
 simp only [provenL,List.mem_map] at hp
 obtain ⟨q,hq,rfl⟩:=hp
 exact ⟨(h.pend q hq).wf.asked,(h.reg q.client).tag⟩
theorem ansR_wf {R:Rs} (h:RInv R) (x:Sub):(ansR R x).Wf:=by
 unfold ansR
 split
 ·exact ⟨h.ltag,(h.reg x.target).asked.data,(h.reg x.target).tag,provenL_wf h⟩
 ·exact ⟨h.ltag,rfl,rfl,provenL_wf h⟩
theorem ansR_pend (R:Rs) (x:Sub):(ansR R x).pend=provenL R:=by unfold ansR;split <;> rfl
theorem ansR_view (R:Rs) (x:Sub):(ansR R x).view=R.long:=by unfold ansR;split <;> rfl
theorem sub_may (c:Int) (x:Sub):mayB (subM c x)=(inB c 0 7 && subB x):=by
 rw [Bool.eq_iff_iff]
 have hr:restB (subM c x)=true:=by
  unfold restB
  rw [sameM_iff]
  rcases fields_cases (1:Int) with ⟨_,e⟩ | ⟨h,_⟩ | ⟨h,_⟩ | ⟨h,_⟩ | ⟨h,_⟩ | ⟨h,_⟩ | ⟨h,_⟩ | ⟨h,_⟩ | ⟨h,_⟩
  ·show emptyAll (fieldsM 1) (subM c x)=zeroM 1 0
   rw [e]
   obtain ⟨s1,s2,s3,s4,s5,s6⟩:=x
   simp [subM,subFs,emptyAll,fClient,fSNumber,fSKind,fSTarget,fSValue,fSAsked,fSData,Slot.zero,Val.n,Val.s,Val.d,zeroM,zeroS]
  all_goals omega
 unfold mayB
 rw [hr]
 simp [partsB,subM,zeroM]
theorem subOk_parts {R:Rs} {c:Int} {x:Sub} (h:subOk R c x=true):(0 ≤ c∧c < (R.n:Int))∧(0 ≤ x.target∧x.target < (R.n:Int))∧(1 ≤ x.number∧x.number ≤ 512)∧(1 ≤ x.kind∧x.kind ≤ 2)∧x.value.length ≤ 256:=by
 unfold subOk at h
 rw [sub_may] at h
 simp only [Bool.and_eq_true,hasB_iff,inB_iff,subB,asksB,decide_eq_true_eq] at h
 omega
theorem RInv.subN {R:Rs} (h:RInv R) {c:Int} {x:Sub} (hx:x.Wf) (hok:subOk R c x=true) (hf:fullB R=false):RInv (subN R c x):=by
 obtain ⟨h1,h2,h3,h4,h5⟩:=subOk_parts hok
 have hn:=h.n
 simp only [fullB,Bool.or_eq_false_iff,decide_eq_false_iff_not] at hf
 refine ⟨h.n,by simpa [Ms.subN] using h.len,fun g hg=>?_,h.long,h.ltag,h.who,?_,fun p hp=>?_⟩
 ·rcases mem_set_cases hg with hg | rfl
  ·exact h.regs g hg
  ·have hg:=h.reg c
   refine ⟨hx,ansR_wf h x,hg.tag,⟨by simp only;omega,h3.2⟩,h5,hg.view,?_,?_,?_⟩
   ·simp only [ansR_pend,provenL_len]
    exact h.plen
   ·simp only [ansR_view]
    exact h.long
   ·simp only [ansR_pend]
    intro p hp
    simp only [provenL,List.mem_map] at hp
    obtain ⟨q,hq,rfl⟩:=hp
    have:=(h.pend q hq).cl
    exact ⟨this.1,by simp only;omega⟩
 ·simp only [Ms.subN,List.length_append,List.length_cons,List.length_nil]
  omega
 ·simp only [Ms.subN,List.mem_append,List.mem_cons,List.not_mem_nil,or_false] at hp
  rcases hp with hp | rfl
  ·exact h.pend p hp
  ·exact ⟨⟨hx.asked,rfl⟩,h1,h3⟩
theorem reg_nat (R:Rs) (j:Nat):R.reg (j:Int)=R.regs.getD j zeroG:=rfl
theorem by8_val (c:Int) (h:0 ≤ c∧c < 256):bv (by8 c)=c:=by
 unfold bv by8
 rw [UInt8.toNat_ofNat']
 omega
open Go Go.RowKit
set_option maxRecDepth 100000
theorem bv_eq (a b:UInt8):(bv a == bv b)=decide (a=b):=by
 unfold bv
 by_cases h:a=b
 ·subst h;simp
 ·have:¬ a.toNat=b.toNat:=fun e=>h (UInt8.toNat_inj.1 e)
  simp [h];omega
theorem cb_at (b:List UInt8) (i:Nat) (hi:i < b.length):(dg b)[i]? = some (.int .u8 (bv (b.getD i 0))):=by
 simp [dg,List.getD,cb,List.getElem?_eq_getElem hi]
theorem eqItems_bytes {P:Program} (w:World) (e:TypeId) (k:IntKind) (he:P.underlying e=some (.int k)) (x y:List UInt8) (d:Nat):∀ is:List Nat,(∀ i ∈ is,i < x.length∧i < y.length) →
  (Op.eqItems (d + 1) e 1 (dg x).toArray (dg y).toArray is).run P w = .ok (decide (∀ i ∈ is,x.getD i 0=y.getD i 0)) w
 | [],_=>by simp [Op.eqItems]
 | i :: is,h=>by
  have hx:((dg x).toArray)[i * 1]? = some (.int .u8 (bv (x.getD i 0))):=by
   rw [Nat.mul_one,List.getElem?_toArray];exact cb_at x i (h i (by simp)).1
  have hy:((dg y).toArray)[i * 1]? = some (.int .u8 (bv (y.getD i 0))):=by
   rw [Nat.mul_one,List.getElem?_toArray];exact cb_at y i (h i (by simp)).2
  have hagg:(isAgg e).run P w = .ok false w:=by
   unfold isAgg
   rw [Sem.run_bind,run_underlying he w]
   simp
  have px:(part e (dg x).toArray (i * 1)).run P w = .ok (.int .u8 (bv (x.getD i 0))) w:=by
   unfold part
   rw [Sem.run_bind,hagg]
   simp only [Result.andThen_ok,Bool.false_eq_true,if_false,hx,Sem.run_pure]
  have py:(part e (dg y).toArray (i * 1)).run P w = .ok (.int .u8 (bv (y.getD i 0))) w:=by
   unfold part
   rw [Sem.run_bind,hagg]
   simp only [Result.andThen_ok,Bool.false_eq_true,if_false,hy,Sem.run_pure]
  have pe:(Op.equalIn (d + 1) e (.int .u8 (bv (x.getD i 0))) (.int .u8 (bv (y.getD i 0)))).run P w = .ok (decide (x.getD i 0=y.getD i 0)) w:=by
   unfold Op.equalIn
   rw [Sem.run_bind,run_underlying he w]
   simp only [Result.andThen_ok,if_true,Sem.run_pure,bv_eq]
  have ih:=eqItems_bytes w e k he x y d is (fun j hj=>h j (by simp [hj]))
  unfold Op.eqItems
  simp only [Sem.run_bind,px,py,pe,Result.andThen_ok]
  by_cases hh:x.getD i 0=y.getD i 0
  ·simp only [hh,decide_true,Bool.not_true,Bool.false_eq_true,if_false,ih,List.forall_mem_cons,true_and]
  ·simp only [hh,decide_false,Bool.not_false,if_true,List.forall_mem_cons,false_and,Sem.run_pure]
theorem same_all (x y:List UInt8) (n:Nat) (hx:x.length=n) (hy:y.length=n):(∀ i ∈ List.range n,x.getD i 0=y.getD i 0) ↔ x=y:=by
 constructor
 ·intro h
  apply List.ext_getElem (by omega)
  intro i h1 h2
  have:=h i (by simp;omega)
  simpa [List.getD,List.getElem?_eq_getElem h1,List.getElem?_eq_getElem h2] using this
 ·rintro rfl i _;rfl
theorem equalIn_dig (w:World) (d:Nat) (x y:List UInt8) (hx:x.length=32) (hy:y.length=32) :
  (Op.equalIn (d + 2) 23 (.agg (dg x).toArray) (.agg (dg y).toArray)).run Tryz.prog w = .ok (x == y) w:=by
 have hs:(Tryz.prog.info? 5).map (·.size)=some 1:=by kernel_rfl
 cases hq:Tryz.prog.info? 5 with
 | none=>simp [hq] at hs
 | some i =>
  have hi:i.size=1:=by simpa [hq] using hs
  have hc:Tryz.prog.cellsOf 5=1:=by simp [Program.cellsOf,hq,hi]
  rw [run_equalIn_array w (d + 1) _ _ Tryz.underlying23 hq,hc,eqItems_bytes w 5 _ Tryz.underlying5 x y d _ (by intro j hj;simp at hj;omega)]
  simp only [same_all x y 32 hx hy]
  by_cases e:x=y <;> simp [e]
theorem part_cell {P:Program} (w:World) (t:TypeId) (d:TypeDesc) (cs:Array Value) (off:Nat) (v:Value) (hu:P.underlying t=some d) (hd:(match d with | .struct _ | .array _ _=>true | _=>false)=false) (hv:cs[off]? = some v) :
  (part t cs off).run P w = .ok v w:=by
 have hagg:(isAgg t).run P w = .ok false w:=by
  unfold isAgg
  rw [Sem.run_bind,run_underlying hu w]
  cases d <;> simp_all
 unfold part
 rw [Sem.run_bind,hagg]
 simp only [Result.andThen_ok,Bool.false_eq_true,if_false,hv,Sem.run_pure]
theorem part_seg {P:Program} (w:World) (t:TypeId) (d:TypeDesc) (A cs C:List Value) (off:Nat) (hA:A.length=off) (hu:P.underlying t=some d) (hd:(match d with | .struct _ | .array _ _=>true | _=>false)=true) (hs:(P.info? t).map (·.size)=some cs.length) :
  (part t (A++(cs++C)).toArray off).run P w = .ok (.agg cs.toArray) w:=by
 have hagg:(isAgg t).run P w = .ok true w:=by
  unfold isAgg
  rw [Sem.run_bind,run_underlying hu w]
  cases d <;> simp_all
 cases hq:P.info? t with
 | none=>simp [hq] at hs
 | some i =>
  have hi:i.size=cs.length:=by simpa [hq] using hs
  unfold part
  rw [Sem.run_bind,hagg]
  simp only [Result.andThen_ok,if_true,Sem.run_bind,sizeOf,typeInfo]
  simp [hq,hi]
  subst hA
  simp
def EachEq (P:Program) (w:World) (d:Nat) (xs ys:Array Value):List Field→List Bool→Prop
 | [],[]=>True
 | f :: fs,b :: bs=>(f.name ≠ "_"∧∃ a c,(part f.type xs f.offset).run P w = .ok a w∧(part f.type ys f.offset).run P w = .ok c w∧(Op.equalIn d f.type a c).run P w = .ok b w)∧EachEq P w d xs ys fs bs
 | _,_=>False
theorem eqFields_run {P:Program} (w:World) (d:Nat) (xs ys:Array Value):∀ (fs:List Field) (bs:List Bool),EachEq P w d xs ys fs bs→(Op.eqFields d xs ys fs).run P w = .ok (bs.all id) w
 | [],[],_=>by simp [Op.eqFields]
 | [],_ :: _,h=>h.elim
 | _ :: _,[],h=>h.elim
 | f :: fs,b :: bs,⟨⟨hn,a,c,h1,h2,h3⟩,ht⟩=>by
  have ih:=eqFields_run w d xs ys fs bs ht
  unfold Op.eqFields
  rw [if_pos hn]
  simp only [Sem.run_bind,h1,h2,h3,Result.andThen_ok]
  cases b
  ·simp
  ·simp [ih]
theorem sizeDig:(Tryz.prog.info? 23).map (·.size)=some 32:=by kernel_rfl
theorem part_int (w:World) (cs:List Value) (off:Nat) (n:Int) (h:cs[off]? = some (nu n)):(part 3 cs.toArray off).run Tryz.prog w = .ok (nu n) w:=part_cell w 3 _ _ off _ Tryz.underlying3 rfl (by simpa using h)
theorem part_str (w:World) (cs:List Value) (off:Nat) (s:List UInt8) (h:cs[off]? = some (st s)):(part 9 cs.toArray off).run Tryz.prog w = .ok (st s) w:=part_cell w 9 _ _ off _ Tryz.underlying9 rfl (by simpa using h)
theorem part_dig (w:World) (L A C:List Value) (x:List UInt8) (off:Nat) (hx:x.length=32) (hL:L=A++(dg x++C)) (hA:A.length=off):(part 23 L.toArray off).run Tryz.prog w = .ok (.agg (dg x).toArray) w:=by
 subst hL
 exact part_seg w _ _ A (dg x) C off hA Tryz.underlying23 rfl (by rw [dg_len,hx];exact sizeDig)
theorem equalIn_int (w:World) (d:Nat) (a b:Int):(Op.equalIn (d + 1) 3 (nu a) (nu b)).run Tryz.prog w = .ok (a == b) w:=run_equalIn_int w d 3 _ _ a b Tryz.underlying3
theorem equalIn_str (w:World) (d:Nat) (a b:List UInt8):(Op.equalIn (d + 1) 9 (st a) (st b)).run Tryz.prog w = .ok (a == b) w:=by
 unfold st
 rw [run_equalIn_string w d 9 _ _ Tryz.underlying9,ByteArray.toList_eq,ByteArray.toList_eq]
theorem equal_sub (w:World) (a b:Sub) (ha:a.Wf) (hb:b.Wf):(Op.equalIn 10000 39 (.agg (subC a).toArray) (.agg (subC b).toArray)).run Tryz.prog w = .ok (sameS a b) w:=by
 rw [show (10000:Nat)=9997 + 2 + 1 from rfl,run_equalIn_struct w (9997 + 2) 39 _ _ (by kernel_rfl) (by kernel_rfl)]
 rw [eqFields_run w (9997 + 2) _ _ _ [a.number == b.number,a.kind == b.kind,a.target == b.target,a.value == b.value,a.asked == b.asked,a.data == b.data] ?_]
 ·simp [sameS]
 ·simp only [Program.fieldsOf,Tryz.underlying39]
  refine ⟨⟨by decide,_,_,part_int w _ 0 a.number rfl,part_int w _ 0 b.number rfl,equalIn_int w _ _ _⟩,⟨by decide,_,_,part_int w _ 1 a.kind rfl,part_int w _ 1 b.kind rfl,equalIn_int w _ _ _⟩,⟨by decide,_,_,part_int w _ 2 a.target rfl,part_int w _ 2 b.target rfl,equalIn_int w _ _ _⟩,
   ⟨by decide,_,_,part_str w _ 3 a.value rfl,part_str w _ 3 b.value rfl,equalIn_str w _ _ _⟩,⟨by decide,_,_,part_dig w _ _ (dg a.data) a.asked 4 ha.asked rfl rfl,part_dig w _ _ (dg b.data) b.asked 4 hb.asked rfl rfl,equalIn_dig w _ _ _ ha.asked hb.asked⟩,
   ⟨by decide,_,_,part_dig w _ ([nu a.number,nu a.kind,nu a.target,st a.value]++dg a.asked) [] a.data 36 ha.data (by simp [subC]) (by simp [dg_len,ha.asked]),part_dig w _ ([nu b.number,nu b.kind,nu b.target,st b.value]++dg b.asked) [] b.data 36 hb.data (by simp [subC]) (by simp [dg_len,hb.asked]),equalIn_dig w _ _ _ ha.data hb.data⟩,trivial⟩
theorem equal_pen (w:World) (a b:Pen) (ha:a.Wf) (hb:b.Wf):(Op.equalIn 10000 25 (.agg (penC a).toArray) (.agg (penC b).toArray)).run Tryz.prog w = .ok (sameP a b) w:=by
 rw [show (10000:Nat)=9997 + 2 + 1 from rfl,run_equalIn_struct w (9997 + 2) 25 _ _ (by kernel_rfl) (by kernel_rfl)]
 rw [eqFields_run w (9997 + 2) _ _ _ [a.client == b.client,a.number == b.number,a.kind == b.kind,a.target == b.target,a.asked == b.asked,a.proof == b.proof] ?_]
 ·simp [sameP]
 ·simp only [Program.fieldsOf,Tryz.underlying25]
  refine ⟨⟨by decide,_,_,part_int w _ 0 a.client rfl,part_int w _ 0 b.client rfl,equalIn_int w _ _ _⟩,⟨by decide,_,_,part_int w _ 1 a.number rfl,part_int w _ 1 b.number rfl,equalIn_int w _ _ _⟩,⟨by decide,_,_,part_int w _ 2 a.kind rfl,part_int w _ 2 b.kind rfl,equalIn_int w _ _ _⟩,
   ⟨by decide,_,_,part_int w _ 3 a.target rfl,part_int w _ 3 b.target rfl,equalIn_int w _ _ _⟩,⟨by decide,_,_,part_dig w _ _ (dg a.proof) a.asked 4 ha.asked rfl rfl,part_dig w _ _ (dg b.proof) b.asked 4 hb.asked rfl rfl,equalIn_dig w _ _ _ ha.asked hb.asked⟩,
   ⟨by decide,_,_,part_dig w _ ([nu a.client,nu a.number,nu a.kind,nu a.target]++dg a.asked) [] a.proof 36 ha.proof (by simp [penC]) (by simp [dg_len,ha.asked]),part_dig w _ ([nu b.client,nu b.number,nu b.kind,nu b.target]++dg b.asked) [] b.proof 36 hb.proof (by simp [penC]) (by simp [dg_len,hb.asked]),equalIn_dig w _ _ _ ha.proof hb.proof⟩,trivial⟩
theorem equal_blo (w:World) (a b:Blo) (ha:a.Wf) (hb:b.Wf):(Op.equalIn 10000 100 (.agg (bloC a).toArray) (.agg (bloC b).toArray)).run Tryz.prog w = .ok (sameB a b) w:=by
 rw [show (10000:Nat)=9997 + 2 + 1 from rfl,run_equalIn_struct w (9997 + 2) 100 _ _ (by kernel_rfl) (by kernel_rfl)]
 rw [eqFields_run w (9997 + 2) _ _ _ [a.owner == b.owner,a.number == b.number,a.cipher == b.cipher,a.tag == b.tag] ?_]
 ·simp [sameB]
 ·simp only [Program.fieldsOf,Tryz.underlying100]
  refine ⟨⟨by decide,_,_,part_int w _ 0 a.owner rfl,part_int w _ 0 b.owner rfl,equalIn_int w _ _ _⟩,⟨by decide,_,_,part_int w _ 1 a.number rfl,part_int w _ 1 b.number rfl,equalIn_int w _ _ _⟩,
   ⟨by decide,_,_,part_str w _ 2 a.cipher rfl,part_str w _ 2 b.cipher rfl,equalIn_str w _ _ _⟩,⟨by decide,_,_,part_dig w _ [nu a.owner,nu a.number,st a.cipher] [] a.tag 3 ha.tag (by simp [bloC]) rfl,part_dig w _ [nu b.owner,nu b.number,st b.cipher] [] b.tag 3 hb.tag (by simp [bloC]) rfl,equalIn_dig w _ _ _ ha.tag hb.tag⟩,trivial⟩
theorem equal_dig (w:World) (a b:List UInt8) (ha:a.length=32) (hb:b.length=32):(Op.equalIn 10000 23 (.agg (dg a).toArray) (.agg (dg b).toArray)).run Tryz.prog w = .ok (a == b) w:=equalIn_dig w 9998 a b ha hb
open Go Go.RowKit
set_option maxRecDepth 100000
theorem row_seg {w:World} {g:Nat} {L A cs C:List Value} {t:TypeId} {off:Nat} (h:w.heap[g]? = some (.cells L.toArray t)) (hL:L=A++(cs++C)) (hA:A.length=off):∀ j v,cs[j]? = some v→w.cell? ⟨g,off + j,none⟩=some v:=by
 intro j v hj
 rw [cell_of_row _ _ _ _ _ _ h,List.getElem?_toArray,hL]
 exact mid_at A cs C off j v hA hj
theorem row_cell {w:World} {g:Nat} {L A C:List Value} {v:Value} {t:TypeId} {off:Nat} (h:w.heap[g]? = some (.cells L.toArray t)) (hL:L=A++([v]++C)) (hA:A.length=off):w.cell? ⟨g,off,none⟩=some v:=row_seg h hL hA 0 v rfl
theorem mrow_kind {w:World} {g:Nat} {m:Msg} {vP vN:Value} (h:w.heap[g]? = some (.cells (msgC m vP vN).toArray 102)) (_:m.Wf):w.cell? ⟨g,0,none⟩=some (nu m.kind):=row_cell (A:=[]) (C:=[nu m.client]++([nu m.sub.number]++([nu m.sub.kind]++([nu m.sub.target]++([st m.sub.value]++(dg m.sub.asked++(dg m.sub.data++([nu m.rep.number]++([nu m.rep.last]++([st m.rep.view]++(dg m.rep.commit++([vP]++([nu m.rep.vnum]++([st m.rep.value]++(dg m.rep.data++([st m.rep.seen]++(dg m.rep.stag++([st m.view]++([nu m.who]++(dg m.tag++(dg m.own++([nu m.blob.owner]++([nu m.blob.number]++([st m.blob.cipher]++(dg m.blob.tag++([vN])))))))))))))))))))))))))) h (by simp [msgC,subC,repC,bloC]) rfl
theorem mrow_client {w:World} {g:Nat} {m:Msg} {vP vN:Value} (h:w.heap[g]? = some (.cells (msgC m vP vN).toArray 102)) (_:m.Wf):w.cell? ⟨g,1,none⟩=some (nu m.client):=row_cell (A:=[nu m.kind]) (C:=[nu m.sub.number]++([nu m.sub.kind]++([nu m.sub.target]++([st m.sub.value]++(dg m.sub.asked++(dg m.sub.data++([nu m.rep.number]++([nu m.rep.last]++([st m.rep.view]++(dg m.rep.commit++([vP]++([nu m.rep.vnum]++([st m.rep.value]++(dg m.rep.data++([st m.rep.seen]++(dg m.rep.stag++([st m.view]++([nu m.who]++(dg m.tag++(dg m.own++([nu m.blob.owner]++([nu m.blob.number]++([st m.blob.cipher]++(dg m.blob.tag++([vN]))))))))))))))))))))))))) h (by simp [msgC,subC,repC,bloC]) rfl
theorem mrow_sub_number {w:World} {g:Nat} {m:Msg} {vP vN:Value} (h:w.heap[g]? = some (.cells (msgC m vP vN).toArray 102)) (_:m.Wf):w.cell? ⟨g,2,none⟩=some (nu m.sub.number):=row_cell (A:=[nu m.kind]++([nu m.client])) (C:=[nu m.sub.kind]++([nu m.sub.target]++([st m.sub.value]++(dg m.sub.asked++(dg m.sub.data++([nu m.rep.number]++([nu m.rep.last]++([st m.rep.view]++(dg m.rep.commit++([vP]++([nu m.rep.vnum]++([st m.rep.value]++(dg m.rep.data++([st m.rep.seen]++(dg m.rep.stag++([st m.view]++([nu m.who]++(dg m.tag++(dg m.own++([nu m.blob.owner]++([nu m.blob.number]++([st m.blob.cipher]++(dg m.blob.tag++([vN])))))))))))))))))))))))) h (by simp [msgC,subC,repC,bloC]) rfl
theorem mrow_sub_kind {w:World} {g:Nat} {m:Msg} {vP vN:Value} (h:w.heap[g]? = some (.cells (msgC m vP vN).toArray 102)) (_:m.Wf):w.cell? ⟨g,3,none⟩=some (nu m.sub.kind):=row_cell (A:=[nu m.kind]++([nu m.client]++([nu m.sub.number]))) (C:=[nu m.sub.target]++([st m.sub.value]++(dg m.sub.asked++(dg m.sub.data++([nu m.rep.number]++([nu m.rep.last]++([st m.rep.view]++(dg m.rep.commit++([vP]++([nu m.rep.vnum]++([st m.rep.value]++(dg m.rep.data++([st m.rep.seen]++(dg m.rep.stag++([st m.view]++([nu m.who]++(dg m.tag++(dg m.own++([nu m.blob.owner]++([nu m.blob.number]++([st m.blob.cipher]++(dg m.blob.tag++([vN]))))))))))))))))))))))) h (by simp [msgC,subC,repC,bloC]) rfl
theorem mrow_sub_target {w:World} {g:Nat} {m:Msg} {vP vN:Value} (h:w.heap[g]? = some (.cells (msgC m vP vN).toArray 102)) (_:m.Wf):w.cell? ⟨g,4,none⟩=some (nu m.sub.target):=row_cell (A:=[nu m.kind]++([nu m.client]++([nu m.sub.number]++([nu m.sub.kind])))) (C:=[st m.sub.value]++(dg m.sub.asked++(dg m.sub.data++([nu m.rep.number]++([nu m.rep.last]++([st m.rep.view]++(dg m.rep.commit++([vP]++([nu m.rep.vnum]++([st m.rep.value]++(dg m.rep.data++([st m.rep.seen]++(dg m.rep.stag++([st m.view]++([nu m.who]++(dg m.tag++(dg m.own++([nu m.blob.owner]++([nu m.blob.number]++([st m.blob.cipher]++(dg m.blob.tag++([vN])))))))))))))))))))))) h (by simp [msgC,subC,repC,bloC]) rfl
theorem mrow_sub_value {w:World} {g:Nat} {m:Msg} {vP vN:Value} (h:w.heap[g]? = some (.cells (msgC m vP vN).toArray 102)) (_:m.Wf):w.cell? ⟨g,5,none⟩=some (st m.sub.value):=row_cell (A:=[nu m.kind]++([nu m.client]++([nu m.sub.number]++([nu m.sub.kind]++([nu m.sub.target]))))) (C:=dg m.sub.asked++(dg m.sub.data++([nu m.rep.number]++([nu m.rep.last]++([st m.rep.view]++(dg m.rep.commit++([vP]++([nu m.rep.vnum]++([st m.rep.value]++(dg m.rep.data++([st m.rep.seen]++(dg m.rep.stag++([st m.view]++([nu m.who]++(dg m.tag++(dg m.own++([nu m.blob.owner]++([nu m.blob.number]++([st m.blob.cipher]++(dg m.blob.tag++([vN]))))))))))))))))))))) h (by simp [msgC,subC,repC,bloC]) rfl
theorem mrow_view {w:World} {g:Nat} {m:Msg} {vP vN:Value} (h:w.heap[g]? = some (.cells (msgC m vP vN).toArray 102)) (hw:m.Wf):w.cell? ⟨g,173,none⟩=some (st m.view):=row_cell (A:=[nu m.kind]++([nu m.client]++([nu m.sub.number]++([nu m.sub.kind]++([nu m.sub.target]++([st m.sub.value]++(dg m.sub.asked++(dg m.sub.data++([nu m.rep.number]++([nu m.rep.last]++([st m.rep.view]++(dg m.rep.commit++([vP]++([nu m.rep.vnum]++([st m.rep.value]++(dg m.rep.data++([st m.rep.seen]++(dg m.rep.stag)))))))))))))))))) (C:=[nu m.who]++(dg m.tag++(dg m.own++([nu m.blob.owner]++([nu m.blob.number]++([st m.blob.cipher]++(dg m.blob.tag++([vN])))))))) h (by simp [msgC,subC,repC,bloC]) (by simp [dg_len,hw.sub.asked,hw.sub.data,hw.rep.commit,hw.rep.data,hw.rep.stag])
theorem mrow_who {w:World} {g:Nat} {m:Msg} {vP vN:Value} (h:w.heap[g]? = some (.cells (msgC m vP vN).toArray 102)) (hw:m.Wf):w.cell? ⟨g,174,none⟩=some (nu m.who):=row_cell (A:=[nu m.kind]++([nu m.client]++([nu m.sub.number]++([nu m.sub.kind]++([nu m.sub.target]++([st m.sub.value]++(dg m.sub.asked++(dg m.sub.data++([nu m.rep.number]++([nu m.rep.last]++([st m.rep.view]++(dg m.rep.commit++([vP]++([nu m.rep.vnum]++([st m.rep.value]++(dg m.rep.data++([st m.rep.seen]++(dg m.rep.stag++([st m.view]))))))))))))))))))) (C:=dg m.tag++(dg m.own++([nu m.blob.owner]++([nu m.blob.number]++([st m.blob.cipher]++(dg m.blob.tag++([vN]))))))) h (by simp [msgC,subC,repC,bloC]) (by simp [dg_len,hw.sub.asked,hw.sub.data,hw.rep.commit,hw.rep.data,hw.rep.stag])
theorem mrow_tag {w:World} {g:Nat} {m:Msg} {vP vN:Value} (h:w.heap[g]? = some (.cells (msgC m vP vN).toArray 102)) (hw:m.Wf):∀ j v,(dg m.tag)[j]? = some v→w.cell? ⟨g,175 + j,none⟩=some v:=row_seg (A:=[nu m.kind]++([nu m.client]++([nu m.sub.number]++([nu m.sub.kind]++([nu m.sub.target]++([st m.sub.value]++(dg m.sub.asked++(dg m.sub.data++([nu m.rep.number]++([nu m.rep.last]++([st m.rep.view]++(dg m.rep.commit++([vP]++([nu m.rep.vnum]++([st m.rep.value]++(dg m.rep.data++([st m.rep.seen]++(dg m.rep.stag++([st m.view]++([nu m.who])))))))))))))))))))) (C:=dg m.own++([nu m.blob.owner]++([nu m.blob.number]++([st m.blob.cipher]++(dg m.blob.tag++([vN])))))) h (by simp [msgC,subC,repC,bloC]) (by simp [dg_len,hw.sub.asked,hw.sub.data,hw.rep.commit,hw.rep.data,hw.rep.stag])
theorem mrow_own {w:World} {g:Nat} {m:Msg} {vP vN:Value} (h:w.heap[g]? = some (.cells (msgC m vP vN).toArray 102)) (hw:m.Wf):∀ j v,(dg m.own)[j]? = some v→w.cell? ⟨g,207 + j,none⟩=some v:=row_seg (A:=[nu m.kind]++([nu m.client]++([nu m.sub.number]++([nu m.sub.kind]++([nu m.sub.target]++([st m.sub.value]++(dg m.sub.asked++(dg m.sub.data++([nu m.rep.number]++([nu m.rep.last]++([st m.rep.view]++(dg m.rep.commit++([vP]++([nu m.rep.vnum]++([st m.rep.value]++(dg m.rep.data++([st m.rep.seen]++(dg m.rep.stag++([st m.view]++([nu m.who]++(dg m.tag))))))))))))))))))))) (C:=[nu m.blob.owner]++([nu m.blob.number]++([st m.blob.cipher]++(dg m.blob.tag++([vN]))))) h (by simp [msgC,subC,repC,bloC]) (by simp [dg_len,hw.sub.asked,hw.sub.data,hw.rep.commit,hw.rep.data,hw.rep.stag,hw.tag])
theorem mrow_blob_owner {w:World} {g:Nat} {m:Msg} {vP vN:Value} (h:w.heap[g]? = some (.cells (msgC m vP vN).toArray 102)) (hw:m.Wf):w.cell? ⟨g,239,none⟩=some (nu m.blob.owner):=row_cell (A:=[nu m.kind]++([nu m.client]++([nu m.sub.number]++([nu m.sub.kind]++([nu m.sub.target]++([st m.sub.value]++(dg m.sub.asked++(dg m.sub.data++([nu m.rep.number]++([nu m.rep.last]++([st m.rep.view]++(dg m.rep.commit++([vP]++([nu m.rep.vnum]++([st m.rep.value]++(dg m.rep.data++([st m.rep.seen]++(dg m.rep.stag++([st m.view]++([nu m.who]++(dg m.tag++(dg m.own)))))))))))))))))))))) (C:=[nu m.blob.number]++([st m.blob.cipher]++(dg m.blob.tag++([vN])))) h (by simp [msgC,subC,repC,bloC]) (by simp [dg_len,hw.sub.asked,hw.sub.data,hw.rep.commit,hw.rep.data,hw.rep.stag,hw.tag,hw.own])
theorem mrow_blob_number {w:World} {g:Nat} {m:Msg} {vP vN:Value} (h:w.heap[g]? = some (.cells (msgC m vP vN).toArray 102)) (hw:m.Wf):w.cell? ⟨g,240,none⟩=some (nu m.blob.number):=row_cell (A:=[nu m.kind]++([nu m.client]++([nu m.sub.number]++([nu m.sub.kind]++([nu m.sub.target]++([st m.sub.value]++(dg m.sub.asked++(dg m.sub.data++([nu m.rep.number]++([nu m.rep.last]++([st m.rep.view]++(dg m.rep.commit++([vP]++([nu m.rep.vnum]++([st m.rep.value]++(dg m.rep.data++([st m.rep.seen]++(dg m.rep.stag++([st m.view]++([nu m.who]++(dg m.tag++(dg m.own++([nu m.blob.owner]))))))))))))))))))))))) (C:=[st m.blob.cipher]++(dg m.blob.tag++([vN]))) h (by simp [msgC,subC,repC,bloC]) (by simp [dg_len,hw.sub.asked,hw.sub.data,hw.rep.commit,hw.rep.data,hw.rep.stag,hw.tag,hw.own])
theorem mrow_blob_cipher {w:World} {g:Nat} {m:Msg} {vP vN:Value} (h:w.heap[g]? = some (.cells (msgC m vP vN).toArray 102)) (hw:m.Wf):w.cell? ⟨g,241,none⟩=some (st m.blob.cipher):=row_cell (A:=[nu m.kind]++([nu m.client]++([nu m.sub.number]++([nu m.sub.kind]++([nu m.sub.target]++([st m.sub.value]++(dg m.sub.asked++(dg m.sub.data++([nu m.rep.number]++([nu m.rep.last]++([st m.rep.view]++(dg m.rep.commit++([vP]++([nu m.rep.vnum]++([st m.rep.value]++(dg m.rep.data++([st m.rep.seen]++(dg m.rep.stag++([st m.view]++([nu m.who]++(dg m.tag++(dg m.own++([nu m.blob.owner]++([nu m.blob.number])))))))))))))))))))))))) (C:=dg m.blob.tag++([vN])) h (by simp [msgC,subC,repC,bloC]) (by simp [dg_len,hw.sub.asked,hw.sub.data,hw.rep.commit,hw.rep.data,hw.rep.stag,hw.tag,hw.own])
theorem mrow_nums {w:World} {g:Nat} {m:Msg} {vP vN:Value} (h:w.heap[g]? = some (.cells (msgC m vP vN).toArray 102)) (hw:m.Wf):w.cell? ⟨g,274,none⟩=some (vN):=row_cell (A:=[nu m.kind]++([nu m.client]++([nu m.sub.number]++([nu m.sub.kind]++([nu m.sub.target]++([st m.sub.value]++(dg m.sub.asked++(dg m.sub.data++([nu m.rep.number]++([nu m.rep.last]++([st m.rep.view]++(dg m.rep.commit++([vP]++([nu m.rep.vnum]++([st m.rep.value]++(dg m.rep.data++([st m.rep.seen]++(dg m.rep.stag++([st m.view]++([nu m.who]++(dg m.tag++(dg m.own++([nu m.blob.owner]++([nu m.blob.number]++([st m.blob.cipher]++(dg m.blob.tag)))))))))))))))))))))))))) (C:=[]) h (by simp [msgC,subC,repC,bloC]) (by simp [dg_len,hw.sub.asked,hw.sub.data,hw.rep.commit,hw.rep.data,hw.rep.stag,hw.tag,hw.own,hw.blob.tag])
theorem mrow_sub {w:World} {g:Nat} {m:Msg} {vP vN:Value} (h:w.heap[g]? = some (.cells (msgC m vP vN).toArray 102)) (_:m.Wf):∀ j v,(subC m.sub)[j]? = some v→w.cell? ⟨g,2 + j,none⟩=some v:=row_seg (A:=[nu m.kind]++([nu m.client])) (C:=[nu m.rep.number]++([nu m.rep.last]++([st m.rep.view]++(dg m.rep.commit++([vP]++([nu m.rep.vnum]++([st m.rep.value]++(dg m.rep.data++([st m.rep.seen]++(dg m.rep.stag++([st m.view]++([nu m.who]++(dg m.tag++(dg m.own++([nu m.blob.owner]++([nu m.blob.number]++([st m.blob.cipher]++(dg m.blob.tag++([vN]))))))))))))))))))) h (by simp [msgC,subC,repC,bloC]) rfl
theorem mrow_rep {w:World} {g:Nat} {m:Msg} {vP vN:Value} (h:w.heap[g]? = some (.cells (msgC m vP vN).toArray 102)) (hw:m.Wf):∀ j v,(repC m.rep vP)[j]? = some v→w.cell? ⟨g,70 + j,none⟩=some v:=row_seg (A:=[nu m.kind]++([nu m.client]++([nu m.sub.number]++([nu m.sub.kind]++([nu m.sub.target]++([st m.sub.value]++(dg m.sub.asked++(dg m.sub.data)))))))) (C:=[st m.view]++([nu m.who]++(dg m.tag++(dg m.own++([nu m.blob.owner]++([nu m.blob.number]++([st m.blob.cipher]++(dg m.blob.tag++([vN]))))))))) h (by simp [msgC,subC,repC,bloC]) (by simp [dg_len,hw.sub.asked,hw.sub.data])
theorem mrow_blob {w:World} {g:Nat} {m:Msg} {vP vN:Value} (h:w.heap[g]? = some (.cells (msgC m vP vN).toArray 102)) (hw:m.Wf):∀ j v,(bloC m.blob)[j]? = some v→w.cell? ⟨g,239 + j,none⟩=some v:=row_seg (A:=[nu m.kind]++([nu m.client]++([nu m.sub.number]++([nu m.sub.kind]++([nu m.sub.target]++([st m.sub.value]++(dg m.sub.asked++(dg m.sub.data++([nu m.rep.number]++([nu m.rep.last]++([st m.rep.view]++(dg m.rep.commit++([vP]++([nu m.rep.vnum]++([st m.rep.value]++(dg m.rep.data++([st m.rep.seen]++(dg m.rep.stag++([st m.view]++([nu m.who]++(dg m.tag++(dg m.own)))))))))))))))))))))) (C:=[vN]) h (by simp [msgC,subC,repC,bloC]) (by simp [dg_len,hw.sub.asked,hw.sub.data,hw.rep.commit,hw.rep.data,hw.rep.stag,hw.tag,hw.own])
theorem rrow_number {w:World} {g:Nat} {x:Rep} {vP:Value} (h:w.heap[g]? = some (.cells (repC x vP).toArray 42)) (_:x.Wf):w.cell? ⟨g,0,none⟩=some (nu x.number):=row_cell (A:=[]) (C:=[nu x.last]++([st x.view]++(dg x.commit++([vP]++([nu x.vnum]++([st x.value]++(dg x.data++([st x.seen]++(dg x.stag))))))))) h (by simp [repC]) rfl
theorem rrow_last {w:World} {g:Nat} {x:Rep} {vP:Value} (h:w.heap[g]? = some (.cells (repC x vP).toArray 42)) (_:x.Wf):w.cell? ⟨g,1,none⟩=some (nu x.last):=row_cell (A:=[nu x.number]) (C:=[st x.view]++(dg x.commit++([vP]++([nu x.vnum]++([st x.value]++(dg x.data++([st x.seen]++(dg x.stag)))))))) h (by simp [repC]) rfl
theorem rrow_view {w:World} {g:Nat} {x:Rep} {vP:Value} (h:w.heap[g]? = some (.cells (repC x vP).toArray 42)) (_:x.Wf):w.cell? ⟨g,2,none⟩=some (st x.view):=row_cell (A:=[nu x.number]++([nu x.last])) (C:=dg x.commit++([vP]++([nu x.vnum]++([st x.value]++(dg x.data++([st x.seen]++(dg x.stag))))))) h (by simp [repC]) rfl
theorem rrow_commit {w:World} {g:Nat} {x:Rep} {vP:Value} (h:w.heap[g]? = some (.cells (repC x vP).toArray 42)) (_:x.Wf):∀ j v,(dg x.commit)[j]? = some v→w.cell? ⟨g,3 + j,none⟩=some v:=row_seg (A:=[nu x.number]++([nu x.last]++([st x.view]))) (C:=[vP]++([nu x.vnum]++([st x.value]++(dg x.data++([st x.seen]++(dg x.stag)))))) h (by simp [repC]) rfl
theorem rrow_P {w:World} {g:Nat} {x:Rep} {vP:Value} (h:w.heap[g]? = some (.cells (repC x vP).toArray 42)) (hw:x.Wf):w.cell? ⟨g,35,none⟩=some (vP):=row_cell (A:=[nu x.number]++([nu x.last]++([st x.view]++(dg x.commit)))) (C:=[nu x.vnum]++([st x.value]++(dg x.data++([st x.seen]++(dg x.stag))))) h (by simp [repC]) (by simp [dg_len,hw.commit])
theorem rrow_vnum {w:World} {g:Nat} {x:Rep} {vP:Value} (h:w.heap[g]? = some (.cells (repC x vP).toArray 42)) (hw:x.Wf):w.cell? ⟨g,36,none⟩=some (nu x.vnum):=row_cell (A:=[nu x.number]++([nu x.last]++([st x.view]++(dg x.commit++([vP]))))) (C:=[st x.value]++(dg x.data++([st x.seen]++(dg x.stag)))) h (by simp [repC]) (by simp [dg_len,hw.commit])
theorem rrow_value {w:World} {g:Nat} {x:Rep} {vP:Value} (h:w.heap[g]? = some (.cells (repC x vP).toArray 42)) (hw:x.Wf):w.cell? ⟨g,37,none⟩=some (st x.value):=row_cell (A:=[nu x.number]++([nu x.last]++([st x.view]++(dg x.commit++([vP]++([nu x.vnum])))))) (C:=dg x.data++([st x.seen]++(dg x.stag))) h (by simp [repC]) (by simp [dg_len,hw.commit])
theorem rrow_data {w:World} {g:Nat} {x:Rep} {vP:Value} (h:w.heap[g]? = some (.cells (repC x vP).toArray 42)) (hw:x.Wf):∀ j v,(dg x.data)[j]? = some v→w.cell? ⟨g,38 + j,none⟩=some v:=row_seg (A:=[nu x.number]++([nu x.last]++([st x.view]++(dg x.commit++([vP]++([nu x.vnum]++([st x.value]))))))) (C:=[st x.seen]++(dg x.stag)) h (by simp [repC]) (by simp [dg_len,hw.commit])
theorem rrow_seen {w:World} {g:Nat} {x:Rep} {vP:Value} (h:w.heap[g]? = some (.cells (repC x vP).toArray 42)) (hw:x.Wf):w.cell? ⟨g,70,none⟩=some (st x.seen):=row_cell (A:=[nu x.number]++([nu x.last]++([st x.view]++(dg x.commit++([vP]++([nu x.vnum]++([st x.value]++(dg x.data)))))))) (C:=dg x.stag) h (by simp [repC]) (by simp [dg_len,hw.commit,hw.data])
theorem rrow_stag {w:World} {g:Nat} {x:Rep} {vP:Value} (h:w.heap[g]? = some (.cells (repC x vP).toArray 42)) (hw:x.Wf):∀ j v,(dg x.stag)[j]? = some v→w.cell? ⟨g,71 + j,none⟩=some v:=row_seg (A:=[nu x.number]++([nu x.last]++([st x.view]++(dg x.commit++([vP]++([nu x.vnum]++([st x.value]++(dg x.data++([st x.seen]))))))))) (C:=[]) h (by simp [repC]) (by simp [dg_len,hw.commit,hw.data])
theorem prow_client {w:World} {g:Nat} {x:Pen} (h:w.heap[g]? = some (.cells (penC x).toArray 25)) (_:x.Wf):w.cell? ⟨g,0,none⟩=some (nu x.client):=row_cell (A:=[]) (C:=[nu x.number]++([nu x.kind]++([nu x.target]++(dg x.asked++(dg x.proof))))) h (by simp [penC]) rfl
theorem prow_number {w:World} {g:Nat} {x:Pen} (h:w.heap[g]? = some (.cells (penC x).toArray 25)) (_:x.Wf):w.cell? ⟨g,1,none⟩=some (nu x.number):=row_cell (A:=[nu x.client]) (C:=[nu x.kind]++([nu x.target]++(dg x.asked++(dg x.proof)))) h (by simp [penC]) rfl
theorem prow_kind {w:World} {g:Nat} {x:Pen} (h:w.heap[g]? = some (.cells (penC x).toArray 25)) (_:x.Wf):w.cell? ⟨g,2,none⟩=some (nu x.kind):=row_cell (A:=[nu x.client]++([nu x.number])) (C:=[nu x.target]++(dg x.asked++(dg x.proof))) h (by simp [penC]) rfl
theorem prow_target {w:World} {g:Nat} {x:Pen} (h:w.heap[g]? = some (.cells (penC x).toArray 25)) (_:x.Wf):w.cell? ⟨g,3,none⟩=some (nu x.target):=row_cell (A:=[nu x.client]++([nu x.number]++([nu x.kind]))) (C:=dg x.asked++(dg x.proof)) h (by simp [penC]) rfl
theorem prow_asked {w:World} {g:Nat} {x:Pen} (h:w.heap[g]? = some (.cells (penC x).toArray 25)) (_:x.Wf):∀ j v,(dg x.asked)[j]? = some v→w.cell? ⟨g,4 + j,none⟩=some v:=row_seg (A:=[nu x.client]++([nu x.number]++([nu x.kind]++([nu x.target])))) (C:=dg x.proof) h (by simp [penC]) rfl
theorem prow_proof {w:World} {g:Nat} {x:Pen} (h:w.heap[g]? = some (.cells (penC x).toArray 25)) (hw:x.Wf):∀ j v,(dg x.proof)[j]? = some v→w.cell? ⟨g,36 + j,none⟩=some v:=row_seg (A:=[nu x.client]++([nu x.number]++([nu x.kind]++([nu x.target]++(dg x.asked))))) (C:=[]) h (by simp [penC]) (by simp [dg_len,hw.asked])
theorem srow_number {w:World} {g:Nat} {x:Sub} (h:w.heap[g]? = some (.cells (subC x).toArray 39)) (_:x.Wf):w.cell? ⟨g,0,none⟩=some (nu x.number):=row_cell (A:=[]) (C:=[nu x.kind]++([nu x.target]++([st x.value]++(dg x.asked++(dg x.data))))) h (by simp [subC]) rfl
theorem srow_kind {w:World} {g:Nat} {x:Sub} (h:w.heap[g]? = some (.cells (subC x).toArray 39)) (_:x.Wf):w.cell? ⟨g,1,none⟩=some (nu x.kind):=row_cell (A:=[nu x.number]) (C:=[nu x.target]++([st x.value]++(dg x.asked++(dg x.data)))) h (by simp [subC]) rfl
theorem srow_target {w:World} {g:Nat} {x:Sub} (h:w.heap[g]? = some (.cells (subC x).toArray 39)) (_:x.Wf):w.cell? ⟨g,2,none⟩=some (nu x.target):=row_cell (A:=[nu x.number]++([nu x.kind])) (C:=[st x.value]++(dg x.asked++(dg x.data))) h (by simp [subC]) rfl
theorem srow_value {w:World} {g:Nat} {x:Sub} (h:w.heap[g]? = some (.cells (subC x).toArray 39)) (_:x.Wf):w.cell? ⟨g,3,none⟩=some (st x.value):=row_cell (A:=[nu x.number]++([nu x.kind]++([nu x.target]))) (C:=dg x.asked++(dg x.data)) h (by simp [subC]) rfl
theorem brow_owner {w:World} {g:Nat} {x:Blo} (h:w.heap[g]? = some (.cells (bloC x).toArray 100)) (_:x.Wf):w.cell? ⟨g,0,none⟩=some (nu x.owner):=row_cell (A:=[]) (C:=[nu x.number]++([st x.cipher]++(dg x.tag))) h (by simp [bloC]) rfl
theorem brow_number {w:World} {g:Nat} {x:Blo} (h:w.heap[g]? = some (.cells (bloC x).toArray 100)) (_:x.Wf):w.cell? ⟨g,1,none⟩=some (nu x.number):=row_cell (A:=[nu x.owner]) (C:=[st x.cipher]++(dg x.tag)) h (by simp [bloC]) rfl
theorem brow_cipher {w:World} {g:Nat} {x:Blo} (h:w.heap[g]? = some (.cells (bloC x).toArray 100)) (_:x.Wf):w.cell? ⟨g,2,none⟩=some (st x.cipher):=row_cell (A:=[nu x.owner]++([nu x.number])) (C:=dg x.tag) h (by simp [bloC]) rfl
open Go Go.RowKit
set_option maxRecDepth 100000
theorem hid {p:Prop} (h:p):Hid p:=h
theorem add_none (g o j:Nat):(⟨g,o,none⟩:Addr).add j=⟨g,o + j,none⟩:=by unfold Addr.add;split <;> simp_all
theorem top_obj (W:World) (o:Obj):(W.alloc o).heap[W.heap.size]? = some o:=by show (W.heap.push o)[W.heap.size]? = _;simp
theorem below_two {w w1 w2:World} (h1:Below w.heap.size w w1) (h2:Below w1.heap.size w1 w2):Below w.heap.size w w2:=h1.trans (h2.mono h1.size)
theorem below_a1 (w:World) (o:Obj):Below w.heap.size w (w.alloc o):=(Below.refl _ w).alloc (Nat.le_refl _) o
theorem row_kept {w w':World} {k:Nat} {o:Obj} (hr:w.heap[k]? = some o) (hb:Below w.heap.size w w'):w'.heap[k]? = some o:=(hb.block k (Array.getElem?_eq_some_iff.1 hr).1).trans hr
section
variable {P:Program} {ops:Array Oper} {rest:List Oper} {o:Oper} {a:Act} {w:World} {Q:Exit→Act→World→Prop}
theorem wl_load (ty:TypeId) (x:Operand) (ho:o.op = .load ty x)
  (g off:Nat) (hx:a.eval x = .pointer (some ⟨g,off,none⟩)) (hw:Region.wanted o (yielded ops a.tmps)=true) (cs:List Value) (d:TypeDesc) (hc:∀ j v,cs[j]? = some v→w.cell? ⟨g,off + j,none⟩=some v)
  (hu:P.underlying ty=some d) (hd:(match d with | .struct _ | .array _ _=>true | _=>false)=true) (hi:(P.info? ty).map (·.size)=some cs.length)
  (h:wpList P ops Q rest (a.put o.dst (.agg cs.toArray)) w):wpList P ops Q (o :: rest) a w:=by
 refine BigFrame.wpList_want hw fun K hK=>?_
 have h':=hK _ _ h
 have hl:(loadCells ⟨g,off,none⟩ cs.length).run P w = .ok cs.toArray w :=
  run_loadCells_list (P:=P) w ⟨g,off,none⟩ cs (fun j v hv=>by rw [add_none];exact hc j v hv)
 cases hq:P.info? ty with
 | none=>simp [hq] at hi
 | some i =>
  have hs:i.size=cs.length:=by simpa [hq] using hi
  have hagg:(isAgg ty).run P w = .ok true w:=by
   unfold isAgg
   rw [Sem.run_bind,run_underlying hu w]
   cases d <;> simp_all
  unfold Oper.wp execOp
  simp [ho,hx,Instr.loadAt,Instr.sureAddr,Sem.run_bind,loadVar,hagg,sizeOf,typeInfo,hq,hs,hl]
  exact h'
theorem wl_alloc (ty:TypeId) (ho:o.op = .alloc ty) (hw:Region.wanted o (yielded ops a.tmps)=true) (z:Array Value) (hi:(P.info? ty).map (·.zero)=some (some (.agg z)))
  (h:wpList P ops Q rest (a.put o.dst (.pointer (some ⟨w.heap.size,0,none⟩))) (w.alloc (.cells z ty))):wpList P ops Q (o :: rest) a w:=by
 refine BigFrame.wpList_want hw fun K hK=>?_
 have h':=hK _ _ h
 cases hq:P.info? ty with
 | none=>simp [hq] at hi
 | some i =>
  have hz:i.zero=some (.agg z):=by simpa [hq] using hi
  unfold Oper.wp execOp
  simp [ho,Instr.alloc,zeroValue,typeInfo,hq,hz,newVar,newRow,newObj,Sem.run_bind,Value.cells]
  exact h'
theorem wl_store (ty:TypeId) (x y:Operand) (ho:o.op = .store ty x y) (hn:o.dst=none)
  (g off:Nat) (hx:a.eval x = .pointer (some ⟨g,off,none⟩)) (hw:Region.wanted o (yielded ops a.tmps)=true) (A cs old C:List Value) (hy:a.eval y = .agg cs.toArray) (t:TypeId) (hg:w.heap[g]? = some (.cells (A++(old++C)).toArray t))
  (hA:A.length=off) (hold:old.length=cs.length) (h1:∀ v ∈ cs,v.oneCell' = true) (hi:(P.info? ty).map (·.size)=some cs.length)
  (h:wpList P ops Q rest a (w.setRow g (A++(cs++C)).toArray)):wpList P ops Q (o :: rest) a w:=by
 refine BigFrame.wpList_want hw fun K hK=>?_
 have e:((A++(old++C)).toArray.toList.take off++cs++(A++(old++C)).toArray.toList.drop (off + cs.length))=A++(cs++C):=by
  subst hA
  simp [← hold,List.append_assoc]
 have h':=hK _ _ h
 have hst:=run_storeCells_at P g off t cs 0 (A++(old++C)).toArray w hg (by subst hA;simp;omega) h1
 rw [Nat.add_zero,e] at hst
 cases hq:P.info? ty with
 | none=>simp [hq] at hi
 | some i =>
  have hs:i.size=cs.length:=by simpa [hq] using hi
  unfold Oper.wp execOp
  simp [ho,hx,hy,Instr.storeAt,Instr.sureAddr,Sem.run_bind,storeVar,sizeOf,typeInfo,hq,hs,Value.cells]
  simp [hst]
  show K (a.put o.dst undef) _
  rw [hn]
  exact h'
end
section
variable {P:Program} {ops:Array Oper} {C:World→Prop} {Q:Act→Prop} {a:Act} {o:Oper} {rest:List Oper}
theorem wq_load (ty:TypeId) (x:Operand) (ho:o.op = .load ty x)
  (g off:Nat) (hx:a.eval x = .pointer (some ⟨g,off,none⟩)) (hw:Region.wanted o (yielded ops a.tmps)=true) (cs:List Value) (d:TypeDesc) (hc:∀ w,C w→∀ j v,cs[j]? = some v→w.cell? ⟨g,off + j,none⟩=some v)
  (hu:P.underlying ty=some d) (hd:(match d with | .struct _ | .array _ _=>true | _=>false)=true) (hi:(P.info? ty).map (·.size)=some cs.length)
  (h:wpQuiet P ops C Q rest (a.put o.dst (.agg cs.toArray))):wpQuiet P ops C Q (o :: rest) a:=by
 unfold wpQuiet
 rw [if_pos hw]
 refine ⟨.agg cs.toArray,fun w hC=>?_,h⟩
 have hl:(loadCells ⟨g,off,none⟩ cs.length).run P w = .ok cs.toArray w :=
  run_loadCells_list (P:=P) w ⟨g,off,none⟩ cs (fun j v hv=>by rw [add_none];exact hc w hC j v hv)
 cases hq:P.info? ty with
 | none=>simp [hq] at hi
 | some i =>
  have hs:i.size=cs.length:=by simpa [hq] using hi
  have hagg:(isAgg ty).run P w = .ok true w:=by
   unfold isAgg
   rw [Sem.run_bind,run_underlying hu w]
   cases d <;> simp_all
  unfold Oper.quietAt execOp
  simp [ho,hx,Instr.loadAt,Instr.sureAddr,Sem.run_bind,loadVar,hagg,sizeOf,typeInfo,hq,hs,hl,Oper.quietUpon]
theorem wq_eql (hw:Region.wanted o (yielded ops a.tmps)=true) (ty rt:TypeId) (x y:Operand) (ho:o.op = .binOp .eql ty x y rt)
  (X Y:Array Value) (hx:a.eval x = .agg X) (hy:a.eval y = .agg Y) (hgt:P.eqGuardType P.depth ty=false) (B:Bool) (he:∀ w,(Op.equalIn 10000 ty (.agg X) (.agg Y)).run P w = .ok B w)
  (h:wpQuiet P ops C Q rest (a.put o.dst (.bool B))):wpQuiet P ops C Q (o :: rest) a:=by
 unfold wpQuiet
 rw [if_pos hw]
 refine ⟨.bool B,fun w hC=>?_,h⟩
 have hq:∀ w,(Op.equal ty (.agg X) (.agg Y)).run P w = .ok B w:=he
 unfold Oper.quietAt execOp
 simp [ho,hx,hy,eqGuard,binOp,Sem.run_bind,hgt,hq,Oper.quietUpon]
theorem wq_neq (hw:Region.wanted o (yielded ops a.tmps)=true) (ty rt:TypeId) (x y:Operand) (ho:o.op = .binOp .neq ty x y rt)
  (X Y:Array Value) (hx:a.eval x = .agg X) (hy:a.eval y = .agg Y) (hgt:P.eqGuardType P.depth ty=false) (B:Bool) (he:∀ w,(Op.equalIn 10000 ty (.agg X) (.agg Y)).run P w = .ok B w)
  (h:wpQuiet P ops C Q rest (a.put o.dst (.bool (!B)))):wpQuiet P ops C Q (o :: rest) a:=by
 unfold wpQuiet
 rw [if_pos hw]
 refine ⟨.bool (!B),fun w hC=>?_,h⟩
 have hq:∀ w,(Op.equal ty (.agg X) (.agg Y)).run P w = .ok B w:=he
 unfold Oper.quietAt execOp
 simp [ho,hx,hy,eqGuard,binOp,Sem.run_bind,hgt,hq,Oper.quietUpon]
end
theorem setRow_top (W:World) (cur cs:Array Value) (t:TypeId):(W.alloc (.cells cur t)).setRow W.heap.size cs=W.alloc (.cells cs t):=by
 have e:((W.alloc (.cells cur t)).setRow W.heap.size cs).heap=(W.alloc (.cells cs t)).heap:=by
  apply Array.ext_getElem?
  intro i
  have hn:∀ o:Obj,(W.alloc o).heap[W.heap.size]? = some o:=fun o=>by show (W.heap.push o)[W.heap.size]? = _;simp
  by_cases h:i=W.heap.size
  ·subst h
   rw [setRow_heap _ _ cur cs t (0,0) (hn _),hn]
  ·rw [setRow_other _ _ _ _ h]
   show (W.heap.push _)[i]? = (W.heap.push _)[i]?
   rw [Array.getElem?_push,Array.getElem?_push,if_neg h,if_neg h]
 exact congrArg (fun hp=>({ W with heap:=hp }:World)) e
theorem wl_store_top {P:Program} {ops:Array Oper} {rest:List Oper} {o:Oper} {a:Act} {W:World} {Q:Exit→Act→World→Prop} (ty:TypeId) (x y:Operand) (ho:o.op = .store ty x y) (hn:o.dst=none) (hw:Region.wanted o (yielded ops a.tmps)=true)
  (hx:a.eval x = .pointer (some ⟨W.heap.size,0,none⟩)) (cs old:List Value) (hy:a.eval y = .agg cs.toArray) (t:TypeId) (hold:old.length=cs.length) (h1:∀ v ∈ cs,v.oneCell' = true) (hi:(P.info? ty).map (·.size)=some cs.length)
  (h:wpList P ops Q rest a (W.alloc (.cells cs.toArray t))):wpList P ops Q (o :: rest) a (W.alloc (.cells old.toArray t)):=by
 refine wl_store ty x y ho hn W.heap.size 0 hx hw [] cs old [] hy t (by simpa using top_obj W (.cells old.toArray t)) rfl hold h1 hi ?_
 have e:=setRow_top W old.toArray cs.toArray t
 simp only [List.nil_append,List.append_nil]
 rw [e]
 exact h
theorem one_dg (d:List UInt8):∀ v ∈ dg d,v.oneCell' = true:=by
 intro v hv;simp only [dg,List.mem_map] at hv;obtain ⟨x,-,rfl⟩:=hv;rfl
theorem one_pen (p:Pen):∀ v ∈ penC p,v.oneCell' = true:=by
 intro v hv
 simp only [penC,List.mem_append,List.mem_cons,List.not_mem_nil,or_false] at hv
 rcases hv with (rfl | rfl | rfl | rfl) | hv | hv
 ·rfl
 ·rfl
 ·rfl
 ·rfl
 ·exact one_dg _ v hv
 ·exact one_dg _ v hv
theorem guardPen:Tryz.prog.eqGuardType Tryz.prog.depth 25=false:=by kernel_rfl
theorem sizeSub:(Tryz.prog.info? 39).map (·.size)=some 68:=by kernel_rfl
theorem sizePen:(Tryz.prog.info? 25).map (·.size)=some 68:=by kernel_rfl
theorem sizeRep:(Tryz.prog.info? 42).map (·.size)=some 103:=by kernel_rfl
theorem sizeBlo:(Tryz.prog.info? 100).map (·.size)=some 35:=by kernel_rfl
theorem sizeMsg:(Tryz.prog.info? 102).map (·.size)=some 275:=by kernel_rfl
def IntsAt (w:World) (v:Value) (ks:List Int):Prop:=∃ a cap,v = .slice a ks.length cap∧(ks ≠ []→∃ b off,a=some ⟨b,off,none⟩∧∀ j,j < ks.length→w.cell? ⟨b,off + j,none⟩=some (nu (ks.getD j 0)))
theorem IntsAt.kept {w w':World} {v:Value} {ks:List Int} (h:IntsAt w v ks) (hb:Below w.heap.size w w'):IntsAt w' v ks:=by
 obtain ⟨a,cap,rfl,hc⟩:=h
 refine ⟨a,cap,rfl,fun hne=>?_⟩
 obtain ⟨b,off,rfl,hj⟩:=hc hne
 exact ⟨b,off,rfl,fun j h=>(hb.cell (p:=⟨b,off + j,none⟩) (World.block_lt_of_cell? w _ (hj j h))).trans (hj j h)⟩
theorem IntsAt.nil (w:World):IntsAt w (.slice none 0 0) []:=⟨none,0,rfl,fun h=>absurd rfl h⟩
def noPen:Pen:=⟨0,0,0,0,[],[]⟩
def PensAt (w:World) (v:Value) (ps:List Pen):Prop:=∃ a cap,v = .slice a ps.length cap∧(ps ≠ []→∃ b off,a=some ⟨b,off,none⟩∧∀ j,j < ps.length→∀ i c,(penC (ps.getD j noPen))[i]? = some c→w.cell? ⟨b,off + j * 68 + i,none⟩=some c)
theorem PensAt.kept {w w':World} {v:Value} {ps:List Pen} (h:PensAt w v ps) (hb:Below w.heap.size w w'):PensAt w' v ps:=by
 obtain ⟨a,cap,rfl,hc⟩:=h
 refine ⟨a,cap,rfl,fun hne=>?_⟩
 obtain ⟨b,off,rfl,hj⟩:=hc hne
 exact ⟨b,off,rfl,fun j h i c hi=>(hb.cell (p:=⟨b,off + j * 68 + i,none⟩) (World.block_lt_of_cell? w _ (hj j h i c hi))).trans (hj j h i c hi)⟩
theorem PensAt.nil (w:World):PensAt w (.slice none 0 0) []:=⟨none,0,rfl,fun h=>absurd rfl h⟩
theorem within_any (n a b:Int) (w:World):Calls Tryz.prog 72 #[nu n,nu a,nu b] w fun e w'=>e = .returned (.bool (decide (a ≤ n) && decide (n ≤ b)))∧w' = w:=by
 by_cases h:a ≤ n
 ·have d1:decide (a ≤ n)=true:=decide_eq_true h
  rw [d1,Bool.true_and]
  clear h
  go_enter Tryz.func72,Tryz.ntmps72
  go_wp2
  go_ret
  exact ⟨rfl,rfl⟩
 ·have d1:decide (a ≤ n)=false:=decide_eq_false h
  rw [d1,Bool.false_and]
  clear h
  go_enter Tryz.func72,Tryz.ntmps72
  go_wp2
  go_ret
  exact ⟨rfl,rfl⟩
open Go Go.RowKit
set_option maxRecDepth 100000
theorem list_eq_of {α:Type} (d:α) (xs ys:List α) (hl:xs.length=ys.length) (h:∀ j,j < xs.length→xs.getD j d=ys.getD j d):xs=ys:=by
 apply List.ext_getElem hl
 intro i h1 h2
 have:=h i h1
 simpa [List.getD,h1,h2] using this
theorem list_ne_at {α:Type} [BEq α] [LawfulBEq α] (d:α) (xs ys:List α) (j:Nat) (h:xs.getD j d ≠ ys.getD j d):(xs == ys)=false:=by
 rw [Bool.eq_false_iff]
 intro e
 exact h (by rw [eq_of_beq e])
theorem list_ne_len {α:Type} [BEq α] [LawfulBEq α] (xs ys:List α) (h:xs.length ≠ ys.length):(xs == ys)=false:=by
 rw [Bool.eq_false_iff]
 intro e
 exact h (by rw [eq_of_beq e])
theorem rints_any {w:World} {u v:Value} {xs ys:List Int} (hu:IntsAt w u xs) (hv:IntsAt w v ys) (hx:xs.length ≤ 9223372036854775807) :
  Calls Tryz.prog 98 #[u,v] w fun e w'=>e = .returned (.bool (xs == ys))∧Below w.heap.size w w':=by
 obtain ⟨a,c1,rfl,ha⟩:=hu
 obtain ⟨b,c2,rfl,hb⟩:=hv
 have HB0:=hid (Below.refl w.heap.size w)
 by_cases hl:xs.length=ys.length
 ·have HE:=hid (list_eq_of (0:Int) xs ys hl)
  have HN:=hid (fun j=>list_ne_at (0:Int) xs ys j)
  have HA:=hid ha
  have HBb:=hid hb
  have dl:((xs.length:Int) != (ys.length:Int))=false:=by simp;omega
  have dl':(xs.length != ys.length)=false:=by simp;omega
  have HL:=hid hl
  clear ha hb hl
  go_enter Tryz.func98,Tryz.ntmps98
  go_wp2
  go_loopw [5] (fun i w'=>∃ j:Nat,j ≤ xs.length∧i = .int .i64 j∧Hid (∀ k,k < j→xs.getD k 0=ys.getD k 0)∧Hid (Below w.heap.size w w')) (fun i _=>xs.length - (intOf i).toNat)
  case atStart=>exact ⟨0,by omega,rfl,fun k hk=>absurd hk (Nat.not_lt_zero k),HB0.out⟩
  case round =>
   obtain ⟨j,hj,rfl,HQ,HB⟩:=hrel
   by_cases hlt:j < xs.length
   ·have d1:decide ((j:Int) < (xs.length:Int))=true:=decide_eq_true (by omega)
    have d1':decide (j < xs.length)=true:=decide_eq_true hlt
    have hly:j < ys.length:=by have:=HL.out;omega
    obtain ⟨ba,oa,rfl,hca⟩:=HA.out (fun e=>by rw [e] at hlt;exact absurd hlt (Nat.not_lt_zero j))
    obtain ⟨bb,ob,rfl,hcb⟩:=HBb.out (fun e=>by rw [e] at hly;exact absurd hly (Nat.not_lt_zero j))
    have ca:wr.cell? ⟨ba,oa + j,none⟩=some (.int .i64 (xs.getD j 0)):=(HB.out.cell (p:=⟨ba,oa + j,none⟩) (World.block_lt_of_cell? w _ (hca j hlt))).trans (hca j hlt)
    have cb':wr.cell? ⟨bb,ob + j,none⟩=some (.int .i64 (ys.getD j 0)):=(HB.out.cell (p:=⟨bb,ob + j,none⟩) (World.block_lt_of_cell? w _ (hcb j hly))).trans (hcb j hly)
    by_cases he:xs.getD j 0=ys.getD j 0
    ·have HQ':Hid (∀ k,k < j + 1→xs.getD k 0=ys.getD k 0):=fun k hk=>by
      by_cases e:k=j
      ·rw [e];exact he
      ·exact HQ.out k (by omega)
     rw [← he] at cb'
     generalize xs.getD j 0=x at *
     clear he hca hcb HQ HE HN HA HBb
     have HBd:=hid HB.out.drew
     go_wp2
     go_region
     all_goals (go_wp2;exact ⟨⟨j + 1,by omega,by go_num,HQ'.out,HBd.out⟩,by simp [intOf];omega⟩)
    ·have HP:=hid (HN.out j he)
     generalize xs.getD j 0=x at *
     generalize ys.getD j 0=y at *
     have dx:(x != y)=true:=by simpa using he
     clear he hca hcb HQ HE HN HA HBb
     have HBd:=hid HB.out.drew
     go_wp2
     go_region
     all_goals (go_wp2;go_ret;exact ⟨by rw [HP.out];rfl,HBd.out⟩)
   ·obtain rfl:j=xs.length:=by omega
    have HP:Hid ((xs == ys)=true):=by show _=_;rw [HE.out HQ.out];simp
    clear HE HQ HN HA HBb
    go_wp2
    go_ret
    exact ⟨by rw [HP.out];rfl,HB.out⟩
 ·rw [list_ne_len xs ys hl]
  have dl:((xs.length:Int) != (ys.length:Int))=true:=by simp;omega
  have dl':(xs.length != ys.length)=true:=by simp;omega
  clear ha hb hl
  go_enter Tryz.func98,Tryz.ntmps98
  go_wp2
  go_ret
  exact ⟨rfl,HB0.out⟩
end Go.Proofs.YthkkjjlpahdagaaGreatDoor.Ms
