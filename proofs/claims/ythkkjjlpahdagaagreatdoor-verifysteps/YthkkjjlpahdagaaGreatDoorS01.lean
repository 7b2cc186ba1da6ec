/-
  Messages as plain data, and as rows of cells. No program plays a part.
-/
import Derived.WalkKit
import Derived.Lib.AtoiAll
import Derived.Lib.ItoaNum
namespace Go.Proofs.YthkkjjlpahdagaaGreatDoor.Ms
open Go
set_option maxRecDepth 100000
def bv (c:UInt8):Int:=(c.toNat:Int)
abbrev cb (c:UInt8):Value:=.int .u8 (bv c)
def dg (d:List UInt8):List Value:=d.map cb
abbrev st (s:List UInt8):Value:=.string ⟨s.toArray⟩
abbrev nu (n:Int):Value:=.int .i64 n
structure Sub where
 number:Int
 kind:Int
 target:Int
 value:List UInt8
 asked:List UInt8
 data:List UInt8
structure Pen where
 client:Int
 number:Int
 kind:Int
 target:Int
 asked:List UInt8
 proof:List UInt8
structure Rep where
 number:Int
 last:Int
 view:List UInt8
 commit:List UInt8
 pend:List Pen
 vnum:Int
 value:List UInt8
 data:List UInt8
 seen:List UInt8
 stag:List UInt8
structure Blo where
 owner:Int
 number:Int
 cipher:List UInt8
 tag:List UInt8
structure Msg where
 kind:Int
 client:Int
 sub:Sub
 rep:Rep
 view:List UInt8
 who:Int
 tag:List UInt8
 own:List UInt8
 blob:Blo
 nums:List Int
def subC (x:Sub):List Value:=[nu x.number,nu x.kind,nu x.target,st x.value]++(dg x.asked++dg x.data)
def penC (x:Pen):List Value:=[nu x.client,nu x.number,nu x.kind,nu x.target]++(dg x.asked++dg x.proof)
def repC (x:Rep) (vP:Value):List Value:=[nu x.number,nu x.last,st x.view]++(dg x.commit++([vP,nu x.vnum,st x.value]++(dg x.data++([st x.seen]++dg x.stag))))
def bloC (x:Blo):List Value:=[nu x.owner,nu x.number,st x.cipher]++dg x.tag
def msgC (m:Msg) (vP vN:Value):List Value:=[nu m.kind,nu m.client]++(subC m.sub++(repC m.rep vP++([st m.view,nu m.who]++(dg m.tag++(dg m.own++(bloC m.blob++[vN]))))))
structure Sub.Wf (x:Sub):Prop where
 asked:x.asked.length=32
 data:x.data.length=32
structure Pen.Wf (x:Pen):Prop where
 asked:x.asked.length=32
 proof:x.proof.length=32
structure Rep.Wf (x:Rep):Prop where
 commit:x.commit.length=32
 data:x.data.length=32
 stag:x.stag.length=32
 pend:∀ p ∈ x.pend,p.Wf
structure Blo.Wf (x:Blo):Prop where
 tag:x.tag.length=32
structure Msg.Wf (m:Msg):Prop where
 sub:m.sub.Wf
 rep:m.rep.Wf
 tag:m.tag.length=32
 own:m.own.length=32
 blob:m.blob.Wf
theorem dg_len (d:List UInt8):(dg d).length=d.length:=by simp [dg]
theorem subC_len {x:Sub} (h:x.Wf):(subC x).length=68:=by simp [subC,dg_len,h.asked,h.data]
theorem penC_len {x:Pen} (h:x.Wf):(penC x).length=68:=by simp [penC,dg_len,h.asked,h.proof]
theorem repC_len {x:Rep} (h:x.Wf) (vP:Value):(repC x vP).length=103:=by simp [repC,dg_len,h.commit,h.data,h.stag]
theorem bloC_len {x:Blo} (h:x.Wf):(bloC x).length=35:=by simp [bloC,dg_len,h.tag]
theorem msgC_len {m:Msg} (h:m.Wf) (vP vN:Value):(msgC m vP vN).length=275:=by
 simp [msgC,dg_len,h.tag,h.own,subC_len h.sub,repC_len h.rep,bloC_len h.blob]
theorem mid_at {α:Type} (A cs C:List α) (off j:Nat) (v:α) (hA:A.length=off) (hj:cs[j]? = some v):(A++(cs++C))[off + j]? = some v:=by
 subst hA
 rw [List.getElem?_append_right (by omega)]
 have hl:=(List.getElem?_eq_some_iff.1 hj).1
 rw [show A.length + j - A.length=j by omega,List.getElem?_append_left hl]
 exact hj
def sameS (a b:Sub):Bool:=a.number == b.number && (a.kind == b.kind && (a.target == b.target && (a.value == b.value && (a.asked == b.asked && a.data == b.data))))
def sameP (a b:Pen):Bool:=a.client == b.client && (a.number == b.number && (a.kind == b.kind && (a.target == b.target && (a.asked == b.asked && a.proof == b.proof))))
def sameB (a b:Blo):Bool:=a.owner == b.owner && (a.number == b.number && (a.cipher == b.cipher && a.tag == b.tag))
def sameL {α:Type} (f:α→α→Bool):List α→List α→Bool
 | [],[]=>true
 | x :: xs,y :: ys=>f x y && sameL f xs ys
 | _,_=>false
def sameR (a b:Rep):Bool:=a.number == b.number && (a.last == b.last && (a.view == b.view && (a.commit == b.commit && (sameL sameP a.pend b.pend && (a.vnum == b.vnum && (a.value == b.value && (a.data == b.data && (a.seen == b.seen && a.stag == b.stag))))))))
def sameM (a b:Msg):Bool:=a.kind == b.kind && (a.client == b.client && (sameS a.sub b.sub && (sameR a.rep b.rep && (a.view == b.view && (a.who == b.who && (a.tag == b.tag && (a.own == b.own && (sameB a.blob b.blob && a.nums == b.nums))))))))
theorem sameS_iff (a b:Sub):sameS a b=true ↔ a=b:=by
 obtain ⟨a1,a2,a3,a4,a5,a6⟩:=a
 obtain ⟨b1,b2,b3,b4,b5,b6⟩:=b
 simp [sameS]
theorem sameP_iff (a b:Pen):sameP a b=true ↔ a=b:=by
 obtain ⟨a1,a2,a3,a4,a5,a6⟩:=a
 obtain ⟨b1,b2,b3,b4,b5,b6⟩:=b
 simp [sameP]
theorem sameB_iff (a b:Blo):sameB a b=true ↔ a=b:=by
 obtain ⟨a1,a2,a3,a4⟩:=a
 obtain ⟨b1,b2,b3,b4⟩:=b
 simp [sameB]
theorem sameL_iff {α:Type} (f:α→α→Bool) (hf:∀ x y,f x y=true ↔ x=y):∀ a b:List α,sameL f a b=true ↔ a=b
 | [],[]=>by simp [sameL]
 | [],y :: ys=>by simp [sameL]
 | x :: xs,[]=>by simp [sameL]
 | x :: xs,y :: ys=>by simp [sameL,hf x y,sameL_iff f hf xs ys]
theorem sameR_iff (a b:Rep):sameR a b=true ↔ a=b:=by
 obtain ⟨a1,a2,a3,a4,a5,a6,a7,a8,a9,a10⟩:=a
 obtain ⟨b1,b2,b3,b4,b5,b6,b7,b8,b9,b10⟩:=b
 simp [sameR,sameL_iff sameP sameP_iff]
theorem sameM_iff (a b:Msg):sameM a b=true ↔ a=b:=by
 obtain ⟨a1,a2,a3,a4,a5,a6,a7,a8,a9,a10⟩:=a
 obtain ⟨b1,b2,b3,b4,b5,b6,b7,b8,b9,b10⟩:=b
 simp [sameM,sameS_iff,sameR_iff,sameB_iff]
open Go
set_option maxRecDepth 100000
def I64 (n:Int):Prop:=-9223372036854775808 ≤ n∧n ≤ 9223372036854775807
def numB (n:Int):List UInt8:=Lib.itoa n++[59]
def txtB (s:List UInt8):List UInt8:=Lib.decDigits s.length++[58]++s
def intsB (l:List Int):List UInt8:=(l.map numB).flatten
theorem nDigits_le20 (u:Nat) (h:u < 18446744073709551616):Lib.nDigits u ≤ 20:=by
 rcases Nat.eq_zero_or_pos u with h0 | h0
 ·subst h0;rw [Lib.nDigits_small (by omega)];omega
 ·have:=Lib.numDigits_eq u h0 h;split at this <;> omega
theorem dec_len (u:Nat) (h:u < 18446744073709551616):(Lib.decDigits u).length ≤ 20:=by rw [Lib.decDigits_length];exact nDigits_le20 u h
theorem numB_len (n:Int) (h:I64 n):(numB n).length ≤ 22:=by
 unfold numB Lib.itoa
 obtain ⟨h0,h1⟩:=h
 split
 ·have:=nDigits_le20 n.natAbs (by omega);rw [List.length_append,List.length_cons,Lib.decDigits_length];simp;omega
 ·have:=nDigits_le20 n.toNat (by omega);rw [List.length_append,Lib.decDigits_length];simp;omega
theorem txtB_len (s:List UInt8) (h:s.length < 18446744073709551616):(txtB s).length ≤ s.length + 21:=by
 have:=dec_len s.length h
 unfold txtB
 simp only [List.length_append,List.length_cons,List.length_nil]
 omega
theorem str_app (x y:List UInt8):(⟨x.toArray⟩ ++ ⟨y.toArray⟩:ByteArray)=⟨(x++y).toArray⟩:=by
 apply ByteArray.ext
 simp
theorem intsB_snoc (ks:List Int) (j:Nat) (h:j < ks.length):intsB (ks.take (j + 1))=intsB (ks.take j)++numB (ks.getD j 0):=by
 unfold intsB
 rw [List.take_succ_eq_append_getElem h,List.map_append,List.flatten_append]
 have e:ks.getD j 0=ks[j]:=by simp [List.getD,h]
 rw [e]
 simp only [List.map_cons,List.map_nil,List.flatten_cons,List.flatten_nil,List.append_nil]
theorem intsB_len (ks:List Int) (h:∀ n ∈ ks,I64 n):(intsB ks).length ≤ 22 * ks.length:=by
 induction ks with
 | nil=>simp [intsB]
 | cons n ks ih =>
  have h1:=numB_len n (h n (by simp))
  have h2:=ih (fun m hm=>h m (by simp [hm]))
  unfold intsB at h2 ⊢
  simp at h2 ⊢
  omega
open Go
set_option maxRecDepth 100000
def zeroD:List UInt8:=List.replicate 32 0
def zeroS:Sub:=⟨0,0,0,[],zeroD,zeroD⟩
def zeroR:Rep:=⟨0,0,[],zeroD,[],0,[],zeroD,[],zeroD⟩
def zeroB:Blo:=⟨0,0,[],zeroD⟩
def zeroP:Pen:=⟨0,0,0,0,zeroD,zeroD⟩
def zeroM (k c:Int):Msg:=⟨k,c,zeroS,zeroR,[],0,zeroD,zeroD,zeroB,[]⟩
abbrev Val:Type:=Int ⊕ (List UInt8 ⊕ (List UInt8 ⊕ (List Int ⊕ List Pen)))
abbrev Val.num (n:Int):Val:=.inl n
abbrev Val.txt (s:List UInt8):Val:=.inr (.inl s)
abbrev Val.dig (d:List UInt8):Val:=.inr (.inr (.inl d))
abbrev Val.nums (l:List Int):Val:=.inr (.inr (.inr (.inl l)))
abbrev Val.pens (l:List Pen):Val:=.inr (.inr (.inr (.inr l)))
theorem Val.cut {motive:Val→Prop} (num:∀ n,motive (.num n)) (txt:∀ s,motive (.txt s)) (dig:∀ d,motive (.dig d)) (nums:∀ l,motive (.nums l)) (pens:∀ l,motive (.pens l)) (v:Val):motive v:=by
 rcases v with n | n | n | n | n
 ·exact num n
 ·exact txt n
 ·exact dig n
 ·exact nums n
 ·exact pens n
abbrev Slot:Type:=Unit ⊕ (Unit ⊕ (Unit ⊕ (Unit ⊕ Unit)))
abbrev Slot.num:Slot:=.inl ()
abbrev Slot.txt:Slot:=.inr (.inl ())
abbrev Slot.dig:Slot:=.inr (.inr (.inl ()))
abbrev Slot.nums:Slot:=.inr (.inr (.inr (.inl ())))
abbrev Slot.pens:Slot:=.inr (.inr (.inr (.inr ())))
theorem Slot.cut {motive:Slot→Prop} (num:motive .num) (txt:motive .txt) (dig:motive .dig) (nums:motive .nums) (pens:motive .pens) (v:Slot):motive v:=by
 rcases v with ⟨⟩ | ⟨⟩ | ⟨⟩ | ⟨⟩ | ⟨⟩
 ·exact num
 ·exact txt
 ·exact dig
 ·exact nums
 ·exact pens
def Val.slot:Val→Slot
 | .inl _=>.num
 | .inr (.inl _)=>.txt
 | .inr (.inr (.inl _))=>.dig
 | .inr (.inr (.inr (.inl _)))=>.nums
 | .inr (.inr (.inr (.inr _)))=>.pens
def Val.n:Val→Int
 | .inl n=>n
 | _=>0
def Val.s:Val→List UInt8
 | .inr (.inl s)=>s
 | _=>[]
def Val.d:Val→List UInt8
 | .inr (.inr (.inl d))=>d
 | _=>zeroD
def Val.l:Val→List Int
 | .inr (.inr (.inr (.inl l)))=>l
 | _=>[]
def Val.p:Val→List Pen
 | .inr (.inr (.inr (.inr l)))=>l
 | _=>[]
def Slot.zero:Slot→Val
 | .inl _=>.num 0
 | .inr (.inl _)=>.txt []
 | .inr (.inr (.inl _))=>.dig zeroD
 | .inr (.inr (.inr (.inl _)))=>.nums []
 | .inr (.inr (.inr (.inr _)))=>.pens []
theorem zero_slot (k:Slot):k.zero.slot=k:=by cases k using Slot.cut <;> rfl
structure Fl (α:Type) where
 off:Nat
 slot:Slot
 get:α→Val
 set:α→Val→α
def pClient:Fl Pen:=⟨0,.num,fun x=>.num x.client,fun x v=>{ x with client:=v.n }⟩
def pNumber:Fl Pen:=⟨1,.num,fun x=>.num x.number,fun x v=>{ x with number:=v.n }⟩
def pKind:Fl Pen:=⟨2,.num,fun x=>.num x.kind,fun x v=>{ x with kind:=v.n }⟩
def pTarget:Fl Pen:=⟨3,.num,fun x=>.num x.target,fun x v=>{ x with target:=v.n }⟩
def pAsked:Fl Pen:=⟨4,.dig,fun x=>.dig x.asked,fun x v=>{ x with asked:=v.d }⟩
def pProof:Fl Pen:=⟨36,.dig,fun x=>.dig x.proof,fun x v=>{ x with proof:=v.d }⟩
def penFs:List (Fl Pen):=[pClient,pNumber,pKind,pTarget,pAsked,pProof]
def fClient:Fl Msg:=⟨1,.num,fun m=>.num m.client,fun m v=>{ m with client:=v.n }⟩
def fSNumber:Fl Msg:=⟨2,.num,fun m=>.num m.sub.number,fun m v=>{ m with sub:={ m.sub with number:=v.n } }⟩
def fSKind:Fl Msg:=⟨3,.num,fun m=>.num m.sub.kind,fun m v=>{ m with sub:={ m.sub with kind:=v.n } }⟩
def fSTarget:Fl Msg:=⟨4,.num,fun m=>.num m.sub.target,fun m v=>{ m with sub:={ m.sub with target:=v.n } }⟩
def fSValue:Fl Msg:=⟨5,.txt,fun m=>.txt m.sub.value,fun m v=>{ m with sub:={ m.sub with value:=v.s } }⟩
def fSAsked:Fl Msg:=⟨6,.dig,fun m=>.dig m.sub.asked,fun m v=>{ m with sub:={ m.sub with asked:=v.d } }⟩
def fSData:Fl Msg:=⟨38,.dig,fun m=>.dig m.sub.data,fun m v=>{ m with sub:={ m.sub with data:=v.d } }⟩
def fRNumber:Fl Msg:=⟨70,.num,fun m=>.num m.rep.number,fun m v=>{ m with rep:={ m.rep with number:=v.n } }⟩
def fRLast:Fl Msg:=⟨71,.num,fun m=>.num m.rep.last,fun m v=>{ m with rep:={ m.rep with last:=v.n } }⟩
def fRView:Fl Msg:=⟨72,.txt,fun m=>.txt m.rep.view,fun m v=>{ m with rep:={ m.rep with view:=v.s } }⟩
def fRCommit:Fl Msg:=⟨73,.dig,fun m=>.dig m.rep.commit,fun m v=>{ m with rep:={ m.rep with commit:=v.d } }⟩
def fRPend:Fl Msg:=⟨105,.pens,fun m=>.pens m.rep.pend,fun m v=>{ m with rep:={ m.rep with pend:=v.p } }⟩
def fRVnum:Fl Msg:=⟨106,.num,fun m=>.num m.rep.vnum,fun m v=>{ m with rep:={ m.rep with vnum:=v.n } }⟩
def fRValue:Fl Msg:=⟨107,.txt,fun m=>.txt m.rep.value,fun m v=>{ m with rep:={ m.rep with value:=v.s } }⟩
def fRData:Fl Msg:=⟨108,.dig,fun m=>.dig m.rep.data,fun m v=>{ m with rep:={ m.rep with data:=v.d } }⟩
def fRSeen:Fl Msg:=⟨140,.txt,fun m=>.txt m.rep.seen,fun m v=>{ m with rep:={ m.rep with seen:=v.s } }⟩
def fRTag:Fl Msg:=⟨141,.dig,fun m=>.dig m.rep.stag,fun m v=>{ m with rep:={ m.rep with stag:=v.d } }⟩
def fView:Fl Msg:=⟨173,.txt,fun m=>.txt m.view,fun m v=>{ m with view:=v.s }⟩
def fBy:Fl Msg:=⟨174,.num,fun m=>.num m.who,fun m v=>{ m with who:=v.n }⟩
def fTag:Fl Msg:=⟨175,.dig,fun m=>.dig m.tag,fun m v=>{ m with tag:=v.d }⟩
def fOwn:Fl Msg:=⟨207,.dig,fun m=>.dig m.own,fun m v=>{ m with own:=v.d }⟩
def fBOwner:Fl Msg:=⟨239,.num,fun m=>.num m.blob.owner,fun m v=>{ m with blob:={ m.blob with owner:=v.n } }⟩
def fBNumber:Fl Msg:=⟨240,.num,fun m=>.num m.blob.number,fun m v=>{ m with blob:={ m.blob with number:=v.n } }⟩
def fBCipher:Fl Msg:=⟨241,.txt,fun m=>.txt m.blob.cipher,fun m v=>{ m with blob:={ m.blob with cipher:=v.s } }⟩
def fBTag:Fl Msg:=⟨242,.dig,fun m=>.dig m.blob.tag,fun m v=>{ m with blob:={ m.blob with tag:=v.d } }⟩
def fNums:Fl Msg:=⟨274,.nums,fun m=>.nums m.nums,fun m v=>{ m with nums:=v.l }⟩
def subFs:List (Fl Msg):=[fClient,fSNumber,fSKind,fSTarget,fSValue,fSAsked,fSData]
def repFs:List (Fl Msg):=[fRNumber,fRLast,fRView,fRCommit,fRPend,fRVnum,fRValue,fRData,fRSeen,fRTag]
def comFs:List (Fl Msg):=[fClient,fView,fTag]
def bloFs:List (Fl Msg):=[fBOwner,fBNumber,fBCipher,fBTag]
def lstFs:List (Fl Msg):=[fClient,fNums]
def proFs:List (Fl Msg):=[fClient]
def verFs:List (Fl Msg):=[fClient,fBy,fView,fTag,fOwn]
def alaFs:List (Fl Msg):=[fClient,fOwn]
def fieldsM (k:Int):List (Fl Msg) :=
 if k=1 then subFs else if k=2 then repFs else if k=3 then comFs else if k=4 ∨ k=6 then bloFs else
 if k=5 ∨ k=7 ∨ k=8 then lstFs else if k=9 then proFs else if k=10 then verFs else if k=11 then alaFs else []
def putAll {α:Type} (f:Val→List UInt8) (fs:List (Fl α)) (x:α):List UInt8:=(fs.map fun g=>f (g.get x)).flatten
def emptyAll {α:Type}:List (Fl α)→α→α
 | [],x=>x
 | g :: fs,x=>emptyAll fs (g.set x g.slot.zero)
def rdAll {α:Type} (rd:Slot→List UInt8→Nat→Nat × Val × Nat):List (Fl α)→α→List UInt8→Nat→Nat × α × Nat
 | [],x,_,p=>(0,x,p)
 | g :: fs,x,s,p=>if (rd g.slot s p).1 ≠ 0 then ((rd g.slot s p).1,x,0) else rdAll rd fs (g.set x (rd g.slot s p).2.1) s (rd g.slot s p).2.2
def layT (s:List UInt8):List UInt8:=txtB (if 16384 < s.length then [] else s)
def layNs (l:List Int):List UInt8:=if 512 < l.length then [] else 40 :: (intsB l++[41])
def layBase:Val→List UInt8
 | .inl n=>numB n
 | .inr (.inl s)=>layT s
 | .inr (.inr (.inl d))=>txtB d
 | .inr (.inr (.inr (.inl l)))=>layNs l
 | .inr (.inr (.inr (.inr _)))=>[]
def layPen (p:Pen):List UInt8:=putAll layBase penFs p
def layVal:Val→List UInt8
 | .inr (.inr (.inr (.inr l)))=>numB l.length++(l.map layPen).flatten
 | v=>layBase v
def putM (m:Msg):List UInt8:=numB m.kind++putAll layVal (fieldsM m.kind) m
open Go
set_option maxRecDepth 100000
structure penOk (p:Pen):Prop where
 client:I64 p.client
 number:I64 p.number
 kind:I64 p.kind
 target:I64 p.target
 asked:p.asked.length=32
 proof:p.proof.length=32
def okBase:Val→Prop
 | .inl n=>I64 n
 | .inr (.inl s)=>s.length ≤ 16384
 | .inr (.inr (.inl d))=>d.length=32
 | .inr (.inr (.inr (.inl l)))=>l.length ≤ 512∧∀ n ∈ l,I64 n
 | .inr (.inr (.inr (.inr _)))=>False
def okVal:Val→Prop
 | .inr (.inr (.inr (.inr l)))=>l.length ≤ 8∧∀ p ∈ l,penOk p
 | v=>okBase v
theorem of_num {v:Val} (h:v.slot = .num):∃ n,v = .num n:=by cases v using Val.cut with | num n=>exact ⟨n,rfl⟩ | txt _=>cases h | dig _=>cases h | nums _=>cases h | pens _=>cases h
theorem of_txt {v:Val} (h:v.slot = .txt):∃ n,v = .txt n:=by cases v using Val.cut with | txt n=>exact ⟨n,rfl⟩ | num _=>cases h | dig _=>cases h | nums _=>cases h | pens _=>cases h
theorem of_dig {v:Val} (h:v.slot = .dig):∃ n,v = .dig n:=by cases v using Val.cut with | dig n=>exact ⟨n,rfl⟩ | txt _=>cases h | num _=>cases h | nums _=>cases h | pens _=>cases h
theorem of_nums {v:Val} (h:v.slot = .nums):∃ n,v = .nums n:=by cases v using Val.cut with | nums n=>exact ⟨n,rfl⟩ | txt _=>cases h | dig _=>cases h | num _=>cases h | pens _=>cases h
theorem of_pens {v:Val} (h:v.slot = .pens):∃ n,v = .pens n:=by cases v using Val.cut with | pens n=>exact ⟨n,rfl⟩ | txt _=>cases h | dig _=>cases h | nums _=>cases h | num _=>cases h
end Go.Proofs.YthkkjjlpahdagaaGreatDoor.Ms
namespace Go.Proofs.YthkkjjlpahdagaaGreatDoor.Hist
open Go
set_option maxRecDepth 100000
def bv (c:UInt8):Int:=(c.toNat:Int)
theorem bv_range (c:UInt8):0 ≤ bv c∧bv c < 256:=by
 have:=c.toNat_lt
 unfold bv
 omega
def cnt (h:List UInt8) (c:Int):Nat:=h.countP (fun b=>bv b == c)
def hit (h:List UInt8) (c n:Int) (i:Nat):Bool:=bv (h.getD i 0) == c && ((cnt (h.take (i + 1)) c:Int) == n)
def plc (h:List UInt8) (c n:Int):Option Nat:=(List.range h.length).find? (hit h c n)
def placeI (h:List UInt8) (c n:Int):Int:=match plc h c n with | some i=>(i:Int) | none=>-1
def rightB (h:List UInt8) (n:Int):Bool:=decide (1 ≤ n) && decide (n ≤ 256) && decide (h.length ≤ 512) && h.all (fun b=>decide (bv b < n))
def uptoL (h:List UInt8) (c:Int):List UInt8:=h.take (placeI h c (cnt h c) + 1).toNat
def goesB (l s:List UInt8):Bool:=s.isPrefixOf l
theorem take_snoc (s:List UInt8) (j:Nat) (h:j < s.length):s.take (j + 1)=s.take j++[s.getD j 0]:=by
 rw [List.take_succ_eq_append_getElem h]
 simp [List.getD,h]
theorem cnt_append (a b:List UInt8) (c:Int):cnt (a++b) c=cnt a c + cnt b c:=by simp [cnt]
theorem cnt_one (x:UInt8) (c:Int):cnt [x] c=if bv x=c then 1 else 0:=by
 by_cases h:bv x=c <;> simp [cnt,h]
theorem cnt_step (h:List UInt8) (k:Nat) (hk:k < h.length) (c:Int):cnt (h.take (k + 1)) c=cnt (h.take k) c + if bv (h.getD k 0)=c then 1 else 0:=by
 rw [take_snoc h k hk,cnt_append,cnt_one]
theorem cnt_le (h:List UInt8) (c:Int):cnt h c ≤ h.length:=List.countP_le_length
theorem cnt_take_le (h:List UInt8) (k:Nat) (c:Int):cnt (h.take k) c ≤ cnt h c:=by
 have e:=cnt_append (h.take k) (h.drop k) c
 rw [List.take_append_drop] at e
 omega
theorem cnt_all (h:List UInt8) (c:Int):cnt (h.take h.length) c=cnt h c:=by rw [List.take_length]
theorem plc_some {h:List UInt8} {c n:Int} {i:Nat} (hi:i < h.length) (ht:hit h c n i=true) (hn:∀ j,j < i→hit h c n j=false):placeI h c n=(i:Int):=by
 have:plc h c n=some i:=by
  unfold plc
  rw [List.find?_range_eq_some]
  exact ⟨ht,List.mem_range.2 hi,fun j hj=>by simp [hn j hj]⟩
 unfold placeI
 rw [this]
theorem plc_none {h:List UInt8} {c n:Int} (hn:∀ j,j < h.length→hit h c n j=false):placeI h c n = -1:=by
 have:plc h c n=none:=by
  unfold plc
  rw [List.find?_eq_none]
  intro j hj
  rw [hn j (List.mem_range.1 hj)]
  exact Bool.false_ne_true
 unfold placeI
 rw [this]
theorem plc_cases (h:List UInt8) (c n:Int):(placeI h c n = -1∧∀ j,j < h.length→hit h c n j=false) ∨ ∃ i,i < h.length∧placeI h c n=(i:Int)∧hit h c n i=true∧∀ j,j < i→hit h c n j=false:=by
 cases hq:plc h c n with
 | none =>
  refine .inl ⟨by unfold placeI;rw [hq],fun j hj=>?_⟩
  unfold plc at hq
  rw [List.find?_eq_none] at hq
  have:=hq j (List.mem_range.2 hj)
  simpa using this
 | some i =>
  have hq':=hq
  unfold plc at hq'
  rw [List.find?_range_eq_some] at hq'
  obtain ⟨h1,h2,h3⟩:=hq'
  exact .inr ⟨i,List.mem_range.1 h2,by unfold placeI;rw [hq],h1,fun j hj=>by simpa using h3 j hj⟩
theorem place_range (h:List UInt8) (c n:Int):-1 ≤ placeI h c n∧placeI h c n < h.length:=by
 rcases plc_cases h c n with ⟨e,_⟩ | ⟨i,hi,e,_⟩ <;> rw [e] <;> omega
theorem hit_iff (h:List UInt8) (c n:Int) (i:Nat):hit h c n i=true ↔ bv (h.getD i 0)=c∧(cnt (h.take (i + 1)) c:Int)=n:=by
 simp [hit]
theorem right_false1 (h:List UInt8) (n:Int) (h1:n < 1):rightB h n=false:=by unfold rightB;rw [decide_eq_false (by omega:¬ 1 ≤ n)];rfl
theorem right_false2 (h:List UInt8) (n:Int) (h1:256 < n):rightB h n=false:=by unfold rightB;rw [decide_eq_false (by omega:¬ n ≤ 256)];simp
theorem right_false3 (h:List UInt8) (n:Int) (h1:512 < h.length):rightB h n=false:=by unfold rightB;rw [decide_eq_false (by omega:¬ h.length ≤ 512)];simp
theorem right_false4 (h:List UInt8) (n:Int) (k:Nat) (hk:k < h.length) (h1:n ≤ bv (h.getD k 0)):rightB h n=false:=by
 unfold rightB
 have:h.all (fun b=>decide (bv b < n))=false:=by
  rw [List.all_eq_false]
  refine ⟨h.getD k 0,?_,by simpa using h1⟩
  simp [List.getD,hk]
 rw [this];simp
theorem right_true (h:List UInt8) (n:Int) (h1:¬ n < 1) (h2:¬ 256 < n) (h3:¬ 512 < h.length) (h4:∀ j,j < h.length→bv (h.getD j 0) < n):rightB h n=true:=by
 unfold rightB
 have:h.all (fun b=>decide (bv b < n))=true:=by
  rw [List.all_eq_true]
  intro b hb
  obtain ⟨j,hj,rfl⟩:=List.getElem_of_mem hb
  have:=h4 j hj
  simp [List.getD,hj] at this
  simpa using this
 rw [this,decide_eq_true (by omega:1 ≤ n),decide_eq_true (by omega:n ≤ 256),decide_eq_true (by omega:h.length ≤ 512)];rfl
def opA (h:List UInt8) (k:Nat):Array Value:=#[.int .i64 (bv (h.getD k 0)),.int .i64 (cnt (h.take (k + 1)) (bv (h.getD k 0)))]
def opsA (h:List UInt8):List (Array Value):=(List.range h.length).map (opA h)
theorem opsA_len (h:List UInt8):(opsA h).length=h.length:=by simp [opsA]
theorem opsA_at {h:List UInt8} {k:Nat} {x:Array Value} (hx:(opsA h)[k]? = some x):k < h.length∧x=opA h k:=by
 unfold opsA at hx
 rw [List.getElem?_map] at hx
 by_cases hk:k < h.length
 ·rw [List.getElem?_range hk] at hx
  simp at hx
  exact ⟨hk,hx.symm⟩
 ·rw [List.getElem?_eq_none (by simpa using hk)] at hx
  simp at hx
theorem opsA_get {h:List UInt8} {k:Nat} (hk:k < h.length):(opsA h)[k]? = some (opA h k):=by
 unfold opsA
 rw [List.getElem?_map,List.getElem?_range hk]
 rfl
theorem opsA_mem {h:List UInt8} {x:Array Value} (hx:x ∈ opsA h):∃ k,k < h.length∧x=opA h k:=by
 obtain ⟨k,hk,rfl⟩:=List.mem_map.1 hx
 exact ⟨k,List.mem_range.1 hk,rfl⟩
def cntsL (h:List UInt8) (k:Nat):List Value:=(List.range 256).map fun (c:Nat)=>Value.int .i64 (cnt (h.take k) (c:Int))
theorem cntsL_len (h:List UInt8) (k:Nat):(cntsL h k).length=256:=by simp [cntsL]
theorem cntsL_at (h:List UInt8) (k c:Nat) (hc:c < 256):(cntsL h k)[c]? = some (.int .i64 (cnt (h.take k) (c:Int))):=by
 unfold cntsL
 rw [List.getElem?_map,List.getElem?_range hc]
 rfl
theorem cntsL_step (h:List UInt8) (k:Nat) (hk:k < h.length) :
  (cntsL h k).set (h.getD k 0).toNat (.int .i64 ((cnt (h.take k) (bv (h.getD k 0)):Int) + 1))=cntsL h (k + 1):=by
 apply List.ext_getElem?
 intro i
 by_cases hi:i < 256
 ·rw [List.getElem?_set,cntsL_at h _ i hi,cntsL_at h _ i hi,cntsL_len,cnt_step h k hk]
  by_cases he:(h.getD k 0).toNat=i
  ·rw [if_pos he,if_pos (by omega)]
   have e2:bv (h.getD k 0)=(i:Int):=by unfold bv;omega
   rw [if_pos e2,e2]
   rfl
  ·have e2:¬ bv (h.getD k 0)=(i:Int):=by unfold bv;omega
   rw [if_neg he,if_neg e2]
   rfl
 ·rw [List.getElem?_eq_none (by simp [cntsL_len];omega),List.getElem?_eq_none (by simp [cntsL_len];omega)]
theorem cntsL_zero (h:List UInt8):cntsL h 0=List.replicate 256 (.int .i64 0):=by
 apply List.ext_getElem?
 intro i
 by_cases hi:i < 256
 ·rw [cntsL_at h _ i hi,List.getElem?_replicate,if_pos hi]
  rfl
 ·rw [List.getElem?_eq_none (by simp [cntsL_len];omega),List.getElem?_eq_none (by simp;omega)]
end Go.Proofs.YthkkjjlpahdagaaGreatDoor.Hist
