/- S01 -/
import Derived.WalkKit
import Derived.Lib.AtoiAll
import Derived.Lib.ItoaNum
import Derived.Test.YtagmnmoaekbffaaGreatDoorChecked
import Derived.DeepKeys
import Derived.Laws.StructEq
import Derived.Laws.Rows
import Derived.Laws.CopyRow
import Derived.Laws.AppendOwn
import Derived.Below
import Derived.BigQuiet
import Derived.Lib.QuietBelow
import Derived.Deep.CutBlock
import Derived.Deep.CutRange
set_option maxHeartbeats 2000000
namespace Go.Proofs.YtagmnmoaekbffaaGreatDoor.Ms
open Go.Proofs.Tryz
open Go
set_option maxRecDepth 100000
def bv (c:UInt8):Int:=(c.toNat:Int)
abbrev cb (c:UInt8):Value:=.int .u8 (bv c)
def dg (d:List UInt8):List Value:=d.map cb
abbrev st (s:List UInt8):Value:=.string ⟨s.toArray⟩
abbrev nu (n:Int):Value:=.int .i64 n
structure Sub where
 number:Int
 kind:Int
 target:Int
 value:List UInt8
 asked:List UInt8
 data:List UInt8
structure Pen where
 client:Int
 number:Int
 kind:Int
 target:Int
 asked:List UInt8
 proof:List UInt8
structure Rep where
 number:Int
 last:Int
 view:List UInt8
 commit:List UInt8
 pend:List Pen
 vnum:Int
 value:List UInt8
 data:List UInt8
 seen:List UInt8
 stag:List UInt8
structure Blo where
 owner:Int
 number:Int
 cipher:List UInt8
 tag:List UInt8
structure Msg where
 kind:Int
 client:Int
 sub:Sub
 rep:Rep
 view:List UInt8
 who:Int
 tag:List UInt8
 own:List UInt8
 blob:Blo
 nums:List Int
def subC (x:Sub):List Value:=[nu x.number,nu x.kind,nu x.target,st x.value]++(dg x.asked++dg x.data)
def penC (x:Pen):List Value:=[nu x.client,nu x.number,nu x.kind,nu x.target]++(dg x.asked++dg x.proof)
def repC (x:Rep) (vP:Value):List Value:=[nu x.number,nu x.last,st x.view]++(dg x.commit++([vP,nu x.vnum,st x.value]++(dg x.data++([st x.seen]++dg x.stag))))
def bloC (x:Blo):List Value:=[nu x.owner,nu x.number,st x.cipher]++dg x.tag
def msgC (m:Msg) (vP vN:Value):List Value:=[nu m.kind,nu m.client]++(subC m.sub++(repC m.rep vP++([st m.view,nu m.who]++(dg m.tag++(dg m.own++(bloC m.blob++[vN]))))))
structure Sub.Wf (x:Sub):Prop where
 asked:x.asked.length=32
 data:x.data.length=32
structure Pen.Wf (x:Pen):Prop where
 asked:x.asked.length=32
 proof:x.proof.length=32
structure Rep.Wf (x:Rep):Prop where
 commit:x.commit.length=32
 data:x.data.length=32
 stag:x.stag.length=32
 pend:∀ p ∈ x.pend,p.Wf
structure Blo.Wf (x:Blo):Prop where
 tag:x.tag.length=32
structure Msg.Wf (m:Msg):Prop where
 sub:m.sub.Wf
 rep:m.rep.Wf
 tag:m.tag.length=32
 own:m.own.length=32
 blob:m.blob.Wf
theorem a0e (d:List UInt8):(dg d).length=d.length:=by simp [dg]
theorem a0h {x:Sub} (h:x.Wf):(subC x).length=68:=by simp [subC,a0e,h.asked,h.data]
theorem a0K {x:Pen} (h:x.Wf):(penC x).length=68:=by simp [penC,a0e,h.asked,h.proof]
theorem a0j {x:Rep} (h:x.Wf) (vP:Value):(repC x vP).length=103:=by simp [repC,a0e,h.commit,h.data,h.stag]
theorem a0S {x:Blo} (h:x.Wf):(bloC x).length=35:=by simp [bloC,a0e,h.tag]
theorem d0q {m:Msg} (h:m.Wf) (vP vN:Value):(msgC m vP vN).length=275:=by
 simp [msgC,a0e,h.tag,h.own,a0h h.sub,a0j h.rep,a0S h.blob]
theorem v0d {α:Type} (A cs C:List α) (off j:Nat) (v:α) (hA:A.length=off) (hj:cs[j]? = some v):(A++(cs++C))[off + j]? = some v:=by
 subst hA;rw [List.getElem?_append_right (by omega)];have hl:=(List.getElem?_eq_some_iff.1 hj).1;rw [show A.length + j - A.length=j by omega,List.getElem?_append_left hl];exact hj
def f0s (a b:Sub):Bool:=a.number == b.number && (a.kind == b.kind && (a.target == b.target && (a.value == b.value && (a.asked == b.asked && a.data == b.data))))
def c0C (a b:Pen):Bool:=a.client == b.client && (a.number == b.number && (a.kind == b.kind && (a.target == b.target && (a.asked == b.asked && a.proof == b.proof))))
def j0n (a b:Blo):Bool:=a.owner == b.owner && (a.number == b.number && (a.cipher == b.cipher && a.tag == b.tag))
def e0C {α:Type} (f:α->α->Bool):List α->List α->Bool
 | [],[]=>true
 | x :: xs,y :: ys=>f x y && e0C f xs ys
 | _,_=>false
def b0Y (a b:Rep):Bool:=a.number == b.number && (a.last == b.last && (a.view == b.view && (a.commit == b.commit && (e0C c0C a.pend b.pend && (a.vnum == b.vnum && (a.value == b.value && (a.data == b.data && (a.seen == b.seen && a.stag == b.stag))))))))
def b0Z (a b:Msg):Bool:=a.kind == b.kind && (a.client == b.client && (f0s a.sub b.sub && (b0Y a.rep b.rep && (a.view == b.view && (a.who == b.who && (a.tag == b.tag && (a.own == b.own && (j0n a.blob b.blob && a.nums == b.nums))))))))
theorem p0m (a b:Sub):f0s a b=true ↔ a=b:=by
 obtain ⟨a1,a2,a3,a4,a5,a6⟩:=a;obtain ⟨b1,b2,b3,b4,b5,b6⟩:=b;simp [f0s]
theorem c0E (a b:Pen):c0C a b=true ↔ a=b:=by
 obtain ⟨a1,a2,a3,a4,a5,a6⟩:=a;obtain ⟨b1,b2,b3,b4,b5,b6⟩:=b;simp [c0C]
theorem p0n (a b:Blo):j0n a b=true ↔ a=b:=by
 obtain ⟨a1,a2,a3,a4⟩:=a;obtain ⟨b1,b2,b3,b4⟩:=b;simp [j0n]
theorem d0U {α:Type} (f:α->α->Bool) (hf:∀ x y,f x y=true ↔ x=y):∀ a b:List α,e0C f a b=true ↔ a=b
 | [],[]=>by simp [e0C]
 | [],y :: ys=>by simp [e0C]
 | x :: xs,[]=>by simp [e0C]
 | x :: xs,y :: ys=>by simp [e0C,hf x y,d0U f hf xs ys]
theorem p0o (a b:Rep):b0Y a b=true ↔ a=b:=by
 obtain ⟨a1,a2,a3,a4,a5,a6,a7,a8,a9,a10⟩:=a;obtain ⟨b1,b2,b3,b4,b5,b6,b7,b8,b9,b10⟩:=b;simp [b0Y,d0U c0C c0E]
theorem f0E (a b:Msg):b0Z a b=true ↔ a=b:=by
 obtain ⟨a1,a2,a3,a4,a5,a6,a7,a8,a9,a10⟩:=a;obtain ⟨b1,b2,b3,b4,b5,b6,b7,b8,b9,b10⟩:=b;simp [b0Z,p0m,p0o,p0n]
open Go
set_option maxRecDepth 100000
def I64 (n:Int):Prop:=-9223372036854775808 <= n/\n <= 9223372036854775807
def numB (n:Int):List UInt8:=Lib.itoa n++[59]
def txtB (s:List UInt8):List UInt8:=Lib.decDigits s.length++[58]++s
def e0A (l:List Int):List UInt8:=(l.map numB).flatten
theorem nDigits_le20 (u:Nat) (h:u < 18446744073709551616):Lib.nDigits u <= 20:=by
 rcases Nat.eq_zero_or_pos u with h0 | h0
 ·subst h0;rw [Lib.nDigits_small (by omega)];omega
 ·have:=Lib.numDigits_eq u h0 h;split at this <;> omega
theorem j0o (u:Nat) (h:u < 18446744073709551616):(Lib.decDigits u).length <= 20:=by rw [Lib.decDigits_length];exact nDigits_le20 u h
theorem b0e (n:Int) (h:I64 n):(numB n).length <= 22:=by
 unfold numB Lib.itoa;obtain ⟨h0,h1⟩:=h
 split
 ·have:=nDigits_le20 n.natAbs (by omega);rw [List.length_append,List.length_cons,Lib.decDigits_length];simp;omega
 ·have:=nDigits_le20 n.toNat (by omega);rw [List.length_append,Lib.decDigits_length];simp;omega
theorem e0i (s:List UInt8) (h:s.length < 18446744073709551616):(txtB s).length <= s.length + 21:=by
 have:=j0o s.length h;unfold txtB;simp only [List.length_append,List.length_cons,List.length_nil];omega
theorem d0w (x y:List UInt8):(⟨x.toArray⟩ ++ ⟨y.toArray⟩:ByteArray)=⟨(x++y).toArray⟩:=by
 apply ByteArray.ext;simp
theorem o0c (ks:List Int) (j:Nat) (h:j < ks.length):e0A (ks.take (j + 1))=e0A (ks.take j)++numB (ks.getD j 0):=by
 unfold e0A;rw [List.take_succ_eq_append_getElem h,List.map_append,List.flatten_append];have e:ks.getD j 0=ks[j]:=by simp [List.getD,h]
 rw [e];simp only [List.map_cons,List.map_nil,List.flatten_cons,List.flatten_nil,List.append_nil]
theorem k0u (ks:List Int) (h:∀ n ∈ ks,I64 n):(e0A ks).length <= 22 * ks.length:=by
 induction ks with
 | nil=>simp [e0A]
 | cons n ks ih =>
  have h1:=b0e n (h n (by simp));have h2:=ih (fun m hm=>h m (by simp [hm]));unfold e0A at h2 ⊢;simp at h2 ⊢;omega
open Go
set_option maxRecDepth 100000
def a0n:List UInt8:=List.replicate 32 0
def c0j:Sub:=⟨0,0,0,[],a0n,a0n⟩
def a0p:Rep:=⟨0,0,[],a0n,[],0,[],a0n,[],a0n⟩
def o0d:Blo:=⟨0,0,[],a0n⟩
def c0Q:Pen:=⟨0,0,0,0,a0n,a0n⟩
def b0m (k c:Int):Msg:=⟨k,c,c0j,a0p,[],0,a0n,a0n,o0d,[]⟩
abbrev Val:Type:=Int ⊕ (List UInt8 ⊕ (List UInt8 ⊕ (List Int ⊕ List Pen)))
abbrev Val.num (n:Int):Val:=.inl n
abbrev Val.txt (s:List UInt8):Val:=.inr (.inl s)
abbrev Val.dig (d:List UInt8):Val:=.inr (.inr (.inl d))
abbrev Val.nums (l:List Int):Val:=.inr (.inr (.inr (.inl l)))
abbrev Val.pens (l:List Pen):Val:=.inr (.inr (.inr (.inr l)))
theorem Val.cut {motive:Val->Prop} (num:∀ n,motive (.num n)) (txt:∀ s,motive (.txt s)) (dig:∀ d,motive (.dig d)) (nums:∀ l,motive (.nums l)) (pens:∀ l,motive (.pens l)) (v:Val):motive v:=by
 rcases v with n | n | n | n | n
 ·exact num n
 ·exact txt n
 ·exact dig n
 ·exact nums n
 ·exact pens n
abbrev Slot:Type:=Unit ⊕ (Unit ⊕ (Unit ⊕ (Unit ⊕ Unit)))
abbrev Slot.num:Slot:=.inl ()
abbrev Slot.txt:Slot:=.inr (.inl ())
abbrev Slot.dig:Slot:=.inr (.inr (.inl ()))
abbrev Slot.nums:Slot:=.inr (.inr (.inr (.inl ())))
abbrev Slot.pens:Slot:=.inr (.inr (.inr (.inr ())))
theorem Slot.cut {motive:Slot->Prop} (num:motive .num) (txt:motive .txt) (dig:motive .dig) (nums:motive .nums) (pens:motive .pens) (v:Slot):motive v:=by
 rcases v with ⟨⟩ | ⟨⟩ | ⟨⟩ | ⟨⟩ | ⟨⟩
 ·exact num
 ·exact txt
 ·exact dig
 ·exact nums
 ·exact pens
def Val.slot:Val->Slot
 | .inl _=>.num
 | .inr (.inl _)=>.txt
 | .inr (.inr (.inl _))=>.dig
 | .inr (.inr (.inr (.inl _)))=>.nums
 | .inr (.inr (.inr (.inr _)))=>.pens
def Val.n:Val->Int
 | .inl n=>n
 | _=>0
def Val.s:Val->List UInt8
 | .inr (.inl s)=>s
 | _=>[]
def Val.d:Val->List UInt8
 | .inr (.inr (.inl d))=>d
 | _=>a0n
def Val.l:Val->List Int
 | .inr (.inr (.inr (.inl l)))=>l
 | _=>[]
def Val.p:Val->List Pen
 | .inr (.inr (.inr (.inr l)))=>l
 | _=>[]
def Slot.zero:Slot->Val
 | .inl _=>.num 0
 | .inr (.inl _)=>.txt []
 | .inr (.inr (.inl _))=>.dig a0n
 | .inr (.inr (.inr (.inl _)))=>.nums []
 | .inr (.inr (.inr (.inr _)))=>.pens []
theorem p0p (k:Slot):k.zero.slot=k:=by cases k using Slot.cut <;> rfl
structure Fl (α:Type) where
 off:Nat
 slot:Slot
 get:α->Val
 set:α->Val->α
def j0p:Fl Pen:=⟨0,.num,fun x=>.num x.client,fun x v=>{ x with client:=v.n }⟩
def j0q:Fl Pen:=⟨1,.num,fun x=>.num x.number,fun x v=>{ x with number:=v.n }⟩
def r0P:Fl Pen:=⟨2,.num,fun x=>.num x.kind,fun x v=>{ x with kind:=v.n }⟩
def j0r:Fl Pen:=⟨3,.num,fun x=>.num x.target,fun x v=>{ x with target:=v.n }⟩
def n0e:Fl Pen:=⟨4,.dig,fun x=>.dig x.asked,fun x v=>{ x with asked:=v.d }⟩
def k0v:Fl Pen:=⟨36,.dig,fun x=>.dig x.proof,fun x v=>{ x with proof:=v.d }⟩
def i0h:List (Fl Pen):=[j0p,j0q,r0P,j0r,n0e,k0v]
def b0P:Fl Msg:=⟨1,.num,fun m=>.num m.client,fun m v=>{ m with client:=v.n }⟩
def e0Q:Fl Msg:=⟨2,.num,fun m=>.num m.sub.number,fun m v=>{ m with sub:={ m.sub with number:=v.n } }⟩
def i0v:Fl Msg:=⟨3,.num,fun m=>.num m.sub.kind,fun m v=>{ m with sub:={ m.sub with kind:=v.n } }⟩
def e0R:Fl Msg:=⟨4,.num,fun m=>.num m.sub.target,fun m v=>{ m with sub:={ m.sub with target:=v.n } }⟩
def g0a:Fl Msg:=⟨5,.txt,fun m=>.txt m.sub.value,fun m v=>{ m with sub:={ m.sub with value:=v.s } }⟩
def g0b:Fl Msg:=⟨6,.dig,fun m=>.dig m.sub.asked,fun m v=>{ m with sub:={ m.sub with asked:=v.d } }⟩
def g0Y:Fl Msg:=⟨38,.dig,fun m=>.dig m.sub.data,fun m v=>{ m with sub:={ m.sub with data:=v.d } }⟩
def e0j:Fl Msg:=⟨70,.num,fun m=>.num m.rep.number,fun m v=>{ m with rep:={ m.rep with number:=v.n } }⟩
def g0Z:Fl Msg:=⟨71,.num,fun m=>.num m.rep.last,fun m v=>{ m with rep:={ m.rep with last:=v.n } }⟩
def h0a:Fl Msg:=⟨72,.txt,fun m=>.txt m.rep.view,fun m v=>{ m with rep:={ m.rep with view:=v.s } }⟩
def e0k:Fl Msg:=⟨73,.dig,fun m=>.dig m.rep.commit,fun m v=>{ m with rep:={ m.rep with commit:=v.d } }⟩
def h0b:Fl Msg:=⟨105,.pens,fun m=>.pens m.rep.pend,fun m v=>{ m with rep:={ m.rep with pend:=v.p } }⟩
def h0c:Fl Msg:=⟨106,.num,fun m=>.num m.rep.vnum,fun m v=>{ m with rep:={ m.rep with vnum:=v.n } }⟩
def f0t:Fl Msg:=⟨107,.txt,fun m=>.txt m.rep.value,fun m v=>{ m with rep:={ m.rep with value:=v.s } }⟩
def h0d:Fl Msg:=⟨108,.dig,fun m=>.dig m.rep.data,fun m v=>{ m with rep:={ m.rep with data:=v.d } }⟩
def h0e:Fl Msg:=⟨140,.txt,fun m=>.txt m.rep.seen,fun m v=>{ m with rep:={ m.rep with seen:=v.s } }⟩
def l0S:Fl Msg:=⟨141,.dig,fun m=>.dig m.rep.stag,fun m v=>{ m with rep:={ m.rep with stag:=v.d } }⟩
def j0s:Fl Msg:=⟨173,.txt,fun m=>.txt m.view,fun m v=>{ m with view:=v.s }⟩
def fBy:Fl Msg:=⟨174,.num,fun m=>.num m.who,fun m v=>{ m with who:=v.n }⟩
def fTag:Fl Msg:=⟨175,.dig,fun m=>.dig m.tag,fun m v=>{ m with tag:=v.d }⟩
def fOwn:Fl Msg:=⟨207,.dig,fun m=>.dig m.own,fun m v=>{ m with own:=v.d }⟩
def g0c:Fl Msg:=⟨239,.num,fun m=>.num m.blob.owner,fun m v=>{ m with blob:={ m.blob with owner:=v.n } }⟩
def e0S:Fl Msg:=⟨240,.num,fun m=>.num m.blob.number,fun m v=>{ m with blob:={ m.blob with number:=v.n } }⟩
def e0T:Fl Msg:=⟨241,.txt,fun m=>.txt m.blob.cipher,fun m v=>{ m with blob:={ m.blob with cipher:=v.s } }⟩
def o0e:Fl Msg:=⟨242,.dig,fun m=>.dig m.blob.tag,fun m v=>{ m with blob:={ m.blob with tag:=v.d } }⟩
def o0f:Fl Msg:=⟨274,.nums,fun m=>.nums m.nums,fun m v=>{ m with nums:=v.l }⟩
def k0w:List (Fl Msg):=[b0P,e0Q,i0v,e0R,g0a,g0b,g0Y]
def l0T:List (Fl Msg):=[e0j,g0Z,h0a,e0k,h0b,h0c,f0t,h0d,h0e,l0S]
def k0x:List (Fl Msg):=[b0P,j0s,fTag]
def l0U:List (Fl Msg):=[g0c,e0S,e0T,o0e]
def l0V:List (Fl Msg):=[b0P,o0f]
def k0y:List (Fl Msg):=[b0P]
def l0W:List (Fl Msg):=[b0P,fBy,j0s,fTag,fOwn]
def l0X:List (Fl Msg):=[b0P,fOwn]
def a0T (k:Int):List (Fl Msg) :=
 if k=1 then k0w else if k=2 then l0T else if k=3 then k0x else if k=4 ∨ k=6 then l0U else
 if k=5 ∨ k=7 ∨ k=8 then l0V else if k=9 then k0y else if k=10 then l0W else if k=11 then l0X else []
def c0F {α:Type} (f:Val->List UInt8) (fs:List (Fl α)) (x:α):List UInt8:=(fs.map fun g=>f (g.get x)).flatten
def a0U {α:Type}:List (Fl α)->α->α
 | [],x=>x
 | g :: fs,x=>a0U fs (g.set x g.slot.zero)
def x0c {α:Type} (rd:Slot->List UInt8->Nat->Nat × Val × Nat):List (Fl α)->α->List UInt8->Nat->Nat × α × Nat
 | [],x,_,p=>(0,x,p)
 | g :: fs,x,s,p=>if (rd g.slot s p).1 ≠ 0 then ((rd g.slot s p).1,x,0) else x0c rd fs (g.set x (rd g.slot s p).2.1) s (rd g.slot s p).2.2
def layT (s:List UInt8):List UInt8:=txtB (if 16384 < s.length then [] else s)
def j0t (l:List Int):List UInt8:=if 512 < l.length then [] else 40 :: (e0A l++[41])
def p0q:Val->List UInt8
 | .inl n=>numB n
 | .inr (.inl s)=>layT s
 | .inr (.inr (.inl d))=>txtB d
 | .inr (.inr (.inr (.inl l)))=>j0t l
 | .inr (.inr (.inr (.inr _)))=>[]
def d0x (p:Pen):List UInt8:=c0F p0q i0h p
def b0i:Val->List UInt8
 | .inr (.inr (.inr (.inr l)))=>numB l.length++(l.map d0x).flatten
 | v=>p0q v
def putM (m:Msg):List UInt8:=numB m.kind++c0F b0i (a0T m.kind) m
open Go
set_option maxRecDepth 100000
structure penOk (p:Pen):Prop where
 client:I64 p.client
 number:I64 p.number
 kind:I64 p.kind
 target:I64 p.target
 asked:p.asked.length=32
 proof:p.proof.length=32
def v0e:Val->Prop
 | .inl n=>I64 n
 | .inr (.inl s)=>s.length <= 16384
 | .inr (.inr (.inl d))=>d.length=32
 | .inr (.inr (.inr (.inl l)))=>l.length <= 512/\∀ n ∈ l,I64 n
 | .inr (.inr (.inr (.inr _)))=>False
def d0V:Val->Prop
 | .inr (.inr (.inr (.inr l)))=>l.length <= 8/\∀ p ∈ l,penOk p
 | v=>v0e v
theorem b0q {v:Val} (h:v.slot = .num):∃ n,v = .num n:=by cases v using Val.cut with | num n=>exact ⟨n,rfl⟩ | txt _=>cases h | dig _=>cases h | nums _=>cases h | pens _=>cases h
theorem d0J {v:Val} (h:v.slot = .txt):∃ n,v = .txt n:=by cases v using Val.cut with | txt n=>exact ⟨n,rfl⟩ | num _=>cases h | dig _=>cases h | nums _=>cases h | pens _=>cases h
theorem b0Q {v:Val} (h:v.slot = .dig):∃ n,v = .dig n:=by cases v using Val.cut with | dig n=>exact ⟨n,rfl⟩ | txt _=>cases h | num _=>cases h | nums _=>cases h | pens _=>cases h
theorem g0d {v:Val} (h:v.slot = .nums):∃ n,v = .nums n:=by cases v using Val.cut with | nums n=>exact ⟨n,rfl⟩ | txt _=>cases h | dig _=>cases h | num _=>cases h | pens _=>cases h
theorem g0e {v:Val} (h:v.slot = .pens):∃ n,v = .pens n:=by cases v using Val.cut with | pens n=>exact ⟨n,rfl⟩ | txt _=>cases h | dig _=>cases h | nums _=>cases h | num _=>cases h
end Go.Proofs.YtagmnmoaekbffaaGreatDoor.Ms
namespace Go.Proofs.YtagmnmoaekbffaaGreatDoor.Hist
open Go.Proofs.Tryz
open Go
set_option maxRecDepth 100000
def bv (c:UInt8):Int:=(c.toNat:Int)
theorem j0u (c:UInt8):0 <= bv c/\bv c < 256:=by
 have:=c.toNat_lt;unfold bv;omega
def cnt (h:List UInt8) (c:Int):Nat:=h.countP (fun b=>bv b == c)
def hit (h:List UInt8) (c n:Int) (i:Nat):Bool:=bv (h.getD i 0) == c && ((cnt (h.take (i + 1)) c:Int) == n)
def plc (h:List UInt8) (c n:Int):Option Nat:=(List.range h.length).find? (hit h c n)
def placeI (h:List UInt8) (c n:Int):Int:=match plc h c n with | some i=>(i:Int) | none=>-1
def rightB (h:List UInt8) (n:Int):Bool:=decide (1 <= n) && decide (n <= 256) && decide (h.length <= 512) && h.all (fun b=>decide (bv b < n))
def uptoL (h:List UInt8) (c:Int):List UInt8:=h.take (placeI h c (cnt h c) + 1).toNat
def goesB (l s:List UInt8):Bool:=s.isPrefixOf l
theorem f0F (s:List UInt8) (j:Nat) (h:j < s.length):s.take (j + 1)=s.take j++[s.getD j 0]:=by
 rw [List.take_succ_eq_append_getElem h];simp [List.getD,h]
theorem cnt_nil (c:Int):cnt [] c=0:=rfl
theorem cnt_append (a b:List UInt8) (c:Int):cnt (a++b) c=cnt a c + cnt b c:=by simp [cnt]
theorem cnt_one (x:UInt8) (c:Int):cnt [x] c=if bv x=c then 1 else 0:=by
 by_cases h:bv x=c <;> simp [cnt,h]
theorem cnt_step (h:List UInt8) (k:Nat) (hk:k < h.length) (c:Int):cnt (h.take (k + 1)) c=cnt (h.take k) c + if bv (h.getD k 0)=c then 1 else 0:=by
 rw [f0F h k hk,cnt_append,cnt_one]
theorem cnt_le (h:List UInt8) (c:Int):cnt h c <= h.length:=List.countP_le_length
theorem cnt_take_le (h:List UInt8) (k:Nat) (c:Int):cnt (h.take k) c <= cnt h c:=by
 have e:=cnt_append (h.take k) (h.drop k) c;rw [List.take_append_drop] at e;omega
theorem cnt_all (h:List UInt8) (c:Int):cnt (h.take h.length) c=cnt h c:=by rw [List.take_length]
theorem plc_some {h:List UInt8} {c n:Int} {i:Nat} (hi:i < h.length) (ht:hit h c n i=true) (hn:∀ j,j < i->hit h c n j=false):placeI h c n=(i:Int):=by
 have:plc h c n=some i:=by
  unfold plc;rw [List.find?_range_eq_some];exact ⟨ht,List.mem_range.2 hi,fun j hj=>by simp [hn j hj]⟩
 unfold placeI;rw [this]
theorem n0f {h:List UInt8} {c n:Int} (hn:∀ j,j < h.length->hit h c n j=false):placeI h c n = -1:=by
 have:plc h c n=none:=by
  unfold plc;rw [List.find?_eq_none];intro j hj;rw [hn j (List.mem_range.1 hj)];exact Bool.false_ne_true
 unfold placeI;rw [this]
theorem k0z (h:List UInt8) (c n:Int):(placeI h c n = -1/\∀ j,j < h.length->hit h c n j=false) ∨ ∃ i,i < h.length/\placeI h c n=(i:Int)/\hit h c n i=true/\∀ j,j < i->hit h c n j=false:=by
 cases hq:plc h c n with
 | none =>
  refine .inl ⟨by unfold placeI;rw [hq],fun j hj=>?_⟩;unfold plc at hq;rw [List.find?_eq_none] at hq;have:=hq j (List.mem_range.2 hj);simpa using this
 | some i =>
  have hq':=hq;unfold plc at hq';rw [List.find?_range_eq_some] at hq';obtain ⟨h1,h2,h3⟩:=hq';exact .inr ⟨i,List.mem_range.1 h2,by unfold placeI;rw [hq],h1,fun j hj=>by simpa using h3 j hj⟩
theorem h0f (h:List UInt8) (c n:Int):-1 <= placeI h c n/\placeI h c n < h.length:=by
 rcases k0z h c n with ⟨e,_⟩ | ⟨i,hi,e,_⟩ <;> rw [e] <;> omega
theorem hit_iff (h:List UInt8) (c n:Int) (i:Nat):hit h c n i=true ↔ bv (h.getD i 0)=c/\(cnt (h.take (i + 1)) c:Int)=n:=by
 simp [hit]
theorem g0t (h:List UInt8) (n:Int) (h1:n < 1):rightB h n=false:=by unfold rightB;rw [decide_eq_false (by omega:¬ 1 <= n)];rfl
theorem g0u (h:List UInt8) (n:Int) (h1:256 < n):rightB h n=false:=by unfold rightB;rw [decide_eq_false (by omega:¬ n <= 256)];simp
theorem g0v (h:List UInt8) (n:Int) (h1:512 < h.length):rightB h n=false:=by unfold rightB;rw [decide_eq_false (by omega:¬ h.length <= 512)];simp
theorem g0w (h:List UInt8) (n:Int) (k:Nat) (hk:k < h.length) (h1:n <= bv (h.getD k 0)):rightB h n=false:=by
 unfold rightB
 have:h.all (fun b=>decide (bv b < n))=false:=by
  rw [List.all_eq_false];refine ⟨h.getD k 0,?_,by simpa using h1⟩;simp [List.getD,hk]
 rw [this];simp
theorem i0w (h:List UInt8) (n:Int) (h1:¬ n < 1) (h2:¬ 256 < n) (h3:¬ 512 < h.length) (h4:∀ j,j < h.length->bv (h.getD j 0) < n):rightB h n=true:=by
 unfold rightB
 have:h.all (fun b=>decide (bv b < n))=true:=by
  rw [List.all_eq_true];intro b hb;obtain ⟨j,hj,rfl⟩:=List.getElem_of_mem hb;have:=h4 j hj;simp [List.getD,hj] at this;simpa using this
 rw [this,decide_eq_true (by omega:1 <= n),decide_eq_true (by omega:n <= 256),decide_eq_true (by omega:h.length <= 512)];rfl
def opA (h:List UInt8) (k:Nat):Array Value:=#[.int .i64 (bv (h.getD k 0)),.int .i64 (cnt (h.take (k + 1)) (bv (h.getD k 0)))]
def opsA (h:List UInt8):List (Array Value):=(List.range h.length).map (opA h)
theorem g0M (h:List UInt8):(opsA h).length=h.length:=by simp [opsA]
theorem l0Y {h:List UInt8} {k:Nat} {x:Array Value} (hx:(opsA h)[k]? = some x):k < h.length/\x=opA h k:=by
 unfold opsA at hx;rw [List.getElem?_map] at hx;by_cases hk:k < h.length
 ·rw [List.getElem?_range hk] at hx
  simp at hx;exact ⟨hk,hx.symm⟩
 ·rw [List.getElem?_eq_none (by simpa using hk)] at hx
  simp at hx
theorem r0Q {h:List UInt8} {k:Nat} (hk:k < h.length):(opsA h)[k]? = some (opA h k):=by
 unfold opsA;rw [List.getElem?_map,List.getElem?_range hk];rfl
theorem e0U {h:List UInt8} {x:Array Value} (hx:x ∈ opsA h):∃ k,k < h.length/\x=opA h k:=by
 obtain ⟨k,hk,rfl⟩:=List.mem_map.1 hx;exact ⟨k,List.mem_range.1 hk,rfl⟩
def f0u (h:List UInt8) (k:Nat):List Value:=(List.range 256).map fun (c:Nat)=>Value.int .i64 (cnt (h.take k) (c:Int))
theorem f0G (h:List UInt8) (k:Nat):(f0u h k).length=256:=by simp [f0u]
theorem g0N (h:List UInt8) (k c:Nat) (hc:c < 256):(f0u h k)[c]? = some (.int .i64 (cnt (h.take k) (c:Int))):=by
 unfold f0u;rw [List.getElem?_map,List.getElem?_range hc];rfl
theorem o0g (h:List UInt8) (k:Nat) (hk:k < h.length) :
  (f0u h k).set (h.getD k 0).toNat (.int .i64 ((cnt (h.take k) (bv (h.getD k 0)):Int) + 1))=f0u h (k + 1):=by
 apply List.ext_getElem?;intro i;by_cases hi:i < 256
 ·rw [List.getElem?_set,g0N h _ i hi,g0N h _ i hi,f0G,cnt_step h k hk]
  by_cases he:(h.getD k 0).toNat=i
  ·rw [if_pos he,if_pos (by omega)]
   have e2:bv (h.getD k 0)=(i:Int):=by unfold bv;omega
   rw [if_pos e2,e2];rfl
  ·have e2:¬ bv (h.getD k 0)=(i:Int):=by unfold bv;omega
   rw [if_neg he,if_neg e2];rfl
 ·rw [List.getElem?_eq_none (by simp [f0G];omega),List.getElem?_eq_none (by simp [f0G];omega)]
theorem o0h (h:List UInt8):f0u h 0=List.replicate 256 (.int .i64 0):=by
 apply List.ext_getElem?;intro i;by_cases hi:i < 256
 ·rw [g0N h _ i hi,List.getElem?_replicate,if_pos hi]
  rfl
 ·rw [List.getElem?_eq_none (by simp [f0G];omega),List.getElem?_eq_none (by simp;omega)]
end Go.Proofs.YtagmnmoaekbffaaGreatDoor.Hist
namespace Go.Proofs.YtagmnmoaekbffaaGreatDoor.Ms
open Go.Proofs.Tryz
open Go
set_option maxRecDepth 100000
def inB (n a b:Int):Bool:=decide (a <= n) && decide (n <= b)
def d0l (n k t:Int):Bool:=inB n 1 512 && (inB k 1 2 && inB t 0 7)
def okAt (l:List Int) (i:Nat):Bool:=inB (l.getD i 0) 0 1099511627776 && (decide (i=0) || decide (l.getD (i - 1) 0 < l.getD i 0))
def d0y (l:List Int):Bool:=(List.range l.length).all (okAt l) && inB (l.length:Int) 1 64
def penB (p:Pen):Bool:=inB p.client 0 7 && d0l p.number p.kind p.target
def e0u (r:Rep):Bool:=!((r.view == [] && r.last != -1) || (r.view != [] && r.last == -1))
def chainB (r:Rep):Bool:=inB r.number 1 512 && (inB r.last (-1) 7 && (Hist.rightB r.view 8 && (Hist.rightB r.seen 8 && (decide (r.pend.length <= 8) && (inB r.vnum 0 512 && decide (r.value.length <= 256))))))
def repB (r:Rep):Bool:=r.pend.all penB && (e0u r && chainB r)
def subB (x:Sub):Bool:=d0l x.number x.kind x.target && decide (x.value.length <= 256)
def e0D (v:List UInt8):Bool:=(v != []) && Hist.rightB v 8
def bloB (b:Blo):Bool:=inB b.owner 0 7 && (inB b.number 0 1099511627776 && decide (b.cipher.length <= 4096))
def a0L (m:Msg):Bool :=
 if m.kind=1 then subB m.sub else if m.kind=2 then repB m.rep else if m.kind=3 then e0D m.view else if m.kind=4 ∨ m.kind=6 then bloB m.blob else
 if m.kind=5 ∨ m.kind=7 ∨ m.kind=8 then d0y m.nums else if m.kind=9 then true else if m.kind=10 then inB m.who 0 7 && e0D m.view else if m.kind=11 then true else false
def g0I (m:Msg):Bool:=b0Z (a0U (a0T m.kind) m) (b0m m.kind 0)
def mayB (m:Msg):Bool:=inB m.client 0 7 && (a0L m && g0I m)
theorem b0g (k:Int):(k=1/\a0T k=k0w) ∨ (k=2/\a0T k=l0T) ∨ (k=3/\a0T k=k0x) ∨ ((k=4 ∨ k=6)/\a0T k=l0U) ∨ ((k=5 ∨ k=7 ∨ k=8)/\a0T k=l0V) ∨ (k=9/\a0T k=k0y) ∨ (k=10/\a0T k=l0W) ∨ (k=11/\a0T k=l0X) ∨ ((k < 1 ∨ 11 < k)/\a0T k = []):=by
 unfold a0T;by_cases h1:k=1
 ·exact .inl ⟨h1,by rw [if_pos h1]⟩
 by_cases h2:k=2
 ·exact .inr (.inl ⟨h2,by rw [if_neg h1,if_pos h2]⟩)
 by_cases h3:k=3
 ·exact .inr (.inr (.inl ⟨h3,by rw [if_neg h1,if_neg h2,if_pos h3]⟩))
 by_cases h4:k=4 ∨ k=6
 ·exact .inr (.inr (.inr (.inl ⟨h4,by rw [if_neg h1,if_neg h2,if_neg h3,if_pos h4]⟩)))
 by_cases h5:k=5 ∨ k=7 ∨ k=8
 ·exact .inr (.inr (.inr (.inr (.inl ⟨h5,by rw [if_neg h1,if_neg h2,if_neg h3,if_neg h4,if_pos h5]⟩))))
 by_cases h6:k=9
 ·exact .inr (.inr (.inr (.inr (.inr (.inl ⟨h6,by rw [if_neg h1,if_neg h2,if_neg h3,if_neg h4,if_neg h5,if_pos h6]⟩)))))
 by_cases h7:k=10
 ·exact .inr (.inr (.inr (.inr (.inr (.inr (.inl ⟨h7,by rw [if_neg h1,if_neg h2,if_neg h3,if_neg h4,if_neg h5,if_neg h6,if_pos h7]⟩))))))
 by_cases h8:k=11
 ·exact .inr (.inr (.inr (.inr (.inr (.inr (.inr (.inl ⟨h8,by rw [if_neg h1,if_neg h2,if_neg h3,if_neg h4,if_neg h5,if_neg h6,if_neg h7,if_pos h8]⟩)))))))
 ·exact .inr (.inr (.inr (.inr (.inr (.inr (.inr (.inr ⟨by omega,by rw [if_neg h1,if_neg h2,if_neg h3,if_neg h4,if_neg h5,if_neg h6,if_neg h7,if_neg h8]⟩)))))))
theorem b0h (n a b:Int):inB n a b=true ↔ a <= n/\n <= b:=by simp [inB]
theorem d0W (h:List UInt8) (n:Int) (hr:Hist.rightB h n=true):h.length <= 512:=by
 unfold Hist.rightB at hr;simp at hr;omega
theorem t0R {r:Rep} (hw:r.Wf) (hb:r.pend.all penB=true):∀ p ∈ r.pend,penOk p:=by
 intro p hp;rw [List.all_eq_true] at hb;have h:=hb p hp;have w:=hw.pend p hp;simp only [penB,d0l,Bool.and_eq_true,b0h] at h;exact ⟨⟨by omega,by omega⟩,⟨by omega,by omega⟩,⟨by omega,by omega⟩,⟨by omega,by omega⟩,w.asked,w.proof⟩
theorem t0S {l:List Int} (h:d0y l=true):l.length <= 64/\∀ n ∈ l,0 <= n/\n <= 1099511627776:=by
 simp only [d0y,Bool.and_eq_true,b0h,List.all_eq_true] at h;refine ⟨by omega,fun n hn=>?_⟩;obtain ⟨i,hi,rfl⟩:=List.getElem_of_mem hn;have:=h.1 i (List.mem_range.2 hi);simp only [okAt,Bool.and_eq_true,b0h] at this;have e:l.getD i 0=l[i]:=by simp [List.getD,hi]
 rw [e] at this;exact this.1
theorem r0R {m:Msg} (hw:m.Wf) (h:mayB m=true):(1 <= m.kind/\m.kind <= 11)/\∀ g ∈ a0T m.kind,(g.get m).slot=g.slot/\d0V (g.get m):=by
 simp only [mayB,Bool.and_eq_true,b0h] at h;obtain ⟨hc,hp,-⟩:=h;have hC:d0V (.num m.client):=⟨by omega,by omega⟩;rcases b0g m.kind with ⟨k,e⟩ | ⟨k,e⟩ | ⟨k,e⟩ | ⟨k,e⟩ | ⟨k,e⟩ | ⟨k,e⟩ | ⟨k,e⟩ | ⟨k,e⟩ | ⟨k,e⟩ <;> rw [e]
 ·refine ⟨by omega,?_⟩
  simp only [a0L,if_pos k,subB,d0l,Bool.and_eq_true,b0h,decide_eq_true_eq] at hp;intro g hg;simp only [k0w,List.mem_cons,List.not_mem_nil,or_false] at hg;rcases hg with rfl | rfl | rfl | rfl | rfl | rfl | rfl
  ·exact ⟨rfl,hC⟩
  ·exact ⟨rfl,by show _ <= m.sub.number;omega,by show m.sub.number <= _;omega⟩
  ·exact ⟨rfl,by show _ <= m.sub.kind;omega,by show m.sub.kind <= _;omega⟩
  ·exact ⟨rfl,by show _ <= m.sub.target;omega,by show m.sub.target <= _;omega⟩
  ·exact ⟨rfl,by show m.sub.value.length <= _;omega⟩
  ·exact ⟨rfl,hw.sub.asked⟩
  ·exact ⟨rfl,hw.sub.data⟩
 ·refine ⟨by omega,?_⟩
  simp only [a0L,k] at hp;simp only [show ((2:Int)=1)=False by simp,if_false,if_true,repB,chainB,Bool.and_eq_true,b0h,decide_eq_true_eq] at hp;obtain ⟨h1,-,h2,h3,h4,h5,h6,h7,h8⟩:=hp;have h4':=d0W _ _ h4;have h5':=d0W _ _ h5;intro g hg;simp only [l0T,List.mem_cons,List.not_mem_nil,or_false] at hg;rcases hg with rfl | rfl | rfl | rfl | rfl | rfl | rfl | rfl | rfl | rfl
  ·exact ⟨rfl,by show _ <= m.rep.number;omega,by show m.rep.number <= _;omega⟩
  ·exact ⟨rfl,by show _ <= m.rep.last;omega,by show m.rep.last <= _;omega⟩
  ·exact ⟨rfl,by show m.rep.view.length <= _;omega⟩
  ·exact ⟨rfl,hw.rep.commit⟩
  ·exact ⟨rfl,h6,t0R hw.rep h1⟩
  ·exact ⟨rfl,by show _ <= m.rep.vnum;omega,by show m.rep.vnum <= _;omega⟩
  ·exact ⟨rfl,by show m.rep.value.length <= _;omega⟩
  ·exact ⟨rfl,hw.rep.data⟩
  ·exact ⟨rfl,by show m.rep.seen.length <= _;omega⟩
  ·exact ⟨rfl,hw.rep.stag⟩
 ·refine ⟨by omega,?_⟩
  simp only [a0L,k] at hp;simp only [show ((3:Int)=1)=False by simp,show ((3:Int)=2)=False by simp,if_false,if_true,e0D,Bool.and_eq_true] at hp;have h4':=d0W _ _ hp.2;intro g hg;simp only [k0x,List.mem_cons,List.not_mem_nil,or_false] at hg;rcases hg with rfl | rfl | rfl
  ·exact ⟨rfl,hC⟩
  ·exact ⟨rfl,by show m.view.length <= _;omega⟩
  ·exact ⟨rfl,hw.tag⟩
 ·refine ⟨by omega,?_⟩
  simp only [a0L,if_neg (by omega:¬ m.kind=1),if_neg (by omega:¬ m.kind=2),if_neg (by omega:¬ m.kind=3),if_pos k,bloB,Bool.and_eq_true,b0h,decide_eq_true_eq] at hp;intro g hg;simp only [l0U,List.mem_cons,List.not_mem_nil,or_false] at hg;rcases hg with rfl | rfl | rfl | rfl
  ·exact ⟨rfl,by show _ <= m.blob.owner;omega,by show m.blob.owner <= _;omega⟩
  ·exact ⟨rfl,by show _ <= m.blob.number;omega,by show m.blob.number <= _;omega⟩
  ·exact ⟨rfl,by show m.blob.cipher.length <= _;omega⟩
  ·exact ⟨rfl,hw.blob.tag⟩
 ·refine ⟨by omega,?_⟩
  simp only [a0L,if_neg (by omega:¬ m.kind=1),if_neg (by omega:¬ m.kind=2),if_neg (by omega:¬ m.kind=3),if_neg (by omega:¬ (m.kind=4 ∨ m.kind=6)),if_pos k] at hp;obtain ⟨h1,h2⟩:=t0S hp;intro g hg;simp only [l0V,List.mem_cons,List.not_mem_nil,or_false] at hg;rcases hg with rfl | rfl
  ·exact ⟨rfl,hC⟩
  ·exact ⟨rfl,by show m.nums.length <= _;omega,fun n hn=>⟨by have:=h2 n hn;omega,by have:=h2 n hn;omega⟩⟩
 ·refine ⟨by omega,?_⟩
  intro g hg;simp only [k0y,List.mem_cons,List.not_mem_nil,or_false] at hg;subst hg;exact ⟨rfl,hC⟩
 ·refine ⟨by omega,?_⟩
  simp only [a0L,if_neg (by omega:¬ m.kind=1),if_neg (by omega:¬ m.kind=2),if_neg (by omega:¬ m.kind=3),if_neg (by omega:¬ (m.kind=4 ∨ m.kind=6)),if_neg (by omega:¬ (m.kind=5 ∨ m.kind=7 ∨ m.kind=8)),if_neg (by omega:¬ m.kind=9),if_pos k,e0D,Bool.and_eq_true,b0h] at hp;have h4':=d0W _ _ hp.2.2;intro g hg;simp only [l0W,List.mem_cons,List.not_mem_nil,or_false] at hg;rcases hg with rfl | rfl | rfl | rfl | rfl
  ·exact ⟨rfl,hC⟩
  ·exact ⟨rfl,by show _ <= m.who;omega,by show m.who <= _;omega⟩
  ·exact ⟨rfl,by show m.view.length <= _;omega⟩
  ·exact ⟨rfl,hw.tag⟩
  ·exact ⟨rfl,hw.own⟩
 ·refine ⟨by omega,?_⟩
  intro g hg;simp only [l0X,List.mem_cons,List.not_mem_nil,or_false] at hg;rcases hg with rfl | rfl
  ·exact ⟨rfl,hC⟩
  ·exact ⟨rfl,hw.own⟩
 ·simp only [a0L,if_neg (by omega:¬ m.kind=1),if_neg (by omega:¬ m.kind=2),if_neg (by omega:¬ m.kind=3),if_neg (by omega:¬ (m.kind=4 ∨ m.kind=6)),if_neg (by omega:¬ (m.kind=5 ∨ m.kind=7 ∨ m.kind=8)),if_neg (by omega:¬ m.kind=9),if_neg (by omega:¬ m.kind=10),if_neg (by omega:¬ m.kind=11)] at hp
  exact absurd hp Bool.false_ne_true
open Go
set_option maxRecDepth 100000
structure Msg.Rng (m:Msg):Prop where
 kind:I64 m.kind
 client:I64 m.client
 sn:I64 m.sub.number
 sk:I64 m.sub.kind
 st:I64 m.sub.target
 rn:I64 m.rep.number
 rl:I64 m.rep.last
 rv:I64 m.rep.vnum
 who:I64 m.who
 bo:I64 m.blob.owner
 bn:I64 m.blob.number
 ns:∀ n ∈ m.nums,I64 n
 ps:∀ p ∈ m.rep.pend,penOk p
theorem a0r:I64 0:=⟨by decide,by decide⟩
theorem zeroD_len:a0n.length=32:=rfl
theorem g0O (k c:Int):(b0m k c).Wf:=⟨⟨rfl,rfl⟩,⟨rfl,rfl,rfl,fun p hp=>by cases hp⟩,rfl,rfl,⟨rfl⟩⟩
theorem p0r (k c:Int) (hk:I64 k) (hc:I64 c):(b0m k c).Rng :=
 ⟨hk,hc,a0r,a0r,a0r,a0r,a0r,a0r,a0r,a0r,a0r,(fun n hn=>by cases hn),(fun p hp=>by cases hp)⟩
theorem n0g {p:Pen} (h:penOk p):p.Wf:=⟨h.asked,h.proof⟩
def c0D (m:Msg):Msg :=
 if m.kind=1 then { m with sub:=c0j } else if m.kind=2 then { m with rep:=a0p } else if m.kind=3 then { m with view:=[],tag:=a0n } else
 if m.kind=4 ∨ m.kind=6 then { m with blob:=o0d } else if m.kind=5 ∨ m.kind=7 ∨ m.kind=8 then { m with nums:=[] } else
 if m.kind=10 then { m with who:=0,view:=[],tag:=a0n,own:=a0n } else if m.kind=11 then { m with own:=a0n } else m
def a0V (m:Msg):Bool :=
 if m.kind=1 then subB m.sub else if m.kind=2 then (m.client == 0) && repB m.rep else if m.kind=3 then e0D m.view else if m.kind=4 ∨ m.kind=6 then (m.client == 0) && bloB m.blob else
 if m.kind=5 ∨ m.kind=7 ∨ m.kind=8 then d0y m.nums else if m.kind=10 then inB m.who 0 7 && e0D m.view else true
def k0A (m:Msg):Bool:=inB m.kind 1 11 && (inB m.client 0 7 && (b0Z (c0D m) (b0m m.kind m.client) && a0V m))
theorem p0s (m:Msg):mayB m=k0A m:=by
 rw [Bool.eq_iff_iff];unfold mayB k0A g0I;simp only [Bool.and_eq_true,f0E,b0h];obtain ⟨k,c,⟨s1,s2,s3,s4,s5,s6⟩,⟨r1,r2,r3,r4,r5,r6,r7,r8,r9,r10⟩,vw,wh,tg,ow,⟨b1,b2,b3,b4⟩,ns⟩:=m;simp only;rcases b0g k with ⟨hk,e⟩ | ⟨hk,e⟩ | ⟨hk,e⟩ | ⟨hk,e⟩ | ⟨hk,e⟩ | ⟨hk,e⟩ | ⟨hk,e⟩ | ⟨hk,e⟩ | ⟨hk,e⟩ <;> rw [e]
 ·subst hk
  simp only [a0L,a0V,c0D,if_true,k0w,a0U,b0P,e0Q,i0v,e0R,g0a,g0b,g0Y,Slot.zero,Val.n,Val.s,Val.d,b0m,c0j,Msg.mk.injEq];constructor <;> (intro h;simp_all)
 ·subst hk
  simp only [a0L,a0V,c0D,show ((2:Int)=1)=False by simp,if_false,if_true,l0T,a0U,e0j,g0Z,h0a,e0k,h0b,h0c,f0t,h0d,h0e,l0S,Slot.zero,Val.n,Val.s,Val.d,Val.p,b0m,a0p,Msg.mk.injEq,Bool.and_eq_true,beq_iff_eq];constructor <;> (intro h;simp_all)
 ·subst hk
  simp only [a0L,a0V,c0D,show ((3:Int)=1)=False by simp,show ((3:Int)=2)=False by simp,if_false,if_true,k0x,a0U,b0P,j0s,fTag,Slot.zero,Val.n,Val.s,Val.d,b0m,Msg.mk.injEq];constructor <;> (intro h;simp_all)
 ·simp only [a0L,a0V,c0D,if_neg (by omega:¬ k=1),if_neg (by omega:¬ k=2),if_neg (by omega:¬ k=3),if_pos hk,l0U,a0U,g0c,e0S,e0T,o0e,Slot.zero,Val.n,Val.s,Val.d,b0m,o0d,Msg.mk.injEq,Bool.and_eq_true,beq_iff_eq]
  have hk':1 <= k/\k <= 11:=by omega
  constructor <;> (intro h;simp_all)
 ·simp only [a0L,a0V,c0D,if_neg (by omega:¬ k=1),if_neg (by omega:¬ k=2),if_neg (by omega:¬ k=3),if_neg (by omega:¬ (k=4 ∨ k=6)),if_pos hk,l0V,a0U,b0P,o0f,Slot.zero,Val.n,Val.l,b0m,Msg.mk.injEq]
  have hk':1 <= k/\k <= 11:=by omega
  constructor <;> (intro h;simp_all)
 ·subst hk
  simp only [a0L,a0V,c0D,show ((9:Int)=1)=False by simp,show ((9:Int)=2)=False by simp,show ((9:Int)=3)=False by simp,show ((9:Int)=4 ∨ (9:Int)=6)=False by simp,show ((9:Int)=5 ∨ (9:Int)=7 ∨ (9:Int)=8)=False by simp,show ((9:Int)=10)=False by simp,show ((9:Int)=11)=False by simp,if_false,if_true,k0y,a0U,b0P,Slot.zero,Val.n,b0m,Msg.mk.injEq];constructor <;> (intro h;simp_all)
 ·subst hk
  simp only [a0L,a0V,c0D,show ((10:Int)=1)=False by simp,show ((10:Int)=2)=False by simp,show ((10:Int)=3)=False by simp,show ((10:Int)=4 ∨ (10:Int)=6)=False by simp,show ((10:Int)=5 ∨ (10:Int)=7 ∨ (10:Int)=8)=False by simp,show ((10:Int)=9)=False by simp,if_false,if_true,l0W,a0U,b0P,fBy,j0s,fTag,fOwn,Slot.zero,Val.n,Val.s,Val.d,b0m,Msg.mk.injEq];constructor <;> (intro h;simp_all)
 ·subst hk
  simp only [a0L,a0V,c0D,show ((11:Int)=1)=False by simp,show ((11:Int)=2)=False by simp,show ((11:Int)=3)=False by simp,show ((11:Int)=4 ∨ (11:Int)=6)=False by simp,show ((11:Int)=5 ∨ (11:Int)=7 ∨ (11:Int)=8)=False by simp,show ((11:Int)=9)=False by simp,show ((11:Int)=10)=False by simp,if_false,if_true,l0X,a0U,b0P,fOwn,Slot.zero,Val.n,Val.d,b0m,Msg.mk.injEq];constructor <;> (intro h;simp_all)
 ·simp only [a0L,if_neg (by omega:¬ k=1),if_neg (by omega:¬ k=2),if_neg (by omega:¬ k=3),if_neg (by omega:¬ (k=4 ∨ k=6)),if_neg (by omega:¬ (k=5 ∨ k=7 ∨ k=8)),if_neg (by omega:¬ k=9),if_neg (by omega:¬ k=10),if_neg (by omega:¬ k=11)]
  constructor
  ·rintro ⟨-,h,-⟩
   exact absurd h Bool.false_ne_true
  ·rintro ⟨h,-⟩
   omega
open Go
set_option maxRecDepth 100000
structure Reg where
 asked:Sub
 ans:Rep
 view:List UInt8
 tag:List UInt8
def j0v:Reg:=⟨c0j,a0p,[],a0n⟩
structure Rs where
 n:Nat
 regs:List Reg
 long:List UInt8
 ltag:List UInt8
 who:Int
 pend:List Pen
def newR (n:Nat):Rs:=⟨n,List.replicate 8 j0v,[],a0n,-1,[]⟩
def hasB (n:Nat) (c:Int):Bool:=decide (0 <= c) && decide (c < (n:Int))
def Rs.reg (R:Rs) (c:Int):Reg:=R.regs.getD c.toNat j0v
def subM (c:Int) (x:Sub):Msg:={ b0m 1 c with sub:=x }
def comM (c:Int) (v t:List UInt8):Msg:={ b0m 3 c with view:=v,tag:=t }
def by8 (c:Int):UInt8:=UInt8.ofNat c.toNat
def c0R (R:Rs) (c:Int) (x:Sub):Bool:=hasB R.n c && (hasB R.n x.target && mayB (subM c x))
def a0M (R:Rs):List Pen:=R.pend.map fun p=>{ p with proof:=(R.reg p.client).tag }
def ansR (R:Rs) (x:Sub):Rep :=
 if x.kind=2 then ⟨x.number,R.who,R.long,R.ltag,a0M R,(R.reg x.target).asked.number,(R.reg x.target).asked.value,(R.reg x.target).asked.data,(R.reg x.target).view,(R.reg x.target).tag⟩
 else ⟨x.number,R.who,R.long,R.ltag,a0M R,0,[],a0n,[],a0n⟩
def f0H (R:Rs):Bool:=decide (512 <= R.long.length + R.pend.length) || decide (8 <= R.pend.length)
def e0B (c:Int) (x:Sub):Pen:=⟨c,x.number,x.kind,x.target,x.asked,a0n⟩
def subE (R:Rs) (c:Int) (x:Sub):Int :=
 if c0R R c x=false then 2 else if x.number=(R.reg c).asked.number then (if f0s x (R.reg c).asked=true then 0 else 10)
 else if x.number ≠ (R.reg c).asked.number + 1 then 3 else if f0H R=true then 11 else 0
def subY (R:Rs) (c:Int) (x:Sub):Rep:=if subE R c x ≠ 0 then a0p else if x.number=(R.reg c).asked.number then (R.reg c).ans else ansR R x
def subN (R:Rs) (c:Int) (x:Sub):Rs:={ R with regs:=R.regs.set c.toNat { R.reg c with asked:=x,ans:=ansR R x },pend:=R.pend++[e0B c x] }
def subR (R:Rs) (c:Int) (x:Sub):Rs:=if subE R c x ≠ 0 then R else if x.number=(R.reg c).asked.number then R else subN R c x
def c0i (v:List UInt8):Int:=bv (v.getD (v.length - 1) 0)
def d0P (R:Rs) (c:Int) (v t:List UInt8):Bool:=hasB R.n c && mayB (comM c v t)
def isOp (c k:Int) (p:Pen):Bool:=p.client == c && p.number == k
def cutP (c k:Int) (l:List Pen):List Pen:=match l.findIdx? (isOp c k) with
 | none=>l
 | some i=>l.drop (i + 1)
def comE (R:Rs) (c:Int) (v t:List UInt8):Int :=
 if d0P R c v t=false then 2 else if c0i v ≠ c ∨ (Hist.cnt v c:Int) ≠ (R.reg c).asked.number then 3
 else if (Hist.cnt (R.reg c).view c:Int)=(R.reg c).asked.number then 10 else 0
def comS (R:Rs) (c:Int) (v t:List UInt8):Rs:={ R with regs:=R.regs.set c.toNat { R.reg c with view:=v,tag:=t } }
def comL (R:Rs) (c:Int) (v t:List UInt8):Rs:={ comS R c v t with long:=v,ltag:=t,who:=c,pend:=cutP c (R.reg c).asked.number R.pend }
def comR (R:Rs) (c:Int) (v t:List UInt8):Rs:=if comE R c v t ≠ 0 then R else if R.long.length < v.length then comL R c v t else comS R c v t
def a0u (R:Rs):List UInt8:=R.long++R.pend.map fun p=>by8 p.client
def d0X (y:Rep) (c:Int):List UInt8:=(y.view++y.pend.map fun p=>by8 p.client)++[by8 c]
structure GOk (g:Reg):Prop where
 asked:g.asked.Wf
 ans:g.ans.Wf
 tag:g.tag.length=32
 num:0 <= g.asked.number/\g.asked.number <= 512
 value:g.asked.value.length <= 256
 view:g.view.length <= 512
 apend:g.ans.pend.length <= 8
 aview:g.ans.view.length <= 512
 acl:∀ p ∈ g.ans.pend,0 <= p.client/\p.client < 8
structure PdOk (n:Nat) (p:Pen):Prop where
 wf:p.Wf
 cl:0 <= p.client/\p.client < (n:Int)
 num:1 <= p.number/\p.number <= 512
structure RInv (R:Rs):Prop where
 n:2 <= R.n/\R.n <= 8
 len:R.regs.length=8
 regs:∀ g ∈ R.regs,GOk g
 long:R.long.length <= 512
 ltag:R.ltag.length=32
 who:-1 <= R.who/\R.who < 8
 plen:R.pend.length <= 8
 pend:∀ p ∈ R.pend,PdOk R.n p
theorem n0h:GOk j0v:=⟨⟨rfl,rfl⟩,⟨rfl,rfl,rfl,fun p hp=>by cases hp⟩,rfl,⟨by decide,by decide⟩,by decide,by decide,by decide,by decide,fun p hp=>by cases hp⟩
theorem e0l (n:Nat) (c:Int):hasB n c=true ↔ 0 <= c/\c < (n:Int):=by simp [hasB]
theorem RInv.reg {R:Rs} (h:RInv R) (c:Int):GOk (R.reg c):=by
 unfold Rs.reg;by_cases hc:c.toNat < R.regs.length
 ·rw [List.getD_eq_getElem?_getD,List.getElem?_eq_getElem hc]
  exact h.regs _ (List.getElem_mem hc)
 ·rw [List.getD_eq_getElem?_getD,List.getElem?_eq_none (by omega)]
  exact n0h
theorem RInv.new (n:Nat) (h:2 <= n/\n <= 8):RInv (newR n) :=
 ⟨h,rfl,fun g hg=>by rw [List.eq_of_mem_replicate hg];exact n0h,by simp [newR],rfl,⟨by simp [newR],by simp [newR]⟩,by simp [newR],fun p hp=>by cases hp⟩
theorem e0m {α:Type} {l:List α} {i:Nat} {a x:α} (h:x ∈ l.set i a):x ∈ l ∨ x=a:=List.mem_or_eq_of_mem_set h
theorem c0p (R:Rs):(a0M R).length=R.pend.length:=by simp [a0M]
theorem g0f {R:Rs} (h:RInv R):∀ p ∈ a0M R,p.Wf:=by
 intro p hp;simp only [a0M,List.mem_map] at hp;obtain ⟨q,hq,rfl⟩:=hp;exact ⟨(h.pend q hq).wf.asked,(h.reg q.client).tag⟩
theorem l0Z {R:Rs} (h:RInv R) (x:Sub):(ansR R x).Wf:=by
 unfold ansR
 split
 ·exact ⟨h.ltag,(h.reg x.target).asked.data,(h.reg x.target).tag,g0f h⟩
 ·exact ⟨h.ltag,rfl,rfl,g0f h⟩
theorem c0k (R:Rs) (x:Sub):(ansR R x).pend=a0M R:=by unfold ansR;split <;> rfl
theorem d0e (R:Rs) (x:Sub):(ansR R x).view=R.long:=by unfold ansR;split <;> rfl
theorem j0w (c:Int) (x:Sub):mayB (subM c x)=(inB c 0 7 && subB x):=by
 rw [Bool.eq_iff_iff]
 have hr:g0I (subM c x)=true:=by
  unfold g0I;rw [f0E];rcases b0g (1:Int) with ⟨_,e⟩ | ⟨h,_⟩ | ⟨h,_⟩ | ⟨h,_⟩ | ⟨h,_⟩ | ⟨h,_⟩ | ⟨h,_⟩ | ⟨h,_⟩ | ⟨h,_⟩
  ·show a0U (a0T 1) (subM c x)=b0m 1 0
   rw [e];obtain ⟨s1,s2,s3,s4,s5,s6⟩:=x;simp [subM,k0w,a0U,b0P,e0Q,i0v,e0R,g0a,g0b,g0Y,Slot.zero,Val.n,Val.s,Val.d,b0m,c0j]
  all_goals omega
 unfold mayB;rw [hr];simp [a0L,subM,b0m]
theorem p0t (c:Int) (v t:List UInt8):mayB (comM c v t)=(inB c 0 7 && e0D v):=by
 rw [Bool.eq_iff_iff]
 have hr:g0I (comM c v t)=true:=by
  unfold g0I;rw [f0E];rcases b0g (3:Int) with ⟨h,_⟩ | ⟨h,_⟩ | ⟨_,e⟩ | ⟨h,_⟩ | ⟨h,_⟩ | ⟨h,_⟩ | ⟨h,_⟩ | ⟨h,_⟩ | ⟨h,_⟩
  ·omega
  ·omega
  ·show a0U (a0T 3) (comM c v t)=b0m 3 0
   rw [e];simp [comM,k0x,a0U,b0P,j0s,fTag,Slot.zero,Val.n,Val.s,Val.d,b0m,c0j]
  all_goals omega
 unfold mayB;rw [hr];simp [a0L,comM,b0m]
theorem b0r {R:Rs} {c:Int} {x:Sub} (h:c0R R c x=true):(0 <= c/\c < (R.n:Int))/\(0 <= x.target/\x.target < (R.n:Int))/\(1 <= x.number/\x.number <= 512)/\(1 <= x.kind/\x.kind <= 2)/\x.value.length <= 256:=by
 unfold c0R at h;rw [j0w] at h;simp only [Bool.and_eq_true,e0l,b0h,subB,d0l,decide_eq_true_eq] at h;omega
theorem m0a {v:List UInt8} (h:e0D v=true):v ≠ []/\v.length <= 512/\∀ b ∈ v,bv b < 8:=by
 unfold e0D Hist.rightB at h;simp only [Bool.and_eq_true,bne_iff_ne,decide_eq_true_eq,List.all_eq_true] at h;exact ⟨h.1,h.2.1.2,h.2.2⟩
theorem c0q {R:Rs} {c:Int} {v t:List UInt8} (h:d0P R c v t=true):(0 <= c/\c < (R.n:Int))/\v ≠ []/\v.length <= 512/\∀ b ∈ v,bv b < 8:=by
 unfold d0P at h;rw [p0t] at h;simp only [Bool.and_eq_true,e0l,b0h] at h;exact ⟨h.1,m0a h.2.2⟩
theorem h0g {R:Rs} {c:Int} {x:Sub} (h:subE R c x=0):c0R R c x=true:=by
 unfold subE at h
 cases e:c0R R c x
 ·rw [if_pos e] at h;cases h
 ·rfl
theorem r0S {R:Rs} {c:Int} {x:Sub} (h:subE R c x=0) (hn:x.number ≠ (R.reg c).asked.number):x.number=(R.reg c).asked.number + 1/\f0H R=false:=by
 unfold subE at h;have hk:c0R R c x=true:=h0g (by unfold subE;exact h);rw [if_neg (by rw [hk];simp),if_neg hn] at h;by_cases h1:x.number ≠ (R.reg c).asked.number + 1
 ·rw [if_pos h1] at h;cases h
 ·rw [if_neg h1] at h
  cases e:f0H R
  ·exact ⟨by omega,rfl⟩
  ·rw [if_pos e] at h;cases h
theorem RInv.subN {R:Rs} (h:RInv R) {c:Int} {x:Sub} (hx:x.Wf) (hok:c0R R c x=true) (hf:f0H R=false):RInv (subN R c x):=by
 obtain ⟨h1,h2,h3,h4,h5⟩:=b0r hok;have hn:=h.n;simp only [f0H,Bool.or_eq_false_iff,decide_eq_false_iff_not] at hf;refine ⟨h.n,by simpa [Ms.subN] using h.len,fun g hg=>?_,h.long,h.ltag,h.who,?_,fun p hp=>?_⟩
 ·rcases e0m hg with hg | rfl
  ·exact h.regs g hg
  ·have hg:=h.reg c
   refine ⟨hx,l0Z h x,hg.tag,⟨by simp only;omega,h3.2⟩,h5,hg.view,?_,?_,?_⟩
   ·simp only [c0k,c0p]
    exact h.plen
   ·simp only [d0e]
    exact h.long
   ·simp only [c0k]
    intro p hp;simp only [a0M,List.mem_map] at hp;obtain ⟨q,hq,rfl⟩:=hp;have:=(h.pend q hq).cl;exact ⟨this.1,by simp only;omega⟩
 ·simp only [Ms.subN,List.length_append,List.length_cons,List.length_nil]
  omega
 ·simp only [Ms.subN,List.mem_append,List.mem_cons,List.not_mem_nil,or_false] at hp
  rcases hp with hp | rfl
  ·exact h.pend p hp
  ·exact ⟨⟨hx.asked,rfl⟩,h1,h3⟩
theorem p0u {R:Rs} {c:Int} {v t:List UInt8} (h:comE R c v t=0):d0P R c v t=true/\c0i v=c/\(Hist.cnt v c:Int)=(R.reg c).asked.number/\(Hist.cnt (R.reg c).view c:Int) ≠ (R.reg c).asked.number:=by
 unfold comE at h
 cases e:d0P R c v t
 ·rw [if_pos e] at h;cases h
 ·rw [if_neg (by rw [e];simp)] at h
  by_cases h1:c0i v ≠ c ∨ (Hist.cnt v c:Int) ≠ (R.reg c).asked.number
  ·rw [if_pos h1] at h;cases h
  ·rw [if_neg h1] at h
   by_cases h2:(Hist.cnt (R.reg c).view c:Int)=(R.reg c).asked.number
   ·rw [if_pos h2] at h;cases h
   ·exact ⟨rfl,by omega,by omega,h2⟩
theorem n0i (c k:Int) (l:List Pen):∃ m,cutP c k l=l.drop m:=by
 unfold cutP
 split
 ·exact ⟨0,rfl⟩
 ·exact ⟨_,rfl⟩
theorem RInv.comS {R:Rs} (h:RInv R) {c:Int} {v t:List UInt8} (ht:t.length=32) (hv:v.length <= 512):RInv (comS R c v t):=by
 refine ⟨h.n,by simpa [Ms.comS] using h.len,fun g hg=>?_,h.long,h.ltag,h.who,h.plen,h.pend⟩;rcases e0m hg with hg | rfl
 ·exact h.regs g hg
 ·have hg:=h.reg c
  exact ⟨hg.asked,hg.ans,ht,hg.num,hg.value,hv,hg.apend,hg.aview,hg.acl⟩
theorem RInv.comL {R:Rs} (h:RInv R) {c:Int} {v t:List UInt8} (ht:t.length=32) (hv:v.length <= 512) (hc:0 <= c/\c < 8):RInv (comL R c v t):=by
 have h1:=h.comS (c:=c) ht hv;obtain ⟨m,hm⟩:=n0i c (R.reg c).asked.number R.pend;refine ⟨h1.n,h1.len,h1.regs,hv,ht,⟨by simp only [Ms.comL];omega,hc.2⟩,?_,fun p hp=>?_⟩
 ·have:=h.plen
  simp only [Ms.comL,hm,List.length_drop];omega
 ·simp only [Ms.comL,hm] at hp
  exact h.pend p (List.mem_of_mem_drop hp)
theorem RInv.comR {R:Rs} (h:RInv R) {c:Int} {v t:List UInt8} (ht:t.length=32):RInv (comR R c v t):=by
 unfold Ms.comR;by_cases h0:comE R c v t ≠ 0
 ·rw [if_pos h0];exact h
 ·rw [if_neg h0]
  obtain ⟨h1,-⟩:=p0u (by omega:comE R c v t=0);obtain ⟨h2,-,h3,-⟩:=c0q h1;have:=h.n
  split
  ·exact h.comL ht h3 ⟨h2.1,by omega⟩
  ·exact h.comS ht h3
theorem j0x (R:Rs) (j:Nat):R.reg (j:Int)=R.regs.getD j j0v:=rfl
theorem d0Q (c:Int) (h:0 <= c/\c < 256):bv (by8 c)=c:=by
 unfold bv by8;rw [UInt8.toNat_ofNat'];omega
open Go Go.RowKit
set_option maxRecDepth 100000
theorem t0T (a b:UInt8):(bv a == bv b)=decide (a=b):=by
 unfold bv;by_cases h:a=b
 ·subst h;simp
 ·have:¬ a.toNat=b.toNat:=fun e=>h (UInt8.toNat_inj.1 e)
  simp [h];omega
theorem i0i (b:List UInt8) (i:Nat) (hi:i < b.length):(dg b)[i]? = some (.int .u8 (bv (b.getD i 0))):=by
 simp [dg,List.getD,cb,List.getElem?_eq_getElem hi]
theorem c0G {P:Program} (w:World) (e:TypeId) (k:IntKind) (he:P.underlying e=some (.int k)) (x y:List UInt8) (d:Nat):∀ is:List Nat,(∀ i ∈ is,i < x.length/\i < y.length) ->
  (Op.eqItems (d + 1) e 1 (dg x).toArray (dg y).toArray is).run P w = .ok (decide (∀ i ∈ is,x.getD i 0=y.getD i 0)) w
 | [],_=>by simp [Op.eqItems]
 | i :: is,h=>by
  have hx:((dg x).toArray)[i * 1]? = some (.int .u8 (bv (x.getD i 0))):=by
   rw [Nat.mul_one,List.getElem?_toArray];exact i0i x i (h i (by simp)).1
  have hy:((dg y).toArray)[i * 1]? = some (.int .u8 (bv (y.getD i 0))):=by
   rw [Nat.mul_one,List.getElem?_toArray];exact i0i y i (h i (by simp)).2
  have hagg:(isAgg e).run P w = .ok false w:=by
   unfold isAgg;rw [Sem.run_bind,run_underlying he w];simp
  have px:(part e (dg x).toArray (i * 1)).run P w = .ok (.int .u8 (bv (x.getD i 0))) w:=by
   unfold part;rw [Sem.run_bind,hagg];simp only [Result.andThen_ok,Bool.false_eq_true,if_false,hx,Sem.run_pure]
  have py:(part e (dg y).toArray (i * 1)).run P w = .ok (.int .u8 (bv (y.getD i 0))) w:=by
   unfold part;rw [Sem.run_bind,hagg];simp only [Result.andThen_ok,Bool.false_eq_true,if_false,hy,Sem.run_pure]
  have pe:(Op.equalIn (d + 1) e (.int .u8 (bv (x.getD i 0))) (.int .u8 (bv (y.getD i 0)))).run P w = .ok (decide (x.getD i 0=y.getD i 0)) w:=by
   unfold Op.equalIn;rw [Sem.run_bind,run_underlying he w];simp only [Result.andThen_ok,if_true,Sem.run_pure,t0T]
  have ih:=c0G w e k he x y d is (fun j hj=>h j (by simp [hj]));unfold Op.eqItems;simp only [Sem.run_bind,px,py,pe,Result.andThen_ok];by_cases hh:x.getD i 0=y.getD i 0
  ·simp only [hh,decide_true,Bool.not_true,Bool.false_eq_true,if_false,ih,List.forall_mem_cons,true_and]
  ·simp only [hh,decide_false,Bool.not_false,if_true,List.forall_mem_cons,false_and,Sem.run_pure]
theorem j0y (x y:List UInt8) (n:Nat) (hx:x.length=n) (hy:y.length=n):(∀ i ∈ List.range n,x.getD i 0=y.getD i 0) ↔ x=y:=by
 constructor
 ·intro h
  apply List.ext_getElem (by omega);intro i h1 h2;have:=h i (by simp;omega);simpa [List.getD,List.getElem?_eq_getElem h1,List.getElem?_eq_getElem h2] using this
 ·rintro rfl i _;rfl
theorem c0V (w:World) (d:Nat) (x y:List UInt8) (hx:x.length=32) (hy:y.length=32) :
  (Op.equalIn (d + 2) 38 (.agg (dg x).toArray) (.agg (dg y).toArray)).run prog w = .ok (x == y) w:=by
 have hs:(prog.info? 5).map (·.size)=some 1:=by kernel_rfl
 cases hq:prog.info? 5 with
 | none=>simp [hq] at hs
 | some i =>
  have hi:i.size=1:=by simpa [hq] using hs
  have hc:prog.cellsOf 5=1:=by simp [Program.cellsOf,hq,hi]
  rw [run_equalIn_array w (d + 1) _ _ underlying38 hq,hc,c0G w 5 _ underlying5 x y d _ (by intro j hj;simp at hj;omega)];simp only [j0y x y 32 hx hy];by_cases e:x=y <;> simp [e]
theorem k0B {P:Program} (w:World) (t:TypeId) (d:TypeDesc) (cs:Array Value) (off:Nat) (v:Value) (hu:P.underlying t=some d) (hd:(match d with | .struct _ | .array _ _=>true | _=>false)=false) (hv:cs[off]? = some v) :
  (part t cs off).run P w = .ok v w:=by
 have hagg:(isAgg t).run P w = .ok false w:=by
  unfold isAgg;rw [Sem.run_bind,run_underlying hu w]
  cases d <;> simp_all
 unfold part;rw [Sem.run_bind,hagg];simp only [Result.andThen_ok,Bool.false_eq_true,if_false,hv,Sem.run_pure]
theorem r0T {P:Program} (w:World) (t:TypeId) (d:TypeDesc) (A cs C:List Value) (off:Nat) (hA:A.length=off) (hu:P.underlying t=some d) (hd:(match d with | .struct _ | .array _ _=>true | _=>false)=true) (hs:(P.info? t).map (·.size)=some cs.length) :
  (part t (A++(cs++C)).toArray off).run P w = .ok (.agg cs.toArray) w:=by
 have hagg:(isAgg t).run P w = .ok true w:=by
  unfold isAgg;rw [Sem.run_bind,run_underlying hu w]
  cases d <;> simp_all
 cases hq:P.info? t with
 | none=>simp [hq] at hs
 | some i =>
  have hi:i.size=cs.length:=by simpa [hq] using hs
  unfold part;rw [Sem.run_bind,hagg];simp only [Result.andThen_ok,if_true,Sem.run_bind,sizeOf,typeInfo];simp [hq,hi];subst hA;simp
def t0r (P:Program) (w:World) (d:Nat) (xs ys:Array Value):List Field->List Bool->Prop
 | [],[]=>True
 | f :: fs,b :: bs=>(f.name ≠ "_"/\∃ a c,(part f.type xs f.offset).run P w = .ok a w/\(part f.type ys f.offset).run P w = .ok c w/\(Op.equalIn d f.type a c).run P w = .ok b w)/\t0r P w d xs ys fs bs
 | _,_=>False
theorem d0K {P:Program} (w:World) (d:Nat) (xs ys:Array Value):∀ (fs:List Field) (bs:List Bool),t0r P w d xs ys fs bs->(Op.eqFields d xs ys fs).run P w = .ok (bs.all id) w
 | [],[],_=>by simp [Op.eqFields]
 | [],_ :: _,h=>h.elim
 | _ :: _,[],h=>h.elim
 | f :: fs,b :: bs,⟨⟨hn,a,c,h1,h2,h3⟩,ht⟩=>by
  have ih:=d0K w d xs ys fs bs ht;unfold Op.eqFields;rw [if_pos hn];simp only [Sem.run_bind,h1,h2,h3,Result.andThen_ok]
  cases b
  ·simp
  ·simp [ih]
theorem sizeDig:(prog.info? 38).map (·.size)=some 32:=by kernel_rfl
theorem b0u (w:World) (cs:List Value) (off:Nat) (n:Int) (h:cs[off]? = some (nu n)):(part 3 cs.toArray off).run prog w = .ok (nu n) w:=k0B w 3 _ _ off _ underlying3 rfl (by simpa using h)
theorem g0P (w:World) (cs:List Value) (off:Nat) (s:List UInt8) (h:cs[off]? = some (st s)):(part 9 cs.toArray off).run prog w = .ok (st s) w:=k0B w 9 _ _ off _ underlying9 rfl (by simpa using h)
theorem d0c (w:World) (L A C:List Value) (x:List UInt8) (off:Nat) (hx:x.length=32) (hL:L=A++(dg x++C)) (hA:A.length=off):(part 38 L.toArray off).run prog w = .ok (.agg (dg x).toArray) w:=by
 subst hL;exact r0T w _ _ A (dg x) C off hA underlying38 rfl (by rw [a0e,hx];exact sizeDig)
theorem b0H (w:World) (d:Nat) (a b:Int):(Op.equalIn (d + 1) 3 (nu a) (nu b)).run prog w = .ok (a == b) w:=run_equalIn_int w d 3 _ _ a b underlying3
theorem h0h (w:World) (d:Nat) (a b:List UInt8):(Op.equalIn (d + 1) 9 (st a) (st b)).run prog w = .ok (a == b) w:=by
 unfold st;rw [run_equalIn_string w d 9 _ _ underlying9,ByteArray.toList_eq,ByteArray.toList_eq]
theorem a0P (w:World) (a b:Sub) (ha:a.Wf) (hb:b.Wf):(Op.equalIn 10000 40 (.agg (subC a).toArray) (.agg (subC b).toArray)).run prog w = .ok (f0s a b) w:=by
 rw [show (10000:Nat)=9997 + 2 + 1 from rfl,run_equalIn_struct w (9997 + 2) 40 _ _ (by kernel_rfl) (by kernel_rfl)];rw [d0K w (9997 + 2) _ _ _ [a.number == b.number,a.kind == b.kind,a.target == b.target,a.value == b.value,a.asked == b.asked,a.data == b.data] ?_]
 ·simp [f0s]
 ·simp only [Program.fieldsOf,underlying40]
  refine ⟨⟨by decide,_,_,b0u w _ 0 a.number rfl,b0u w _ 0 b.number rfl,b0H w _ _ _⟩,⟨by decide,_,_,b0u w _ 1 a.kind rfl,b0u w _ 1 b.kind rfl,b0H w _ _ _⟩,⟨by decide,_,_,b0u w _ 2 a.target rfl,b0u w _ 2 b.target rfl,b0H w _ _ _⟩,
   ⟨by decide,_,_,g0P w _ 3 a.value rfl,g0P w _ 3 b.value rfl,h0h w _ _ _⟩,⟨by decide,_,_,d0c w _ _ (dg a.data) a.asked 4 ha.asked rfl rfl,d0c w _ _ (dg b.data) b.asked 4 hb.asked rfl rfl,c0V w _ _ _ ha.asked hb.asked⟩,
   ⟨by decide,_,_,d0c w _ ([nu a.number,nu a.kind,nu a.target,st a.value]++dg a.asked) [] a.data 36 ha.data (by simp [subC]) (by simp [a0e,ha.asked]),d0c w _ ([nu b.number,nu b.kind,nu b.target,st b.value]++dg b.asked) [] b.data 36 hb.data (by simp [subC]) (by simp [a0e,hb.asked]),c0V w _ _ _ ha.data hb.data⟩,trivial⟩
theorem k0C (w:World) (a b:Pen) (ha:a.Wf) (hb:b.Wf):(Op.equalIn 10000 57 (.agg (penC a).toArray) (.agg (penC b).toArray)).run prog w = .ok (c0C a b) w:=by
 rw [show (10000:Nat)=9997 + 2 + 1 from rfl,run_equalIn_struct w (9997 + 2) 57 _ _ (by kernel_rfl) (by kernel_rfl)];rw [d0K w (9997 + 2) _ _ _ [a.client == b.client,a.number == b.number,a.kind == b.kind,a.target == b.target,a.asked == b.asked,a.proof == b.proof] ?_]
 ·simp [c0C]
 ·simp only [Program.fieldsOf,underlying57]
  refine ⟨⟨by decide,_,_,b0u w _ 0 a.client rfl,b0u w _ 0 b.client rfl,b0H w _ _ _⟩,⟨by decide,_,_,b0u w _ 1 a.number rfl,b0u w _ 1 b.number rfl,b0H w _ _ _⟩,⟨by decide,_,_,b0u w _ 2 a.kind rfl,b0u w _ 2 b.kind rfl,b0H w _ _ _⟩,
   ⟨by decide,_,_,b0u w _ 3 a.target rfl,b0u w _ 3 b.target rfl,b0H w _ _ _⟩,⟨by decide,_,_,d0c w _ _ (dg a.proof) a.asked 4 ha.asked rfl rfl,d0c w _ _ (dg b.proof) b.asked 4 hb.asked rfl rfl,c0V w _ _ _ ha.asked hb.asked⟩,
   ⟨by decide,_,_,d0c w _ ([nu a.client,nu a.number,nu a.kind,nu a.target]++dg a.asked) [] a.proof 36 ha.proof (by simp [penC]) (by simp [a0e,ha.asked]),d0c w _ ([nu b.client,nu b.number,nu b.kind,nu b.target]++dg b.asked) [] b.proof 36 hb.proof (by simp [penC]) (by simp [a0e,hb.asked]),c0V w _ _ _ ha.proof hb.proof⟩,trivial⟩
theorem d0Y (w:World) (a b:Blo) (ha:a.Wf) (hb:b.Wf):(Op.equalIn 10000 78 (.agg (bloC a).toArray) (.agg (bloC b).toArray)).run prog w = .ok (j0n a b) w:=by
 rw [show (10000:Nat)=9997 + 2 + 1 from rfl,run_equalIn_struct w (9997 + 2) 78 _ _ (by kernel_rfl) (by kernel_rfl)];rw [d0K w (9997 + 2) _ _ _ [a.owner == b.owner,a.number == b.number,a.cipher == b.cipher,a.tag == b.tag] ?_]
 ·simp [j0n]
 ·simp only [Program.fieldsOf,underlying78]
  refine ⟨⟨by decide,_,_,b0u w _ 0 a.owner rfl,b0u w _ 0 b.owner rfl,b0H w _ _ _⟩,⟨by decide,_,_,b0u w _ 1 a.number rfl,b0u w _ 1 b.number rfl,b0H w _ _ _⟩,
   ⟨by decide,_,_,g0P w _ 2 a.cipher rfl,g0P w _ 2 b.cipher rfl,h0h w _ _ _⟩,⟨by decide,_,_,d0c w _ [nu a.owner,nu a.number,st a.cipher] [] a.tag 3 ha.tag (by simp [bloC]) rfl,d0c w _ [nu b.owner,nu b.number,st b.cipher] [] b.tag 3 hb.tag (by simp [bloC]) rfl,c0V w _ _ _ ha.tag hb.tag⟩,trivial⟩
theorem a0m (w:World) (a b:List UInt8) (ha:a.length=32) (hb:b.length=32):(Op.equalIn 10000 38 (.agg (dg a).toArray) (.agg (dg b).toArray)).run prog w = .ok (a == b) w:=c0V w 9998 a b ha hb
open Go Go.RowKit
set_option maxRecDepth 100000
theorem a0s {w:World} {g:Nat} {L A cs C:List Value} {t:TypeId} {off:Nat} (h:w.heap[g]? = some (.cells L.toArray t)) (hL:L=A++(cs++C)) (hA:A.length=off):∀ j v,cs[j]? = some v->w.cell? ⟨g,off + j,none⟩=some v:=by
 intro j v hj;rw [cell_of_row _ _ _ _ _ _ h,List.getElem?_toArray,hL];exact v0d A cs C off j v hA hj
theorem a0l {w:World} {g:Nat} {L A C:List Value} {v:Value} {t:TypeId} {off:Nat} (h:w.heap[g]? = some (.cells L.toArray t)) (hL:L=A++([v]++C)) (hA:A.length=off):w.cell? ⟨g,off,none⟩=some v:=a0s h hL hA 0 v rfl
theorem b0R {w:World} {g:Nat} {m:Msg} {vP vN:Value} (h:w.heap[g]? = some (.cells (msgC m vP vN).toArray 80)) (_:m.Wf):w.cell? ⟨g,0,none⟩=some (nu m.kind):=a0l (A:=[]) (C:=[nu m.client]++([nu m.sub.number]++([nu m.sub.kind]++([nu m.sub.target]++([st m.sub.value]++(dg m.sub.asked++(dg m.sub.data++([nu m.rep.number]++([nu m.rep.last]++([st m.rep.view]++(dg m.rep.commit++([vP]++([nu m.rep.vnum]++([st m.rep.value]++(dg m.rep.data++([st m.rep.seen]++(dg m.rep.stag++([st m.view]++([nu m.who]++(dg m.tag++(dg m.own++([nu m.blob.owner]++([nu m.blob.number]++([st m.blob.cipher]++(dg m.blob.tag++([vN])))))))))))))))))))))))))) h (by simp [msgC,subC,repC,bloC]) rfl
theorem c0r {w:World} {g:Nat} {m:Msg} {vP vN:Value} (h:w.heap[g]? = some (.cells (msgC m vP vN).toArray 80)) (_:m.Wf):w.cell? ⟨g,1,none⟩=some (nu m.client):=a0l (A:=[nu m.kind]) (C:=[nu m.sub.number]++([nu m.sub.kind]++([nu m.sub.target]++([st m.sub.value]++(dg m.sub.asked++(dg m.sub.data++([nu m.rep.number]++([nu m.rep.last]++([st m.rep.view]++(dg m.rep.commit++([vP]++([nu m.rep.vnum]++([st m.rep.value]++(dg m.rep.data++([st m.rep.seen]++(dg m.rep.stag++([st m.view]++([nu m.who]++(dg m.tag++(dg m.own++([nu m.blob.owner]++([nu m.blob.number]++([st m.blob.cipher]++(dg m.blob.tag++([vN]))))))))))))))))))))))))) h (by simp [msgC,subC,repC,bloC]) rfl
theorem h0i {w:World} {g:Nat} {m:Msg} {vP vN:Value} (h:w.heap[g]? = some (.cells (msgC m vP vN).toArray 80)) (_:m.Wf):w.cell? ⟨g,2,none⟩=some (nu m.sub.number):=a0l (A:=[nu m.kind]++([nu m.client])) (C:=[nu m.sub.kind]++([nu m.sub.target]++([st m.sub.value]++(dg m.sub.asked++(dg m.sub.data++([nu m.rep.number]++([nu m.rep.last]++([st m.rep.view]++(dg m.rep.commit++([vP]++([nu m.rep.vnum]++([st m.rep.value]++(dg m.rep.data++([st m.rep.seen]++(dg m.rep.stag++([st m.view]++([nu m.who]++(dg m.tag++(dg m.own++([nu m.blob.owner]++([nu m.blob.number]++([st m.blob.cipher]++(dg m.blob.tag++([vN])))))))))))))))))))))))) h (by simp [msgC,subC,repC,bloC]) rfl
theorem j0z {w:World} {g:Nat} {m:Msg} {vP vN:Value} (h:w.heap[g]? = some (.cells (msgC m vP vN).toArray 80)) (_:m.Wf):w.cell? ⟨g,3,none⟩=some (nu m.sub.kind):=a0l (A:=[nu m.kind]++([nu m.client]++([nu m.sub.number]))) (C:=[nu m.sub.target]++([st m.sub.value]++(dg m.sub.asked++(dg m.sub.data++([nu m.rep.number]++([nu m.rep.last]++([st m.rep.view]++(dg m.rep.commit++([vP]++([nu m.rep.vnum]++([st m.rep.value]++(dg m.rep.data++([st m.rep.seen]++(dg m.rep.stag++([st m.view]++([nu m.who]++(dg m.tag++(dg m.own++([nu m.blob.owner]++([nu m.blob.number]++([st m.blob.cipher]++(dg m.blob.tag++([vN]))))))))))))))))))))))) h (by simp [msgC,subC,repC,bloC]) rfl
theorem h0j {w:World} {g:Nat} {m:Msg} {vP vN:Value} (h:w.heap[g]? = some (.cells (msgC m vP vN).toArray 80)) (_:m.Wf):w.cell? ⟨g,4,none⟩=some (nu m.sub.target):=a0l (A:=[nu m.kind]++([nu m.client]++([nu m.sub.number]++([nu m.sub.kind])))) (C:=[st m.sub.value]++(dg m.sub.asked++(dg m.sub.data++([nu m.rep.number]++([nu m.rep.last]++([st m.rep.view]++(dg m.rep.commit++([vP]++([nu m.rep.vnum]++([st m.rep.value]++(dg m.rep.data++([st m.rep.seen]++(dg m.rep.stag++([st m.view]++([nu m.who]++(dg m.tag++(dg m.own++([nu m.blob.owner]++([nu m.blob.number]++([st m.blob.cipher]++(dg m.blob.tag++([vN])))))))))))))))))))))) h (by simp [msgC,subC,repC,bloC]) rfl
theorem i0j {w:World} {g:Nat} {m:Msg} {vP vN:Value} (h:w.heap[g]? = some (.cells (msgC m vP vN).toArray 80)) (_:m.Wf):w.cell? ⟨g,5,none⟩=some (st m.sub.value):=a0l (A:=[nu m.kind]++([nu m.client]++([nu m.sub.number]++([nu m.sub.kind]++([nu m.sub.target]))))) (C:=dg m.sub.asked++(dg m.sub.data++([nu m.rep.number]++([nu m.rep.last]++([st m.rep.view]++(dg m.rep.commit++([vP]++([nu m.rep.vnum]++([st m.rep.value]++(dg m.rep.data++([st m.rep.seen]++(dg m.rep.stag++([st m.view]++([nu m.who]++(dg m.tag++(dg m.own++([nu m.blob.owner]++([nu m.blob.number]++([st m.blob.cipher]++(dg m.blob.tag++([vN]))))))))))))))))))))) h (by simp [msgC,subC,repC,bloC]) rfl
theorem a0y {w:World} {g:Nat} {m:Msg} {vP vN:Value} (h:w.heap[g]? = some (.cells (msgC m vP vN).toArray 80)) (hw:m.Wf):w.cell? ⟨g,173,none⟩=some (st m.view):=a0l (A:=[nu m.kind]++([nu m.client]++([nu m.sub.number]++([nu m.sub.kind]++([nu m.sub.target]++([st m.sub.value]++(dg m.sub.asked++(dg m.sub.data++([nu m.rep.number]++([nu m.rep.last]++([st m.rep.view]++(dg m.rep.commit++([vP]++([nu m.rep.vnum]++([st m.rep.value]++(dg m.rep.data++([st m.rep.seen]++(dg m.rep.stag)))))))))))))))))) (C:=[nu m.who]++(dg m.tag++(dg m.own++([nu m.blob.owner]++([nu m.blob.number]++([st m.blob.cipher]++(dg m.blob.tag++([vN])))))))) h (by simp [msgC,subC,repC,bloC]) (by simp [a0e,hw.sub.asked,hw.sub.data,hw.rep.commit,hw.rep.data,hw.rep.stag])
theorem a0J {w:World} {g:Nat} {m:Msg} {vP vN:Value} (h:w.heap[g]? = some (.cells (msgC m vP vN).toArray 80)) (hw:m.Wf):w.cell? ⟨g,174,none⟩=some (nu m.who):=a0l (A:=[nu m.kind]++([nu m.client]++([nu m.sub.number]++([nu m.sub.kind]++([nu m.sub.target]++([st m.sub.value]++(dg m.sub.asked++(dg m.sub.data++([nu m.rep.number]++([nu m.rep.last]++([st m.rep.view]++(dg m.rep.commit++([vP]++([nu m.rep.vnum]++([st m.rep.value]++(dg m.rep.data++([st m.rep.seen]++(dg m.rep.stag++([st m.view]))))))))))))))))))) (C:=dg m.tag++(dg m.own++([nu m.blob.owner]++([nu m.blob.number]++([st m.blob.cipher]++(dg m.blob.tag++([vN]))))))) h (by simp [msgC,subC,repC,bloC]) (by simp [a0e,hw.sub.asked,hw.sub.data,hw.rep.commit,hw.rep.data,hw.rep.stag])
theorem b0j {w:World} {g:Nat} {m:Msg} {vP vN:Value} (h:w.heap[g]? = some (.cells (msgC m vP vN).toArray 80)) (hw:m.Wf):∀ j v,(dg m.tag)[j]? = some v->w.cell? ⟨g,175 + j,none⟩=some v:=a0s (A:=[nu m.kind]++([nu m.client]++([nu m.sub.number]++([nu m.sub.kind]++([nu m.sub.target]++([st m.sub.value]++(dg m.sub.asked++(dg m.sub.data++([nu m.rep.number]++([nu m.rep.last]++([st m.rep.view]++(dg m.rep.commit++([vP]++([nu m.rep.vnum]++([st m.rep.value]++(dg m.rep.data++([st m.rep.seen]++(dg m.rep.stag++([st m.view]++([nu m.who])))))))))))))))))))) (C:=dg m.own++([nu m.blob.owner]++([nu m.blob.number]++([st m.blob.cipher]++(dg m.blob.tag++([vN])))))) h (by simp [msgC,subC,repC,bloC]) (by simp [a0e,hw.sub.asked,hw.sub.data,hw.rep.commit,hw.rep.data,hw.rep.stag])
theorem b0A {w:World} {g:Nat} {m:Msg} {vP vN:Value} (h:w.heap[g]? = some (.cells (msgC m vP vN).toArray 80)) (hw:m.Wf):∀ j v,(dg m.own)[j]? = some v->w.cell? ⟨g,207 + j,none⟩=some v:=a0s (A:=[nu m.kind]++([nu m.client]++([nu m.sub.number]++([nu m.sub.kind]++([nu m.sub.target]++([st m.sub.value]++(dg m.sub.asked++(dg m.sub.data++([nu m.rep.number]++([nu m.rep.last]++([st m.rep.view]++(dg m.rep.commit++([vP]++([nu m.rep.vnum]++([st m.rep.value]++(dg m.rep.data++([st m.rep.seen]++(dg m.rep.stag++([st m.view]++([nu m.who]++(dg m.tag))))))))))))))))))))) (C:=[nu m.blob.owner]++([nu m.blob.number]++([st m.blob.cipher]++(dg m.blob.tag++([vN]))))) h (by simp [msgC,subC,repC,bloC]) (by simp [a0e,hw.sub.asked,hw.sub.data,hw.rep.commit,hw.rep.data,hw.rep.stag,hw.tag])
theorem e0E {w:World} {g:Nat} {m:Msg} {vP vN:Value} (h:w.heap[g]? = some (.cells (msgC m vP vN).toArray 80)) (hw:m.Wf):w.cell? ⟨g,239,none⟩=some (nu m.blob.owner):=a0l (A:=[nu m.kind]++([nu m.client]++([nu m.sub.number]++([nu m.sub.kind]++([nu m.sub.target]++([st m.sub.value]++(dg m.sub.asked++(dg m.sub.data++([nu m.rep.number]++([nu m.rep.last]++([st m.rep.view]++(dg m.rep.commit++([vP]++([nu m.rep.vnum]++([st m.rep.value]++(dg m.rep.data++([st m.rep.seen]++(dg m.rep.stag++([st m.view]++([nu m.who]++(dg m.tag++(dg m.own)))))))))))))))))))))) (C:=[nu m.blob.number]++([st m.blob.cipher]++(dg m.blob.tag++([vN])))) h (by simp [msgC,subC,repC,bloC]) (by simp [a0e,hw.sub.asked,hw.sub.data,hw.rep.commit,hw.rep.data,hw.rep.stag,hw.tag,hw.own])
theorem e0v {w:World} {g:Nat} {m:Msg} {vP vN:Value} (h:w.heap[g]? = some (.cells (msgC m vP vN).toArray 80)) (hw:m.Wf):w.cell? ⟨g,240,none⟩=some (nu m.blob.number):=a0l (A:=[nu m.kind]++([nu m.client]++([nu m.sub.number]++([nu m.sub.kind]++([nu m.sub.target]++([st m.sub.value]++(dg m.sub.asked++(dg m.sub.data++([nu m.rep.number]++([nu m.rep.last]++([st m.rep.view]++(dg m.rep.commit++([vP]++([nu m.rep.vnum]++([st m.rep.value]++(dg m.rep.data++([st m.rep.seen]++(dg m.rep.stag++([st m.view]++([nu m.who]++(dg m.tag++(dg m.own++([nu m.blob.owner]))))))))))))))))))))))) (C:=[st m.blob.cipher]++(dg m.blob.tag++([vN]))) h (by simp [msgC,subC,repC,bloC]) (by simp [a0e,hw.sub.asked,hw.sub.data,hw.rep.commit,hw.rep.data,hw.rep.stag,hw.tag,hw.own])
theorem e0w {w:World} {g:Nat} {m:Msg} {vP vN:Value} (h:w.heap[g]? = some (.cells (msgC m vP vN).toArray 80)) (hw:m.Wf):w.cell? ⟨g,241,none⟩=some (st m.blob.cipher):=a0l (A:=[nu m.kind]++([nu m.client]++([nu m.sub.number]++([nu m.sub.kind]++([nu m.sub.target]++([st m.sub.value]++(dg m.sub.asked++(dg m.sub.data++([nu m.rep.number]++([nu m.rep.last]++([st m.rep.view]++(dg m.rep.commit++([vP]++([nu m.rep.vnum]++([st m.rep.value]++(dg m.rep.data++([st m.rep.seen]++(dg m.rep.stag++([st m.view]++([nu m.who]++(dg m.tag++(dg m.own++([nu m.blob.owner]++([nu m.blob.number])))))))))))))))))))))))) (C:=dg m.blob.tag++([vN])) h (by simp [msgC,subC,repC,bloC]) (by simp [a0e,hw.sub.asked,hw.sub.data,hw.rep.commit,hw.rep.data,hw.rep.stag,hw.tag,hw.own])
theorem b0v {w:World} {g:Nat} {m:Msg} {vP vN:Value} (h:w.heap[g]? = some (.cells (msgC m vP vN).toArray 80)) (hw:m.Wf):w.cell? ⟨g,274,none⟩=some (vN):=a0l (A:=[nu m.kind]++([nu m.client]++([nu m.sub.number]++([nu m.sub.kind]++([nu m.sub.target]++([st m.sub.value]++(dg m.sub.asked++(dg m.sub.data++([nu m.rep.number]++([nu m.rep.last]++([st m.rep.view]++(dg m.rep.commit++([vP]++([nu m.rep.vnum]++([st m.rep.value]++(dg m.rep.data++([st m.rep.seen]++(dg m.rep.stag++([st m.view]++([nu m.who]++(dg m.tag++(dg m.own++([nu m.blob.owner]++([nu m.blob.number]++([st m.blob.cipher]++(dg m.blob.tag)))))))))))))))))))))))))) (C:=[]) h (by simp [msgC,subC,repC,bloC]) (by simp [a0e,hw.sub.asked,hw.sub.data,hw.rep.commit,hw.rep.data,hw.rep.stag,hw.tag,hw.own,hw.blob.tag])
theorem f0I {w:World} {g:Nat} {m:Msg} {vP vN:Value} (h:w.heap[g]? = some (.cells (msgC m vP vN).toArray 80)) (_:m.Wf):∀ j v,(subC m.sub)[j]? = some v->w.cell? ⟨g,2 + j,none⟩=some v:=a0s (A:=[nu m.kind]++([nu m.client])) (C:=[nu m.rep.number]++([nu m.rep.last]++([st m.rep.view]++(dg m.rep.commit++([vP]++([nu m.rep.vnum]++([st m.rep.value]++(dg m.rep.data++([st m.rep.seen]++(dg m.rep.stag++([st m.view]++([nu m.who]++(dg m.tag++(dg m.own++([nu m.blob.owner]++([nu m.blob.number]++([st m.blob.cipher]++(dg m.blob.tag++([vN]))))))))))))))))))) h (by simp [msgC,subC,repC,bloC]) rfl
theorem e0V {w:World} {g:Nat} {m:Msg} {vP vN:Value} (h:w.heap[g]? = some (.cells (msgC m vP vN).toArray 80)) (hw:m.Wf):∀ j v,(repC m.rep vP)[j]? = some v->w.cell? ⟨g,70 + j,none⟩=some v:=a0s (A:=[nu m.kind]++([nu m.client]++([nu m.sub.number]++([nu m.sub.kind]++([nu m.sub.target]++([st m.sub.value]++(dg m.sub.asked++(dg m.sub.data)))))))) (C:=[st m.view]++([nu m.who]++(dg m.tag++(dg m.own++([nu m.blob.owner]++([nu m.blob.number]++([st m.blob.cipher]++(dg m.blob.tag++([vN]))))))))) h (by simp [msgC,subC,repC,bloC]) (by simp [a0e,hw.sub.asked,hw.sub.data])
theorem b0w {w:World} {g:Nat} {m:Msg} {vP vN:Value} (h:w.heap[g]? = some (.cells (msgC m vP vN).toArray 80)) (hw:m.Wf):∀ j v,(bloC m.blob)[j]? = some v->w.cell? ⟨g,239 + j,none⟩=some v:=a0s (A:=[nu m.kind]++([nu m.client]++([nu m.sub.number]++([nu m.sub.kind]++([nu m.sub.target]++([st m.sub.value]++(dg m.sub.asked++(dg m.sub.data++([nu m.rep.number]++([nu m.rep.last]++([st m.rep.view]++(dg m.rep.commit++([vP]++([nu m.rep.vnum]++([st m.rep.value]++(dg m.rep.data++([st m.rep.seen]++(dg m.rep.stag++([st m.view]++([nu m.who]++(dg m.tag++(dg m.own)))))))))))))))))))))) (C:=[vN]) h (by simp [msgC,subC,repC,bloC]) (by simp [a0e,hw.sub.asked,hw.sub.data,hw.rep.commit,hw.rep.data,hw.rep.stag,hw.tag,hw.own])
theorem c0s {w:World} {g:Nat} {x:Rep} {vP:Value} (h:w.heap[g]? = some (.cells (repC x vP).toArray 44)) (_:x.Wf):w.cell? ⟨g,0,none⟩=some (nu x.number):=a0l (A:=[]) (C:=[nu x.last]++([st x.view]++(dg x.commit++([vP]++([nu x.vnum]++([st x.value]++(dg x.data++([st x.seen]++(dg x.stag))))))))) h (by simp [repC]) rfl
theorem d0f {w:World} {g:Nat} {x:Rep} {vP:Value} (h:w.heap[g]? = some (.cells (repC x vP).toArray 44)) (_:x.Wf):w.cell? ⟨g,1,none⟩=some (nu x.last):=a0l (A:=[nu x.number]) (C:=[st x.view]++(dg x.commit++([vP]++([nu x.vnum]++([st x.value]++(dg x.data++([st x.seen]++(dg x.stag)))))))) h (by simp [repC]) rfl
theorem b0B {w:World} {g:Nat} {x:Rep} {vP:Value} (h:w.heap[g]? = some (.cells (repC x vP).toArray 44)) (_:x.Wf):w.cell? ⟨g,2,none⟩=some (st x.view):=a0l (A:=[nu x.number]++([nu x.last])) (C:=dg x.commit++([vP]++([nu x.vnum]++([st x.value]++(dg x.data++([st x.seen]++(dg x.stag))))))) h (by simp [repC]) rfl
theorem c0W {w:World} {g:Nat} {x:Rep} {vP:Value} (h:w.heap[g]? = some (.cells (repC x vP).toArray 44)) (_:x.Wf):∀ j v,(dg x.commit)[j]? = some v->w.cell? ⟨g,3 + j,none⟩=some v:=a0s (A:=[nu x.number]++([nu x.last]++([st x.view]))) (C:=[vP]++([nu x.vnum]++([st x.value]++(dg x.data++([st x.seen]++(dg x.stag)))))) h (by simp [repC]) rfl
theorem f0n {w:World} {g:Nat} {x:Rep} {vP:Value} (h:w.heap[g]? = some (.cells (repC x vP).toArray 44)) (hw:x.Wf):w.cell? ⟨g,35,none⟩=some (vP):=a0l (A:=[nu x.number]++([nu x.last]++([st x.view]++(dg x.commit)))) (C:=[nu x.vnum]++([st x.value]++(dg x.data++([st x.seen]++(dg x.stag))))) h (by simp [repC]) (by simp [a0e,hw.commit])
theorem a0Q {w:World} {g:Nat} {x:Rep} {vP:Value} (h:w.heap[g]? = some (.cells (repC x vP).toArray 44)) (hw:x.Wf):w.cell? ⟨g,36,none⟩=some (nu x.vnum):=a0l (A:=[nu x.number]++([nu x.last]++([st x.view]++(dg x.commit++([vP]))))) (C:=[st x.value]++(dg x.data++([st x.seen]++(dg x.stag)))) h (by simp [repC]) (by simp [a0e,hw.commit])
theorem a0Y {w:World} {g:Nat} {x:Rep} {vP:Value} (h:w.heap[g]? = some (.cells (repC x vP).toArray 44)) (hw:x.Wf):w.cell? ⟨g,37,none⟩=some (st x.value):=a0l (A:=[nu x.number]++([nu x.last]++([st x.view]++(dg x.commit++([vP]++([nu x.vnum])))))) (C:=dg x.data++([st x.seen]++(dg x.stag))) h (by simp [repC]) (by simp [a0e,hw.commit])
theorem b0S {w:World} {g:Nat} {x:Rep} {vP:Value} (h:w.heap[g]? = some (.cells (repC x vP).toArray 44)) (hw:x.Wf):∀ j v,(dg x.data)[j]? = some v->w.cell? ⟨g,38 + j,none⟩=some v:=a0s (A:=[nu x.number]++([nu x.last]++([st x.view]++(dg x.commit++([vP]++([nu x.vnum]++([st x.value]))))))) (C:=[st x.seen]++(dg x.stag)) h (by simp [repC]) (by simp [a0e,hw.commit])
theorem b0x {w:World} {g:Nat} {x:Rep} {vP:Value} (h:w.heap[g]? = some (.cells (repC x vP).toArray 44)) (hw:x.Wf):w.cell? ⟨g,70,none⟩=some (st x.seen):=a0l (A:=[nu x.number]++([nu x.last]++([st x.view]++(dg x.commit++([vP]++([nu x.vnum]++([st x.value]++(dg x.data)))))))) (C:=dg x.stag) h (by simp [repC]) (by simp [a0e,hw.commit,hw.data])
theorem d0g {w:World} {g:Nat} {x:Rep} {vP:Value} (h:w.heap[g]? = some (.cells (repC x vP).toArray 44)) (hw:x.Wf):∀ j v,(dg x.stag)[j]? = some v->w.cell? ⟨g,71 + j,none⟩=some v:=a0s (A:=[nu x.number]++([nu x.last]++([st x.view]++(dg x.commit++([vP]++([nu x.vnum]++([st x.value]++(dg x.data++([st x.seen]))))))))) (C:=[]) h (by simp [repC]) (by simp [a0e,hw.commit,hw.data])
theorem d0z {w:World} {g:Nat} {x:Pen} (h:w.heap[g]? = some (.cells (penC x).toArray 57)) (_:x.Wf):w.cell? ⟨g,0,none⟩=some (nu x.client):=a0l (A:=[]) (C:=[nu x.number]++([nu x.kind]++([nu x.target]++(dg x.asked++(dg x.proof))))) h (by simp [penC]) rfl
theorem d0A {w:World} {g:Nat} {x:Pen} (h:w.heap[g]? = some (.cells (penC x).toArray 57)) (_:x.Wf):w.cell? ⟨g,1,none⟩=some (nu x.number):=a0l (A:=[nu x.client]) (C:=[nu x.kind]++([nu x.target]++(dg x.asked++(dg x.proof)))) h (by simp [penC]) rfl
theorem h0m {w:World} {g:Nat} {x:Pen} (h:w.heap[g]? = some (.cells (penC x).toArray 57)) (_:x.Wf):w.cell? ⟨g,2,none⟩=some (nu x.kind):=a0l (A:=[nu x.client]++([nu x.number])) (C:=[nu x.target]++(dg x.asked++(dg x.proof))) h (by simp [penC]) rfl
theorem f0v {w:World} {g:Nat} {x:Pen} (h:w.heap[g]? = some (.cells (penC x).toArray 57)) (_:x.Wf):w.cell? ⟨g,3,none⟩=some (nu x.target):=a0l (A:=[nu x.client]++([nu x.number]++([nu x.kind]))) (C:=dg x.asked++(dg x.proof)) h (by simp [penC]) rfl
theorem o0i {w:World} {g:Nat} {x:Pen} (h:w.heap[g]? = some (.cells (penC x).toArray 57)) (_:x.Wf):∀ j v,(dg x.asked)[j]? = some v->w.cell? ⟨g,4 + j,none⟩=some v:=a0s (A:=[nu x.client]++([nu x.number]++([nu x.kind]++([nu x.target])))) (C:=dg x.proof) h (by simp [penC]) rfl
theorem o0j {w:World} {g:Nat} {x:Pen} (h:w.heap[g]? = some (.cells (penC x).toArray 57)) (hw:x.Wf):∀ j v,(dg x.proof)[j]? = some v->w.cell? ⟨g,36 + j,none⟩=some v:=a0s (A:=[nu x.client]++([nu x.number]++([nu x.kind]++([nu x.target]++(dg x.asked))))) (C:=[]) h (by simp [penC]) (by simp [a0e,hw.asked])
theorem a0N {w:World} {g:Nat} {x:Sub} (h:w.heap[g]? = some (.cells (subC x).toArray 40)) (_:x.Wf):w.cell? ⟨g,0,none⟩=some (nu x.number):=a0l (A:=[]) (C:=[nu x.kind]++([nu x.target]++([st x.value]++(dg x.asked++(dg x.data))))) h (by simp [subC]) rfl
theorem d0B {w:World} {g:Nat} {x:Sub} (h:w.heap[g]? = some (.cells (subC x).toArray 40)) (_:x.Wf):w.cell? ⟨g,1,none⟩=some (nu x.kind):=a0l (A:=[nu x.number]) (C:=[nu x.target]++([st x.value]++(dg x.asked++(dg x.data)))) h (by simp [subC]) rfl
theorem a0O {w:World} {g:Nat} {x:Sub} (h:w.heap[g]? = some (.cells (subC x).toArray 40)) (_:x.Wf):w.cell? ⟨g,2,none⟩=some (nu x.target):=a0l (A:=[nu x.number]++([nu x.kind])) (C:=[st x.value]++(dg x.asked++(dg x.data))) h (by simp [subC]) rfl
theorem o0k {w:World} {g:Nat} {x:Sub} (h:w.heap[g]? = some (.cells (subC x).toArray 40)) (_:x.Wf):w.cell? ⟨g,3,none⟩=some (st x.value):=a0l (A:=[nu x.number]++([nu x.kind]++([nu x.target]))) (C:=dg x.asked++(dg x.data)) h (by simp [subC]) rfl
theorem o0l {w:World} {g:Nat} {x:Blo} (h:w.heap[g]? = some (.cells (bloC x).toArray 78)) (_:x.Wf):w.cell? ⟨g,0,none⟩=some (nu x.owner):=a0l (A:=[]) (C:=[nu x.number]++([st x.cipher]++(dg x.tag))) h (by simp [bloC]) rfl
theorem m0b {w:World} {g:Nat} {x:Blo} (h:w.heap[g]? = some (.cells (bloC x).toArray 78)) (_:x.Wf):w.cell? ⟨g,1,none⟩=some (nu x.number):=a0l (A:=[nu x.owner]) (C:=[st x.cipher]++(dg x.tag)) h (by simp [bloC]) rfl
theorem m0c {w:World} {g:Nat} {x:Blo} (h:w.heap[g]? = some (.cells (bloC x).toArray 78)) (_:x.Wf):w.cell? ⟨g,2,none⟩=some (st x.cipher):=a0l (A:=[nu x.owner]++([nu x.number])) (C:=dg x.tag) h (by simp [bloC]) rfl
open Go Go.RowKit
set_option maxRecDepth 100000
theorem hid {p:Prop} (h:p):Hid p:=h
theorem b0f (g o j:Nat):(⟨g,o,none⟩:Addr).add j=⟨g,o + j,none⟩:=by unfold Addr.add;split <;> simp_all
theorem a0f (W:World) (o:Obj):(W.alloc o).heap[W.heap.size]? = some o:=by show (W.heap.push o)[W.heap.size]? = _;simp
theorem a0b {w w1 w2:World} (h1:Below w.heap.size w w1) (h2:Below w1.heap.size w1 w2):Below w.heap.size w w2:=h1.trans (h2.mono h1.size)
theorem a0c (w:World) (o:Obj):Below w.heap.size w (w.alloc o):=(Below.refl _ w).alloc (Nat.le_refl _) o
theorem a0a {w w':World} {k:Nat} {o:Obj} (hr:w.heap[k]? = some o) (hb:Below w.heap.size w w'):w'.heap[k]? = some o:=(hb.block k (Array.getElem?_eq_some_iff.1 hr).1).trans hr
section
variable {P:Program} {ops:Array Oper} {rest:List Oper} {o:Oper} {a:Act} {w:World} {Q:Exit->Act->World->Prop}
theorem a0d (ty:TypeId) (x:Operand) (ho:o.op = .load ty x)
  (g off:Nat) (hx:a.eval x = .pointer (some ⟨g,off,none⟩)) (hw:Region.wanted o (yielded ops a.tmps)=true) (cs:List Value) (d:TypeDesc) (hc:∀ j v,cs[j]? = some v->w.cell? ⟨g,off + j,none⟩=some v)
  (hu:P.underlying ty=some d) (hd:(match d with | .struct _ | .array _ _=>true | _=>false)=true) (hi:(P.info? ty).map (·.size)=some cs.length)
  (h:wpList P ops Q rest (a.put o.dst (.agg cs.toArray)) w):wpList P ops Q (o :: rest) a w:=by
 refine BigFrame.wpList_want hw fun K hK=>?_;have h':=hK _ _ h
 have hl:(loadCells ⟨g,off,none⟩ cs.length).run P w = .ok cs.toArray w :=
  run_loadCells_list (P:=P) w ⟨g,off,none⟩ cs (fun j v hv=>by rw [b0f];exact hc j v hv)
 cases hq:P.info? ty with
 | none=>simp [hq] at hi
 | some i =>
  have hs:i.size=cs.length:=by simpa [hq] using hi
  have hagg:(isAgg ty).run P w = .ok true w:=by
   unfold isAgg;rw [Sem.run_bind,run_underlying hu w]
   cases d <;> simp_all
  unfold Oper.wp execOp;simp [ho,hx,Instr.loadAt,Instr.sureAddr,Sem.run_bind,loadVar,hagg,sizeOf,typeInfo,hq,hs,hl];exact h'
theorem a0G (ty:TypeId) (ho:o.op = .alloc ty) (hw:Region.wanted o (yielded ops a.tmps)=true) (z:Array Value) (hi:(P.info? ty).map (·.zero)=some (some (.agg z)))
  (h:wpList P ops Q rest (a.put o.dst (.pointer (some ⟨w.heap.size,0,none⟩))) (w.alloc (.cells z ty))):wpList P ops Q (o :: rest) a w:=by
 refine BigFrame.wpList_want hw fun K hK=>?_;have h':=hK _ _ h
 cases hq:P.info? ty with
 | none=>simp [hq] at hi
 | some i =>
  have hz:i.zero=some (.agg z):=by simpa [hq] using hi
  unfold Oper.wp execOp;simp [ho,Instr.alloc,zeroValue,typeInfo,hq,hz,newVar,newRow,newObj,Sem.run_bind,Value.cells];exact h'
theorem n0j (ty:TypeId) (x y:Operand) (ho:o.op = .store ty x y) (hn:o.dst=none)
  (g off:Nat) (hx:a.eval x = .pointer (some ⟨g,off,none⟩)) (hw:Region.wanted o (yielded ops a.tmps)=true) (A cs old C:List Value) (hy:a.eval y = .agg cs.toArray) (t:TypeId) (hg:w.heap[g]? = some (.cells (A++(old++C)).toArray t))
  (hA:A.length=off) (hold:old.length=cs.length) (h1:∀ v ∈ cs,v.oneCell' = true) (hi:(P.info? ty).map (·.size)=some cs.length)
  (h:wpList P ops Q rest a (w.setRow g (A++(cs++C)).toArray)):wpList P ops Q (o :: rest) a w:=by
 refine BigFrame.wpList_want hw fun K hK=>?_
 have e:((A++(old++C)).toArray.toList.take off++cs++(A++(old++C)).toArray.toList.drop (off + cs.length))=A++(cs++C):=by
  subst hA;simp [← hold,List.append_assoc]
 have h':=hK _ _ h;have hst:=run_storeCells_at P g off t cs 0 (A++(old++C)).toArray w hg (by subst hA;simp;omega) h1;rw [Nat.add_zero,e] at hst
 cases hq:P.info? ty with
 | none=>simp [hq] at hi
 | some i =>
  have hs:i.size=cs.length:=by simpa [hq] using hi
  unfold Oper.wp execOp;simp [ho,hx,hy,Instr.storeAt,Instr.sureAddr,Sem.run_bind,storeVar,sizeOf,typeInfo,hq,hs,Value.cells];simp [hst];show K (a.put o.dst undef) _;rw [hn];exact h'
end
section
variable {P:Program} {ops:Array Oper} {C:World->Prop} {Q:Act->Prop} {a:Act} {o:Oper} {rest:List Oper}
theorem c0H (ty:TypeId) (x:Operand) (ho:o.op = .load ty x)
  (g off:Nat) (hx:a.eval x = .pointer (some ⟨g,off,none⟩)) (hw:Region.wanted o (yielded ops a.tmps)=true) (cs:List Value) (d:TypeDesc) (hc:∀ w,C w->∀ j v,cs[j]? = some v->w.cell? ⟨g,off + j,none⟩=some v)
  (hu:P.underlying ty=some d) (hd:(match d with | .struct _ | .array _ _=>true | _=>false)=true) (hi:(P.info? ty).map (·.size)=some cs.length)
  (h:wpQuiet P ops C Q rest (a.put o.dst (.agg cs.toArray))):wpQuiet P ops C Q (o :: rest) a:=by
 unfold wpQuiet;rw [if_pos hw];refine ⟨.agg cs.toArray,fun w hC=>?_,h⟩
 have hl:(loadCells ⟨g,off,none⟩ cs.length).run P w = .ok cs.toArray w :=
  run_loadCells_list (P:=P) w ⟨g,off,none⟩ cs (fun j v hv=>by rw [b0f];exact hc w hC j v hv)
 cases hq:P.info? ty with
 | none=>simp [hq] at hi
 | some i =>
  have hs:i.size=cs.length:=by simpa [hq] using hi
  have hagg:(isAgg ty).run P w = .ok true w:=by
   unfold isAgg;rw [Sem.run_bind,run_underlying hu w]
   cases d <;> simp_all
  unfold Oper.quietAt execOp;simp [ho,hx,Instr.loadAt,Instr.sureAddr,Sem.run_bind,loadVar,hagg,sizeOf,typeInfo,hq,hs,hl,Oper.quietUpon]
theorem t0s (hw:Region.wanted o (yielded ops a.tmps)=true) (ty rt:TypeId) (x y:Operand) (ho:o.op = .binOp .eql ty x y rt)
  (X Y:Array Value) (hx:a.eval x = .agg X) (hy:a.eval y = .agg Y) (hgt:P.eqGuardType P.depth ty=false) (B:Bool) (he:∀ w,(Op.equalIn 10000 ty (.agg X) (.agg Y)).run P w = .ok B w)
  (h:wpQuiet P ops C Q rest (a.put o.dst (.bool B))):wpQuiet P ops C Q (o :: rest) a:=by
 unfold wpQuiet;rw [if_pos hw];refine ⟨.bool B,fun w hC=>?_,h⟩;have hq:∀ w,(Op.equal ty (.agg X) (.agg Y)).run P w = .ok B w:=he;unfold Oper.quietAt execOp;simp [ho,hx,hy,eqGuard,binOp,Sem.run_bind,hgt,hq,Oper.quietUpon]
theorem t0t (hw:Region.wanted o (yielded ops a.tmps)=true) (ty rt:TypeId) (x y:Operand) (ho:o.op = .binOp .neq ty x y rt)
  (X Y:Array Value) (hx:a.eval x = .agg X) (hy:a.eval y = .agg Y) (hgt:P.eqGuardType P.depth ty=false) (B:Bool) (he:∀ w,(Op.equalIn 10000 ty (.agg X) (.agg Y)).run P w = .ok B w)
  (h:wpQuiet P ops C Q rest (a.put o.dst (.bool (!B)))):wpQuiet P ops C Q (o :: rest) a:=by
 unfold wpQuiet;rw [if_pos hw];refine ⟨.bool (!B),fun w hC=>?_,h⟩;have hq:∀ w,(Op.equal ty (.agg X) (.agg Y)).run P w = .ok B w:=he;unfold Oper.quietAt execOp;simp [ho,hx,hy,eqGuard,binOp,Sem.run_bind,hgt,hq,Oper.quietUpon]
end
theorem g0g (W:World) (cur cs:Array Value) (t:TypeId):(W.alloc (.cells cur t)).setRow W.heap.size cs=W.alloc (.cells cs t):=by
 have e:((W.alloc (.cells cur t)).setRow W.heap.size cs).heap=(W.alloc (.cells cs t)).heap:=by
  apply Array.ext_getElem?;intro i;have hn:∀ o:Obj,(W.alloc o).heap[W.heap.size]? = some o:=fun o=>by show (W.heap.push o)[W.heap.size]? = _;simp
  by_cases h:i=W.heap.size
  ·subst h
   rw [setRow_heap _ _ cur cs t (0,0) (hn _),hn]
  ·rw [setRow_other _ _ _ _ h]
   show (W.heap.push _)[i]? = (W.heap.push _)[i]?;rw [Array.getElem?_push,Array.getElem?_push,if_neg h,if_neg h]
 exact congrArg (fun hp=>({ W with heap:=hp }:World)) e
theorem a0v {P:Program} {ops:Array Oper} {rest:List Oper} {o:Oper} {a:Act} {W:World} {Q:Exit->Act->World->Prop} (ty:TypeId) (x y:Operand) (ho:o.op = .store ty x y) (hn:o.dst=none) (hw:Region.wanted o (yielded ops a.tmps)=true)
  (hx:a.eval x = .pointer (some ⟨W.heap.size,0,none⟩)) (cs old:List Value) (hy:a.eval y = .agg cs.toArray) (t:TypeId) (hold:old.length=cs.length) (h1:∀ v ∈ cs,v.oneCell' = true) (hi:(P.info? ty).map (·.size)=some cs.length)
  (h:wpList P ops Q rest a (W.alloc (.cells cs.toArray t))):wpList P ops Q (o :: rest) a (W.alloc (.cells old.toArray t)):=by
 refine n0j ty x y ho hn W.heap.size 0 hx hw [] cs old [] hy t (by simpa using a0f W (.cells old.toArray t)) rfl hold h1 hi ?_;have e:=g0g W old.toArray cs.toArray t;simp only [List.nil_append,List.append_nil];rw [e];exact h
theorem d0h (d:List UInt8):∀ v ∈ dg d,v.oneCell' = true:=by
 intro v hv;simp only [dg,List.mem_map] at hv;obtain ⟨x,-,rfl⟩:=hv;rfl
theorem h0n (p:Pen):∀ v ∈ penC p,v.oneCell' = true:=by
 intro v hv;simp only [penC,List.mem_append,List.mem_cons,List.not_mem_nil,or_false] at hv;rcases hv with (rfl | rfl | rfl | rfl) | hv | hv
 ·rfl
 ·rfl
 ·rfl
 ·rfl
 ·exact d0h _ v hv
 ·exact d0h _ v hv
theorem guardPen:prog.eqGuardType prog.depth 57=false:=by kernel_rfl
theorem sizeSub:(prog.info? 40).map (·.size)=some 68:=by kernel_rfl
theorem sizePen:(prog.info? 57).map (·.size)=some 68:=by kernel_rfl
theorem sizeRep:(prog.info? 44).map (·.size)=some 103:=by kernel_rfl
theorem sizeBlo:(prog.info? 78).map (·.size)=some 35:=by kernel_rfl
theorem sizeMsg:(prog.info? 80).map (·.size)=some 275:=by kernel_rfl
def a0w (w:World) (v:Value) (ks:List Int):Prop:=∃ a cap,v = .slice a ks.length cap/\(ks ≠ []->∃ b off,a=some ⟨b,off,none⟩/\∀ j,j < ks.length->w.cell? ⟨b,off + j,none⟩=some (nu (ks.getD j 0)))
theorem a0w.kept {w w':World} {v:Value} {ks:List Int} (h:a0w w v ks) (hb:Below w.heap.size w w'):a0w w' v ks:=by
 obtain ⟨a,cap,rfl,hc⟩:=h;refine ⟨a,cap,rfl,fun hne=>?_⟩;obtain ⟨b,off,rfl,hj⟩:=hc hne;exact ⟨b,off,rfl,fun j h=>(hb.cell (p:=⟨b,off + j,none⟩) (World.block_lt_of_cell? w _ (hj j h))).trans (hj j h)⟩
theorem a0w.nil (w:World):a0w w (.slice none 0 0) []:=⟨none,0,rfl,fun h=>absurd rfl h⟩
def a0z:Pen:=⟨0,0,0,0,[],[]⟩
def a0g (w:World) (v:Value) (ps:List Pen):Prop:=∃ a cap,v = .slice a ps.length cap/\(ps ≠ []->∃ b off,a=some ⟨b,off,none⟩/\∀ j,j < ps.length->∀ i c,(penC (ps.getD j a0z))[i]? = some c->w.cell? ⟨b,off + j * 68 + i,none⟩=some c)
theorem a0g.kept {w w':World} {v:Value} {ps:List Pen} (h:a0g w v ps) (hb:Below w.heap.size w w'):a0g w' v ps:=by
 obtain ⟨a,cap,rfl,hc⟩:=h;refine ⟨a,cap,rfl,fun hne=>?_⟩;obtain ⟨b,off,rfl,hj⟩:=hc hne;exact ⟨b,off,rfl,fun j h i c hi=>(hb.cell (p:=⟨b,off + j * 68 + i,none⟩) (World.block_lt_of_cell? w _ (hj j h i c hi))).trans (hj j h i c hi)⟩
theorem a0g.nil (w:World):a0g w (.slice none 0 0) []:=⟨none,0,rfl,fun h=>absurd rfl h⟩
theorem a0Z (n a b:Int) (w:World):Calls prog 41 #[nu n,nu a,nu b] w fun e w'=>e = .returned (.bool (decide (a <= n) && decide (n <= b)))/\w' = w:=by
 by_cases h:a <= n
 ·have d1:decide (a <= n)=true:=decide_eq_true h
  rw [d1,Bool.true_and];clear h;go_enter func41,ntmps41;go_wp2;go_ret;exact ⟨rfl,rfl⟩
 ·have d1:decide (a <= n)=false:=decide_eq_false h
  rw [d1,Bool.false_and];clear h;go_enter func41,ntmps41;go_wp2;go_ret;exact ⟨rfl,rfl⟩
open Go Go.RowKit
set_option maxRecDepth 100000
theorem e0W {α:Type} (d:α) (xs ys:List α) (hl:xs.length=ys.length) (h:∀ j,j < xs.length->xs.getD j d=ys.getD j d):xs=ys:=by
 apply List.ext_getElem hl;intro i h1 h2;have:=h i h1;simpa [List.getD,h1,h2] using this
theorem i0x {α:Type} [BEq α] [LawfulBEq α] (d:α) (xs ys:List α) (j:Nat) (h:xs.getD j d ≠ ys.getD j d):(xs == ys)=false:=by
 rw [Bool.eq_false_iff];intro e;exact h (by rw [eq_of_beq e])
theorem h0o {α:Type} [BEq α] [LawfulBEq α] (xs ys:List α) (h:xs.length ≠ ys.length):(xs == ys)=false:=by
 rw [Bool.eq_false_iff];intro e;exact h (by rw [eq_of_beq e])
theorem k0D {w:World} {u v:Value} {xs ys:List Int} (hu:a0w w u xs) (hv:a0w w v ys) (hx:xs.length <= 9223372036854775807) :
  Calls prog 72 #[u,v] w fun e w'=>e = .returned (.bool (xs == ys))/\Below w.heap.size w w':=by
 obtain ⟨a,c1,rfl,ha⟩:=hu;obtain ⟨b,c2,rfl,hb⟩:=hv;have HB0:=hid (Below.refl w.heap.size w);by_cases hl:xs.length=ys.length
 ·have HE:=hid (e0W (0:Int) xs ys hl)
  have HN:=hid (fun j=>i0x (0:Int) xs ys j);have HA:=hid ha;have HBb:=hid hb;have dl:((xs.length:Int) != (ys.length:Int))=false:=by simp;omega
  have dl':(xs.length != ys.length)=false:=by simp;omega
  have HL:=hid hl;clear ha hb hl;go_enter func72,ntmps72;go_wp2;go_loopw [5] (fun i w'=>∃ j:Nat,j <= xs.length/\i = .int .i64 j/\Hid (∀ k,k < j->xs.getD k 0=ys.getD k 0)/\Hid (Below w.heap.size w w')) (fun i _=>xs.length - (intOf i).toNat)
  case atStart=>exact ⟨0,by omega,rfl,fun k hk=>absurd hk (Nat.not_lt_zero k),HB0.out⟩
  case round =>
   obtain ⟨j,hj,rfl,HQ,HB⟩:=hrel;by_cases hlt:j < xs.length
   ·have d1:decide ((j:Int) < (xs.length:Int))=true:=decide_eq_true (by omega)
    have d1':decide (j < xs.length)=true:=decide_eq_true hlt;have hly:j < ys.length:=by have:=HL.out;omega
    obtain ⟨ba,oa,rfl,hca⟩:=HA.out (fun e=>by rw [e] at hlt;exact absurd hlt (Nat.not_lt_zero j));obtain ⟨bb,ob,rfl,hcb⟩:=HBb.out (fun e=>by rw [e] at hly;exact absurd hly (Nat.not_lt_zero j));have ca:wr.cell? ⟨ba,oa + j,none⟩=some (.int .i64 (xs.getD j 0)):=(HB.out.cell (p:=⟨ba,oa + j,none⟩) (World.block_lt_of_cell? w _ (hca j hlt))).trans (hca j hlt);have cb':wr.cell? ⟨bb,ob + j,none⟩=some (.int .i64 (ys.getD j 0)):=(HB.out.cell (p:=⟨bb,ob + j,none⟩) (World.block_lt_of_cell? w _ (hcb j hly))).trans (hcb j hly);by_cases he:xs.getD j 0=ys.getD j 0
    ·have HQ':Hid (∀ k,k < j + 1->xs.getD k 0=ys.getD k 0):=fun k hk=>by
      by_cases e:k=j
      ·rw [e];exact he
      ·exact HQ.out k (by omega)
     rw [← he] at cb';generalize xs.getD j 0=x at *;clear he hca hcb HQ HE HN HA HBb;have HBd:=hid HB.out.drew;go_wp2
     go_region
     all_goals (go_wp2;exact ⟨⟨j + 1,by omega,by go_num,HQ'.out,HBd.out⟩,by simp [intOf];omega⟩)
    ·have HP:=hid (HN.out j he)
     generalize xs.getD j 0=x at *;generalize ys.getD j 0=y at *;have dx:(x != y)=true:=by simpa using he
     clear he hca hcb HQ HE HN HA HBb;have HBd:=hid HB.out.drew;go_wp2
     go_region
     all_goals (go_wp2;go_ret;exact ⟨by rw [HP.out];rfl,HBd.out⟩)
   ·obtain rfl:j=xs.length:=by omega
    have HP:Hid ((xs == ys)=true):=by show _=_;rw [HE.out HQ.out];simp
    clear HE HQ HN HA HBb;go_wp2;go_ret;exact ⟨by rw [HP.out];rfl,HB.out⟩
 ·rw [h0o xs ys hl]
  have dl:((xs.length:Int) != (ys.length:Int))=true:=by simp;omega
  have dl':(xs.length != ys.length)=true:=by simp;omega
  clear ha hb hl;go_enter func72,ntmps72;go_wp2;go_ret;exact ⟨rfl,HB0.out⟩
end Go.Proofs.YtagmnmoaekbffaaGreatDoor.Ms
