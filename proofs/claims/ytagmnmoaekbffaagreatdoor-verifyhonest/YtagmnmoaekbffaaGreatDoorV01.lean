/- V01 -/
import Derived.Test.YtagmnmoaekbffaaGreatDoorU01
import Derived.Test.YtagmnmoaekbffaaGreatDoorU02
import Derived.Test.YtagmnmoaekbffaaGreatDoorS23
import Derived.Test.YtagmnmoaekbffaaGreatDoorTvbg
import Derived.Test.YtagmnmoaekbffaaGreatDoorU05
import Derived.Test.YtagmnmoaekbffaaGreatDoorTyal
import Derived.Test.YtagmnmoaekbffaaGreatDoorS29
import Derived.Test.YtagmnmoaekbffaaGreatDoorS25
set_option maxHeartbeats 16000000
namespace Go.Proofs.YtagmnmoaekbffaaGreatDoor.Ms
open Go.Proofs.Tryz
open Go Go.RowKit
set_option maxRecDepth 100000
section
variable {P:Program} {ops:Array Oper} {Q:Exit->Act->World->Prop} {N:Nat} {a0:Act} {w0:World} {L:Nat->Bool} {a:Act} {w w':World} {i:Nat} {o:Oper}
def IvJ (S:Nat->Value->Nat->Nat->World->Prop) (w0:World) (L:Nat->Bool) (u:Nat->Value) (W:World):Prop :=
 Below w0.heap.size w0 W/\∃ lo hi:Nat->Nat,(∀ i,L i=true->w0.heap.size <= lo i/\lo i <= hi i/\hi i <= W.heap.size/\S i (u i) (lo i) (hi i) W)/\∀ i j,i ≠ j->L i=true->L j=true->hi i <= lo j ∨ hi j <= lo i
theorem l0D {id:Nat} (S:Nat->Value->Nat->Nat->World->Prop) (ds:(Nat->Value)->List (Nat × Value)) (hf:P.follows .mixedOrders=true) (hok:okMd ops N=true) (hN:a0.tmps.size=N)
  (hds:∀ u:Nat->Value,(List.range ops.size).filterMap (fun i=>(a0E ops i).map fun d=>(d,u i))=ds u) (hd:ops.all (fun o=>o.dst.isSome)=true)
  (hm:∀ i v lo hi w w',S i v lo hi w->Below w.heap.size w w'->S i v lo hi w')
  (hown:∀ i o,ops[i]? = some o->∀ L a w u,L i=false->(∀ j,waits o j=true->L j=true)->IvJ S w0 L u w->(∀ t,d0Z ops i t=true->a.tmps.getD t undef=a0.tmps.getD t undef)->(∀ j d,L j=true->a0E ops j=some d->a.tmps.getD d undef=u j) ->
   ∀ K:Act->World->Prop,(∀ v w',Below w.heap.size w w'->S i v w.heap.size w'.heap.size w'->K (a.put o.dst v) w')->o.wp P a w K Q)
  (hend:∀ u L W,(∀ i,i < ops.size->L i=true)->IvJ S w0 L u W->Q .normal { tmps:=(ds u).foldl (fun B p=>B.setIfInBounds p.1 p.2) a0.tmps,defers:=a0.defers } W) :
  (Code.region id ops true).wp P Q a0 w0:=by
 refine e0O (IvJ S w0) ds hf hok hN hds (fun u w1 hb=>⟨hb,fun _=>0,fun _=>0,(by intro i h;cases h),(by intro i j _ h;cases h)⟩) ?_ hend;intro i o ho L a w u hLi hw hnot hJ hk hv K h;refine hown i o ho L a w u hLi hw hJ hk hv K (fun v w' hb hS=>h v w' (fun u' hu hi=>?_));obtain ⟨b0,lo,hi',h1,h2⟩:=hJ
 have hds':o.dst.isSome=true:=by
  rw [Array.all_eq_true] at hd;obtain ⟨hlt,he⟩:=Array.getElem?_eq_some_iff.1 ho;have:=hd i hlt;rw [he] at this;exact this
 refine ⟨b0.trans (hb.mono b0.size),fun j=>if j=i then w.heap.size else lo j,fun j=>if j=i then w'.heap.size else hi' j,?_,?_⟩
 ·intro j hj
  by_cases e:j=i
  ·subst e
   simp only [if_true];exact ⟨b0.size,hb.size,Nat.le_refl _,by rw [hi hds'];exact hS⟩
  ·simp only [if_neg e]
   obtain ⟨a1,a2,a3,a4⟩:=h1 j (a0i hj (fun e2=>e e2.symm));exact ⟨a1,a2,Nat.le_trans a3 hb.size,by rw [hu j e];exact hm _ _ _ _ _ _ a4 hb⟩
 ·intro j k hjk hj hk'
  by_cases e1:j=i
  ·subst e1
   have e2:¬ k=j:=fun e=>hjk e.symm;simp only [if_true,if_neg e2];obtain ⟨-,-,a3,-⟩:=h1 k (a0i hk' (fun e=>e2 e.symm));exact Or.inr a3
  ·by_cases e2:k=i
   ·subst e2
    simp only [if_true,if_neg e1];obtain ⟨-,-,a3,-⟩:=h1 j (a0i hj (fun e=>e1 e.symm));exact Or.inl a3
   ·simp only [if_neg e1,if_neg e2]
    exact h2 j k hjk (a0i hj (fun e=>e1 e.symm)) (a0i hk' (fun e=>e2 e.symm))
end
structure PB (B:Nat) (W:World) (x:Nat) (G:List Nat) (vb wb hb n:Nat):Prop where
 regs:RY W x G (newR n)
 v:W.heap[vb]? = some (.cells (rowV n).toArray 9)
 w:W.heap[wb]? = some (.cells (rowV n).toArray 9)
 h:W.heap[hb]? = some (.cells (rowV n).toArray 9)
 low:B <= vb/\B <= wb/\B <= hb/\∀ y ∈ G,B <= y
 ne:vb ≠ wb/\vb ≠ hb/\wb ≠ hb
 out:vb ∉ G/\wb ∉ G/\hb ∉ G
theorem PB.kept {B:Nat} {W W':World} {x:Nat} {G:List Nat} {vb wb hb n:Nat} (h:PB B W x G vb wb hb n) (k:Below W.heap.size W W'):PB B W' x G vb wb hb n :=
 ⟨h.regs.kept k,a0a h.v k,a0a h.w k,a0a h.h k,h.low,h.ne,h.out⟩
def c0x (p q x vb wb hb n:Nat):List Value:=[pt p 0,pt q 0,pt x 0,sl vb n,sl wb n,sl hb n]
def SB (p q n B:Nat) (i:Nat) (v:Value) (lo hi:Nat) (W:World):Prop :=
 match i with
 | 0=>v=pt p 0
 | 1=>v=pt q 0
 | 2=>v=nu n
 | 3=>∃ x G,v=pt x 0/\RY W x G (newR n)/\∀ b ∈ G,lo <= b/\b < hi
 | 4=>v=nu n
 | 5=>∃ g,v=sl g n/\lo <= g/\g < hi/\W.heap[g]? = some (.cells (rowV n).toArray 9)
 | 6=>v=nu n
 | 7=>∃ g,v=sl g n/\lo <= g/\g < hi/\W.heap[g]? = some (.cells (rowV n).toArray 9)
 | 8=>v=nu n
 | 9=>∃ g,v=sl g n/\lo <= g/\g < hi/\W.heap[g]? = some (.cells (rowV n).toArray 9)
 | 10=>∃ x G vb wb hb,v = .agg (c0x p q x vb wb hb n).toArray/\PB B W x G vb wb hb n/\(vb < lo/\wb < lo/\hb < lo/\∀ y ∈ G,y < lo)
 | 11=>∃ P x G vb wb hb,v=pt P 0/\W.heap[P]? = some (.cells (c0x p q x vb wb hb n).toArray 35)/\PB B W x G vb wb hb n/\(vb < P/\wb < P/\hb < P/\∀ y ∈ G,y < P)
 | 12=>∃ P x G vb wb hb,v=pt P 0/\W.heap[P]? = some (.cells (c0x p q x vb wb hb n).toArray 35)/\PB B W x G vb wb hb n/\(vb < P/\wb < P/\hb < P/\∀ y ∈ G,y < P)
 | _=>True
theorem SB.mono (p q n B:Nat):∀ i v lo hi w w',SB p q n B i v lo hi w->Below w.heap.size w w'->SB p q n B i v lo hi w':=by
 intro i v lo hi w w' h hb
 match i,h with
 | 0,h | 1,h | 2,h | 4,h | 6,h | 8,h=>exact h
 | 3,h=>obtain ⟨x,G,h1,h2,h3⟩:=h;exact ⟨x,G,h1,h2.kept hb,h3⟩
 | 5,h | 7,h | 9,h=>obtain ⟨g,h1,h2,h3,h4⟩:=h;exact ⟨g,h1,h2,h3,a0a h4 hb⟩
 | 10,h=>obtain ⟨x,G,vb,wb,hb',h1,h2,h3⟩:=h;exact ⟨x,G,vb,wb,hb',h1,h2.kept hb,h3⟩
 | 11,h | 12,h=>obtain ⟨P,x,G,vb,wb,hb',h1,h2,h3,h4⟩:=h;exact ⟨P,x,G,vb,wb,hb',h1,a0a h2 hb,h3.kept hb,h4⟩
 | (i + 13),_=>trivial
theorem m0Q (W:World) (p q x a b c n:Nat):(Instr.build 35 #[(0,pt p 0),(1,pt q 0),(2,pt x 0),(3,sl a n),(4,sl b n),(5,sl c n)]).run prog W = .ok (.agg (c0x p q x a b c n).toArray) W:=by kernel_rfl
theorem r0p (W:World) (p q x a b c n:Nat):(Instr.box 35 (.agg (c0x p q x a b c n).toArray)).run prog W = .ok (pt W.heap.size 0) (W.alloc (.cells (c0x p q x a b c n).toArray 35)):=by kernel_rfl
def seed:List UInt8:=[115,101,101,100]
structure St (B0:Nat) (W:World) (P p q x vb wb hb h g b n:Nat) (G:List Nat) (R:Rs) (V Wt H:List (List UInt8)) (L:List Ent):Prop where
 row:W.heap[P]? = some (.cells (c0x p q x vb wb hb n).toArray 35)
 views:W.heap[vb]? = some (.cells (V.map st).toArray 9)
 waits:W.heap[wb]? = some (.cells (Wt.map st).toArray 9)
 held:W.heap[hb]? = some (.cells (H.map st).toArray 9)
 regs:RY W x G R
 ring:RgL W p h g b seed n L
 ref:Go.Proofs.YtagmnmoaekbffaaGreatDoor.RefAt W q seed n (.slice none 0 0) []
 lv:V.length=n
 lw:Wt.length=n
 lh:H.length=n
 k6:6 <= B0
 low:B0 <= b/\B0 <= P/\B0 <= vb/\B0 <= wb/\B0 <= hb/\∀ y ∈ G,B0 <= y
 o1:∀ z ∈ [p,h,g,b,q],z < P/\z < vb/\z < wb/\z < hb/\∀ y ∈ G,z < y
 qb:q ≠ b
 ne:vb ≠ wb/\vb ≠ hb/\wb ≠ hb/\P ≠ vb/\P ≠ wb/\P ≠ hb
 out:P ∉ G/\vb ∉ G/\wb ∉ G/\hb ∉ G
theorem m0R (n:Nat):rowV n=(List.replicate n ([]:List UInt8)).map st:=by
 unfold rowV
 induction n with
 | zero=>rfl
 | succ n ih=>rw [List.replicate_succ,List.replicate_succ,List.flatten_cons,ih];rfl
theorem r0q (n:Nat) (hn:2 <= n/\n <= 8) {w:World} (hK:Ktab w) (hT:Lay.Tabs w):Calls prog 5 #[nu (n:Int)] w fun e w'=>∃ P p q x vb wb hb h g b G,e = .returned (pt P 0)/\St w.heap.size w' P p q x vb wb hb h g b n G (newR n) (List.replicate n []) (List.replicate n []) (List.replicate n []) []/\Below w.heap.size w w':=by
 have HR:=hid (w0h seed (by decide) n hn.1 hn.2 w hK hT);have hsz:=f0V hT;have HKT:=hid hK;have HTT:=hid hT;have hn8:=hn.2;have HN:=hid hn;clear hK hT hn;go_enter func5,ntmps5
 go_wp2_with fail
 refine HR.out.mono ?_;rintro e W1 ⟨p,h,g,b,rfl,q1⟩;have RG1:Hid (RgL W1 p h g b seed n []):=hid ⟨HN.out.1,HN.out.2,q1.ring,HKT.out.stays q1.low HKT.out.pos,HTT.out.stays q1.low⟩;have B1:=hid q1.low;have hfar:=q1.far;clear q1 HR;have HQ:=hid (u0y seed (by decide) n HN.out.1 HN.out.2 W1)
 go_wp2_with fail
 refine HQ.out.mono ?_;rintro e W2 ⟨q,rfl,rq,b2,hq1⟩;have RG2:=hid (RG1.out.kept b2);have RQ2:=hid rq;have B2:=hid (a0b B1.out b2);have hb1:=RG1.out.ring.book.lt;have hqb:q ≠ b:=by omega
 have hs2:=b2.size;clear b2 RG1 B1 HQ rq hb1 hq1;go_upto_region 5 with fail
 refine l0D (N:=39) (SB p q n W2.heap.size) (fun u=>[(27,u 0),(28,u 1),(29,u 2),(30,u 3),(31,u 4),(32,u 5),(33,u 6),(34,u 7),(35,u 8),(36,u 9),(37,u 10),(38,u 11),(2,u 12)]) (by kernel_rfl) (by kernel_rfl) rfl (fun u=>by kernel_rfl) (by kernel_rfl) (SB.mono p q n W2.heap.size) ?_ ?_
 ·intro i o ho
  match i,ho with
  | 0,ho=>cases ho;intro L a W u hLi hw hJ hk hv K h;exact a0q 3 (pt p 0) rfl (hk 3 (by kernel_rfl)) (h _ _ (Below.refl _ _) rfl)
  | 1,ho=>cases ho;intro L a W u hLi hw hJ hk hv K h;exact a0q 5 (pt q 0) rfl (hk 5 (by kernel_rfl)) (h _ _ (Below.refl _ _) rfl)
  | 2,ho=>cases ho;intro L a W u hLi hw hJ hk hv K h;exact a0q 0 (nu n) rfl (hk 0 (by kernel_rfl)) (h _ _ (Below.refl _ _) rfl)
  | 3,ho =>
   cases ho
   intro L a W u hLi hw hJ hk hv K h;obtain ⟨-,lo,hi,h1,-⟩:=hJ;have e2:u 2=nu n:=(h1 2 (hw 2 (by kernel_rfl))).2.2.2;refine k0b 18 [.tmp 29] _ #[nu n] rfl (fun _ _=>by kernel_rfl) (s0S ((hv 2 29 (hw 2 (by kernel_rfl)) (by kernel_rfl)).trans e2)) (R:=fun v w1=>∃ x G,v=pt x 0/\RY w1 x G (newR n)/\(∀ b ∈ G,W.heap.size <= b)/\Below W.heap.size W w1) ?_ ?_
   ·refine (o0U W n HN.out).mono ?_
    rintro e w1 ⟨x,G,rfl,h1,h2,h3⟩;exact ⟨_,rfl,x,G,rfl,h1,h2,h3⟩
   ·rintro v w1 ⟨x,G,rfl,h1,h2,h3⟩
    exact h _ _ h3 ⟨x,G,rfl,h1,fun b hb=>⟨h2 b hb,h1.lt b hb⟩⟩
  | 4,ho=>cases ho;intro L a W u hLi hw hJ hk hv K h;exact a0q 0 (nu n) rfl (hk 0 (by kernel_rfl)) (h _ _ (Below.refl _ _) rfl)
  | 5,ho =>
   cases ho
   intro L a W u hLi hw hJ hk hv K h;obtain ⟨-,lo,hi,h1,-⟩:=hJ;have e2:u 4=nu n:=(h1 4 (hw 4 (by kernel_rfl))).2.2.2;exact f0A 31 rfl underlying33 infoSt (L:=[st []]) rfl rfl (by decide) (by decide) n hn8 ((hv 4 31 (hw 4 (by kernel_rfl)) (by kernel_rfl)).trans e2) (h _ _ (a0c W _) ⟨W.heap.size,rfl,Nat.le_refl _,by simp,a0f W _⟩)
  | 6,ho=>cases ho;intro L a W u hLi hw hJ hk hv K h;exact a0q 0 (nu n) rfl (hk 0 (by kernel_rfl)) (h _ _ (Below.refl _ _) rfl)
  | 7,ho =>
   cases ho
   intro L a W u hLi hw hJ hk hv K h;obtain ⟨-,lo,hi,h1,-⟩:=hJ;have e2:u 6=nu n:=(h1 6 (hw 6 (by kernel_rfl))).2.2.2;exact f0A 33 rfl underlying33 infoSt (L:=[st []]) rfl rfl (by decide) (by decide) n hn8 ((hv 6 33 (hw 6 (by kernel_rfl)) (by kernel_rfl)).trans e2) (h _ _ (a0c W _) ⟨W.heap.size,rfl,Nat.le_refl _,by simp,a0f W _⟩)
  | 8,ho=>cases ho;intro L a W u hLi hw hJ hk hv K h;exact a0q 0 (nu n) rfl (hk 0 (by kernel_rfl)) (h _ _ (Below.refl _ _) rfl)
  | 9,ho =>
   cases ho
   intro L a W u hLi hw hJ hk hv K h;obtain ⟨-,lo,hi,h1,-⟩:=hJ;have e2:u 8=nu n:=(h1 8 (hw 8 (by kernel_rfl))).2.2.2;exact f0A 35 rfl underlying33 infoSt (L:=[st []]) rfl rfl (by decide) (by decide) n hn8 ((hv 8 35 (hw 8 (by kernel_rfl)) (by kernel_rfl)).trans e2) (h _ _ (a0c W _) ⟨W.heap.size,rfl,Nat.le_refl _,by simp,a0f W _⟩)
  | 10,ho =>
   cases ho
   intro L a W u hLi hw hJ hk hv K h;have l0:=hw 0 (by kernel_rfl);have l1:=hw 1 (by kernel_rfl);have l3:=hw 3 (by kernel_rfl);have l5:=hw 5 (by kernel_rfl);have l7:=hw 7 (by kernel_rfl);have l9:=hw 9 (by kernel_rfl);obtain ⟨-,lo,hi,h1,h2⟩:=hJ;obtain ⟨-,-,-,s0⟩:=h1 0 l0;obtain ⟨-,-,-,s1⟩:=h1 1 l1;obtain ⟨c3,-,d3,x,G,f3,ry,hG⟩:=h1 3 l3;obtain ⟨c5,-,d5,g5,f5,i5,j5,r5⟩:=h1 5 l5;obtain ⟨c7,-,d7,g7,f7,i7,j7,r7⟩:=h1 7 l7;obtain ⟨c9,-,d9,g9,f9,i9,j9,r9⟩:=h1 9 l9;have a0:a.eval (.tmp 27)=pt p 0:=(hv 0 27 l0 (by kernel_rfl)).trans s0;have a1:a.eval (.tmp 28)=pt q 0:=(hv 1 28 l1 (by kernel_rfl)).trans s1;have a3:a.eval (.tmp 30)=pt x 0:=(hv 3 30 l3 (by kernel_rfl)).trans f3;have a5:a.eval (.tmp 32)=sl g5 n:=(hv 5 32 l5 (by kernel_rfl)).trans f5;have a7:a.eval (.tmp 34)=sl g7 n:=(hv 7 34 l7 (by kernel_rfl)).trans f7;have a9:a.eval (.tmp 36)=sl g9 n:=(hv 9 36 l9 (by kernel_rfl)).trans f9;have n57:=h2 5 7 (by decide) l5 l7;have n59:=h2 5 9 (by decide) l5 l9;have n79:=h2 7 9 (by decide) l7 l9;have n35:=h2 3 5 (by decide) l3 l5;have n37:=h2 3 7 (by decide) l3 l7;have n39:=h2 3 9 (by decide) l3 l9;refine l0o _ [(0,.tmp 27),(1,.tmp 28),(2,.tmp 30),(3,.tmp 32),(4,.tmp 34),(5,.tmp 36)] rfl (.agg (c0x p q x g5 g7 g9 n).toArray) (by simp only [List.map_cons,List.map_nil,a0,a1,a3,a5,a7,a9];exact m0Q W _ _ _ _ _ _ _) ?_;refine h _ _ (Below.refl _ _) ⟨x,G,g5,g7,g9,rfl,⟨ry,r5,r7,r9,⟨by omega,by omega,by omega,fun y hy=>by have:=hG y hy;omega⟩,⟨by omega,by omega,by omega⟩,⟨fun hm=>by have:=hG _ hm;omega,fun hm=>by have:=hG _ hm;omega,fun hm=>by have:=hG _ hm;omega⟩⟩,by omega,by omega,by omega,fun y hy=>by have:=hG y hy;omega⟩
  | 11,ho =>
   cases ho
   intro L a W u hLi hw hJ hk hv K h;have l10:=hw 10 (by kernel_rfl);obtain ⟨-,lo,hi,h1,-⟩:=hJ;obtain ⟨-,k1,k2,x,G,vb,wb,hb,f10,hpb,k3,k4,k5,k6⟩:=h1 10 l10;refine t0M _ 37 (c0x p q x vb wb hb n) rfl ((hv 10 37 l10 (by kernel_rfl)).trans f10) (fun w1=>r0p w1 _ _ _ _ _ _ _) ?_;exact h _ _ (a0c W _) ⟨W.heap.size,x,G,vb,wb,hb,rfl,a0f W _,hpb.kept (a0c W _),by omega,by omega,by omega,fun y hy=>by have:=k6 y hy;omega⟩
  | 12,ho =>
   cases ho
   intro L a W u hLi hw hJ hk hv K h;have l11:=hw 11 (by kernel_rfl);obtain ⟨-,lo,hi,h1,-⟩:=hJ;obtain ⟨-,-,-,s11⟩:=h1 11 l11;exact c0l 38 (u 11) rfl (hv 11 38 l11 (by kernel_rfl)) (h _ _ (Below.refl _ _) s11)
  | (i + 13),ho=>exact absurd ho (by simp)
 intro u LL W5 hall hJ;simp only [List.foldl_cons,List.foldl_nil,List.setIfInBounds_toArray,List.set_cons_zero,List.set_cons_succ];obtain ⟨hlow,lo,hi,h1,-⟩:=hJ;obtain ⟨-,-,-,P,x,G,vb,wb,hb,f12,rowP,hpb,k3,k4,k5,k6⟩:=h1 12 (hall 12 (by decide));clear h1 hall;rw [f12];have RG5:=RG2.out.kept hlow;have RQ5:=RQ2.out.kept hlow;have j1:=a0D RG2.out.ring.obj;have j2:=a0D RG2.out.ring.var;have j3:=a0D RG2.out.ring.keys;have j4:=RG2.out.ring.book.lt;have j5:=a0D RQ2.out.obj;obtain ⟨l1,l2,l3,l4⟩:=hpb.low;have hw2:=B2.out.size
 have hlt:∀ z ∈ [p,h,g,b,q],z < W2.heap.size:=by
  intro z hz;simp only [List.mem_cons,List.not_mem_nil,or_false] at hz;rcases hz with rfl | rfl | rfl | rfl | rfl <;> assumption
 have ST:Hid (St w.heap.size W5 P p q x vb wb hb h g b n G (newR n) (List.replicate n []) (List.replicate n []) (List.replicate n []) []) :=
  hid ⟨rowP,by rw [← m0R];exact hpb.v,by rw [← m0R];exact hpb.w,by rw [← m0R];exact hpb.h,hpb.regs,RG5,RQ5,by simp,by simp,by simp,hsz,⟨hfar,by omega,by omega,by omega,by omega,fun y hy=>by have:=l4 y hy;omega⟩,
   fun z hz=>by have:=hlt z hz;exact ⟨by omega,by omega,by omega,by omega,fun y hy=>by have:=l4 y hy;omega⟩,hqb,⟨hpb.ne.1,hpb.ne.2.1,hpb.ne.2.2,by omega,by omega,by omega⟩,fun hm=>by have:=k6 P hm;omega,hpb.out.1,hpb.out.2.1,hpb.out.2.2⟩
 have B5:=hid (a0b B2.out hlow);clear hlow RG2 RQ2 B2 f12 rowP hpb RG5 RQ5 hlt l4 k6;go_wp2;go_ret;exact ⟨P,p,q,x,vb,wb,hb,h,g,b,G,rfl,ST.out,B5.out⟩
open Go Go.RowKit
set_option maxRecDepth 100000
theorem t0d (y:List UInt8) (j:Nat) (h:j < (⟨y.toArray⟩:ByteArray).size):((⟨y.toArray⟩:ByteArray)[j]'h).toNat=(y.getD j 0).toNat:=by
 have h2:j < y.length:=h;rw [List.getD_eq_getElem?_getD,List.getElem?_eq_getElem h2];rfl
theorem j0j (b:Bool) (w:World):Calls prog 59 #[.bool b] w fun e w'=>e = .returned (nu (bif b then 8 else 0))/\w' = w:=by
 cases b
 all_goals (
  go_enter func59,ntmps59;go_wp2;go_ret
  exact ⟨rfl,rfl⟩)
theorem g0G (d:List UInt8) (hd:d ≠ []) (hl:d.length <= 140737488351232) (c:Int) (w:World):Calls prog 76 #[st d,nu c] w fun e w'=>e = .returned (.bool (c0i d == c))/\w' = w:=by
 obtain ⟨m,hm⟩:∃ m,d.length=m + 1:=by
  cases d with
  | nil=>exact absurd rfl hd
  | cons a l=>exact ⟨l.length,rfl⟩
 have hss:(⟨d.toArray⟩:ByteArray).size=m + 1:=hm;have hq:((⟨d.toArray⟩:ByteArray)[m]'(by rw [hss];omega)).toNat=(d.getD m 0).toNat:=t0d d m _;have HLI:c0i d=(((d.getD m 0).toNat:Nat):Int):=by unfold c0i;rw [hm];rfl
 rw [HLI];obtain ⟨bb,HBB⟩:∃ bb:Nat,Hid (bb=(d.getD m 0).toNat):=⟨_,rfl⟩;have hbb:bb < 256:=by rw [HBB.out];exact UInt8.toNat_lt _
 rw [← HBB.out] at hq ⊢;have hw6:wrap64 (bb:Int)=(bb:Int):=by unfold wrap64;omega
 clear HBB HLI hd;go_enter func76,ntmps76;go_wp2;go_ret;exact ⟨rfl,rfl⟩
section
variable {w:World} {p n k:Nat} {s:List UInt8} {y:Rep} {v:Value} {d:List UInt8} {t:Int}
theorem i0r {w:World} {p g n:Nat} {lst E E3:Int} {vw:List UInt8} {CM U:List Value} {b1 b2 b3:Bool} (hvn:vw.isEmpty=false)
  (HC:Hid (∀ (W:World) (x:Nat),W.heap[x]? = some (.cells U.toArray 44)->W.cell? ⟨x,1,none⟩=some (nu lst)/\W.cell? ⟨x,2,none⟩=some (st vw)/\∀ j u,CM[j]? = some u->W.cell? ⟨x,3 + j,none⟩=some u))
  (ZD:(prog.info? 38).map (·.size)=some CM.length)
  (H1:Hid (∀ W,Below w.heap.size w W->Calls prog 73 #[pt p 0,nu lst] W fun e w'=>e = .returned (.bool b1)/\Below W.heap.size W w'))
  (H2:Hid (∀ W,Below w.heap.size w W->Calls prog 50 #[pt p 0] W fun e w'=>e = .returned (nu (n:Int))/\Below W.heap.size W w'))
  (H3:Hid (∀ W,Calls prog 49 #[st vw,nu (n:Int)] W fun e w'=>e = .returned (.bool b2)/\Below W.heap.size W w'))
  (H4:Hid (∀ W,Calls prog 76 #[st vw,nu lst] W fun e w'=>e = .returned (.bool b3)/\w' = W))
  (HJ:Hid (∀ W,Below w.heap.size w W->Calls prog 53 #[nu lst,nu 3,st vw,.agg CM.toArray,pt g 0] W fun e w'=>e = .returned (nu E3)/\Below W.heap.size W w'))
  (h1:Hid ((b1 && b2)=false->E=2)) (h2:Hid ((b1 && b2)=true->b3=false->E=8)) (h3:Hid ((b1 && b2)=true->b3=true->E=E3)) :
  Calls prog 55 #[pt p 0,judge g,.agg U.toArray] w fun e w'=>e = .returned (nu E)/\Below w.heap.size w w':=by
 have T0:=hid (a0f w (.cells U.toArray 44));have B0:=hid (a0c w (.cells U.toArray 44));obtain ⟨a1,a2,a3⟩:=HC.out _ _ T0.out;unfold judge;clear a3;go_enter func55,ntmps55;go_upto_region 1 with fail
 generalize w.alloc (.cells U.toArray 44)=W0 at *;have hs0:=B0.out.size;generalize hX:w.heap.size=X at *;go_upto_region 3 with fail
 clear a1 a2;obtain ⟨a1,a2,a3⟩:=HC.out _ _ T0.out;clear a3;have hc1:∀ dd os,(Sort.grow (redrawn W0 dd) os).cell? ⟨X,1,none⟩=some (nu lst):=fun dd os=>cell_regrown a1 _ _;have hc2:∀ dd os,(Sort.grow (redrawn W0 dd) os).cell? ⟨X,2,none⟩=some (st vw):=fun dd os=>cell_regrown a2 _ _;have R1:=regr (w:=W0) (fun W hb=>H1.out W (B0.out.trans (hb.mono hs0)));have R2:=regr (w:=W0) (fun W hb=>H2.out W (B0.out.trans (hb.mono hs0)));have R3:=regr (w:=W0) (fun W _=>H3.out W);clear a1 a2
 cases b1
 case false =>
  refine wp_region_quiet_below (by kernel_rfl) (by kernel_rfl) ?_
  repeat (first | go_big_quiet_step (exact R1.out _ _) | quiet_step (exact R1.out _ _))
  refine wpQuiet_nil ?_;intro _ hw';obtain ⟨⟨dq,osq⟩,hw''⟩:=hw';subst hw'';have HB2:Hid (Below X w (Sort.grow (redrawn W0 dq) osq)):=hid (B0.out.trans ((below_regrown W0 dq osq).mono hs0));clear hc1 hc2 R1 R2 R3;go_wp2;go_ret;exact ⟨by rw [h1.out (by rfl)] <;> rfl,hX ▸ HB2.out⟩
 refine wp_region_quiet_below (by kernel_rfl) (by kernel_rfl) ?_
 iterate 4 (first | go_big_quiet_step (exact R1.out _ _) | quiet_step (exact R1.out _ _))
 iterate 6 (first | go_big_quiet_step (exact R2.out _ _) | quiet_step (exact R2.out _ _))
 repeat (first | go_big_quiet_step (exact R3.out _ _) | quiet_step (exact R3.out _ _))
 refine wpQuiet_nil ?_;intro _ hw';obtain ⟨⟨dq,osq⟩,hw''⟩:=hw';subst hw'';have b2':=below_regrown W0 dq osq;have B2:Hid (Below X w (Sort.grow (redrawn W0 dq) osq)):=hid (B0.out.trans (b2'.mono hs0));have T2:=hid (a0a T0.out b2');clear hc1 hc2 R1 R2 R3 b2' B0 T0;generalize Sort.grow (redrawn W0 dq) osq=W2 at *;have hs2:X <= W2.heap.size:=hX ▸ B2.out.size
 cases b2
 case false =>
  go_wp2;go_ret;exact ⟨by rw [h1.out (by rfl)] <;> rfl,hX ▸ B2.out⟩
 obtain ⟨a1,a2,a3⟩:=HC.out _ _ T2.out;have A3:=hid a3;clear a3
 go_wp2_with fail
 refine (H4.out _).mono ?_;rintro e w1 ⟨rfl,hw1⟩;subst w1
 cases b3
 case false =>
  go_wp2;go_ret;exact ⟨by rw [h2.out (by rfl) (by trivial)] <;> rfl,hX ▸ B2.out⟩
 go_wp2_with ((with_reducible refine a0d 38 (.tmp 34) ?_ X 3 ?_ ?_ CM _ A3.out underlying38 ?_ ZD ?_);iterate 4 exact rfl)
 refine (HJ.out _ (hX ▸ B2.out)).mono ?_;rintro e W3 ⟨rfl,b3⟩;have B3:Hid (Below X w W3):=hid (B2.out.trans (b3.mono hs2));clear b3;go_wp2;go_ret;exact ⟨by rw [h3.out (by rfl) (by trivial)] <;> rfl,hX ▸ B3.out⟩
theorem r0r {a:List UInt8} (h:a ≠ []):a.isEmpty=false:=by
 cases a with
 | nil=>exact absurd rfl h
 | cons x l=>rfl
theorem l0E {D:List UInt8} (h:D.length=32):(prog.info? 38).map (·.size)=some (dg D).length:=by rw [a0e,h];exact sizeDig
theorem k0i (j:JgAt w k p s n) (hy:y.Wf) (hl:y.view.length <= 140737488351232) :
  Calls prog 55 #[pt p 0,judge k,.agg (repC y v).toArray] w fun e w'=>e = .returned (nu (l0l s n y))/\Below w.heap.size w w':=by
 unfold l0l;by_cases hv:y.view = []
 ·rw [if_pos hv]
  exact l0p _ hy hv
 rw [if_neg hv]
 refine i0r (n:=n) (lst:=y.last) (vw:=y.view) (CM:=dg y.commit) (b1:=hasB n y.last) (b2:=Hist.rightB y.view n) (b3:=c0i y.view == y.last) (E3:=jdg s n y.last 3 y.view y.commit) (r0r hv)
  (fun W x h=>⟨d0f h hy,b0B h hy,c0W h hy⟩) (l0E hy.commit)
  (fun W hb=>(j0Y (j.rg.kept hb) y.last).mono (fun _ _ h=>⟨h.1,by rw [h.2];exact Below.refl _ _⟩))
  (fun W hb=>(h0P (j.rg.kept hb)).mono (fun _ _ h=>⟨h.1,by rw [h.2];exact Below.refl _ _⟩))
  (fun W=>Hist.right_any y.view (n:Int) W)
  (fun W=>g0G y.view hv hl y.last W)
  (fun W hb=>e0N (j.kept hb) y.last 3 y.view y.commit hy.commit) ?_ ?_ ?_
 ·intro h;rw [if_pos h]
 ·intro h h2;rw [if_neg (by rw [h];decide),if_pos (by simpa using h2)]
 ·intro h h2;rw [if_neg (by rw [h];decide),if_neg (by simpa using h2)]
theorem i0s {w:World} {g:Nat} {vn cn E E3:Int} {sn d:List UInt8} {ST U:List Value} {b1 b2:Bool} (t:Int)
  (HC:Hid (∀ (W:World) (x:Nat),W.heap[x]? = some (.cells U.toArray 44)->W.cell? ⟨x,36,none⟩=some (nu vn)/\W.cell? ⟨x,70,none⟩=some (st sn)/\∀ j u,ST[j]? = some u->W.cell? ⟨x,71 + j,none⟩=some u))
  (ZD:(prog.info? 38).map (·.size)=some ST.length) (hwv:IntKind.i64.wrap (vn - 1)=vn - 1)
  (hvn:sn.isEmpty=false)
  (H1:Hid (∀ W,Calls prog 51 #[st sn,nu t] W fun e w'=>e = .returned (nu cn)/\Below W.heap.size W w'))
  (H4:Hid (∀ W,Calls prog 76 #[st sn,nu t] W fun e w'=>e = .returned (.bool b1)/\w' = W))
  (H5:Hid (∀ W,Calls prog 56 #[st d,st sn] W fun e w'=>e = .returned (.bool b2)/\w' = W))
  (HJ:Hid (∀ W,Below w.heap.size w W->Calls prog 53 #[nu t,nu 3,st sn,.agg ST.toArray,pt g 0] W fun e w'=>e = .returned (nu E3)/\Below W.heap.size W w'))
  (h1:Hid ((b1 && (b2 && ((cn == vn) || (cn == vn - 1))))=false->E=8)) (h2:Hid ((b1 && (b2 && ((cn == vn) || (cn == vn - 1))))=true->E=E3)) :
  Calls prog 61 #[judge g,nu t,st d,.agg U.toArray] w fun e w'=>e = .returned (nu E)/\Below w.heap.size w w':=by
 have T0:=hid (a0f w (.cells U.toArray 44));have B0:=hid (a0c w (.cells U.toArray 44));obtain ⟨a1,a2,a3⟩:=HC.out _ _ T0.out;unfold judge;clear a3;go_enter func61,ntmps61;go_upto_region 1 with fail
 generalize w.alloc (.cells U.toArray 44)=W0 at *;have hs0:=B0.out.size;generalize hX:w.heap.size=X at *
 go_wp2_with fail
 refine (H1.out _).mono ?_;rintro e W1 ⟨rfl,b1'⟩;have B1:Hid (Below X w W1):=hid (B0.out.trans (b1'.mono hs0));have T1:=hid (a0a T0.out b1');clear a1 a2 b1' T0 B0;obtain ⟨a1,a2,a3⟩:=HC.out _ _ T1.out;have A3:=hid a3;clear a3;have hs1:X <= W1.heap.size:=hX ▸ B1.out.size
 go_wp2_with fail
 refine (H4.out _).mono ?_;rintro e w1 ⟨rfl,hw1⟩;subst w1
 cases b1
 case false =>
  go_wp2;go_ret;exact ⟨by rw [h1.out (by rfl)] <;> rfl,hX ▸ B1.out⟩
 go_wp2_with fail
 refine (H5.out _).mono ?_;rintro e w1 ⟨rfl,hw1⟩;subst w1
 cases b2
 case false =>
  go_wp2;go_ret;exact ⟨by rw [h1.out (by rfl)] <;> rfl,hX ▸ B1.out⟩
 cases e1:(cn == vn)
 ·have n1:(cn != vn)=true:=by rw [bne,e1];rfl
  cases e2:(cn == vn - 1)
  ·have n2:(cn != vn - 1)=true:=by rw [bne,e2];rfl
   go_wp2;go_ret;exact ⟨by rw [h1.out (by rw [e1,e2];rfl)] <;> rfl,hX ▸ B1.out⟩
  ·have n2:(cn != vn - 1)=false:=by rw [bne,e2];rfl
   go_wp2_with ((with_reducible refine a0d 38 (.tmp 50) ?_ X 71 ?_ ?_ ST _ A3.out underlying38 ?_ ZD ?_);iterate 4 exact rfl)
   refine (HJ.out _ (hX ▸ B1.out)).mono ?_;rintro e W3 ⟨rfl,b3⟩;have B3:Hid (Below X w W3):=hid (B1.out.trans (b3.mono hs1));clear b3;go_wp2;go_ret;exact ⟨by rw [h2.out (by rw [e1,e2];rfl)] <;> rfl,hX ▸ B3.out⟩
 ·have n1:(cn != vn)=false:=by rw [bne,e1];rfl
  go_wp2_with ((with_reducible refine a0d 38 (.tmp 50) ?_ X 71 ?_ ?_ ST _ A3.out underlying38 ?_ ZD ?_);iterate 4 exact rfl)
  refine (HJ.out _ (hX ▸ B1.out)).mono ?_;rintro e W3 ⟨rfl,b3⟩;have B3:Hid (Below X w W3):=hid (B1.out.trans (b3.mono hs1));clear b3;go_wp2;go_ret;exact ⟨by rw [h2.out (by rw [e1];rfl)] <;> rfl,hX ▸ B3.out⟩
theorem l0F {w:World} {vn E:Int} {U:List Value} (f:Value) (t:Int) {d:List UInt8}
  (HC:Hid (∀ (W:World) (x:Nat),W.heap[x]? = some (.cells U.toArray 44)->W.cell? ⟨x,36,none⟩=some (nu vn)/\W.cell? ⟨x,70,none⟩=some (st [])))
  (HF:Hid (∀ W,Calls prog 59 #[.bool (vn != 1)] W fun e w'=>e = .returned (nu E)/\w' = W)) :
  Calls prog 61 #[f,nu t,st d,.agg U.toArray] w fun e w'=>e = .returned (nu E)/\Below w.heap.size w w':=by
 have T0:=hid (a0f w (.cells U.toArray 44));have B0:=hid (a0c w (.cells U.toArray 44));obtain ⟨a1,a2⟩:=HC.out _ _ T0.out;go_enter func61,ntmps61;go_upto_region 1 with fail
 generalize w.alloc (.cells U.toArray 44)=W0 at *;generalize hX:w.heap.size=X at *
 go_wp2_with fail
 refine (HF.out _).mono ?_;rintro e w1 ⟨rfl,hw1⟩;subst w1;go_wp2;go_ret;exact ⟨rfl,hX ▸ B0.out⟩
theorem u0U (a:Int):(bif a != 1 then (8:Int) else 0)=if a=1 then 0 else 8:=by
 by_cases h:a=1
 ·rw [if_pos h,h];rfl
 ·rw [if_neg h,bne_iff_ne.2 h];rfl
theorem m0S (a b:Int):decide (a=b)=(a == b):=by
 by_cases h:a=b
 ·rw [decide_eq_true h,h];simp
 ·rw [decide_eq_false h,beq_false_of_ne h]
theorem l0G (d:List UInt8) (y:Rep) (t:Int):h0N t d y=(c0i y.seen == t && (Hist.goesB d y.seen && (((Hist.cnt y.seen t:Int) == y.vnum) || ((Hist.cnt y.seen t:Int) == y.vnum - 1)))):=by
 unfold h0N;rw [m0S,m0S,m0S]
theorem k0j (j:JgAt w k p s n) (hy:y.Wf) (hn2:I64 (y.vnum - 1)) (hl:y.seen.length <= 140737488351232) :
  Calls prog 61 #[judge k,nu t,st d,.agg (repC y v).toArray] w fun e w'=>e = .returned (nu (q0K s n t d y))/\Below w.heap.size w w':=by
 unfold q0K;by_cases hs:y.seen = []
 ·rw [if_pos hs]
  refine l0F (vn:=y.vnum) _ t (fun W x h=>⟨a0Q h hy,by have:=b0x h hy;rw [hs] at this;exact this⟩) (fun W=>(j0j (y.vnum != 1) W).mono (fun _ _ h=>⟨by rw [h.1,u0U],h.2⟩))
 ·rw [if_neg hs]
  refine i0s (vn:=y.vnum) (cn:=(Hist.cnt y.seen t:Int)) (sn:=y.seen) (ST:=dg y.stag) (b1:=c0i y.seen == t) (b2:=Hist.goesB d y.seen) (E3:=jdg s n t 3 y.seen y.stag) t
   (fun W x h=>⟨a0Q h hy,b0x h hy,d0g h hy⟩) (l0E hy.stag) (by rw [IntKind.wrap_i64];obtain ⟨h1,h2⟩:=hn2;omega) (r0r hs)
   (fun W=>Hist.count_any y.seen (l0n hl) t W) (fun W=>g0G y.seen hs hl t W) (fun W=>Hist.goes_any d y.seen W)
   (fun W hb=>e0N (j.kept hb) t 3 y.seen y.stag hy.stag) ?_ ?_
  ·intro h
   have e:h0N t d y=false:=by exact (l0G d y t).trans h
   rw [if_pos e]
  ·intro h
   have e:h0N t d y=true:=by exact (l0G d y t).trans h
   rw [if_neg (by rw [e];decide)]
end
open Go Go.RowKit
set_option maxRecDepth 100000
theorem sizeInt25:(prog.info? 3).map (·.size)=some 1:=by kernel_rfl
theorem sizeStr25:(prog.info? 9).map (·.size)=some 1:=by kernel_rfl
theorem l0H {w:World} {lst:Int} {vw d:List UInt8} {CM U G Z:List Value} (hvn:vw.isEmpty=false)
  (HC:Hid (∀ (W:World) (x:Nat),W.heap[x]? = some (.cells U.toArray 44)->W.cell? ⟨x,1,none⟩=some (nu lst)/\W.cell? ⟨x,2,none⟩=some (st vw)/\∀ j u,CM[j]? = some u->W.cell? ⟨x,3 + j,none⟩=some u))
  (ZD:(prog.info? 38).map (·.size)=some CM.length) (ZZ:(prog.info? 49).map (·.zero)=some (some (.agg Z.toArray))) (LG:Z.length=G.length) (OG:Hid (∀ v ∈ G,v.oneCell' = true)) (ZG:Hid ((prog.info? 49).map (·.size)=some G.length))
  (HCl:Hid (∀ W,Calls prog 58 #[st vw] W fun e w'=>e = .returned (st vw)/\Below W.heap.size W w'))
  (HB:Hid (∀ W,(Instr.build 49 #[(0,st d),(3,nu lst),(4,st vw),(5,.agg CM.toArray)]).run prog W = .ok (.agg G.toArray) W)) :
  Calls prog 29 #[st d,.agg U.toArray] w fun e w'=>e = .returned (.agg G.toArray)/\Below w.heap.size w w':=by
 have b0:=a0c w (.cells U.toArray 44);have B0:=hid (a0b b0 (a0c (w.alloc (.cells U.toArray 44)) (.cells Z.toArray 49)));have T0:=hid (a0a (a0f w (.cells U.toArray 44)) (a0c (w.alloc (.cells U.toArray 44)) (.cells Z.toArray 49)));have T1:=a0f (w.alloc (.cells U.toArray 44)) (.cells Z.toArray 49);have e1:(w.alloc (.cells U.toArray 44)).heap.size=w.heap.size + 1:=by simp
 rw [e1] at T1;have G0:=hid T1;clear T1 b0;go_enter func29,ntmps29;go_upto_region 1 with ((with_reducible refine a0G 49 ?_ ?_ Z.toArray ZZ ?_);exact rfl;exact rfl)
 try simp only [Act.put,List.setIfInBounds_toArray,List.set_cons_zero,List.set_cons_succ,e1]
 generalize (w.alloc (.cells U.toArray 44)).alloc (.cells Z.toArray 49)=W0 at *;clear e1;have hge:w.heap.size <= w.heap.size + 1:=Nat.le_succ _;have hXY:w.heap.size ∉ [w.heap.size + 1]:=by simp
 generalize w.heap.size + 1=Y at *;generalize hX:w.heap.size=X at *;obtain ⟨a1,a2,a3⟩:=HC.out _ _ T0.out;clear a3;go_upto_region 3 with fail
 clear a1 a2;refine b0W (N:=19) [(st d),(pt X 1),(nu lst),(pt X 2),(st vw),(st vw),(pt X 3),(.agg (CM).toArray),(.agg G.toArray),undef] (fun L w=>Kp [Y] W0 w/\w.heap[Y]? = some (.cells (bif L 9 then G else Z).toArray 49)) [(10,(st d)),(11,(pt X 1)),(12,(nu lst)),(13,(pt X 2)),(14,(st vw)),(15,(st vw)),(16,(pt X 3)),(17,(.agg (CM).toArray)),(18,(.agg G.toArray))] (by kernel_rfl) (by kernel_rfl) rfl (fun w1 hb=>⟨Kp.of hb,a0a G0.out hb⟩) (by kernel_rfl) ?_ ?_
 ·intro i o ho
  match i,ho with
  | 0,ho=>cases ho;exact fun L a w hLi hw hnot hJ hk hv K h=>a0q 0 _ rfl (hk 0 (by kernel_rfl)) (h _ hJ)
  | 1,ho=>cases ho;exact fun L a w hLi hw hnot hJ hk hv K h=>b0C 3 _ 1 X 0 1 rfl (fun W=>by kernel_rfl) (hk 3 (by kernel_rfl)) (h _ hJ)
  | 2,ho=>cases ho;exact fun L a w hLi hw hnot hJ hk hv K h=>a0A _ (.tmp 11) rfl X 1 (hv 1 11 (by kernel_rfl) (by kernel_rfl)) (nu lst) _ (HC.out _ _ (hJ.1.row T0.out hXY)).1 underlying3 rfl (h _ hJ)
  | 3,ho=>cases ho;exact fun L a w hLi hw hnot hJ hk hv K h=>b0C 3 _ 2 X 0 2 rfl (fun W=>by kernel_rfl) (hk 3 (by kernel_rfl)) (h _ hJ)
  | 4,ho=>cases ho;exact fun L a w hLi hw hnot hJ hk hv K h=>a0A _ (.tmp 13) rfl X 2 (hv 3 13 (by kernel_rfl) (by kernel_rfl)) (st vw) _ (HC.out _ _ (hJ.1.row T0.out hXY)).2.1 underlying9 rfl (h _ hJ)
  | 5,ho=>cases ho;exact fun L a w hLi hw hnot hJ hk hv K h=>c0J 58 [.tmp 14] _ #[(st vw)] (st vw) rfl (fun _ _=>by kernel_rfl) (s0S (hv 4 14 (by kernel_rfl) (by kernel_rfl))) (J:=fun w1=>Below w.heap.size w w1) (HCl.out w) (fun w1 e1=>h _ ⟨hJ.1.trans (Kp.of e1),a0a hJ.2 e1⟩)
  | 6,ho=>cases ho;exact fun L a w hLi hw hnot hJ hk hv K h=>b0C 3 _ 3 X 0 3 rfl (fun W=>by kernel_rfl) (hk 3 (by kernel_rfl)) (h _ hJ)
  | 7,ho=>cases ho;exact fun L a w hLi hw hnot hJ hk hv K h=>c0u _ (.tmp 16) rfl X 3 (hv 6 16 (by kernel_rfl) (by kernel_rfl)) (CM) _ (HC.out _ _ (hJ.1.row T0.out hXY)).2.2 underlying38 rfl ZD (h _ hJ)
  | 8,ho=>cases ho;exact fun L a w hLi hw hnot hJ hk hv K h=>l0o _ [(0,.tmp 10),(3,.tmp 12),(4,.tmp 15),(5,.tmp 17)] rfl (.agg G.toArray) (by have e0:a.eval (.tmp 10)=(st d):=(hv 0 10 (by kernel_rfl) (by kernel_rfl));have e1:a.eval (.tmp 12)=(nu lst):=(hv 2 12 (by kernel_rfl) (by kernel_rfl));have e2:a.eval (.tmp 15)=(st vw):=(hv 5 15 (by kernel_rfl) (by kernel_rfl));have e3:a.eval (.tmp 17)=(.agg (CM).toArray):=(hv 7 17 (by kernel_rfl) (by kernel_rfl));simp only [List.map_cons,List.map_nil,e0,e1,e2,e3];exact (HB.out w)) (h _ hJ)
  | 9,ho=>cases ho;exact fun L a w hLi hw hnot hJ hk hv K h=>p0C _ 4 18 rfl rfl Y 0 (hk 4 (by kernel_rfl)) [] G Z [] (hv 8 18 (by kernel_rfl) (by kernel_rfl)) _ (c0O (by have e:=hJ.2;simp only [hLi,cond_false] at e;exact e)) rfl LG OG.out ZG.out (fun w1 hr hb=>h _ ⟨hJ.1.but hb (Or.inl (by simp)),(by show w1.heap[Y]? = some (.cells (bif up L 9 9 then G else Z).toArray _);rw [b0s];simpa using hr)⟩)
  | (i + 10),ho=>exact absurd ho (by simp)
 intro LL W2 hall hJ;simp only [List.foldl_cons,List.foldl_nil,List.setIfInBounds_toArray,List.set_cons_zero,List.set_cons_succ];obtain ⟨k2,r2⟩:=hJ;rw [hall 9 (by decide),cond_true] at r2;have B2:Hid (Below X w W2):=hid (B0.out.trans (k2.below (by simpa using hge) (hX ▸ B0.out.size)));have R2:=hid r2;clear r2 k2 hall T0 G0 B0;go_wp2;refine bodyPost_ret_by (f0c (fn:=Tryz.f29) (p:=4) (ty:=49) (by kernel_rfl) _ _ Y 49 G.toArray (0,0) _ rfl R2.out underlying49 rfl (by rw [List.size_toArray];exact ZG.out)) rfl ?_;exact ⟨rfl,hX ▸ B2.out⟩
theorem h0X (D:List UInt8):∀ v ∈ dg D,v.oneCell' = true:=by
 intro v hv;simp only [dg,List.mem_map] at hv;obtain ⟨x,-,rfl⟩:=hv;rfl
def x0y:List (Nat × Nat):=[(0,1),(1,1),(2,1),(3,1),(4,1),(5,32),(37,1),(38,32)]
def gotS:List (List Value):=[[st []],[nu 0],[st []],[nu 0],[st []],dg a0n,[st []],dg a0n]
theorem zeroGots:(prog.info? 49).map (·.zero)=some (some (.agg gotS.flatten.toArray)):=by kernel_rfl
theorem o0Y (W:World) (d:List UInt8) (l:Int) (v c:List UInt8) (hc:c.length=32):(Instr.build 49 #[(0,st d),(3,nu l),(4,st v),(5,.agg (dg c).toArray)]).run prog W = .ok (.agg (gotC ⟨d,0,[],l,v,c,[],a0n⟩).toArray) W:=by
 refine c0f x0y underlying49 zeroGots (by kernel_rfl) gotS rfl (g0o _ _ (by kernel_rfl)) [(0,[st d],st d),(3,[nu l],nu l),(4,[st v],st v),(5,dg c,.agg (dg c).toArray)] ?_ _ ?_
 ·intro x hx
  simp only [List.mem_cons,List.not_mem_nil,or_false] at hx;rcases hx with rfl | rfl | rfl | rfl
  ·exact ⟨rfl,_,rfl,rfl⟩
  ·exact ⟨rfl,_,rfl,rfl⟩
  ·exact ⟨rfl,_,rfl,rfl⟩
  ·exact ⟨rfl,_,rfl,by rw [a0e,hc];rfl⟩
 ·simp [gotS,gotC]
section
variable {w:World} {y:Rep} {v:Value}
theorem m0T (d:List UInt8) (hy:y.Wf) (hl:y.view.length <= 281474976710656):Calls prog 29 #[st d,.agg (repC y v).toArray] w fun e w'=>e = .returned (.agg (gotC (c0U d y)).toArray)/\Below w.heap.size w w':=by
 by_cases hv:y.view = []
 ·exact o0T d hy hv
 ·have e0:c0U d y=⟨d,0,[],y.last,y.view,y.commit,[],a0n⟩:=by unfold c0U;rw [if_neg hv]
  rw [e0];have hw:Got.Wf ⟨d,0,[],y.last,y.view,y.commit,[],a0n⟩:=⟨hy.commit,rfl⟩
  exact l0H (lst:=y.last) (vw:=y.view) (CM:=dg y.commit) (r0r hv) (fun W x h=>⟨d0f h hy,b0B h hy,c0W h hy⟩) (l0E hy.commit) zeroGot (by rw [b0M zeroT_wf,b0M hw]) (e0q _) (szGY hw)
   (fun W=>Hist.clone_any y.view hl W) (fun W=>o0Y W d y.last y.view y.commit hy.commit)
end
theorem i0t {w:World} {vn:Int} {vl sn:List UInt8} {o1 o2 o3:Value} {A0 C0 Bb ST OT U G0 G2 Z:List Value}
  (HC:Hid (∀ (W:World) (x:Nat),W.heap[x]? = some (.cells U.toArray 44)->W.cell? ⟨x,36,none⟩=some (nu vn)/\W.cell? ⟨x,37,none⟩=some (st vl)/\W.cell? ⟨x,70,none⟩=some (st sn)/\∀ j u,ST[j]? = some u->W.cell? ⟨x,71 + j,none⟩=some u))
  (ZD:(prog.info? 38).map (·.size)=some ST.length) (ZZ:(prog.info? 49).map (·.zero)=some (some (.agg Z.toArray))) (LG:Z.length=G2.length) (OG:Hid (∀ v ∈ G2,v.oneCell' = true)) (ZG:Hid ((prog.info? 49).map (·.size)=some G2.length)) (LT:OT.length=ST.length) (OS:Hid (∀ v ∈ ST,v.oneCell' = true))
  (E0:Hid (G0=A0++([o1]++([o2]++C0)))) (E1:Hid (A0++([nu vn]++([st vl]++C0))=Bb++([o3]++(OT++[])))) (E2:Hid (Bb++([st sn]++(ST++[]))=G2)) (hA0:A0.length=1) (hBb:Bb.length=37)
  (HC1:Hid (∀ W,Calls prog 58 #[st vl] W fun e w'=>e = .returned (st vl)/\Below W.heap.size W w')) (HC2:Hid (∀ W,Calls prog 58 #[st sn] W fun e w'=>e = .returned (st sn)/\Below W.heap.size W w')) :
  Calls prog 32 #[.agg G0.toArray,.agg U.toArray] w fun e w'=>e = .returned (.agg G2.toArray)/\Below w.heap.size w w':=by
 have e1:(w.alloc (.cells G0.toArray 49)).heap.size=w.heap.size + 1:=by simp
 have e2:((w.alloc (.cells G0.toArray 49)).alloc (.cells U.toArray 44)).heap.size=w.heap.size + 2:=by simp
 have b0:=a0c w (.cells G0.toArray 49);have b1:=a0c (w.alloc (.cells G0.toArray 49)) (.cells U.toArray 44);have b2:=a0c ((w.alloc (.cells G0.toArray 49)).alloc (.cells U.toArray 44)) (.cells Z.toArray 49);have t0:=a0a (a0a (a0f w (.cells G0.toArray 49)) b1) b2;have t1:=a0f (w.alloc (.cells G0.toArray 49)) (.cells U.toArray 44);have t2:=a0f ((w.alloc (.cells G0.toArray 49)).alloc (.cells U.toArray 44)) (.cells Z.toArray 49);rw [e1] at t1;rw [e2] at t2;have hcell:∀ (W:World) (x:Nat),W.heap[x]? = some (.cells G0.toArray 49)->W.heap[x]? = some (.cells (A0++([o1]++([o2]++C0))).toArray 49):=fun W x h=>by rw [← E0.out];exact h
 have T0:=hid (hcell _ _ t0);clear hcell;have T1:=hid (a0a t1 b2);have R0:=hid t2;have B0:=hid (a0b (a0b b0 b1) b2);clear t0 t1 t2 b0 b1 b2;go_enter func32,ntmps32;go_upto_region 1 with ((with_reducible refine a0G 49 ?_ ?_ Z.toArray ZZ ?_);exact rfl;exact rfl)
 try simp only [Act.put,List.setIfInBounds_toArray,List.set_cons_zero,List.set_cons_succ,e2]
 generalize ((w.alloc (.cells G0.toArray 49)).alloc (.cells U.toArray 44)).alloc (.cells Z.toArray 49)=W0 at *;clear e1 e2;have hR:w.heap.size <= w.heap.size + 2:=Nat.le_add_right _ _;have hYX:w.heap.size + 1 ∉ [w.heap.size]:=by simp
 have hRX:w.heap.size + 2 ∉ [w.heap.size]:=by simp
 have hXR:w.heap.size ≠ w.heap.size + 2:=by omega
 have hs0:=B0.out.size;generalize w.heap.size + 1=Y at *;generalize w.heap.size + 2=Rr at *;generalize hX:w.heap.size=X at *;refine b0W (N:=20) [(pt Y 36),(nu vn),(pt Y 37),(st vl),(st vl),(pt X 1),undef,(pt X 2),undef] (fun L w=>Kp [X] W0 w/\w.heap[X]? = some (.cells (A0++([bif L 6 then nu vn else o1]++([bif L 8 then st vl else o2]++C0))).toArray 49)) [(5,(pt Y 36)),(6,(nu vn)),(7,(pt Y 37)),(8,(st vl)),(9,(st vl)),(10,(pt X 1)),(11,(pt X 2))] (by kernel_rfl) (by kernel_rfl) rfl (fun w1 hb=>⟨Kp.of hb,a0a T0.out hb⟩) (by kernel_rfl) ?_ ?_
 ·intro i o ho
  match i,ho with
  | 0,ho=>cases ho;exact fun L a w hLi hw hnot hJ hk hv K h=>b0C 3 _ 5 Y 0 36 rfl (fun W=>by kernel_rfl) (hk 3 (by kernel_rfl)) (h _ hJ)
  | 1,ho=>cases ho;exact fun L a w hLi hw hnot hJ hk hv K h=>a0A _ (.tmp 5) rfl Y 36 (hv 0 5 (by kernel_rfl) (by kernel_rfl)) (nu vn) _ (HC.out _ _ (hJ.1.row T1.out hYX)).1 underlying3 rfl (h _ hJ)
  | 2,ho=>cases ho;exact fun L a w hLi hw hnot hJ hk hv K h=>b0C 3 _ 6 Y 0 37 rfl (fun W=>by kernel_rfl) (hk 3 (by kernel_rfl)) (h _ hJ)
  | 3,ho=>cases ho;exact fun L a w hLi hw hnot hJ hk hv K h=>a0A _ (.tmp 7) rfl Y 37 (hv 2 7 (by kernel_rfl) (by kernel_rfl)) (st vl) _ (HC.out _ _ (hJ.1.row T1.out hYX)).2.1 underlying9 rfl (h _ hJ)
  | 4,ho=>cases ho;exact fun L a w hLi hw hnot hJ hk hv K h=>c0J 58 [.tmp 8] _ #[(st vl)] (st vl) rfl (fun _ _=>by kernel_rfl) (s0S (hv 3 8 (by kernel_rfl) (by kernel_rfl))) (J:=fun w1=>Below w.heap.size w w1) (HC1.out w) (fun w1 e1=>h _ ⟨hJ.1.trans (Kp.of e1),a0a hJ.2 e1⟩)
  | 5,ho=>cases ho;exact fun L a w hLi hw hnot hJ hk hv K h=>b0C 2 _ 1 X 0 1 rfl (fun W=>by kernel_rfl) (hk 2 (by kernel_rfl)) (h _ hJ)
  | 6,ho=>cases ho;exact fun L a w hLi hw hnot hJ hk hv K h=>f0x _ 10 6 rfl rfl X 1 (hv 5 10 (by kernel_rfl) (by kernel_rfl)) A0 ([bif L 8 then st vl else o2]++C0) o1 (nu vn) (hv 1 6 (by kernel_rfl) (by kernel_rfl)) _ (by have e:=hJ.2;simp only [hLi,cond_false] at e;exact e) hA0 rfl sizeInt25 (fun w1 hr hb=>h _ ⟨hJ.1.but hb (Or.inl (by simp)),(by show w1.heap[X]? = some (.cells (A0++([bif up L 6 6 then nu vn else o1]++([bif up L 6 8 then st vl else o2]++C0))).toArray _);rw [b0s,b0p (by decide)];exact hr)⟩)
  | 7,ho=>cases ho;exact fun L a w hLi hw hnot hJ hk hv K h=>b0C 2 _ 2 X 0 2 rfl (fun W=>by kernel_rfl) (hk 2 (by kernel_rfl)) (h _ hJ)
  | 8,ho=>cases ho;exact fun L a w hLi hw hnot hJ hk hv K h=>f0x _ 11 9 rfl rfl X 2 (hv 7 11 (by kernel_rfl) (by kernel_rfl)) (A0++[bif L 6 then nu vn else o1]) C0 o2 (st vl) (hv 4 9 (by kernel_rfl) (by kernel_rfl)) _ (by have e:=hJ.2;simp only [hLi,cond_false] at e;rw [List.append_assoc];exact e) (by simp [hA0]) rfl sizeStr25 (fun w1 hr hb=>h _ ⟨hJ.1.but hb (Or.inl (by simp)),(by show w1.heap[X]? = some (.cells (A0++([bif up L 8 6 then nu vn else o1]++([bif up L 8 8 then st vl else o2]++C0))).toArray _);rw [b0s,b0p (by decide)];rw [List.append_assoc] at hr;exact hr)⟩)
  | (i + 9),ho=>exact absurd ho (by simp)
 intro LL W2 hall hJ;simp only [List.foldl_cons,List.foldl_nil,List.setIfInBounds_toArray,List.set_cons_zero,List.set_cons_succ];obtain ⟨k2,r2⟩:=hJ;rw [hall 6 (by decide),hall 8 (by decide),cond_true,cond_true,E1.out] at r2;have B2:Hid (Below X w W2):=hid (B0.out.trans (k2.below (by simp) (hX ▸ hs0)));have G2':=hid r2;have T2:=hid (k2.row T1.out hYX);have R2:=hid (k2.row R0.out hRX);clear r2 k2 hall T0 T1 R0 B0;have hs2:X <= W2.heap.size:=hX ▸ B2.out.size;go_upto_region 2 with fail
 refine b0W (N:=20) [(pt Y 70),(st sn),(st sn),(pt Y 71),(.agg (ST).toArray),(pt X 37),undef,(pt X 38),undef] (fun L w=>Kp [X] W2 w/\w.heap[X]? = some (.cells (Bb++([bif L 6 then st sn else o3]++((bif L 8 then ST else OT)++[]))).toArray 49)) [(12,(pt Y 70)),(13,(st sn)),(14,(st sn)),(15,(pt Y 71)),(16,(.agg (ST).toArray)),(17,(pt X 37)),(18,(pt X 38))] (by kernel_rfl) (by kernel_rfl) rfl (fun w1 hb=>⟨Kp.of hb,a0a G2'.out hb⟩) (by kernel_rfl) ?_ ?_
 ·intro i o ho
  match i,ho with
  | 0,ho=>cases ho;exact fun L a w hLi hw hnot hJ hk hv K h=>b0C 3 _ 8 Y 0 70 rfl (fun W=>by kernel_rfl) (hk 3 (by kernel_rfl)) (h _ hJ)
  | 1,ho=>cases ho;exact fun L a w hLi hw hnot hJ hk hv K h=>a0A _ (.tmp 12) rfl Y 70 (hv 0 12 (by kernel_rfl) (by kernel_rfl)) (st sn) _ (HC.out _ _ (hJ.1.row T2.out hYX)).2.2.1 underlying9 rfl (h _ hJ)
  | 2,ho=>cases ho;exact fun L a w hLi hw hnot hJ hk hv K h=>c0J 58 [.tmp 13] _ #[(st sn)] (st sn) rfl (fun _ _=>by kernel_rfl) (s0S (hv 1 13 (by kernel_rfl) (by kernel_rfl))) (J:=fun w1=>Below w.heap.size w w1) (HC2.out w) (fun w1 e1=>h _ ⟨hJ.1.trans (Kp.of e1),a0a hJ.2 e1⟩)
  | 3,ho=>cases ho;exact fun L a w hLi hw hnot hJ hk hv K h=>b0C 3 _ 9 Y 0 71 rfl (fun W=>by kernel_rfl) (hk 3 (by kernel_rfl)) (h _ hJ)
  | 4,ho=>cases ho;exact fun L a w hLi hw hnot hJ hk hv K h=>c0u _ (.tmp 15) rfl Y 71 (hv 3 15 (by kernel_rfl) (by kernel_rfl)) (ST) _ (HC.out _ _ (hJ.1.row T2.out hYX)).2.2.2 underlying38 rfl ZD (h _ hJ)
  | 5,ho=>cases ho;exact fun L a w hLi hw hnot hJ hk hv K h=>b0C 2 _ 6 X 0 37 rfl (fun W=>by kernel_rfl) (hk 2 (by kernel_rfl)) (h _ hJ)
  | 6,ho=>cases ho;exact fun L a w hLi hw hnot hJ hk hv K h=>f0x _ 17 14 rfl rfl X 37 (hv 5 17 (by kernel_rfl) (by kernel_rfl)) Bb ((bif L 8 then ST else OT)++[]) o3 (st sn) (hv 2 14 (by kernel_rfl) (by kernel_rfl)) _ (by have e:=hJ.2;simp only [hLi,cond_false] at e;exact e) hBb rfl sizeStr25 (fun w1 hr hb=>h _ ⟨hJ.1.but hb (Or.inl (by simp)),(by show w1.heap[X]? = some (.cells (Bb++([bif up L 6 6 then st sn else o3]++((bif up L 6 8 then ST else OT)++[]))).toArray _);rw [b0s,b0p (by decide)];exact hr)⟩)
  | 7,ho=>cases ho;exact fun L a w hLi hw hnot hJ hk hv K h=>b0C 2 _ 7 X 0 38 rfl (fun W=>by kernel_rfl) (hk 2 (by kernel_rfl)) (h _ hJ)
  | 8,ho=>cases ho;exact fun L a w hLi hw hnot hJ hk hv K h=>p0C _ 18 16 rfl rfl X 38 (hv 7 18 (by kernel_rfl) (by kernel_rfl)) (Bb++[bif L 6 then st sn else o3]) ST OT [] (hv 4 16 (by kernel_rfl) (by kernel_rfl)) _ (by have e:=hJ.2;simp only [hLi,cond_false] at e;rw [List.append_assoc];exact e) (by simp [hBb]) LT OS.out ZD (fun w1 hr hb=>h _ ⟨hJ.1.but hb (Or.inl (by simp)),(by show w1.heap[X]? = some (.cells (Bb++([bif up L 8 6 then st sn else o3]++((bif up L 8 8 then ST else OT)++[]))).toArray _);rw [b0s,b0p (by decide)];rw [List.append_assoc] at hr;exact hr)⟩)
  | (i + 9),ho=>exact absurd ho (by simp)
 intro LL W3 hall hJ;simp only [List.foldl_cons,List.foldl_nil,List.setIfInBounds_toArray,List.set_cons_zero,List.set_cons_succ];obtain ⟨k3,r3⟩:=hJ;rw [hall 6 (by decide),hall 8 (by decide),cond_true,cond_true,E2.out] at r3;have B3:Hid (Below X w W3):=hid (B2.out.trans (k3.below (by simp) hs2));have G3:=hid r3;have R3:=hid (k3.row R2.out hRX);clear r3 k3 hall T2 R2 B2 G2'
 go_wp2_with (first
  | ((with_reducible refine a0d 49 (.tmp 2) ?_ X 0 ?_ ?_ G2 _ (a0k G3.out) underlying49 ?_ ZG.out ?_);iterate 4 exact rfl)
  | ((with_reducible refine b0b 49 (.tmp 4) (.tmp 19) ?_ ?_ Rr 0 ?_ ?_ [] G2 Z [] ?_ 49 (c0O R3.out) rfl LG OG.out ZG.out ?_);exact rfl;exact rfl;exact rfl;exact rfl;exact rfl;intro W4 hr4 hbut))
 have hr5:W4.heap[Rr]? = some (.cells G2.toArray 49):=by simpa using hr4
 refine bodyPost_ret_by (f0c (fn:=Tryz.f32) (p:=4) (ty:=49) (by kernel_rfl) _ _ Rr 49 G2.toArray (0,0) _ rfl hr5 underlying49 rfl (by rw [List.size_toArray];exact ZG.out)) rfl ?_;exact ⟨rfl,hX ▸ hbut.below B3.out hR⟩
theorem k0k {w:World} {y:Rep} {v:Value} (g:Got) (hg:g.Wf) (hy:y.Wf) (hl1:y.value.length <= 281474976710656) (hl2:y.seen.length <= 281474976710656) :
  Calls prog 32 #[.agg (gotC g).toArray,.agg (repC y v).toArray] w fun e w'=>e = .returned (.agg (gotC (j0e g y)).toArray)/\Below w.heap.size w w':=by
 have hw:=h0O (y:=y) hy hg
 refine i0t (vn:=y.vnum) (vl:=y.value) (sn:=y.seen) (ST:=dg y.stag) (o1:=nu g.number) (o2:=st g.value) (o3:=st g.seen) (A0:=[st g.view]) (C0:=[nu g.who,st g.long]++(dg g.ltag++([st g.seen]++dg g.stag))) (Bb:=[st g.view,nu y.vnum,st y.value,nu g.who,st g.long]++dg g.ltag) (OT:=dg g.stag)
  (fun W x h=>⟨a0Q h hy,a0Y h hy,b0x h hy,d0g h hy⟩) (l0E hy.stag) zeroGot (by rw [b0M zeroT_wf,b0M hw]) (e0q _) (szGY hw) (by rw [a0e,a0e,hg.stag,hy.stag]) (h0X _) ?_ ?_ ?_ rfl (by simp [a0e,hg.ltag]) (fun W=>Hist.clone_any y.value hl1 W) (fun W=>Hist.clone_any y.seen hl2 W)
 ·show gotC g=_;simp [gotC]
 ·show _=_;simp
 ·show _=gotC (j0e g y);simp [gotC,j0e]
end Go.Proofs.YtagmnmoaekbffaaGreatDoor.Ms
