/- Tvan -/
import Derived.Test.YtagmnmoaekbffaaGreatDoorTvaw
import Derived.Test.YtagmnmoaekbffaaGreatDoorV04
import Derived.Test.YtagmnmoaekbffaaGreatDoorV08
set_option maxHeartbeats 8000000
namespace Go.Proofs.YtagmnmoaekbffaaGreatDoor.Ms
open Go.Proofs.Tryz
open Go Go.RowKit
set_option maxRecDepth 100000
section
variable {w w':World} {p h g b n:Nat} {s:List UInt8} {L L':List Ent} {F:List Nat}
theorem t0O {i:Nat} {nm:String} {cs:Array Value} (hg:prog.globalNamed nm=some i) (hi:i ∉ F) (hl:i < w.heap.size) (hv:w.var? prog nm=some cs) (hk:Kp F w w'):w'.var? prog nm=some cs:=by
 unfold World.var? at *;rw [hg] at *;simp only [Option.bind_some] at *;rw [hk.block i hl hi];exact hv
theorem n0Y (r:RgL w p h g b s n L) (hk:Kp F w w') (hF:∀ y ∈ F,6 <= y) (hp:p ∉ F) (hh:h ∉ F) (hg:g ∉ F) (hb:Book w' b L'):RgL w' p h g b s n L':=by
 have hs:=f0V r.tb;refine ⟨r.n2,r.n8,⟨hk.row r.ring.obj hp,hk.row r.ring.var hh,hk.row r.ring.keys hg,hb⟩,?_,?_⟩
 ·obtain ⟨t,fr,h0⟩:=r.kt
  exact ⟨t,fr,(hk.block 0 (by omega) (fun e=>by have:=hF 0 e;omega)).trans h0⟩
 ·obtain ⟨h1,tp,q,h2⟩:=r.tb
  exact ⟨t0O Lay.gPow (fun e=>by have:=hF _ e;omega) (by omega) h1 hk,tp,q,t0O Lay.gRange (fun e=>by have:=hF _ e;omega) (by omega) h2 hk⟩
end
def sd:List UInt8:=[115,101,101,100]
def x14:Sub:=⟨1,1,1,[118],tagB sd (1,1,askB 1 ⟨1,1,1,[118],a0n,a0n⟩),tagB sd (1,2,numB 1++layT [118])⟩
def y14:Rep:=⟨1,-1,[],a0n,[],0,[],a0n,[],a0n⟩
def y15:Rep:=⟨2,-1,[],a0n,[],0,[],a0n,[],a0n⟩
theorem x14_wf:x14.Wf:=⟨c0e _ _,c0e _ _⟩
theorem y14_wf:y14.Wf:=⟨rfl,rfl,rfl,fun p hp=>by cases hp⟩
theorem y15_wf:y15.Wf:=⟨rfl,rfl,rfl,fun p hp=>by cases hp⟩
theorem r0J (a d:List UInt8):mayB (subM 1 ⟨1,1,1,[118],a,d⟩)=true:=by kernel_rfl
theorem u0Y:mayB (repM y14)=true:=by kernel_rfl
theorem t0P (a d:List UInt8):subE (newR 3) 1 ⟨1,1,1,[118],a,d⟩=0:=by
 have hok:c0R (newR 3) 1 ⟨1,1,1,[118],a,d⟩=true:=by unfold c0R;rw [r0J];rfl
 unfold subE;rw [hok];rfl
theorem w0U (a d:List UInt8):subY (newR 3) 1 ⟨1,1,1,[118],a,d⟩=y14:=by
 have h:=t0P a d;unfold subY;rw [h];rfl
theorem x0E (a d:List UInt8):i0o 3 1 [] ⟨1,1,1,[118],a,d⟩=true:=by
 unfold i0o vsub;rw [r0J];rfl
theorem x0F (a d:List UInt8):f0T ⟨1,1,1,[118],a,d⟩ y14=true:=by
 unfold f0T;rw [u0Y];rfl
theorem x0G (a d:List UInt8):f0T ⟨1,1,1,[118],a,d⟩ y15=false:=by
 unfold f0T;have:((2:Int) == 1)=false:=rfl;show (mayB (repM y15) && ((2:Int) == 1))=false;rw [this,Bool.and_false]
theorem zeroSubV:(prog.info? 40).map (·.zero)=some (some (.agg (subC c0j).toArray)):=by kernel_rfl
theorem zeroRepV:(prog.info? 44).map (·.zero)=some (some (.agg (repC a0p (.slice none 0 0)).toArray)):=by kernel_rfl
theorem w0V:RepRng y14:=⟨⟨by decide,by decide⟩,⟨by decide,by decide⟩,⟨by decide,by decide⟩,fun p hp=>by cases hp⟩
theorem w0W:RepRng y15:=⟨⟨by decide,by decide⟩,⟨by decide,by decide⟩,⟨by decide,by decide⟩,fun p hp=>by cases hp⟩
theorem i1:I64 1:=⟨by show (-9223372036854775808:Int) <= 1;decide,by show (1:Int) <= _;decide⟩
theorem w0X:(subM 1 x14).Rng:=⟨i1,i1,i1,i1,i1,a0r,a0r,a0r,a0r,a0r,a0r,(fun n hn=>by cases hn),(fun p hp=>by cases hp)⟩
section
variable {w:World}
structure S2 (w:World) (P p x hi:Nat) (W:World):Prop where
 low:Below w.heap.size w W
 row:∃ q1 q3 q4 q5,W.heap[P]? = some (.cells #[pt p 0,q1,pt x 0,q3,q4,q5] 35)
 all:∃ G h g b L,RY W x G (newR 3)/\RgL W p h g b sd 3 L/\(b ∉ G/\P ∉ G)/\(∀ y ∈ G,w.heap.size <= y/\6 <= y/\y < hi/\p < y/\h < y/\g < y)/\(6 <= hi/\w.heap.size <= hi/\P < hi/\p < hi/\h < hi/\g < hi/\b < hi)
structure S3 (w:World) (P p hi:Nat) (W:World):Prop where
 low:Below w.heap.size w W
 row:∃ q1 q2 q3 q4 q5,W.heap[P]? = some (.cells #[pt p 0,q1,q2,q3,q4,q5] 35)
 all:∃ h g b L,RgL W p h g b sd 3 L/\(6 <= hi/\w.heap.size <= hi/\P < hi/\p < hi/\h < hi/\g < hi/\b < hi)
theorem St.old {B0:Nat} {w:World} {P p q x vb wb hb h g b n:Nat} {G:List Nat} {R:Rs} {V Wt H:List (List UInt8)} {L:List Ent} (s:St B0 w P p q x vb wb hb h g b n G R V Wt H L):∀ y,(y ∈ [P,vb,wb,hb,p,h,g,b,q] ∨ y ∈ G)->y < w.heap.size:=by
 have a1:=a0D s.row;have a2:=a0D s.views;have a3:=a0D s.waits;have a4:=a0D s.held;have a5:=s.regs.lt;intro y hy;rcases hy with hy | hy
 ·simp only [List.mem_cons,List.not_mem_nil,or_false] at hy
  have o:=s.o1;rcases hy with rfl | rfl | rfl | rfl | rfl | rfl | rfl | rfl | rfl
  ·exact a1
  ·exact a2
  ·exact a3
  ·exact a4
  all_goals (have:=(o y (by simp)).1;omega)
 ·exact a5 y hy
theorem rep3 (j:Nat):(List.replicate 3 ([]:List UInt8)).getD j [] = []:=by
 rw [List.getD_eq_getElem?_getD,List.getElem?_replicate]
 split <;> rfl
theorem w0Y:mkX seed (List.replicate 3 []) 1 (d0S 0) (d0T 0 1 0) (k0p 0 ((List.replicate 3 []).getD 1 []) [118])=x14:=rfl
theorem r0K:c0n seed 3 1 [] y14=0:=by kernel_rfl
theorem t0m:c0B seed 3 1 [] y14 = []:=by unfold c0B;rw [if_pos r0K];rfl
theorem w0Z:chkE seed 3 1 [] x14 y14=0:=by
 unfold chkE;rw [show i0o 3 1 [] x14=true from x0E _ _,show f0T x14 y14=true from x0F _ _,r0K];rfl
theorem x0H:chkG seed 3 1 [] x14 y14=c0U [by8 1] y14:=by
 unfold chkG;rw [if_neg (by rw [w0Z];decide),t0m];rfl
theorem x0b:chkE seed 3 1 [] x14 y15=2:=by
 unfold chkE;rw [show f0T x14 y15=false from x0G _ _,Bool.and_false];rfl
theorem x0I:chkG seed 3 1 [] x14 y15=f0l:=by
 unfold chkG;rw [if_pos (by rw [x0b];decide)]
theorem p0i (hK:Ktab w) (hT:Lay.Tabs w):Calls prog 6 #[] w fun e w'=>e = .returned (.bool true)/\Below w.heap.size w w':=by
 have h6:=f0V hT;have gw:(c0U [by8 1] y14).Wf:=f0U y14_wf
 refine m0P (V:=subC x14) (Z:=subC c0j) (ZY:=repC a0p (.slice none 0 0)) (ZG:=gotC f0l) (G1:=gotC (c0U [by8 1] y14)) (G2:=gotC f0l) (YU:=fun q=>repC y14 q) (OkU:=fun q=>∃ a cap,q = .slice a 0 cap)
  (S1:=fun P W=>∃ p q x vb wb hb h g b G,St w.heap.size W P p q x vb wb hb h g b 3 G (newR 3) (List.replicate 3 []) (List.replicate 3 []) (List.replicate 3 []) []/\Below w.heap.size w W)
  (S2:=S2 w) (S3:=S3 w) (En:=fun W=>Below w.heap.size w W) (hid ?_) (hid ?_) (hid ?_) (hid ?_) (hid ?_) (hid ?_) (hid ?_) (hid ?_) (hid ?_) (hid ?_) (hid ?_)
  zeroSubV (hid (by rw [a0h x14_wf];rfl)) (hid (f0w _)) (hid (szSY x14_wf)) zeroRepV (a0j wfZeroR _) (hid sizeRep) (hid fun q=>a0j y14_wf q) (hid fun q hq=>c0I _ _ (by obtain ⟨a,c,rfl⟩:=hq;rfl)) (hid fun q=>⟨_,rfl⟩) zeroGot (b0M zeroT_wf) (b0M gw) (hid (e0q _)) (hid (szGY gw)) (b0M zeroT_wf) (hid (e0q _)) (hid (szGY zeroT_wf)) (hid rfl) (hid rfl)
 ·refine (r0q 3 (by decide) hK hT).mono ?_
  rintro e w' ⟨P,p,q,x,vb,wb,hb,h,g,b,G,rfl,h1,h2⟩;exact ⟨P,rfl,p,q,x,vb,wb,hb,h,g,b,G,h1,h2⟩
 ·rintro P W ⟨p,q,x,vb,wb,hb,h,g,b,G,s,B⟩
  have hE:=j0m s (c:=1) (by decide) 0 0 ⟨by decide,by decide⟩ [118] (by decide) (fun j=>by rw [rep3];exact Nat.zero_le _) (fun j=>by rw [rep3];exact Nat.zero_le _) (by decide);rw [show ((1:Nat):Int)=1 from rfl,w0Y] at hE;refine hE.mono ?_;rintro e w' ⟨rfl,hk,L',-,s'⟩;have hBW:=B.size;obtain ⟨l1,l2,l3,l4,l5,l6⟩:=s'.low;obtain ⟨o1,o2,o3,o4,o5⟩:=s'.o1 b (by simp);have hp:=s'.o1 p (by simp);have hh:=s'.o1 h (by simp);have hg:=s'.o1 g (by simp);have hlt:=s'.old;have t1:=hlt P (by simp);have t2:=hlt p (by simp);have t3:=hlt h (by simp);have t4:=hlt g (by simp);have t5:=hlt b (by simp);refine ⟨rfl,p,x,⟨B.trans (hk.below (fun y hy=>by simp only [List.mem_cons,List.not_mem_nil,or_false] at hy;rcases hy with rfl | rfl <;> omega) hBW),⟨_,_,_,_,s'.row⟩,⟨G,h,g,b,L',s'.regs,s'.ring,⟨(fun hm=>by have:=o5 b hm;omega),s'.out.1⟩,fun y hy=>?_,⟨by omega,by omega,t1,t2,t3,t4,t5⟩⟩⟩⟩;have a1:=l6 y hy;have a2:=hlt y (Or.inr hy);exact ⟨a1,by omega,a2,hp.2.2.2.2 y hy,hh.2.2.2.2 y hy,hg.2.2.2.2 y hy⟩
 ·rintro P p x hi W W' ⟨l,⟨q1,q3,q4,q5,rw'⟩,⟨G,h,g,b,L,ry,r,c1,c2,c3⟩⟩ hb
  exact ⟨l.trans (hb.mono l.size),⟨q1,q3,q4,q5,a0a rw' hb⟩,⟨G,h,g,b,L,ry.kept hb,r.kept hb,c1,c2,c3⟩⟩
 ·rintro P p x hi W ⟨l,hr,-⟩
  exact hr
 ·rintro P p x hi W ⟨l,⟨q1,q3,q4,q5,rP⟩,⟨G,h,g,b,L,ry,r,⟨c1,c1'⟩,c2,c3⟩⟩
  refine (f0Y ry (c:=1) (X:=x14) x14_wf).mono ?_;rintro e w' ⟨u,G',rfl,-,hp,hk,-⟩;have hy:=w0U (tagB sd (1,1,askB 1 ⟨1,1,1,[118],a0n,a0n⟩)) (tagB sd (1,2,numB 1++layT [118]));have he:=t0P (tagB sd (1,1,askB 1 ⟨1,1,1,[118],a0n,a0n⟩)) (tagB sd (1,2,numB 1++layT [118]));have hy':subY (newR 3) 1 x14=y14:=hy;have he':subE (newR 3) 1 x14=0:=he;rw [hy',he'];rw [hy'] at hp;obtain ⟨a,cap,hu,-⟩:=hp;have bk:Book w' b L:=r.ring.book.at (hk.block b r.ring.book.lt c1);refine ⟨u,rfl,⟨a,cap,hu⟩,⟨l.trans (hk.below (fun y hy=>(c2 y hy).1) l.size),⟨q1,_,q3,q4,q5,hk.row rP c1'⟩,⟨h,g,b,L,n0Y r hk (fun y hy=>(c2 y hy).2.1) (fun e=>by have:=c2 _ e;omega) (fun e=>by have:=c2 _ e;omega) (fun e=>by have:=c2 _ e;omega) bk,c3⟩⟩,hk.size,fun k o hik ho=>hk.row ho (fun e=>by have:=c2 _ e;omega)⟩
 ·rintro P p hi W W' ⟨l,⟨q1,q2,q3,q4,q5,rw'⟩,⟨h,g,b,L,r,c3⟩⟩ hb
  exact ⟨l.trans (hb.mono l.size),⟨q1,q2,q3,q4,q5,a0a rw' hb⟩,⟨h,g,b,L,r.kept hb,c3⟩⟩
 ·rintro P p hi B W W' ⟨l,⟨q1,q2,q3,q4,q5,rP⟩,⟨h,g,b,L,r,⟨d1,d2,d3,d4,d5,d6,d7⟩⟩⟩ hB hb
  exact ⟨hb.below l (by omega),⟨q1,q2,q3,q4,q5,hb.row rP (by omega)⟩,⟨h,g,b,L,u0J r (by omega) (by omega) (by omega) (by omega) (by omega) hb,⟨d1,d2,d3,d4,d5,d6,d7⟩⟩⟩
 ·rintro P p hi W ⟨l,hr,-⟩
  exact hr
 ·rintro P p hi W ⟨l,-,-⟩
  exact l
 ·rintro P p hi q W ⟨a,cap,rfl⟩ ⟨l,-,⟨h,g,b,L,r,-⟩⟩
  have hc:=i0f (me:=1) r.rg x14_wf w0X y14_wf w0V (⟨a,cap,rfl,fun h=>absurd rfl h⟩:a0g W (.slice a 0 cap) y14.pend) (by decide) (view:=[]) (by decide);rw [show chkG sd 3 1 [] x14 y14=c0U [by8 1] y14 from x0H,show chkE sd 3 1 [] x14 y14=0 from w0Z] at hc;exact hc
 ·rintro P p hi q W ⟨a,cap,rfl⟩ ⟨l,-,⟨h,g,b,L,r,-⟩⟩
  have hc:=i0f (me:=1) r.rg x14_wf w0X (y:=y15) y15_wf w0W (⟨a,cap,rfl,fun h=>absurd rfl h⟩:a0g W (.slice a 0 cap) y15.pend) (by decide) (view:=[]) (by decide);rw [show chkG sd 3 1 [] x14 y15=f0l from x0I,show chkE sd 3 1 [] x14 y15=2 from x0b] at hc;exact hc
end
end Go.Proofs.YtagmnmoaekbffaaGreatDoor.Ms
