/-
  law14.awake: what must come at any rate comes.
-/
import Derived.Test.YthkkjjlpahdagaaGreatDoorTvaw
import Derived.Test.YthkkjjlpahdagaaGreatDoorS15
set_option maxHeartbeats 8000000
namespace Go.Proofs.YthkkjjlpahdagaaGreatDoor.Ms
open Go Go.RowKit
set_option maxRecDepth 100000
section
variable {w w':World} {p h g b n:Nat} {s:List UInt8} {L L':List Ent} {F:List Nat}
theorem var_kp {i:Nat} {nm:String} {cs:Array Value} (hg:Tryz.prog.globalNamed nm=some i) (hi:i ∉ F) (hl:i < w.heap.size) (hv:w.var? Tryz.prog nm=some cs) (hk:Kp F w w'):w'.var? Tryz.prog nm=some cs:=by
 unfold World.var? at *
 rw [hg] at *
 simp only [Option.bind_some] at *
 rw [hk.block i hl hi]
 exact hv
theorem rgl_kp (r:RgL w p h g b s n L) (hk:Kp F w w') (hF:∀ y ∈ F,6 ≤ y) (hp:p ∉ F) (hh:h ∉ F) (hg:g ∉ F) (hb:Book w' b L'):RgL w' p h g b s n L':=by
 have hs:=tabs_size r.tb
 refine ⟨r.n2,r.n8,⟨hk.row r.ring.obj hp,hk.row r.ring.var hh,hk.row r.ring.keys hg,hb⟩,?_,?_⟩
 ·obtain ⟨t,fr,h0⟩:=r.kt
  exact ⟨t,fr,(hk.block 0 (by omega) (fun e=>by have:=hF 0 e;omega)).trans h0⟩
 ·obtain ⟨h1,tp,q,h2⟩:=r.tb
  exact ⟨var_kp Lay.gPow (fun e=>by have:=hF _ e;omega) (by omega) h1 hk,tp,q,var_kp Lay.gRange (fun e=>by have:=hF _ e;omega) (by omega) h2 hk⟩
end
def sd:List UInt8:=[115,101,101,100]
def x14:Sub:=⟨1,1,1,[118],tagB sd (1,1,askB 1 ⟨1,1,1,[118],zeroD,zeroD⟩),tagB sd (1,2,numB 1++layT [118])⟩
def y14:Rep:=⟨1,-1,[],zeroD,[],0,[],zeroD,[],zeroD⟩
def y15:Rep:=⟨2,-1,[],zeroD,[],0,[],zeroD,[],zeroD⟩
theorem x14_wf:x14.Wf:=⟨tagB_len _ _,tagB_len _ _⟩
theorem y14_wf:y14.Wf:=⟨rfl,rfl,rfl,fun p hp=>by cases hp⟩
theorem y15_wf:y15.Wf:=⟨rfl,rfl,rfl,fun p hp=>by cases hp⟩
theorem may_x14 (a d:List UInt8):mayB (subM 1 ⟨1,1,1,[118],a,d⟩)=true:=by kernel_rfl
theorem may_y14:mayB (repM y14)=true:=by kernel_rfl
theorem subE14 (a d:List UInt8):subE (newR 3) 1 ⟨1,1,1,[118],a,d⟩=0:=by
 have hok:subOk (newR 3) 1 ⟨1,1,1,[118],a,d⟩=true:=by unfold subOk;rw [may_x14];rfl
 unfold subE
 rw [hok]
 rfl
theorem subY14 (a d:List UInt8):subY (newR 3) 1 ⟨1,1,1,[118],a,d⟩=y14:=by
 have h:=subE14 a d
 unfold subY
 rw [h]
 rfl
theorem ask14 (a d:List UInt8):askOk 3 1 [] ⟨1,1,1,[118],a,d⟩=true:=by
 unfold askOk vsub
 rw [may_x14]
 rfl
theorem ans14 (a d:List UInt8):ansOk ⟨1,1,1,[118],a,d⟩ y14=true:=by
 unfold ansOk
 rw [may_y14]
 rfl
theorem ans15 (a d:List UInt8):ansOk ⟨1,1,1,[118],a,d⟩ y15=false:=by
 unfold ansOk
 have:((2:Int) == 1)=false:=rfl
 show (mayB (repM y15) && ((2:Int) == 1))=false
 rw [this,Bool.and_false]
theorem zeroSubV:(Tryz.prog.info? 39).map (·.zero)=some (some (.agg (subC zeroS).toArray)):=by kernel_rfl
theorem zeroRepV:(Tryz.prog.info? 42).map (·.zero)=some (some (.agg (repC zeroR (.slice none 0 0)).toArray)):=by kernel_rfl
theorem rng14y:RepRng y14:=⟨⟨by decide,by decide⟩,⟨by decide,by decide⟩,⟨by decide,by decide⟩,fun p hp=>by cases hp⟩
theorem rng15y:RepRng y15:=⟨⟨by decide,by decide⟩,⟨by decide,by decide⟩,⟨by decide,by decide⟩,fun p hp=>by cases hp⟩
theorem i1:I64 1:=⟨by show (-9223372036854775808:Int) ≤ 1;decide,by show (1:Int) ≤ _;decide⟩
theorem rng14:(subM 1 x14).Rng:=⟨i1,i1,i1,i1,i1,i64_zero,i64_zero,i64_zero,i64_zero,i64_zero,i64_zero,(fun n hn=>by cases hn),(fun p hp=>by cases hp)⟩
section
variable {w:World}
structure S2 (w:World) (P p x hi:Nat) (W:World):Prop where
 low:Below w.heap.size w W
 row:∃ q1 q3 q4 q5,W.heap[P]? = some (.cells #[pt p 0,q1,pt x 0,q3,q4,q5] 68)
 all:∃ G h g b L,RY W x G (newR 3)∧RgL W p h g b sd 3 L∧(b ∉ G∧P ∉ G)∧(∀ y ∈ G,w.heap.size ≤ y∧6 ≤ y∧y < hi∧p < y∧h < y∧g < y)∧(6 ≤ hi∧w.heap.size ≤ hi∧P < hi∧p < hi∧h < hi∧g < hi∧b < hi)
structure S3 (w:World) (P p hi:Nat) (W:World):Prop where
 low:Below w.heap.size w W
 row:∃ q1 q2 q3 q4 q5,W.heap[P]? = some (.cells #[pt p 0,q1,q2,q3,q4,q5] 68)
 all:∃ h g b L,RgL W p h g b sd 3 L∧(6 ≤ hi∧w.heap.size ≤ hi∧P < hi∧p < hi∧h < hi∧g < hi∧b < hi)
theorem build_sub3 (W:World):(Instr.build 39 #[(0,nu 1),(1,nu 1),(2,nu 1)]).run Tryz.prog W = .ok (.agg (subC ⟨1,1,1,[],zeroD,zeroD⟩).toArray) W:=by kernel_rfl
theorem noteL_one (e:Ent):(noteL [] e).length < 1000000:=by
 have:(noteL [] e).length ≤ 1:=by unfold noteL;split <;> simp
 omega
theorem len14a:(askB 1 ⟨1,1,1,[118],zeroD,zeroD⟩).length ≤ 16384:=by
 have h1:=numB_len 1 ⟨by decide,by decide⟩
 unfold askB
 simp only [List.length_append]
 omega
theorem len14d:(numB 1++layT [118]).length ≤ 16384:=by
 have h1:=numB_len 1 ⟨by decide,by decide⟩
 have h2:=Lay.nDigits_le20 1 (by decide)
 have e:layT [118]=Lib.decDigits 1++[58]++[118]:=rfl
 rw [e]
 simp only [List.length_append,Lib.decDigits_length,List.length_cons,List.length_nil]
 omega
theorem submit14 {P p q x hb vb h g b:Nat} {G:List Nat} {W:World} (PL:PlAt W P p q x hb vb G (newR 3) [[],[],[]]) (r:RgL W p h g b sd 3 []) (hhb:hb ≠ b) (hPb:P ≠ b) (hb6:6 ≤ hb) (hbb6:6 ≤ b) (hlt:p < hb∧h < hb∧g < hb) :
  Calls Tryz.prog 14 #[pt P 0,.agg #[nu 0,nu 1,nu 0,st [118]]] W fun e w'=>e = .returned (.agg (subC x14).toArray)∧∃ L',Book w' b L'∧Kp [b,hb] W w':=by
 obtain ⟨u7,rP⟩:=PL.row
 have hPh:P ≠ hb:=typ_ne rP PL.held (by decide)
 have hPn:P ∉ [b,hb]:=by simp;omega
 have n1:p ≠ b:=r.ring.book.ne r.ring.obj
 have n2:h ≠ b:=r.ring.book.ne r.ring.var
 have n3:g ≠ b:=r.ring.book.ne r.ring.keys
 have lA:=tagB_len sd (1,1,askB 1 ⟨1,1,1,[118],zeroD,zeroD⟩)
 have lD:=tagB_len sd (1,2,numB 1++layT [118])
 have hF:∀ y ∈ [b,hb],6 ≤ y:=by intro y hy;simp at hy;omega
 have HRG:∀ (w':World) (L':List Ent),Kp [b,hb] W w'→Book w' b L'→RgL w' p h g b sd 3 L':=fun w' L' hk hbk=>rgl_kp r hk hF (by simp;omega) (by simp;omega) (by simp;omega) hbk
 have hl1:=noteL_one (1,1,askB 1 ⟨1,1,1,[118],zeroD,zeroD⟩)
 refine (submit_core (w:=W) (P:=P) (p:=p) (vb:=vb) (hb:=hb) (b:=b) (TA:=askB 1 ⟨1,1,1,[118],zeroD,zeroD⟩) (TD:=numB 1++layT [118]) (V0:=subC ⟨1,1,1,[],zeroD,zeroD⟩) (V1:=subC ⟨1,1,1,[118],zeroD,zeroD⟩) (V2:=subC x14) (D1:=dg (tagB sd (1,1,askB 1 ⟨1,1,1,[118],zeroD,zeroD⟩))) (D2:=dg (tagB sd (1,2,numB 1++layT [118]))) (ZD0:=dg zeroD) (Z:=subC zeroS) (A1:=[nu 1,nu 1,nu 1,st [118]]) (A2:=dg zeroD++dg zeroD) (L0:=[]) (L1:=noteL [] (1,1,askB 1 ⟨1,1,1,[118],zeroD,zeroD⟩)) (L2:=noteL (noteL [] (1,1,askB 1 ⟨1,1,1,[118],zeroD,zeroD⟩)) (1,2,numB 1++layT [118]))
  (row_ltA PL.held) hhb zeroSubV (hid rfl) zeroDigY rfl (hid build_sub3) (hid rfl) (hid (one_sub _)) (hid (szSY ⟨rfl,rfl⟩)) (hid rfl) (hid rfl) (hid (szSY ⟨rfl,rfl⟩)) (hid rfl) (hid rfl)
  (hid fun V=>Hist.rcount_any [] (by decide) 1 V)
  (hid fun V hk=>row_zeroY (cs:=[pt p 0,pt q 0,pt x 0,sl vb 3,u7,sl hb 3]) (hk.row rP hPn) 0 _ rfl) (hid fun V hk=>row_zeroY (cs:=[pt p 0,pt q 0,pt x 0,sl vb 3,u7,sl hb 3]) (hk.row rP hPn) 3 _ rfl) (hid fun V hk=>row_zeroY (cs:=[pt p 0,pt q 0,pt x 0,sl vb 3,u7,sl hb 3]) (hk.row rP hPn) 5 _ rfl)
  (hid fun V hk=>row_zeroY (cs:=[st [],st [],st []]) (row_kept PL.views hk) 1 _ rfl) (hid PL.held) (hid r.ring.book)
  (hid fun V=>by have h:=rasked_any numOk 1 i1 ⟨1,1,1,[118],zeroD,zeroD⟩ ⟨rfl,rfl⟩ i1 i1 i1 V;rw [askB_ints] at h;exact h)
  (hid fun V=>by have h:=rnumbered_any digOk numOk 1 i1 [118] V;rw [numbered_lay] at h;exact h)
  (hid fun V hk hbk=>tag_d (HRG V [] hk hbk) 1 1 _ ⟨by decide,by decide,by decide,by decide,len14a⟩ (by decide))
  (hid fun V hk hbk=>tag_d (HRG V _ hk hbk) 1 2 _ ⟨by decide,by decide,by decide,by decide,len14d⟩ hl1)
  (by rw [dg_len];exact lA) (hid (one_dg _)) (hid (szDY lA)) (by rw [dg_len];exact lD) (hid (one_dg _)) (hid (szDY lD))
  (hid rfl) rfl (hid (by simp [subC,x14])) (by simp [dg_len,lA]) (subC_len x14_wf) (hid (one_sub _)) (hid (szSY x14_wf))).mono ?_
 rintro e w' ⟨rfl,h1,h2,-⟩
 exact ⟨rfl,_,h1,h2⟩
theorem vawake_any (hK:Ktab w) (hT:Lay.Tabs w):Calls Tryz.prog 7 #[] w fun e w'=>e = .returned (.bool true)∧Below w.heap.size w w':=by
 have h6:=tabs_size hT
 have gw:(learnG [by8 1] y14).Wf:=learnG_wf y14_wf
 refine vawake_core (V:=subC x14) (Z:=subC zeroS) (ZY:=repC zeroR (.slice none 0 0)) (ZG:=gotC zeroT) (G1:=gotC (learnG [by8 1] y14)) (G2:=gotC zeroT) (YU:=fun q=>repC y14 q) (OkU:=fun q=>∃ a cap,q = .slice a 0 cap)
  (S1:=fun P W=>∃ p q x hb vb G h g b,PlAt W P p q x hb vb G (newR 3) [[],[],[]]∧RgL W p h g b sd 3 []∧Below w.heap.size w W∧(w.heap.size ≤ b∧w.heap.size ≤ P∧w.heap.size ≤ hb∧∀ y ∈ G,w.heap.size ≤ y)∧(hb ≠ b∧b ∉ G∧P ≠ b∧vb ≠ b∧P ∉ G∧∀ y ∈ G,p < y∧h < y∧g < y∧b < y)∧(6 ≤ w.heap.size∧p < hb∧h < hb∧g < hb∧b < hb))
  (S2:=S2 w) (S3:=S3 w) (En:=fun W=>Below w.heap.size w W) (hid ?_) (hid ?_) (hid ?_) (hid ?_) (hid ?_) (hid ?_) (hid ?_) (hid ?_) (hid ?_) (hid ?_) (hid ?_)
  zeroSubV (hid (by rw [subC_len x14_wf];rfl)) (hid (one_sub _)) (hid (szSY x14_wf)) zeroRepV (repC_len wfZeroR _) (hid sizeRep) (hid fun q=>repC_len y14_wf q) (hid fun q hq=>one_rep _ _ (by obtain ⟨a,c,rfl⟩:=hq;rfl)) (hid fun q=>⟨_,rfl⟩) zeroGot (gotC_len zeroT_wf) (gotC_len gw) (hid (one_got _)) (hid (szGY gw)) (gotC_len zeroT_wf) (hid (one_got _)) (hid (szGY zeroT_wf)) (hid rfl) (hid rfl)
 ·refine (begun_any hK hT).mono ?_
  rintro e w' ⟨P,p,q,x,hb,vb,G,h,g,b,rfl,h1⟩
  exact ⟨P,rfl,p,q,x,hb,vb,G,h,g,b,h1⟩
 ·rintro P W ⟨p,q,x,hb,vb,G,h,g,b,PL,r,B,⟨e1,e2,e3,e4⟩,⟨f1,f2,f3,f4,f5,f6⟩,⟨-,g1,g2,g3,g4⟩⟩
  refine (submit14 PL r f1 f3 (by omega) (by omega) ⟨g1,g2,g3⟩).mono ?_
  rintro e w' ⟨rfl,L',bk,hk⟩
  obtain ⟨u7,rP⟩:=PL.row
  have hPh:P ≠ hb:=typ_ne rP PL.held (by decide)
  have n1:p ≠ b:=r.ring.book.ne r.ring.obj
  have n2:h ≠ b:=r.ring.book.ne r.ring.var
  have n3:g ≠ b:=r.ring.book.ne r.ring.keys
  have hsz:=hk.size
  have k1:=row_ltA rP
  have k2:=row_ltA PL.held
  have RY1:=PL.regs.kp hk (fun y hy=>by
   simp
   exact ⟨fun e=>f2 (e ▸ hy),fun e=>PL.ne (e ▸ hy)⟩)
  have hBW:=B.size
  refine ⟨rfl,p,x,⟨B.trans (hk.below (fun y hy=>by simp at hy;omega) hBW),⟨_,_,_,_,hk.row rP (by simp;omega)⟩,⟨G,h,g,b,L',RY1,rgl_kp r hk (fun y hy=>by simp at hy;omega) (by simp;omega) (by simp;omega) (by simp;omega) bk,⟨f2,f5⟩,fun y hy=>?_,⟨by omega,by omega,by omega,by omega,by omega,by omega,by omega⟩⟩⟩⟩
  have a1:=e4 y hy
  have a2:=f6 y hy
  have a3:=RY1.lt y hy
  omega
 ·rintro P p x hi W W' ⟨l,⟨q1,q3,q4,q5,rw'⟩,⟨G,h,g,b,L,ry,r,c1,c2,c3⟩⟩ hb
  exact ⟨l.trans (hb.mono l.size),⟨q1,q3,q4,q5,row_kept rw' hb⟩,⟨G,h,g,b,L,ry.kept hb,r.kept hb,c1,c2,c3⟩⟩
 ·rintro P p x hi W ⟨l,hr,-⟩
  exact hr
 ·rintro P p x hi W ⟨l,⟨q1,q3,q4,q5,rP⟩,⟨G,h,g,b,L,ry,r,⟨c1,c1'⟩,c2,c3⟩⟩
  refine (r12submit_any ry (c:=1) (X:=x14) x14_wf).mono ?_
  rintro e w' ⟨u,G',rfl,-,hp,hk,-⟩
  have hy:=subY14 (tagB sd (1,1,askB 1 ⟨1,1,1,[118],zeroD,zeroD⟩)) (tagB sd (1,2,numB 1++layT [118]))
  have he:=subE14 (tagB sd (1,1,askB 1 ⟨1,1,1,[118],zeroD,zeroD⟩)) (tagB sd (1,2,numB 1++layT [118]))
  have hy':subY (newR 3) 1 x14=y14:=hy
  have he':subE (newR 3) 1 x14=0:=he
  rw [hy',he']
  rw [hy'] at hp
  obtain ⟨a,cap,hu,-⟩:=hp
  have bk:Book w' b L:=r.ring.book.at (hk.block b r.ring.book.lt c1)
  refine ⟨u,rfl,⟨a,cap,hu⟩,⟨l.trans (hk.below (fun y hy=>(c2 y hy).1) l.size),⟨q1,_,q3,q4,q5,hk.row rP c1'⟩,⟨h,g,b,L,rgl_kp r hk (fun y hy=>(c2 y hy).2.1) (fun e=>by have:=c2 _ e;omega) (fun e=>by have:=c2 _ e;omega) (fun e=>by have:=c2 _ e;omega) bk,c3⟩⟩,hk.size,fun k o hik ho=>hk.row ho (fun e=>by have:=c2 _ e;omega)⟩
 ·rintro P p hi W W' ⟨l,⟨q1,q2,q3,q4,q5,rw'⟩,⟨h,g,b,L,r,c3⟩⟩ hb
  exact ⟨l.trans (hb.mono l.size),⟨q1,q2,q3,q4,q5,row_kept rw' hb⟩,⟨h,g,b,L,r.kept hb,c3⟩⟩
 ·rintro P p hi B W W' ⟨l,⟨q1,q2,q3,q4,q5,rP⟩,⟨h,g,b,L,r,⟨d1,d2,d3,d4,d5,d6,d7⟩⟩⟩ hB hb
  exact ⟨hb.below l (by omega),⟨q1,q2,q3,q4,q5,hb.row rP (by omega)⟩,⟨h,g,b,L,rgl_but r (by omega) (by omega) (by omega) (by omega) (by omega) hb,⟨d1,d2,d3,d4,d5,d6,d7⟩⟩⟩
 ·rintro P p hi W ⟨l,hr,-⟩
  exact hr
 ·rintro P p hi W ⟨l,-,-⟩
  exact l
 ·rintro P p hi q W ⟨a,cap,rfl⟩ ⟨l,-,⟨h,g,b,L,r,-⟩⟩
  exact check_first (me:=1) ⟨by decide,by decide⟩ r.rg x14_wf rng14 y14_wf rng14y (⟨a,cap,rfl,fun h=>absurd rfl h⟩:PensAt W (.slice a 0 cap) y14.pend) rfl rfl (ask14 _ _) (ans14 _ _) (by show (1:Int) ≠ 2;decide)
 ·rintro P p hi q W ⟨a,cap,rfl⟩ ⟨l,-,⟨h,g,b,L,r,-⟩⟩
  exact check_arg (me:=1) r.rg x14_wf rng14 (y:=y15) y15_wf rng15y (⟨a,cap,rfl,fun h=>absurd rfl h⟩:PensAt W (.slice a 0 cap) y15.pend) (by decide) (view:=[]) (by decide) (ask14 _ _) (ans15 _ _)
end
end Go.Proofs.YthkkjjlpahdagaaGreatDoor.Ms
