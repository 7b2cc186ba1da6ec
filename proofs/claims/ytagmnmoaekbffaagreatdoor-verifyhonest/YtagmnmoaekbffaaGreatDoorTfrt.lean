/- Tfrt -/
import Derived.Test.YtagmnmoaekbffaaGreatDoorTfrs
import Derived.Test.YtagmnmoaekbffaaGreatDoorS30
import Derived.Test.YtagmnmoaekbffaaGreatDoorU02
set_option maxHeartbeats 8000000
namespace Go.Proofs.YtagmnmoaekbffaaGreatDoor.Ms
open Go.Proofs.Tryz
open Go Go.RowKit
set_option maxRecDepth 100000
theorem RZ.putRowK {w w':World} {x bs br bv bt:Nat} {R:Rs} {ps:List RG} {vP:Value} {Y:List Nat} (h:RZ w x bs br bv bt R ps vP Y) {R':Rs} {vP':Value} (e1:R'.n=R.n) (e2:R'.regs=R.regs) (hv:RInv R') (hr:w'.heap[x]? = some (.cells (refC R' bs br bv bt vP').toArray 86)) (hb:Kp [x] w w') (hp:b0N w Y vP' R'.pend) :
  RZ w' x bs br bv bt R' ps vP' Y:=by
 obtain ⟨n1,n2,n3,n4,-⟩:=h.nes;have hY:∀ b ∈ Y,b ∉ [x]:=fun b hy hx=>h.away b hy (by rw [List.mem_singleton] at hx;simp [hx]);exact ⟨hv,hr,hb.row h.subs (by simpa using n1.symm),hb.row h.reps (by simpa using n2.symm),hb.row h.views (by simpa using n3.symm),hb.row h.tags (by simpa using n4.symm),by rw [e1,e2];exact h.regs,hp.kp hb hY,fun q hq=>(h.all q hq).kp hb hY,h.away⟩
theorem r0d (W:World) (n l:Int) (v c:List UInt8) (hc:c.length=32):(Instr.build 44 #[(0,nu n),(1,nu l),(2,st v),(3,.agg (dg c).toArray)]).run prog W = .ok (.agg (repC ⟨n,l,v,c,[],0,[],a0n,[],a0n⟩ (.slice none 0 0)).toArray) W:=by
 refine c0f x0n underlying44 zeroRepl (by kernel_rfl) repS rfl (g0o _ _ (by kernel_rfl)) [(0,[nu n],nu n),(1,[nu l],nu l),(2,[st v],st v),(3,dg c,.agg (dg c).toArray)] ?_ _ ?_
 ·intro x hx
  simp only [List.mem_cons,List.not_mem_nil,or_false] at hx;rcases hx with rfl | rfl | rfl | rfl
  ·exact ⟨rfl,_,rfl,rfl⟩
  ·exact ⟨rfl,_,rfl,rfl⟩
  ·exact ⟨rfl,_,rfl,rfl⟩
  ·exact ⟨rfl,_,rfl,by rw [a0e,hc];rfl⟩
 ·simp [repS,repC]
def w0I (R:Rs) (W7:World) (gY:Nat) (YA YC:List Value) (i:Value) (wr:World):Prop:=∃ (j:Nat) (v:Value),j <= R.pend.length/\i=nu j/\Hid (wr.heap[gY]? = some (.cells (YA++([v]++YC)).toArray 44))/\Hid (OwnP wr v ((a0M R).take j))/\Hid (∀ b,v.ownBlock=some b->W7.heap.size <= b)/\Hid (Kp [gY] W7 wr)
theorem n0O {R:Rs} {W7:World} {gY:Nat} {YA YC:List Value} {i:Value} {wr:World} (j:Nat) (v:Value) (h1:j <= R.pend.length) (h2:i=nu j) (h3:wr.heap[gY]? = some (.cells (YA++([v]++YC)).toArray 44)) (h4:OwnP wr v ((a0M R).take j)) (h5:∀ b,v.ownBlock=some b->W7.heap.size <= b) (h6:Kp [gY] W7 wr):w0I R W7 gY YA YC i wr:=⟨j,v,h1,h2,h3,h4,h5,h6⟩
theorem zeroPn:(prog.info? 57).map (·.zero)=some (some (.agg (penC c0Q).toArray)):=by kernel_rfl
theorem u0R {ops:Array Oper} {rest:List Oper} {o:Oper} {a:Act} {w:World} {Q:Exit->Act->World->Prop} (hg:o.guard=none) (x:Operand) (ho:o.op = .buildSlice 42 1 #[(0,x)]) (V:List Value) (hV:V.length=68) (hx:a.eval x = .agg V.toArray)
  (h:wpList prog ops Q rest (a.put o.dst (.slice (some ⟨w.heap.size,0,none⟩) 1 1)) (w.alloc (.cells V.toArray 57))):wpList prog ops Q (o :: rest) a w:=by
 have hs:=sizePen;have hz:=zeroPn
 cases hie:prog.info? 57 with
 | none=>simp [hie] at hs
 | some ie =>
  simp only [hie,Option.map_some,Option.some.injEq] at hs hz;have hz3:=zeroP_cells;have hfill:=Great.fill_whole (s:=68) (by omega) [Value.agg V.toArray] ((Array.range (1 * 68)).map ((Value.agg (penC c0Q).toArray).cells[· % (Value.agg (penC c0Q).toArray).cells.size]!)) (by intro v hv;simp at hv;subst hv;simpa [Value.cells] using hV) (by simp);have e1:(([Value.agg V.toArray].zipIdx 0).map fun x=>(x.2,x.1))=(#[(0,x)].map fun (i,x)=>(i,a.eval x)).toList:=by simp [hx]
  have e2:([Value.agg V.toArray].flatMap fun v=>v.cells.toList).toArray=V.toArray:=by simp [Value.cells]
  rw [e1,e2] at hfill;exact wpList_buildSlice hg 42 57 1 _ ho V.toArray ie _ underlying42 hie hz (by rw [hs];omega) (by rw [hs];omega) (by rw [hs];exact hfill) h
theorem r0e {R:Rs} (h:RInv R) {k:Nat} {X:Sub} (hx:X.Wf) (hok:c0R R (k:Int) X=true):RInv (setG R k { R.reg (k:Int) with asked:=X }):=by
 obtain ⟨h1,h2,h3,h4,h5⟩:=b0r hok;refine ⟨h.n,by simpa [setG] using h.len,fun g hg=>?_,h.long,h.ltag,h.who,h.plen,h.pend⟩;rcases e0m hg with hg | rfl
 ·exact h.regs g hg
 ·have hg:=h.reg (k:Int)
  exact ⟨hx,hg.ans,hg.tag,⟨by simp only;omega,h3.2⟩,h5,hg.view,hg.apend,hg.aview,hg.acl⟩
theorem r0f {s:Sub} (h:s.Wf) {j:Nat} {u:Value} (hj:(dg s.data)[j]? = some u):(subC s)[36 + j]? = some u:=by
 have e:subC s=([nu s.number,nu s.kind,nu s.target]++([st s.value]++dg s.asked))++dg s.data:=by simp [subC]
 have hl:([nu s.number,nu s.kind,nu s.target]++([st s.value]++dg s.asked)).length=36:=by simp [a0e,h.asked]
 rw [e,List.getElem?_append_right (by omega),hl,Nat.add_sub_cancel_left];exact hj
theorem l0A {w w':World} {base e size n:Nat} {v:Value} {xs:List Value} (h:w.ownsRow base e size v n xs) (hb:Below w.heap.size w w'):w'.ownsRow base e size v n xs:=by
 obtain ⟨h1,h2⟩:=h;refine ⟨h1,?_⟩;rcases h2 with h2 | ⟨g,cap,cur,rfl,h3,h4,h5⟩
 ·exact .inl h2
 ·exact .inr ⟨g,cap,cur,rfl,h3,a0a h4 hb,h5⟩
theorem r0g {w:World} {base e size n:Nat} {v:Value} {xs:List Value} (h:w.ownsRow base e size v n xs):w.ownsRow 0 e size v n xs:=by
 refine ⟨h.1,?_⟩;rcases h.2 with h0 | ⟨g,cap,cur,h1,-,h3⟩
 ·exact .inl h0
 ·exact .inr ⟨g,cap,cur,h1,Nat.zero_le _,h3⟩
theorem r0h {w:World} {base e size g:Nat} (hg:base <= g) (h:w.heap[g]? = some (.cells #[] e)):w.ownsRow base e size (.slice (some ⟨g,0,none⟩) 0 0) 0 [] :=
 ⟨by simp,.inr ⟨g,0,#[],rfl,hg,h,Nat.le_refl _,by unfold maxLen;omega,by simp,by simp⟩⟩
def vPd (B:Nat) (l:List Pen) (p:Pen) (L:Nat->Bool) (i:Nat) (v:Value) (w:World):Prop :=
 if i=1 then L 6=true ∨ (∃ g,v = .slice (some ⟨g,0,none⟩) 0 0/\B <= g/\w.heap[g]? = some (.cells #[] 57))
 else if i=6 then L 18=true ∨ w.ownsRow B 57 68 v l.length (c0S l)
 else if i=17 then L 18=true ∨ (∃ g,v = .slice (some ⟨g,0,none⟩) 1 1/\B <= g/\w.heap[g]? = some (.cells (penC p).toArray 57))
 else w.ownsRow B 57 68 v (l++[p]).length (c0S (l++[p]))
section
variable {B:Nat} {l:List Pen} {p:Pen} {L:Nat->Bool} {v:Value} {w:World}
theorem vPd1:vPd B l p L 1 v w ↔ (L 6=true ∨ (∃ g,v = .slice (some ⟨g,0,none⟩) 0 0/\B <= g/\w.heap[g]? = some (.cells #[] 57))):=by unfold vPd;simp
theorem vPd6:vPd B l p L 6 v w ↔ (L 18=true ∨ w.ownsRow B 57 68 v l.length (c0S l)):=by unfold vPd;simp
theorem r0i:vPd B l p L 17 v w ↔ (L 18=true ∨ (∃ g,v = .slice (some ⟨g,0,none⟩) 1 1/\B <= g/\w.heap[g]? = some (.cells (penC p).toArray 57))):=by unfold vPd;simp
theorem w0J:vPd B l p L 18 v w ↔ w.ownsRow B 57 68 v (l++[p]).length (c0S (l++[p])):=by unfold vPd;simp
theorem r0j {i:Nat} (hi:i ≠ 6) (hi':i ≠ 18) (j:Nat) (h:vPd B l p L j v w):vPd B l p (up L i) j v w:=by
 unfold vPd at h ⊢;rw [b0p hi,b0p hi'];exact h
theorem n0P {w':World} (hb:Below w.heap.size w w') (j:Nat) (h:vPd B l p L j v w):vPd B l p L j v w':=by
 by_cases e1:j=1
 ·subst e1
  rw [vPd1] at h ⊢;rcases h with h | ⟨g,h1,h2,h3⟩
  ·exact Or.inl h
  ·exact Or.inr ⟨g,h1,h2,a0a h3 hb⟩
 ·by_cases e6:j=6
  ·subst e6
   rw [vPd6] at h ⊢;exact h.imp id (fun h=>l0A h hb)
  ·by_cases e8:j=17
   ·subst e8
    rw [r0i] at h ⊢;rcases h with h | ⟨g,h1,h2,h3⟩
    ·exact Or.inl h
    ·exact Or.inr ⟨g,h1,h2,a0a h3 hb⟩
   ·unfold vPd at h ⊢
    rw [if_neg e1,if_neg e6,if_neg e8] at h ⊢;exact l0A h hb
end
theorem t0a {w w':World} {x:Nat} {G G':List Nat} {R:Rs} {c:Int} {X:Sub} {u:Value} (he:subE R c X=0) (hn:X.number ≠ (R.reg c).asked.number) (h:RY w' x G' (subN R c X)) (hp:a0g w' u (ansR R X).pend) (hk:Kp G w w') (hg:∀ b ∈ G',b ∈ G ∨ w.heap.size <= b) :
  RSub w x G R c X (.returned (.tuple #[.agg (repC (ansR R X) u).toArray,nu 0])) w':=by
 have e1:subY R c X=ansR R X:=by unfold subY;rw [if_neg (by rw [he];decide),if_neg hn]
 have e2:subR R c X=subN R c X:=by unfold subR;rw [if_neg (by rw [he];decide),if_neg hn]
 exact ⟨u,G',by rw [he,e1],by rw [e2];exact h,by rw [e1];exact hp,hk,hg⟩
theorem w0K {w:World} {x:Nat} {G:List Nat} {R:Rs} (h:RY w x G R) {k:Nat} {X:Sub} (hx:X.Wf) (hok:c0R R (k:Int) X=true) (h4:X.number=(R.reg (k:Int)).asked.number + 1) (h5:f0H R=false) :
  Calls prog 10 #[pt x 0,nu (k:Int),.agg (subC X).toArray] w (RSub w x G R (k:Int) X):=by
 have hcode:subE R (k:Int) X=0:=by unfold subE;rw [if_neg (by rw [hok];simp),if_neg (by omega),if_neg (by omega),if_neg (by rw [h5];simp)]
 obtain ⟨h1,h2,h3⟩:hasB R.n (k:Int)=true/\hasB R.n X.target=true/\mayB (subM (k:Int) X)=true:=by simpa [c0R,Bool.and_eq_true] using hok
 obtain ⟨hkn,-⟩:=b0r hok;have hkR:k < R.n:=by omega
 have B1:=hid (a0c w (.cells (subC X).toArray 40));have B2:=hid (a0b B1.out (a0c (w.alloc (.cells (subC X).toArray 40)) (.cells (repC a0p (.slice none 0 0)).toArray 44)));have T2:=hid (a0a (a0f w (.cells (subC X).toArray 40)) (a0c (w.alloc (.cells (subC X).toArray 40)) (.cells (repC a0p (.slice none 0 0)).toArray 44)));have U2:=hid (a0f (w.alloc (.cells (subC X).toArray 40)) (.cells (repC a0p (.slice none 0 0)).toArray 44));have e1:(w.alloc (.cells (subC X).toArray 40)).heap.size=w.heap.size + 1:=Array.size_push _;rw [e1] at U2;have H2:=hid (h.kept B2.out);have ZR:=zeroRep;have IZ:(prog.info? 44).map (·.size)=some (repC a0p (.slice none 0 0)).length:=by rw [a0j wfZeroR];exact sizeRep
 have OZ:=hid (c0I a0p (.slice none 0 0) rfl);have HBd:=hid d0i;have ZS:(prog.info? 40).map (·.size)=some (subC X).length:=by rw [a0h hx];exact sizeSub
 have SX:=hid (a0s (off:=0) (A:=[]) (cs:=subC X) (C:=[]) T2.out (by simp) rfl);have cx:=a0O T2.out hx;have HBm:=hid (fun W=>c0g W (k:Int) X hx);have HMy:=hid (rmay (vP:=.slice none 0 0) (vN:=.slice none 0 0) (g0F (c:=(k:Int)) hx) a0r (a0g.nil ((w.alloc (.cells (subC X).toArray 40)).alloc (.cells (repC a0p (.slice none 0 0)).toArray 44))) (a0w.nil _) ⟨Nat.zero_le _,Nat.zero_le _⟩ (Or.inl rfl));have HI1:=hid (fun (W:World) (hb:Below ((w.alloc (.cells (subC X).toArray 40)).alloc (.cells (repC a0p (.slice none 0 0)).toArray 44)).heap.size ((w.alloc (.cells (subC X).toArray 40)).alloc (.cells (repC a0p (.slice none 0 0)).toArray 44)) W)=>a0F (H2.out.kept hb) (k:Int));have HI2:=hid (fun (W:World) (hb:Below ((w.alloc (.cells (subC X).toArray 40)).alloc (.cells (repC a0p (.slice none 0 0)).toArray 44)).heap.size ((w.alloc (.cells (subC X).toArray 40)).alloc (.cells (repC a0p (.slice none 0 0)).toArray 44)) W)=>a0F (H2.out.kept hb) X.target);obtain ⟨bs,br,bv,bt,ps,vP,Y,hz,hG1,hG2⟩:=h;have HZ2:=hid (hz.kept B2.out);obtain ⟨AN,HAN⟩:∃ AN,Hid (AN=(R.reg (k:Int)).asked.number):=⟨_,rfl⟩;obtain ⟨XN,HXN⟩:∃ XN,Hid (XN=X.number):=⟨_,rfl⟩;have HX:=hid hx;rw [h3] at HMy;rw [h1] at HI1;rw [h2] at HI2;have hd:(XN == AN)=false:=beq_false_of_ne (by rw [HXN.out,HAN.out,h4];omega);have hanb:=(hz.inv.reg (k:Int)).num;rw [← HAN.out] at hanb;obtain ⟨pa,pcap,hvP,hpcap,-⟩:=hz.pens;have HVP:=hid hvP;clear hvP;have hl1:=hz.inv.long;have hl2:=hz.inv.plen
 have hd2:(XN != AN + 1)=false:=by
  have e:XN=AN + 1:=by rw [HXN.out,HAN.out];exact h4
  rw [e];exact bne_self_eq_false _
 have hfu:R.long.length + R.pend.length < 512/\R.pend.length < 8:=by simpa [f0H] using h5
 have f1:decide ((512:Int) <= (R.long.length:Int) + (R.pend.length:Int))=false:=decide_eq_false (by omega);have f2:decide ((8:Int) <= (R.pend.length:Int))=false:=decide_eq_false (by omega);have f2':decide (8 <= R.pend.length)=false:=decide_eq_false (by omega);have HCode:=hid hcode;have HH4:=hid h4;have HOk:=hid hok;have HI0:=hid hz.inv;have HFu:=hid h5;have HG1:=hid hG1;have HG2:=hid hG2;have LZ:(repC a0p (.slice none 0 0)).length=103:=a0j wfZeroR _;clear hcode h1 h2 h3 hok hkn h4 h5 hz hG1 hG2 hx;show Calls _ _ _ _ (fun e w'=>RSub w x G R (k:Int) X e w');generalize msgC (subM (k:Int) X) (.slice none 0 0) (.slice none 0 0)=MV at *;generalize repC a0p (.slice none 0 0)=Z at *;obtain ⟨V,HV⟩:∃ V,Hid (V=subC X):=⟨_,rfl⟩;rw [← HV.out] at B1 B2 T2 U2 H2 e1 ZS SX cx HBm HMy HI1 HI2 HZ2 ⊢;have hgs:w.heap.size < w.heap.size + 1:=Nat.lt_succ_self _;go_enter func10,ntmps10;go_upto_region 1 with (first | ((with_reducible refine a0G 44 ?_ ?_ Z.toArray ZR ?_);exact rfl;exact rfl))
 generalize w.alloc (.cells V.toArray 40)=W1 at *;generalize W1.alloc (.cells Z.toArray 44)=W2 at *
 try simp only [Act.put,List.setIfInBounds_toArray,List.set_cons_zero,List.set_cons_succ,e1]
 clear e1;have HU2:Hid (W2.heap[w.heap.size + 1]? = some (.cells ([]++(Z++[])).toArray 44)):=d0d U2.out;clear U2;generalize hgA:w.heap.size + 1=gA at *;obtain ⟨gX,hgX⟩:∃ gX,gX=w.heap.size:=⟨_,rfl⟩;rw [← hgX] at SX cx T2 ⊢;have HgX:=hid hgX;clear hgX
 go_wp2_with (first
  | ((with_reducible refine a0d 40 (.tmp 5) ?_ gX 0 ?_ ?_ V _ SX.out underlying40 ?_ ZS ?_);iterate 4 exact rfl)
  | ((with_reducible refine b0t 80 [(0,.const (nu 1)),(1,.tmp 12),(2,.tmp 13)] ?_ ?_ MV.toArray ?_ ?_);exact rfl;exact rfl;exact (HBm.out _)))
 refine HMy.out.mono ?_;rintro e W3 ⟨rfl,hb3⟩;have A3:=hid hb3;have B3:Hid (Below w.heap.size w W3):=a0b B2.out hb3;have U3:=hid (a0a HU2.out hb3);have T3:=hid (a0a T2.out hb3);clear hb3 HBm
 go_wp2_with fail
 refine (HI1.out _ A3.out).mono ?_;rintro e w1 ⟨rfl,hw1⟩;subst w1;have cx3:W3.cell? ⟨gX,2,none⟩=some (nu X.target):=e0r cx A3.out
 go_wp2_with fail
 refine (HI2.out _ A3.out).mono ?_;rintro e w1 ⟨rfl,hw1⟩;subst w1;have HZ3:=hid (HZ2.out.kept A3.out);have c1:=HZ3.out.cS;have c2:W3.cell? ⟨bs,k * 68,none⟩=some (nu AN):=by rw [HAN.out];exact HZ3.out.sub hkR 0 _ rfl
 have c3:W3.cell? ⟨gX,0,none⟩=some (nu XN):=by rw [HXN.out];exact a0N (by rw [← HV.out];exact T3.out) HX.out
 unfold sl at c1
 go_wp2_with fail
 go_quiet (fail)
 have D3:Hid (Below W3.heap.size W3 (W3.drewN nq)):=c0P (Below.refl _ _) _;generalize W3.drewN nq=W4 at *;have HZ4:=hid (HZ3.out.kept D3.out);have B4:=hid (a0b B3.out D3.out);have U4:=hid (a0a U3.out D3.out);have T4:=hid (a0a T3.out D3.out);clear c1 c2 c3;have c1:=HZ4.out.cS;have c2:W4.cell? ⟨bs,k * 68,none⟩=some (nu AN):=by rw [HAN.out];exact HZ4.out.sub hkR 0 _ rfl
 have c3:W4.cell? ⟨gX,0,none⟩=some (nu XN):=by rw [HXN.out];exact a0N (by rw [← HV.out];exact T4.out) HX.out
 unfold sl at c1
 go_wp2_with fail
 go_quiet (fail)
 have D4:Hid (Below W4.heap.size W4 (W4.drewN nq)):=c0P (Below.refl _ _) _;generalize W4.drewN nq=W5 at *;have HZ5:=hid (HZ4.out.kept D4.out);have B5:=hid (a0b B4.out D4.out);have U5:=hid (a0a U4.out D4.out);have T5:=hid (a0a T4.out D4.out);clear c1 c2 c3;have c4:=HZ5.out.cL;have c5:=HZ5.out.cP;rw [HVP.out] at c5
 go_wp2_with fail
 go_quiet (fail)
 have D5:Hid (Below W5.heap.size W5 (W5.drewN nq)):=c0P (Below.refl _ _) _;generalize W5.drewN nq=W6 at *;have B6:=hid (a0b B5.out D5.out);have U6:=hid (a0a U5.out D5.out);have T6:=hid (a0a T5.out D5.out);have Z6:=hid (HZ5.out.kept D5.out);clear c4 c5 f1 f2 f2' HZ5 HZ4 HZ3 B5 B4 B3 U5 U4 U3 T5 T4 T3 D5 D4 D3;obtain ⟨WH,HWH⟩:∃ WH,Hid (WH=R.who):=⟨_,rfl⟩;obtain ⟨LO,HLO⟩:∃ LO,Hid (LO=R.long):=⟨_,rfl⟩;obtain ⟨LT,HLT⟩:∃ LT,Hid (LT=dg R.ltag):=⟨_,rfl⟩;obtain ⟨RP,HRP⟩:∃ RP,Hid (RP=repC ⟨XN,WH,LO,R.ltag,[],0,[],a0n,[],a0n⟩ (.slice none 0 0)):=⟨_,rfl⟩;have KX:=hid (fun (W:World) (hb:Below W6.heap.size W6 W)=>(by rw [HXN.out];exact a0N (by rw [← HV.out];exact a0a T6.out hb) HX.out:W.cell? ⟨gX,0,none⟩=some (nu XN)));have KW:=hid (fun (W:World) (hb:Below W6.heap.size W6 W)=>(by rw [HWH.out];exact (Z6.out.kept hb).cW:W.cell? ⟨x,4,none⟩=some (nu WH)));have KL:=hid (fun (W:World) (hb:Below W6.heap.size W6 W)=>(by rw [HLO.out];exact (Z6.out.kept hb).cL:W.cell? ⟨x,5,none⟩=some (st LO)));have KT:=hid (fun (W:World) (hb:Below W6.heap.size W6 W)=>(by rw [HLT.out];exact (Z6.out.kept hb).cG:∀ j u,LT[j]? = some u->W.cell? ⟨x,6 + j,none⟩=some u));have hlt32:=HI0.out.ltag;have ZLT:(prog.info? 38).map (·.size)=some LT.length:=by rw [HLT.out,a0e,hlt32];exact sizeDig
 have HBn:=hid (fun W=>(by rw [HRP.out,HLT.out];exact r0d W XN WH LO R.ltag hlt32:(Instr.build 44 #[(0,nu XN),(1,nu WH),(2,st LO),(3,.agg LT.toArray)]).run prog W = .ok (.agg RP.toArray) W));have LRP:RP.length=103:=by rw [HRP.out];exact a0j ⟨hlt32,rfl,rfl,fun p hp=>by cases hp⟩ _
 have ZRP:(prog.info? 44).map (·.size)=some RP.length:=by rw [LRP];exact sizeRep
 have ORP:Hid (∀ v ∈ RP,v.oneCell' = true):=by rw [HRP.out];exact c0I _ _ rfl
 go_wp2_with fail
 refine k0a (N:=223) 15 16 8 44 103 RP [pt gX (0 + 0),nu XN,pt x 0,pt x 0,pt x (0 + 4),nu WH,pt x 0,pt x 0,pt x (0 + 5),st LO,pt x 0,pt x 0,pt x (0 + 6),.agg LT.toArray,.agg RP.toArray,undef,undef] (fun g=>[(93,pt gX 0),(94,nu XN),(95,pt x 0),(96,pt x 0),(97,pt x 4),(98,nu WH),(99,pt x 0),(100,pt x 0),(101,pt x 5),(102,st LO),(103,pt x 0),(104,pt x 0),(105,pt x 6),(106,.agg LT.toArray),(107,.agg RP.toArray),(8,pt g 0)]) (by kernel_rfl) (by kernel_rfl) rfl (by kernel_rfl) (by decide) (by simp) (fun g=>by kernel_rfl) ?_ ?_
 ·intro i o ho
  match i,ho with
  | 0,ho=>cases ho;exact d0I (pt gX (0 + 0)) (by decide) (by decide) rfl (fun L b w' hB hw hk hv K h=>b0C 5 _ 0 gX 0 0 rfl (fun W=>t0I _ _ W) (hk 5 (by kernel_rfl)) h)
  | 1,ho=>cases ho;exact d0I (nu XN) (by decide) (by decide) rfl (fun L b w' hB hw hk hv K h=>a0A _ (.tmp 93) rfl gX (0 + 0) (hv 0 93 (by kernel_rfl) (by decide) (by kernel_rfl)) (nu XN) _ (KX.out w' hB) underlying3 rfl h)
  | 2,ho=>cases ho;exact d0I (pt x 0) (by decide) (by decide) rfl (fun L b w' hB hw hk hv K h=>a0q 0 _ rfl (hk 0 (by kernel_rfl)) h)
  | 3,ho=>cases ho;exact d0I (pt x 0) (by decide) (by decide) rfl (fun L b w' hB hw hk hv K h=>c0m 95 x 0 rfl (hv 2 95 (by kernel_rfl) (by decide) (by kernel_rfl)) h)
  | 4,ho=>cases ho;exact d0I (pt x (0 + 4)) (by decide) (by decide) rfl (fun L b w' hB hw hk hv K h=>b0C 96 _ 4 x 0 4 rfl (fun W=>w0n _ _ W) (hv 3 96 (by kernel_rfl) (by decide) (by kernel_rfl)) h)
  | 5,ho=>cases ho;exact d0I (nu WH) (by decide) (by decide) rfl (fun L b w' hB hw hk hv K h=>a0A _ (.tmp 97) rfl x (0 + 4) (hv 4 97 (by kernel_rfl) (by decide) (by kernel_rfl)) (nu WH) _ (KW.out w' hB) underlying3 rfl h)
  | 6,ho=>cases ho;exact d0I (pt x 0) (by decide) (by decide) rfl (fun L b w' hB hw hk hv K h=>a0q 0 _ rfl (hk 0 (by kernel_rfl)) h)
  | 7,ho=>cases ho;exact d0I (pt x 0) (by decide) (by decide) rfl (fun L b w' hB hw hk hv K h=>c0m 99 x 0 rfl (hv 6 99 (by kernel_rfl) (by decide) (by kernel_rfl)) h)
  | 8,ho=>cases ho;exact d0I (pt x (0 + 5)) (by decide) (by decide) rfl (fun L b w' hB hw hk hv K h=>b0C 100 _ 5 x 0 5 rfl (fun W=>w0o _ _ W) (hv 7 100 (by kernel_rfl) (by decide) (by kernel_rfl)) h)
  | 9,ho=>cases ho;exact d0I (st LO) (by decide) (by decide) rfl (fun L b w' hB hw hk hv K h=>a0A _ (.tmp 101) rfl x (0 + 5) (hv 8 101 (by kernel_rfl) (by decide) (by kernel_rfl)) (st LO) _ (KL.out w' hB) underlying9 rfl h)
  | 10,ho=>cases ho;exact d0I (pt x 0) (by decide) (by decide) rfl (fun L b w' hB hw hk hv K h=>a0q 0 _ rfl (hk 0 (by kernel_rfl)) h)
  | 11,ho=>cases ho;exact d0I (pt x 0) (by decide) (by decide) rfl (fun L b w' hB hw hk hv K h=>c0m 103 x 0 rfl (hv 10 103 (by kernel_rfl) (by decide) (by kernel_rfl)) h)
  | 12,ho=>cases ho;exact d0I (pt x (0 + 6)) (by decide) (by decide) rfl (fun L b w' hB hw hk hv K h=>b0C 104 _ 6 x 0 6 rfl (fun W=>w0p _ _ W) (hv 11 104 (by kernel_rfl) (by decide) (by kernel_rfl)) h)
  | 13,ho=>cases ho;exact d0I (.agg LT.toArray) (by decide) (by decide) rfl (fun L b w' hB hw hk hv K h=>c0u _ (.tmp 105) rfl x (0 + 6) (hv 12 105 (by kernel_rfl) (by decide) (by kernel_rfl)) LT _ (KT.out w' hB) underlying38 rfl ZLT h)
  | 14,ho =>
   cases ho
   refine d0I (.agg RP.toArray) (by decide) (by decide) rfl (fun L b w' hB hw hk hv K h=>?_);have e0:b.eval (.tmp 94)=nu XN:=hv 1 94 (by kernel_rfl) (by decide) (by kernel_rfl);have e1:b.eval (.tmp 98)=nu WH:=hv 5 98 (by kernel_rfl) (by decide) (by kernel_rfl);have e2:b.eval (.tmp 102)=st LO:=hv 9 102 (by kernel_rfl) (by decide) (by kernel_rfl);have e3:b.eval (.tmp 106) = .agg LT.toArray:=hv 13 106 (by kernel_rfl) (by decide) (by kernel_rfl);refine l0u 44 [(0,.tmp 94),(1,.tmp 98),(2,.tmp 102),(3,.tmp 106)] rfl (.agg RP.toArray) ?_ h;simp only [List.map_cons,List.map_nil,e0,e1,e2,e3];exact HBn.out w'
  | 15,ho=>cases ho;exact o0P rfl Z ZR LZ _ rfl (by kernel_rfl) (by decide)
  | 16,ho=>cases ho;exact o0Q 8 107 rfl rfl (by kernel_rfl) 14 (by kernel_rfl) (by decide) (by kernel_rfl) (by kernel_rfl) rfl LRP ORP.out ZRP
  | (i + 17),ho=>exact absurd ho (by simp)
 intro gY W7 hg7 hrow7 hb7;simp only [List.foldl_cons,List.foldl_nil,List.setIfInBounds_toArray,List.set_cons_zero,List.set_cons_succ];have Y7:=hid hrow7;have D6:=hid hb7;have HgY:=hid hg7;clear hrow7 hb7 hg7;go_upto_region 13 with fail
 have Z7:=hid (Z6.out.kept D6.out);have B7:=hid (a0b B6.out D6.out)
 have hgYn:Hid (∀ b ∈ [x,bs,br,bv,bt]++Y,b ∉ [gY]):=fun b hb hx=>by
  rw [List.mem_singleton] at hx;have h1:=HG2.out b (HG1.out b hb);have h2:=B6.out.size;have h3:=HgY.out;omega
 obtain ⟨YA,HYA⟩:∃ YA,Hid (YA = [nu XN,nu WH,st LO]++dg R.ltag):=⟨_,rfl⟩;obtain ⟨YC,HYC⟩:∃ YC,Hid (YC = [nu 0,st []]++(dg a0n++([st []]++dg a0n))):=⟨_,rfl⟩;have hYA:YA.length=35:=by rw [HYA.out,List.length_append,a0e,hlt32];rfl
 have R7:Hid (W7.heap[gY]? = some (.cells (YA++([Value.slice none 0 0]++YC)).toArray 44)):=by
  have e:=Y7.out;rw [HRP.out] at e;rw [HYA.out,HYC.out,List.append_assoc];exact e
 have hgYl:gY < W7.heap.size:=a0D Y7.out;have ZZP:=zeroPn;have LZP:(penC c0Q).length=68:=a0K ⟨rfl,rfl⟩;generalize penC c0Q=ZP at *;clear Y7 HBn KX KW KL KT ZLT ORP;go_loopw [9,10] (fun i _ wr=>w0I R W7 gY YA YC i wr) (fun i _ _=>R.pend.length - (intOf i).toNat)
 case atStart=>exact n0O 0 (.slice none 0 0) (Nat.zero_le _) rfl R7.out (by rw [List.take_zero];exact OwnP.nil _) (fun b hb=>by cases hb) (Kp.refl _ _)
 case round =>
  obtain ⟨j,v,hj,rfl,HR,HO,HVo,HK⟩:=hrel;have ZK:=hid (Z7.out.kp HK.out hgYn.out);have cP:wr.cell? ⟨x,38,none⟩=some (.slice pa R.pend.length pcap):=by rw [← HVP.out];exact ZK.out.cP
  by_cases hlt:j < R.pend.length
  ·have dl:decide ((j:Int) < (R.pend.length:Int))=true:=decide_eq_true (by omega)
   have dl':decide (j < R.pend.length)=true:=decide_eq_true hlt;have hpk:=HI0.out.pend _ (List.getElem_mem hlt);have hpe:b0N wr Y (.slice pa R.pend.length pcap) R.pend:=by rw [← HVP.out];exact ZK.out.pens
   obtain ⟨a',cap',ev,-,hat'⟩:=hpe
   cases ev
   obtain ⟨b,off,rfl,hbY,hcc⟩:=hat' (fun e=>by rw [e] at hlt;exact absurd hlt (Nat.not_lt_zero j))
   have SP:Hid (∀ i c,(penC R.pend[j])[i]? = some c->wr.cell? ⟨b,off + j * 68 + i,none⟩=some c):=by
    have e:=hcc j hlt;rw [List.getD_eq_getElem?_getD,List.getElem?_eq_getElem hlt] at e;exact e
   have HTk:Hid ((a0M R).take (j + 1)=(a0M R).take j++[{ R.pend[j] with proof:=(R.reg R.pend[j].client).tag }]):=by
    show _=_;rw [List.take_succ_eq_append_getElem (by rw [c0p];exact hlt)];simp [a0M]
   have htj:((a0M R).take j).length=j:=by rw [List.length_take,c0p];omega
   generalize R.pend[j]=pk at *;obtain ⟨cl,hcl⟩:∃ cl:Nat,pk.client=(cl:Int):=⟨pk.client.toNat,by have:=hpk.cl;omega⟩;have hclR:cl < R.n:=by have:=hpk.cl;omega
   have hTl:(dg (R.reg (cl:Int)).tag).length=32:=by rw [a0e];exact (HI0.out.reg (cl:Int)).tag
   have hPl:(dg pk.proof).length=32:=by rw [a0e];exact hpk.wf.proof
   have ZPk:(prog.info? 57).map (·.size)=some (penC pk).length:=by rw [a0K hpk.wf];exact sizePen
   have OPk:=hid (h0n pk);have LPk:ZP.length=(penC pk).length:=by rw [LZP,a0K hpk.wf]
   rw [hcl] at HTk;have DA:=hid (a0c wr (.cells (penC pk).toArray 57));have RA0:=hid (a0f wr (.cells (penC pk).toArray 57))
   go_upto_region 16 with (first
    | ((with_reducible refine a0d 57 (.tmp 122) ?_ b (off + j * 68) ?_ ?_ (penC pk) _ SP.out underlying57 ?_ ZPk ?_);iterate 4 exact rfl)
    | ((with_reducible refine a0G 57 ?_ ?_ ZP.toArray ZZP ?_);exact rfl;exact rfl)
    | ((with_reducible refine a0v 57 (.tmp 10) (.tmp 123) ?_ ?_ ?_ ?_ (penC pk) ZP ?_ 57 LPk OPk.out ZPk ?_);exact rfl;iterate 4 exact rfl))
   generalize wr.alloc (.cells (penC pk).toArray 57)=WA at *;have hgp:gY < wr.heap.size:=a0D HR.out;have hszK:=HK.out.size;obtain ⟨gp,HGP⟩:∃ gp,Hid (gp=wr.heap.size):=⟨_,rfl⟩;rw [← HGP.out] at RA0 ⊢;have ZA:=hid (ZK.out.kept DA.out);have DD:Hid (Below WA.heap.size WA (World.drew WA)):=⟨rfl,rfl,rfl,Nat.le_refl _,fun _ _=>rfl⟩;have ZD:=hid (ZA.out.kept DD.out);have cT:=ZD.out.cT;unfold sl at cT;have ST:=hid (ZD.out.tag hclR);have RD0:=hid (a0a RA0.out DD.out)
   have cC:(World.drew WA).cell? ⟨gp,0,none⟩=some (nu (cl:Int)):=by
    rw [← hcl];exact a0s (off:=0) (A:=[]) (cs:=penC pk) (C:=[]) RD0.out (by simp) rfl 0 _ rfl
   have RD:Hid ((World.drew WA).heap[gp]? = some (.cells (penH pk++(dg pk.proof++[])).toArray 57)):=by
    rw [List.append_nil,← l0t];exact RD0.out
   have hHl:=s0V hpk.wf;have ZT:(prog.info? 38).map (·.size)=some (dg (R.reg (cl:Int)).tag).length:=by rw [hTl];exact sizeDig
   have OT:=hid (d0h (R.reg (cl:Int)).tag);have hTP:(dg pk.proof).length=(dg (R.reg (cl:Int)).tag).length:=by rw [hTl,hPl]
   obtain ⟨pn,HPN⟩:∃ pn:Pen,Hid (pn = { pk with proof:=(R.reg (cl:Int)).tag }):=⟨_,rfl⟩
   have HPn:Hid (penH pk++dg (R.reg (cl:Int)).tag=penC pn):=by
    show _=_;rw [HPN.out,l0t];rfl
   have hpn:pn.Wf:=by
    rw [HPN.out];exact ⟨hpk.wf.asked,(HI0.out.reg (cl:Int)).tag⟩
   have ZPn:(prog.info? 57).map (·.size)=some (penC pn).length:=by rw [a0K hpn];exact sizePen
   rw [← HPN.out] at HTk;generalize dg (R.reg (cl:Int)).tag=TG at *;generalize dg pk.proof=PF at *;generalize penH pk=PH at *;refine wp_region_still_tail 9 (by kernel_rfl) (by kernel_rfl) ?_;simp only [List.take_succ_cons,List.take_zero,List.drop_succ_cons,List.drop_zero];change wpStill _ _ (World.drew WA) (fun a'=>wpList _ _ _ _ a' (World.drew WA)) _ _;generalize World.drew WA=WD at *
   iterate 7 still_step
   refine h0S 38 (.tmp 130) rfl bt (cl * 32) rfl rfl TG _ ST.out underlying38 rfl ZT ?_;simp only [Act.put,List.setIfInBounds_toArray,List.set_cons_zero,List.set_cons_succ]
   iterate 1 still_step
   refine wpStill_nil ?_;refine b0b 38 (.tmp 132) (.tmp 131) rfl rfl gp 36 rfl rfl PH TG PF [] rfl 57 RD.out hHl hTP OT.out ZT ?_;intro WE rE bE;rw [List.append_nil,HPn.out] at rE;have KE:Hid (Kp [gp] wr WE):=((Kp.of (X:=[gp]) DA.out).trans (Kp.of DD.out)).but bE (Or.inl (by simp))
   have hvp:∀ b,v.ownBlock=some b->b ∉ [gp]:=fun b hb hx=>by
    rw [List.mem_singleton] at hx;have h1:=OwnP.lt HO.out b hb;have h2:=HGP.out;omega
   have OE:=hid (HO.out.kp KE.out hvp);have gYE:=hid (KE.out.row HR.out (by rw [List.mem_singleton];have:=HGP.out;omega));have SE:=hid (a0s (off:=0) (A:=[]) (cs:=penC pn) (C:=[]) rE (by simp) rfl);have cv:WE.cell? ⟨gY,35,none⟩=some v:=a0l (A:=YA) (C:=YC) gYE.out rfl hYA;have DF:=hid (a0c WE (.cells (penC pn).toArray 57));have PF1:=hid (t0K hpn (a0f WE (.cells (penC pn).toArray 57)));have OF:=hid (OE.out.kp (X:=[]) (Kp.of DF.out) (fun _ _=>by simp));have gYF:=hid (a0a gYE.out DF.out);have KF:=hid (KE.out.trans (Kp.of DF.out));have hLn:=a0K hpn;have hlF:=a0D gYF.out;clear ST RD RD0 RA0 ZA ZD cT cC SP DA DD rE bE gYE KE OE cP dl dl' HO HR ZK hcc hat';generalize hWF:WE.alloc (.cells (penC pn).toArray 57)=WF at *;obtain ⟨v',WG,hrun,hO',hg',hb'⟩:=l0r (w:=WF) (v:=v) (x:=.slice (some ⟨WE.heap.size,0,none⟩) 1 1) (news:=[pn]) 42 OF.out PF1.out (by rw [htj];have:=HI0.out.plen;simp;omega)
   have hvY:v.ownBlock ≠ some gY:=fun e=>by
    have h1:=HVo.out gY e;omega
   have gYG:Hid (WG.heap[gY]? = some (.cells (YA++([v]++YC)).toArray 44)):=(hg'.block gY hlF (fun e=>hvY e.symm)).trans gYF.out;have hv1:v'.oneCell' = true:=hO'.one;have HRn:=hid hrun;have HO2:=hid hO';have HG2':=hid hg';have HB2:=hid hb';have HWF:=hid hWF;clear hrun hO' hg' hb' hWF
   go_upto_region 14 with (first
    | ((with_reducible refine a0d 57 (.tmp 10) ?_ gp 0 ?_ ?_ (penC pn) _ SE.out underlying57 ?_ ZPn ?_);iterate 4 exact rfl)
    | ((with_reducible refine u0R ?_ (.tmp 135) ?_ (penC pn) hLn ?_ ?_);exact rfl;exact rfl;exact rfl;rw [HWF.out])
    | (at_builtin;refine m0O rfl _ _ _ rfl _ _ rfl rfl v' WG HRn.out ?_)
    | ((with_reducible refine c0v 42 (.tmp 138) (.tmp 137) ?_ ?_ gY 35 ?_ ?_ YA YC v v' ?_ 44 gYG.out ?_ ?_ ?_ ?_);exact rfl;exact rfl;exact rfl;exact rfl;exact rfl;exact hYA;exact hv1;kernel_rfl;intro WH rH bH;have RH:=hid rH;have UH:=hid bH;clear rH bH))
   have KG:Hid (Kp [gY] W7 WG):=((HK.out.trans (KF.out.drop (fun b hb=>Or.inr (by rw [List.mem_singleton] at hb;rw [hb,HGP.out];exact Nat.le_refl _))))).grown HG2'.out (fun b hb=>Or.inr (HVo.out b hb));have KH:=hid (KG.out.but UH.out (Or.inl (by simp)))
   have hsF:W7.heap.size <= WF.heap.size:=by
    have h1:=KF.out.size;omega
   have HV2:Hid (∀ b,v'.ownBlock=some b->W7.heap.size <= b):=fun b hb=>by
    rcases HB2.out with e | e
    ·exact HVo.out b (e ▸ hb)
    ·rw [e] at hb
     cases hb
     exact hsF
   have OH:Hid (OwnP WH v' ((a0M R).take (j + 1))):=by
    rw [HTk.out];refine HO2.out.kp ((Kp.refl [gY] WG).but UH.out (Or.inl (by simp))) (fun b hb hx=>?_);rw [List.mem_singleton] at hx;have h1:=HV2.out b hb;omega
   go_wp2;exact ⟨n0O (j + 1) v' (by omega) (by go_num) RH.out OH.out HV2.out KH.out,by simp [intOf];omega⟩
  ·have ej:j=R.pend.length:=by omega
   subst ej;have dl:decide ((R.pend.length:Int) < (R.pend.length:Int))=false:=decide_eq_false (by omega);have dl':decide (R.pend.length < R.pend.length)=false:=decide_eq_false (by omega)
   have HO2:Hid (OwnP wr v (a0M R)):=by
    have h0:=HO.out;rw [← c0p R,List.take_length] at h0;exact h0
   have hXY:gX ≠ gY:=by
    have h1:=a0D T6.out;have h2:=HgY.out;omega
   have hAY:gA ≠ gY:=by
    have h1:=a0D U6.out;have h2:=HgY.out;omega
   have TX7:=hid (a0a T6.out D6.out);have UA7:=hid (a0a U6.out D6.out);have TXr:=hid (HK.out.row TX7.out (by simpa using hXY));obtain ⟨KI,HKI⟩:∃ KI,Hid (KI=X.kind):=⟨_,rfl⟩;have cK:wr.cell? ⟨gX,1,none⟩=some (nu KI):=by rw [HKI.out];exact d0B (by rw [← HV.out];exact TXr.out) HX.out
   clear HO;by_cases hk2:KI=2
   case' pos =>
    have dk:(KI == 2)=true:=by rw [hk2];rfl
    obtain ⟨tj,htj⟩:∃ tj:Nat,X.target=(tj:Int):=⟨X.target.toNat,by have:=(b0r HOk.out).2.1;omega⟩;have htR:tj < R.n:=by have:=(b0r HOk.out).2.1;omega
    have cT2:wr.cell? ⟨gX,2,none⟩=some (nu (tj:Int)):=by rw [← htj];exact a0O (by rw [← HV.out];exact TXr.out) HX.out
    obtain ⟨N2,HN2⟩:∃ N2,Hid (N2=(R.reg (tj:Int)).asked.number):=⟨_,rfl⟩;obtain ⟨S2,HS2⟩:∃ S2,Hid (S2=(R.reg (tj:Int)).asked.value):=⟨_,rfl⟩;obtain ⟨D2,HD2⟩:∃ D2,Hid (D2=dg (R.reg (tj:Int)).asked.data):=⟨_,rfl⟩;obtain ⟨V2,HV2⟩:∃ V2,Hid (V2=(R.reg (tj:Int)).view):=⟨_,rfl⟩;obtain ⟨T3,HT3⟩:∃ T3,Hid (T3=dg (R.reg (tj:Int)).tag):=⟨_,rfl⟩;obtain ⟨DZ,HDZ⟩:∃ DZ,Hid (DZ=dg a0n):=⟨_,rfl⟩;have LD2:DZ.length=D2.length:=by rw [HDZ.out,HD2.out,a0e,a0e,(HI0.out.reg (tj:Int)).asked.data];rfl
    have LT3:DZ.length=T3.length:=by rw [HDZ.out,HT3.out,a0e,a0e,(HI0.out.reg (tj:Int)).tag];rfl
    have LD3:D2.length=32:=by rw [HD2.out,a0e];exact (HI0.out.reg (tj:Int)).asked.data
    have LT4:T3.length=32:=by rw [HT3.out,a0e];exact (HI0.out.reg (tj:Int)).tag
    have ZD2:(prog.info? 38).map (·.size)=some D2.length:=by rw [LD3];exact sizeDig
    have ZT3:(prog.info? 38).map (·.size)=some T3.length:=by rw [LT4];exact sizeDig
    have OD2:=hid (by rw [HD2.out];exact d0h _:∀ u ∈ D2,u.oneCell' = true);have OT3:=hid (by rw [HT3.out];exact d0h _:∀ u ∈ T3,u.oneCell' = true)
    have HF:Hid (∀ W,Kp [gY] wr W->W.cell? ⟨x,0,none⟩=some (.slice (some ⟨bs,0,none⟩) R.n R.n)/\W.cell? ⟨x,2,none⟩=some (.slice (some ⟨bv,0,none⟩) R.n R.n)/\W.cell? ⟨x,3,none⟩=some (.slice (some ⟨bt,0,none⟩) R.n R.n)/\W.cell? ⟨bs,tj * 68,none⟩=some (nu N2)/\W.cell? ⟨bs,tj * 68 + 3,none⟩=some (st S2)/\(∀ j u,D2[j]? = some u->W.cell? ⟨bs,tj * 68 + 36 + j,none⟩=some u)/\W.cell? ⟨bv,tj,none⟩=some (st V2)/\∀ j u,T3[j]? = some u->W.cell? ⟨bt,tj * 32 + j,none⟩=some u):=fun W hW=>by
     have hz:=Z7.out.kp (HK.out.trans hW) hgYn.out;rw [HN2.out,HS2.out,HD2.out,HV2.out,HT3.out];refine ⟨hz.cS,hz.cV,hz.cT,hz.sub htR 0 _ rfl,hz.sub htR 3 _ rfl,fun j u hj=>?_,hz.view htR,hz.tag htR⟩;rw [Nat.add_assoc];exact hz.sub htR _ _ (r0f (HI0.out.reg (tj:Int)).asked hj)
    obtain ⟨A0,HA0⟩:∃ A0,Hid (A0=YA++[v]):=⟨_,rfl⟩;have hA0:A0.length=36:=by rw [HA0.out,List.length_append,hYA];rfl
    have RW0:Hid (wr.heap[gY]? = some (.cells (A0++([nu 0]++([st []]++(DZ++([st []]++DZ))))).toArray 44)):=by
     have h0:=HR.out;show wr.heap[gY]? = _;rw [HA0.out,HDZ.out];rw [HYC.out] at h0;simpa using h0
    have KW0:=hid (Kp.refl [gY] wr);obtain ⟨e0,-,-,e3,-⟩:=HF.out wr KW0.out;go_upto_region 20 with fail
    go_upto_region 21 with ((with_reducible refine c0v 3 (.tmp 152) (.tmp 151) ?_ ?_ gY 36 ?_ ?_ A0 ([st []]++(DZ++([st []]++DZ))) (nu 0) (nu N2) ?_ 44 RW0.out ?_ ?_ ?_ ?_);exact rfl;exact rfl;exact rfl;exact rfl;exact rfl;exact hA0;exact rfl;kernel_rfl;intro WS0 rr bb;have RX0:=hid rr;have UU0:=hid bb;clear rr bb)
    have KW1:=hid (KW0.out.but UU0.out (Or.inl (by simp)));obtain ⟨A1,HA1⟩:∃ A1,Hid (A1=A0++[nu N2]):=⟨_,rfl⟩;have hA1:A1.length=37:=by rw [HA1.out,List.length_append,hA0];rfl
    have RW1:Hid (WS0.heap[gY]? = some (.cells (A1++([st []]++(DZ++([st []]++DZ)))).toArray 44)):=by
     show WS0.heap[gY]? = _;rw [HA1.out,List.append_assoc];exact RX0.out
    clear e0 e3;obtain ⟨e0,-,-,-,e3,-⟩:=HF.out WS0 KW1.out;go_upto_region 22 with ((with_reducible refine c0v 9 (.tmp 161) (.tmp 160) ?_ ?_ gY 37 ?_ ?_ A1 (DZ++([st []]++DZ)) (st []) (st S2) ?_ 44 RW1.out ?_ ?_ ?_ ?_);exact rfl;exact rfl;exact rfl;exact rfl;exact rfl;exact hA1;exact rfl;kernel_rfl;intro WS1 rr bb;have RX1:=hid rr;have UU1:=hid bb;clear rr bb)
    have KW2:=hid (KW1.out.but UU1.out (Or.inl (by simp)));obtain ⟨A2,HA2⟩:∃ A2,Hid (A2=A1++[st S2]):=⟨_,rfl⟩;have hA2:A2.length=38:=by rw [HA2.out,List.length_append,hA1];rfl
    have RW2:Hid (WS1.heap[gY]? = some (.cells (A2++(DZ++([st []]++DZ))).toArray 44)):=by
     show WS1.heap[gY]? = _;rw [HA2.out,List.append_assoc];exact RX1.out
    clear e0 e3;obtain ⟨e0,-,-,-,-,e3,-⟩:=HF.out WS1 KW2.out;have SG2:=hid e3;clear e3
    go_upto_region 23 with (first
     | ((with_reducible refine a0d 38 (.tmp 168) ?_ bs (tj * 68 + 36) ?_ ?_ D2 _ SG2.out underlying38 ?_ ZD2 ?_);iterate 4 exact rfl)
     | ((with_reducible refine b0b 38 (.tmp 170) (.tmp 169) ?_ ?_ gY 38 ?_ ?_ A2 D2 DZ ([st []]++DZ) ?_ 44 RW2.out hA2 LD2 OD2.out ZD2 ?_);exact rfl;exact rfl;exact rfl;exact rfl;exact rfl;intro WS2 rr bb;have RX2:=hid rr;have UU2:=hid bb;clear rr bb))
    have KW3:=hid (KW2.out.but UU2.out (Or.inl (by simp)));obtain ⟨A3,HA3⟩:∃ A3,Hid (A3=A2++D2):=⟨_,rfl⟩;have hA3:A3.length=70:=by rw [HA3.out,List.length_append,hA2,LD3]
    have RW3:Hid (WS2.heap[gY]? = some (.cells (A3++([st []]++DZ)).toArray 44)):=by
     show WS2.heap[gY]? = _;rw [HA3.out,List.append_assoc];exact RX2.out
    clear e0;obtain ⟨-,e0,-,-,-,-,e3,-⟩:=HF.out WS2 KW3.out;go_upto_region 24 with ((with_reducible refine c0v 9 (.tmp 178) (.tmp 177) ?_ ?_ gY 70 ?_ ?_ A3 DZ (st []) (st V2) ?_ 44 RW3.out ?_ ?_ ?_ ?_);exact rfl;exact rfl;exact rfl;exact rfl;exact rfl;exact hA3;exact rfl;kernel_rfl;intro WS3 rr bb;have RX3:=hid rr;have UU3:=hid bb;clear rr bb)
    have KW4:=hid (KW3.out.but UU3.out (Or.inl (by simp)));obtain ⟨A4,HA4⟩:∃ A4,Hid (A4=A3++[st V2]):=⟨_,rfl⟩;have hA4:A4.length=71:=by rw [HA4.out,List.length_append,hA3];rfl
    have RW4:Hid (WS3.heap[gY]? = some (.cells (A4++(DZ++[])).toArray 44)):=by
     show WS3.heap[gY]? = _;rw [HA4.out,List.append_assoc,List.append_nil];exact RX3.out
    clear e0 e3;obtain ⟨-,-,e0,-,-,-,-,e3⟩:=HF.out WS3 KW4.out;have SG4:=hid e3;clear e3
    go_upto_region 25 with (first
     | ((with_reducible refine a0d 38 (.tmp 184) ?_ bt (tj * 32) ?_ ?_ T3 _ SG4.out underlying38 ?_ ZT3 ?_);iterate 4 exact rfl)
     | ((with_reducible refine b0b 38 (.tmp 186) (.tmp 185) ?_ ?_ gY 71 ?_ ?_ A4 T3 DZ [] ?_ 44 RW4.out hA4 LT3 OT3.out ZT3 ?_);exact rfl;exact rfl;exact rfl;exact rfl;exact rfl;intro WS4 rr bb;have RX4:=hid rr;have UU4:=hid bb;clear rr bb))
    have KW5:=hid (KW4.out.but UU4.out (Or.inl (by simp)));clear e0
    have RK:Hid (WS4.heap[gY]? = some (.cells (repC (ansR R X) v).toArray 44)):=by
     have h0:=RX4.out;rw [HA4.out,HA3.out,HA2.out,HA1.out,HA0.out,HYA.out,HXN.out,HWH.out,HLO.out,HN2.out,HS2.out,HD2.out,HV2.out,HT3.out] at h0;show WS4.heap[gY]? = _;unfold ansR;rw [if_pos (by rw [← HKI.out];exact hk2),l0s,htj];simpa using h0
    have KK:=hid (HK.out.trans KW5.out);have KK2:=hid KW5.out;clear RW0 RW1 RW2 RW3 RW4 RX0 RX1 RX2 RX3 RX4 HF KW0 KW1 KW2 KW3 KW4 UU0 UU1 UU2 UU3 UU4 SG2 SG4 HA0 HA1 HA2 HA3 HA4 hA0 hA1 hA2 hA3 hA4
   case' neg =>
    have dk:(KI == 2)=false:=beq_false_of_ne hk2
    have RK:Hid (wr.heap[gY]? = some (.cells (repC (ansR R X) v).toArray 44)):=by
     have h0:=HR.out;rw [HYA.out,HYC.out,HXN.out,HWH.out,HLO.out] at h0;show wr.heap[gY]? = _;unfold ansR;rw [if_neg (by rw [← HKI.out];exact hk2),l0s];simpa using h0
    have KK:=hid HK.out;have KK2:=hid (Kp.refl [gY] wr);go_upto_region 25 with fail
    obtain ⟨WS4,rfl⟩:∃ W,W=wr:=⟨_,rfl⟩
   all_goals
    have ZK2:=hid (Z7.out.kp KK.out hgYn.out)
    have OK2:=hid (HO2.out.kp KK2.out (fun b hb hx=>by
     rw [List.mem_singleton] at hx;have h1:=HVo.out b hb
     omega))
    have TX:=hid (KK.out.row TX7.out (by simpa using hXY));have UX:=hid (KK.out.row UA7.out (by simpa using hAY));obtain ⟨Y2,HY2⟩:∃ Y2,Hid (Y2=Y++v.ownBlock.toList):=⟨_,rfl⟩;have hXlt:Hid (∀ b ∈ [x,bs,br,bv,bt]++Y,b < w.heap.size):=fun b hb=>HG2.out b (HG1.out b hb);have hwW:w.heap.size <= W7.heap.size:=B7.out.size
    have HAw:Hid (∀ b ∈ Y2,b ∉ [x,bs,br,bv,bt]):=fun b hb hx=>by
     rw [HY2.out] at hb;rcases List.mem_append.1 hb with e | e
     ·exact ZK2.out.away b e hx
     ·have h1:=HVo.out b (e0P.1 e)
      have h2:=hXlt.out b (List.mem_append.2 (Or.inl hx));omega
    have ZM:=hid (ZK2.out.more (Y':=Y2) (fun b hb=>by rw [HY2.out];exact List.mem_append.2 (Or.inl hb)) HAw.out);have PV:=hid (OK2.out.gens (g0f HI0.out) Y2 (fun b hb=>by rw [HY2.out];exact List.mem_append.2 (Or.inr (e0P.2 hb))));obtain ⟨RQ,HRQ⟩:∃ RQ,Hid (RQ=repC (ansR R X) v):=⟨_,rfl⟩;rw [← HRQ.out] at RK;have LRQ:RQ.length=103:=by rw [HRQ.out];exact a0j (l0Z HI0.out X) _
    have ZRQ:(prog.info? 44).map (·.size)=some RQ.length:=by rw [LRQ];exact sizeRep
    have ORQ:=hid (by rw [HRQ.out];exact c0I _ _ OK2.out.one:∀ u ∈ RQ,u.oneCell' = true);obtain ⟨u,hu,hpu⟩:=ZM.out.snd hkR;have D25:Hid (Below WS4.heap.size WS4 (World.drew WS4)):=⟨rfl,rfl,rfl,Nat.le_refl _,fun _ _=>rfl⟩;have ZD:=hid (ZM.out.kept D25.out);have c25:(World.drew WS4).cell? ⟨x,0,none⟩=some (.slice (some ⟨bs,0,none⟩) R.n R.n):=ZD.out.cS;have S25:=hid (a0s (off:=0) (A:=[]) (cs:=V) (C:=[]) (a0a TX.out D25.out) (by simp) rfl);obtain ⟨oS,-,-,-⟩:=ZD.out.open hkR hu;have RS:=hid ZD.out.subs;rw [oS] at RS;have hlS:=h0T fS 68 _ ZD.out.kS k (by rw [ZD.out.len];exact hkR);have hpu5:=hid (hpu.kp (X:=[]) (Kp.of D25.out) (fun _ _=>by simp));have lOS:(subC (R.reg (k:Int)).asked).length=V.length:=by rw [HV.out,a0h HX.out];exact a0h (HI0.out.reg _).asked
    have OV:=hid (by rw [HV.out];exact f0w X:∀ v ∈ V,v.oneCell' = true);have HIs:=hid (r0e HI0.out (k:=k) HX.out HOk.out);have sL:WS4.heap.size <= (World.drew WS4).heap.size:=D25.out.size;have RK5:=hid (a0a RK.out D25.out);have UX5:=hid (a0a UX.out D25.out);have TX5:=hid (a0a TX.out D25.out);have PV5:=hid (PV.out.kp (X:=[]) (Kp.of D25.out) (fun _ _=>by simp));have KW5:=hid ((Kp.of (X:=G) B7.out).then (KK.out.trans (Kp.of D25.out)) (fun b hb=>Or.inr (by rw [List.mem_singleton] at hb;rw [hb];have:=B6.out.size;have:=HgY.out;omega)));clear oS hpu;generalize hAS:(ps.take k).flatMap fS=AS at *;generalize hCS:(ps.drop (k + 1)).flatMap fS=CS at *;have HAS:=hid hAS;have HCS:=hid hCS;clear hAS hCS;generalize subC (R.reg (k:Int)).asked=OLD at *;refine wp_region_still_tail 7 (by kernel_rfl) (by kernel_rfl) ?_;simp only [List.take_succ_cons,List.take_zero,List.drop_succ_cons,List.drop_zero];change wpStill _ _ (World.drew WS4) (fun a'=>wpList _ _ _ _ a' (World.drew WS4)) _ _;generalize World.drew WS4=WL at *
    iterate 5 still_step
    refine h0S 40 (.tmp 5) rfl gX 0 rfl rfl V _ S25.out underlying40 rfl ZS ?_;simp only [Act.put,List.setIfInBounds_toArray,List.set_cons_zero,List.set_cons_succ]
    iterate 1 still_step
    refine wpStill_nil ?_;refine b0b 40 (.tmp 193) (.tmp 192) rfl rfl bs (k * 68) rfl rfl AS V OLD CS rfl 40 RS.out hlS lOS OV.out ZS ?_;intro WM rM bM;rw [← HAS.out,← HCS.out,HV.out] at rM;have sM:WL.heap.size <= WM.heap.size:=((Kp.refl [bs] WL).but bM (Or.inl (by simp))).size;have ZN:=hid (ZD.out.putSub hkR hu hpu5.out HIs.out rM bM)
    have nbs:Hid (gY ≠ bs/\gX ≠ bs/\gA ≠ bs/\gY ≠ br/\gX ≠ br/\gA ≠ br/\gY ≠ x/\gX ≠ x/\gA ≠ x):=by
     have h1:=hXlt.out bs (by simp);have h2:=hXlt.out br (by simp);have h3:=hXlt.out x (by simp);have h4:=HgY.out;have h5:=B6.out.size;have h6:=HgX.out;refine ⟨?_,?_,?_,?_,?_,?_,?_,?_,?_⟩ <;> omega
    have hbsY:bs ∉ Y2:=fun hy=>HAw.out bs hy (by simp);have RK6:=hid (bM.row RK5.out nbs.out.1);have TX6:=hid (bM.row TX5.out nbs.out.2.1);have UX6:=hid (bM.row UX5.out nbs.out.2.2.1);have PV6:=hid (PV5.out.but bM hbsY);have hpu6:=hid (hpu5.out.but bM hbsY);have KW6:=hid (KW5.out.but bM (Or.inl (HG1.out bs (by simp))));clear RS hlS lOS S25 c25 HAS HCS rM bM D25 hpu5 RK5 TX5 UX5 PV5 RK UX TX KW5 ZD ZM ZK2;go_upto_region 26 with fail
    have hsetR:(setG R k { R.reg (k:Int) with asked:=X }).reg (k:Int) = { R.reg (k:Int) with asked:=X }:=k0d HI0.out hkR _
    have hu4:(ps.set k ({ R.reg (k:Int) with asked:=X },u))[k]? = some ((setG R k { R.reg (k:Int) with asked:=X }).reg (k:Int),u):=by
     rw [hsetR,List.getElem?_set_self (by rw [← Z7.out.len] at hkR;exact hkR)]
    have D26:Hid (Below WM.heap.size WM (World.drew WM)):=⟨rfl,rfl,rfl,Nat.le_refl _,fun _ _=>rfl⟩;have ZD:=hid (ZN.out.kept D26.out);have c26:(World.drew WM).cell? ⟨x,1,none⟩=some (.slice (some ⟨br,0,none⟩) R.n R.n):=ZD.out.cR;have S26:=hid (a0s (off:=0) (A:=[]) (cs:=RQ) (C:=[]) (a0a RK6.out D26.out) (by simp) rfl);obtain ⟨-,oR,-,-⟩:=ZD.out.open hkR hu4;have RS:=hid ZD.out.reps;rw [oR] at RS;have hlS:=h0T fR 103 _ ZD.out.kR k (by rw [ZD.out.len];exact hkR);have lOS:(repC ((setG R k { R.reg (k:Int) with asked:=X }).reg (k:Int)).ans u).length=RQ.length:=by rw [hsetR,LRQ];exact a0j (HI0.out.reg _).ans _
    have HIa:Hid (RInv (setG (setG R k { R.reg (k:Int) with asked:=X }) k { (setG R k { R.reg (k:Int) with asked:=X }).reg (k:Int) with ans:=ansR R X })):=by
     rw [hsetR,f0e];exact s0W HI0.out (c:=(k:Int)) HX.out HOk.out HFu.out
    have sO:WM.heap.size <= (World.drew WM).heap.size:=D26.out.size;have RK7:=hid (a0a RK6.out D26.out);have UX7:=hid (a0a UX6.out D26.out);have TX7b:=hid (a0a TX6.out D26.out)
    have PV7:Hid (b0N (World.drew WM) Y2 v (ansR R X).pend):=by
     rw [c0k];exact PV6.out.kp (X:=[]) (Kp.of D26.out) (fun _ _=>by simp)
    have KW7:=hid (KW6.out.trans (Kp.of D26.out));clear oR;generalize hAR:(List.take k (ps.set k ({ R.reg (k:Int) with asked:=X },u))).flatMap fR=AR at *;generalize hCR:(List.drop (k + 1) (ps.set k ({ R.reg (k:Int) with asked:=X },u))).flatMap fR=CR at *;have HAR:=hid hAR;have HCR:=hid hCR;clear hAR hCR;generalize repC ((setG R k { R.reg (k:Int) with asked:=X }).reg (k:Int)).ans u=OLR at *;refine wp_region_still_tail 7 (by kernel_rfl) (by kernel_rfl) ?_;simp only [List.take_succ_cons,List.take_zero,List.drop_succ_cons,List.drop_zero];change wpStill _ _ (World.drew WM) (fun a'=>wpList _ _ _ _ a' (World.drew WM)) _ _;generalize World.drew WM=WO at *
    iterate 5 still_step
    refine h0S 44 (.tmp 8) rfl gY 0 rfl rfl RQ _ S26.out underlying44 rfl ZRQ ?_;simp only [Act.put,List.setIfInBounds_toArray,List.set_cons_zero,List.set_cons_succ]
    iterate 1 still_step
    refine wpStill_nil ?_;refine b0b 44 (.tmp 200) (.tmp 199) rfl rfl br (k * 103) rfl rfl AR RQ OLR CR rfl 44 RS.out hlS lOS ORQ.out ZRQ ?_;intro WP rP bP;rw [← HAR.out,← HCR.out,HRQ.out] at rP;have sP:WO.heap.size <= WP.heap.size:=((Kp.refl [br] WO).but bP (Or.inl (by simp))).size;have ZQ:=hid (ZD.out.putRep hkR hu4 PV7.out HIa.out rP bP);have hbrY:br ∉ Y2:=fun hy=>HAw.out br hy (by simp);have RK8:=hid (bP.row RK7.out nbs.out.2.2.2.1);have TX8:=hid (bP.row TX7b.out nbs.out.2.2.2.2.1);have UX8:=hid (bP.row UX7.out nbs.out.2.2.2.2.2.1);have PV8:=hid (PV7.out.but bP hbrY);have KW8:=hid (KW7.out.but bP (Or.inl (HG1.out br (by simp))))
    have eA:setG (setG R k { R.reg (k:Int) with asked:=X }) k { (setG R k { R.reg (k:Int) with asked:=X }).reg (k:Int) with ans:=ansR R X } = subA R (k:Int) X:=by
     rw [hsetR,f0e];rfl
    rw [eA] at ZQ;obtain ⟨ps3,ZQ3⟩:∃ ps',Hid (RZ WP x bs br bv bt (subA R (k:Int) X) ps' vP Y2):=⟨_,ZQ.out⟩;clear RS hlS lOS S26 c26 HAR HCR rP bP D26 RK7 TX7b UX7 PV7 KW7 ZD ZN ZQ eA hsetR hu4 HIa RK6 TX6 UX6 PV6 hpu6 KW6 hu;have KV:=hid (fun (W:World) (hb:Below WP.heap.size WP W)=>((ZQ3.out.kept hb).cP:W.cell? ⟨x,38,none⟩=some vP));have HPc:=hid (fun (W:World) (hb:Below WP.heap.size WP W)=>((ZQ3.out.kept hb).pens.pc (fun p hp=>(HI0.out.pend p hp).wf):Pc W 68 vP R.pend.length (c0S R.pend)))
    have FX:Hid (∀ W,Below WP.heap.size WP W->W.cell? ⟨gX,0,none⟩=some (nu XN)/\W.cell? ⟨gX,1,none⟩=some (nu X.kind)/\W.cell? ⟨gX,2,none⟩=some (nu X.target)/\∀ j v,(dg X.asked)[j]? = some v->W.cell? ⟨gX,4 + j,none⟩=some v):=fun W hb=>by
     have h0:=a0a TX8.out hb;rw [HV.out] at h0;refine ⟨by rw [HXN.out];exact a0N h0 HX.out,d0B h0 HX.out,a0O h0 HX.out,a0s (off:=4) (A:=[nu X.number,nu X.kind,nu X.target]++[st X.value]) (cs:=dg X.asked) (C:=dg X.data) h0 (by simp [subC]) rfl⟩
    have ZA:(prog.info? 38).map (·.size)=some (dg X.asked).length:=by rw [a0e,HX.out.asked];exact sizeDig
    have HPw:Hid ((e0B (k:Int) X).Wf):=⟨HX.out.asked,rfl⟩;have hpl8:=HI0.out.plen;go_upto_region 27 with fail
    refine l0q (N:=223) 21 [1,6,17,18] (vPd WP.heap.size R.pend (e0B (k:Int) X)) [pt x 0,undef,pt x 0,pt x 0,pt x 38,vP,undef,nu (k:Int),pt gX 0,nu XN,pt gX 1,nu X.kind,pt gX 2,nu X.target,pt gX 4,.agg (dg X.asked).toArray,.agg (penC (e0B (k:Int) X)).toArray,undef,undef,pt x 0,pt x 38,undef] (fun _ w=>Below WP.heap.size WP w) (by kernel_rfl) (by kernel_rfl) (by kernel_rfl) rfl (fun w1 h1=>h1) (fun i hi _ L w h=>h) (fun i hi _ L j u w h=>r0j (by rintro rfl;simp at hi) (by rintro rfl;simp at hi) j h) ?_ ?_ ?_
    ·intro i o hi hiS ho
     match i,ho with
     | 0,ho=>cases ho;exact fun L a w hLi hw hnot hJ hk hcst K h=>a0q 0 _ rfl (hk 0 (by kernel_rfl)) h
     | 1,ho=>exact absurd hiS (by decide)
     | 2,ho=>cases ho;exact fun L a w hLi hw hnot hJ hk hcst K h=>a0q 0 _ rfl (hk 0 (by kernel_rfl)) h
     | 3,ho=>cases ho;exact fun L a w hLi hw hnot hJ hk hcst K h=>c0m 203 x 0 rfl (hcst 2 203 (by kernel_rfl) (by decide) (by kernel_rfl)) h
     | 4,ho=>cases ho;exact fun L a w hLi hw hnot hJ hk hcst K h=>b0C 204 _ 7 x 0 38 rfl (fun W=>t0J x 0 W) (hcst 3 204 (by kernel_rfl) (by decide) (by kernel_rfl)) h
     | 5,ho=>cases ho;exact fun L a w hLi hw hnot hJ hk hcst K h=>a0A _ (.tmp 205) rfl x 38 (hcst 4 205 (by kernel_rfl) (by decide) (by kernel_rfl)) _ _ (KV.out _ hJ) underlying42 rfl h
     | 6,ho=>exact absurd hiS (by decide)
     | 7,ho=>cases ho;exact fun L a w hLi hw hnot hJ hk hcst K h=>a0q 1 _ rfl (hk 1 (by kernel_rfl)) h
     | 8,ho=>cases ho;exact fun L a w hLi hw hnot hJ hk hcst K h=>b0C 5 _ 0 gX 0 0 rfl (fun W=>t0I gX 0 W) (hk 5 (by kernel_rfl)) h
     | 9,ho=>cases ho;exact fun L a w hLi hw hnot hJ hk hcst K h=>a0A _ (.tmp 209) rfl gX 0 (hcst 8 209 (by kernel_rfl) (by decide) (by kernel_rfl)) _ _ ((FX.out _ hJ).1) underlying3 rfl h
     | 10,ho=>cases ho;exact fun L a w hLi hw hnot hJ hk hcst K h=>b0C 5 _ 1 gX 0 1 rfl (fun W=>w0k gX 0 W) (hk 5 (by kernel_rfl)) h
     | 11,ho=>cases ho;exact fun L a w hLi hw hnot hJ hk hcst K h=>a0A _ (.tmp 211) rfl gX 1 (hcst 10 211 (by kernel_rfl) (by decide) (by kernel_rfl)) _ _ ((FX.out _ hJ).2.1) underlying3 rfl h
     | 12,ho=>cases ho;exact fun L a w hLi hw hnot hJ hk hcst K h=>b0C 5 _ 2 gX 0 2 rfl (fun W=>w0l gX 0 W) (hk 5 (by kernel_rfl)) h
     | 13,ho=>cases ho;exact fun L a w hLi hw hnot hJ hk hcst K h=>a0A _ (.tmp 213) rfl gX 2 (hcst 12 213 (by kernel_rfl) (by decide) (by kernel_rfl)) _ _ ((FX.out _ hJ).2.2.1) underlying3 rfl h
     | 14,ho=>cases ho;exact fun L a w hLi hw hnot hJ hk hcst K h=>b0C 5 _ 4 gX 0 4 rfl (fun W=>w0m gX 0 W) (hk 5 (by kernel_rfl)) h
     | 15,ho=>cases ho;exact fun L a w hLi hw hnot hJ hk hcst K h=>c0u _ (.tmp 215) rfl gX 4 (hcst 14 215 (by kernel_rfl) (by decide) (by kernel_rfl)) (dg X.asked) _ ((FX.out _ hJ).2.2.2) underlying38 rfl ZA h
     | 16,ho=>cases ho;exact fun L a w hLi hw hnot hJ hk hcst K h=>l0u _ [(0,.tmp 208),(1,.tmp 210),(2,.tmp 212),(3,.tmp 214),(4,.tmp 216)] rfl _ (by
       have q1:a.eval (.tmp 208)=nu (k:Int):=hcst 7 208 (by kernel_rfl) (by decide) (by kernel_rfl);have q2:a.eval (.tmp 210)=nu XN:=hcst 9 210 (by kernel_rfl) (by decide) (by kernel_rfl);have q3:a.eval (.tmp 212)=nu X.kind:=hcst 11 212 (by kernel_rfl) (by decide) (by kernel_rfl);have q4:a.eval (.tmp 214)=nu X.target:=hcst 13 214 (by kernel_rfl) (by decide) (by kernel_rfl);have q5:a.eval (.tmp 216) = .agg (dg X.asked).toArray:=hcst 15 216 (by kernel_rfl) (by decide) (by kernel_rfl);simp only [List.map_cons,List.map_nil,q1,q2,q3,q4,q5];rw [HXN.out]
       exact q0I w (k:Int) X HX.out) h
     | 17,ho=>exact absurd hiS (by decide)
     | 18,ho=>exact absurd hiS (by decide)
     | 19,ho=>cases ho;exact fun L a w hLi hw hnot hJ hk hcst K h=>c0m 201 x 0 rfl (hcst 0 201 (by kernel_rfl) (by decide) (by kernel_rfl)) h
     | 20,ho=>cases ho;exact fun L a w hLi hw hnot hJ hk hcst K h=>b0C 220 _ 7 x 0 38 rfl (fun W=>t0J x 0 W) (hcst 19 220 (by kernel_rfl) (by decide) (by kernel_rfl)) h
     | (i + 21),ho=>exact absurd hi (by omega)
    ·intro i o hi hiS ho
     match i,ho with
     | 1,ho =>
      cases ho
      intro L a w hLi hw hnot hclos hJ hk' hcst hvs;refine v0h 42 57 rfl underlying42 68 sizePen ⟨_,rfl,fun _=>?_,hJ.trans ((a0c w _).mono hJ.size),fun j d hj hjs hd=>?_⟩
      ·exact vPd1.2 (Or.inr ⟨w.heap.size,rfl,hJ.size,a0f w _⟩)
      ·exact r0j (by decide) (by decide) j (n0P (a0c w _) j (hvs j d hj hjs hd))
     | 6,ho =>
      cases ho
      intro L a w hLi hw hnot hclos hJ hk' hcst hvs;have h1:=vPd1.1 (hvs 1 202 (hw 1 (by kernel_rfl)) (by decide) (by kernel_rfl));rw [hLi] at h1;obtain ⟨g,e202,hge,hrow⟩:=h1.resolve_left Bool.noConfusion;have e206:a.tmps.getD 206 undef=vP:=hcst 5 206 (by kernel_rfl) (by decide) (by kernel_rfl);obtain ⟨v',w',hr,g1,g2,-⟩:=e0n (P:=prog) (w:=w) WP.heap.size 42 42 57 _ 68 96 underlying42 infoPn zeroP_cells (by decide) (.slice (some ⟨g,0,none⟩) 0 0) vP 0 R.pend.length [] (c0S R.pend) (r0h hge hrow) (HPc.out w hJ) (j0B _) (by omega) (by decide) hJ.size;refine q0W 202 206 _ rfl _ _ e202 e206 v' w' hr ⟨v',rfl,fun _=>?_,hJ.grown g2 hJ.size (fun k hk=>by cases hk;exact hge),fun j d hj hjs hd=>?_⟩
      ·exact vPd6.2 (Or.inr (by simpa using g1))
      ·have h0:=hvs j d hj hjs hd
       simp only [List.mem_cons,List.not_mem_nil,or_false] at hjs;rcases hjs with rfl | rfl | rfl | rfl
       ·exact vPd1.2 (Or.inl (b0s _ _))
       ·rw [hLi] at hj
        cases hj
       ·rw [r0i] at h0 ⊢
        rcases h0 with h0 | ⟨g8,e8,hg8,hr8⟩
        ·exact Or.inl (by rw [b0p (by decide)];exact h0)
        ·refine Or.inr ⟨g8,e8,hg8,(g2.block g8 (a0D hr8) ?_).trans hr8⟩
         intro e
         cases e
         rw [hrow] at hr8;have h68:=a0K HPw.out;have:(#[]:Array Value)=(penC (e0B (k:Int) X)).toArray:=by simpa using hr8
         have:=congrArg Array.size this;simp [h68] at this
       ·rw [hnot 18 _ rfl (by kernel_rfl)] at hj
        cases hj
     | 17,ho =>
      cases ho
      intro L a w hLi hw hnot hclos hJ hk' hcst hvs;refine v0i 42 57 217 rfl underlying42 _ 68 96 infoPn (by decide) (by decide) (.agg (penC (e0B (k:Int) X)).toArray) (hcst 16 217 (by kernel_rfl) (by decide) (by kernel_rfl)) (penC (e0B (k:Int) X)).toArray rfl (by rw [List.size_toArray];exact a0K HPw.out) ?_;refine ⟨_,rfl,fun _=>?_,hJ.trans ((a0c w _).mono hJ.size),fun j d hj hjs hd=>?_⟩
      ·exact r0i.2 (Or.inr ⟨w.heap.size,rfl,hJ.size,a0f w _⟩)
      ·exact r0j (by decide) (by decide) j (n0P (a0c w _) j (hvs j d hj hjs hd))
     | 18,ho =>
      cases ho
      intro L a w hLi hw hnot hclos hJ hk' hcst hvs;have h6:=vPd6.1 (hvs 6 207 (hw 6 (by kernel_rfl)) (by decide) (by kernel_rfl));have h17:=r0i.1 (hvs 17 218 (hw 17 (by kernel_rfl)) (by decide) (by kernel_rfl));rw [hLi] at h6 h17;have hO:=h6.resolve_left Bool.noConfusion;obtain ⟨g8,e8,hg8,hr8⟩:=h17.resolve_left Bool.noConfusion;obtain ⟨v',w',hr,g1,g2,-⟩:=e0n (P:=prog) (w:=w) WP.heap.size 42 42 57 _ 68 96 underlying42 infoPn zeroP_cells (by decide) (a.tmps.getD 207 undef) (.slice (some ⟨g8,0,none⟩) 1 1) R.pend.length 1 (c0S R.pend) (c0S [e0B (k:Int) X]) hO (t0K HPw.out hr8) (j0B _) (by omega) (by decide) hJ.size;refine q0W 207 218 _ rfl _ _ rfl e8 v' w' hr ⟨v',rfl,fun _=>?_,hJ.grown g2 hJ.size (fun b hb=>(World.ownsRow.lt hO b hb).1),fun j d hj hjs hd=>?_⟩
      ·refine w0J.2 ?_
       rw [n0J,List.length_append];exact g1
      ·simp only [List.mem_cons,List.not_mem_nil,or_false] at hjs
       rcases hjs with rfl | rfl | rfl | rfl
       ·exact vPd1.2 (Or.inl (by rw [b0p (by decide)];exact hw 6 (by kernel_rfl)))
       ·exact vPd6.2 (Or.inl (b0s _ _))
       ·exact r0i.2 (Or.inl (b0s _ _))
       ·rw [hLi] at hj
        cases hj
     | 0,_ | 2,_ | 3,_ | 4,_ | 5,_ | 7,_ | 8,_ | 9,_ | 10,_ | 11,_ | 12,_ | 13,_ | 14,_ | 15,_ | 16,_ | 19,_ | 20,_=>exact absurd hiS (by decide)
     | (i + 21),ho=>exact absurd hi (by omega)
    ·intro L o a Wc hall hLn ho hJ hs hdf hk' hc hv hkeep
     cases ho
     have hO:=w0J.1 (hv 18 219 (by decide) (by decide) (by kernel_rfl));obtain ⟨v9,e219⟩:∃ v9,a.tmps.getD 219 undef=v9:=⟨_,rfl⟩;rw [e219] at hO;have hO9:=hid (r0g hO);have hB9:Hid (∀ b,v9.ownBlock=some b->WP.heap.size <= b/\b < Wc.heap.size):=fun b hb=>World.ownsRow.lt hO b hb;have ZC:=hid (ZQ3.out.kept hJ);have hrx:=ZC.out.row;rw [k0c] at hrx
     have hA38:([sl bs (subA R (k:Int) X).n,sl br (subA R (k:Int) X).n,sl bv (subA R (k:Int) X).n,sl bt (subA R (k:Int) X).n,nu (subA R (k:Int) X).who,st (subA R (k:Int) X).long]++dg (subA R (k:Int) X).ltag).length=38:=by
      rw [List.length_append,a0e];show 6 + R.ltag.length=38;rw [hlt32]
     refine f0x 42 221 219 rfl rfl x 38 (hc 20 221 (by decide) (by decide) (by kernel_rfl)) _ [] vP v9 e219 86 hrx hA38 (OwnP.one (ps:=R.pend++[e0B (k:Int) X]) hO9.out) size41 ?_;intro Wd hrd hbd;obtain ⟨Y3,HY3⟩:∃ Y3,Hid (Y3=Y2++v9.ownBlock.toList):=⟨_,rfl⟩;have hsP:w.heap.size <= WP.heap.size:=KW8.out.size
     have HAw3:Hid (∀ b ∈ Y3,b ∉ [x,bs,br,bv,bt]):=fun b hb hx=>by
      rw [HY3.out] at hb;rcases List.mem_append.1 hb with e | e
      ·exact HAw.out b e hx
      ·have h1:=(hB9.out b (e0P.1 e)).1
       have h2:=hXlt.out b (List.mem_append.2 (Or.inl hx));omega
     have HIn:=hid (HI0.out.subN (c:=(k:Int)) HX.out HOk.out HFu.out);have ZC3:=ZC.out.more (Y':=Y3) (fun b hb=>by rw [HY3.out];exact List.mem_append.2 (Or.inl hb)) HAw3.out;have PC9:b0N Wc Y3 v9 (R.pend++[e0B (k:Int) X]):=OwnP.gens hO9.out (fun p hp=>(HIn.out.pend p hp).wf) Y3 (fun b hb=>by rw [HY3.out];exact List.mem_append.2 (Or.inr (e0P.2 hb)));have Kd:Kp [x] Wc Wd:=(Kp.refl _ _).but hbd (Or.inl (by simp));have ZE:Hid (RZ Wd x bs br bv bt (subN R (k:Int) X) ps3 v9 Y3):=ZC3.putRowK (R':=subN R (k:Int) X) rfl rfl HIn.out (by rw [k0c];exact hrd) Kd PC9;have UXd:=hid (Kd.row (a0a UX8.out hJ) (by simpa using nbs.out.2.2.2.2.2.2.2.2));have RKd:=hid (Kd.row (a0a RK8.out hJ) (by simpa using nbs.out.2.2.2.2.2.2.1));have PVd:Hid (b0N Wd Y2 v (ansR R X).pend):=(PV8.out.kp (X:=[]) (Kp.of hJ) (fun _ _=>by simp)).kp Kd (fun b hb hx=>HAw.out b hb (by rw [List.mem_singleton] at hx;simp [hx]));have KWd:=hid ((KW8.out.trans (Kp.of hJ)).but hbd (Or.inl (HG1.out x (by simp))));have hcd:Wc.heap.size <= Wd.heap.size:=Kd.size;have SY:=hid (a0s (off:=0) (A:=[]) (cs:=RQ) (C:=[]) RKd.out (by simp) rfl);have LZQ:Z.length=RQ.length:=by rw [LRQ];exact LZ
     have HnG:Hid (X.number ≠ (R.reg (k:Int)).asked.number):=by
      have h1:=HH4.out;show X.number ≠ _;omega
     obtain ⟨tm,df⟩:=a;obtain rfl:df = []:=hdf;have h8:tm.getD 8 undef=pt gY 0:=hkeep 8 (by kernel_rfl);have h6:tm.getD 6 undef=pt gA 0:=hkeep 6 (by kernel_rfl);have hsz:tm.size=223:=hs;have P6:∀ u,(tm.setIfInBounds 222 u).getD 6 undef=pt gA 0:=fun u=>(k0N ⟨tm,[]⟩ 222 6 u (by decide)).trans h6;have Q6:∀ u u',((tm.setIfInBounds 222 u).setIfInBounds 7 u').getD 6 undef=pt gA 0:=fun u u'=>(k0N ⟨tm.setIfInBounds 222 u,[]⟩ 7 6 u' (by decide)).trans (P6 u);have Q7:∀ u u',((tm.setIfInBounds 222 u).setIfInBounds 7 u').getD 7 undef=u':=fun u u'=>put_eq ⟨tm.setIfInBounds 222 u,[]⟩ 7 u' (by simp [hsz]);have P2:∀ u,(tm.setIfInBounds 222 u).getD 222 undef=u:=fun u=>put_eq ⟨tm,[]⟩ 222 u (by simp [hsz]);have HQ6:=hid Q6;have HQ7:=hid Q7;have HP6:=hid P6;have HP2:=hid P2;have H8:=hid h8;clear P6 Q6 Q7 P2 hkeep hc hv hs hk' hall hO e219 hrx hA38 hrd ZC3 PC9 h8 h6 hsz;go_upto_region 28 with fail
     go_wp2_with (first
      | ((with_reducible refine a0d 44 (.tmp 8) ?_ gY 0 ?_ ?_ RQ _ SY.out underlying44 ?_ ZRQ ?_);exact rfl;exact H8.out;exact rfl;exact rfl)
      | ((with_reducible refine b0b 44 (.tmp 6) (.tmp 222) ?_ ?_ gA 0 ?_ ?_ [] RQ Z [] ?_ 44 UXd.out rfl LZQ ORQ.out ZRQ ?_);exact rfl;exact rfl;exact HP6.out _;exact rfl;exact HP2.out _;intro wF rF bF))
     have rG:wF.heap[gA]? = some (.cells RQ.toArray 44):=by simpa using rF
     refine bodyPost_ret_by (c0h (fn:=Tryz.f10) (p:=6) (u:=7) (ty:=44) (by kernel_rfl) _ _ gA 44 RQ.toArray (0,0) _ (HQ6.out _ _) rG underlying44 rfl (by rw [List.size_toArray];exact ZRQ)) rfl ?_;rw [HQ7.out,HRQ.out];have hAW7:gA < W7.heap.size:=a0D UA7.out;have hAWP:gA < WP.heap.size:=a0D UX8.out;have KF:Kp [gA] Wd wF:=(Kp.refl _ _).but bF (Or.inl (by simp));have hFs:=KF.size
     have nA:∀ b ∈ [x,bs,br,bv,bt]++Y3,b ≠ gA:=fun b hb=>by
      rw [HY3.out,HY2.out] at hb;simp only [List.mem_append,e0P] at hb;rcases hb with hb | (hb | hb) | hb
      ·have:=hXlt.out b (List.mem_append.2 (Or.inl hb))
       omega
      ·have:=hXlt.out b (List.mem_append.2 (Or.inr hb))
       omega
      ·have:=HVo.out b hb
       omega
      ·have:=(hB9.out b hb).1
       omega
     refine t0a HCode.out HnG.out (G':=G++(v.ownBlock.toList++v9.ownBlock.toList)) ⟨bs,br,bv,bt,ps3,v9,Y3,ZE.out.kp KF (fun b hb hx=>nA b hb (by simpa using hx)),fun b hb=>?_,fun b hb=>?_⟩ (PVd.out.kp KF (fun b hb hx=>nA b (by rw [HY3.out];simp [hb]) (by simpa using hx))).pens (KWd.out.but bF (Or.inr (by omega))) (fun b hb=>?_)
     ·rw [HY3.out,HY2.out] at hb
      simp only [List.mem_append,e0P] at hb ⊢;rcases hb with hb | (hb | hb) | hb
      ·exact Or.inl (HG1.out b (List.mem_append.2 (Or.inl hb)))
      ·exact Or.inl (HG1.out b (List.mem_append.2 (Or.inr hb)))
      ·exact Or.inr (Or.inl hb)
      ·exact Or.inr (Or.inr hb)
     ·simp only [List.mem_append,e0P] at hb
      have hsJ:=hJ.size;rcases hb with hb | hb | hb
      ·have:=HG2.out b hb
       omega
      ·have:=OK2.out.lt b hb
       omega
      ·have:=(hB9.out b hb).2
       omega
     ·simp only [List.mem_append,e0P] at hb
      rcases hb with hb | hb | hb
      ·exact Or.inl hb
      ·have:=HVo.out b hb
       exact Or.inr (by omega)
      ·have:=(hB9.out b hb).1
       exact Or.inr (by omega)
open Go Go.RowKit
theorem f0Y {w:World} {x:Nat} {G:List Nat} {R:Rs} (h:RY w x G R) {c:Int} {X:Sub} (hx:X.Wf) :
  Calls prog 10 #[pt x 0,nu c,.agg (subC X).toArray] w (RSub w x G R c X):=by
 cases h1:mayB (subM c X) with
 | false=>exact w0B h hx h1
 | true =>
  cases h2:hasB R.n c with
  | false=>exact w0C h hx h1 h2
  | true =>
   cases h3:hasB R.n X.target with
   | false=>exact w0D h hx h1 h2 h3
   | true =>
    have hok:c0R R c X=true:=by unfold c0R;rw [h1,h2,h3];rfl
    obtain ⟨⟨h0,-⟩,-⟩:=b0r hok;obtain ⟨k,rfl⟩:∃ k:Nat,c=(k:Int):=⟨c.toNat,by omega⟩;by_cases h4:X.number=(R.reg (k:Int)).asked.number
    ·cases h5:f0s X (R.reg (k:Int)).asked with
     | false=>exact w0E h hx hok h4 h5
     | true=>exact w0F h hx hok h4 h5
    ·by_cases h5:X.number=(R.reg (k:Int)).asked.number + 1
     ·cases h6:f0H R with
      | false=>exact w0K h hx hok h5 h6
      | true=>exact w0H h hx hok h5 h6
     ·exact w0G h hx hok h4 h5
end Go.Proofs.YtagmnmoaekbffaaGreatDoor.Ms
