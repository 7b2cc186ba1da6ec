/- V05 -/
import Derived.Test.YtagmnmoaekbffaaGreatDoorU02
import Derived.Test.YtagmnmoaekbffaaGreatDoorTfri
import Derived.Test.YtagmnmoaekbffaaGreatDoorS29
import Derived.Test.YtagmnmoaekbffaaGreatDoorS04
import Derived.Test.YtagmnmoaekbffaaGreatDoorS27
set_option maxHeartbeats 8000000
namespace Go.Proofs.YtagmnmoaekbffaaGreatDoor.Ms
open Go.Proofs.Tryz
open Go Go.RowKit
set_option maxRecDepth 100000
theorem i0c {c:Int} {v t:List UInt8} (ht:t.length=32):(comM c v t).Wf:=⟨wfZeroS,wfZeroR,ht,rfl,wfZeroB⟩
theorem byte_at (y:List UInt8) (j:Nat) (h:j < (⟨y.toArray⟩:ByteArray).size):((⟨y.toArray⟩:ByteArray)[j]'h).toNat=(y.getD j 0).toNat:=by
 have hj:j < y.length:=h;simp [ByteArray.getElem_eq_getElem_data,List.getD,hj]
def RCom (w:World) (x:Nat) (G:List Nat) (R:Rs) (c:Int) (v t:List UInt8) (e:Ending) (w':World):Prop:=∃ G',e = .returned (nu (comE R c v t))/\RY w' x G' (comR R c v t)/\Kp G w w'/\∀ b ∈ G',b ∈ G ∨ w.heap.size <= b
theorem f0Z {w w':World} {x:Nat} {G:List Nat} {R:Rs} (h:RY w x G R) {c:Int} {v t:List UInt8} (he:comE R c v t ≠ 0) (hb:Below w.heap.size w w'):RCom w x G R c v t (.returned (nu (comE R c v t))) w':=by
 refine ⟨G,rfl,?_,Kp.of hb,fun b hb=>Or.inl hb⟩;unfold comR;rw [if_pos he];exact h.kept hb
theorem w0M {w:World} {x:Nat} {G:List Nat} {R:Rs} (h:RY w x G R) {c:Int} {v t:List UInt8} (htl:t.length=32) (hm:mayB (comM c v t)=false) :
  Calls prog 20 #[pt x 0,nu c,st v,.agg (dg t).toArray] w (RCom w x G R c v t):=by
 have hcode:comE R c v t=2:=by unfold comE d0P;rw [hm,Bool.and_false,if_pos rfl]
 have HEnd:Hid (∀ w',Below w.heap.size w w'->RCom w x G R c v t (.returned (nu 2)) w'):=fun w' hb=>by
  have:=f0Z h (c:=c) (v:=v) (t:=t) (by rw [hcode];decide) hb
  rwa [hcode] at this
 have B1:=hid (a0c w (.cells (dg t).toArray 38));have T1:=hid (a0f w (.cells (dg t).toArray 38));have H1:=hid (h.kept B1.out);have ZT:(prog.info? 38).map (·.size)=some (dg t).length:=by rw [a0e,htl];exact sizeDig
 have SX:=hid (fun (W:World) (hb:Below (w.alloc (.cells (dg t).toArray 38)).heap.size (w.alloc (.cells (dg t).toArray 38)) W)=>a0s (off:=0) (A:=[]) (cs:=dg t) (C:=[]) (a0a T1.out hb) (by simp) rfl);have HBm:=hid (fun W=>c0Z W c v t htl);have HMy:=hid (rmay (vP:=.slice none 0 0) (vN:=.slice none 0 0) (i0c (c:=c) (v:=v) htl) a0r (a0g.nil (w.alloc (.cells (dg t).toArray 38))) (a0w.nil _) ⟨Nat.zero_le _,Nat.zero_le _⟩ (Or.inr rfl));have HIs:=hid (fun (W:World) (hb:Below (w.alloc (.cells (dg t).toArray 38)).heap.size (w.alloc (.cells (dg t).toArray 38)) W)=>a0F (H1.out.kept hb) c);rw [hm] at HMy;clear h T1 hcode hm H1 HIs htl;show Calls _ _ _ _ (fun e w'=>RCom w x G R c v t e w');have HSS:=hid (SX.out _ (Below.refl _ _));generalize msgC (comM c v t) (.slice none 0 0) (.slice none 0 0)=MV at *;generalize dg t=TT at *;go_enter func20,ntmps20;go_upto_region 1 with fail
 generalize w.alloc (.cells TT.toArray 38)=W1 at *;have hB1:w.heap.size <= W1.heap.size:=B1.out.size;obtain ⟨gX,hgX⟩:∃ gX,gX=w.heap.size:=⟨_,rfl⟩;rw [← hgX] at HSS SX ⊢;have HgX:=hid hgX;clear hgX
 go_wp2_with (first
  | ((with_reducible refine a0d 38 (.tmp 7) ?_ gX 0 ?_ ?_ TT _ HSS.out underlying38 ?_ ZT ?_);iterate 4 exact rfl)
  | ((with_reducible refine b0t 80 [(0,.const (nu 3)),(1,.tmp 12),(4,.tmp 13),(6,.tmp 14)] ?_ ?_ MV.toArray ?_ ?_);exact rfl;exact rfl;exact (HBm.out _)))
 refine HMy.out.mono ?_;rintro e W2 ⟨rfl,hb2⟩;have B2:=hid (a0b B1.out hb2);have A2:=hid hb2;clear hb2;go_wp2;go_ret;exact HEnd.out _ B2.out
theorem w0N {w:World} {x:Nat} {G:List Nat} {R:Rs} (h:RY w x G R) {c:Int} {v t:List UInt8} (htl:t.length=32) (hm:mayB (comM c v t)=true) (hh:hasB R.n c=false) :
  Calls prog 20 #[pt x 0,nu c,st v,.agg (dg t).toArray] w (RCom w x G R c v t):=by
 have hcode:comE R c v t=2:=by unfold comE d0P;rw [hh,Bool.false_and,if_pos rfl]
 have HEnd:Hid (∀ w',Below w.heap.size w w'->RCom w x G R c v t (.returned (nu 2)) w'):=fun w' hb=>by
  have:=f0Z h (c:=c) (v:=v) (t:=t) (by rw [hcode];decide) hb
  rwa [hcode] at this
 have B1:=hid (a0c w (.cells (dg t).toArray 38));have T1:=hid (a0f w (.cells (dg t).toArray 38));have H1:=hid (h.kept B1.out);have ZT:(prog.info? 38).map (·.size)=some (dg t).length:=by rw [a0e,htl];exact sizeDig
 have SX:=hid (fun (W:World) (hb:Below (w.alloc (.cells (dg t).toArray 38)).heap.size (w.alloc (.cells (dg t).toArray 38)) W)=>a0s (off:=0) (A:=[]) (cs:=dg t) (C:=[]) (a0a T1.out hb) (by simp) rfl);have HBm:=hid (fun W=>c0Z W c v t htl);have HMy:=hid (rmay (vP:=.slice none 0 0) (vN:=.slice none 0 0) (i0c (c:=c) (v:=v) htl) a0r (a0g.nil (w.alloc (.cells (dg t).toArray 38))) (a0w.nil _) ⟨Nat.zero_le _,Nat.zero_le _⟩ (Or.inr rfl));have HIs:=hid (fun (W:World) (hb:Below (w.alloc (.cells (dg t).toArray 38)).heap.size (w.alloc (.cells (dg t).toArray 38)) W)=>a0F (H1.out.kept hb) c);rw [hm] at HMy;rw [hh] at HIs;clear h T1 hcode hm H1 hh htl;show Calls _ _ _ _ (fun e w'=>RCom w x G R c v t e w');have HSS:=hid (SX.out _ (Below.refl _ _));generalize msgC (comM c v t) (.slice none 0 0) (.slice none 0 0)=MV at *;generalize dg t=TT at *;go_enter func20,ntmps20;go_upto_region 1 with fail
 generalize w.alloc (.cells TT.toArray 38)=W1 at *;have hB1:w.heap.size <= W1.heap.size:=B1.out.size;obtain ⟨gX,hgX⟩:∃ gX,gX=w.heap.size:=⟨_,rfl⟩;rw [← hgX] at HSS SX ⊢;have HgX:=hid hgX;clear hgX
 go_wp2_with (first
  | ((with_reducible refine a0d 38 (.tmp 7) ?_ gX 0 ?_ ?_ TT _ HSS.out underlying38 ?_ ZT ?_);iterate 4 exact rfl)
  | ((with_reducible refine b0t 80 [(0,.const (nu 3)),(1,.tmp 12),(4,.tmp 13),(6,.tmp 14)] ?_ ?_ MV.toArray ?_ ?_);exact rfl;exact rfl;exact (HBm.out _)))
 refine HMy.out.mono ?_;rintro e W2 ⟨rfl,hb2⟩;have B2:=hid (a0b B1.out hb2);have A2:=hid hb2;clear hb2
 go_wp2_with fail
 refine (HIs.out _ A2.out).mono ?_;rintro e w1 ⟨rfl,hw1⟩;subst w1;go_wp2;go_ret;exact HEnd.out _ B2.out
theorem w0O {w:World} {x:Nat} {G:List Nat} {R:Rs} (h:RY w x G R) {k:Nat} {v t:List UInt8} (htl:t.length=32) (hok:d0P R (k:Int) v t=true) (h3:c0i v ≠ (k:Int)) :
  Calls prog 20 #[pt x 0,nu (k:Int),st v,.agg (dg t).toArray] w (RCom w x G R (k:Int) v t):=by
 obtain ⟨h1,h2⟩:hasB R.n (k:Int)=true/\mayB (comM (k:Int) v t)=true:=by simpa [d0P,Bool.and_eq_true] using hok
 obtain ⟨hkn,hne,hvl,-⟩:=c0q hok;have hkR:k < R.n:=by omega
 have hcode:comE R (k:Int) v t=3:=by unfold comE;rw [if_neg (by rw [hok];simp),if_pos (Or.inl h3)]
 have HEnd:Hid (∀ w',Below w.heap.size w w'->RCom w x G R (k:Int) v t (.returned (nu 3)) w'):=fun w' hb=>by
  have:=f0Z h (c:=(k:Int)) (v:=v) (t:=t) (by rw [hcode];decide) hb
  rwa [hcode] at this
 have B1:=hid (a0c w (.cells (dg t).toArray 38));have T1:=hid (a0f w (.cells (dg t).toArray 38));have H1:=hid (h.kept B1.out);have ZT:(prog.info? 38).map (·.size)=some (dg t).length:=by rw [a0e,htl];exact sizeDig
 have SX:=hid (fun (W:World) (hb:Below (w.alloc (.cells (dg t).toArray 38)).heap.size (w.alloc (.cells (dg t).toArray 38)) W)=>a0s (off:=0) (A:=[]) (cs:=dg t) (C:=[]) (a0a T1.out hb) (by simp) rfl);have HBm:=hid (fun W=>c0Z W (k:Int) v t htl);have HMy:=hid (rmay (vP:=.slice none 0 0) (vN:=.slice none 0 0) (i0c (c:=(k:Int)) (v:=v) htl) a0r (a0g.nil (w.alloc (.cells (dg t).toArray 38))) (a0w.nil _) ⟨Nat.zero_le _,Nat.zero_le _⟩ (Or.inr rfl));have HIs:=hid (fun (W:World) (hb:Below (w.alloc (.cells (dg t).toArray 38)).heap.size (w.alloc (.cells (dg t).toArray 38)) W)=>a0F (H1.out.kept hb) (k:Int))
 obtain ⟨m,hm⟩:∃ m,v.length=m + 1:=by
  cases v with
  | nil=>exact absurd rfl hne
  | cons a l=>exact ⟨l.length,rfl⟩
 have hss:(⟨v.toArray⟩:ByteArray).size=m + 1:=hm;have hq:((⟨v.toArray⟩:ByteArray)[m]'(by rw [hss];omega)).toNat=(v.getD m 0).toNat:=byte_at v m _;have HLI:Hid (c0i v=(((v.getD m 0).toNat:Nat):Int)):=by show _=_;unfold c0i;rw [hm];rfl
 obtain ⟨bb,HBB⟩:∃ bb:Nat,Hid (bb=(v.getD m 0).toNat):=⟨_,rfl⟩;have hbb:bb < 256:=by rw [HBB.out];exact UInt8.toNat_lt _
 rw [← HBB.out] at hq HLI;have hw6:wrap64 (bb:Int)=(bb:Int):=by unfold wrap64;omega
 have HCn:=hid (fun W=>Hist.rcount_any v (by omega) (k:Int) W)
 have hd:((bb:Int) != (k:Int))=true:=by
  rw [HLI.out] at h3;exact bne_iff_ne.2 h3
 have hd':(bb != k)=true:=by
  rw [HLI.out] at h3;exact bne_iff_ne.2 (fun e=>h3 (by rw [e]))
 rw [h2] at HMy;rw [h1] at HIs;clear h T1 hcode h1 h2 H1 htl hok hkn hne HBB h3 HLI;generalize Hist.cnt v (k:Int)=cv at *;show Calls _ _ _ _ (fun e w'=>RCom w x G R (k:Int) v t e w');have HSS:=hid (SX.out _ (Below.refl _ _));generalize msgC (comM (k:Int) v t) (.slice none 0 0) (.slice none 0 0)=MV at *;generalize dg t=TT at *;go_enter func20,ntmps20;go_upto_region 1 with fail
 generalize w.alloc (.cells TT.toArray 38)=W1 at *;have hB1:w.heap.size <= W1.heap.size:=B1.out.size;obtain ⟨gX,hgX⟩:∃ gX,gX=w.heap.size:=⟨_,rfl⟩;rw [← hgX] at HSS SX ⊢;have HgX:=hid hgX;clear hgX
 go_wp2_with (first
  | ((with_reducible refine a0d 38 (.tmp 7) ?_ gX 0 ?_ ?_ TT _ HSS.out underlying38 ?_ ZT ?_);iterate 4 exact rfl)
  | ((with_reducible refine b0t 80 [(0,.const (nu 3)),(1,.tmp 12),(4,.tmp 13),(6,.tmp 14)] ?_ ?_ MV.toArray ?_ ?_);exact rfl;exact rfl;exact (HBm.out _)))
 refine HMy.out.mono ?_;rintro e W2 ⟨rfl,hb2⟩;have B2:=hid (a0b B1.out hb2);have A2:=hid hb2;clear hb2
 go_wp2_with fail
 refine (HIs.out _ A2.out).mono ?_;rintro e w1 ⟨rfl,hw1⟩;subst w1
 go_wp2_with fail
 refine (HCn.out _).mono ?_;rintro e w1 ⟨rfl,hw1⟩;subst w1;have B3:=B2;go_wp2;go_ret;exact HEnd.out _ B3.out
theorem w0P {w:World} {x:Nat} {G:List Nat} {R:Rs} (h:RY w x G R) {k:Nat} {v t:List UInt8} (htl:t.length=32) (hok:d0P R (k:Int) v t=true) (h3:c0i v=(k:Int)) (h4:(Hist.cnt v (k:Int):Int) ≠ (R.reg (k:Int)).asked.number) :
  Calls prog 20 #[pt x 0,nu (k:Int),st v,.agg (dg t).toArray] w (RCom w x G R (k:Int) v t):=by
 obtain ⟨h1,h2⟩:hasB R.n (k:Int)=true/\mayB (comM (k:Int) v t)=true:=by simpa [d0P,Bool.and_eq_true] using hok
 obtain ⟨hkn,hne,hvl,-⟩:=c0q hok;have hkR:k < R.n:=by omega
 have hcode:comE R (k:Int) v t=3:=by unfold comE;rw [if_neg (by rw [hok];simp),if_pos (Or.inr h4)]
 have HEnd:Hid (∀ w',Below w.heap.size w w'->RCom w x G R (k:Int) v t (.returned (nu 3)) w'):=fun w' hb=>by
  have:=f0Z h (c:=(k:Int)) (v:=v) (t:=t) (by rw [hcode];decide) hb
  rwa [hcode] at this
 have B1:=hid (a0c w (.cells (dg t).toArray 38));have T1:=hid (a0f w (.cells (dg t).toArray 38));have H1:=hid (h.kept B1.out);have ZT:(prog.info? 38).map (·.size)=some (dg t).length:=by rw [a0e,htl];exact sizeDig
 have SX:=hid (fun (W:World) (hb:Below (w.alloc (.cells (dg t).toArray 38)).heap.size (w.alloc (.cells (dg t).toArray 38)) W)=>a0s (off:=0) (A:=[]) (cs:=dg t) (C:=[]) (a0a T1.out hb) (by simp) rfl);have HBm:=hid (fun W=>c0Z W (k:Int) v t htl);have HMy:=hid (rmay (vP:=.slice none 0 0) (vN:=.slice none 0 0) (i0c (c:=(k:Int)) (v:=v) htl) a0r (a0g.nil (w.alloc (.cells (dg t).toArray 38))) (a0w.nil _) ⟨Nat.zero_le _,Nat.zero_le _⟩ (Or.inr rfl));have HIs:=hid (fun (W:World) (hb:Below (w.alloc (.cells (dg t).toArray 38)).heap.size (w.alloc (.cells (dg t).toArray 38)) W)=>a0F (H1.out.kept hb) (k:Int));obtain ⟨bs,br,bv,bt,ps,vP,Y,hz,hG1,hG2⟩:=h;have HZ1:=hid (hz.kept B1.out);obtain ⟨AN,HAN⟩:∃ AN,Hid (AN=(R.reg (k:Int)).asked.number):=⟨_,rfl⟩
 obtain ⟨m,hm⟩:∃ m,v.length=m + 1:=by
  cases v with
  | nil=>exact absurd rfl hne
  | cons a l=>exact ⟨l.length,rfl⟩
 have hss:(⟨v.toArray⟩:ByteArray).size=m + 1:=hm;have hq:((⟨v.toArray⟩:ByteArray)[m]'(by rw [hss];omega)).toNat=(v.getD m 0).toNat:=byte_at v m _;have HLI:Hid (c0i v=(((v.getD m 0).toNat:Nat):Int)):=by show _=_;unfold c0i;rw [hm];rfl
 obtain ⟨bb,HBB⟩:∃ bb:Nat,Hid (bb=(v.getD m 0).toNat):=⟨_,rfl⟩;have hbb:bb < 256:=by rw [HBB.out];exact UInt8.toNat_lt _
 rw [← HBB.out] at hq HLI;have hw6:wrap64 (bb:Int)=(bb:Int):=by unfold wrap64;omega
 have HCn:=hid (fun W=>Hist.rcount_any v (by omega) (k:Int) W)
 have hd:((bb:Int) != (k:Int))=false:=by
  rw [HLI.out] at h3;rw [h3];exact bne_self_eq_false _
 have hd':(bb != k)=false:=by
  rw [HLI.out] at h3;have:bb=k:=by omega
  rw [this];exact bne_self_eq_false _
 have h5:(Hist.cnt v (k:Int):Int) ≠ AN:=by rw [HAN.out];exact h4
 rw [h2] at HMy;rw [h1] at HIs;clear T1 hcode h1 h2 H1 htl hok hkn hne HBB h3 HLI h4 hz hG1 hG2;generalize Hist.cnt v (k:Int)=cv at *;have hd2:((cv:Int) != AN)=true:=bne_iff_ne.2 h5;clear h5;show Calls _ _ _ _ (fun e w'=>RCom w x G R (k:Int) v t e w');have HSS:=hid (SX.out _ (Below.refl _ _));generalize msgC (comM (k:Int) v t) (.slice none 0 0) (.slice none 0 0)=MV at *;generalize dg t=TT at *;go_enter func20,ntmps20;go_upto_region 1 with fail
 generalize w.alloc (.cells TT.toArray 38)=W1 at *;have hB1:w.heap.size <= W1.heap.size:=B1.out.size;obtain ⟨gX,hgX⟩:∃ gX,gX=w.heap.size:=⟨_,rfl⟩;rw [← hgX] at HSS SX ⊢;have HgX:=hid hgX;clear hgX
 go_wp2_with (first
  | ((with_reducible refine a0d 38 (.tmp 7) ?_ gX 0 ?_ ?_ TT _ HSS.out underlying38 ?_ ZT ?_);iterate 4 exact rfl)
  | ((with_reducible refine b0t 80 [(0,.const (nu 3)),(1,.tmp 12),(4,.tmp 13),(6,.tmp 14)] ?_ ?_ MV.toArray ?_ ?_);exact rfl;exact rfl;exact (HBm.out _)))
 refine HMy.out.mono ?_;rintro e W2 ⟨rfl,hb2⟩;have B2:=hid (a0b B1.out hb2);have A2:=hid hb2;clear hb2
 go_wp2_with fail
 refine (HIs.out _ A2.out).mono ?_;rintro e w1 ⟨rfl,hw1⟩;subst w1
 go_wp2_with fail
 refine (HCn.out _).mono ?_;rintro e w1 ⟨rfl,hw1⟩;subst w1;have B3:=B2;have HZ3:=hid (HZ1.out.kept A2.out);have c1:=HZ3.out.cS;have c2:W2.cell? ⟨bs,k * 68,none⟩=some (nu AN):=by rw [HAN.out];exact HZ3.out.sub hkR 0 _ rfl
 have c3:=HZ3.out.cV;have c4:=HZ3.out.view hkR;unfold sl at c1 c3;go_wp2;go_ret;exact HEnd.out _ B3.out
theorem w0Q {w:World} {x:Nat} {G:List Nat} {R:Rs} (h:RY w x G R) {k:Nat} {v t:List UInt8} (htl:t.length=32) (hok:d0P R (k:Int) v t=true) (h3:c0i v=(k:Int)) (h4:(Hist.cnt v (k:Int):Int)=(R.reg (k:Int)).asked.number) (h6:(Hist.cnt (R.reg (k:Int)).view (k:Int):Int)=(R.reg (k:Int)).asked.number) :
  Calls prog 20 #[pt x 0,nu (k:Int),st v,.agg (dg t).toArray] w (RCom w x G R (k:Int) v t):=by
 obtain ⟨h1,h2⟩:hasB R.n (k:Int)=true/\mayB (comM (k:Int) v t)=true:=by simpa [d0P,Bool.and_eq_true] using hok
 obtain ⟨hkn,hne,hvl,-⟩:=c0q hok;have hkR:k < R.n:=by omega
 have hcode:comE R (k:Int) v t=10:=by unfold comE;rw [if_neg (by rw [hok];simp),if_neg (by omega),if_pos h6]
 have HEnd:Hid (∀ w',Below w.heap.size w w'->RCom w x G R (k:Int) v t (.returned (nu 10)) w'):=fun w' hb=>by
  have:=f0Z h (c:=(k:Int)) (v:=v) (t:=t) (by rw [hcode];decide) hb
  rwa [hcode] at this
 have B1:=hid (a0c w (.cells (dg t).toArray 38));have T1:=hid (a0f w (.cells (dg t).toArray 38));have H1:=hid (h.kept B1.out);have ZT:(prog.info? 38).map (·.size)=some (dg t).length:=by rw [a0e,htl];exact sizeDig
 have SX:=hid (fun (W:World) (hb:Below (w.alloc (.cells (dg t).toArray 38)).heap.size (w.alloc (.cells (dg t).toArray 38)) W)=>a0s (off:=0) (A:=[]) (cs:=dg t) (C:=[]) (a0a T1.out hb) (by simp) rfl);have HBm:=hid (fun W=>c0Z W (k:Int) v t htl);have HMy:=hid (rmay (vP:=.slice none 0 0) (vN:=.slice none 0 0) (i0c (c:=(k:Int)) (v:=v) htl) a0r (a0g.nil (w.alloc (.cells (dg t).toArray 38))) (a0w.nil _) ⟨Nat.zero_le _,Nat.zero_le _⟩ (Or.inr rfl));have HIs:=hid (fun (W:World) (hb:Below (w.alloc (.cells (dg t).toArray 38)).heap.size (w.alloc (.cells (dg t).toArray 38)) W)=>a0F (H1.out.kept hb) (k:Int));obtain ⟨bs,br,bv,bt,ps,vP,Y,hz,hG1,hG2⟩:=h;have HZ1:=hid (hz.kept B1.out);obtain ⟨AN,HAN⟩:∃ AN,Hid (AN=(R.reg (k:Int)).asked.number):=⟨_,rfl⟩
 obtain ⟨m,hm⟩:∃ m,v.length=m + 1:=by
  cases v with
  | nil=>exact absurd rfl hne
  | cons a l=>exact ⟨l.length,rfl⟩
 have hss:(⟨v.toArray⟩:ByteArray).size=m + 1:=hm;have hq:((⟨v.toArray⟩:ByteArray)[m]'(by rw [hss];omega)).toNat=(v.getD m 0).toNat:=byte_at v m _;have HLI:Hid (c0i v=(((v.getD m 0).toNat:Nat):Int)):=by show _=_;unfold c0i;rw [hm];rfl
 obtain ⟨bb,HBB⟩:∃ bb:Nat,Hid (bb=(v.getD m 0).toNat):=⟨_,rfl⟩;have hbb:bb < 256:=by rw [HBB.out];exact UInt8.toNat_lt _
 rw [← HBB.out] at hq HLI;have hw6:wrap64 (bb:Int)=(bb:Int):=by unfold wrap64;omega
 have HCn:=hid (fun W=>Hist.rcount_any v (by omega) (k:Int) W)
 have hd:((bb:Int) != (k:Int))=false:=by
  rw [HLI.out] at h3;rw [h3];exact bne_self_eq_false _
 have hd':(bb != k)=false:=by
  rw [HLI.out] at h3;have:bb=k:=by omega
  rw [this];exact bne_self_eq_false _
 obtain ⟨ov,HOV⟩:∃ ov,Hid (ov=(R.reg (k:Int)).view):=⟨_,rfl⟩;have HCo:=hid (fun W=>Hist.rcount_any ov (by rw [HOV.out];have:=(hz.inv.reg (k:Int)).view;omega) (k:Int) W);have h5:(Hist.cnt v (k:Int):Int)=AN:=by rw [HAN.out];exact h4
 have h7:(Hist.cnt ov (k:Int):Int)=(Hist.cnt v (k:Int):Int):=by rw [HOV.out,h6,h4]
 rw [h2] at HMy;rw [h1] at HIs;clear T1 hcode h1 h2 H1 htl hok hkn hne HBB h3 HLI h4 hz hG1 hG2 h6;generalize Hist.cnt v (k:Int)=cv at *;generalize Hist.cnt ov (k:Int)=co at *;have hd2:((cv:Int) != AN)=false:=by rw [h5];exact bne_self_eq_false _
 have hd3:((co:Int) == (cv:Int))=true:=by rw [h7];exact beq_self_eq_true _
 have hd3':(co == cv)=true:=by
  have:co=cv:=by omega
  rw [this];exact beq_self_eq_true _
 clear h5 h7;show Calls _ _ _ _ (fun e w'=>RCom w x G R (k:Int) v t e w');have HSS:=hid (SX.out _ (Below.refl _ _));generalize msgC (comM (k:Int) v t) (.slice none 0 0) (.slice none 0 0)=MV at *;generalize dg t=TT at *;go_enter func20,ntmps20;go_upto_region 1 with fail
 generalize w.alloc (.cells TT.toArray 38)=W1 at *;have hB1:w.heap.size <= W1.heap.size:=B1.out.size;obtain ⟨gX,hgX⟩:∃ gX,gX=w.heap.size:=⟨_,rfl⟩;rw [← hgX] at HSS SX ⊢;have HgX:=hid hgX;clear hgX
 go_wp2_with (first
  | ((with_reducible refine a0d 38 (.tmp 7) ?_ gX 0 ?_ ?_ TT _ HSS.out underlying38 ?_ ZT ?_);iterate 4 exact rfl)
  | ((with_reducible refine b0t 80 [(0,.const (nu 3)),(1,.tmp 12),(4,.tmp 13),(6,.tmp 14)] ?_ ?_ MV.toArray ?_ ?_);exact rfl;exact rfl;exact (HBm.out _)))
 refine HMy.out.mono ?_;rintro e W2 ⟨rfl,hb2⟩;have B2:=hid (a0b B1.out hb2);have A2:=hid hb2;clear hb2
 go_wp2_with fail
 refine (HIs.out _ A2.out).mono ?_;rintro e w1 ⟨rfl,hw1⟩;subst w1
 go_wp2_with fail
 refine (HCn.out _).mono ?_;rintro e w1 ⟨rfl,hw1⟩;subst w1;have B3:=B2;have HZ3:=hid (HZ1.out.kept A2.out);have c1:=HZ3.out.cS;have c2:W2.cell? ⟨bs,k * 68,none⟩=some (nu AN):=by rw [HAN.out];exact HZ3.out.sub hkR 0 _ rfl
 have c3:=HZ3.out.cV;have c4:=HZ3.out.view hkR;unfold sl at c1 c3;rw [← HOV.out] at c4
 go_wp2_with fail
 refine (HCo.out _).mono ?_;rintro e w1 ⟨rfl,hw1⟩;subst w1;have B4:=B3;go_wp2;go_ret;exact HEnd.out _ B4.out
open Go Go.RowKit
set_option maxRecDepth 100000
theorem r0A (w:World) (l:List UInt8) (base:Nat) (hb:base <= w.heap.size) (hl:l.length <= 1000000):brow (Lib.bytesWorld w 5 ⟨l.toArray⟩) base (.slice (some ⟨w.heap.size,0,none⟩) l.length (grownCap w l.length 0 5)) l:=by
 have hg:=grownCap_ge w l.length 0 5
 have hs:(Lib.bytesCells w 5 ⟨l.toArray⟩).size=grownCap w l.length 0 5:=by
  simp only [Lib.bytesCells,Array.size_append,Array.size_map,Array.size_replicate];show l.length + (grownCap w l.length 0 5 - l.length)=_;omega
 refine .inr ⟨w.heap.size,grownCap w l.length 0 5,Lib.bytesCells w 5 ⟨l.toArray⟩,_,rfl,hb,Lib.bytesWorld_at_new w 5 ⟨l.toArray⟩,?_,hg,hs,grownCap_le_maxLen w _ _ _ (by unfold maxLen;omega),?_⟩
 ·intro j hj h
  simp only at h;omega
 ·simp only [Lib.bytesCells,Array.toList_append,Array.toList_map]
  rw [List.take_append_of_le_length (by simp),List.take_of_length_le (by simp)];rfl
theorem m0W (w:World) (s:ByteArray):Below w.heap.size w (Lib.bytesWorld w 5 s) :=
 ⟨rfl,rfl,rfl,by rw [Lib.bytesWorld_size];omega,fun k hk=>Lib.bytesWorld_at_old w 5 s k hk⟩
theorem p0c {w:World} {y:Rep} {v:Value} (hw:y.Wf) (hv:a0g w v y.pend) (hcl:∀ p ∈ y.pend,0 <= p.client/\p.client < 256) (hl1:y.view.length <= 1000) (hl2:y.pend.length <= 1000) (c:Nat) (hc:c < 256) :
  Calls prog 12 #[.agg (repC y v).toArray,nu (c:Int)] w fun e w'=>e = .returned (st (d0X y (c:Int)))/\Below w.heap.size w w':=by
 obtain ⟨va,vcap,rfl,hat⟩:=hv;have T0:=a0f w (.cells (repC y (.slice va y.pend.length vcap)).toArray 44);have B0:=hid (a0c w (.cells (repC y (.slice va y.pend.length vcap)).toArray 44));have cv:=b0B T0 hw;have CP:=hid (f0n T0 hw);have hcl':=hid hcl;have HAT:=hid hat;clear T0 hw hat hcl;generalize repC y (.slice va y.pend.length vcap)=RC at *;go_enter func12,ntmps12;go_upto_region 1 with fail
 generalize w.alloc (.cells RC.toArray 44)=W0 at *;generalize hg0:w.heap.size=g0 at *;have HB:=hid (m0W W0 ⟨y.view.toArray⟩);have HW:=hid (r0A W0 y.view W0.heap.size (Nat.le_refl _) (by omega));have hcv:(convert 9 63 (.string ⟨y.view.toArray⟩)).run prog W0 = .ok (.slice (some ⟨W0.heap.size,0,none⟩) y.view.length (grownCap W0 y.view.length 0 5)) (Lib.bytesWorld W0 5 ⟨y.view.toArray⟩):=Lib.run_convert_string_bytes W0 9 63 5 ⟨y.view.toArray⟩ underlying9 underlying63 underlying5;generalize grownCap W0 y.view.length 0 5=gc at *;generalize Lib.bytesWorld W0 5 ⟨y.view.toArray⟩=W1 at *;have HAK:Hid (a0g W0 (.slice va y.pend.length vcap) y.pend):=a0g.kept (w:=w) ⟨va,vcap,rfl,HAT.out⟩ (by rw [hg0];exact B0.out);go_wp2;clear hcv cv HAT;go_loopw [6,5] (fun i vv wr=>∃ (k:Nat) (v:Value),k <= y.pend.length/\i=nu k/\v=vv/\Hid (brow wr W0.heap.size v (y.view++(y.pend.take k).map fun x=>by8 x.client))/\Hid (Below W0.heap.size W0 wr)/\Hid (v ≠ .slice none 0 0)) (fun i _ _=>y.pend.length - (intOf i).toNat)
 case atStart=>exact ⟨0,_,by omega,rfl,rfl,by show brow _ _ _ _;simpa using HW.out,HB.out,fun h=>by cases h⟩
 case round =>
  obtain ⟨k,v3,hk,rfl,rfl,HV,HBr,HNN⟩:=hrel;clear HB HW;have cP:=e0r CP.out HBr.out;have hs2:W0.heap.size <= wr.heap.size:=HBr.out.size;by_cases hlt:k < y.pend.length
  ·have d1:decide ((k:Int) < (y.pend.length:Int))=true:=decide_eq_true (by omega)
   have d1':decide (k < y.pend.length)=true:=decide_eq_true hlt;have hpk:=hcl'.out _ (List.getElem_mem hlt);obtain ⟨va',cap',ev,hat'⟩:=HAK.out.kept HBr.out
   cases ev
   obtain ⟨b,off,rfl,hcc⟩:=hat' (fun e=>by rw [e] at hlt;exact absurd hlt (Nat.not_lt_zero k));obtain ⟨d,hd⟩:∃ d:Nat,y.pend[k].client=(d:Int):=⟨y.pend[k].client.toNat,by omega⟩;have hd8:d < 256:=by omega
   have c0:wr.cell? ⟨b,off + k * 68,none⟩=some (nu (d:Int)):=by
    rw [← hd];refine hcc k hlt 0 _ ?_;rw [List.getD_eq_getElem?_getD,List.getElem?_eq_getElem hlt];rfl
   have htk:(y.pend.take (k + 1)).map (fun x=>by8 x.client)=(y.pend.take k).map (fun x=>by8 x.client)++[by8 y.pend[k].client]:=by
    rw [List.take_succ_eq_append_getElem hlt,List.map_append];rfl
   rw [hd] at htk;have hbv:Ms.bv (by8 (d:Int))=(d:Int):=d0Q _ (by omega);have hll':(y.view++(y.pend.take k).map fun x=>by8 x.client).length <= 2000:=by simp;omega
   have HNX:Hid ((y.view++(y.pend.take k).map fun x=>by8 x.client)++[by8 (d:Int)]=y.view++(y.pend.take (k + 1)).map fun x=>by8 x.client):=by show _=_;rw [htk,List.append_assoc]
   clear hcc hpk hd htk hat';generalize (y.view++(y.pend.take k).map fun x=>by8 x.client)=PL at *
   have hu:brow (wr.alloc (.cells #[.int .u8 (d:Int)] 5)) wr.heap.size (.slice (some ⟨wr.heap.size,0,none⟩) 1 1) [by8 (d:Int)]:=by
    have:=g0S wr wr.heap.size (by8 (d:Int)) (Nat.le_refl _);rw [show Go.Proofs.YtagmnmoaekbffaaGreatDoor.bv (by8 (d:Int))=(d:Int) from hbv] at this;exact this
   have HU:=hid hu;have V2:Hid (brow (wr.alloc (.cells #[.int .u8 (d:Int)] 5)) W0.heap.size v3 PL):=g0k HV.out (a0c wr _) (Nat.le_refl _);have B2:=hid (a0b HBr.out (a0c wr (.cells #[.int .u8 (d:Int)] 5)));have OB:=hid (j0G HV.out);clear hu HV
   go_wp2_with (first | (at_builtin;refine g0l rfl _ _ rfl W0.heap.size wr.heap.size v3 _ PL [by8 (d:Int)] rfl rfl V2.out HU.out (Or.inl HNN.out) (by simp;omega) (by simp;omega) ?_;intro v4 W4 hv4 hg4;rw [HNX.out] at hv4;have V4:=hid hv4;have G4:=hid hg4;clear hv4 hg4))
   refine ⟨⟨k + 1,v4,by omega,by go_num,rfl,V4.out,?_,?_⟩,by simp [intOf];omega⟩
   ·exact ((Kp.of (X:=[]) B2.out).grown G4.out (fun b hb=>Or.inr (OB.out b hb))).below (by simp) (Nat.le_refl _)
   ·rintro rfl
    rcases V4.out with ⟨-,e⟩ | ⟨g',cap',cur',fz',e,-⟩
    ·rw [← HNX.out] at e
     simp at e
    ·cases e
  ·have e:k=y.pend.length:=by omega
   subst e;rw [List.take_length] at HV;have hbv:Ms.bv (by8 (c:Int))=(c:Int):=d0Q _ (by omega);have hll':(y.view++y.pend.map fun x=>by8 x.client).length <= 2000:=by simp;omega
   have HNX:Hid ((y.view++y.pend.map fun x=>by8 x.client)++[by8 (c:Int)]=d0X y (c:Int)):=rfl;generalize (y.view++y.pend.map fun x=>by8 x.client)=PL at *
   have hu:brow (wr.alloc (.cells #[.int .u8 (c:Int)] 5)) wr.heap.size (.slice (some ⟨wr.heap.size,0,none⟩) 1 1) [by8 (c:Int)]:=by
    have:=g0S wr wr.heap.size (by8 (c:Int)) (Nat.le_refl _);rw [show Go.Proofs.YtagmnmoaekbffaaGreatDoor.bv (by8 (c:Int))=(c:Int) from hbv] at this;exact this
   have HU:=hid hu;have V2:Hid (brow (wr.alloc (.cells #[.int .u8 (c:Int)] 5)) W0.heap.size v3 PL):=g0k HV.out (a0c wr _) (Nat.le_refl _);have B2:=hid (a0b HBr.out (a0c wr (.cells #[.int .u8 (c:Int)] 5)));have OB:=hid (j0G HV.out);clear hu HV;go_upto_region 7 with (first | (at_builtin;refine g0l rfl _ _ rfl W0.heap.size wr.heap.size v3 _ PL [by8 (c:Int)] rfl rfl V2.out HU.out (Or.inl HNN.out) (by simp;omega) (by simp;omega) ?_;intro v4 W4 hv4 hg4;rw [HNX.out] at hv4;have V4:=hid hv4;have G4:=hid hg4;clear hv4 hg4))
   have B4:Hid (Below W0.heap.size W0 W4):=((Kp.of (X:=[]) B2.out).grown G4.out (fun b hb=>Or.inr (OB.out b hb))).below (by simp) (Nat.le_refl _);have hx:=h0w V4.out;clear V4 G4 V2 HU;go_wp2;go_ret;exact ⟨rfl,by have:=B0.out;rw [← hg0] at this;exact hg0 ▸ a0b this B4.out⟩
open Go Go.RowKit
set_option maxRecDepth 100000
theorem n0W {R:Rs} (h:RInv R) {k:Nat} {v:List UInt8} (hv:v.length <= 512):RInv (setG R k { R.reg (k:Int) with view:=v }):=h.comS (c:=(k:Int)) (v:=v) (t:=(R.reg (k:Int)).tag) (h.reg _).tag hv
theorem r0B {R:Rs} (h:RInv R) {k:Nat} {v t:List UInt8} (hv:v.length <= 512) (ht:t.length=32):RInv (setG R k { R.reg (k:Int) with view:=v,tag:=t }):=h.comS (c:=(k:Int)) (v:=v) (t:=t) ht hv
theorem k0q {w w':World} {x:Nat} {G G':List Nat} {R:Rs} {c:Int} {v t:List UInt8} (he:comE R c v t=0) (h:RY w' x G' (comR R c v t)) (hk:Kp G w w') (hg:∀ b ∈ G',b ∈ G ∨ w.heap.size <= b):RCom w x G R c v t (.returned (nu 0)) w':=⟨G',by rw [he],h,hk,hg⟩
theorem p0d {R:Rs} {c:Int} {v t:List UInt8} (he:comE R c v t=0) (h:v.length <= R.long.length):comR R c v t=comS R c v t:=by
 unfold comR;rw [if_neg (by rw [he];simp),if_neg (by omega)]
theorem r0C {R:Rs} {c:Int} {v t:List UInt8} (he:comE R c v t=0) (h:R.long.length < v.length):comR R c v t=comL R c v t:=by
 unfold comR;rw [if_neg (by rw [he];simp),if_pos h]
def comK (R:Rs) (c:Int) (v t:List UInt8):Rs:={ comS R c v t with long:=v,ltag:=t,who:=c }
theorem t0j {R:Rs} (h:RInv R) {c:Int} {v t:List UInt8} (hv:v.length <= 512) (ht:t.length=32) (hc:0 <= c/\c < 8):RInv (comK R c v t):=by
 have h1:=h.comS (c:=c) ht hv;exact ⟨h1.n,h1.len,h1.regs,hv,ht,⟨by simp only [comK];omega,hc.2⟩,h.plen,h.pend⟩
theorem t0k {R:Rs} (h:RInv R) (q:Nat):RInv { R with pend:=R.pend.drop q } :=
 ⟨h.n,h.len,h.regs,h.long,h.ltag,h.who,by have:=h.plen;simp only [List.length_drop];omega,fun p hp=>h.pend p (List.mem_of_mem_drop hp)⟩
theorem r0D {R:Rs} {c n:Int} {v t:List UInt8} (hn:(R.reg c).asked.number=n):comL R c v t = { comK R c v t with pend:=cutP c n R.pend }:=by rw [← hn];rfl
theorem RZ.putRowK {w w':World} {x bs br bv bt:Nat} {R:Rs} {ps:List RG} {vP:Value} {Y:List Nat} (h:RZ w x bs br bv bt R ps vP Y) {R':Rs} {vP':Value} (e1:R'.n=R.n) (e2:R'.regs=R.regs) (hv:RInv R') (hr:w'.heap[x]? = some (.cells (refC R' bs br bv bt vP').toArray 86)) (hb:Kp [x] w w') (hp:b0N w Y vP' R'.pend) :
  RZ w' x bs br bv bt R' ps vP' Y:=by
 obtain ⟨n1,n2,n3,n4,-⟩:=h.nes;have hY:∀ b ∈ Y,b ∉ [x]:=fun b hy hx=>h.away b hy (by rw [List.mem_singleton] at hx;simp [hx]);exact ⟨hv,hr,hb.row h.subs (by simpa using n1.symm),hb.row h.reps (by simpa using n2.symm),hb.row h.views (by simpa using n3.symm),hb.row h.tags (by simpa using n4.symm),by rw [e1,e2];exact h.regs,hp.kp hb hY,fun q hq=>(h.all q hq).kp hb hY,h.away⟩
theorem l0L {P:Program} {w:World} (t e:TypeId) (ht:P.underlying t=some (.slice e)) (size:Nat) (hi:(P.info? e).map (·.size)=some size) (ax:Option Addr) (len cap l:Nat) (hl:l <= len) :
  (Instr.slice t (.slice ax len cap) (some (nu l)) none none).run P w = .ok (.slice (if cap=l then ax else ax.map (·.add (l * size))) (len - l) (cap - l)) w:=by
 cases hq:P.info? e with
 | none=>simp [hq] at hi
 | some i =>
  have hs:i.size=size:=by simpa [hq] using hi
  simp [Instr.slice,run_underlying ht,Instr.sliceBounds,Instr.sliceBound,asIntOf,sizeOf,typeInfo,hq,hs];intro h;omega
theorem b0N.cut {w:World} {Y:List Nat} {a:Option Addr} {cap:Nat} {l:List Pen} (h:b0N w Y (.slice a l.length cap) l) (q:Nat) (hq:q + 1 <= l.length) :
  b0N w Y (.slice (if cap=q + 1 then a else a.map (·.add ((q + 1) * 68))) (l.length - (q + 1)) (cap - (q + 1))) (l.drop (q + 1)):=by
 obtain ⟨a',cap',e,hc,hat⟩:=h
 cases e
 refine ⟨_,cap - (q + 1),by rw [List.length_drop],by rw [List.length_drop];omega,fun hne=>?_⟩
 have hlt:q + 1 < l.length:=by
  rcases Nat.lt_or_ge (q + 1) l.length with h1 | h1
  ·exact h1
  ·exact absurd (List.drop_eq_nil_of_le h1) hne
 rw [if_neg (by omega)];obtain ⟨b,off,rfl,hb,hcc⟩:=hat (fun e=>by rw [e] at hlt;exact absurd hlt (Nat.not_lt_zero _));refine ⟨b,off + (q + 1) * 68,rfl,hb,fun j hj i c hi=>?_⟩;rw [List.length_drop] at hj
 have h1:=hcc (q + 1 + j) (by omega) i c (by
  rw [List.getD_eq_getElem?_getD,List.getElem?_drop] at hi;rw [List.getD_eq_getElem?_getD]
  exact hi)
 rw [show off + (q + 1) * 68 + j * 68 + i=off + (q + 1 + j) * 68 + i by omega];exact h1
def atF (c n:Int) (l:List Pen) (j:Nat):Option Nat:=(l.take j).findIdx? (isOp c n)
def atI (c n:Int) (l:List Pen) (j:Nat):Int:=match atF c n l j with
 | none=>-1
 | some q=>(q:Int)
theorem r0E (c n:Int) (l:List Pen) (j:Nat):atI c n l j = -1 ∨ ∃ q:Nat,atI c n l j=(q:Int):=by
 unfold atI
 cases atF c n l j with
 | none=>exact Or.inl rfl
 | some q=>exact Or.inr ⟨q,rfl⟩
theorem t0l (c n:Int) (l:List Pen) (j:Nat) (h:j < l.length):atI c n l (j + 1)=if atI c n l j < 0 then (if isOp c n l[j] then (j:Int) else -1) else atI c n l j:=by
 have e:atF c n l (j + 1)=(atF c n l j).or (if isOp c n l[j] then some j else none):=by
  unfold atF;rw [List.take_succ_eq_append_getElem h,List.findIdx?_append]
  congr 1
  have hl:(l.take j).length=j:=by rw [List.length_take];omega
  by_cases hi:isOp c n l[j]=true
  ·simp [List.findIdx?_cons,hi,hl]
  ·simp [List.findIdx?_cons,hi]
 unfold atI;rw [e]
 cases atF c n l j with
 | none=>by_cases hi:isOp c n l[j]=true <;> simp [hi]
 | some q =>
  simp only [Option.some_or];rw [if_neg (by omega)]
theorem u0X (c n:Int) (l:List Pen):(atI c n l l.length = -1/\cutP c n l=l) ∨ ∃ q:Nat,atI c n l l.length=(q:Int)/\q < l.length/\cutP c n l=l.drop (q + 1):=by
 unfold atI atF cutP;rw [List.take_length]
 cases hf:l.findIdx? (isOp c n) with
 | none=>exact Or.inl ⟨rfl,rfl⟩
 | some q=>exact Or.inr ⟨q,rfl,(List.findIdx?_eq_some_iff_getElem.1 hf).1,rfl⟩
theorem w0R {w:World} {x:Nat} {G:List Nat} {R:Rs} (h:RY w x G R) {k:Nat} {v t:List UInt8} (htl:t.length=32) (hok:d0P R (k:Int) v t=true) (h3:c0i v=(k:Int)) (h4:(Hist.cnt v (k:Int):Int)=(R.reg (k:Int)).asked.number) (h6:(Hist.cnt (R.reg (k:Int)).view (k:Int):Int) ≠ (R.reg (k:Int)).asked.number) (hL:v.length <= R.long.length) :
  Calls prog 20 #[pt x 0,nu (k:Int),st v,.agg (dg t).toArray] w (RCom w x G R (k:Int) v t):=by
 obtain ⟨h1,h2⟩:hasB R.n (k:Int)=true/\mayB (comM (k:Int) v t)=true:=by simpa [d0P,Bool.and_eq_true] using hok
 obtain ⟨hkn,hne,hvl,-⟩:=c0q hok;have hkR:k < R.n:=by omega
 have hcode:comE R (k:Int) v t=0:=by unfold comE;rw [if_neg (by rw [hok];simp),if_neg (by omega),if_neg h6]
 have B1:=hid (a0c w (.cells (dg t).toArray 38));have T1:=hid (a0f w (.cells (dg t).toArray 38));have H1:=hid (h.kept B1.out);have ZT:(prog.info? 38).map (·.size)=some (dg t).length:=by rw [a0e,htl];exact sizeDig
 have SX:=hid (fun (W:World) (hb:Below (w.alloc (.cells (dg t).toArray 38)).heap.size (w.alloc (.cells (dg t).toArray 38)) W)=>a0s (off:=0) (A:=[]) (cs:=dg t) (C:=[]) (a0a T1.out hb) (by simp) rfl);have HBm:=hid (fun W=>c0Z W (k:Int) v t htl);have HMy:=hid (rmay (vP:=.slice none 0 0) (vN:=.slice none 0 0) (i0c (c:=(k:Int)) (v:=v) htl) a0r (a0g.nil (w.alloc (.cells (dg t).toArray 38))) (a0w.nil _) ⟨Nat.zero_le _,Nat.zero_le _⟩ (Or.inr rfl));have HIs:=hid (fun (W:World) (hb:Below (w.alloc (.cells (dg t).toArray 38)).heap.size (w.alloc (.cells (dg t).toArray 38)) W)=>a0F (H1.out.kept hb) (k:Int));obtain ⟨bs,br,bv,bt,ps,vP,Y,hz,hG1,hG2⟩:=h;have HZ1:=hid (hz.kept B1.out);obtain ⟨AN,HAN⟩:∃ AN,Hid (AN=(R.reg (k:Int)).asked.number):=⟨_,rfl⟩
 obtain ⟨m,hm⟩:∃ m,v.length=m + 1:=by
  cases v with
  | nil=>exact absurd rfl hne
  | cons a l=>exact ⟨l.length,rfl⟩
 have hss:(⟨v.toArray⟩:ByteArray).size=m + 1:=hm;have hq:((⟨v.toArray⟩:ByteArray)[m]'(by rw [hss];omega)).toNat=(v.getD m 0).toNat:=byte_at v m _;have HLI:Hid (c0i v=(((v.getD m 0).toNat:Nat):Int)):=by show _=_;unfold c0i;rw [hm];rfl
 obtain ⟨bb,HBB⟩:∃ bb:Nat,Hid (bb=(v.getD m 0).toNat):=⟨_,rfl⟩;have hbb:bb < 256:=by rw [HBB.out];exact UInt8.toNat_lt _
 rw [← HBB.out] at hq HLI;have hw6:wrap64 (bb:Int)=(bb:Int):=by unfold wrap64;omega
 have HCn:=hid (fun W=>Hist.rcount_any v (by omega) (k:Int) W)
 have hd:((bb:Int) != (k:Int))=false:=by
  rw [HLI.out] at h3;rw [h3];exact bne_self_eq_false _
 have hd':(bb != k)=false:=by
  rw [HLI.out] at h3;have:bb=k:=by omega
  rw [this];exact bne_self_eq_false _
 obtain ⟨ov,HOV⟩:∃ ov,Hid (ov=(R.reg (k:Int)).view):=⟨_,rfl⟩;have HCo:=hid (fun W=>Hist.rcount_any ov (by rw [HOV.out];have:=(hz.inv.reg (k:Int)).view;omega) (k:Int) W);have h5:(Hist.cnt v (k:Int):Int)=AN:=by rw [HAN.out];exact h4
 have h7:(Hist.cnt ov (k:Int):Int) ≠ (Hist.cnt v (k:Int):Int):=by rw [HOV.out];omega
 obtain ⟨u,hu,hpu⟩:=hz.snd hkR;have HI1:=hid (n0W hz.inv (k:=k) hvl);have HI2:=hid (r0B hz.inv (k:=k) hvl htl);have HI:=hid hz.inv;have HCode:=hid hcode;have hpu1:=hid (hpu.kp (X:=[]) (Kp.of B1.out) (fun _ _=>by simp));have HTL:=hid htl;have HG1:=hid hG1;have HG2:=hid hG2;have hXn:Hid (∀ b ∈ G,b ≠ w.heap.size):=fun b hb e=>by have:=hG2 b hb;omega
 rw [h2] at HMy;rw [h1] at HIs;have HLk:=hid (fun (W:World) (ps':List RG) (R':Rs) (h:RZ W x bs br bv bt R' ps' vP Y)=>h.len);clear T1 hcode h1 h2 H1 htl hok hkn hne HBB h3 HLI h4 hz hG1 hG2 h6 hpu;generalize hcv:Hist.cnt v (k:Int)=cv at *;have HCV:=hid hcv;clear hcv;generalize Hist.cnt ov (k:Int)=co at *;have hd2:((cv:Int) != AN)=false:=by rw [h5];exact bne_self_eq_false _
 have hd3:((co:Int) == (cv:Int))=false:=beq_false_of_ne h7;have hd3':(co == cv)=false:=beq_false_of_ne (fun e=>h7 (by rw [e]))
 have HNum:Hid ((R.reg (k:Int)).asked.number=(cv:Int)):=by
  show _=_;rw [← HAN.out,h5]
 clear h5 h7;show Calls _ _ _ _ (fun e w'=>RCom w x G R (k:Int) v t e w');have HSS:=hid (SX.out _ (Below.refl _ _));generalize msgC (comM (k:Int) v t) (.slice none 0 0) (.slice none 0 0)=MV at *;have HTT0:Hid (dg t=dg t):=rfl;obtain ⟨TT,HTT⟩:∃ TT,Hid (TT=dg t):=⟨_,rfl⟩
 have HX0:Hid (w.heap.size < (w.alloc (.cells (dg t).toArray 38)).heap.size):=by
  show w.heap.size < (w.heap.push _).size;rw [Array.size_push];omega
 rw [← HTT.out] at B1 ZT HSS SX HBm HMy HIs HZ1 hpu1 HX0 ⊢;clear HTT0;go_enter func20,ntmps20;go_upto_region 1 with fail
 generalize w.alloc (.cells TT.toArray 38)=W1 at *;have hB1:w.heap.size <= W1.heap.size:=B1.out.size;obtain ⟨gX,hgX⟩:∃ gX,gX=w.heap.size:=⟨_,rfl⟩;rw [← hgX] at HSS SX HX0 ⊢;have HgX:=hid hgX;clear hgX
 go_wp2_with (first
  | ((with_reducible refine a0d 38 (.tmp 7) ?_ gX 0 ?_ ?_ TT _ HSS.out underlying38 ?_ ZT ?_);iterate 4 exact rfl)
  | ((with_reducible refine b0t 80 [(0,.const (nu 3)),(1,.tmp 12),(4,.tmp 13),(6,.tmp 14)] ?_ ?_ MV.toArray ?_ ?_);exact rfl;exact rfl;exact (HBm.out _)))
 refine HMy.out.mono ?_;rintro e W2 ⟨rfl,hb2⟩;have B2:=hid (a0b B1.out hb2);have A2:=hid hb2;clear hb2
 go_wp2_with fail
 refine (HIs.out _ A2.out).mono ?_;rintro e w1 ⟨rfl,hw1⟩;subst w1
 go_wp2_with fail
 refine (HCn.out _).mono ?_;rintro e w1 ⟨rfl,hw1⟩;subst w1;have HZ3:=hid (HZ1.out.kept A2.out);have c1:=HZ3.out.cS;have c2:W2.cell? ⟨bs,k * 68,none⟩=some (nu AN):=by rw [HAN.out];exact HZ3.out.sub hkR 0 _ rfl
 have c3:=HZ3.out.cV;have c4:=HZ3.out.view hkR;unfold sl at c1 c3;rw [← HOV.out] at c4
 go_wp2_with fail
 refine (HCo.out _).mono ?_;rintro e w1 ⟨rfl,hw1⟩;subst w1;obtain ⟨-,-,oV,-⟩:=HZ3.out.open hkR hu;have RV:=hid HZ3.out.views;rw [oV,← HOV.out] at RV
 have hlV:((ps.take k).flatMap fV).length=k:=by
  have h1:=h0T fV 1 ps HZ3.out.kV k (by rw [HZ3.out.len];exact hkR);omega
 have hpu2:=hid (hpu1.out.kp (X:=[]) (Kp.of A2.out) (fun _ _=>by simp));have XT2:=hid (SX.out _ A2.out)
 have hX2:gX < W2.heap.size:=by
  have h1:=A2.out.size;have h2:=HX0.out;omega
 clear oV c4 SX HIs HCn HCo;generalize hAV:(ps.take k).flatMap fV=AV at *;generalize hCV2:(ps.drop (k + 1)).flatMap fV=CV at *;have HAV:=hid hAV;have HCV2:=hid hCV2;clear hAV hCV2;go_upto_region 9 with ((with_reducible refine c0v 9 (.tmp 64) (.tmp 63) ?_ ?_ bv k ?_ ?_ AV CV (st ov) (st v) ?_ 9 RV.out ?_ ?_ ?_ ?_);exact rfl;exact rfl;exact rfl;exact rfl;exact rfl;exact hlV;exact rfl;kernel_rfl;intro W4 r4 b4;rw [← HAV.out,← HCV2.out] at r4;have Z4:=hid (HZ3.out.putView hkR hu hpu2.out HI1.out r4 b4);have U4:=hid b4;clear r4 b4)
 have hpk4:=hid (hpu2.out.but U4.out (fun hy=>HZ3.out.away bv hy (by simp)));have hsetR:(setG R k { R.reg (k:Int) with view:=v }).reg (k:Int) = { R.reg (k:Int) with view:=v }:=k0d HI.out hkR _
 have hu4:(ps.set k ({ R.reg (k:Int) with view:=v },u))[k]? = some ((setG R k { R.reg (k:Int) with view:=v }).reg (k:Int),u):=by
  rw [hsetR,List.getElem?_set_self (by rw [HZ3.out.len];exact hkR)]
 obtain ⟨-,-,-,oT⟩:=Z4.out.open hkR hu4;have D4:Hid (Below W4.heap.size W4 (World.drew W4)):=⟨rfl,rfl,rfl,Nat.le_refl _,fun _ _=>rfl⟩
 have hnX:Hid (bv ≠ gX/\bt ≠ gX/\x ≠ gX):=by
  rw [HgX.out];exact ⟨hXn.out _ (HG1.out _ (by simp)),hXn.out _ (HG1.out _ (by simp)),hXn.out _ (HG1.out _ (by simp))⟩
 have XT4:=hid (fun j u hj=>f0W ((Kp.refl [bv] W2).but U4.out (Or.inl (by simp))) (by simpa using hnX.out.1.symm) (XT2.out j u hj));have Z5:=hid (Z4.out.kept D4.out);have c5:(World.drew W4).cell? ⟨x,3,none⟩=some (.slice (some ⟨bt,0,none⟩) R.n R.n):=Z5.out.cT;have SXT:=hid (fun (j:Nat) (u:Value) (hj:TT[j]? = some u)=>e0r (XT4.out j u hj) D4.out);have RT:=hid Z5.out.tags;rw [oT] at RT;have hlT:=h0T fT 32 _ Z5.out.kT k (by rw [Z5.out.len];exact hkR);have hpk5:=hid (hpk4.out.kp (X:=[]) (Kp.of D4.out) (fun _ _=>by simp))
 have hlo:(dg ((setG R k { R.reg (k:Int) with view:=v }).reg (k:Int)).tag).length=TT.length:=by
  rw [hsetR,a0e,HTT.out,a0e,HTL.out];exact (HI.out.reg _).tag
 have OT:=hid (by rw [HTT.out];exact d0h t:∀ v ∈ TT,v.oneCell' = true)
 have hI6:Hid (RInv (setG (setG R k { R.reg (k:Int) with view:=v }) k { (setG R k { R.reg (k:Int) with view:=v }).reg (k:Int) with tag:=t })):=by
  rw [hsetR,f0e];exact HI2.out
 clear oT;generalize hAT:(List.take k (ps.set k ({ R.reg (k:Int) with view:=v },u))).flatMap fT=AT at *;generalize hCT:(List.drop (k + 1) (ps.set k ({ R.reg (k:Int) with view:=v },u))).flatMap fT=CT at *;have HAT:=hid hAT;have HCT:=hid hCT;clear hAT hCT;generalize dg ((setG R k { R.reg (k:Int) with view:=v }).reg (k:Int)).tag=OLD at *;refine wp_region_still_tail 7 (by kernel_rfl) (by kernel_rfl) ?_;simp only [List.take_succ_cons,List.take_zero,List.drop_succ_cons,List.drop_zero];change wpStill _ _ (World.drew W4) (fun a'=>wpList _ _ _ _ a' (World.drew W4)) _ _;generalize World.drew W4=W5 at *
 iterate 5 still_step
 refine h0S 38 (.tmp 7) rfl gX 0 rfl rfl TT _ SXT.out underlying38 rfl ZT ?_;simp only [Act.put,List.setIfInBounds_toArray,List.set_cons_zero,List.set_cons_succ]
 iterate 1 still_step
 refine wpStill_nil ?_;refine b0b 38 (.tmp 71) (.tmp 70) rfl rfl bt (k * 32) rfl rfl AT TT OLD CT rfl 38 RT.out hlT hlo OT.out ZT ?_;intro W6 r6 b6;rw [HTT.out,← HAT.out,← HCT.out] at r6;have Z6:=hid (Z5.out.putTag hkR hu4 (by rw [hsetR];exact hpk5.out) hI6.out r6 b6);have U6:=hid b6;clear r6 b6
 have e6:setG (setG R k { R.reg (k:Int) with view:=v }) k { (setG R k { R.reg (k:Int) with view:=v }).reg (k:Int) with tag:=t } = comS R (k:Int) v t:=by
  rw [hsetR,f0e];rfl
 rw [e6] at Z6;have K6:=hid ((((Kp.of (X:=G) B2.out).but U4.out (Or.inl (HG1.out _ (by simp)))).trans (Kp.of D4.out)).but U6.out (Or.inl (HG1.out _ (by simp))));obtain ⟨ps6,Z7⟩:∃ ps',Hid (RZ W6 x bs br bv bt (comS R (k:Int) v t) ps' vP Y):=⟨_,Z6.out⟩;obtain ⟨lo,HLO⟩:∃ lo,Hid (lo=R.long):=⟨_,rfl⟩;obtain ⟨ln,hln⟩:∃ ln,R.long.length=ln:=⟨_,rfl⟩;have c6:W6.cell? ⟨x,5,none⟩=some (st lo):=by rw [HLO.out];exact Z7.out.cL
 have hsL:(⟨lo.toArray⟩:ByteArray).size=ln:=by rw [HLO.out];exact hln
 clear e6 Z6 Z5 Z4 hu4 hsetR RT RV HAT HCT HAV HCV2 hlT hlo hlV hpk5 hpk4 hpu2 hpu1 XT2 XT4 SXT HZ3 HZ1 c1 c2 c3 U4 U6 D4 hI6 HMy HBm HSS hq hd hd' hd2 hd3 hd3' hw6 hbb HI1 HI2 hu HOV A2 hX2 HX0 hB1 B1 HAN;have d1:decide ((m:Int) + 1 <= (ln:Int))=true:=decide_eq_true (by omega);have d1':decide (m + 1 <= ln)=true:=decide_eq_true (by omega);have d1'':decide (((m + 1:Nat):Int) <= (ln:Int))=true:=decide_eq_true (by omega);go_wp2;go_ret;refine k0q HCode.out (G':=G) ?_ ?_ (fun b hb=>Or.inl hb)
 ·rw [p0d HCode.out (by omega)]
  exact ⟨bs,br,bv,bt,ps6,vP,Y,Z7.out,HG1.out,fun b hb=>Nat.lt_of_lt_of_le (HG2.out b hb) K6.out.size⟩
 ·exact K6.out
theorem w0S {w:World} {x:Nat} {G:List Nat} {R:Rs} (h:RY w x G R) {k:Nat} {v t:List UInt8} (htl:t.length=32) (hok:d0P R (k:Int) v t=true) (h3:c0i v=(k:Int)) (h4:(Hist.cnt v (k:Int):Int)=(R.reg (k:Int)).asked.number) (h6:(Hist.cnt (R.reg (k:Int)).view (k:Int):Int) ≠ (R.reg (k:Int)).asked.number) (hL:R.long.length < v.length) :
  Calls prog 20 #[pt x 0,nu (k:Int),st v,.agg (dg t).toArray] w (RCom w x G R (k:Int) v t):=by
 obtain ⟨h1,h2⟩:hasB R.n (k:Int)=true/\mayB (comM (k:Int) v t)=true:=by simpa [d0P,Bool.and_eq_true] using hok
 obtain ⟨hkn,hne,hvl,-⟩:=c0q hok;have hkR:k < R.n:=by omega
 have hcode:comE R (k:Int) v t=0:=by unfold comE;rw [if_neg (by rw [hok];simp),if_neg (by omega),if_neg h6]
 have B1:=hid (a0c w (.cells (dg t).toArray 38));have T1:=hid (a0f w (.cells (dg t).toArray 38));have H1:=hid (h.kept B1.out);have ZT:(prog.info? 38).map (·.size)=some (dg t).length:=by rw [a0e,htl];exact sizeDig
 have SX:=hid (fun (W:World) (hb:Below (w.alloc (.cells (dg t).toArray 38)).heap.size (w.alloc (.cells (dg t).toArray 38)) W)=>a0s (off:=0) (A:=[]) (cs:=dg t) (C:=[]) (a0a T1.out hb) (by simp) rfl);have HBm:=hid (fun W=>c0Z W (k:Int) v t htl);have HMy:=hid (rmay (vP:=.slice none 0 0) (vN:=.slice none 0 0) (i0c (c:=(k:Int)) (v:=v) htl) a0r (a0g.nil (w.alloc (.cells (dg t).toArray 38))) (a0w.nil _) ⟨Nat.zero_le _,Nat.zero_le _⟩ (Or.inr rfl));have HIs:=hid (fun (W:World) (hb:Below (w.alloc (.cells (dg t).toArray 38)).heap.size (w.alloc (.cells (dg t).toArray 38)) W)=>a0F (H1.out.kept hb) (k:Int));obtain ⟨bs,br,bv,bt,ps,vP,Y,hz,hG1,hG2⟩:=h;have HZ1:=hid (hz.kept B1.out);obtain ⟨AN,HAN⟩:∃ AN,Hid (AN=(R.reg (k:Int)).asked.number):=⟨_,rfl⟩
 obtain ⟨m,hm⟩:∃ m,v.length=m + 1:=by
  cases v with
  | nil=>exact absurd rfl hne
  | cons a l=>exact ⟨l.length,rfl⟩
 have hss:(⟨v.toArray⟩:ByteArray).size=m + 1:=hm;have hq:((⟨v.toArray⟩:ByteArray)[m]'(by rw [hss];omega)).toNat=(v.getD m 0).toNat:=byte_at v m _;have HLI:Hid (c0i v=(((v.getD m 0).toNat:Nat):Int)):=by show _=_;unfold c0i;rw [hm];rfl
 obtain ⟨bb,HBB⟩:∃ bb:Nat,Hid (bb=(v.getD m 0).toNat):=⟨_,rfl⟩;have hbb:bb < 256:=by rw [HBB.out];exact UInt8.toNat_lt _
 rw [← HBB.out] at hq HLI;have hw6:wrap64 (bb:Int)=(bb:Int):=by unfold wrap64;omega
 have HCn:=hid (fun W=>Hist.rcount_any v (by omega) (k:Int) W)
 have hd:((bb:Int) != (k:Int))=false:=by
  rw [HLI.out] at h3;rw [h3];exact bne_self_eq_false _
 have hd':(bb != k)=false:=by
  rw [HLI.out] at h3;have:bb=k:=by omega
  rw [this];exact bne_self_eq_false _
 obtain ⟨ov,HOV⟩:∃ ov,Hid (ov=(R.reg (k:Int)).view):=⟨_,rfl⟩;have HCo:=hid (fun W=>Hist.rcount_any ov (by rw [HOV.out];have:=(hz.inv.reg (k:Int)).view;omega) (k:Int) W);have h5:(Hist.cnt v (k:Int):Int)=AN:=by rw [HAN.out];exact h4
 have h7:(Hist.cnt ov (k:Int):Int) ≠ (Hist.cnt v (k:Int):Int):=by rw [HOV.out];omega
 obtain ⟨u,hu,hpu⟩:=hz.snd hkR;have HI1:=hid (n0W hz.inv (k:=k) hvl);have HI2:=hid (r0B hz.inv (k:=k) hvl htl);have HI:=hid hz.inv;have HCode:=hid hcode;have hpu1:=hid (hpu.kp (X:=[]) (Kp.of B1.out) (fun _ _=>by simp));have HTL:=hid htl;have HG1:=hid hG1;have HG2:=hid hG2;have hXn:Hid (∀ b ∈ G,b ≠ w.heap.size):=fun b hb e=>by have:=hG2 b hb;omega
 rw [h2] at HMy;rw [h1] at HIs;have HLk:=hid (fun (W:World) (ps':List RG) (R':Rs) (h:RZ W x bs br bv bt R' ps' vP Y)=>h.len);clear T1 hcode h1 h2 H1 htl hok hkn hne HBB h3 HLI h4 hz hG1 hG2 h6 hpu;generalize hcv:Hist.cnt v (k:Int)=cv at *;have HCV:=hid hcv;clear hcv;generalize Hist.cnt ov (k:Int)=co at *;have hd2:((cv:Int) != AN)=false:=by rw [h5];exact bne_self_eq_false _
 have hd3:((co:Int) == (cv:Int))=false:=beq_false_of_ne h7;have hd3':(co == cv)=false:=beq_false_of_ne (fun e=>h7 (by rw [e]))
 have HNum:Hid ((R.reg (k:Int)).asked.number=(cv:Int)):=by
  show _=_;rw [← HAN.out,h5]
 clear h5 h7;show Calls _ _ _ _ (fun e w'=>RCom w x G R (k:Int) v t e w');have HSS:=hid (SX.out _ (Below.refl _ _));generalize msgC (comM (k:Int) v t) (.slice none 0 0) (.slice none 0 0)=MV at *;have HTT0:Hid (dg t=dg t):=rfl;obtain ⟨TT,HTT⟩:∃ TT,Hid (TT=dg t):=⟨_,rfl⟩
 have HX0:Hid (w.heap.size < (w.alloc (.cells (dg t).toArray 38)).heap.size):=by
  show w.heap.size < (w.heap.push _).size;rw [Array.size_push];omega
 rw [← HTT.out] at B1 ZT HSS SX HBm HMy HIs HZ1 hpu1 HX0 ⊢;clear HTT0;go_enter func20,ntmps20;go_upto_region 1 with fail
 generalize w.alloc (.cells TT.toArray 38)=W1 at *;have hB1:w.heap.size <= W1.heap.size:=B1.out.size;obtain ⟨gX,hgX⟩:∃ gX,gX=w.heap.size:=⟨_,rfl⟩;rw [← hgX] at HSS SX HX0 ⊢;have HgX:=hid hgX;clear hgX
 go_wp2_with (first
  | ((with_reducible refine a0d 38 (.tmp 7) ?_ gX 0 ?_ ?_ TT _ HSS.out underlying38 ?_ ZT ?_);iterate 4 exact rfl)
  | ((with_reducible refine b0t 80 [(0,.const (nu 3)),(1,.tmp 12),(4,.tmp 13),(6,.tmp 14)] ?_ ?_ MV.toArray ?_ ?_);exact rfl;exact rfl;exact (HBm.out _)))
 refine HMy.out.mono ?_;rintro e W2 ⟨rfl,hb2⟩;have B2:=hid (a0b B1.out hb2);have A2:=hid hb2;clear hb2
 go_wp2_with fail
 refine (HIs.out _ A2.out).mono ?_;rintro e w1 ⟨rfl,hw1⟩;subst w1
 go_wp2_with fail
 refine (HCn.out _).mono ?_;rintro e w1 ⟨rfl,hw1⟩;subst w1;have HZ3:=hid (HZ1.out.kept A2.out);have c1:=HZ3.out.cS;have c2:W2.cell? ⟨bs,k * 68,none⟩=some (nu AN):=by rw [HAN.out];exact HZ3.out.sub hkR 0 _ rfl
 have c3:=HZ3.out.cV;have c4:=HZ3.out.view hkR;unfold sl at c1 c3;rw [← HOV.out] at c4
 go_wp2_with fail
 refine (HCo.out _).mono ?_;rintro e w1 ⟨rfl,hw1⟩;subst w1;obtain ⟨-,-,oV,-⟩:=HZ3.out.open hkR hu;have RV:=hid HZ3.out.views;rw [oV,← HOV.out] at RV
 have hlV:((ps.take k).flatMap fV).length=k:=by
  have h1:=h0T fV 1 ps HZ3.out.kV k (by rw [HZ3.out.len];exact hkR);omega
 have hpu2:=hid (hpu1.out.kp (X:=[]) (Kp.of A2.out) (fun _ _=>by simp));have XT2:=hid (SX.out _ A2.out)
 have hX2:gX < W2.heap.size:=by
  have h1:=A2.out.size;have h2:=HX0.out;omega
 clear oV c4 SX HIs HCn HCo;generalize hAV:(ps.take k).flatMap fV=AV at *;generalize hCV2:(ps.drop (k + 1)).flatMap fV=CV at *;have HAV:=hid hAV;have HCV2:=hid hCV2;clear hAV hCV2;go_upto_region 9 with ((with_reducible refine c0v 9 (.tmp 64) (.tmp 63) ?_ ?_ bv k ?_ ?_ AV CV (st ov) (st v) ?_ 9 RV.out ?_ ?_ ?_ ?_);exact rfl;exact rfl;exact rfl;exact rfl;exact rfl;exact hlV;exact rfl;kernel_rfl;intro W4 r4 b4;rw [← HAV.out,← HCV2.out] at r4;have Z4:=hid (HZ3.out.putView hkR hu hpu2.out HI1.out r4 b4);have U4:=hid b4;clear r4 b4)
 have hpk4:=hid (hpu2.out.but U4.out (fun hy=>HZ3.out.away bv hy (by simp)));have hsetR:(setG R k { R.reg (k:Int) with view:=v }).reg (k:Int) = { R.reg (k:Int) with view:=v }:=k0d HI.out hkR _
 have hu4:(ps.set k ({ R.reg (k:Int) with view:=v },u))[k]? = some ((setG R k { R.reg (k:Int) with view:=v }).reg (k:Int),u):=by
  rw [hsetR,List.getElem?_set_self (by rw [HZ3.out.len];exact hkR)]
 obtain ⟨-,-,-,oT⟩:=Z4.out.open hkR hu4;have D4:Hid (Below W4.heap.size W4 (World.drew W4)):=⟨rfl,rfl,rfl,Nat.le_refl _,fun _ _=>rfl⟩
 have hnX:Hid (bv ≠ gX/\bt ≠ gX/\x ≠ gX):=by
  rw [HgX.out];exact ⟨hXn.out _ (HG1.out _ (by simp)),hXn.out _ (HG1.out _ (by simp)),hXn.out _ (HG1.out _ (by simp))⟩
 have XT4:=hid (fun j u hj=>f0W ((Kp.refl [bv] W2).but U4.out (Or.inl (by simp))) (by simpa using hnX.out.1.symm) (XT2.out j u hj));have Z5:=hid (Z4.out.kept D4.out);have c5:(World.drew W4).cell? ⟨x,3,none⟩=some (.slice (some ⟨bt,0,none⟩) R.n R.n):=Z5.out.cT;have SXT:=hid (fun (j:Nat) (u:Value) (hj:TT[j]? = some u)=>e0r (XT4.out j u hj) D4.out);have RT:=hid Z5.out.tags;rw [oT] at RT;have hlT:=h0T fT 32 _ Z5.out.kT k (by rw [Z5.out.len];exact hkR);have hpk5:=hid (hpk4.out.kp (X:=[]) (Kp.of D4.out) (fun _ _=>by simp))
 have hlo:(dg ((setG R k { R.reg (k:Int) with view:=v }).reg (k:Int)).tag).length=TT.length:=by
  rw [hsetR,a0e,HTT.out,a0e,HTL.out];exact (HI.out.reg _).tag
 have OT:=hid (by rw [HTT.out];exact d0h t:∀ v ∈ TT,v.oneCell' = true)
 have hI6:Hid (RInv (setG (setG R k { R.reg (k:Int) with view:=v }) k { (setG R k { R.reg (k:Int) with view:=v }).reg (k:Int) with tag:=t })):=by
  rw [hsetR,f0e];exact HI2.out
 clear oT;generalize hAT:(List.take k (ps.set k ({ R.reg (k:Int) with view:=v },u))).flatMap fT=AT at *;generalize hCT:(List.drop (k + 1) (ps.set k ({ R.reg (k:Int) with view:=v },u))).flatMap fT=CT at *;have HAT:=hid hAT;have HCT:=hid hCT;clear hAT hCT;generalize dg ((setG R k { R.reg (k:Int) with view:=v }).reg (k:Int)).tag=OLD at *;refine wp_region_still_tail 7 (by kernel_rfl) (by kernel_rfl) ?_;simp only [List.take_succ_cons,List.take_zero,List.drop_succ_cons,List.drop_zero];change wpStill _ _ (World.drew W4) (fun a'=>wpList _ _ _ _ a' (World.drew W4)) _ _;generalize World.drew W4=W5 at *
 iterate 5 still_step
 refine h0S 38 (.tmp 7) rfl gX 0 rfl rfl TT _ SXT.out underlying38 rfl ZT ?_;simp only [Act.put,List.setIfInBounds_toArray,List.set_cons_zero,List.set_cons_succ]
 iterate 1 still_step
 refine wpStill_nil ?_;refine b0b 38 (.tmp 71) (.tmp 70) rfl rfl bt (k * 32) rfl rfl AT TT OLD CT rfl 38 RT.out hlT hlo OT.out ZT ?_;intro W6 r6 b6;rw [HTT.out,← HAT.out,← HCT.out] at r6;have Z6:=hid (Z5.out.putTag hkR hu4 (by rw [hsetR];exact hpk5.out) hI6.out r6 b6);have U6:=hid b6;clear r6 b6
 have e6:setG (setG R k { R.reg (k:Int) with view:=v }) k { (setG R k { R.reg (k:Int) with view:=v }).reg (k:Int) with tag:=t } = comS R (k:Int) v t:=by
  rw [hsetR,f0e];rfl
 rw [e6] at Z6;have K6:=hid ((((Kp.of (X:=G) B2.out).but U4.out (Or.inl (HG1.out _ (by simp)))).trans (Kp.of D4.out)).but U6.out (Or.inl (HG1.out _ (by simp))));obtain ⟨ps6,Z7⟩:∃ ps',Hid (RZ W6 x bs br bv bt (comS R (k:Int) v t) ps' vP Y):=⟨_,Z6.out⟩;obtain ⟨lo,HLO⟩:∃ lo,Hid (lo=R.long):=⟨_,rfl⟩;obtain ⟨ln,hln⟩:∃ ln,R.long.length=ln:=⟨_,rfl⟩;have c6:W6.cell? ⟨x,5,none⟩=some (st lo):=by rw [HLO.out];exact Z7.out.cL
 have hsL:(⟨lo.toArray⟩:ByteArray).size=ln:=by rw [HLO.out];exact hln
 have XT6:=hid (fun (j:Nat) (u:Value) (hj:TT[j]? = some u)=>f0W ((Kp.refl [bt] W5).but U6.out (Or.inl (by simp))) (by simpa using hnX.out.2.1.symm) (SXT.out j u hj));clear e6 Z6 Z5 Z4 hu4 hsetR RT RV HAT HCT HAV HCV2 hlT hlo hlV hpk5 hpk4 hpu2 hpu1 XT2 XT4 SXT HZ3 HZ1 c1 c2 c3 U4 U6 D4 hI6 HMy HBm HSS hq hd hd' hd2 hd3 hd3' hw6 hbb HI1 HI2 hu HOV A2 hX2 HX0 hB1 B1 HAN;have d1:decide ((m:Int) + 1 <= (ln:Int))=false:=decide_eq_false (by omega);have d1':decide (m + 1 <= ln)=false:=decide_eq_false (by omega);have d1'':decide (((m + 1:Nat):Int) <= (ln:Int))=false:=decide_eq_false (by omega);have hpe:b0N W6 Y vP R.pend:=Z7.out.pens;obtain ⟨va,vcap,rfl,-,-⟩:=hpe;obtain ⟨A4,HA4⟩:∃ A4:List Value,Hid (A4 = [sl bs R.n,sl br R.n,sl bv R.n,sl bt R.n]):=⟨_,rfl⟩;have hA4:A4.length=4:=by rw [HA4.out];rfl
 obtain ⟨wv,HWV⟩:∃ wv,Hid (wv=nu R.who):=⟨_,rfl⟩;obtain ⟨OL,HOL⟩:∃ OL,Hid (OL=dg R.ltag):=⟨_,rfl⟩
 have Row6:Hid (W6.heap[x]? = some (.cells (A4++([wv]++([st lo]++(OL++[Value.slice va R.pend.length vcap])))).toArray 86)):=by
  rw [HA4.out,HWV.out,HLO.out,HOL.out];exact Z7.out.row
 have hOL:OL.length=TT.length:=by rw [HOL.out,HTT.out,a0e,a0e,HTL.out];exact HI.out.ltag
 have hOT:=hid OT.out;generalize hPV:(Value.slice va R.pend.length vcap)=PV at *;have HPV:=hid hPV;clear hPV;go_upto_region 13 with ((with_reducible refine c0v 3 (.tmp 83) (.tmp 81) ?_ ?_ x 4 ?_ ?_ A4 ([st lo]++(OL++[PV])) wv (nu (k:Int)) ?_ 86 Row6.out ?_ ?_ ?_ ?_);exact rfl;exact rfl;exact rfl;exact rfl;exact rfl;exact hA4;exact rfl;kernel_rfl;intro W7 r7 b7;have R7:=hid r7;have U7:=hid b7;clear r7 b7)
 have R7':Hid (W7.heap[x]? = some (.cells ((A4++[nu (k:Int)])++([st lo]++(OL++[PV]))).toArray 86)):=by
  rw [List.append_assoc];exact R7.out
 have hA5:(A4++[nu (k:Int)]).length=5:=by rw [List.length_append,hA4];rfl
 generalize hA5':A4++[nu (k:Int)]=A5 at *;have HA5:=hid hA5';clear hA5' R7;go_upto_region 14 with ((with_reducible refine c0v 9 (.tmp 87) (.tmp 85) ?_ ?_ x 5 ?_ ?_ A5 (OL++[PV]) (st lo) (st v) ?_ 86 R7'.out ?_ ?_ ?_ ?_);exact rfl;exact rfl;exact rfl;exact rfl;exact rfl;exact hA5;exact rfl;kernel_rfl;intro W8 r8 b8;have R8:=hid r8;have U8:=hid b8;clear r8 b8)
 have R8':Hid (W8.heap[x]? = some (.cells ((A5++[st v])++(OL++[PV])).toArray 86)):=by
  rw [List.append_assoc];exact R8.out
 have hA6:(A5++[st v]).length=6:=by rw [List.length_append,hA5];rfl
 generalize hA6':A5++[st v]=A6 at *;have HA6:=hid hA6';clear hA6' R8;have XT8:=hid (fun (j:Nat) (u:Value) (hj:TT[j]? = some u)=>f0W (((Kp.refl [x] W6).but U7.out (Or.inl (by simp))).but U8.out (Or.inl (by simp))) (by simpa using hnX.out.2.2.symm) (XT6.out j u hj))
 go_upto_region 15 with (first
  | ((with_reducible refine a0d 38 (.tmp 7) ?_ gX 0 ?_ ?_ TT _ XT8.out underlying38 ?_ ZT ?_);iterate 4 exact rfl)
  | ((with_reducible refine b0b 38 (.tmp 91) (.tmp 89) ?_ ?_ x 6 ?_ ?_ A6 TT OL [PV] ?_ 86 R8'.out hA6 hOL hOT.out ZT ?_);exact rfl;exact rfl;exact rfl;exact rfl;exact rfl;intro W9 r9 b9;have R9:=hid r9;have U9:=hid b9;clear r9 b9))
 have K9:Hid (Kp [x] W6 W9):=(((Kp.refl [x] W6).but U7.out (Or.inl (by simp))).but U8.out (Or.inl (by simp))).but U9.out (Or.inl (by simp))
 have Z9:Hid (RZ W9 x bs br bv bt (comK R (k:Int) v t) ps6 PV Y):=by
  refine Z7.out.putRowK (R':=comK R (k:Int) v t) rfl rfl (t0j HI.out hvl HTL.out ⟨Int.natCast_nonneg _,by have:=HI.out.n;omega⟩) ?_ K9.out Z7.out.pens;have h9:=R9.out;rw [← HA6.out,← HA5.out,HA4.out,HTT.out] at h9;exact h9
 have KW:Hid (Kp G w W9):=K6.out.trans (K9.out.drop (fun b hb=>Or.inl (by rw [List.mem_singleton] at hb;rw [hb];exact HG1.out _ (by simp))))
 have RP:Hid (W9.heap[x]? = some (.cells ((A6++TT)++([PV]++[])).toArray 86)):=by
  rw [List.append_nil,List.append_assoc];exact R9.out
 have hA38:(A6++TT).length=38:=by
  rw [List.length_append,hA6,HTT.out,a0e,HTL.out]
 have HRow:Hid (A6++TT = [sl bs R.n,sl br R.n,sl bv R.n,sl bt R.n,nu (k:Int),st v]++dg t):=by
  show _=_;rw [← HA6.out,← HA5.out,HA4.out,HTT.out];rfl
 generalize A6++TT=A38 at *;have cP:W9.cell? ⟨x,38,none⟩=some (.slice va R.pend.length vcap):=by rw [HPV.out];exact Z9.out.cP
 have hpe:Hid (b0N W9 Y (.slice va R.pend.length vcap) R.pend):=by rw [HPV.out];exact Z9.out.pens
 have hpl:=HI.out.plen;clear hA5 hA6 HA5 HA6 HA4 hA4 R9 R8' R7' Row6 U7 U8 U9 XT8 XT6 K9 K6 Z7 c6 d1 d1' d1'' hOL hOT;go_upto_region 17 with fail
 go_loopw [10,11] (fun a i wr=>∃ j:Nat,j <= R.pend.length/\i=nu j/\a=nu (atI (k:Int) (cv:Int) R.pend j)/\wr=W9) (fun _ i _=>R.pend.length - (intOf i).toNat)
 case atStart=>exact ⟨0,Nat.zero_le _,rfl,rfl,rfl⟩
 case round =>
  obtain ⟨j,hj,rfl,rfl,rfl⟩:=hrel;by_cases hlt:j < R.pend.length
  ·have dl:decide ((j:Int) < (R.pend.length:Int))=true:=decide_eq_true (by omega)
   have dl':decide (j < R.pend.length)=true:=decide_eq_true hlt;obtain ⟨va',cap',ev,-,hat'⟩:=hpe.out
   cases ev
   obtain ⟨b,off,rfl,-,hcc⟩:=hat' (fun e=>by rw [e] at hlt;exact absurd hlt (Nat.not_lt_zero j))
   have c0:wr.cell? ⟨b,off + j * 68,none⟩=some (nu R.pend[j].client):=by
    refine hcc j hlt 0 _ ?_;rw [List.getD_eq_getElem?_getD,List.getElem?_eq_getElem hlt];rfl
   have c1:wr.cell? ⟨b,off + j * 68 + 1,none⟩=some (nu R.pend[j].number):=by
    refine hcc j hlt 1 _ ?_;rw [List.getD_eq_getElem?_getD,List.getElem?_eq_getElem hlt];rfl
   have HS:=hid (t0l (k:Int) (cv:Int) R.pend j hlt);have HIs:Hid (isOp (k:Int) (cv:Int) R.pend[j]=(R.pend[j].client == (k:Int) && R.pend[j].number == (cv:Int))):=rfl;generalize R.pend[j].client=pc at *;generalize R.pend[j].number=pn at *;rcases r0E (k:Int) (cv:Int) R.pend j with hA | ⟨q,hA⟩
   ·rw [hA] at HS ⊢
    cases hb1:(pc == (k:Int)) with
    | false =>
     rw [hb1] at HIs;go_wp2;refine ⟨⟨j + 1,by omega,by go_num,?_,by first | rfl | trivial⟩,by simp [intOf];omega⟩;rw [HS.out,HIs.out];rfl
    | true =>
     cases hb2:(pn == (cv:Int)) with
     | false =>
      rw [hb1,hb2] at HIs;go_wp2;refine ⟨⟨j + 1,by omega,by go_num,?_,by first | rfl | trivial⟩,by simp [intOf];omega⟩;rw [HS.out,HIs.out];rfl
     | true =>
      rw [hb1,hb2] at HIs;go_wp2;refine ⟨⟨j + 1,by omega,by go_num,?_,by first | rfl | trivial⟩,by simp [intOf];omega⟩;rw [HS.out,HIs.out];rfl
   ·rw [hA] at HS ⊢
    have dq:decide ((q:Int) < 0)=false:=decide_eq_false (by omega);go_wp2;refine ⟨⟨j + 1,by omega,by go_num,?_,by first | rfl | trivial⟩,by simp [intOf];omega⟩;rw [HS.out,if_neg (by omega)]
  ·have e:j=R.pend.length:=by omega
   subst e;have dl:decide ((R.pend.length:Int) < (R.pend.length:Int))=false:=decide_eq_false (by omega);have HLp:=hid (r0C HCode.out (by omega:R.long.length < v.length));rcases u0X (k:Int) (cv:Int) R.pend with ⟨hA,hC⟩ | ⟨q,hA,hq,hC⟩
   ·rw [hA]
    have HC:=hid hC;go_wp2;go_ret;refine k0q HCode.out (G':=G) ?_ KW.out (fun b hb=>Or.inl hb);rw [HLp.out,r0D HNum.out,HC.out];rw [HPV.out] at hpe;exact ⟨bs,br,bv,bt,ps6,PV,Y,Z9.out,HG1.out,fun b hb=>Nat.lt_of_lt_of_le (HG2.out b hb) KW.out.size⟩
   ·rw [hA]
    have HC:=hid hC;have dq:decide ((q:Int) ≥ 0)=true:=decide_eq_true (by omega);have hsl:∀ W,(Instr.slice 42 (.slice va R.pend.length vcap) (some (nu ((q:Int) + 1))) none none).run prog W = .ok (.slice (if vcap=q + 1 then va else va.map (·.add ((q + 1) * 68))) (R.pend.length - (q + 1)) (vcap - (q + 1))) W:=fun W=>l0L _ _ underlying42 68 sizePen va R.pend.length vcap (q + 1) (by omega);have HPC:=hid (hpe.out.cut q (by omega));generalize hNV:(Value.slice (if vcap=q + 1 then va else va.map (·.add ((q + 1) * 68))) (R.pend.length - (q + 1)) (vcap - (q + 1)))=NV at *;have hN1:=HPC.out.one;clear hNV;go_upto_region 23 with ((with_reducible refine c0v 42 (.tmp 139) (.tmp 137) ?_ ?_ x 38 ?_ ?_ A38 [] PV NV ?_ 86 RP.out ?_ ?_ ?_ ?_);exact rfl;exact rfl;exact rfl;exact rfl;exact rfl;exact hA38;exact hN1;kernel_rfl;intro WA ra ba;have RA:=hid ra;have UA:=hid ba;clear ra ba)
    go_wp2;go_ret;have KA:=KW.out.but UA.out (Or.inl (HG1.out _ (by simp)));refine k0q HCode.out (G':=G) ?_ KA (fun b hb=>Or.inl hb);rw [HLp.out,r0D HNum.out,HC.out];refine ⟨bs,br,bv,bt,ps6,NV,Y,Z9.out.putRowK (R':={ comK R (k:Int) v t with pend:=R.pend.drop (q + 1) }) rfl rfl (t0k Z9.out.inv (q + 1)) ?_ ((Kp.refl [x] wr).but UA.out (Or.inl (by simp))) HPC.out,HG1.out,fun b hb=>Nat.lt_of_lt_of_le (HG2.out b hb) KA.size⟩;have ha:=RA.out;rw [HRow.out] at ha;rw [k0c];exact ha
open Go Go.RowKit
theorem k0r {w:World} {x:Nat} {G:List Nat} {R:Rs} (h:RY w x G R) {c:Int} {v t:List UInt8} (htl:t.length=32) :
  Calls prog 20 #[pt x 0,nu c,st v,.agg (dg t).toArray] w (RCom w x G R c v t):=by
 cases h1:mayB (comM c v t) with
 | false=>exact w0M h htl h1
 | true =>
  cases h2:hasB R.n c with
  | false=>exact w0N h htl h1 h2
  | true =>
   have hok:d0P R c v t=true:=by unfold d0P;rw [h2,h1];rfl
   obtain ⟨⟨h0,-⟩,-⟩:=c0q hok;obtain ⟨k,rfl⟩:∃ k:Nat,c=(k:Int):=⟨c.toNat,by omega⟩;by_cases h3:c0i v=(k:Int)
   ·by_cases h4:(Hist.cnt v (k:Int):Int)=(R.reg (k:Int)).asked.number
    ·by_cases h6:(Hist.cnt (R.reg (k:Int)).view (k:Int):Int)=(R.reg (k:Int)).asked.number
     ·exact w0Q h htl hok h3 h4 h6
     ·rcases Nat.lt_or_ge R.long.length v.length with h7 | h7
      ·exact w0S h htl hok h3 h4 h6 h7
      ·exact w0R h htl hok h3 h4 h6 h7
    ·exact w0P h htl hok h3 h4
   ·exact w0O h htl hok h3
end Go.Proofs.YtagmnmoaekbffaaGreatDoor.Ms
