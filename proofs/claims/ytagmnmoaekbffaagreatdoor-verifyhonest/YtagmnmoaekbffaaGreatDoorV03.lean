/- V03 -/
import Derived.Test.YtagmnmoaekbffaaGreatDoorV01
import Derived.Test.YtagmnmoaekbffaaGreatDoorTvbg
import Derived.Test.YtagmnmoaekbffaaGreatDoorTyal
import Derived.Test.YtagmnmoaekbffaaGreatDoorS29
import Derived.Deep.CutRange
set_option maxHeartbeats 32000000
namespace Go.Proofs.YtagmnmoaekbffaaGreatDoor.Ms
open Go.Proofs.Tryz
open Go Go.RowKit
set_option maxRecDepth 100000
theorem x0z {nx:List (List UInt8)} {c:Nat} (hc:c < nx.length):nx.map st=(nx.take c).map st++([st (nx.getD c [])]++(nx.drop (c + 1)).map st):=by
 conv=>lhs;rw [← List.take_append_drop c nx,List.drop_eq_getElem_cons hc]
 rw [List.map_append,List.map_cons,List.getD_eq_getElem?_getD,List.getElem?_eq_getElem hc];rfl
theorem h0Y {w:World} {g:Nat} {nx:List (List UInt8)} (h:w.heap[g]? = some (.cells (nx.map st).toArray 9)) {c:Nat} (hc:c < nx.length):w.heap[g]? = some (.cells ((nx.take c).map st++([st (nx.getD c [])]++(nx.drop (c + 1)).map st)).toArray 9):=by
 rw [x0z hc] at h;exact h
theorem m0U {w:World} {g:Nat} {nx:List (List UInt8)} (h:w.heap[g]? = some (.cells (nx.map st).toArray 9)) {j:Nat} (hj:j < nx.length):w.cell? ⟨g,j,none⟩=some (st (nx.getD j [])) :=
 a0l (A:=(nx.take j).map st) (C:=(nx.drop (j + 1)).map st) (h0Y h hj) rfl (by simp;omega)
theorem k0l {w:World} {g:Nat} {nx:List (List UInt8)} {c:Nat} {v:List UInt8} (h:w.heap[g]? = some (.cells ((nx.take c).map st++([st v]++(nx.drop (c + 1)).map st)).toArray 9)) (hc:c < nx.length):w.heap[g]? = some (.cells ((nx.set c v).map st).toArray 9):=by
 have e:(nx.set c v).map st=(nx.take c).map st++([st v]++(nx.drop (c + 1)).map st):=by
  rw [List.set_eq_take_append_cons_drop,if_pos hc,List.map_append,List.map_cons];rfl
 rw [e];exact h
theorem l0I {w:World} {P p vb hb b c n:Nat} {k tg cn nm KD TG:Int} {vw av vl TA TD:List UInt8} {rd:Bool} {vo vo2:Value} {TL D1 D2 ZD0 Z A1 V0 V1 V2 HA HC:List Value} {L0 L1 L2:List Ent}
  (hcn:c < n) (hbl:hb < w.heap.size) (hhb:hb ≠ b)
  (HV0:Hid (V0 = [nu nm,nu 1,nu c,st []]++TL)) (HV1:Hid (V1 = [nu nm,nu KD,nu TG,st vl]++TL)) (LTL:Hid (TL.length=64)) (OTL:Hid (∀ v ∈ TL,v.oneCell' = true))
  (ZS:(prog.info? 40).map (·.zero)=some (some (.agg Z.toArray))) (LZ:Hid (Z.length=68)) (Z68:Hid (∀ l:List Value,l.length=68->(prog.info? 40).map (·.size)=some l.length))
  (ZDz:(prog.info? 38).map (·.zero)=some (some (.agg ZD0.toArray))) (LZD:ZD0.length=32)
  (hnm:nm=cn + 1) (hwr:IntKind.i64.wrap (cn + 1)=cn + 1) (hrd:(k.tmod 2 == 1)=rd)
  (HB0:Hid (∀ W,(Instr.build 40 #[(0,nu (cn + 1)),(1,nu 1),(2,nu c)]).run prog W = .ok (.agg V0.toArray) W))
  (HC0:Hid (∀ W,Calls prog 21 #[st vw,nu c] W fun e w'=>e = .returned (nu cn)/\w' = W))
  (HP0:Hid (∀ W,Kp [b,hb] w W->W.cell? ⟨P,0,none⟩=some (pt p 0))) (HP3:Hid (∀ W,Kp [b,hb] w W->W.cell? ⟨P,3,none⟩=some (sl vb n))) (HP5:Hid (∀ W,Kp [b,hb] w W->W.cell? ⟨P,5,none⟩=some (sl hb n)))
  (HVB:Hid (∀ W,Below w.heap.size w W->W.cell? ⟨vb,c,none⟩=some (st vw))) (HHR:Hid (w.heap[hb]? = some (.cells (HA++([vo]++HC)).toArray 9))) (hHA:HA.length=c) (hvo2:vo2=st vl) (HBK:Hid (Book w b L0))
  (HAs:Hid (∀ W,Calls prog 22 #[nu c,.agg V1.toArray] W fun e w'=>e = .returned (st TA)/\Below W.heap.size W w'))
  (HDa:Hid (∀ W,Calls prog 15 #[nu nm,st vl] W fun e w'=>e = .returned (st TD)/\Below W.heap.size W w'))
  (HTa:Hid (∀ W,Kp [b,hb] w W->Book W b L0->Calls prog 19 #[pt p 0,nu c,nu 1,st TA] W fun e w'=>e = .returned (.tuple #[.agg D1.toArray,nu 0])/\(Touch b W w'/\Book w' b L1)))
  (HTd:Hid (∀ W,Kp [b,hb] w W->Book W b L1->Calls prog 19 #[pt p 0,nu c,nu 2,st TD] W fun e w'=>e = .returned (.tuple #[.agg D2.toArray,nu 0])/\(Touch b W w'/\Book w' b L2)))
  (LD1:D1.length=32) (OD1:Hid (∀ v ∈ D1,v.oneCell' = true)) (ZD1:Hid ((prog.info? 38).map (·.size)=some D1.length))
  (LD2:D2.length=32) (OD2:Hid (∀ v ∈ D2,v.oneCell' = true)) (ZD2:Hid ((prog.info? 38).map (·.size)=some D2.length))
  (HW1:Hid (V1=A1++(ZD0++ZD0))) (hA1:A1.length=4) (HW2:Hid (V2=(A1++D1)++(D2++[]))) (hA2:(A1++D1).length=36) (LV2:V2.length=68) (OV2:Hid (∀ v ∈ V2,v.oneCell' = true)) (ZV2:Hid ((prog.info? 40).map (·.size)=some V2.length))
  (hrd1:Hid (rd=true->KD=2/\TG=tg/\vo=st vl)) (hrd2:Hid (rd=false->KD=1/\TG=c/\av=vl)) :
  Calls prog 9 #[pt P 0,.agg #[nu k,nu c,nu tg,st av]] w fun e w'=>e = .returned (.agg V2.toArray)/\Book w' b L2/\Kp [b,hb] w w'/\w'.heap[hb]? = some (.cells (HA++([vo2]++HC)).toArray 9):=by
 have ba:=a0c w (.cells #[nu k,nu c,nu tg,st av] 27);have TA0:=a0a (a0f w (.cells #[nu k,nu c,nu tg,st av] 27)) (a0c (w.alloc (.cells #[nu k,nu c,nu tg,st av] 27)) (.cells Z.toArray 40));have TR0:=a0f (w.alloc (.cells #[nu k,nu c,nu tg,st av] 27)) (.cells Z.toArray 40);have B0:=hid (a0b ba (a0c (w.alloc (.cells #[nu k,nu c,nu tg,st av] 27)) (.cells Z.toArray 40)));have e1:(w.alloc (.cells #[nu k,nu c,nu tg,st av] 27)).heap.size=w.heap.size + 1:=by simp
 rw [e1] at TR0
 have OV0:Hid (∀ v ∈ V0,v.oneCell' = true):=by
  show ∀ v ∈ V0,_;rw [HV0.out];intro v hv;simp only [List.mem_append,List.mem_cons,List.not_mem_nil,or_false] at hv;rcases hv with (rfl | rfl | rfl | rfl) | hv
  ·rfl
  ·rfl
  ·rfl
  ·rfl
  ·exact OTL.out v hv
 have LV0:V0.length=68:=by rw [HV0.out];have:=LTL.out;simp;omega
 have LV1:V1.length=68:=by rw [HV1.out];have:=LTL.out;simp;omega
 have ZV0:=hid (Z68.out V0 LV0);have ZV1:=hid (Z68.out V1 LV1);have HV1a:V1[0]? = some (nu nm):=by rw [HV1.out];rfl
 have HV1d:V1[3]? = some (st vl):=by rw [HV1.out];rfl
 go_enter func9,ntmps9;go_upto_region 1 with ((with_reducible refine a0G 40 ?_ ?_ Z.toArray ZS ?_);exact rfl;exact rfl)
 try simp only [Act.put,List.setIfInBounds_toArray,List.set_cons_zero,List.set_cons_succ,e1]
 clear e1 ba;have hs0:=B0.out.size;have hT0:=a0D TR0;generalize (w.alloc (.cells #[nu k,nu c,nu tg,st av] 27)).alloc (.cells Z.toArray 40)=W0 at *;obtain ⟨A,hA⟩:∃ A,w.heap.size=A:=⟨_,rfl⟩;obtain ⟨Rr,hRr⟩:∃ Rr,w.heap.size + 1=Rr:=⟨_,rfl⟩;rw [hRr] at TR0 ⊢;rw [hA] at TA0 ⊢;have TAh:=hid TA0;have TRh:=hid TR0;have a0:=(a0k (cs:=[nu k,nu c,nu tg,st av]) TA0) 0 _ rfl;have a1:=(a0k (cs:=[nu k,nu c,nu tg,st av]) TA0) 1 _ rfl;have v1:=HVB.out _ B0.out;have c3:W0.cell? ⟨P,3,none⟩=some (.slice (some ⟨vb,0,none⟩) n n):=HP3.out _ (Kp.of B0.out);have hRr2:Rr < W0.heap.size:=by omega
 have hAl:w.heap.size <= A/\w.heap.size <= Rr:=by omega
 have hAR:A ≠ Rr:=by omega
 have dc:decide (c < n)=true:=decide_eq_true hcn;clear TA0 TR0 hT0 hRr
 go_wp2_with fail
 refine (HC0.out _).mono ?_;rintro e W1 ⟨rfl,hw⟩;subst W1;have b1:=a0c W0 (.cells V0.toArray 40);have LZ':=LZ.out;have LVZ:Z.length=V0.length:=LZ'.trans LV0.symm;clear v1 c3 a1
 go_upto_region 3 with (first
  | ((with_reducible refine e0e 40 [(0,.tmp 22),(1,.const (nu 1)),(2,.tmp 23)] ?_ ?_ V0.toArray ?_ ?_);exact rfl;exact rfl;exact (HB0.out _))
  | ((with_reducible refine a0G 40 ?_ ?_ Z.toArray ZS ?_);exact rfl;exact rfl)
  | ((with_reducible refine a0v 40 (.tmp 6) (.tmp 24) ?_ ?_ ?_ ?_ V0 Z ?_ 40 LVZ OV0.out ZV0.out ?_);exact rfl;iterate 4 exact rfl))
 have B1:=hid (a0b B0.out b1);have X1:=hid (a0f W0 (.cells V0.toArray 40));have A1h:=hid (a0a TAh.out b1);have R1h:=hid (a0a TRh.out b1);obtain ⟨X,hX⟩:∃ X,W0.heap.size=X:=⟨_,rfl⟩;rw [hX] at X1 hRr2 ⊢;have hXw:w.heap.size <= X:=by omega
 have hs1:=b1.size;clear a0 b1 TAh TRh B0;generalize W0.alloc (.cells V0.toArray 40)=W1 at *;have HR:=hid (fun W (h:Below W1.heap.size W1 W)=>a0a (a0a HHR.out B1.out) h)
 have K61:Hid (∀ W,Kp [hb,X] W1 W->Kp [b,hb] w W):=hid (fun W h=>(Kp.of B1.out).then h (fun x hx=>by
  simp only [List.mem_cons,List.not_mem_nil,or_false] at hx;rcases hx with rfl | rfl
  ·exact Or.inl (by simp)
  ·exact Or.inr hXw))
 have hAhb:A ≠ hb:=by omega
 have hXhb:X ≠ hb:=by omega
 have hAX:A ≠ X:=by have:=a0D A1h.out;omega
 have a0:=(a0k (cs:=[nu k,nu c,nu tg,st av]) A1h.out) 0 _ rfl;have hz1:([nu nm]:List Value).length=1:=rfl;have hz2:([nu nm,nu 2]:List Value).length=2:=rfl;have hz3:([nu nm,nu KD,nu TG]:List Value).length=3:=rfl
 go_upto_if 28 with fail
 go_cut [] from 29 to 40 (fun wx=>Hid (Kp [hb,X] W1 wx)/\Hid (wx.heap[X]? = some (.cells ([nu nm,nu KD,nu TG]++([st []]++TL)).toArray 40))/\Hid (wx.heap[hb]? = some (.cells (HA++([vo2]++HC)).toArray 9)))
 case first =>
  cases rd
  case true =>
   obtain ⟨rfl,rfl,rfl⟩:=hrd1.out (by trivial);have a2:=(a0k (cs:=[nu k,nu c,nu TG,st av]) A1h.out) 2 _ rfl;have X1b:Hid (W1.heap[X]? = some (.cells ([nu nm]++([nu 1]++([nu c,st []]++TL))).toArray 40)):=hid (by have e:=X1.out;rw [HV0.out] at e;exact e);go_upto_region 5 with ((with_reducible refine c0v 3 (.tmp 29) (.const (nu 2)) ?_ ?_ X 1 ?_ ?_ [nu nm] ([nu c,st []]++TL) (nu 1) (nu 2) ?_ 40 X1b.out hz1 rfl sizeInt25 ?_);exact rfl;exact rfl;exact rfl;exact rfl;exact rfl;intro W2 r2 b2)
   have X2b:Hid (W2.heap[X]? = some (.cells ([nu nm,nu 2]++([nu c]++([st []]++TL))).toArray 40)):=hid r2;have K2:Hid (Below W1.heap.size W1 W2 ∨ True):=hid (Or.inr trivial);have a2b:W2.cell? ⟨A,2,none⟩=some (nu TG):=(a0k (cs:=[nu k,nu c,nu TG,st av]) (b2.row A1h.out hAX)) 2 _ rfl;have H2:=hid (b2.row (HR.out _ (Below.refl _ _)) (Ne.symm hXhb))
   go_wp2_with ((with_reducible refine c0v 3 (.tmp 32) (.tmp 31) ?_ ?_ X 2 ?_ ?_ [nu nm,nu 2] ([st []]++TL) (nu c) (nu TG) ?_ 40 X2b.out hz2 rfl sizeInt25 ?_);exact rfl;exact rfl;exact rfl;exact rfl;exact rfl;intro W3 r3 b3)
   go_meet
   case rel =>
    refine ⟨(((Kp.refl [hb,X] W1).but b2 (Or.inl (by simp))).but b3 (Or.inl (by simp))),?_,?_⟩
    ·exact r3
    ·rw [hvo2];exact b3.row H2.out (Ne.symm hXhb)
  case false =>
   obtain ⟨rfl,rfl,rfl⟩:=hrd2.out (by trivial);have X1b:Hid (W1.heap[X]? = some (.cells ([nu nm,nu 1,nu c]++([st []]++TL)).toArray 40)):=hid (by have e:=X1.out;rw [HV0.out] at e;exact e);have CP5:=hid (fun W (h:Kp [hb] W1 W)=>HP5.out W (K61.out W (h.drop (fun x hx=>Or.inl (by simp at hx;simp [hx])))));have CA3:=hid (fun W (h:Kp [hb] W1 W)=>(a0k (cs:=[nu k,nu c,nu tg,st av]) (h.row A1h.out (by simp;omega))) 3 _ rfl);go_upto_region 6 with fail
   refine b0W (N:=80) [(pt P 0),(pt P 0),(pt P 5),(sl hb n),(nu c),(pt A 3),(st av),(pt hb (0 + c * 1)),undef] (fun L w=>Kp [hb] W1 w/\w.heap[hb]? = some (.cells (HA++([bif L 8 then st av else vo]++HC)).toArray 9)) [(33,(pt P 0)),(34,(pt P 0)),(35,(pt P 5)),(36,(sl hb n)),(37,(nu c)),(38,(pt A 3)),(39,(st av)),(40,(pt hb (0 + c * 1)))] (by kernel_rfl) (by kernel_rfl) rfl (fun w1 hb=>⟨Kp.of hb,HR.out _ hb⟩) (by kernel_rfl) ?_ ?_
   ·intro i o ho
    match i,ho with
    | 0,ho=>cases ho;exact fun L a w hLi hw hnot hJ hk hv K h=>a0q 0 _ rfl (hk 0 (by kernel_rfl)) (h _ hJ)
    | 1,ho=>cases ho;exact fun L a w hLi hw hnot hJ hk hv K h=>c0m 33 P 0 rfl (hv 0 33 (by kernel_rfl) (by kernel_rfl)) (h _ hJ)
    | 2,ho=>cases ho;exact fun L a w hLi hw hnot hJ hk hv K h=>b0C 34 _ 5 P 0 5 rfl (fun W=>by kernel_rfl) (hv 1 34 (by kernel_rfl) (by kernel_rfl)) (h _ hJ)
    | 3,ho=>cases ho;exact fun L a w hLi hw hnot hJ hk hv K h=>a0A _ (.tmp 35) rfl P 5 (hv 2 35 (by kernel_rfl) (by kernel_rfl)) (sl hb n) _ (CP5.out _ hJ.1) underlying33 rfl (h _ hJ)
    | 4,ho=>cases ho;exact fun L a w hLi hw hnot hJ hk hv K h=>a0q 5 _ rfl (hk 5 (by kernel_rfl)) (h _ hJ)
    | 5,ho=>cases ho;exact fun L a w hLi hw hnot hJ hk hv K h=>b0C 3 _ 3 A 0 3 rfl (fun W=>by kernel_rfl) (hk 3 (by kernel_rfl)) (h _ hJ)
    | 6,ho=>cases ho;exact fun L a w hLi hw hnot hJ hk hv K h=>a0A _ (.tmp 38) rfl A 3 (hv 5 38 (by kernel_rfl) (by kernel_rfl)) (st av) _ (CA3.out _ hJ.1) underlying9 rfl (h _ hJ)
    | 7,ho=>cases ho;exact fun L a w1 hLi hw hnot hJ hk hv K h=>d0C 36 37 _ 9 rfl underlying33 1 sizeStr hb 0 n n c hcn (hv 3 36 (by kernel_rfl) (by kernel_rfl)) (hv 4 37 (by kernel_rfl) (by kernel_rfl)) (h _ hJ)
    | 8,ho=>cases ho;exact fun L a w1 hLi hw hnot hJ hk hv K h=>f0x _ 40 39 rfl rfl hb (0 + c * 1) (hv 7 40 (by kernel_rfl) (by kernel_rfl)) HA HC vo (st av) (hv 6 39 (by kernel_rfl) (by kernel_rfl)) 9 (by have e:=hJ.2;simp only [hLi,cond_false] at e;exact e) (by rw [hHA];omega) rfl sizeStr (fun w2 hr hbut=>h _ ⟨hJ.1.but hbut (Or.inl (by simp)),(by show w2.heap[hb]? = some (.cells (HA++([bif up L 8 8 then st av else vo]++HC)).toArray 9);rw [b0s];exact hr)⟩)
    | (i + 9),ho=>exact absurd ho (by simp)
   intro LL W2 hall hJ;simp only [List.foldl_cons,List.foldl_nil,List.setIfInBounds_toArray,List.set_cons_zero,List.set_cons_succ];obtain ⟨k2,r2⟩:=hJ;rw [hall 8 (by decide),cond_true] at r2;have X2:=k2.row X1b.out (by simpa using hXhb);go_wp2
   go_meet
   case rel =>
    refine ⟨k2.drop (fun x hx=>Or.inl (by simp at hx;simp [hx])),X2,?_⟩;rw [hvo2];exact r2
 case rest =>
  obtain ⟨k2,x2,h2⟩:=hcut;have X2:=hid x2.out;have H2:=hid h2.out;have R2:=hid (k2.out.row R1h.out (by simp;omega));have K2:=hid (K61.out _ k2.out);have p5:wc.cell? ⟨P,5,none⟩=some (.slice (some ⟨hb,0,none⟩) n n):=HP5.out _ K2.out;have h1:wc.cell? ⟨hb,c,none⟩=some (st vl):=a0l (A:=HA) (C:=HC) H2.out (by rw [hvo2]) hHA;have hbX:b ≠ X:=by have:=HBK.out.lt;have:=B1.out.size;omega
  have HBK2:Hid (Book wc b L0):=hid ((HBK.out.kept B1.out).at (k2.out.block b (Nat.lt_of_lt_of_le HBK.out.lt B1.out.size) (by simp;omega)));clear x2 h2 k2 X1 R1h A1h HR K61 a0;go_upto_region 8 with ((with_reducible refine c0v 9 (.tmp 48) (.tmp 47) ?_ ?_ X 3 ?_ ?_ [nu nm,nu KD,nu TG] TL (st []) (st vl) ?_ 40 X2.out hz3 ?_ ?_ ?_);exact rfl;exact rfl;exact rfl;exact rfl;exact rfl;exact rfl;exact sizeStr;intro W3 r3 b3)
  rw [show [nu nm,nu KD,nu TG]++([st vl]++TL)=V1 from HV1.out.symm] at r3;have X3:=hid r3;have hXb:X ≠ hb:=hXhb;have K3w:Hid (Kp [b,hb] w W3):=hid (K2.out.but b3 (Or.inr hXw));have K3:Hid (Book W3 b L0):=hid (HBK2.out.at (b3.block b hbX));have H3:=hid (b3.row H2.out (Ne.symm hXb));have R3:=hid (b3.row R2.out (by omega));clear r3 b3 X2 K2 HBK2 H2 R2 p5 h1;have TK:Hid (∀ W,Touch b W3 W->Kp [b,hb] w W):=hid (fun W h=>K3w.out.trans ⟨h.os,h.tape,h.output,h.size,fun k hk hx=>h.block k hk (fun e=>hx (by simp [e]))⟩);have CP0:=hid (fun W (h:Touch b W3 W)=>HP0.out W (TK.out W h));have HT1:=hid (fun W (h:Touch b W3 W) (hk:Book W b L0)=>HTa.out W (TK.out W h) hk);refine b0X (N:=80) 12 13 7 38 32 D1 W3.heap.size [(pt P 0),(pt P 0),(pt P 0),(pt p 0),(nu c),(nu c),(.agg (V1).toArray),(st TA),(.tuple #[(.agg D1.toArray),(nu 0)]),(.tuple #[(.agg D1.toArray),(nu 0)]),(.agg D1.toArray),(nu 0),undef,undef,(nu 0)] (fun L w=>Touch b W3 w/\Book w b (bif L 8 then L1 else L0)) (fun g=>[(50,(pt P 0)),(51,(pt P 0)),(52,(pt P 0)),(53,(pt p 0)),(54,(nu c)),(55,(nu c)),(56,(.agg (V1).toArray)),(57,(st TA)),(58,(.tuple #[(.agg D1.toArray),(nu 0)])),(49,(.tuple #[(.agg D1.toArray),(nu 0)])),(59,(.agg D1.toArray)),(60,(nu 0)),(7,(pt g 0)),(8,(nu 0))]) (by kernel_rfl) (by kernel_rfl) rfl (by kernel_rfl) (by decide) (by simp) (fun g=>by kernel_rfl) (fun w1 hb=>⟨Touch.of hb,K3.out.kept hb⟩) ?_ ?_
  ·intro i o ho
   match i,ho with
   | 0,ho=>cases ho;exact oweN (pt P 0) (by decide) (by decide) rfl (fun L a w hLi hJ hw hnot hk hv K h=>a0q 0 _ rfl (hk 0 (by kernel_rfl)) (h _ hJ (fun _ _ _ e=>e)))
   | 1,ho=>cases ho;exact oweN (pt P 0) (by decide) (by decide) rfl (fun L a w hLi hJ hw hnot hk hv K h=>c0m 50 P 0 rfl (hv 0 50 (by kernel_rfl) (by decide) (by kernel_rfl)) (h _ hJ (fun _ _ _ e=>e)))
   | 2,ho=>cases ho;exact oweN (pt P 0) (by decide) (by decide) rfl (fun L a w hLi hJ hw hnot hk hv K h=>b0C 51 _ 0 P 0 0 rfl (fun W=>by kernel_rfl) (hv 1 51 (by kernel_rfl) (by decide) (by kernel_rfl)) (h _ hJ (fun _ _ _ e=>e)))
   | 3,ho=>cases ho;exact oweN (pt p 0) (by decide) (by decide) rfl (fun L a w hLi hJ hw hnot hk hv K h=>a0A _ (.tmp 52) rfl P 0 (hv 2 52 (by kernel_rfl) (by decide) (by kernel_rfl)) (pt p 0) _ (CP0.out _ hJ.1) underlying30 rfl (h _ hJ (fun _ _ _ e=>e)))
   | 4,ho=>cases ho;exact oweN (nu c) (by decide) (by decide) rfl (fun L a w hLi hJ hw hnot hk hv K h=>a0q 5 _ rfl (hk 5 (by kernel_rfl)) (h _ hJ (fun _ _ _ e=>e)))
   | 5,ho=>cases ho;exact oweN (nu c) (by decide) (by decide) rfl (fun L a w hLi hJ hw hnot hk hv K h=>a0q 5 _ rfl (hk 5 (by kernel_rfl)) (h _ hJ (fun _ _ _ e=>e)))
   | 6,ho=>cases ho;exact oweN (.agg (V1).toArray) (by decide) (by decide) rfl (fun L a w hLi hJ hw hnot hk hv K h=>c0u _ (.tmp 6) rfl X 0 (hk 6 (by kernel_rfl)) (V1) _ (a0k (a0x X3.out hJ.1 (K3.out.ne X3.out))) underlying40 rfl ZV1.out (h _ hJ (fun _ _ _ e=>e)))
   | 7,ho=>cases ho;exact oweN (st TA) (by decide) (by decide) rfl (fun L a w hLi hJ hw hnot hk hv K h=>c0J 22 [.tmp 55,.tmp 56] _ #[(nu c),(.agg (V1).toArray)] (st TA) rfl (fun _ _=>by kernel_rfl) (s0T (hv 5 55 (by kernel_rfl) (by decide) (by kernel_rfl)) (hv 6 56 (by kernel_rfl) (by decide) (by kernel_rfl))) (J:=fun w1=>Below w.heap.size w w1) (HAs.out w) (fun w1 e1=>h _ ⟨hJ.1.trans (Touch.of e1),by show Book w1 b (bif up L 7 8 then L1 else L0);rw [b0p (by decide)];exact hJ.2.kept e1⟩ (fun k r _ hr=>a0a hr e1)))
   | 8,ho=>cases ho;exact oweN (.tuple #[(.agg D1.toArray),(nu 0)]) (by decide) (by decide) rfl (fun L a w hLi hJ hw hnot hk hv K h=>c0J 19 [.tmp 53,.tmp 54,.const (nu (1)),.tmp 57] _ #[(pt p 0),(nu c),(nu (1)),(st TA)] (.tuple #[(.agg D1.toArray),(nu 0)]) rfl (fun _ _=>by kernel_rfl) (s0U (hv 3 53 (by kernel_rfl) (by decide) (by kernel_rfl)) (hv 4 54 (by kernel_rfl) (by decide) (by kernel_rfl)) rfl (hv 7 57 (by kernel_rfl) (by decide) (by kernel_rfl))) (J:=fun w1=>Touch b w w1/\Book w1 b L1) (HT1.out w hJ.1 (by have e:=hJ.2;simp only [hLi,cond_false] at e;exact e)) (fun w1 e1=>h _ ⟨hJ.1.trans e1.1,by show Book w1 b (bif up L 8 8 then L1 else L0);rw [b0s];exact e1.2⟩ (fun k r _ hr=>a0x hr e1.1 (hJ.2.ne hr))))
   | 9,ho=>cases ho;exact oweN (.tuple #[(.agg D1.toArray),(nu 0)]) (by decide) (by decide) rfl (fun L a w hLi hJ hw hnot hk hv K h=>a0q 58 _ rfl (hv 8 58 (by kernel_rfl) (by decide) (by kernel_rfl)) (h _ hJ (fun _ _ _ e=>e)))
   | 10,ho=>cases ho;exact oweN (.agg D1.toArray) (by decide) (by decide) rfl (fun L a w hLi hJ hw hnot hk hv K h=>b0a 49 0 #[(.agg D1.toArray),(nu 0)] _ rfl (hv 9 49 (by kernel_rfl) (by decide) (by kernel_rfl)) rfl (h _ hJ (fun _ _ _ e=>e)))
   | 11,ho=>cases ho;exact oweN (nu 0) (by decide) (by decide) rfl (fun L a w hLi hJ hw hnot hk hv K h=>b0a 49 1 #[(.agg D1.toArray),(nu 0)] _ rfl (hv 9 49 (by kernel_rfl) (by decide) (by kernel_rfl)) rfl (h _ hJ (fun _ _ _ e=>e)))
   | 12,ho=>cases ho;exact d0a rfl ZD0 ZDz LZD _ rfl (by kernel_rfl) (by decide) (fun _ _ h=>h.1.size) (fun _ w o h=>⟨h.1.trans (Touch.of (a0c w o)),h.2.kept (a0c w o)⟩)
   | 13,ho=>cases ho;exact d0b 7 59 rfl rfl (by kernel_rfl) 10 (by kernel_rfl) (by decide) (by kernel_rfl) (by kernel_rfl) rfl LD1 OD1.out ZD1.out (fun _ w w2 g _ h hg hr hb=>⟨h0R h.1 hb hg,h.2.at (hb.block b (Ne.symm (h.2.ne hr)))⟩)
   | 14,ho=>cases ho;exact oweN (nu 0) (by decide) (by decide) rfl (fun L a w hLi hJ hw hnot hk hv K h=>c0l 60 _ rfl (hv 11 60 (by kernel_rfl) (by decide) (by kernel_rfl)) (h _ hJ (fun _ _ _ e=>e)))
   | (i + 15),ho=>exact absurd ho (by simp)
  intro g1 LL W4 hg1 hr1 hall hJ;simp only [List.foldl_cons,List.foldl_nil,List.setIfInBounds_toArray,List.set_cons_zero,List.set_cons_succ];obtain ⟨t4,bk4⟩:=hJ;rw [hall 8 (by decide),cond_true] at bk4;have X4:=hid (a0x X3.out t4 (K3.out.ne X3.out));have R4:=hid (a0x R3.out t4 (K3.out.ne R3.out));have H4:=hid (a0x H3.out t4 (K3.out.ne H3.out));have K4w:=hid (TK.out _ t4);have K4:=hid bk4;have G4:=hid hr1;have hg1x:X < g1:=by have:=a0D X3.out;omega
  have hg1w:w.heap.size <= g1:=by omega
  have hg1l:=a0D hr1;clear t4 bk4 hr1 hall X3 R3 H3 K3 K3w TK CP0 HT1 hg1;have TK:Hid (∀ W,Touch b W4 W->Kp [b,hb] w W):=hid (fun W h=>K4w.out.trans ⟨h.os,h.tape,h.output,h.size,fun k hk hx=>h.block k hk (fun e=>hx (by simp [e]))⟩);have CP0b:=hid (fun W (h:Touch b W4 W)=>HP0.out W (TK.out W h));have HT2:=hid (fun W (h:Touch b W4 W) (hk:Book W b L1)=>HTd.out W (TK.out W h) hk);go_upto_region 9 with fail
  refine b0X (N:=80) 14 15 9 38 32 D2 W4.heap.size [(pt P 0),(pt P 0),(pt P 0),(pt p 0),(nu c),(pt X 0),(nu nm),(pt X 3),(st vl),(st TD),(.tuple #[(.agg D2.toArray),(nu 0)]),(.tuple #[(.agg D2.toArray),(nu 0)]),(.agg D2.toArray),(nu 0),undef,undef,(nu 0)] (fun L w=>Touch b W4 w/\Book w b (bif L 10 then L2 else L1)) (fun g=>[(62,(pt P 0)),(63,(pt P 0)),(64,(pt P 0)),(65,(pt p 0)),(66,(nu c)),(67,(pt X 0)),(68,(nu nm)),(69,(pt X 3)),(70,(st vl)),(71,(st TD)),(72,(.tuple #[(.agg D2.toArray),(nu 0)])),(61,(.tuple #[(.agg D2.toArray),(nu 0)])),(73,(.agg D2.toArray)),(74,(nu 0)),(9,(pt g 0)),(10,(nu 0))]) (by kernel_rfl) (by kernel_rfl) rfl (by kernel_rfl) (by decide) (by simp) (fun g=>by kernel_rfl) (fun w1 hb=>⟨Touch.of hb,K4.out.kept hb⟩) ?_ ?_
  ·intro i o ho
   match i,ho with
   | 0,ho=>cases ho;exact oweN (pt P 0) (by decide) (by decide) rfl (fun L a w hLi hJ hw hnot hk hv K h=>a0q 0 _ rfl (hk 0 (by kernel_rfl)) (h _ hJ (fun _ _ _ e=>e)))
   | 1,ho=>cases ho;exact oweN (pt P 0) (by decide) (by decide) rfl (fun L a w hLi hJ hw hnot hk hv K h=>c0m 62 P 0 rfl (hv 0 62 (by kernel_rfl) (by decide) (by kernel_rfl)) (h _ hJ (fun _ _ _ e=>e)))
   | 2,ho=>cases ho;exact oweN (pt P 0) (by decide) (by decide) rfl (fun L a w hLi hJ hw hnot hk hv K h=>b0C 63 _ 0 P 0 0 rfl (fun W=>by kernel_rfl) (hv 1 63 (by kernel_rfl) (by decide) (by kernel_rfl)) (h _ hJ (fun _ _ _ e=>e)))
   | 3,ho=>cases ho;exact oweN (pt p 0) (by decide) (by decide) rfl (fun L a w hLi hJ hw hnot hk hv K h=>a0A _ (.tmp 64) rfl P 0 (hv 2 64 (by kernel_rfl) (by decide) (by kernel_rfl)) (pt p 0) _ (CP0b.out _ hJ.1) underlying30 rfl (h _ hJ (fun _ _ _ e=>e)))
   | 4,ho=>cases ho;exact oweN (nu c) (by decide) (by decide) rfl (fun L a w hLi hJ hw hnot hk hv K h=>a0q 5 _ rfl (hk 5 (by kernel_rfl)) (h _ hJ (fun _ _ _ e=>e)))
   | 5,ho=>cases ho;exact oweN (pt X 0) (by decide) (by decide) rfl (fun L a w hLi hJ hw hnot hk hv K h=>b0C 6 _ 0 X 0 0 rfl (fun W=>by kernel_rfl) (hk 6 (by kernel_rfl)) (h _ hJ (fun _ _ _ e=>e)))
   | 6,ho=>cases ho;exact oweN (nu nm) (by decide) (by decide) rfl (fun L a w hLi hJ hw hnot hk hv K h=>a0A _ (.tmp 67) rfl X 0 (hv 5 67 (by kernel_rfl) (by decide) (by kernel_rfl)) (nu nm) _ (a0k (a0x X4.out hJ.1 (K4.out.ne X4.out)) 0 _ HV1a) underlying3 rfl (h _ hJ (fun _ _ _ e=>e)))
   | 7,ho=>cases ho;exact oweN (pt X 3) (by decide) (by decide) rfl (fun L a w hLi hJ hw hnot hk hv K h=>b0C 6 _ 3 X 0 3 rfl (fun W=>by kernel_rfl) (hk 6 (by kernel_rfl)) (h _ hJ (fun _ _ _ e=>e)))
   | 8,ho=>cases ho;exact oweN (st vl) (by decide) (by decide) rfl (fun L a w hLi hJ hw hnot hk hv K h=>a0A _ (.tmp 69) rfl X 3 (hv 7 69 (by kernel_rfl) (by decide) (by kernel_rfl)) (st vl) _ (a0k (a0x X4.out hJ.1 (K4.out.ne X4.out)) 3 _ HV1d) underlying9 rfl (h _ hJ (fun _ _ _ e=>e)))
   | 9,ho=>cases ho;exact oweN (st TD) (by decide) (by decide) rfl (fun L a w hLi hJ hw hnot hk hv K h=>c0J 15 [.tmp 68,.tmp 70] _ #[(nu nm),(st vl)] (st TD) rfl (fun _ _=>by kernel_rfl) (s0T (hv 6 68 (by kernel_rfl) (by decide) (by kernel_rfl)) (hv 8 70 (by kernel_rfl) (by decide) (by kernel_rfl))) (J:=fun w1=>Below w.heap.size w w1) (HDa.out w) (fun w1 e1=>h _ ⟨hJ.1.trans (Touch.of e1),by show Book w1 b (bif up L 9 10 then L2 else L1);rw [b0p (by decide)];exact hJ.2.kept e1⟩ (fun k r _ hr=>a0a hr e1)))
   | 10,ho=>cases ho;exact oweN (.tuple #[(.agg D2.toArray),(nu 0)]) (by decide) (by decide) rfl (fun L a w hLi hJ hw hnot hk hv K h=>c0J 19 [.tmp 65,.tmp 66,.const (nu (2)),.tmp 71] _ #[(pt p 0),(nu c),(nu (2)),(st TD)] (.tuple #[(.agg D2.toArray),(nu 0)]) rfl (fun _ _=>by kernel_rfl) (s0U (hv 3 65 (by kernel_rfl) (by decide) (by kernel_rfl)) (hv 4 66 (by kernel_rfl) (by decide) (by kernel_rfl)) rfl (hv 9 71 (by kernel_rfl) (by decide) (by kernel_rfl))) (J:=fun w1=>Touch b w w1/\Book w1 b L2) (HT2.out w hJ.1 (by have e:=hJ.2;simp only [hLi,cond_false] at e;exact e)) (fun w1 e1=>h _ ⟨hJ.1.trans e1.1,by show Book w1 b (bif up L 10 10 then L2 else L1);rw [b0s];exact e1.2⟩ (fun k r _ hr=>a0x hr e1.1 (hJ.2.ne hr))))
   | 11,ho=>cases ho;exact oweN (.tuple #[(.agg D2.toArray),(nu 0)]) (by decide) (by decide) rfl (fun L a w hLi hJ hw hnot hk hv K h=>a0q 72 _ rfl (hv 10 72 (by kernel_rfl) (by decide) (by kernel_rfl)) (h _ hJ (fun _ _ _ e=>e)))
   | 12,ho=>cases ho;exact oweN (.agg D2.toArray) (by decide) (by decide) rfl (fun L a w hLi hJ hw hnot hk hv K h=>b0a 61 0 #[(.agg D2.toArray),(nu 0)] _ rfl (hv 11 61 (by kernel_rfl) (by decide) (by kernel_rfl)) rfl (h _ hJ (fun _ _ _ e=>e)))
   | 13,ho=>cases ho;exact oweN (nu 0) (by decide) (by decide) rfl (fun L a w hLi hJ hw hnot hk hv K h=>b0a 61 1 #[(.agg D2.toArray),(nu 0)] _ rfl (hv 11 61 (by kernel_rfl) (by decide) (by kernel_rfl)) rfl (h _ hJ (fun _ _ _ e=>e)))
   | 14,ho=>cases ho;exact d0a rfl ZD0 ZDz LZD _ rfl (by kernel_rfl) (by decide) (fun _ _ h=>h.1.size) (fun _ w o h=>⟨h.1.trans (Touch.of (a0c w o)),h.2.kept (a0c w o)⟩)
   | 15,ho=>cases ho;exact d0b 9 73 rfl rfl (by kernel_rfl) 12 (by kernel_rfl) (by decide) (by kernel_rfl) (by kernel_rfl) rfl LD2 OD2.out ZD2.out (fun _ w w2 g _ h hg hr hb=>⟨h0R h.1 hb hg,h.2.at (hb.block b (Ne.symm (h.2.ne hr)))⟩)
   | 16,ho=>cases ho;exact oweN (nu 0) (by decide) (by decide) rfl (fun L a w hLi hJ hw hnot hk hv K h=>c0l 74 _ rfl (hv 13 74 (by kernel_rfl) (by decide) (by kernel_rfl)) (h _ hJ (fun _ _ _ e=>e)))
   | (i + 17),ho=>exact absurd ho (by simp)
  intro g2 LL W5 hg2 hr2 hall hJ;simp only [List.foldl_cons,List.foldl_nil,List.setIfInBounds_toArray,List.set_cons_zero,List.set_cons_succ];obtain ⟨t5,bk5⟩:=hJ;rw [hall 10 (by decide),cond_true] at bk5;have X5:Hid (W5.heap[X]? = some (.cells (A1++(ZD0++ZD0)).toArray 40)):=hid (by rw [← HW1.out];exact a0x X4.out t5 (K4.out.ne X4.out));have R5:=hid (a0x R4.out t5 (K4.out.ne R4.out));have H5:=hid (a0x H4.out t5 (K4.out.ne H4.out));have G5:=hid (a0x G4.out t5 (K4.out.ne G4.out));have K5w:=hid (TK.out _ t5);have K5:=hid bk5;have E5:=hid hr2;have hg2x:g1 < g2:=by omega
  clear t5 bk5 hr2 hall X4 R4 H4 G4 K4 K4w TK CP0b HT2 hg2 hg1l;have LE1:ZD0.length=D1.length:=LZD.trans LD1.symm;have LE2:ZD0.length=D2.length:=LZD.trans LD2.symm
  go_upto_region 11 with (first
   | ((with_reducible refine a0d 38 (.tmp 7) ?_ g1 0 ?_ ?_ D1 _ (a0k G5.out) underlying38 ?_ ZD1.out ?_);iterate 4 exact rfl)
   | ((with_reducible refine b0b 38 (.tmp 76) (.tmp 75) ?_ ?_ X 4 ?_ ?_ A1 D1 ZD0 ZD0 ?_ 40 X5.out hA1 LE1 OD1.out ZD1.out ?_);exact rfl;exact rfl;exact rfl;exact rfl;exact rfl;intro W6 r6 b6))
  have X6:Hid (W6.heap[X]? = some (.cells ((A1++D1)++(ZD0++[])).toArray 40)):=hid (by rw [List.append_nil,List.append_assoc];exact r6);have R6:=hid (b6.row R5.out (by omega));have H6:=hid (b6.row H5.out (Ne.symm hXb));have E6:=hid (b6.row E5.out (by omega));have K6w:=hid (K5w.out.but b6 (Or.inr hXw));have hbX:b ≠ X:=by have:=HBK.out.lt;omega
  have K6:=hid (K5.out.at (b6.block b hbX));clear r6 b6 X5 R5 H5 G5 E5 K5w K5
  go_upto_region 12 with (first
   | ((with_reducible refine a0d 38 (.tmp 9) ?_ g2 0 ?_ ?_ D2 _ (a0k E6.out) underlying38 ?_ ZD2.out ?_);iterate 4 exact rfl)
   | ((with_reducible refine b0b 38 (.tmp 78) (.tmp 77) ?_ ?_ X 36 ?_ ?_ (A1++D1) D2 ZD0 [] ?_ 40 X6.out hA2 LE2 OD2.out ZD2.out ?_);exact rfl;exact rfl;exact rfl;exact rfl;exact rfl;intro W7 r7 b7))
  rw [← HW2.out] at r7;have X7:=hid r7;have R7:=hid (b7.row R6.out (by omega));have H7:=hid (b7.row H6.out (Ne.symm hXb));have K7w:=hid (K6w.out.but b7 (Or.inr hXw));have K7:=hid (K6.out.at (b7.block b hbX));have LZV:Z.length=V2.length:=LZ.out.trans LV2.symm;clear r7 b7 X6 R6 H6 E6 K6w K6
  go_wp2_with (first
   | ((with_reducible refine a0d 40 (.tmp 6) ?_ X 0 ?_ ?_ V2 _ (a0k X7.out) underlying40 ?_ ZV2.out ?_);iterate 4 exact rfl)
   | ((with_reducible refine b0b 40 (.tmp 4) (.tmp 79) ?_ ?_ Rr 0 ?_ ?_ [] V2 Z [] ?_ 40 (c0O R7.out) rfl LZV OV2.out ZV2.out ?_);exact rfl;exact rfl;exact rfl;exact rfl;exact rfl;intro W8 hr8 hbut))
  have hr9:W8.heap[Rr]? = some (.cells V2.toArray 40):=by simpa using hr8
  refine bodyPost_ret_by (f0c (fn:=Tryz.f9) (p:=4) (ty:=40) (by kernel_rfl) _ _ Rr 40 V2.toArray (0,0) _ rfl hr9 underlying40 rfl (by rw [List.size_toArray];exact ZV2.out)) rfl ?_;exact ⟨rfl,K7.out.at (hbut.block b (by have:=HBK.out.lt;omega)),K7w.out.but hbut (Or.inr hAl.2),hbut.row H7.out (by omega)⟩
end Go.Proofs.YtagmnmoaekbffaaGreatDoor.Ms
