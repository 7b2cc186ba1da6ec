/- V07 -/
import Derived.Test.YtagmnmoaekbffaaGreatDoorV04
import Derived.Test.YtagmnmoaekbffaaGreatDoorV05
import Derived.BigRegion
set_option maxHeartbeats 16000000
namespace Go.Proofs.YtagmnmoaekbffaaGreatDoor.Ms
open Go.Proofs.Tryz
open Go Go.RowKit
set_option maxRecDepth 100000
theorem b0E {w:World} {g:Nat} {cs:List Value} {t:TypeId} (h:w.heap[g]? = some (.cells cs.toArray t)):∀ i v,cs[i]? = some v->w.cell? ⟨g,i,none⟩=some v:=fun i v hv=>by
 have:=a0k h i v hv
 rwa [Nat.zero_add] at this
theorem m0X {w:World} {P p q x vb wb hb b c n:Nat} {G:List Nat} {EC:Int} {vv:List UInt8} {vo:Value} {DT ZD0 VA VC WA WC:List Value} {L0 L1:List Ent} {Pst:World->World->Prop}
  (hcn:c < n) (hPb:P ≠ b) (hPG:P ∉ G) (hwG:wb ∉ G) (hvG:vb ∉ G) (hPv:P ≠ vb) (hvw:vb ≠ wb) (hbv:b ≠ vb) (hbw:b ≠ wb) (hGl:∀ y ∈ G,y < w.heap.size)
  (HP:Hid (w.heap[P]? = some (.cells (c0x p q x vb wb hb n).toArray 35))) (HW:Hid (w.heap[wb]? = some (.cells (WA++([st vv]++WC)).toArray 9))) (hWA:WA.length=c) (HV:Hid (w.heap[vb]? = some (.cells (VA++([vo]++VC)).toArray 9))) (hVA:VA.length=c) (HBK:Hid (Book w b L0))
  (ZDz:(prog.info? 38).map (·.zero)=some (some (.agg ZD0.toArray))) (LZD:ZD0.length=32) (LDT:DT.length=32) (ODT:Hid (∀ v ∈ DT,v.oneCell' = true)) (ZDT:Hid ((prog.info? 38).map (·.size)=some DT.length))
  (HT:Hid (∀ W,Touch b w W->Book W b L0->Calls prog 19 #[pt p 0,nu c,nu 3,st vv] W fun e w'=>e = .returned (.tuple #[.agg DT.toArray,nu 0])/\(Touch b W w'/\Book w' b L1)))
  (HCm:Hid (∀ W,Kp [b] w W->Calls prog 20 #[pt x 0,nu c,st vv,.agg DT.toArray] W fun e w'=>e = .returned (nu EC)/\Pst W w')) (HPk2:Hid (∀ W W',Pst W W'->Kp G W W')) :
  Calls prog 8 #[pt P 0,nu c] w fun e w'=>e = .returned (.tuple #[])/\∃ W1 W2,Kp [b] w W1/\Book W1 b L1/\Pst W1 W2/\Kp [vb,wb] W2 w'/\w'.heap[vb]? = some (.cells (VA++([st vv]++VC)).toArray 9)/\w'.heap[wb]? = some (.cells (WA++([st []]++WC)).toArray 9):=by
 have HPk:=hid (fun W (h:Touch b w W) i v (hv:(c0x p q x vb wb hb n)[i]? = some v)=>b0E (a0x HP.out h (fun e=>hPb e)) i v hv);have HWk:=hid (fun W (h:Touch b w W)=>a0l (A:=WA) (C:=WC) (a0x HW.out h hbw.symm) rfl hWA);go_enter func8,ntmps8;go_upto_region 0 with fail
 refine b0X (N:=55) 16 17 4 38 32 DT w.heap.size [(pt P 0),(pt P 0),(pt P 0),(pt p 0),(nu c),(pt P 0),(pt P 0),(pt P 4),(sl wb n),(nu c),(pt wb (0 + c * 1)),(st vv),(.tuple #[(.agg DT.toArray),(nu 0)]),(.tuple #[(.agg DT.toArray),(nu 0)]),(.agg DT.toArray),(nu 0),undef,undef,(nu 0)] (fun L W=>Touch b w W/\Book W b (bif L 12 then L1 else L0)) (fun g=>[(7,(pt P 0)),(8,(pt P 0)),(9,(pt P 0)),(10,(pt p 0)),(11,(nu c)),(12,(pt P 0)),(13,(pt P 0)),(14,(pt P 4)),(15,(sl wb n)),(16,(nu c)),(17,(pt wb (0 + c * 1))),(18,(st vv)),(19,(.tuple #[(.agg DT.toArray),(nu 0)])),(6,(.tuple #[(.agg DT.toArray),(nu 0)])),(20,(.agg DT.toArray)),(21,(nu 0)),(4,(pt g 0)),(5,(nu 0))]) (by kernel_rfl) (by kernel_rfl) rfl (by kernel_rfl) (by decide) (by simp) (fun g=>by kernel_rfl) (fun w1 hb=>⟨Touch.of hb,HBK.out.kept hb⟩) ?_ ?_
 ·intro i o ho
  match i,ho with
  | 0,ho=>cases ho;exact oweN (pt P 0) (by decide) (by decide) rfl (fun L a w hLi hJ hw hnot hk hv K h=>a0q 0 _ rfl (hk 0 (by kernel_rfl)) (h _ hJ (fun _ _ _ e=>e)))
  | 1,ho=>cases ho;exact oweN (pt P 0) (by decide) (by decide) rfl (fun L a w hLi hJ hw hnot hk hv K h=>c0m 7 P 0 rfl (hv 0 7 (by kernel_rfl) (by decide) (by kernel_rfl)) (h _ hJ (fun _ _ _ e=>e)))
  | 2,ho=>cases ho;exact oweN (pt P 0) (by decide) (by decide) rfl (fun L a w hLi hJ hw hnot hk hv K h=>b0C 8 _ 0 P 0 0 rfl (fun W=>by kernel_rfl) (hv 1 8 (by kernel_rfl) (by decide) (by kernel_rfl)) (h _ hJ (fun _ _ _ e=>e)))
  | 3,ho=>cases ho;exact oweN (pt p 0) (by decide) (by decide) rfl (fun L a w hLi hJ hw hnot hk hv K h=>a0A _ (.tmp 9) rfl P 0 (hv 2 9 (by kernel_rfl) (by decide) (by kernel_rfl)) (pt p 0) _ (HPk.out _ hJ.1 0 _ rfl) underlying30 rfl (h _ hJ (fun _ _ _ e=>e)))
  | 4,ho=>cases ho;exact oweN (nu c) (by decide) (by decide) rfl (fun L a w hLi hJ hw hnot hk hv K h=>a0q 1 _ rfl (hk 1 (by kernel_rfl)) (h _ hJ (fun _ _ _ e=>e)))
  | 5,ho=>cases ho;exact oweN (pt P 0) (by decide) (by decide) rfl (fun L a w hLi hJ hw hnot hk hv K h=>a0q 0 _ rfl (hk 0 (by kernel_rfl)) (h _ hJ (fun _ _ _ e=>e)))
  | 6,ho=>cases ho;exact oweN (pt P 0) (by decide) (by decide) rfl (fun L a w hLi hJ hw hnot hk hv K h=>c0m 12 P 0 rfl (hv 5 12 (by kernel_rfl) (by decide) (by kernel_rfl)) (h _ hJ (fun _ _ _ e=>e)))
  | 7,ho=>cases ho;exact oweN (pt P 4) (by decide) (by decide) rfl (fun L a w hLi hJ hw hnot hk hv K h=>b0C 13 _ 4 P 0 4 rfl (fun W=>by kernel_rfl) (hv 6 13 (by kernel_rfl) (by decide) (by kernel_rfl)) (h _ hJ (fun _ _ _ e=>e)))
  | 8,ho=>cases ho;exact oweN (sl wb n) (by decide) (by decide) rfl (fun L a w hLi hJ hw hnot hk hv K h=>a0A _ (.tmp 14) rfl P 4 (hv 7 14 (by kernel_rfl) (by decide) (by kernel_rfl)) (sl wb n) _ (HPk.out _ hJ.1 4 _ rfl) underlying33 rfl (h _ hJ (fun _ _ _ e=>e)))
  | 9,ho=>cases ho;exact oweN (nu c) (by decide) (by decide) rfl (fun L a w hLi hJ hw hnot hk hv K h=>a0q 1 _ rfl (hk 1 (by kernel_rfl)) (h _ hJ (fun _ _ _ e=>e)))
  | 10,ho=>cases ho;exact oweN (pt wb (0 + c * 1)) (by decide) (by decide) rfl (fun L a w hLi hJ hw hnot hk hv K h=>d0C 15 16 _ 9 rfl underlying33 1 sizeStr wb 0 n n c hcn (hv 8 15 (by kernel_rfl) (by decide) (by kernel_rfl)) (hv 9 16 (by kernel_rfl) (by decide) (by kernel_rfl)) (h _ hJ (fun _ _ _ e=>e)))
  | 11,ho=>cases ho;exact oweN (st vv) (by decide) (by decide) rfl (fun L a w hLi hJ hw hnot hk hv K h=>a0A _ (.tmp 17) rfl wb (0 + c * 1) (hv 10 17 (by kernel_rfl) (by decide) (by kernel_rfl)) (st vv) _ (by rw [Nat.zero_add,Nat.mul_one];exact HWk.out _ hJ.1) underlying9 rfl (h _ hJ (fun _ _ _ e=>e)))
  | 12,ho=>cases ho;exact oweN (.tuple #[(.agg DT.toArray),(nu 0)]) (by decide) (by decide) rfl (fun L a w hLi hJ hw hnot hk hv K h=>c0J 19 [.tmp 10,.tmp 11,.const (nu (3)),.tmp 18] _ #[(pt p 0),(nu c),(nu (3)),(st vv)] (.tuple #[(.agg DT.toArray),(nu 0)]) rfl (fun _ _=>by kernel_rfl) (s0U (hv 3 10 (by kernel_rfl) (by decide) (by kernel_rfl)) (hv 4 11 (by kernel_rfl) (by decide) (by kernel_rfl)) rfl (hv 11 18 (by kernel_rfl) (by decide) (by kernel_rfl))) (J:=fun w1=>Touch b w w1/\Book w1 b L1) (HT.out w hJ.1 (by have e:=hJ.2;simp only [hLi,cond_false] at e;exact e)) (fun w1 e1=>h _ ⟨hJ.1.trans e1.1,by show Book w1 b (bif up L 12 12 then L1 else L0);rw [b0s];exact e1.2⟩ (fun k r _ hr=>a0x hr e1.1 (hJ.2.ne hr))))
  | 13,ho=>cases ho;exact oweN (.tuple #[(.agg DT.toArray),(nu 0)]) (by decide) (by decide) rfl (fun L a w hLi hJ hw hnot hk hv K h=>a0q 19 _ rfl (hv 12 19 (by kernel_rfl) (by decide) (by kernel_rfl)) (h _ hJ (fun _ _ _ e=>e)))
  | 14,ho=>cases ho;exact oweN (.agg DT.toArray) (by decide) (by decide) rfl (fun L a w hLi hJ hw hnot hk hv K h=>b0a 6 0 #[(.agg DT.toArray),(nu 0)] _ rfl (hv 13 6 (by kernel_rfl) (by decide) (by kernel_rfl)) rfl (h _ hJ (fun _ _ _ e=>e)))
  | 15,ho=>cases ho;exact oweN (nu 0) (by decide) (by decide) rfl (fun L a w hLi hJ hw hnot hk hv K h=>b0a 6 1 #[(.agg DT.toArray),(nu 0)] _ rfl (hv 13 6 (by kernel_rfl) (by decide) (by kernel_rfl)) rfl (h _ hJ (fun _ _ _ e=>e)))
  | 16,ho=>cases ho;exact d0a rfl ZD0 ZDz LZD _ rfl (by kernel_rfl) (by decide) (fun _ _ h=>h.1.size) (fun _ w o h=>⟨h.1.trans (Touch.of (a0c w o)),h.2.kept (a0c w o)⟩)
  | 17,ho=>cases ho;exact d0b 4 20 rfl rfl (by kernel_rfl) 14 (by kernel_rfl) (by decide) (by kernel_rfl) (by kernel_rfl) rfl LDT ODT.out ZDT.out (fun _ w w2 g _ h hg hr hb=>⟨h0R h.1 hb hg,h.2.at (hb.block b (Ne.symm (h.2.ne hr)))⟩)
  | 18,ho=>cases ho;exact oweN (nu 0) (by decide) (by decide) rfl (fun L a w hLi hJ hw hnot hk hv K h=>c0l 21 _ rfl (hv 15 21 (by kernel_rfl) (by decide) (by kernel_rfl)) (h _ hJ (fun _ _ _ e=>e)))
  | (i + 19),ho=>exact absurd ho (by simp)
 intro gD LL W1 hgD hrD hall hJ;simp only [List.foldl_cons,List.foldl_nil,List.setIfInBounds_toArray,List.set_cons_zero,List.set_cons_succ];obtain ⟨t1,bk1⟩:=hJ;rw [hall 12 (by decide),cond_true] at bk1;have K1:Hid (Kp [b] w W1):=hid ⟨t1.os,t1.tape,t1.output,t1.size,fun k hk hx=>t1.block k hk (fun e=>hx (by simp [e]))⟩;have G1:=hid hrD;have BK1:=hid bk1;have P1:=hid (a0x HP.out t1 hPb);have V1:=hid (a0x HV.out t1 hbv.symm);have Q1:=hid (a0x HW.out t1 hbw.symm);have hgDG:gD ∉ G:=fun h=>by have:=hGl gD h;omega
 have HP1:=hid (fun W (h:Kp G W1 W) i v (hv:(c0x p q x vb wb hb n)[i]? = some v)=>b0E (h.row P1.out hPG) i v hv);have HW1:=hid (fun W (h:Kp G W1 W)=>a0l (A:=WA) (C:=WC) (h.row Q1.out hwG) rfl hWA);have HCm1:=hid (fun W (h:Below W1.heap.size W1 W)=>HCm.out W (K1.out.trans (Kp.of h)));clear t1 bk1 hall hrD HPk HWk HT HCm;go_upto_region 1 with fail
 refine b0W (N:=55) [(pt P 0),(pt P 0),(pt P 2),(pt x 0),(nu c),(pt P 0),(pt P 0),(pt P 4),(sl wb n),(nu c),(pt wb (0 + c * 1)),(st vv),(.agg (DT).toArray),(nu EC)] (fun L W=>Kp G W1 W/\(bif L 13 then (∃ W',Below W1.heap.size W1 W'/\Pst W' W) else Below W1.heap.size W1 W)) [(22,(pt P 0)),(23,(pt P 0)),(24,(pt P 2)),(25,(pt x 0)),(26,(nu c)),(27,(pt P 0)),(28,(pt P 0)),(29,(pt P 4)),(30,(sl wb n)),(31,(nu c)),(32,(pt wb (0 + c * 1))),(33,(st vv)),(34,(.agg (DT).toArray)),(35,(nu EC))] (by kernel_rfl) (by kernel_rfl) rfl (fun w1 hb=>⟨Kp.of hb,hb⟩) (by kernel_rfl) ?_ ?_
 ·intro i o ho
  match i,ho with
  | 0,ho=>cases ho;exact fun L a w hLi hw hnot hJ hk hv K h=>a0q 0 _ rfl (hk 0 (by kernel_rfl)) (h _ hJ)
  | 1,ho=>cases ho;exact fun L a w hLi hw hnot hJ hk hv K h=>c0m 22 P 0 rfl (hv 0 22 (by kernel_rfl) (by kernel_rfl)) (h _ hJ)
  | 2,ho=>cases ho;exact fun L a w hLi hw hnot hJ hk hv K h=>b0C 23 _ 2 P 0 2 rfl (fun W=>by kernel_rfl) (hv 1 23 (by kernel_rfl) (by kernel_rfl)) (h _ hJ)
  | 3,ho=>cases ho;exact fun L a w hLi hw hnot hJ hk hv K h=>a0A _ (.tmp 24) rfl P 2 (hv 2 24 (by kernel_rfl) (by kernel_rfl)) (pt x 0) _ (HP1.out _ hJ.1 2 _ rfl) underlying32 rfl (h _ hJ)
  | 4,ho=>cases ho;exact fun L a w hLi hw hnot hJ hk hv K h=>a0q 1 _ rfl (hk 1 (by kernel_rfl)) (h _ hJ)
  | 5,ho=>cases ho;exact fun L a w hLi hw hnot hJ hk hv K h=>a0q 0 _ rfl (hk 0 (by kernel_rfl)) (h _ hJ)
  | 6,ho=>cases ho;exact fun L a w hLi hw hnot hJ hk hv K h=>c0m 27 P 0 rfl (hv 5 27 (by kernel_rfl) (by kernel_rfl)) (h _ hJ)
  | 7,ho=>cases ho;exact fun L a w hLi hw hnot hJ hk hv K h=>b0C 28 _ 4 P 0 4 rfl (fun W=>by kernel_rfl) (hv 6 28 (by kernel_rfl) (by kernel_rfl)) (h _ hJ)
  | 8,ho=>cases ho;exact fun L a w hLi hw hnot hJ hk hv K h=>a0A _ (.tmp 29) rfl P 4 (hv 7 29 (by kernel_rfl) (by kernel_rfl)) (sl wb n) _ (HP1.out _ hJ.1 4 _ rfl) underlying33 rfl (h _ hJ)
  | 9,ho=>cases ho;exact fun L a w hLi hw hnot hJ hk hv K h=>a0q 1 _ rfl (hk 1 (by kernel_rfl)) (h _ hJ)
  | 10,ho=>cases ho;exact fun L a w hLi hw hnot hJ hk hv K h=>d0C 30 31 _ 9 rfl underlying33 1 sizeStr wb 0 n n c hcn (hv 8 30 (by kernel_rfl) (by kernel_rfl)) (hv 9 31 (by kernel_rfl) (by kernel_rfl)) (h _ hJ)
  | 11,ho=>cases ho;exact fun L a w hLi hw hnot hJ hk hv K h=>a0A _ (.tmp 32) rfl wb (0 + c * 1) (hv 10 32 (by kernel_rfl) (by kernel_rfl)) (st vv) _ (by rw [Nat.zero_add,Nat.mul_one];exact HW1.out _ hJ.1) underlying9 rfl (h _ hJ)
  | 12,ho=>cases ho;exact fun L a w hLi hw hnot hJ hk hv K h=>c0u _ (.tmp 4) rfl gD 0 (hk 4 (by kernel_rfl)) (DT) _ (a0k (hJ.1.row G1.out hgDG)) underlying38 rfl ZDT.out (h _ hJ)
  | 13,ho=>cases ho;exact fun L a w hLi hw hnot hJ hk hv K h=>c0J 20 [.tmp 25,.tmp 26,.tmp 33,.tmp 34] _ #[(pt x 0),(nu c),(st vv),(.agg (DT).toArray)] (nu EC) rfl (fun _ _=>by kernel_rfl) (s0U (hv 3 25 (by kernel_rfl) (by kernel_rfl)) (hv 4 26 (by kernel_rfl) (by kernel_rfl)) (hv 11 33 (by kernel_rfl) (by kernel_rfl)) (hv 12 34 (by kernel_rfl) (by kernel_rfl))) (J:=fun w1=>Pst w w1) (HCm1.out w (by have e:=hJ.2;simp only [hLi,cond_false] at e;exact e)) (fun w1 e1=>h _ ⟨hJ.1.trans (HPk2.out _ _ e1),by show (bif up L 13 13 then (∃ W',Below W1.heap.size W1 W'/\Pst W' w1) else Below W1.heap.size W1 w1);rw [b0s];exact ⟨w,(by have e:=hJ.2;simp only [hLi,cond_false] at e;exact e),e1⟩⟩)
  | (i + 14),ho=>exact absurd ho (by simp)
 intro LL W2 hall hJ;simp only [List.foldl_cons,List.foldl_nil,List.setIfInBounds_toArray,List.set_cons_zero,List.set_cons_succ];obtain ⟨k2,r2⟩:=hJ;rw [hall 13 (by decide),cond_true] at r2;obtain ⟨W1',b1',pst⟩:=r2;have PST:=hid pst;have K1':=hid (K1.out.trans (Kp.of b1'));have BK1':=hid (BK1.out.kept b1');have P2:=hid (k2.row P1.out hPG);have V2:=hid (k2.row V1.out hvG);have Q2:=hid (k2.row Q1.out hwG);have HP2:=hid (fun W (h:Kp [vb] W2 W) i v (hv:(c0x p q x vb wb hb n)[i]? = some v)=>b0E (h.row P2.out (by simpa using hPv)) i v hv);have HW2:=hid (fun W (h:Kp [vb] W2 W)=>a0l (A:=WA) (C:=WC) (h.row Q2.out (by simpa using hvw.symm)) rfl hWA);clear hall b1' pst k2 P1 V1 Q1 K1 BK1 HP1 HW1 HCm1 G1;go_upto_region 2 with fail
 refine b0W (N:=55) [(pt P 0),(pt P 0),(pt P 3),(sl vb n),(nu c),(pt P 0),(pt P 0),(pt P 4),(sl wb n),(nu c),(pt wb (0 + c * 1)),(st vv),(pt vb (0 + c * 1)),undef] (fun L W=>Kp [vb] W2 W/\W.heap[vb]? = some (.cells (VA++([bif L 13 then st vv else vo]++VC)).toArray 9)) [(36,(pt P 0)),(37,(pt P 0)),(38,(pt P 3)),(39,(sl vb n)),(40,(nu c)),(41,(pt P 0)),(42,(pt P 0)),(43,(pt P 4)),(44,(sl wb n)),(45,(nu c)),(46,(pt wb (0 + c * 1))),(47,(st vv)),(48,(pt vb (0 + c * 1)))] (by kernel_rfl) (by kernel_rfl) rfl (fun w1 hb=>⟨Kp.of hb,a0a V2.out hb⟩) (by kernel_rfl) ?_ ?_
 ·intro i o ho
  match i,ho with
  | 0,ho=>cases ho;exact fun L a w hLi hw hnot hJ hk hv K h=>a0q 0 _ rfl (hk 0 (by kernel_rfl)) (h _ hJ)
  | 1,ho=>cases ho;exact fun L a w hLi hw hnot hJ hk hv K h=>c0m 36 P 0 rfl (hv 0 36 (by kernel_rfl) (by kernel_rfl)) (h _ hJ)
  | 2,ho=>cases ho;exact fun L a w hLi hw hnot hJ hk hv K h=>b0C 37 _ 3 P 0 3 rfl (fun W=>by kernel_rfl) (hv 1 37 (by kernel_rfl) (by kernel_rfl)) (h _ hJ)
  | 3,ho=>cases ho;exact fun L a w hLi hw hnot hJ hk hv K h=>a0A _ (.tmp 38) rfl P 3 (hv 2 38 (by kernel_rfl) (by kernel_rfl)) (sl vb n) _ (HP2.out _ hJ.1 3 _ rfl) underlying33 rfl (h _ hJ)
  | 4,ho=>cases ho;exact fun L a w hLi hw hnot hJ hk hv K h=>a0q 1 _ rfl (hk 1 (by kernel_rfl)) (h _ hJ)
  | 5,ho=>cases ho;exact fun L a w hLi hw hnot hJ hk hv K h=>a0q 0 _ rfl (hk 0 (by kernel_rfl)) (h _ hJ)
  | 6,ho=>cases ho;exact fun L a w hLi hw hnot hJ hk hv K h=>c0m 41 P 0 rfl (hv 5 41 (by kernel_rfl) (by kernel_rfl)) (h _ hJ)
  | 7,ho=>cases ho;exact fun L a w hLi hw hnot hJ hk hv K h=>b0C 42 _ 4 P 0 4 rfl (fun W=>by kernel_rfl) (hv 6 42 (by kernel_rfl) (by kernel_rfl)) (h _ hJ)
  | 8,ho=>cases ho;exact fun L a w hLi hw hnot hJ hk hv K h=>a0A _ (.tmp 43) rfl P 4 (hv 7 43 (by kernel_rfl) (by kernel_rfl)) (sl wb n) _ (HP2.out _ hJ.1 4 _ rfl) underlying33 rfl (h _ hJ)
  | 9,ho=>cases ho;exact fun L a w hLi hw hnot hJ hk hv K h=>a0q 1 _ rfl (hk 1 (by kernel_rfl)) (h _ hJ)
  | 10,ho=>cases ho;exact fun L a w hLi hw hnot hJ hk hv K h=>d0C 44 45 _ 9 rfl underlying33 1 sizeStr wb 0 n n c hcn (hv 8 44 (by kernel_rfl) (by kernel_rfl)) (hv 9 45 (by kernel_rfl) (by kernel_rfl)) (h _ hJ)
  | 11,ho=>cases ho;exact fun L a w hLi hw hnot hJ hk hv K h=>a0A _ (.tmp 46) rfl wb (0 + c * 1) (hv 10 46 (by kernel_rfl) (by kernel_rfl)) (st vv) _ (by rw [Nat.zero_add,Nat.mul_one];exact HW2.out _ hJ.1) underlying9 rfl (h _ hJ)
  | 12,ho=>cases ho;exact fun L a w hLi hw hnot hJ hk hv K h=>d0C 39 40 _ 9 rfl underlying33 1 sizeStr vb 0 n n c hcn (hv 3 39 (by kernel_rfl) (by kernel_rfl)) (hv 4 40 (by kernel_rfl) (by kernel_rfl)) (h _ hJ)
  | 13,ho=>cases ho;exact fun L a w hLi hw hnot hJ hk hv K h=>f0x _ 48 47 rfl rfl vb (0 + c * 1) (hv 12 48 (by kernel_rfl) (by kernel_rfl)) VA VC vo (st vv) (hv 11 47 (by kernel_rfl) (by kernel_rfl)) 9 (by have e:=hJ.2;simp only [hLi,cond_false] at e;exact e) (by rw [hVA];omega) rfl sizeStr (fun w2 hr hbut=>h _ ⟨hJ.1.but hbut (Or.inl (by simp)),(by show w2.heap[vb]? = some (.cells (VA++([bif up L 13 13 then st vv else vo]++VC)).toArray 9);rw [b0s];exact hr)⟩)
  | (i + 14),ho=>exact absurd ho (by simp)
 intro LL W3 hall hJ;simp only [List.foldl_cons,List.foldl_nil,List.setIfInBounds_toArray,List.set_cons_zero,List.set_cons_succ];obtain ⟨k3,r3⟩:=hJ;rw [hall 13 (by decide),cond_true] at r3;have Q3:=hid (k3.row Q2.out (by simpa using hvw.symm));have p4:W3.cell? ⟨P,4,none⟩=some (.slice (some ⟨wb,0,none⟩) n n):=HP2.out _ k3 4 _ rfl;have V3:=hid r3;have K3:=hid k3;have dc:decide (c < n)=true:=decide_eq_true hcn;clear hall k3 r3 P2 V2 Q2 HP2 HW2
 go_wp2_with ((with_reducible refine c0v 9 (.tmp 54) (.const (st [])) ?_ ?_ wb c ?_ ?_ WA WC (st vv) (st []) ?_ 9 Q3.out hWA ?_ ?_ ?_);exact rfl;exact rfl;exact rfl;exact rfl;exact rfl;exact rfl;exact sizeStr;intro W4 r4 b4)
 refine bodyPost_end (results_none rfl _ _ _) rfl ?_;exact ⟨rfl,W1',W2,K1'.out,BK1'.out,PST.out,(K3.out.drop (fun x hx=>Or.inl (by simp at hx;simp [hx]))).but b4 (Or.inl (by simp)),b4.row V3.out hvw,r4⟩
section
variable {B0:Nat} {w:World} {P p q x vb wb hb h g b n:Nat} {G:List Nat} {R:Rs} {V Wt H:List (List UInt8)} {L:List Ent}
theorem p0e (s:St B0 w P p q x vb wb hb h g b n G R V Wt H L) {c:Nat} (hc:c < n) (hW:(Wt.getD c []).length <= 1000) (hL:L.length + 1 < 1000000) :
  Calls prog 8 #[pt P 0,nu c] w fun e w'=>e = .returned (.tuple #[])/\Kp ([b,vb,wb]++G) w w'/\∃ G' L',(∀ y ∈ G',y ∈ G ∨ w.heap.size <= y)/\L'.length <= L.length + 1
   /\ St B0 w' P p q x vb wb hb h g b n G' (comR R c (Wt.getD c []) (tagB seed (c,3,Wt.getD c []))) (V.set c (Wt.getD c [])) (Wt.set c []) H L':=by
 have hn8:=s.ring.n8;have hbk:=s.ring.ring.book;obtain ⟨l1,l2,l3,l4,l5,l6⟩:=s.low;obtain ⟨o1,o2,o3,o4,o5⟩:=s.o1 b (by simp);obtain ⟨q1,q2,q3,q4⟩:=s.out;obtain ⟨n1,n2,n3,n4,n5,n6⟩:=s.ne;have hGl:=s.regs.lt;have tP:=a0D s.row;have tv:=a0D s.views;have tw:=a0D s.waits;have th:=a0D s.held;have hcV:c < V.length:=by rw [s.lv];exact hc
 have hcW:c < Wt.length:=by rw [s.lw];exact hc
 have hbG:b ∉ G:=fun hm=>by have:=o5 b hm;omega
 have hPb:=s.pb;obtain ⟨VV,hVV⟩:∃ VV,VV=Wt.getD c []:=⟨_,rfl⟩;have HWt:=h0Y s.waits hcW;rw [← hVV] at HWt hW ⊢;obtain ⟨DT,hDT⟩:∃ DT,DT=tagB seed ((c:Int),3,VV):=⟨_,rfl⟩;have lDT:DT.length=32:=by rw [hDT];exact c0e _ _
 rw [← hDT];have mT:May n ((c:Int),3,VV):=g0H (by omega) (by omega) (by decide) (by omega)
 refine (m0X (q:=q) (EC:=comE R c VV DT) (vo:=st (V.getD c [])) (DT:=dg DT) (ZD0:=dg a0n) (VA:=(V.take c).map st) (VC:=(V.drop (c + 1)).map st) (WA:=(Wt.take c).map st) (WC:=(Wt.drop (c + 1)).map st) (L0:=L) (L1:=e0M L (c,3,VV)) (Pst:=fun W w'=>∃ G',RY w' x G' (comR R c VV DT)/\Kp G W w'/\∀ y ∈ G',y ∈ G ∨ W.heap.size <= y)
  hc hPb q1 q3 q2 n4 n1 (by omega) (by omega) hGl s.row HWt (by simp;omega) (h0Y s.views hcV) (by simp;omega) hbk zeroDigY (by simp [a0e,a0n]) (by rw [a0e,lDT]) (h0X _) (l0E lDT) ?_ ?_ ?_).mono ?_
 ·intro W ht hb'
  have e:=u0I (s.ring.touch ht hb') (c:Int) 3 VV mT (by omega);rw [← hDT] at e;exact e
 ·intro W hk
  refine (k0r (s.regs.kp hk (fun y hy=>by simp only [List.mem_cons,List.not_mem_nil,or_false];have:=o5 y hy;omega)) (c:=(c:Int)) (v:=VV) lDT).mono ?_;rintro e w' ⟨G',h1,h2,h3,h4⟩;exact ⟨h1,G',h2,h3,h4⟩
 ·rintro W W' ⟨G',h2,h3,h4⟩
  exact h3
 ·rintro e w' ⟨he,W1,W2,k1,bk1,⟨G',h2,h3,h4⟩,k3,hv,hw⟩
  have hsz1:=k1.size;have hsz2:=h3.size;have kk:Kp ([b,vb,wb]++G) w w':=((k1.drop (fun z hz=>Or.inl (by simp at hz;simp [hz]))).trans (h3.drop (fun z hz=>Or.inl (by simp [hz])))).trans (k3.drop (fun z hz=>Or.inl (by simp at hz;rcases hz with e | e <;> simp [e])))
  have hG':∀ y ∈ G',y ∈ G ∨ w.heap.size <= y:=fun y hy=>by
   rcases h4 y hy with e | e
   ·exact Or.inl e
   ·exact Or.inr (by omega)
  have bk2:Book w' b (e0M L (c,3,VV)):=(bk1.at (h3.block b (by have:=hbk.lt;omega) hbG)).at (k3.block b (by have:=hbk.lt;omega) (by simp;omega))
  have hkp:∀ y ∈ [b,vb,wb]++G,B0 <= y/\(y=b ∨ (p < y/\h < y/\g < y/\b < y)):=by
   obtain ⟨a1,a2,a3,a4,a5⟩:=s.o1 p (by simp);obtain ⟨b1,b2,b3,b4,b5⟩:=s.o1 h (by simp);obtain ⟨c1,c2,c3,c4,c5⟩:=s.o1 g (by simp);intro y hy;simp only [List.cons_append,List.nil_append,List.mem_cons] at hy;rcases hy with rfl | rfl | rfl | hy
   ·exact ⟨l1,Or.inl rfl⟩
   ·exact ⟨l3,Or.inr ⟨a2,b2,c2,o2⟩⟩
   ·exact ⟨l4,Or.inr ⟨a3,b3,c3,o3⟩⟩
   ·exact ⟨l6 y hy,Or.inr ⟨a5 y hy,b5 y hy,c5 y hy,o5 y hy⟩⟩
  obtain ⟨x1,x2,x3,x4,x5⟩:=s.o1 q (by simp);refine ⟨he,kk,G',_,hG',n0V _ _,⟨kk.row s.row ?_,k0l hv hcV,k0l hw hcW,kk.row s.held ?_,h2.kp k3 ?_,s.rkp kk hkp bk2,⟨kk.row s.ref.obj ?_,Or.inl ⟨rfl,rfl⟩⟩,by simpa using s.lv,by simpa using s.lw,s.lh,s.k6,⟨l1,l2,l3,l4,l5,?_⟩,?_,s.qb,s.ne,?_,?_,?_,?_⟩⟩
  ·simp only [List.cons_append,List.nil_append,List.mem_cons,not_or];exact ⟨hPb,n4,n5,q1⟩
  ·simp only [List.cons_append,List.nil_append,List.mem_cons,not_or];exact ⟨by omega,fun e=>n2 e.symm,fun e=>n3 e.symm,q4⟩
  ·intro y hy
   simp only [List.mem_cons,List.not_mem_nil,or_false,not_or];rcases hG' y hy with e | e
   ·exact ⟨fun e2=>q2 (e2 ▸ e),fun e2=>q3 (e2 ▸ e)⟩
   ·exact ⟨by omega,by omega⟩
  ·simp only [List.cons_append,List.nil_append,List.mem_cons,not_or];exact ⟨s.qb,by omega,by omega,fun hm=>by have:=x5 q hm;omega⟩
  ·intro y hy
   rcases hG' y hy with e | e
   ·exact l6 y e
   ·omega
  ·intro z hz
   obtain ⟨a1,a2,a3,a4,a5⟩:=s.o1 z hz;refine ⟨a1,a2,a3,a4,fun y hy=>?_⟩;rcases hG' y hy with e | e
   ·exact a5 y e
   ·omega
  ·intro hm
   rcases hG' _ hm with e | e
   ·exact q1 e
   ·omega
  ·intro hm
   rcases hG' _ hm with e | e
   ·exact q2 e
   ·omega
  ·intro hm
   rcases hG' _ hm with e | e
   ·exact q3 e
   ·omega
  ·intro hm
   rcases hG' _ hm with e | e
   ·exact q4 e
   ·omega
end
open Go Go.RowKit
set_option maxRecDepth 100000
structure Ac where
 kind:Int
 client:Int
 target:Int
 value:List UInt8
def acC (a:Ac):List Value:=[nu a.kind,nu a.client,nu a.target,st a.value]
structure Ac.Ok (a:Ac):Prop where
 k:I64 a.kind
 c:I64 a.client
 t:I64 a.target
def noAc:Ac:=⟨0,0,0,[]⟩
def f0m (n:Nat) (a:Ac):Bool:=decide (0 <= a.client) && (decide (a.client < (n:Int)) && (decide (0 <= a.target) && (decide (a.target < (n:Int)) && decide (a.value.length <= 200))))
theorem sizeAc:(prog.info? 27).map (·.size)=some 4:=by kernel_rfl
theorem zeroAc:(prog.info? 27).map (·.zero)=some (some (.agg (acC noAc).toArray)):=by kernel_rfl
theorem w0T (a:Ac):∀ v ∈ acC a,v.oneCell' = true:=by
 intro v hv;simp only [acC,List.mem_cons,List.not_mem_nil,or_false] at hv;rcases hv with rfl | rfl | rfl | rfl <;> rfl
section
variable {P p q x vb wb hb n:Nat}
theorem m0Y {w:World} (k c tg:Int) (vl:List UInt8) (hP:((w.alloc (.cells #[nu k,nu c,nu tg,st vl] 27)).alloc (.cells #[.int .i64 0,.int .i64 0,.int .i64 0,.string ⟨#[]⟩] 27)).cell? ⟨P,3,none⟩=some (.slice (some ⟨vb,0,none⟩) n n)) :
  Calls prog 7 #[pt P 0,.agg #[nu k,nu c,nu tg,st vl]] w fun e w'=>e = .returned (.tuple #[.agg #[nu k,nu c,nu tg,st vl],.bool (f0m n ⟨k,c,tg,vl⟩)])/\Below w.heap.size w w':=by
 have hsz:(⟨vl.toArray⟩:ByteArray).size=vl.length:=rfl;go_enter func7,ntmps7;go_upto_region 2 with fail
 have hr:(((w.alloc (.cells #[nu k,nu c,nu tg,st vl] 27)).alloc (.cells #[nu k,nu c,nu tg,st vl] 27)).drew).heap[w.heap.size + 1]? = some (.cells #[nu k,nu c,nu tg,st vl] 27):=by
  have:=a0f (w.alloc (.cells #[nu k,nu c,nu tg,st vl] 27)) (.cells #[nu k,nu c,nu tg,st vl] 27);have e:(w.alloc (.cells #[nu k,nu c,nu tg,st vl] 27)).heap.size=w.heap.size + 1:=by simp
  rw [e] at this;exact this
 have hb:Below w.heap.size w (((w.alloc (.cells #[nu k,nu c,nu tg,st vl] 27)).alloc (.cells #[nu k,nu c,nu tg,st vl] 27)).drew):=(Kp.of (X:=[]) (a0b (a0c w _) (a0c _ _))).drew.below (by simp) (Nat.le_refl _);by_cases h1:0 <= c
 ·have d1:decide (0 <= c)=true:=decide_eq_true h1
  by_cases h2:c < (n:Int)
  ·have d2:decide (c < (n:Int))=true:=decide_eq_true h2
   by_cases h3:0 <= tg
   ·have d3:decide (0 <= tg)=true:=decide_eq_true h3
    by_cases h4:tg < (n:Int)
    ·have d4:decide (tg < (n:Int))=true:=decide_eq_true h4
     by_cases h5:(vl.length:Int) <= 200
     ·have d5:decide ((vl.length:Int) <= 200)=true:=decide_eq_true h5
      have d5n:decide (vl.length <= 200)=true:=decide_eq_true (by omega)
      go_region
      all_goals (
       go_wp2;refine bodyPost_ret_by (b0l (fn:=Tryz.f7) (p:=4) (u:=5) (ty:=27) (by kernel_rfl) _ _ (w.heap.size + 1) 27 #[nu k,nu c,nu tg,st vl] (0,0) _ rfl hr underlying27 rfl (by rw [sizeAc];rfl)) rfl ?_
       exact ⟨by rw [show f0m n ⟨k,c,tg,vl⟩=true from by unfold f0m;rw [d1,d2,d3,d4,d5n] <;> rfl];rfl,hb⟩)
     ·have d5:decide ((vl.length:Int) <= 200)=false:=decide_eq_false h5
      have d5n:decide (vl.length <= 200)=false:=decide_eq_false (by omega)
      go_region
      all_goals (
       go_wp2;refine bodyPost_ret_by (b0l (fn:=Tryz.f7) (p:=4) (u:=5) (ty:=27) (by kernel_rfl) _ _ (w.heap.size + 1) 27 #[nu k,nu c,nu tg,st vl] (0,0) _ rfl hr underlying27 rfl (by rw [sizeAc];rfl)) rfl ?_
       exact ⟨by rw [show f0m n ⟨k,c,tg,vl⟩=false from by unfold f0m;rw [d1,d2,d3,d4,d5n] <;> rfl];rfl,hb⟩)
    ·have d4:decide (tg < (n:Int))=false:=decide_eq_false h4
     go_region
     all_goals (
      go_wp2;refine bodyPost_ret_by (b0l (fn:=Tryz.f7) (p:=4) (u:=5) (ty:=27) (by kernel_rfl) _ _ (w.heap.size + 1) 27 #[nu k,nu c,nu tg,st vl] (0,0) _ rfl hr underlying27 rfl (by rw [sizeAc];rfl)) rfl ?_
      exact ⟨by rw [show f0m n ⟨k,c,tg,vl⟩=false from by unfold f0m;rw [d1,d2,d3,d4] <;> rfl];rfl,hb⟩)
   ·have d3:decide (0 <= tg)=false:=decide_eq_false h3
    go_region
    all_goals (
     go_wp2;refine bodyPost_ret_by (b0l (fn:=Tryz.f7) (p:=4) (u:=5) (ty:=27) (by kernel_rfl) _ _ (w.heap.size + 1) 27 #[nu k,nu c,nu tg,st vl] (0,0) _ rfl hr underlying27 rfl (by rw [sizeAc];rfl)) rfl ?_
     exact ⟨by rw [show f0m n ⟨k,c,tg,vl⟩=false from by unfold f0m;rw [d1,d2,d3] <;> rfl];rfl,hb⟩)
  ·have d2:decide (c < (n:Int))=false:=decide_eq_false h2
   go_region
   all_goals (
    go_wp2;refine bodyPost_ret_by (b0l (fn:=Tryz.f7) (p:=4) (u:=5) (ty:=27) (by kernel_rfl) _ _ (w.heap.size + 1) 27 #[nu k,nu c,nu tg,st vl] (0,0) _ rfl hr underlying27 rfl (by rw [sizeAc];rfl)) rfl ?_
    exact ⟨by rw [show f0m n ⟨k,c,tg,vl⟩=false from by unfold f0m;rw [d1,d2] <;> rfl];rfl,hb⟩)
 ·have d1:decide (0 <= c)=false:=decide_eq_false h1
  go_region
  all_goals (
   go_wp2;refine bodyPost_ret_by (b0l (fn:=Tryz.f7) (p:=4) (u:=5) (ty:=27) (by kernel_rfl) _ _ (w.heap.size + 1) 27 #[nu k,nu c,nu tg,st vl] (0,0) _ rfl hr underlying27 rfl (by rw [sizeAc];rfl)) rfl ?_
   exact ⟨by rw [show f0m n ⟨k,c,tg,vl⟩=false from by unfold f0m;rw [d1] <;> rfl];rfl,hb⟩)
theorem p0f {w:World} (hP:w.heap[P]? = some (.cells (c0x p q x vb wb hb n).toArray 35)) (a:Ac) :
  Calls prog 7 #[pt P 0,.agg (acC a).toArray] w fun e w'=>e = .returned (.tuple #[.agg (acC a).toArray,.bool (f0m n a)])/\Below w.heap.size w w' :=
 m0Y a.kind a.client a.target a.value (b0E (a0a (a0a hP (a0c _ _)) (a0c _ _)) 3 _ rfl)
end
end Go.Proofs.YtagmnmoaekbffaaGreatDoor.Ms
