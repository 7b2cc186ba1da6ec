/-
  An honest client's first Submit (law14's play.submit), as awake asks for it.
-/
import Derived.Test.YthkkjjlpahdagaaGreatDoorTvbg
import Derived.Test.YthkkjjlpahdagaaGreatDoorTyal
import Derived.Test.YthkkjjlpahdagaaGreatDoorS29
set_option maxHeartbeats 32000000
namespace Go.Proofs.YthkkjjlpahdagaaGreatDoor.Ms
open Go Go.RowKit
set_option maxRecDepth 100000
def J6 (W1:World) (hb:Nat) (L:Nat→Bool) (W:World):Prop:=bif L 8 then (∃ W',Below W1.heap.size W1 W'∧But hb W' W∧W.heap[hb]? = some (.cells ([st []]++([st [118]]++[st []])).toArray 9)) else Below W1.heap.size W1 W
theorem J6n {W1 W:World} {hb:Nat} {L:Nat→Bool} (h:J6 W1 hb L W) (hL:L 8=false):Below W1.heap.size W1 W:=by unfold J6 at h;rw [hL] at h;exact h
theorem J6b {W1 W:World} {hb:Nat} {L:Nat→Bool} (h:J6 W1 hb L W):Kp [hb] W1 W:=by
 unfold J6 at h
 cases hL:L 8 with
 | false=>rw [hL] at h;exact Kp.of h
 | true =>
  rw [hL] at h
  obtain ⟨W',h1,h2,-⟩:=h
  exact (Kp.of h1).but h2 (Or.inl (by simp))
theorem J6u {W1 W W':World} {hb:Nat} {L:Nat→Bool} (h:J6 W1 hb L W) (hL:L 8=false) (hbut:But hb W W') (hr:W'.heap[hb]? = some (.cells ([st []]++([st [118]]++[st []])).toArray 9)):J6 W1 hb (up L 8) W':=by
 unfold J6
 rw [up_self]
 exact ⟨W,J6n h hL,hbut,hr⟩
theorem submit_core {w:World} {P p vb hb b:Nat} {TA TD:List UInt8} {V0 V1 V2 D1 D2 ZD0 Z A1 A2:List Value} {L0 L1 L2:List Ent}
  (hbl:hb < w.heap.size) (hhb:hb ≠ b)
  (ZS:(Tryz.prog.info? 39).map (·.zero)=some (some (.agg Z.toArray))) (LZ:Hid (Z.length=68))
  (ZDz:(Tryz.prog.info? 23).map (·.zero)=some (some (.agg ZD0.toArray))) (LZD:ZD0.length=32)
  (HB0:Hid (∀ W,(Instr.build 39 #[(0,nu 1),(1,nu 1),(2,nu 1)]).run Tryz.prog W = .ok (.agg V0.toArray) W)) (LV0:Hid (V0.length=68)) (OV0:Hid (∀ v ∈ V0,v.oneCell' = true)) (ZV0:Hid ((Tryz.prog.info? 39).map (·.size)=some V0.length))
  (HV0:Hid (V0 = [nu 1,nu 1,nu 1]++([st []]++A2))) (HV1:Hid (V1 = [nu 1,nu 1,nu 1]++([st [118]]++A2)))
  (ZV1:Hid ((Tryz.prog.info? 39).map (·.size)=some V1.length)) (HV1a:Hid (V1[0]? = some (nu 1))) (HV1d:Hid (V1[3]? = some (st [118])))
  (HC:Hid (∀ W,Calls Tryz.prog 23 #[st [],nu 1] W fun e w'=>e = .returned (nu 0)∧w' = W))
  (HP0:Hid (∀ W,Kp [b,hb] w W→W.cell? ⟨P,0,none⟩=some (pt p 0))) (HP3:Hid (∀ W,Kp [b,hb] w W→W.cell? ⟨P,3,none⟩=some (sl vb 3))) (HP5:Hid (∀ W,Kp [b,hb] w W→W.cell? ⟨P,5,none⟩=some (sl hb 3)))
  (HVB:Hid (∀ W,Below w.heap.size w W→W.cell? ⟨vb,1,none⟩=some (st []))) (HHR:Hid (w.heap[hb]? = some (.cells ([st []]++([st []]++[st []])).toArray 9))) (HBK:Hid (Book w b L0))
  (HAs:Hid (∀ W,Calls Tryz.prog 41 #[nu 1,.agg V1.toArray] W fun e w'=>e = .returned (st TA)∧Below W.heap.size W w'))
  (HDa:Hid (∀ W,Calls Tryz.prog 42 #[nu 1,st [118]] W fun e w'=>e = .returned (st TD)∧Below W.heap.size W w'))
  (HTa:Hid (∀ W,Kp [b,hb] w W→Book W b L0→Calls Tryz.prog 40 #[pt p 0,nu 1,nu 1,st TA] W fun e w'=>e = .returned (.tuple #[.agg D1.toArray,nu 0])∧(Touch b W w'∧Book w' b L1)))
  (HTd:Hid (∀ W,Kp [b,hb] w W→Book W b L1→Calls Tryz.prog 40 #[pt p 0,nu 1,nu 2,st TD] W fun e w'=>e = .returned (.tuple #[.agg D2.toArray,nu 0])∧(Touch b W w'∧Book w' b L2)))
  (LD1:D1.length=32) (OD1:Hid (∀ v ∈ D1,v.oneCell' = true)) (ZD1:Hid ((Tryz.prog.info? 23).map (·.size)=some D1.length))
  (LD2:D2.length=32) (OD2:Hid (∀ v ∈ D2,v.oneCell' = true)) (ZD2:Hid ((Tryz.prog.info? 23).map (·.size)=some D2.length))
  (HW1:Hid (V1=A1++(ZD0++ZD0))) (hA1:A1.length=4) (HW2:Hid (V2=(A1++D1)++(D2++[]))) (hA2:(A1++D1).length=36) (LV2:V2.length=68) (OV2:Hid (∀ v ∈ V2,v.oneCell' = true)) (ZV2:Hid ((Tryz.prog.info? 39).map (·.size)=some V2.length)) :
  Calls Tryz.prog 14 #[pt P 0,.agg #[nu 0,nu 1,nu 0,st [118]]] w fun e w'=>e = .returned (.agg V2.toArray)∧Book w' b L2∧Kp [b,hb] w w'∧w'.heap[hb]? = some (.cells ([st []]++([st [118]]++[st []])).toArray 9):=by
 go_enter Tryz.func14,Tryz.ntmps14
 go_upto_region 1 with ((with_reducible refine wl_alloc 39 ?_ ?_ Z.toArray ZS ?_);exact rfl;exact rfl)
 have ba:=below_a1 w (.cells #[nu 0,nu 1,nu 0,st [118]] 63)
 have TA0:=row_kept (top_obj w (.cells #[nu 0,nu 1,nu 0,st [118]] 63)) (below_a1 (w.alloc (.cells #[nu 0,nu 1,nu 0,st [118]] 63)) (.cells Z.toArray 39))
 have TR0:=top_obj (w.alloc (.cells #[nu 0,nu 1,nu 0,st [118]] 63)) (.cells Z.toArray 39)
 have B0:=hid (below_two ba (below_a1 (w.alloc (.cells #[nu 0,nu 1,nu 0,st [118]] 63)) (.cells Z.toArray 39)))
 have e1:(w.alloc (.cells #[nu 0,nu 1,nu 0,st [118]] 63)).heap.size=w.heap.size + 1:=by simp
 rw [e1] at TR0
 try simp only [Act.put,List.setIfInBounds_toArray,List.set_cons_zero,List.set_cons_succ,e1]
 clear e1 ba
 have hs0:=B0.out.size
 have hT0:=row_ltA TR0
 generalize (w.alloc (.cells #[nu 0,nu 1,nu 0,st [118]] 63)).alloc (.cells Z.toArray 39)=W0 at *
 obtain ⟨A,hA⟩:∃ A,w.heap.size=A:=⟨_,rfl⟩
 obtain ⟨Rr,hRr⟩:∃ Rr,w.heap.size + 1=Rr:=⟨_,rfl⟩
 rw [hRr] at TR0 ⊢
 rw [hA] at TA0 ⊢
 have TAh:=hid TA0
 have TRh:=hid TR0
 have a0:=(row_zeroY (cs:=[nu 0,nu 1,nu 0,st [118]]) TA0) 0 _ rfl
 have a1:=(row_zeroY (cs:=[nu 0,nu 1,nu 0,st [118]]) TA0) 1 _ rfl
 have v1:=HVB.out _ B0.out
 have c3:W0.cell? ⟨P,3,none⟩=some (.slice (some ⟨vb,0,none⟩) 3 3):=HP3.out _ (Kp.of B0.out)
 have hRr2:Rr < W0.heap.size:=by omega
 have hAl:w.heap.size ≤ A∧w.heap.size ≤ Rr:=by omega
 clear TA0 TR0 hT0 hRr
 go_wp2_with fail
 refine (HC.out _).mono ?_
 rintro e W1 ⟨rfl,hw⟩
 subst W1
 have b1:=below_a1 W0 (.cells V0.toArray 39)
 have a0':=cell_keptY a0 b1
 have LZ':=LZ.out
 clear v1 c3
 go_upto_region 6 with (first
  | ((with_reducible refine wl_buildY 39 [(0,.tmp 22),(1,.const (nu 1)),(2,.tmp 23)] ?_ ?_ V0.toArray ?_ ?_);exact rfl;exact rfl;exact (HB0.out _))
  | ((with_reducible refine wl_alloc 39 ?_ ?_ Z.toArray ZS ?_);exact rfl;exact rfl)
  | ((with_reducible refine wl_store_top 39 (.tmp 6) (.tmp 24) ?_ ?_ ?_ ?_ V0 Z ?_ 39 ?_ OV0.out ZV0.out ?_);exact rfl;exact rfl;exact rfl;exact rfl;exact rfl;exact LZ.out.trans LV0.out.symm))
 have B1:=hid (below_two B0.out b1)
 have X1:=hid (top_obj W0 (.cells V0.toArray 39))
 have A1h:=hid (row_kept TAh.out b1)
 have R1h:=hid (row_kept TRh.out b1)
 obtain ⟨X,hX⟩:∃ X,W0.heap.size=X:=⟨_,rfl⟩
 rw [hX] at X1 hRr2 ⊢
 have hXw:w.heap.size ≤ X:=by omega
 have hs1:=b1.size
 clear a0 a1 a0' b1 TAh TRh B0
 generalize W0.alloc (.cells V0.toArray 39)=W1 at *
 have HR:=hid (fun W (h:Below W1.heap.size W1 W)=>row_kept (row_kept HHR.out B1.out) h)
 have K61:Hid (∀ W,Kp [hb] W1 W→Kp [b,hb] w W):=hid (fun W h=>(Kp.of B1.out).trans (h.drop (fun x hx=>Or.inl (by simp at hx;simp [hx]))))
 have CP5:=hid (fun W (h:Kp [hb] W1 W)=>HP5.out W (K61.out W h))
 have hAhb:A ≠ hb:=by omega
 have CA3:=hid (fun W (h:Kp [hb] W1 W)=>(row_zeroY (cs:=[nu 0,nu 1,nu 0,st [118]]) (h.row A1h.out (by simp;omega))) 3 _ rfl)
 refine wp_region_cs (N:=80) [(pt P 0),(pt P 0),(pt P 5),(sl hb 3),(nu 1),(pt A 3),(st [118]),(pt hb (0 + 1 * 1)),undef] (J6 W1 hb) [(33,(pt P 0)),(34,(pt P 0)),(35,(pt P 5)),(36,(sl hb 3)),(37,(nu 1)),(38,(pt A 3)),(39,(st [118])),(40,(pt hb (0 + 1 * 1)))] (by kernel_rfl) (by kernel_rfl) rfl (fun w1 hb=>hb) (by kernel_rfl) ?_ ?_
 ·intro i o ho
  match i,ho with
  | 0,ho=>cases ho;exact fun L a w1 hLi hw hnot hJ hk hv K h=>op_move 0 _ rfl (hk 0 (by kernel_rfl)) (h _ hJ)
  | 1,ho=>cases ho;exact fun L a w1 hLi hw hnot hJ hk hv K h=>op_nil 33 P 0 rfl (hv 0 33 (by kernel_rfl) (by kernel_rfl)) (h _ hJ)
  | 2,ho=>cases ho;exact fun L a w1 hLi hw hnot hJ hk hv K h=>op_fa 34 _ 5 P 0 5 rfl (fun W=>by kernel_rfl) (hv 1 34 (by kernel_rfl) (by kernel_rfl)) (h _ hJ)
  | 3,ho=>cases ho;exact fun L a w1 hLi hw hnot hJ hk hv K h=>op_load1 _ (.tmp 35) rfl P 5 (hv 2 35 (by kernel_rfl) (by kernel_rfl)) (sl hb 3) _ (CP5.out _ (J6b hJ)) Tryz.underlying66 rfl (h _ hJ)
  | 4,ho=>cases ho;exact fun L a w1 hLi hw hnot hJ hk hv K h=>op_move 5 _ rfl (hk 5 (by kernel_rfl)) (h _ hJ)
  | 5,ho=>cases ho;exact fun L a w1 hLi hw hnot hJ hk hv K h=>op_fa 3 _ 3 A 0 3 rfl (fun W=>by kernel_rfl) (hk 3 (by kernel_rfl)) (h _ hJ)
  | 6,ho=>cases ho;exact fun L a w1 hLi hw hnot hJ hk hv K h=>op_load1 _ (.tmp 38) rfl A 3 (hv 5 38 (by kernel_rfl) (by kernel_rfl)) (st [118]) _ (CA3.out _ (J6b hJ)) Tryz.underlying9 rfl (h _ hJ)
  | 7,ho=>cases ho;exact fun L a w1 hLi hw hnot hJ hk hv K h=>op_indexS 36 37 _ 9 rfl Tryz.underlying66 1 sizeStr hb 0 3 3 1 (by decide) (hv 3 36 (by kernel_rfl) (by kernel_rfl)) (hv 4 37 (by kernel_rfl) (by kernel_rfl)) (h _ hJ)
  | 8,ho=>cases ho;exact fun L a w1 hLi hw hnot hJ hk hv K h=>op_put1 _ 40 39 rfl rfl hb (0 + 1 * 1) (hv 7 40 (by kernel_rfl) (by kernel_rfl)) [st []] [st []] (st []) (st [118]) (hv 6 39 (by kernel_rfl) (by kernel_rfl)) 9 (HR.out _ (J6n hJ hLi)) rfl rfl sizeStr (fun w2 hr hbut=>h _ (J6u hJ hLi hbut hr))
  | (i + 9),ho=>exact absurd ho (by simp)
 intro LL W2 hall hJ
 simp only [List.foldl_cons,List.foldl_nil,List.setIfInBounds_toArray,List.set_cons_zero,List.set_cons_succ]
 have k2:=J6b hJ
 unfold J6 at hJ
 rw [hall 8 (by decide),cond_true] at hJ
 obtain ⟨W2',b2,but2,r2⟩:=hJ
 have H2:=hid r2
 have X2:=hid (k2.row X1.out (by simp;omega))
 have R2:=hid (k2.row R1h.out (by simp;omega))
 have K2:=hid (K61.out _ k2)
 have p5:W2.cell? ⟨P,5,none⟩=some (.slice (some ⟨hb,0,none⟩) 3 3):=HP5.out _ K2.out
 have h1:W2.cell? ⟨hb,1,none⟩=some (st [118]):=row_cell (A:=[st []]) (C:=[st []]) H2.out rfl rfl
 have HBK2:Hid (Book W2 b L0):=hid ((HBK.out.kept B1.out).at (k2.block b (Nat.lt_of_lt_of_le HBK.out.lt B1.out.size) (by simp;omega)))
 clear b2 but2 r2 hall k2 X1 R1h A1h CP5 CA3 HR K61
 rw [HV0.out] at X2
 have hz3:([nu 1,nu 1,nu 1]:List Value).length=3:=rfl
 go_upto_region 8 with ((with_reducible refine wl_put1 9 (.tmp 48) (.tmp 47) ?_ ?_ X 3 ?_ ?_ [nu 1,nu 1,nu 1] A2 (st []) (st [118]) ?_ 39 X2.out hz3 ?_ ?_ ?_);exact rfl;exact rfl;exact rfl;exact rfl;exact rfl;exact rfl;exact sizeStr;intro W3 r3 b3)
 rw [← HV1.out] at r3
 have X3:=hid r3
 have hXb:X ≠ hb:=by omega
 have K3w:Hid (Kp [b,hb] w W3):=hid (K2.out.but b3 (Or.inr hXw))
 have K3:Hid (Book W3 b L0):=hid (HBK2.out.at (b3.block b (by have:=HBK.out.lt;omega)))
 have H3:=hid (b3.row H2.out (Ne.symm hXb))
 have R3:=hid (b3.row R2.out (by omega))
 clear r3 b3 X2 K2 HBK2 H2 R2 p5 h1
 have TK:Hid (∀ W,Touch b W3 W→Kp [b,hb] w W):=hid (fun W h=>K3w.out.trans ⟨h.os,h.tape,h.output,h.size,fun k hk hx=>h.block k hk (fun e=>hx (by simp [e]))⟩)
 have CP0:=hid (fun W (h:Touch b W3 W)=>HP0.out W (TK.out W h))
 have HT1:=hid (fun W (h:Touch b W3 W) (hk:Book W b L0)=>HTa.out W (TK.out W h) hk)
 refine wp_region_nj (N:=80) 12 13 7 23 32 D1 W3.heap.size [(pt P 0),(pt P 0),(pt P 0),(pt p 0),(nu 1),(nu 1),(.agg (V1).toArray),(st TA),(.tuple #[(.agg D1.toArray),(nu 0)]),(.tuple #[(.agg D1.toArray),(nu 0)]),(.agg D1.toArray),(nu 0),undef,undef,(nu 0)] (fun L w=>Touch b W3 w∧Book w b (bif L 8 then L1 else L0)) (fun g=>[(50,(pt P 0)),(51,(pt P 0)),(52,(pt P 0)),(53,(pt p 0)),(54,(nu 1)),(55,(nu 1)),(56,(.agg (V1).toArray)),(57,(st TA)),(58,(.tuple #[(.agg D1.toArray),(nu 0)])),(49,(.tuple #[(.agg D1.toArray),(nu 0)])),(59,(.agg D1.toArray)),(60,(nu 0)),(7,(pt g 0)),(8,(nu 0))]) (by kernel_rfl) (by kernel_rfl) rfl (by kernel_rfl) (by decide) (by simp) (fun g=>by kernel_rfl) (fun w1 hb=>⟨Touch.of hb,K3.out.kept hb⟩) ?_ ?_
 ·intro i o ho
  match i,ho with
  | 0,ho=>cases ho;exact oweN (pt P 0) (by decide) (by decide) rfl (fun L a w hLi hJ hw hnot hk hv K h=>op_move 0 _ rfl (hk 0 (by kernel_rfl)) (h _ hJ (fun _ _ _ e=>e)))
  | 1,ho=>cases ho;exact oweN (pt P 0) (by decide) (by decide) rfl (fun L a w hLi hJ hw hnot hk hv K h=>op_nil 50 P 0 rfl (hv 0 50 (by kernel_rfl) (by decide) (by kernel_rfl)) (h _ hJ (fun _ _ _ e=>e)))
  | 2,ho=>cases ho;exact oweN (pt P 0) (by decide) (by decide) rfl (fun L a w hLi hJ hw hnot hk hv K h=>op_fa 51 _ 0 P 0 0 rfl (fun W=>by kernel_rfl) (hv 1 51 (by kernel_rfl) (by decide) (by kernel_rfl)) (h _ hJ (fun _ _ _ e=>e)))
  | 3,ho=>cases ho;exact oweN (pt p 0) (by decide) (by decide) rfl (fun L a w hLi hJ hw hnot hk hv K h=>op_load1 _ (.tmp 52) rfl P 0 (hv 2 52 (by kernel_rfl) (by decide) (by kernel_rfl)) (pt p 0) _ (CP0.out _ hJ.1) Tryz.underlying26 rfl (h _ hJ (fun _ _ _ e=>e)))
  | 4,ho=>cases ho;exact oweN (nu 1) (by decide) (by decide) rfl (fun L a w hLi hJ hw hnot hk hv K h=>op_move 5 _ rfl (hk 5 (by kernel_rfl)) (h _ hJ (fun _ _ _ e=>e)))
  | 5,ho=>cases ho;exact oweN (nu 1) (by decide) (by decide) rfl (fun L a w hLi hJ hw hnot hk hv K h=>op_move 5 _ rfl (hk 5 (by kernel_rfl)) (h _ hJ (fun _ _ _ e=>e)))
  | 6,ho=>cases ho;exact oweN (.agg (V1).toArray) (by decide) (by decide) rfl (fun L a w hLi hJ hw hnot hk hv K h=>op_load _ (.tmp 6) rfl X 0 (hk 6 (by kernel_rfl)) (V1) _ (row_zeroY (row_touch X3.out hJ.1 (K3.out.ne X3.out))) Tryz.underlying39 rfl ZV1.out (h _ hJ (fun _ _ _ e=>e)))
  | 7,ho=>cases ho;exact oweN (st TA) (by decide) (by decide) rfl (fun L a w hLi hJ hw hnot hk hv K h=>op_call 41 [.tmp 55,.tmp 56] _ #[(nu 1),(.agg (V1).toArray)] (st TA) rfl (fun _ _=>by kernel_rfl) (args2 (hv 5 55 (by kernel_rfl) (by decide) (by kernel_rfl)) (hv 6 56 (by kernel_rfl) (by decide) (by kernel_rfl))) (J:=fun w1=>Below w.heap.size w w1) (HAs.out w) (fun w1 e1=>h _ ⟨hJ.1.trans (Touch.of e1),by show Book w1 b (bif up L 7 8 then L1 else L0);rw [up_ne (by decide)];exact hJ.2.kept e1⟩ (fun k r _ hr=>row_kept hr e1)))
  | 8,ho=>cases ho;exact oweN (.tuple #[(.agg D1.toArray),(nu 0)]) (by decide) (by decide) rfl (fun L a w hLi hJ hw hnot hk hv K h=>op_call 40 [.tmp 53,.tmp 54,.const (nu (1)),.tmp 57] _ #[(pt p 0),(nu 1),(nu (1)),(st TA)] (.tuple #[(.agg D1.toArray),(nu 0)]) rfl (fun _ _=>by kernel_rfl) (args4 (hv 3 53 (by kernel_rfl) (by decide) (by kernel_rfl)) (hv 4 54 (by kernel_rfl) (by decide) (by kernel_rfl)) rfl (hv 7 57 (by kernel_rfl) (by decide) (by kernel_rfl))) (J:=fun w1=>Touch b w w1∧Book w1 b L1) (HT1.out w hJ.1 (by have e:=hJ.2;simp only [hLi,cond_false] at e;exact e)) (fun w1 e1=>h _ ⟨hJ.1.trans e1.1,by show Book w1 b (bif up L 8 8 then L1 else L0);rw [up_self];exact e1.2⟩ (fun k r _ hr=>row_touch hr e1.1 (hJ.2.ne hr))))
  | 9,ho=>cases ho;exact oweN (.tuple #[(.agg D1.toArray),(nu 0)]) (by decide) (by decide) rfl (fun L a w hLi hJ hw hnot hk hv K h=>op_move 58 _ rfl (hv 8 58 (by kernel_rfl) (by decide) (by kernel_rfl)) (h _ hJ (fun _ _ _ e=>e)))
  | 10,ho=>cases ho;exact oweN (.agg D1.toArray) (by decide) (by decide) rfl (fun L a w hLi hJ hw hnot hk hv K h=>op_extract 49 0 #[(.agg D1.toArray),(nu 0)] _ rfl (hv 9 49 (by kernel_rfl) (by decide) (by kernel_rfl)) rfl (h _ hJ (fun _ _ _ e=>e)))
  | 11,ho=>cases ho;exact oweN (nu 0) (by decide) (by decide) rfl (fun L a w hLi hJ hw hnot hk hv K h=>op_extract 49 1 #[(.agg D1.toArray),(nu 0)] _ rfl (hv 9 49 (by kernel_rfl) (by decide) (by kernel_rfl)) rfl (h _ hJ (fun _ _ _ e=>e)))
  | 12,ho=>cases ho;exact oweN_alloc rfl ZD0 ZDz LZD _ rfl (by kernel_rfl) (by decide) (fun _ _ h=>h.1.size) (fun _ w o h=>⟨h.1.trans (Touch.of (below_a1 w o)),h.2.kept (below_a1 w o)⟩)
  | 13,ho=>cases ho;exact oweN_store 7 59 rfl rfl (by kernel_rfl) 10 (by kernel_rfl) (by decide) (by kernel_rfl) (by kernel_rfl) rfl LD1 OD1.out ZD1.out (fun _ w w2 g _ h hg hr hb=>⟨touch_but h.1 hb hg,h.2.at (hb.block b (Ne.symm (h.2.ne hr)))⟩)
  | 14,ho=>cases ho;exact oweN (nu 0) (by decide) (by decide) rfl (fun L a w hLi hJ hw hnot hk hv K h=>op_assign 60 _ rfl (hv 11 60 (by kernel_rfl) (by decide) (by kernel_rfl)) (h _ hJ (fun _ _ _ e=>e)))
  | (i + 15),ho=>exact absurd ho (by simp)
 intro g1 LL W4 hg1 hr1 hall hJ
 simp only [List.foldl_cons,List.foldl_nil,List.setIfInBounds_toArray,List.set_cons_zero,List.set_cons_succ]
 obtain ⟨t4,bk4⟩:=hJ
 rw [hall 8 (by decide),cond_true] at bk4
 have X4:=hid (row_touch X3.out t4 (K3.out.ne X3.out))
 have R4:=hid (row_touch R3.out t4 (K3.out.ne R3.out))
 have H4:=hid (row_touch H3.out t4 (K3.out.ne H3.out))
 have K4w:=hid (TK.out _ t4)
 have K4:=hid bk4
 have G4:=hid hr1
 have hg1x:X < g1:=by have:=row_ltA X3.out;omega
 have hg1w:w.heap.size ≤ g1:=by omega
 have hg1l:=row_ltA hr1
 clear t4 bk4 hr1 hall X3 R3 H3 K3 K3w TK CP0 HT1 hg1
 have TK:Hid (∀ W,Touch b W4 W→Kp [b,hb] w W):=hid (fun W h=>K4w.out.trans ⟨h.os,h.tape,h.output,h.size,fun k hk hx=>h.block k hk (fun e=>hx (by simp [e]))⟩)
 have CP0b:=hid (fun W (h:Touch b W4 W)=>HP0.out W (TK.out W h))
 have HT2:=hid (fun W (h:Touch b W4 W) (hk:Book W b L1)=>HTd.out W (TK.out W h) hk)
 go_upto_region 9 with fail
 refine wp_region_nj (N:=80) 14 15 9 23 32 D2 W4.heap.size [(pt P 0),(pt P 0),(pt P 0),(pt p 0),(nu 1),(pt X 0),(nu 1),(pt X 3),(st [118]),(st TD),(.tuple #[(.agg D2.toArray),(nu 0)]),(.tuple #[(.agg D2.toArray),(nu 0)]),(.agg D2.toArray),(nu 0),undef,undef,(nu 0)] (fun L w=>Touch b W4 w∧Book w b (bif L 10 then L2 else L1)) (fun g=>[(62,(pt P 0)),(63,(pt P 0)),(64,(pt P 0)),(65,(pt p 0)),(66,(nu 1)),(67,(pt X 0)),(68,(nu 1)),(69,(pt X 3)),(70,(st [118])),(71,(st TD)),(72,(.tuple #[(.agg D2.toArray),(nu 0)])),(61,(.tuple #[(.agg D2.toArray),(nu 0)])),(73,(.agg D2.toArray)),(74,(nu 0)),(9,(pt g 0)),(10,(nu 0))]) (by kernel_rfl) (by kernel_rfl) rfl (by kernel_rfl) (by decide) (by simp) (fun g=>by kernel_rfl) (fun w1 hb=>⟨Touch.of hb,K4.out.kept hb⟩) ?_ ?_
 ·intro i o ho
  match i,ho with
  | 0,ho=>cases ho;exact oweN (pt P 0) (by decide) (by decide) rfl (fun L a w hLi hJ hw hnot hk hv K h=>op_move 0 _ rfl (hk 0 (by kernel_rfl)) (h _ hJ (fun _ _ _ e=>e)))
  | 1,ho=>cases ho;exact oweN (pt P 0) (by decide) (by decide) rfl (fun L a w hLi hJ hw hnot hk hv K h=>op_nil 62 P 0 rfl (hv 0 62 (by kernel_rfl) (by decide) (by kernel_rfl)) (h _ hJ (fun _ _ _ e=>e)))
  | 2,ho=>cases ho;exact oweN (pt P 0) (by decide) (by decide) rfl (fun L a w hLi hJ hw hnot hk hv K h=>op_fa 63 _ 0 P 0 0 rfl (fun W=>by kernel_rfl) (hv 1 63 (by kernel_rfl) (by decide) (by kernel_rfl)) (h _ hJ (fun _ _ _ e=>e)))
  | 3,ho=>cases ho;exact oweN (pt p 0) (by decide) (by decide) rfl (fun L a w hLi hJ hw hnot hk hv K h=>op_load1 _ (.tmp 64) rfl P 0 (hv 2 64 (by kernel_rfl) (by decide) (by kernel_rfl)) (pt p 0) _ (CP0b.out _ hJ.1) Tryz.underlying26 rfl (h _ hJ (fun _ _ _ e=>e)))
  | 4,ho=>cases ho;exact oweN (nu 1) (by decide) (by decide) rfl (fun L a w hLi hJ hw hnot hk hv K h=>op_move 5 _ rfl (hk 5 (by kernel_rfl)) (h _ hJ (fun _ _ _ e=>e)))
  | 5,ho=>cases ho;exact oweN (pt X 0) (by decide) (by decide) rfl (fun L a w hLi hJ hw hnot hk hv K h=>op_fa 6 _ 0 X 0 0 rfl (fun W=>by kernel_rfl) (hk 6 (by kernel_rfl)) (h _ hJ (fun _ _ _ e=>e)))
  | 6,ho=>cases ho;exact oweN (nu 1) (by decide) (by decide) rfl (fun L a w hLi hJ hw hnot hk hv K h=>op_load1 _ (.tmp 67) rfl X 0 (hv 5 67 (by kernel_rfl) (by decide) (by kernel_rfl)) (nu 1) _ (row_zeroY (row_touch X4.out hJ.1 (K4.out.ne X4.out)) 0 _ HV1a.out) Tryz.underlying3 rfl (h _ hJ (fun _ _ _ e=>e)))
  | 7,ho=>cases ho;exact oweN (pt X 3) (by decide) (by decide) rfl (fun L a w hLi hJ hw hnot hk hv K h=>op_fa 6 _ 3 X 0 3 rfl (fun W=>by kernel_rfl) (hk 6 (by kernel_rfl)) (h _ hJ (fun _ _ _ e=>e)))
  | 8,ho=>cases ho;exact oweN (st [118]) (by decide) (by decide) rfl (fun L a w hLi hJ hw hnot hk hv K h=>op_load1 _ (.tmp 69) rfl X 3 (hv 7 69 (by kernel_rfl) (by decide) (by kernel_rfl)) (st [118]) _ (row_zeroY (row_touch X4.out hJ.1 (K4.out.ne X4.out)) 3 _ HV1d.out) Tryz.underlying9 rfl (h _ hJ (fun _ _ _ e=>e)))
  | 9,ho=>cases ho;exact oweN (st TD) (by decide) (by decide) rfl (fun L a w hLi hJ hw hnot hk hv K h=>op_call 42 [.tmp 68,.tmp 70] _ #[(nu 1),(st [118])] (st TD) rfl (fun _ _=>by kernel_rfl) (args2 (hv 6 68 (by kernel_rfl) (by decide) (by kernel_rfl)) (hv 8 70 (by kernel_rfl) (by decide) (by kernel_rfl))) (J:=fun w1=>Below w.heap.size w w1) (HDa.out w) (fun w1 e1=>h _ ⟨hJ.1.trans (Touch.of e1),by show Book w1 b (bif up L 9 10 then L2 else L1);rw [up_ne (by decide)];exact hJ.2.kept e1⟩ (fun k r _ hr=>row_kept hr e1)))
  | 10,ho=>cases ho;exact oweN (.tuple #[(.agg D2.toArray),(nu 0)]) (by decide) (by decide) rfl (fun L a w hLi hJ hw hnot hk hv K h=>op_call 40 [.tmp 65,.tmp 66,.const (nu (2)),.tmp 71] _ #[(pt p 0),(nu 1),(nu (2)),(st TD)] (.tuple #[(.agg D2.toArray),(nu 0)]) rfl (fun _ _=>by kernel_rfl) (args4 (hv 3 65 (by kernel_rfl) (by decide) (by kernel_rfl)) (hv 4 66 (by kernel_rfl) (by decide) (by kernel_rfl)) rfl (hv 9 71 (by kernel_rfl) (by decide) (by kernel_rfl))) (J:=fun w1=>Touch b w w1∧Book w1 b L2) (HT2.out w hJ.1 (by have e:=hJ.2;simp only [hLi,cond_false] at e;exact e)) (fun w1 e1=>h _ ⟨hJ.1.trans e1.1,by show Book w1 b (bif up L 10 10 then L2 else L1);rw [up_self];exact e1.2⟩ (fun k r _ hr=>row_touch hr e1.1 (hJ.2.ne hr))))
  | 11,ho=>cases ho;exact oweN (.tuple #[(.agg D2.toArray),(nu 0)]) (by decide) (by decide) rfl (fun L a w hLi hJ hw hnot hk hv K h=>op_move 72 _ rfl (hv 10 72 (by kernel_rfl) (by decide) (by kernel_rfl)) (h _ hJ (fun _ _ _ e=>e)))
  | 12,ho=>cases ho;exact oweN (.agg D2.toArray) (by decide) (by decide) rfl (fun L a w hLi hJ hw hnot hk hv K h=>op_extract 61 0 #[(.agg D2.toArray),(nu 0)] _ rfl (hv 11 61 (by kernel_rfl) (by decide) (by kernel_rfl)) rfl (h _ hJ (fun _ _ _ e=>e)))
  | 13,ho=>cases ho;exact oweN (nu 0) (by decide) (by decide) rfl (fun L a w hLi hJ hw hnot hk hv K h=>op_extract 61 1 #[(.agg D2.toArray),(nu 0)] _ rfl (hv 11 61 (by kernel_rfl) (by decide) (by kernel_rfl)) rfl (h _ hJ (fun _ _ _ e=>e)))
  | 14,ho=>cases ho;exact oweN_alloc rfl ZD0 ZDz LZD _ rfl (by kernel_rfl) (by decide) (fun _ _ h=>h.1.size) (fun _ w o h=>⟨h.1.trans (Touch.of (below_a1 w o)),h.2.kept (below_a1 w o)⟩)
  | 15,ho=>cases ho;exact oweN_store 9 73 rfl rfl (by kernel_rfl) 12 (by kernel_rfl) (by decide) (by kernel_rfl) (by kernel_rfl) rfl LD2 OD2.out ZD2.out (fun _ w w2 g _ h hg hr hb=>⟨touch_but h.1 hb hg,h.2.at (hb.block b (Ne.symm (h.2.ne hr)))⟩)
  | 16,ho=>cases ho;exact oweN (nu 0) (by decide) (by decide) rfl (fun L a w hLi hJ hw hnot hk hv K h=>op_assign 74 _ rfl (hv 13 74 (by kernel_rfl) (by decide) (by kernel_rfl)) (h _ hJ (fun _ _ _ e=>e)))
  | (i + 17),ho=>exact absurd ho (by simp)
 intro g2 LL W5 hg2 hr2 hall hJ
 simp only [List.foldl_cons,List.foldl_nil,List.setIfInBounds_toArray,List.set_cons_zero,List.set_cons_succ]
 obtain ⟨t5,bk5⟩:=hJ
 rw [hall 10 (by decide),cond_true] at bk5
 have X5:Hid (W5.heap[X]? = some (.cells (A1++(ZD0++ZD0)).toArray 39)):=hid (by rw [← HW1.out];exact row_touch X4.out t5 (K4.out.ne X4.out))
 have R5:=hid (row_touch R4.out t5 (K4.out.ne R4.out))
 have H5:=hid (row_touch H4.out t5 (K4.out.ne H4.out))
 have G5:=hid (row_touch G4.out t5 (K4.out.ne G4.out))
 have K5w:=hid (TK.out _ t5)
 have K5:=hid bk5
 have E5:=hid hr2
 have hg2x:g1 < g2:=by omega
 clear t5 bk5 hr2 hall X4 R4 H4 G4 K4 K4w TK CP0b HT2 hg2 hg1l
 have LE1:ZD0.length=D1.length:=LZD.trans LD1.symm
 have LE2:ZD0.length=D2.length:=LZD.trans LD2.symm
 go_upto_region 11 with (first
  | ((with_reducible refine wl_load 23 (.tmp 7) ?_ g1 0 ?_ ?_ D1 _ (row_zeroY G5.out) Tryz.underlying23 ?_ ZD1.out ?_);iterate 4 exact rfl)
  | ((with_reducible refine wl_put 23 (.tmp 76) (.tmp 75) ?_ ?_ X 4 ?_ ?_ A1 D1 ZD0 ZD0 ?_ 39 X5.out hA1 LE1 OD1.out ZD1.out ?_);exact rfl;exact rfl;exact rfl;exact rfl;exact rfl;intro W6 r6 b6))
 have X6:Hid (W6.heap[X]? = some (.cells ((A1++D1)++(ZD0++[])).toArray 39)):=hid (by rw [List.append_nil,List.append_assoc];exact r6)
 have R6:=hid (b6.row R5.out (by omega))
 have H6:=hid (b6.row H5.out (Ne.symm hXb))
 have E6:=hid (b6.row E5.out (by omega))
 have K6w:=hid (K5w.out.but b6 (Or.inr hXw))
 have hbX:b ≠ X:=by have:=HBK.out.lt;omega
 have K6:=hid (K5.out.at (b6.block b hbX))
 clear r6 b6 X5 R5 H5 G5 E5 K5w K5
 go_upto_region 12 with (first
  | ((with_reducible refine wl_load 23 (.tmp 9) ?_ g2 0 ?_ ?_ D2 _ (row_zeroY E6.out) Tryz.underlying23 ?_ ZD2.out ?_);iterate 4 exact rfl)
  | ((with_reducible refine wl_put 23 (.tmp 78) (.tmp 77) ?_ ?_ X 36 ?_ ?_ (A1++D1) D2 ZD0 [] ?_ 39 X6.out hA2 LE2 OD2.out ZD2.out ?_);exact rfl;exact rfl;exact rfl;exact rfl;exact rfl;intro W7 r7 b7))
 rw [← HW2.out] at r7
 have X7:=hid r7
 have R7:=hid (b7.row R6.out (by omega))
 have H7:=hid (b7.row H6.out (Ne.symm hXb))
 have K7w:=hid (K6w.out.but b7 (Or.inr hXw))
 have K7:=hid (K6.out.at (b7.block b hbX))
 have LZV:Z.length=V2.length:=LZ.out.trans LV2.symm
 clear r7 b7 X6 R6 H6 E6 K6w K6
 go_wp2_with (first
  | ((with_reducible refine wl_load 39 (.tmp 6) ?_ X 0 ?_ ?_ V2 _ (row_zeroY X7.out) Tryz.underlying39 ?_ ZV2.out ?_);iterate 4 exact rfl)
  | ((with_reducible refine wl_put 39 (.tmp 4) (.tmp 79) ?_ ?_ Rr 0 ?_ ?_ [] V2 Z [] ?_ 39 (row_nilY R7.out) rfl LZV OV2.out ZV2.out ?_);exact rfl;exact rfl;exact rfl;exact rfl;exact rfl;intro W8 hr8 hbut))
 have hr9:W8.heap[Rr]? = some (.cells V2.toArray 39):=by simpa using hr8
 refine bodyPost_ret_by (results_cY (fn:=Tryz.f14) (p:=4) (ty:=39) (by kernel_rfl) _ _ Rr 39 V2.toArray (0,0) _ rfl hr9 Tryz.underlying39 rfl (by rw [List.size_toArray];exact ZV2.out)) rfl ?_
 exact ⟨rfl,K7.out.at (hbut.block b (by have:=HBK.out.lt;omega)),K7w.out.but hbut (Or.inr hAl.2),hbut.row H7.out (by omega)⟩
end Go.Proofs.YthkkjjlpahdagaaGreatDoor.Ms
