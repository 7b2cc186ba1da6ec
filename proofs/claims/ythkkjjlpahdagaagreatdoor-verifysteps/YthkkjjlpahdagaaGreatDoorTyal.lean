/-
  A first reply, of nobody and with nothing pending, to a client that has no view and writes: what verify.Check answers.
-/
import Derived.Test.YthkkjjlpahdagaaGreatDoorS29
import Derived.Test.YthkkjjlpahdagaaGreatDoorS30
import Derived.WalkMore
set_option maxHeartbeats 8000000
namespace Go.Proofs.YthkkjjlpahdagaaGreatDoor.Ms
open Go Go.RowKit
set_option maxRecDepth 100000
theorem sizeGot:(Tryz.prog.info? 46).map (·.size)=some 70:=by kernel_rfl
theorem zeroGot:(Tryz.prog.info? 46).map (·.zero)=some (some (.agg (gotC zeroT).toArray)):=by kernel_rfl
theorem szGY {g:Got} (h:g.Wf):(Tryz.prog.info? 46).map (·.size)=some (gotC g).length:=by rw [gotC_len h];exact sizeGot
theorem build_gotN (W:World) (v:List UInt8):(Instr.build 46 #[(0,st v),(3,nu (-1))]).run Tryz.prog W = .ok (.agg (gotC ⟨v,0,[],-1,[],zeroD,[],zeroD⟩).toArray) W:=by kernel_rfl
theorem build_got0 (W:World):(Instr.build 46 #[]).run Tryz.prog W = .ok (.agg (gotC zeroT).toArray) W:=by kernel_rfl
section
variable {w:World} {p n k:Nat} {s:List UInt8} {y:Rep} {v:Value}
theorem wrongView_no (f:Value) (hy:y.Wf) (hv:y.view = []):Calls Tryz.prog 56 #[pt p 0,f,.agg (repC y v).toArray] w fun e w'=>e = .returned (nu 0)∧Below w.heap.size w w':=by
 have T0:=top_obj w (.cells (repC y v).toArray 42)
 have B0:=hid (below_a1 w (.cells (repC y v).toArray 42))
 have c2:=rrow_view T0 hy
 rw [hv] at c2
 clear T0 hy hv
 generalize repC y v=U at *
 go_enter Tryz.func56,Tryz.ntmps56
 go_wp2
 go_ret
 exact ⟨rfl,B0.out⟩
theorem withPending_no (me:Int) (hy:y.Wf) (hp:PensAt w v y.pend) (hv:y.view = []) (hpn:y.pend = []):Calls Tryz.prog 58 #[pt p 0,nu me,.agg (repC y v).toArray] w fun e w'=>e = .returned (.tuple #[st [],nu 0])∧Below w.heap.size w w':=by
 have T0:=top_obj w (.cells (repC y v).toArray 42)
 have B0:=hid (below_a1 w (.cells (repC y v).toArray 42))
 have c2:=rrow_view T0 hy
 have c4:=rrow_P T0 hy
 rw [hv] at c2
 obtain ⟨pa,pc,rfl,-⟩:=hp
 have hl:y.pend.length=0:=by rw [hpn];rfl
 rw [hl] at c2 c4 B0 ⊢
 clear T0 hy hv hpn hl
 generalize repC y (.slice pa 0 pc)=U at *
 go_enter Tryz.func58,Tryz.ntmps58
 go_wp2
 go_step3
 go_wp2
 go_step3
 go_wp2
 go_loopw [17,8,9] (fun i a b wr=>i=nu 0∧a=st []∧b=nu 0∧wr=w.alloc (.cells U.toArray 42)) (fun _ _ _ _=>0)
 case atStart=>exact ⟨rfl,rfl,rfl,rfl⟩
 case round =>
  obtain ⟨rfl,rfl,rfl,rfl⟩:=hrel
  go_wp2
  try rw [Exit.noGoto_ret]
  go_ret2
  exact ⟨rfl,B0.out⟩
theorem ahead_no (me:Int) (hy:y.Wf) (hp:PensAt w v y.pend) (hv:y.view = []) (hpn:y.pend = []) :
  Calls Tryz.prog 30 #[pt p 0,judge k,nu me,st [],.agg (repC y v).toArray] w fun e w'=>e = .returned (.tuple #[st [],nu 0])∧Below w.heap.size w w':=by
 have T0:=top_obj w (.cells (repC y v).toArray 42)
 have B0:=hid (below_a1 w (.cells (repC y v).toArray 42))
 have T1:=hid T0
 have K1:=hid (fun W=>wrongView_no (w:=W) (p:=p) (v:=v) (judge k) hy hv)
 have K2:=hid (fun W=>Hist.goes_any [] [] W)
 have K3:=hid (fun W=>Hist.count_any [] (by decide) me W)
 have K4:=hid (fun W (h:Below w.heap.size w W)=>withPending_no (p:=p) me hy (hp.kept h) hv hpn)
 have ZS:=szRY hy v
 have hy':=hid hy
 have hv':=hid hv
 clear T0 hy hv hpn hp
 generalize hU:repC y v=U at *
 have HU:=hid hU
 clear hU
 go_enter Tryz.func30,Tryz.ntmps30
 go_upto_region 1 with fail
 generalize w.alloc (.cells U.toArray 42)=W0 at *
 have hsz:w.heap.size ≤ W0.heap.size:=B0.out.size
 go_wp2_with ((with_reducible refine wl_load 42 (.tmp 9) ?_ w.heap.size 0 ?_ ?_ U _ (row_zeroY T1.out) Tryz.underlying42 ?_ ZS ?_);iterate 4 exact rfl)
 refine (K1.out _).mono ?_
 rintro e W1 ⟨rfl,b1⟩
 have B1:=hid (B0.out.trans (b1.mono hsz))
 have R1:=hid (row_kept T1.out b1)
 clear b1
 have c2:W1.cell? ⟨w.heap.size,2,none⟩=some (st []):=by
  have:=R1.out
  rw [← HU.out] at this
  have:=rrow_view this hy'.out
  rw [hv'.out] at this
  exact this
 go_wp2_with fail
 refine (K2.out _).mono ?_
 rintro e W2 ⟨rfl,e2⟩
 subst W2
 have hg:Hist.goesB [] []=true:=rfl
 rw [hg]
 go_wp2_with fail
 refine (K3.out _).mono ?_
 rintro e W2 ⟨rfl,b2⟩
 have B2:=hid (B1.out.trans (b2.mono B1.out.size))
 have R2:=hid (row_kept R1.out b2)
 clear b2
 have hc0:Hist.cnt [] me=0:=rfl
 rw [hc0] at *
 go_wp2_with fail
 refine (K3.out _).mono ?_
 rintro e W3 ⟨rfl,b3⟩
 have B3:=hid (B2.out.trans (b3.mono B2.out.size))
 have R3:=hid (row_kept R2.out b3)
 clear b3
 go_wp2_with ((with_reducible refine wl_load 42 (.tmp 9) ?_ w.heap.size 0 ?_ ?_ U _ (row_zeroY R3.out) Tryz.underlying42 ?_ ZS ?_);iterate 4 exact rfl)
 refine (K4.out _ B3.out).mono ?_
 rintro e W4 ⟨rfl,b4⟩
 have B4:=hid (B3.out.trans (b4.mono B3.out.size))
 clear b4
 go_wp2
 go_ret2
 exact ⟨rfl,B4.out⟩
theorem learned_no (d:List UInt8) (hy:y.Wf) (hv:y.view = []):Calls Tryz.prog 31 #[st d,.agg (repC y v).toArray] w fun e w'=>e = .returned (.agg (gotC (learnG d y)).toArray)∧Below w.heap.size w w':=by
 have e0:learnG d y=⟨d,0,[],-1,[],zeroD,[],zeroD⟩:=by unfold learnG;rw [if_pos hv]
 rw [e0]
 have B0:=below_a1 w (.cells (repC y v).toArray 42)
 have B1:=hid (below_two B0 (below_a1 (w.alloc (.cells (repC y v).toArray 42)) (.cells (gotC zeroT).toArray 46)))
 have T0:=row_kept (top_obj w (.cells (repC y v).toArray 42)) (below_a1 (w.alloc (.cells (repC y v).toArray 42)) (.cells (gotC zeroT).toArray 46))
 have T1:=hid (top_obj (w.alloc (.cells (repC y v).toArray 42)) (.cells (gotC zeroT).toArray 46))
 have e1:(w.alloc (.cells (repC y v).toArray 42)).heap.size=w.heap.size + 1:=by simp
 rw [e1] at T1
 have c2:=rrow_view T0 hy
 rw [hv] at c2
 have ZG:=zeroGot
 have HB:=hid (fun W=>build_gotN W d)
 have HO:=hid (one_got ⟨d,0,[],-1,[],zeroD,[],zeroD⟩)
 have HZ:=hid (szGY (g:=⟨d,0,[],-1,[],zeroD,[],zeroD⟩) ⟨rfl,rfl⟩)
 have HL:Hid ((gotC zeroT).length=(gotC ⟨d,0,[],-1,[],zeroD,[],zeroD⟩).length):=by show _=_;rw [gotC_len zeroT_wf,gotC_len ⟨rfl,rfl⟩]
 clear hy hv e0 T0 B0
 generalize repC y v=U at *
 generalize gotC ⟨d,0,[],-1,[],zeroD,[],zeroD⟩=G at *
 generalize gotC zeroT=Z at *
 go_enter Tryz.func31,Tryz.ntmps31
 go_upto_region 1 with ((with_reducible refine wl_alloc 46 ?_ ?_ Z.toArray ZG ?_);exact rfl;exact rfl)
 generalize hW:(w.alloc (.cells U.toArray 42)).alloc (.cells Z.toArray 46)=W0 at *
 try simp only [Act.put,List.setIfInBounds_toArray,List.set_cons_zero,List.set_cons_succ,e1]
 clear e1 hW
 have hge:w.heap.size ≤ w.heap.size + 1:=Nat.le_succ _
 generalize w.heap.size + 1=Y at *
 generalize hX:w.heap.size=X at *
 go_wp2_with (first
  | ((with_reducible refine wl_buildY 46 [(0,.tmp 8),(3,.const (nu (-1)))] ?_ ?_ G.toArray ?_ ?_);exact rfl;exact rfl;exact (HB.out _))
  | ((with_reducible refine wl_put 46 (.tmp 4) (.tmp 9) ?_ ?_ Y 0 ?_ ?_ [] G Z [] ?_ 46 (row_nilY T1.out) rfl HL.out HO.out HZ.out ?_);exact rfl;exact rfl;exact rfl;exact rfl;exact rfl;intro W4 hr4 hbut))
 have hr5:W4.heap[Y]? = some (.cells G.toArray 46):=by simpa using hr4
 refine bodyPost_ret_by (results_cY (fn:=Tryz.f31) (p:=4) (ty:=46) (by kernel_rfl) _ _ Y 46 G.toArray (0,0) _ rfl hr5 Tryz.underlying46 rfl (by rw [List.size_toArray];exact HZ.out)) rfl ?_
 exact ⟨rfl,hX ▸ hbut.below B1.out hge⟩
theorem check_first {me:Int} (hme:0 ≤ me∧me < 256) (r:RgAt w p s n) {x:Sub} (hx:x.Wf) (hr:(subM me x).Rng) (hy:y.Wf) (hry:RepRng y) (hp:PensAt w v y.pend) (hv:y.view = []) (hpn:y.pend = []) (h1:askOk n me [] x=true) (h2:ansOk x y=true) (hk:x.kind ≠ 2) :
  Calls Tryz.prog 10 #[pt p 0,nu me,st [],.agg (subC x).toArray,.agg (repC y v).toArray] w fun e w'=>e = .returned (.tuple #[.agg (gotC (learnG [by8 me] y)).toArray,nu 0])∧Below w.heap.size w w':=by
 have e1:(w.alloc (.cells (subC x).toArray 39)).heap.size=w.heap.size + 1:=by simp
 have e2:((w.alloc (.cells (subC x).toArray 39)).alloc (.cells (repC y v).toArray 42)).heap.size=w.heap.size + 2:=by simp
 have T0:=top_obj w (.cells (subC x).toArray 39)
 have b0:=below_a1 w (.cells (subC x).toArray 39)
 have T1:=top_obj (w.alloc (.cells (subC x).toArray 39)) (.cells (repC y v).toArray 42)
 have b1:=below_a1 (w.alloc (.cells (subC x).toArray 39)) (.cells (repC y v).toArray 42)
 have T2:=top_obj ((w.alloc (.cells (subC x).toArray 39)).alloc (.cells (repC y v).toArray 42)) (.cells (gotC zeroT).toArray 46)
 have b2:=below_a1 ((w.alloc (.cells (subC x).toArray 39)).alloc (.cells (repC y v).toArray 42)) (.cells (gotC zeroT).toArray 46)
 rw [e1] at T1
 rw [e2] at T2
 have S0:=hid (row_kept (row_kept T0 b1) b2)
 have R0:=hid (row_kept T1 b2)
 have G0:=hid T2
 have B0:=hid (below_two (below_two b0 b1) b2)
 have HA:=hid (fun W (h:Below w.heap.size w W)=>mayAsk_any (me:=me) (view:=[]) (r.kept h) (by decide) hx hr)
 have HN:=hid (fun W (h:Below w.heap.size w W)=>mayAnswer_any (x:=x) (r.kept h).tb hx hy hry (hp.kept h) (by rw [hpn];decide))
 have HJ:=hid (fun W (h:Below w.heap.size w W)=>judgeOf_any (r.kept h))
 have HH:=hid (fun W k (h:Below w.heap.size w W)=>ahead_no (k:=k) (p:=p) me hy (hp.kept h) hv hpn)
 have HBe:=hid (fun W=>behind_one [] (by decide) me hme W)
 have HLe:=hid (fun W=>learned_no (w:=W) (v:=v) ([]++[by8 me]) hy hv)
 rw [h1] at HA
 rw [h2] at HN
 have ZS:=szSY hx
 have ZR:=szRY hy v
 have ZG:=zeroGot
 have LW:=learnG_wf (v:=[by8 me]) hy
 have ZGG:=hid (szGY LW)
 have OG:=hid (one_got (learnG [by8 me] y))
 have LG:=gotC_len LW
 have LZ:=gotC_len zeroT_wf
 have ck:=srow_kind S0.out hx
 have CK:=hid ck
 have hkk:(x.kind != 2)=true:=by simp [hk]
 clear r hx hr hy hry hp hv hpn h1 h2 hk T0 T1 T2 b0 b1 b2 ck LW
 rw [List.nil_append] at HBe HLe
 generalize x.kind=xk at *
 generalize subC x=V at *
 generalize repC y v=U at *
 generalize gotC (learnG [by8 me] y)=G at *
 generalize [by8 me]=D at *
 generalize gotC zeroT=Z at *
 go_enter Tryz.func10,Tryz.ntmps10
 go_upto_region 1 with ((with_reducible refine wl_alloc 46 ?_ ?_ Z.toArray ZG ?_);exact rfl;exact rfl)
 try simp only [Act.put,List.setIfInBounds_toArray,List.set_cons_zero,List.set_cons_succ,e1,e2]
 generalize ((w.alloc (.cells V.toArray 39)).alloc (.cells U.toArray 42)).alloc (.cells Z.toArray 46)=W0 at *
 clear e1 e2
 have hB0:w.heap.size ≤ W0.heap.size:=B0.out.size
 have hY2:w.heap.size ≤ w.heap.size + 2:=Nat.le_add_right _ _
 generalize hgX:w.heap.size=X at *
 generalize X + 1=Y at *
 generalize X + 2=Y2 at *
 go_wp2_with ((with_reducible refine wl_load 39 (.tmp 8) ?_ X 0 ?_ ?_ V _ (row_zeroY S0.out) Tryz.underlying39 ?_ ZS ?_);iterate 4 exact rfl)
 refine (HA.out _ B0.out).mono ?_
 rintro e W1 ⟨rfl,b1⟩
 have B1:=hid (B0.out.trans (b1.mono hB0))
 have S1:=hid (row_kept S0.out b1)
 have CK1:=hid (cell_keptY CK.out b1)
 have R1:=hid (row_kept R0.out b1)
 have G1:=hid (row_kept G0.out b1)
 clear b1 S0 R0 G0 B0
 have hB1:X ≤ W1.heap.size:=hgX ▸ B1.out.size
 go_wp2_with (first
  | ((with_reducible refine wl_load 39 (.tmp 8) ?_ X 0 ?_ ?_ V _ (row_zeroY S1.out) Tryz.underlying39 ?_ ZS ?_);iterate 4 exact rfl)
  | ((with_reducible refine wl_load 42 (.tmp 9) ?_ Y 0 ?_ ?_ U _ (row_zeroY R1.out) Tryz.underlying42 ?_ ZR ?_);iterate 4 exact rfl))
 refine (HN.out _ B1.out).mono ?_
 rintro e W2 ⟨rfl,b2⟩
 have B2:=hid (B1.out.trans (b2.mono hB1))
 have S2:=hid (row_kept S1.out b2)
 have CK2:=hid (cell_keptY CK1.out b2)
 have R2:=hid (row_kept R1.out b2)
 have G2:=hid (row_kept G1.out b2)
 clear b2 S1 R1 G1 B1
 have hB2:X ≤ W2.heap.size:=hgX ▸ B2.out.size
 go_wp2_with fail
 refine (HJ.out _ B2.out).mono ?_
 rintro e W3 ⟨rfl,-,b3⟩
 have B3:=hid (B2.out.trans (b3.mono hB2))
 have S3:=hid (row_kept S2.out b3)
 have CK3:=hid (cell_keptY CK2.out b3)
 have R3:=hid (row_kept R2.out b3)
 have G3:=hid (row_kept G2.out b3)
 clear b3 S2 R2 G2 B2
 have hB3:X ≤ W3.heap.size:=hgX ▸ B3.out.size
 generalize W2.heap.size=kk at *
 generalize hjk:judge kk=JK at *
 go_wp2_with ((with_reducible refine wl_load 42 (.tmp 9) ?_ Y 0 ?_ ?_ U _ (row_zeroY R3.out) Tryz.underlying42 ?_ ZR ?_);iterate 4 exact rfl)
 refine (hjk ▸ HH.out _ kk B3.out).mono ?_
 rintro e W4 ⟨rfl,b4⟩
 have B4:=hid (B3.out.trans (b4.mono hB3))
 have S4:=hid (row_kept S3.out b4)
 have CK4:=hid (cell_keptY CK3.out b4)
 have T5:=hid (row_kept R3.out b4)
 have G4:=hid (row_kept G3.out b4)
 clear b4 S3 R3 G3 B3 HJ HH HA HN
 have hB4:X ≤ W4.heap.size:=hgX ▸ B4.out.size
 go_upto_region 9 with fail
 refine wp_region_nj (N:=70) 5 6 15 46 70 G W4.heap.size [(st []),(nu me),(st D),(.agg (U).toArray),(.agg G.toArray),undef,undef] (fun _ w=>Below W4.heap.size W4 w) (fun g=>[(48,(st [])),(49,(nu me)),(50,(st D)),(51,(.agg (U).toArray)),(52,(.agg G.toArray)),(15,(pt g 0))]) (by kernel_rfl) (by kernel_rfl) rfl (by kernel_rfl) (by decide) (by simp) (fun g=>by kernel_rfl) (fun _ h=>h) ?_ ?_
 ·intro i o ho
  match i,ho with
  | 0,ho=>cases ho;exact oweN (st []) (by decide) (by decide) rfl (fun L a w hLi hJ hw hnot hk hv K h=>op_move 13 _ rfl (hk 13 (by kernel_rfl)) (h _ hJ (fun _ _ _ e=>e)))
  | 1,ho=>cases ho;exact oweN (nu me) (by decide) (by decide) rfl (fun L a w hLi hJ hw hnot hk hv K h=>op_move 1 _ rfl (hk 1 (by kernel_rfl)) (h _ hJ (fun _ _ _ e=>e)))
  | 2,ho=>cases ho;exact oweN (st D) (by decide) (by decide) rfl (fun L a w hLi hJ hw hnot hk hv K h=>op_call 21 [.tmp 48,.tmp 49] _ #[(st []),(nu me)] (st D) rfl (fun _ _=>by kernel_rfl) (args2 (hv 0 48 (by kernel_rfl) (by decide) (by kernel_rfl)) (hv 1 49 (by kernel_rfl) (by decide) (by kernel_rfl))) (J:=fun w1=>Below w.heap.size w w1) (HBe.out w) (fun w1 e1=>h _ (hJ.trans (e1.mono hJ.size)) (fun _ _ _ e=>row_kept e e1)))
  | 3,ho=>cases ho;exact oweN (.agg (U).toArray) (by decide) (by decide) rfl (fun L a w hLi hJ hw hnot hk hv K h=>op_load _ (.tmp 9) rfl Y 0 (hk 9 (by kernel_rfl)) (U) _ (row_zeroY (row_kept T5.out hJ)) Tryz.underlying42 rfl ZR (h _ hJ (fun _ _ _ e=>e)))
  | 4,ho=>cases ho;exact oweN (.agg G.toArray) (by decide) (by decide) rfl (fun L a w hLi hJ hw hnot hk hv K h=>op_call 31 [.tmp 50,.tmp 51] _ #[(st D),(.agg (U).toArray)] (.agg G.toArray) rfl (fun _ _=>by kernel_rfl) (args2 (hv 2 50 (by kernel_rfl) (by decide) (by kernel_rfl)) (hv 3 51 (by kernel_rfl) (by decide) (by kernel_rfl))) (J:=fun w1=>Below w.heap.size w w1) (HLe.out w) (fun w1 e1=>h _ (hJ.trans (e1.mono hJ.size)) (fun _ _ _ e=>row_kept e e1)))
  | 5,ho=>cases ho;exact oweN_alloc rfl Z ZG LZ _ rfl (by kernel_rfl) (by decide) (fun _ _ h=>h.size) (fun _ w o h=>h.trans ((below_a1 w o).mono h.size))
  | 6,ho=>cases ho;exact oweN_store 15 52 rfl rfl (by kernel_rfl) 4 (by kernel_rfl) (by decide) (by kernel_rfl) (by kernel_rfl) rfl LG OG.out ZGG.out (fun _ w w2 g _ h hg _ hb=>hb.below h hg)
  | (i + 7),ho=>exact absurd ho (by simp)
 intro gN LL W5 hgN hrN _ hJ
 simp only [List.foldl_cons,List.foldl_nil,List.setIfInBounds_toArray,List.set_cons_zero,List.set_cons_succ]
 have B5:=hid (B4.out.trans (hJ.mono hB4))
 have c1:=cell_keptY CK4.out hJ
 have G5:=hid (row_kept G4.out hJ)
 have N5:=hid hrN
 clear hJ hrN S4 G4 B4 T5
 go_wp2_with (first
  | ((with_reducible refine wl_load 46 (.tmp 15) ?_ gN 0 ?_ ?_ G _ (row_zeroY N5.out) Tryz.underlying46 ?_ ZGG.out ?_);iterate 4 exact rfl)
  | ((with_reducible refine wl_put 46 (.tmp 10) (.tmp 56) ?_ ?_ Y2 0 ?_ ?_ [] G Z [] ?_ 46 (row_nilY G5.out) rfl (LZ.trans LG.symm) OG.out ZGG.out ?_);exact rfl;exact rfl;exact rfl;exact rfl;exact rfl;intro W6 hr6 hbut))
 have hr7:W6.heap[Y2]? = some (.cells G.toArray 46):=by simpa using hr6
 refine bodyPost_ret_by (results_ctY (fn:=Tryz.f10) (p:=10) (u:=11) (ty:=46) (by kernel_rfl) _ _ Y2 46 G.toArray (0,0) _ rfl hr7 Tryz.underlying46 rfl (by rw [List.size_toArray];exact ZGG.out)) rfl ?_
 exact ⟨rfl,hgX ▸ hbut.below B5.out hY2⟩
end
open Go Go.RowKit
set_option maxRecDepth 100000
section
variable {w:World} {p n:Nat} {s:List UInt8} {y:Rep} {v:Value}
theorem check_arg {me:Int} (r:RgAt w p s n) {x:Sub} (hx:x.Wf) (hr:(subM me x).Rng) (hy:y.Wf) (hry:RepRng y) (hp:PensAt w v y.pend) (hpl:y.pend.length ≤ 9223372036854775807) {view:List UInt8} (hvl:view.length ≤ 140737488351232) (h1:askOk n me view x=true) (h2:ansOk x y=false) :
  Calls Tryz.prog 10 #[pt p 0,nu me,st view,.agg (subC x).toArray,.agg (repC y v).toArray] w fun e w'=>e = .returned (.tuple #[.agg (gotC zeroT).toArray,nu 2])∧Below w.heap.size w w':=by
 have e1:(w.alloc (.cells (subC x).toArray 39)).heap.size=w.heap.size + 1:=by simp
 have e2:((w.alloc (.cells (subC x).toArray 39)).alloc (.cells (repC y v).toArray 42)).heap.size=w.heap.size + 2:=by simp
 have T0:=top_obj w (.cells (subC x).toArray 39)
 have b0:=below_a1 w (.cells (subC x).toArray 39)
 have T1:=top_obj (w.alloc (.cells (subC x).toArray 39)) (.cells (repC y v).toArray 42)
 have b1:=below_a1 (w.alloc (.cells (subC x).toArray 39)) (.cells (repC y v).toArray 42)
 have T2:=top_obj ((w.alloc (.cells (subC x).toArray 39)).alloc (.cells (repC y v).toArray 42)) (.cells (gotC zeroT).toArray 46)
 have b2:=below_a1 ((w.alloc (.cells (subC x).toArray 39)).alloc (.cells (repC y v).toArray 42)) (.cells (gotC zeroT).toArray 46)
 rw [e1] at T1
 rw [e2] at T2
 have S0:=hid (row_kept (row_kept T0 b1) b2)
 have R0:=hid (row_kept T1 b2)
 have G0:=hid T2
 have B0:=hid (below_two (below_two b0 b1) b2)
 have HA:=hid (fun W (h:Below w.heap.size w W)=>mayAsk_any (me:=me) (view:=view) (r.kept h) hvl hx hr)
 have HN:=hid (fun W (h:Below w.heap.size w W)=>mayAnswer_any (x:=x) (r.kept h).tb hx hy hry (hp.kept h) hpl)
 rw [h1] at HA
 rw [h2] at HN
 have ZS:=szSY hx
 have ZR:=szRY hy v
 have ZG:=zeroGot
 have ZZ:=hid (szGY zeroT_wf)
 have OZ:=hid (one_got zeroT)
 have HB:=hid (fun W=>build_got0 W)
 clear r hx hr hy hry hp hpl hvl h1 h2 T0 T1 T2 b0 b1 b2
 generalize subC x=V at *
 generalize repC y v=U at *
 generalize gotC zeroT=Z at *
 go_enter Tryz.func10,Tryz.ntmps10
 go_upto_region 1 with ((with_reducible refine wl_alloc 46 ?_ ?_ Z.toArray ZG ?_);exact rfl;exact rfl)
 try simp only [Act.put,List.setIfInBounds_toArray,List.set_cons_zero,List.set_cons_succ,e1,e2]
 generalize ((w.alloc (.cells V.toArray 39)).alloc (.cells U.toArray 42)).alloc (.cells Z.toArray 46)=W0 at *
 clear e1 e2
 have hB0:w.heap.size ≤ W0.heap.size:=B0.out.size
 have hY2:w.heap.size ≤ w.heap.size + 2:=Nat.le_add_right _ _
 generalize hgX:w.heap.size=X at *
 generalize X + 1=Y at *
 generalize X + 2=Y2 at *
 go_wp2_with ((with_reducible refine wl_load 39 (.tmp 8) ?_ X 0 ?_ ?_ V _ (row_zeroY S0.out) Tryz.underlying39 ?_ ZS ?_);iterate 4 exact rfl)
 refine (HA.out _ B0.out).mono ?_
 rintro e W1 ⟨rfl,b1⟩
 have B1:=hid (B0.out.trans (b1.mono hB0))
 have S1:=hid (row_kept S0.out b1)
 have R1:=hid (row_kept R0.out b1)
 have G1:=hid (row_kept G0.out b1)
 clear b1 S0 R0 G0 B0
 have hB1:X ≤ W1.heap.size:=hgX ▸ B1.out.size
 go_wp2_with (first
  | ((with_reducible refine wl_load 39 (.tmp 8) ?_ X 0 ?_ ?_ V _ (row_zeroY S1.out) Tryz.underlying39 ?_ ZS ?_);iterate 4 exact rfl)
  | ((with_reducible refine wl_load 42 (.tmp 9) ?_ Y 0 ?_ ?_ U _ (row_zeroY R1.out) Tryz.underlying42 ?_ ZR ?_);iterate 4 exact rfl))
 refine (HN.out _ B1.out).mono ?_
 rintro e W2 ⟨rfl,b2⟩
 have B2:=hid (B1.out.trans (b2.mono hB1))
 have G2:=hid (row_kept G1.out b2)
 clear b2 S1 R1 G1 B1
 go_wp2_with (first
  | ((with_reducible refine wl_build 46 ?_ ?_ Z.toArray (HB.out _) ?_);exact rfl;exact rfl)
  | ((with_reducible refine wl_put 46 (.tmp 10) (.tmp 32) ?_ ?_ Y2 0 ?_ ?_ [] Z Z [] ?_ 46 (row_nilY G2.out) rfl rfl OZ.out ZZ.out ?_);exact rfl;exact rfl;exact rfl;exact rfl;exact rfl;intro W6 hr6 hbut))
 have hr7:W6.heap[Y2]? = some (.cells Z.toArray 46):=by simpa using hr6
 refine bodyPost_ret_by (results_ctY (fn:=Tryz.f10) (p:=10) (u:=11) (ty:=46) (by kernel_rfl) _ _ Y2 46 Z.toArray (0,0) _ rfl hr7 Tryz.underlying46 rfl (by rw [List.size_toArray];exact ZZ.out)) rfl ?_
 exact ⟨rfl,hgX ▸ hbut.below B2.out hY2⟩
end
end Go.Proofs.YthkkjjlpahdagaaGreatDoor.Ms
