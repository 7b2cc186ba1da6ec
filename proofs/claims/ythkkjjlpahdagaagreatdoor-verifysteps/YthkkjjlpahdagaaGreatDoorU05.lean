/-
  An operation that is pending, put behind a history: what verify.Step answers, for every input.
-/
import Derived.Test.YthkkjjlpahdagaaGreatDoorS29
import Derived.Test.YthkkjjlpahdagaaGreatDoorS30
import Derived.Test.YthkkjjlpahdagaaGreatDoorTyal
set_option maxHeartbeats 16000000
namespace Go.Proofs.YthkkjjlpahdagaaGreatDoor.Ms
open Go Go.RowKit
set_option maxRecDepth 100000
section
variable {w:World} {p n k:Nat} {s:List UInt8} {x:Pen} {d:List UInt8}
theorem wrongProof_core {w:World} {g:Nat} {c nm E:Int} {UP pr:List UInt8} {V:List Value} (h1:(nm == 1)=false) (hpl:(dg pr).length=32)
  (HC:Hid (∀ (W:World) (x:Nat),W.heap[x]? = some (.cells V.toArray 25)→W.cell? ⟨x,0,none⟩=some (nu c)∧W.cell? ⟨x,1,none⟩=some (nu nm)∧∀ j u,(dg pr)[j]? = some u→W.cell? ⟨x,36 + j,none⟩=some u))
  (HU:Hid (∀ W,Calls Tryz.prog 50 #[st d,nu c] W fun e w'=>e = .returned (st UP)∧Below W.heap.size W w'))
  (HJ:Hid (∀ W,Below w.heap.size w W→Calls Tryz.prog 48 #[nu c,nu 3,st UP,.agg (dg pr).toArray,pt g 0] W fun e w'=>e = .returned (nu E)∧Below W.heap.size W w')) :
  Calls Tryz.prog 20 #[judge g,st d,.agg V.toArray] w fun e w'=>e = .returned (nu E)∧Below w.heap.size w w':=by
 have T0:=top_obj w (.cells V.toArray 25)
 have B0:=hid (below_a1 w (.cells V.toArray 25))
 obtain ⟨a0,a1,a5⟩:=HC.out _ _ T0
 have H1:=regr (w:=w.alloc (.cells V.toArray 25)) (fun W _=>HU.out W)
 have H2:=regr (w:=w.alloc (.cells V.toArray 25)) (fun W hb=>HJ.out W (below_two B0.out hb))
 have hc0:∀ dd os,(Sort.grow (redrawn (w.alloc (.cells V.toArray 25)) dd) os).cell? ⟨w.heap.size,0,none⟩=some (nu c):=fun dd os=>cell_regrown a0 _ _
 have HLd:Hid (∀ w',(∃ q:Regrown,w' = Sort.grow (redrawn (w.alloc (.cells V.toArray 25)) q.d) q.os)→∀ j u,(dg pr)[j]? = some u→w'.cell? ⟨w.heap.size,36 + j,none⟩=some u):=by
  rintro w' ⟨q,rfl⟩ j u hj
  exact cell_regrown (a5 j u hj) _ _
 have ZD:(Tryz.prog.info? 23).map (·.size)=some (dg pr).length:=by rw [hpl];exact sizeDig
 clear T0 a0 a5 HC hpl
 unfold judge
 generalize dg pr=PR at *
 go_enter Tryz.func20,Tryz.ntmps20
 go_upto_region 3 with fail
 clear a1
 generalize w.alloc (.cells V.toArray 25)=W0 at *
 refine wp_region_quiet_below (by kernel_rfl) (by kernel_rfl) ?_
 iterate 8 (first | go_big_quiet_step (exact H1.out _ _) | quiet_step (exact H1.out _ _))
 refine wq_load 23 (.tmp 17) rfl w.heap.size 36 rfl rfl PR _ HLd.out Tryz.underlying23 rfl ZD ?_
 repeat (first | go_big_quiet_step (exact H2.out _ _) | quiet_step (exact H2.out _ _))
 refine wpQuiet_nil ?_
 intro _ hw'
 obtain ⟨⟨dq,osq⟩,hw''⟩:=hw'
 subst hw''
 have HB2:=hid (below_two B0.out (below_regrown W0 dq osq))
 clear hc0 H1 H2 HLd
 go_wp2
 go_ret
 exact ⟨rfl,HB2.out⟩
theorem wrongProof_one {f:Value} (hx:x.Wf) (h1:x.number=1):Calls Tryz.prog 20 #[f,st d,.agg (penC x).toArray] w fun e w'=>e = .returned (nu 0)∧Below w.heap.size w w':=by
 have T0:=top_obj w (.cells (penC x).toArray 25)
 have B0:=hid (below_a1 w (.cells (penC x).toArray 25))
 have c1:=prow_number T0 hx
 rw [h1] at c1
 clear T0 hx h1
 generalize penC x=V at *
 go_enter Tryz.func20,Tryz.ntmps20
 go_wp2
 go_ret
 exact ⟨rfl,B0.out⟩
theorem wrongProof_any (j:JgAt w k p s n) (hx:x.Wf) (hd:d.length ≤ 140737488351232):Calls Tryz.prog 20 #[judge k,st d,.agg (penC x).toArray] w fun e w'=>e = .returned (nu (proE s n d x))∧Below w.heap.size w w':=by
 unfold proE
 by_cases h1:x.number=1
 ·rw [if_pos h1]
  exact wrongProof_one hx h1
 ·rw [if_neg h1]
  exact wrongProof_core (by simpa using h1) (by rw [dg_len];exact hx.proof) (fun W y hr=>⟨prow_client hr hx,prow_number hr hx,prow_proof hr hx⟩) (fun W=>Hist.upto_any d (by omega) x.client W) (fun W hb=>judge_any (j.kept hb) x.client 3 (Hist.uptoL d x.client) x.proof hx.proof)
end
open Go Go.RowKit
set_option maxRecDepth 100000
theorem step_core {w:World} {p:Nat} {c nm kd tg cn E E1 E2:Int} {d AT T D2:List UInt8} {b1 eq bg:Bool} {AS V SU SZ:List Value} {J:Nat→World→Prop}
  (HC:Hid (∀ (W:World) (x:Nat),W.heap[x]? = some (.cells V.toArray 25)→W.cell? ⟨x,0,none⟩=some (nu c)∧W.cell? ⟨x,1,none⟩=some (nu nm)∧W.cell? ⟨x,2,none⟩=some (nu kd)∧W.cell? ⟨x,3,none⟩=some (nu tg)∧∀ j u,AS[j]? = some u→W.cell? ⟨x,4 + j,none⟩=some u))
  (ZZ:(Tryz.prog.info? 39).map (·.zero)=some (some (.agg SZ.toArray))) (OS:Hid (∀ v ∈ SU,v.oneCell' = true)) (ZS:(Tryz.prog.info? 39).map (·.size)=some SU.length) (LS:SZ.length=SU.length)
  (HB:Hid (∀ W,(Instr.build 39 #[(0,nu nm),(1,nu kd),(2,nu tg)]).run Tryz.prog W = .ok (.agg SU.toArray) W))
  (HV:Hid (∀ W,Below w.heap.size w W→Calls Tryz.prog 16 #[pt p 0,nu c,.agg SU.toArray] W fun e w'=>e = .returned (.bool b1)∧Below W.heap.size W w'))
  (hcn:IntKind.i64.wrap (cn + 1)=cn + 1) (HN:Hid (∀ W,Calls Tryz.prog 17 #[st d,nu c] W fun e w'=>e = .returned (nu cn)∧Below W.heap.size W w')) (hne:(nm == cn + 1)=eq)
  (ZD:(Tryz.prog.info? 23).map (·.size)=some AS.length) (kJ:∀ k W W',J k W→Below W.heap.size W W'→J k W')
  (HJ:Hid (∀ W,Below w.heap.size w W→Calls Tryz.prog 18 #[pt p 0] W fun e w'=>e = .returned (.func (.func 48) #[] #[pt W.heap.size 0])∧J W.heap.size w'∧Below W.heap.size W w'))
  (HA:Hid (∀ W,Below w.heap.size w W→Calls Tryz.prog 19 #[nu c,.agg SU.toArray] W fun e w'=>e = .returned (st AT)∧Below W.heap.size W w'))
  (HG:Hid (∀ W k,J k W→Calls Tryz.prog 48 #[nu c,nu 1,st AT,.agg AS.toArray,pt k 0] W fun e w'=>e = .returned (nu E1)∧Below W.heap.size W w'))
  (ZV:(Tryz.prog.info? 25).map (·.size)=some V.length) (HP:Hid (∀ W k,J k W→Calls Tryz.prog 20 #[.func (.func 48) #[] #[pt k 0],st d,.agg V.toArray] W fun e w'=>e = .returned (nu E2)∧Below W.heap.size W w'))
  (hbg:decide ((512:Int) ≤ (d.length:Int))=bg)
  (HH:b1=true→Hid (∀ W,Calls Tryz.prog 21 #[st d,nu c] W fun e w'=>e = .returned (st D2)∧Below W.heap.size W w'))
  (hE1:E1=0 ∨ E1=7) (hE2:E2=0 ∨ E2=7) (h1:Hid (b1=false→T = []∧E=2)) (h2:Hid (b1=true→eq=false→T = []∧E=8)) (h3:Hid (b1=true→eq=true→E1=7→T = []∧E=7))
  (h4:Hid (b1=true→eq=true→E1=0→E2=7→T = []∧E=7)) (h5:Hid (b1=true→eq=true→E1=0→E2=0→bg=true→T = []∧E=11)) (h6:Hid (b1=true→eq=true→E1=0→E2=0→bg=false→T=D2∧E=0)) :
  Calls Tryz.prog 8 #[pt p 0,st d,.agg V.toArray] w fun e w'=>e = .returned (.tuple #[st T,nu E])∧Below w.heap.size w w':=by
 have T0:=top_obj w (.cells V.toArray 25)
 have B0:=hid (below_a1 w (.cells V.toArray 25))
 obtain ⟨a0,a1,a2,a3,a4⟩:=HC.out _ _ T0
 have P0:=hid T0
 clear T0 a4
 have hsz:(⟨d.toArray⟩:ByteArray).size=d.length:=rfl
 go_enter Tryz.func8,Tryz.ntmps8
 go_upto_region 1 with fail
 try simp only [Act.put,List.setIfInBounds_toArray,List.set_cons_zero,List.set_cons_succ]
 generalize w.alloc (.cells V.toArray 25)=W0 at *
 have hs0:=B0.out.size
 generalize hX:w.heap.size=X at *
 go_upto_region 4 with (first
  | ((with_reducible refine wl_buildY 39 [(0,.tmp 15),(1,.tmp 17),(2,.tmp 19)] ?_ ?_ SU.toArray ?_ ?_);exact rfl;exact rfl;exact (HB.out _))
  | ((with_reducible refine wl_alloc 39 ?_ ?_ SZ.toArray ZZ ?_);exact rfl;exact rfl)
  | ((with_reducible refine wl_store_top 39 (.tmp 8) (.tmp 20) ?_ ?_ ?_ ?_ SU SZ ?_ 39 LS OS.out ZS ?_);exact rfl;iterate 4 exact rfl))
 try simp only [Act.put,List.setIfInBounds_toArray,List.set_cons_zero,List.set_cons_succ]
 have b1:=below_a1 W0 (.cells SU.toArray 39)
 have S1:=hid (top_obj W0 (.cells SU.toArray 39))
 have P1:=hid (row_kept P0.out b1)
 have B1:Hid (Below X w (W0.alloc (.cells SU.toArray 39))):=hid (B0.out.trans (b1.mono hs0))
 clear b1 P0 B0 a0 a1 a2 a3
 generalize W0.alloc (.cells SU.toArray 39)=W1 at *
 generalize W0.heap.size=q8 at *
 obtain ⟨a0,a1,a2,a3,a4⟩:=HC.out _ _ P1.out
 clear a2 a3 a4
 go_wp2_with ((with_reducible refine wl_load 39 (.tmp 8) ?_ q8 0 ?_ ?_ SU _ (row_zeroY S1.out) Tryz.underlying39 ?_ ZS ?_);iterate 4 exact rfl)
 refine (HV.out _ B1.out).mono ?_
 rintro e W2 ⟨rfl,b2⟩
 have hs1:X ≤ W1.heap.size:=hX ▸ B1.out.size
 have B2:Hid (Below X w W2):=hid (B1.out.trans (b2.mono hs1))
 have S2:=hid (row_kept S1.out b2)
 have P2:=hid (row_kept P1.out b2)
 clear b2 S1 P1 B1 a0 a1
 cases b1
 case false =>
  go_wp2
  go_ret2
  obtain ⟨hT,hE⟩:=h1.out (by trivial)
  exact ⟨by rw [hT,hE];rfl,hX ▸ B2.out⟩
 go_upto_region 6 with fail
 obtain ⟨a0,a1,a2,a3,a4⟩:=HC.out _ _ P2.out
 clear a2 a3 a4
 have hc0:∀ dd os,(Sort.grow (redrawn W2 dd) os).cell? ⟨X,0,none⟩=some (nu c):=fun dd os=>cell_regrown a0 _ _
 have hc1:∀ dd os,(Sort.grow (redrawn W2 dd) os).cell? ⟨X,1,none⟩=some (nu nm):=fun dd os=>cell_regrown a1 _ _
 have H3:=regr (w:=W2) (fun W _=>HN.out W)
 clear a0 a1
 refine wp_region_quiet_below (by kernel_rfl) (by kernel_rfl) ?_
 repeat (first | go_big_quiet_step (exact H3.out _ _) | quiet_step (exact H3.out _ _))
 refine wpQuiet_nil ?_
 intro _ hw'
 obtain ⟨⟨dq,osq⟩,hw''⟩:=hw'
 subst hw''
 have hs2:X ≤ W2.heap.size:=hX ▸ B2.out.size
 have b3:=below_regrown W2 dq osq
 have B3:Hid (Below X w (Sort.grow (redrawn W2 dq) osq)):=hid (B2.out.trans (b3.mono hs2))
 have S3:=hid (row_kept S2.out b3)
 have P3:=hid (row_kept P2.out b3)
 clear hc0 hc1 H3 b3 S2 P2 B2
 generalize Sort.grow (redrawn W2 dq) osq=W3 at *
 cases eq
 case false =>
  go_wp2
  go_ret2
  obtain ⟨hT,hE⟩:=h2.out (by trivial) (by trivial)
  exact ⟨by rw [hT,hE];rfl,hX ▸ B3.out⟩
 go_wp2_with fail
 refine (HJ.out _ B3.out).mono ?_
 rintro e W4 ⟨rfl,j4,b4⟩
 have hs3:X ≤ W3.heap.size:=hX ▸ B3.out.size
 have B4:Hid (Below X w W4):=hid (B3.out.trans (b4.mono hs3))
 have S4:=hid (row_kept S3.out b4)
 have P4:=hid (row_kept P3.out b4)
 clear b4 S3 P3 B3
 have hs4:X ≤ W4.heap.size:=hX ▸ B4.out.size
 generalize W3.heap.size=k at *
 go_upto_region 9 with fail
 obtain ⟨a0,a1,a2,a3,a4⟩:=HC.out _ _ P4.out
 clear a1 a2 a3
 have hc0:∀ dd os,(Sort.grow (redrawn W4 dd) os).cell? ⟨X,0,none⟩=some (nu c):=fun dd os=>cell_regrown a0 _ _
 have HLd:Hid (∀ w',(∃ q:Regrown,w' = Sort.grow (redrawn W4 q.d) q.os)→∀ j u,AS[j]? = some u→w'.cell? ⟨X,4 + j,none⟩=some u):=by
  rintro w' ⟨q,rfl⟩ j u hj
  exact cell_regrown (a4 j u hj) _ _
 have HLs:=hid (cells_regrown W4 q8 SU 39 S4.out)
 have H1:=regr (w:=W4) (fun W hb=>HA.out W (B4.out.trans (hb.mono hs4)))
 have H2:=regr (w:=W4) (fun W hb=>HG.out W k (kJ _ _ _ j4 hb))
 clear a0 a4
 refine wp_region_quiet_below (by kernel_rfl) (by kernel_rfl) ?_
 iterate 5 (first | go_big_quiet_step (fail) | quiet_step (fail))
 refine wpQuiet_load_seg rfl 39 _ rfl q8 rfl SU _ HLs.out Tryz.underlying39 rfl ZS ?_
 iterate 2 (first | go_big_quiet_step (exact H1.out _ _) | quiet_step (exact H1.out _ _))
 refine wq_load 23 (.tmp 44) rfl X 4 rfl rfl AS _ HLd.out Tryz.underlying23 rfl ZD ?_
 repeat (first | go_big_quiet_step (exact H2.out _ _) | quiet_step (exact H2.out _ _))
 refine wpQuiet_nil ?_
 intro _ hw'
 obtain ⟨⟨dq2,osq2⟩,hw''⟩:=hw'
 subst hw''
 have b5:=below_regrown W4 dq2 osq2
 have B5:Hid (Below X w (Sort.grow (redrawn W4 dq2) osq2)):=hid (B4.out.trans (b5.mono hs4))
 have P5:=hid (row_kept P4.out b5)
 have j5:=kJ _ _ _ j4 b5
 clear hc0 HLd HLs H1 H2 b5 S4 P4 B4 j4
 generalize Sort.grow (redrawn W4 dq2) osq2=W5 at *
 rcases hE1 with rfl | rfl
 case inr =>
  go_wp2
  go_ret2
  obtain ⟨hT,hE⟩:=h3.out (by trivial) (by trivial) (by trivial)
  exact ⟨by rw [hT,hE];rfl,hX ▸ B5.out⟩
 have hs5:X ≤ W5.heap.size:=hX ▸ B5.out.size
 go_wp2_with ((with_reducible refine wl_load 25 (.tmp 5) ?_ X 0 ?_ ?_ V _ (row_zeroY P5.out) Tryz.underlying25 ?_ ZV ?_);iterate 4 exact rfl)
 refine (HP.out _ _ j5).mono ?_
 rintro e W6 ⟨rfl,b6⟩
 have B6:Hid (Below X w W6):=hid (B5.out.trans (b6.mono hs5))
 have P6:=hid (row_kept P5.out b6)
 clear b6 P5 B5 j5
 rcases hE2 with rfl | rfl
 case inr =>
  go_wp2
  go_ret2
  obtain ⟨hT,hE⟩:=h4.out (by trivial) (by trivial) (by trivial) (by trivial)
  exact ⟨by rw [hT,hE];rfl,hX ▸ B6.out⟩
 cases bg
 case true =>
  go_wp2
  go_ret2
  obtain ⟨hT,hE⟩:=h5.out (by trivial) (by trivial) (by trivial) (by trivial) (by trivial)
  exact ⟨by rw [hT,hE];rfl,hX ▸ B6.out⟩
 obtain ⟨a0,a1,a2,a3,a4⟩:=HC.out _ _ P6.out
 clear a1 a2 a3 a4
 have hs6:X ≤ W6.heap.size:=hX ▸ B6.out.size
 go_wp2_with fail
 refine ((HH (by trivial)).out _).mono ?_
 rintro e W7 ⟨rfl,b7⟩
 have B7:Hid (Below X w W7):=hid (B6.out.trans (b7.mono hs6))
 clear b7
 go_wp2
 go_ret2
 obtain ⟨hT,hE⟩:=h6.out (by trivial) (by trivial) (by trivial) (by trivial) (by trivial)
 exact ⟨by rw [hT,hE];rfl,hX ▸ B7.out⟩
open Go Go.RowKit
set_option maxRecDepth 100000
section
variable {w:World} {p n:Nat} {s:List UInt8} {x:Pen} {d:List UInt8}
theorem build_psub (W:World) (a b c:Int):(Instr.build 39 #[(0,nu a),(1,nu b),(2,nu c)]).run Tryz.prog W = .ok (.agg (subC ⟨a,b,c,[],zeroD,zeroD⟩).toArray) W:=by kernel_rfl
theorem jdg_two (s:List UInt8) (n:Nat) (c e:Int) (t D:List UInt8):jdg s n c e t D=0 ∨ jdg s n c e t D=7:=by
 unfold jdg
 split
 ·exact .inl rfl
 ·exact .inr rfl
theorem proE_two (s:List UInt8) (n:Nat) (d:List UInt8) (x:Pen):proE s n d x=0 ∨ proE s n d x=7:=by
 unfold proE
 split
 ·exact .inl rfl
 ·exact jdg_two _ _ _ _ _ _
theorem psub_rng (hx:penOk x):(subM x.client (penSub x)).Rng :=
 ⟨⟨by show (-9223372036854775808:Int) ≤ 1;decide,by show (1:Int) ≤ _;decide⟩,hx.client,hx.number,hx.kind,hx.target,i64_zero,i64_zero,i64_zero,i64_zero,i64_zero,i64_zero,(fun n hn=>by cases hn),(fun p hp=>by cases hp)⟩
theorem vsub_hasB {c:Int} {y:Sub} (h:vsub n c y=true):hasB n c=true:=by
 unfold vsub at h
 rw [Bool.and_eq_true] at h
 exact h.1
theorem hasB_in {c:Int} (h:hasB n c=true):0 ≤ c∧c < n:=by
 unfold hasB at h
 simpa using h
theorem step_two (h:vsub n x.client (penSub x)=false):stepE s n d x=2:=by unfold stepE;rw [if_pos h]
theorem step_eight (h:vsub n x.client (penSub x)=true) (h2:x.number ≠ (Hist.cnt d x.client:Int) + 1):stepE s n d x=8:=by
 unfold stepE;rw [if_neg (by rw [h];decide),if_pos h2]
theorem step_seven (h:vsub n x.client (penSub x)=true) (h2:x.number=(Hist.cnt d x.client:Int) + 1) (h3:jdg s n x.client 1 (askB x.client (penSub x)) x.asked=7):stepE s n d x=7:=by
 unfold stepE;rw [if_neg (by rw [h];decide),if_neg (by rw [h2];exact fun e=>e rfl),h3,if_pos (by decide)]
theorem step_sev2 (h:vsub n x.client (penSub x)=true) (h2:x.number=(Hist.cnt d x.client:Int) + 1) (h3:jdg s n x.client 1 (askB x.client (penSub x)) x.asked=0) (h4:proE s n d x=7):stepE s n d x=7:=by
 unfold stepE;rw [if_neg (by rw [h];decide),if_neg (by rw [h2];exact fun e=>e rfl),h3,if_neg (by decide),h4,if_pos (by decide)]
theorem step_rest (h:vsub n x.client (penSub x)=true) (h2:x.number=(Hist.cnt d x.client:Int) + 1) (h3:jdg s n x.client 1 (askB x.client (penSub x)) x.asked=0) (h4:proE s n d x=0):stepE s n d x=if 512 ≤ d.length then 11 else 0:=by
 unfold stepE;rw [if_neg (by rw [h];decide),if_neg (by rw [h2];exact fun e=>e rfl),h3,if_neg (by decide),h4,if_neg (by decide)]
theorem stepT_bad (h:stepE s n d x ≠ 0):stepT s n d x = []:=by unfold stepT;rw [if_neg h]
theorem stepT_ok (h:stepE s n d x=0):stepT s n d x=d++[by8 x.client]:=by unfold stepT;rw [if_pos h]
theorem vstep_any (r:RgAt w p s n) (hx:penOk x) (hd:d.length ≤ 140737488351232) :
  Calls Tryz.prog 8 #[pt p 0,st d,.agg (penC x).toArray] w fun e w'=>e = .returned (.tuple #[st (stepT s n d x),nu (stepE s n d x)])∧Below w.heap.size w w':=by
 have xw:x.Wf:=⟨hx.asked,hx.proof⟩
 have HC:Hid (∀ (W:World) (y:Nat),W.heap[y]? = some (.cells (penC x).toArray 25)→W.cell? ⟨y,0,none⟩=some (nu x.client)∧W.cell? ⟨y,1,none⟩=some (nu x.number)∧W.cell? ⟨y,2,none⟩=some (nu x.kind)∧W.cell? ⟨y,3,none⟩=some (nu x.target)∧∀ j u,(dg x.asked)[j]? = some u→W.cell? ⟨y,4 + j,none⟩=some u) :=
  fun W y h=>⟨prow_client h xw,prow_number h xw,prow_kind h xw,prow_target h xw,prow_asked h xw⟩
 have ZV:(Tryz.prog.info? 25).map (·.size)=some (penC x).length:=by rw [penC_len xw];exact sizePen
 have ZD:(Tryz.prog.info? 23).map (·.size)=some (dg x.asked).length:=by rw [dg_len,hx.asked];exact sizeDig
 have sw:=penSub_wf x
 have OS:=hid (one_sub (penSub x))
 have ZS:=szSY sw
 have LS:(subC zeroS).length=(subC (penSub x)).length:=by rw [subC_len wfZeroS,subC_len sw]
 have HB:=hid (fun W=>build_psub W x.number x.kind x.target)
 have HV:=hid (fun W (hb:Below w.heap.size w W)=>vsub_any (c:=x.client) (r.kept hb) sw (psub_rng hx))
 have HN:=hid (fun W=>Hist.count_any d (i64_le hd) x.client W)
 have hcl:=Hist.cnt_le d x.client
 have hcn:=wrap1 (Hist.cnt d x.client:Int) (by omega) (by omega)
 have kJ:∀ k W W',JgAt W k p s n→Below W.heap.size W W'→JgAt W' k p s n:=fun k W W' h hb=>h.kept hb
 have HJ:=hid (fun W (hb:Below w.heap.size w W)=>judgeOf_any (r.kept hb))
 have HA:=hid (fun W (hb:Below w.heap.size w W)=>asked_any x.client hx.client (penSub x) sw ⟨hx.number,hx.kind,hx.target⟩ W (r.kept hb).tb)
 have HG:=hid (fun W k (j:JgAt W k p s n)=>judge_any j x.client 1 (askB x.client (penSub x)) x.asked hx.asked)
 have HP:=hid (fun W k (j:JgAt W k p s n)=>wrongProof_any j xw hd)
 exact step_core HC zeroSubY OS ZS LS HB HV hcn HN rfl ZD kJ HJ HA HG ZV HP rfl
  (fun h=>by have hc:=hasB_in (vsub_hasB h);exact fun W=>behind_one d hd x.client (by have:=r.n8;omega) W) (jdg_two _ _ _ _ _ _) (proE_two _ _ _ _)
  (fun h=>⟨stepT_bad (by rw [step_two h];decide),step_two h⟩)
  (fun h h2=>by have e:stepE s n d x=8:=step_eight h (by simpa using h2);exact ⟨stepT_bad (by rw [e];decide),e⟩)
  (fun h h2 h3=>by have e:stepE s n d x=7:=step_seven h (by simpa using h2) h3;exact ⟨stepT_bad (by rw [e];decide),e⟩)
  (fun h h2 h3 h4=>by have e:stepE s n d x=7:=step_sev2 h (by simpa using h2) h3 h4;exact ⟨stepT_bad (by rw [e];decide),e⟩)
  (fun h h2 h3 h4 h5=>by have e:stepE s n d x=11:=(step_rest h (by simpa using h2) h3 h4).trans (if_pos (by have:=of_decide_eq_true h5;omega));exact ⟨stepT_bad (by rw [e];decide),e⟩)
  (fun h h2 h3 h4 h5=>by have e:stepE s n d x=0:=(step_rest h (by simpa using h2) h3 h4).trans (if_neg (by have:=of_decide_eq_false h5;omega));exact ⟨stepT_ok e,e⟩)
end
end Go.Proofs.YthkkjjlpahdagaaGreatDoor.Ms
