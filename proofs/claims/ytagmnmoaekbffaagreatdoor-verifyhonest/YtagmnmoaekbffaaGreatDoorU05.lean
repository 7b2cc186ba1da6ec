/- U05 -/
import Derived.Test.YtagmnmoaekbffaaGreatDoorS29
import Derived.Test.YtagmnmoaekbffaaGreatDoorS30
import Derived.Test.YtagmnmoaekbffaaGreatDoorTyal
set_option maxHeartbeats 16000000
namespace Go.Proofs.YtagmnmoaekbffaaGreatDoor.Ms
open Go.Proofs.Tryz
open Go Go.RowKit
set_option maxRecDepth 100000
section
variable {w:World} {p n k:Nat} {s:List UInt8} {x:Pen} {d:List UInt8}
theorem h0W {w:World} {g:Nat} {c nm E:Int} {UP pr:List UInt8} {V:List Value} (h1:(nm == 1)=false) (hpl:(dg pr).length=32)
  (HC:Hid (∀ (W:World) (x:Nat),W.heap[x]? = some (.cells V.toArray 57)->W.cell? ⟨x,0,none⟩=some (nu c)/\W.cell? ⟨x,1,none⟩=some (nu nm)/\∀ j u,(dg pr)[j]? = some u->W.cell? ⟨x,36 + j,none⟩=some u))
  (HU:Hid (∀ W,Calls prog 118 #[st d,nu c] W fun e w'=>e = .returned (st UP)/\Below W.heap.size W w'))
  (HJ:Hid (∀ W,Below w.heap.size w W->Calls prog 53 #[nu c,nu 3,st UP,.agg (dg pr).toArray,pt g 0] W fun e w'=>e = .returned (nu E)/\Below W.heap.size W w')) :
  Calls prog 98 #[judge g,st d,.agg V.toArray] w fun e w'=>e = .returned (nu E)/\Below w.heap.size w w':=by
 have T0:=a0f w (.cells V.toArray 57);have B0:=hid (a0c w (.cells V.toArray 57));obtain ⟨a0,a1,a5⟩:=HC.out _ _ T0;have H1:=regr (w:=w.alloc (.cells V.toArray 57)) (fun W _=>HU.out W);have H2:=regr (w:=w.alloc (.cells V.toArray 57)) (fun W hb=>HJ.out W (a0b B0.out hb));have hc0:∀ dd os,(Sort.grow (redrawn (w.alloc (.cells V.toArray 57)) dd) os).cell? ⟨w.heap.size,0,none⟩=some (nu c):=fun dd os=>cell_regrown a0 _ _
 have HLd:Hid (∀ w',(∃ q:Regrown,w' = Sort.grow (redrawn (w.alloc (.cells V.toArray 57)) q.d) q.os)->∀ j u,(dg pr)[j]? = some u->w'.cell? ⟨w.heap.size,36 + j,none⟩=some u):=by
  rintro w' ⟨q,rfl⟩ j u hj;exact cell_regrown (a5 j u hj) _ _
 have ZD:(prog.info? 38).map (·.size)=some (dg pr).length:=by rw [hpl];exact sizeDig
 clear T0 a0 a5 HC hpl;unfold judge;generalize dg pr=PR at *;go_enter func98,ntmps98;go_upto_region 3 with fail
 clear a1;generalize w.alloc (.cells V.toArray 57)=W0 at *;refine wp_region_quiet_below (by kernel_rfl) (by kernel_rfl) ?_
 iterate 8 (first | go_big_quiet_step (exact H1.out _ _) | quiet_step (exact H1.out _ _))
 refine c0H 38 (.tmp 17) rfl w.heap.size 36 rfl rfl PR _ HLd.out underlying38 rfl ZD ?_
 repeat (first | go_big_quiet_step (exact H2.out _ _) | quiet_step (exact H2.out _ _))
 refine wpQuiet_nil ?_;intro _ hw';obtain ⟨⟨dq,osq⟩,hw''⟩:=hw';subst hw'';have HB2:=hid (a0b B0.out (below_regrown W0 dq osq));clear hc0 H1 H2 HLd;go_wp2;go_ret;exact ⟨rfl,HB2.out⟩
theorem i0p {f:Value} (hx:x.Wf) (h1:x.number=1):Calls prog 98 #[f,st d,.agg (penC x).toArray] w fun e w'=>e = .returned (nu 0)/\Below w.heap.size w w':=by
 have T0:=a0f w (.cells (penC x).toArray 57);have B0:=hid (a0c w (.cells (penC x).toArray 57));have c1:=d0A T0 hx;rw [h1] at c1;clear T0 hx h1;generalize penC x=V at *;go_enter func98,ntmps98;go_wp2;go_ret;exact ⟨rfl,B0.out⟩
theorem i0q (j:JgAt w k p s n) (hx:x.Wf) (hd:d.length <= 140737488351232):Calls prog 98 #[judge k,st d,.agg (penC x).toArray] w fun e w'=>e = .returned (nu (proE s n d x))/\Below w.heap.size w w':=by
 unfold proE;by_cases h1:x.number=1
 ·rw [if_pos h1]
  exact i0p hx h1
 ·rw [if_neg h1]
  exact h0W (by simpa using h1) (by rw [a0e];exact hx.proof) (fun W y hr=>⟨d0z hr hx,d0A hr hx,o0j hr hx⟩) (fun W=>Hist.upto_any d (by omega) x.client W) (fun W hb=>e0N (j.kept hb) x.client 3 (Hist.uptoL d x.client) x.proof hx.proof)
end
open Go Go.RowKit
set_option maxRecDepth 100000
theorem r0k {w:World} {p:Nat} {c nm kd tg cn E E1 E2:Int} {d AT T D2:List UInt8} {b1 eq bg:Bool} {AS V SU SZ:List Value} {J:Nat->World->Prop}
  (HC:Hid (∀ (W:World) (x:Nat),W.heap[x]? = some (.cells V.toArray 57)->W.cell? ⟨x,0,none⟩=some (nu c)/\W.cell? ⟨x,1,none⟩=some (nu nm)/\W.cell? ⟨x,2,none⟩=some (nu kd)/\W.cell? ⟨x,3,none⟩=some (nu tg)/\∀ j u,AS[j]? = some u->W.cell? ⟨x,4 + j,none⟩=some u))
  (ZZ:(prog.info? 40).map (·.zero)=some (some (.agg SZ.toArray))) (OS:Hid (∀ v ∈ SU,v.oneCell' = true)) (ZS:(prog.info? 40).map (·.size)=some SU.length) (LS:SZ.length=SU.length)
  (HB:Hid (∀ W,(Instr.build 40 #[(0,nu nm),(1,nu kd),(2,nu tg)]).run prog W = .ok (.agg SU.toArray) W))
  (HV:Hid (∀ W,Below w.heap.size w W->Calls prog 48 #[pt p 0,nu c,.agg SU.toArray] W fun e w'=>e = .returned (.bool b1)/\Below W.heap.size W w'))
  (hcn:IntKind.i64.wrap (cn + 1)=cn + 1) (HN:Hid (∀ W,Calls prog 51 #[st d,nu c] W fun e w'=>e = .returned (nu cn)/\Below W.heap.size W w')) (hne:(nm == cn + 1)=eq)
  (ZD:(prog.info? 38).map (·.size)=some AS.length) (kJ:∀ k W W',J k W->Below W.heap.size W W'->J k W')
  (HJ:Hid (∀ W,Below w.heap.size w W->Calls prog 27 #[pt p 0] W fun e w'=>e = .returned (.func (.func 53) #[] #[pt W.heap.size 0])/\J W.heap.size w'/\Below W.heap.size W w'))
  (HA:Hid (∀ W,Below w.heap.size w W->Calls prog 97 #[nu c,.agg SU.toArray] W fun e w'=>e = .returned (st AT)/\Below W.heap.size W w'))
  (HG:Hid (∀ W k,J k W->Calls prog 53 #[nu c,nu 1,st AT,.agg AS.toArray,pt k 0] W fun e w'=>e = .returned (nu E1)/\Below W.heap.size W w'))
  (ZV:(prog.info? 57).map (·.size)=some V.length) (HP:Hid (∀ W k,J k W->Calls prog 98 #[.func (.func 53) #[] #[pt k 0],st d,.agg V.toArray] W fun e w'=>e = .returned (nu E2)/\Below W.heap.size W w'))
  (hbg:decide ((512:Int) <= (d.length:Int))=bg)
  (HH:b1=true->Hid (∀ W,Calls prog 30 #[st d,nu c] W fun e w'=>e = .returned (st D2)/\Below W.heap.size W w'))
  (hE1:E1=0 ∨ E1=7) (hE2:E2=0 ∨ E2=7) (h1:Hid (b1=false->T = []/\E=2)) (h2:Hid (b1=true->eq=false->T = []/\E=8)) (h3:Hid (b1=true->eq=true->E1=7->T = []/\E=7))
  (h4:Hid (b1=true->eq=true->E1=0->E2=7->T = []/\E=7)) (h5:Hid (b1=true->eq=true->E1=0->E2=0->bg=true->T = []/\E=11)) (h6:Hid (b1=true->eq=true->E1=0->E2=0->bg=false->T=D2/\E=0)) :
  Calls prog 78 #[pt p 0,st d,.agg V.toArray] w fun e w'=>e = .returned (.tuple #[st T,nu E])/\Below w.heap.size w w':=by
 have T0:=a0f w (.cells V.toArray 57);have B0:=hid (a0c w (.cells V.toArray 57));obtain ⟨a0,a1,a2,a3,a4⟩:=HC.out _ _ T0;have P0:=hid T0;clear T0 a4;have hsz:(⟨d.toArray⟩:ByteArray).size=d.length:=rfl;go_enter func78,ntmps78;go_upto_region 1 with fail
 try simp only [Act.put,List.setIfInBounds_toArray,List.set_cons_zero,List.set_cons_succ]
 generalize w.alloc (.cells V.toArray 57)=W0 at *;have hs0:=B0.out.size;generalize hX:w.heap.size=X at *
 go_upto_region 4 with (first
  | ((with_reducible refine e0e 40 [(0,.tmp 15),(1,.tmp 17),(2,.tmp 19)] ?_ ?_ SU.toArray ?_ ?_);exact rfl;exact rfl;exact (HB.out _))
  | ((with_reducible refine a0G 40 ?_ ?_ SZ.toArray ZZ ?_);exact rfl;exact rfl)
  | ((with_reducible refine a0v 40 (.tmp 8) (.tmp 20) ?_ ?_ ?_ ?_ SU SZ ?_ 40 LS OS.out ZS ?_);exact rfl;iterate 4 exact rfl))
 try simp only [Act.put,List.setIfInBounds_toArray,List.set_cons_zero,List.set_cons_succ]
 have b1:=a0c W0 (.cells SU.toArray 40);have S1:=hid (a0f W0 (.cells SU.toArray 40));have P1:=hid (a0a P0.out b1);have B1:Hid (Below X w (W0.alloc (.cells SU.toArray 40))):=hid (B0.out.trans (b1.mono hs0));clear b1 P0 B0 a0 a1 a2 a3;generalize W0.alloc (.cells SU.toArray 40)=W1 at *;generalize W0.heap.size=q8 at *;obtain ⟨a0,a1,a2,a3,a4⟩:=HC.out _ _ P1.out;clear a2 a3 a4
 go_wp2_with ((with_reducible refine a0d 40 (.tmp 8) ?_ q8 0 ?_ ?_ SU _ (a0k S1.out) underlying40 ?_ ZS ?_);iterate 4 exact rfl)
 refine (HV.out _ B1.out).mono ?_;rintro e W2 ⟨rfl,b2⟩;have hs1:X <= W1.heap.size:=hX ▸ B1.out.size;have B2:Hid (Below X w W2):=hid (B1.out.trans (b2.mono hs1));have S2:=hid (a0a S1.out b2);have P2:=hid (a0a P1.out b2);clear b2 S1 P1 B1 a0 a1
 cases b1
 case false =>
  go_wp2
  go_ret2
  obtain ⟨hT,hE⟩:=h1.out (by trivial);exact ⟨by rw [hT,hE];rfl,hX ▸ B2.out⟩
 go_upto_region 6 with fail
 obtain ⟨a0,a1,a2,a3,a4⟩:=HC.out _ _ P2.out;clear a2 a3 a4;have hc0:∀ dd os,(Sort.grow (redrawn W2 dd) os).cell? ⟨X,0,none⟩=some (nu c):=fun dd os=>cell_regrown a0 _ _;have hc1:∀ dd os,(Sort.grow (redrawn W2 dd) os).cell? ⟨X,1,none⟩=some (nu nm):=fun dd os=>cell_regrown a1 _ _;have H3:=regr (w:=W2) (fun W _=>HN.out W);clear a0 a1;refine wp_region_quiet_below (by kernel_rfl) (by kernel_rfl) ?_
 repeat (first | go_big_quiet_step (exact H3.out _ _) | quiet_step (exact H3.out _ _))
 refine wpQuiet_nil ?_;intro _ hw';obtain ⟨⟨dq,osq⟩,hw''⟩:=hw';subst hw'';have hs2:X <= W2.heap.size:=hX ▸ B2.out.size;have b3:=below_regrown W2 dq osq;have B3:Hid (Below X w (Sort.grow (redrawn W2 dq) osq)):=hid (B2.out.trans (b3.mono hs2));have S3:=hid (a0a S2.out b3);have P3:=hid (a0a P2.out b3);clear hc0 hc1 H3 b3 S2 P2 B2;generalize Sort.grow (redrawn W2 dq) osq=W3 at *
 cases eq
 case false =>
  go_wp2
  go_ret2
  obtain ⟨hT,hE⟩:=h2.out (by trivial) (by trivial);exact ⟨by rw [hT,hE];rfl,hX ▸ B3.out⟩
 go_wp2_with fail
 refine (HJ.out _ B3.out).mono ?_;rintro e W4 ⟨rfl,j4,b4⟩;have hs3:X <= W3.heap.size:=hX ▸ B3.out.size;have B4:Hid (Below X w W4):=hid (B3.out.trans (b4.mono hs3));have S4:=hid (a0a S3.out b4);have P4:=hid (a0a P3.out b4);clear b4 S3 P3 B3;have hs4:X <= W4.heap.size:=hX ▸ B4.out.size;generalize W3.heap.size=k at *;go_upto_region 9 with fail
 obtain ⟨a0,a1,a2,a3,a4⟩:=HC.out _ _ P4.out;clear a1 a2 a3;have hc0:∀ dd os,(Sort.grow (redrawn W4 dd) os).cell? ⟨X,0,none⟩=some (nu c):=fun dd os=>cell_regrown a0 _ _
 have HLd:Hid (∀ w',(∃ q:Regrown,w' = Sort.grow (redrawn W4 q.d) q.os)->∀ j u,AS[j]? = some u->w'.cell? ⟨X,4 + j,none⟩=some u):=by
  rintro w' ⟨q,rfl⟩ j u hj;exact cell_regrown (a4 j u hj) _ _
 have HLs:=hid (d0t W4 q8 SU 40 S4.out);have H1:=regr (w:=W4) (fun W hb=>HA.out W (B4.out.trans (hb.mono hs4)));have H2:=regr (w:=W4) (fun W hb=>HG.out W k (kJ _ _ _ j4 hb));clear a0 a4;refine wp_region_quiet_below (by kernel_rfl) (by kernel_rfl) ?_
 iterate 5 (first | go_big_quiet_step (fail) | quiet_step (fail))
 refine b0k rfl 40 _ rfl q8 rfl SU _ HLs.out underlying40 rfl ZS ?_
 iterate 2 (first | go_big_quiet_step (exact H1.out _ _) | quiet_step (exact H1.out _ _))
 refine c0H 38 (.tmp 44) rfl X 4 rfl rfl AS _ HLd.out underlying38 rfl ZD ?_
 repeat (first | go_big_quiet_step (exact H2.out _ _) | quiet_step (exact H2.out _ _))
 refine wpQuiet_nil ?_;intro _ hw';obtain ⟨⟨dq2,osq2⟩,hw''⟩:=hw';subst hw'';have b5:=below_regrown W4 dq2 osq2;have B5:Hid (Below X w (Sort.grow (redrawn W4 dq2) osq2)):=hid (B4.out.trans (b5.mono hs4));have P5:=hid (a0a P4.out b5);have j5:=kJ _ _ _ j4 b5;clear hc0 HLd HLs H1 H2 b5 S4 P4 B4 j4;generalize Sort.grow (redrawn W4 dq2) osq2=W5 at *;rcases hE1 with rfl | rfl
 case inr =>
  go_wp2
  go_ret2
  obtain ⟨hT,hE⟩:=h3.out (by trivial) (by trivial) (by trivial);exact ⟨by rw [hT,hE];rfl,hX ▸ B5.out⟩
 have hs5:X <= W5.heap.size:=hX ▸ B5.out.size
 go_wp2_with ((with_reducible refine a0d 57 (.tmp 5) ?_ X 0 ?_ ?_ V _ (a0k P5.out) underlying57 ?_ ZV ?_);iterate 4 exact rfl)
 refine (HP.out _ _ j5).mono ?_;rintro e W6 ⟨rfl,b6⟩;have B6:Hid (Below X w W6):=hid (B5.out.trans (b6.mono hs5));have P6:=hid (a0a P5.out b6);clear b6 P5 B5 j5;rcases hE2 with rfl | rfl
 case inr =>
  go_wp2
  go_ret2
  obtain ⟨hT,hE⟩:=h4.out (by trivial) (by trivial) (by trivial) (by trivial);exact ⟨by rw [hT,hE];rfl,hX ▸ B6.out⟩
 cases bg
 case true =>
  go_wp2
  go_ret2
  obtain ⟨hT,hE⟩:=h5.out (by trivial) (by trivial) (by trivial) (by trivial) (by trivial);exact ⟨by rw [hT,hE];rfl,hX ▸ B6.out⟩
 obtain ⟨a0,a1,a2,a3,a4⟩:=HC.out _ _ P6.out;clear a1 a2 a3 a4;have hs6:X <= W6.heap.size:=hX ▸ B6.out.size
 go_wp2_with fail
 refine ((HH (by trivial)).out _).mono ?_;rintro e W7 ⟨rfl,b7⟩;have B7:Hid (Below X w W7):=hid (B6.out.trans (b7.mono hs6));clear b7;go_wp2
 go_ret2
 obtain ⟨hT,hE⟩:=h6.out (by trivial) (by trivial) (by trivial) (by trivial) (by trivial);exact ⟨by rw [hT,hE];rfl,hX ▸ B7.out⟩
open Go Go.RowKit
set_option maxRecDepth 100000
section
variable {w:World} {p n:Nat} {s:List UInt8} {x:Pen} {d:List UInt8}
theorem j0i (W:World) (a b c:Int):(Instr.build 40 #[(0,nu a),(1,nu b),(2,nu c)]).run prog W = .ok (.agg (subC ⟨a,b,c,[],a0n,a0n⟩).toArray) W:=by kernel_rfl
theorem r0l (s:List UInt8) (n:Nat) (c e:Int) (t D:List UInt8):jdg s n c e t D=0 ∨ jdg s n c e t D=7:=by
 unfold jdg
 split
 ·exact .inl rfl
 ·exact .inr rfl
theorem t0b (s:List UInt8) (n:Nat) (d:List UInt8) (x:Pen):proE s n d x=0 ∨ proE s n d x=7:=by
 unfold proE
 split
 ·exact .inl rfl
 ·exact r0l _ _ _ _ _ _
theorem t0c (hx:penOk x):(subM x.client (b0V x)).Rng :=
 ⟨⟨by show (-9223372036854775808:Int) <= 1;decide,by show (1:Int) <= _;decide⟩,hx.client,hx.number,hx.kind,hx.target,a0r,a0r,a0r,a0r,a0r,a0r,(fun n hn=>by cases hn),(fun p hp=>by cases hp)⟩
theorem l0B {c:Int} {y:Sub} (h:vsub n c y=true):hasB n c=true:=by
 unfold vsub at h;rw [Bool.and_eq_true] at h;exact h.1
theorem r0m {c:Int} (h:hasB n c=true):0 <= c/\c < n:=by
 unfold hasB at h;simpa using h
theorem n0Q (h:vsub n x.client (b0V x)=false):c0w s n d x=2:=by unfold c0w;rw [if_pos h]
theorem o0W (h:vsub n x.client (b0V x)=true) (h2:x.number ≠ (Hist.cnt d x.client:Int) + 1):c0w s n d x=8:=by
 unfold c0w;rw [if_neg (by rw [h];decide),if_pos h2]
theorem o0X (h:vsub n x.client (b0V x)=true) (h2:x.number=(Hist.cnt d x.client:Int) + 1) (h3:jdg s n x.client 1 (askB x.client (b0V x)) x.asked=7):c0w s n d x=7:=by
 unfold c0w;rw [if_neg (by rw [h];decide),if_neg (by rw [h2];exact fun e=>e rfl),h3,if_pos (by decide)]
theorem r0n (h:vsub n x.client (b0V x)=true) (h2:x.number=(Hist.cnt d x.client:Int) + 1) (h3:jdg s n x.client 1 (askB x.client (b0V x)) x.asked=0) (h4:proE s n d x=7):c0w s n d x=7:=by
 unfold c0w;rw [if_neg (by rw [h];decide),if_neg (by rw [h2];exact fun e=>e rfl),h3,if_neg (by decide),h4,if_pos (by decide)]
theorem l0C (h:vsub n x.client (b0V x)=true) (h2:x.number=(Hist.cnt d x.client:Int) + 1) (h3:jdg s n x.client 1 (askB x.client (b0V x)) x.asked=0) (h4:proE s n d x=0):c0w s n d x=if 512 <= d.length then 11 else 0:=by
 unfold c0w;rw [if_neg (by rw [h];decide),if_neg (by rw [h2];exact fun e=>e rfl),h3,if_neg (by decide),h4,if_neg (by decide)]
theorem e0g (h:c0w s n d x ≠ 0):stepT s n d x = []:=by unfold stepT;rw [if_neg h]
theorem n0R (h:c0w s n d x=0):stepT s n d x=d++[by8 x.client]:=by unfold stepT;rw [if_pos h]
theorem r0o (r:RgAt w p s n) (hx:penOk x) (hd:d.length <= 140737488351232) :
  Calls prog 78 #[pt p 0,st d,.agg (penC x).toArray] w fun e w'=>e = .returned (.tuple #[st (stepT s n d x),nu (c0w s n d x)])/\Below w.heap.size w w':=by
 have xw:x.Wf:=⟨hx.asked,hx.proof⟩
 have HC:Hid (∀ (W:World) (y:Nat),W.heap[y]? = some (.cells (penC x).toArray 57)->W.cell? ⟨y,0,none⟩=some (nu x.client)/\W.cell? ⟨y,1,none⟩=some (nu x.number)/\W.cell? ⟨y,2,none⟩=some (nu x.kind)/\W.cell? ⟨y,3,none⟩=some (nu x.target)/\∀ j u,(dg x.asked)[j]? = some u->W.cell? ⟨y,4 + j,none⟩=some u) :=
  fun W y h=>⟨d0z h xw,d0A h xw,h0m h xw,f0v h xw,o0i h xw⟩
 have ZV:(prog.info? 57).map (·.size)=some (penC x).length:=by rw [a0K xw];exact sizePen
 have ZD:(prog.info? 38).map (·.size)=some (dg x.asked).length:=by rw [a0e,hx.asked];exact sizeDig
 have sw:=q0J x;have OS:=hid (f0w (b0V x));have ZS:=szSY sw;have LS:(subC c0j).length=(subC (b0V x)).length:=by rw [a0h wfZeroS,a0h sw]
 have HB:=hid (fun W=>j0i W x.number x.kind x.target);have HV:=hid (fun W (hb:Below w.heap.size w W)=>n0I (c:=x.client) (r.kept hb) sw (t0c hx));have HN:=hid (fun W=>Hist.count_any d (l0n hd) x.client W);have hcl:=Hist.cnt_le d x.client;have hcn:=u0F (Hist.cnt d x.client:Int) (by omega) (by omega);have kJ:∀ k W W',JgAt W k p s n->Below W.heap.size W W'->JgAt W' k p s n:=fun k W W' h hb=>h.kept hb;have HJ:=hid (fun W (hb:Below w.heap.size w W)=>h0Q (r.kept hb));have HA:=hid (fun W (hb:Below w.heap.size w W)=>q0h x.client hx.client (b0V x) sw ⟨hx.number,hx.kind,hx.target⟩ W (r.kept hb).tb);have HG:=hid (fun W k (j:JgAt W k p s n)=>e0N j x.client 1 (askB x.client (b0V x)) x.asked hx.asked);have HP:=hid (fun W k (j:JgAt W k p s n)=>i0q j xw hd)
 exact r0k HC zeroSubY OS ZS LS HB HV hcn HN rfl ZD kJ HJ HA HG ZV HP rfl
  (fun h=>by have hc:=r0m (l0B h);exact fun W=>j0f d hd x.client (by have:=r.n8;omega) W) (r0l _ _ _ _ _ _) (t0b _ _ _ _)
  (fun h=>⟨e0g (by rw [n0Q h];decide),n0Q h⟩)
  (fun h h2=>by have e:c0w s n d x=8:=o0W h (by simpa using h2);exact ⟨e0g (by rw [e];decide),e⟩)
  (fun h h2 h3=>by have e:c0w s n d x=7:=o0X h (by simpa using h2) h3;exact ⟨e0g (by rw [e];decide),e⟩)
  (fun h h2 h3 h4=>by have e:c0w s n d x=7:=r0n h (by simpa using h2) h3 h4;exact ⟨e0g (by rw [e];decide),e⟩)
  (fun h h2 h3 h4 h5=>by have e:c0w s n d x=11:=(l0C h (by simpa using h2) h3 h4).trans (if_pos (by have:=of_decide_eq_true h5;omega));exact ⟨e0g (by rw [e];decide),e⟩)
  (fun h h2 h3 h4 h5=>by have e:c0w s n d x=0:=(l0C h (by simpa using h2) h3 h4).trans (if_neg (by have:=of_decide_eq_false h5;omega));exact ⟨n0R e,e⟩)
end
end Go.Proofs.YtagmnmoaekbffaaGreatDoor.Ms
