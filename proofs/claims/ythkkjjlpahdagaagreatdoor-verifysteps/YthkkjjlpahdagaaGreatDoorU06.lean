/-
  Regions that draw their order, where some slots hold what was made on the way (for every program): a law; calls of a function that a slot holds; lists of one-celled values made at once.
-/
import Derived.Test.YthkkjjlpahdagaaGreatDoorS30
import Derived.Orders
import Derived.Test.YthkkjjlpahdagaaGreatDoorU05
import Derived.Test.YthkkjjlpahdagaaGreatDoorS23
import Derived.Test.YthkkjjlpahdagaaGreatDoorTvaw
set_option maxHeartbeats 16000000
namespace Go.Proofs.YthkkjjlpahdagaaGreatDoor.Ms
open Go Go.RowKit
set_option maxRecDepth 100000
section
variable {P:Program} {ops:Array Oper} {Q:Exit→Act→World→Prop} {N:Nat} {a0:Act} {w0:World} {i:Nat} {o:Oper} {S:List Nat} {sp:Nat→Value→World→Prop} {cs:List Value} {J:(Nat→Bool)→World→Prop} {R:World→World→Prop}
def OweP (P:Program) (ops:Array Oper) (Q:Exit→Act→World→Prop) (a0:Act) (S:List Nat) (sp:Nat→Value→World→Prop) (cs:List Value) (J:(Nat→Bool)→World→Prop) (R:World→World→Prop) (i:Nat) (o:Oper):Prop :=
 ∀ L a w,L i=false→(∀ j,waits o j=true→L j=true)→(∀ j oj,ops[j]? = some oj→waits oj i=true→L j=false)→J L w →
  (∀ t,keepOk ops i t=true→a.tmps.getD t undef=a0.tmps.getD t undef)→(∀ j d,waits o j=true→dstOf ops j=some d→vG S sp cs j (a.tmps.getD d undef) w) →
  ∀ K:Act→World→Prop,(∀ v w',(o.dst.isSome=true→vG S sp cs i v w')→R w w'→J (up L i) w'→K (a.put o.dst v) w')→o.wp P a w K Q
theorem wp_region_sp {id:Nat} (S:List Nat) (sp:Nat→Value→World→Prop) (cs:List Value) (J:(Nat→Bool)→World→Prop) (R:World→World→Prop) (ds:(Nat→Value)→List (Nat × Value)) (hf:P.follows .mixedOrders=true) (hok:okMd ops N=true) (hN:a0.tmps.size=N)
  (hds:∀ u:Nat→Value,(List.range ops.size).filterMap (fun i=>(dstOf ops i).map fun d=>(d,if i ∈ S then u i else cs.getD i undef))=ds u)
  (hsp:∀ L L' i v w w',J L w→J L' w'→R w w'→sp i v w→sp i v w')
  (h0:∀ w1,Below w0.heap.size w0 w1→J (fun _=>false) w1)
  (hown:∀ i o,ops[i]? = some o→OweP P ops Q a0 S sp cs J R i o)
  (hend:∀ u L W,(∀ i,i < ops.size→L i=true)→J L W→Q .normal { tmps:=(ds u).foldl (fun B p=>B.setIfInBounds p.1 p.2) a0.tmps,defers:=a0.defers } W) :
  (Code.region id ops true).wp P Q a0 w0:=by
 refine wp_region_md (N:=N) (fun _ i v w=>vG S sp cs i v w) J hf hok hN h0 ?_ ?_
 ·intro i o ho L a w hLi hw hnot hJ hs hk hv
  refine hown i o ho L a w hLi hw hnot hJ hk (fun j d hj hd=>hv j d (hw j hj) hd) _ (fun v w' hv' hR hJ'=>⟨v,rfl,hv',hJ',fun j d hj hd=>?_⟩)
  have h1:vG S sp cs j (a.tmps.getD d undef) w:=hv j d hj hd
  show vG S sp cs j (a.tmps.getD d undef) w'
  unfold vG at h1 ⊢
  by_cases e:j ∈ S
  ·rw [if_pos e] at h1 ⊢
   exact hsp _ _ _ _ _ _ hJ hJ' hR h1
  ·rw [if_neg e] at h1 ⊢
   exact h1
 ·intro L a W hall hJ hs hd hk hv
  obtain ⟨u,hu⟩:∃ u:Nat→Value,∀ i d,dstOf ops i=some d→u i=a.tmps.getD d undef:=⟨fun i=>match dstOf ops i with | some d=>a.tmps.getD d undef | none=>undef,fun i d h=>by simp only [h]⟩
  have e:=frame_of (c:=fun i=>if i ∈ S then u i else cs.getD i undef) (hs.trans hN.symm) hk (fun i d hdi=>by
   have h1:vG S sp cs i (a.tmps.getD d undef) W:=hv i d hdi
   unfold vG at h1
   by_cases hi:i ∈ S
   ·rw [if_pos hi];exact (hu i d hdi).symm
   ·rw [if_neg hi] at h1 ⊢;exact h1)
  have e2:=e.trans (fold_pairs (fun i=>dstOf ops i) (fun i=>if i ∈ S then u i else cs.getD i undef) (List.range ops.size) a0.tmps)
  rw [hds] at e2
  have ea:a = { tmps:=(ds u).foldl (fun B p=>B.setIfInBounds p.1 p.2) a0.tmps,defers:=a0.defers }:=by
   obtain ⟨tm,df⟩:=a
   cases e2
   cases hd
   rfl
  rw [ea]
  exact hend u L W hall hJ
theorem oweP (c:Value) (hi:i ∉ S) (hc:cs.getD i undef=c)
  (H:∀ (L:Nat→Bool) (a:Act) (w:World),L i=false→J L w→(∀ j oj,ops[j]? = some oj→waits oj i=true→L j=false)→(∀ t,keepOk ops i t=true→a.tmps.getD t undef=a0.tmps.getD t undef)→(∀ j d,waits o j=true→j ∉ S→dstOf ops j=some d→a.tmps.getD d undef=cs.getD j undef)→(∀ j d,waits o j=true→j ∈ S→dstOf ops j=some d→sp j (a.tmps.getD d undef) w) →
   ∀ K:Act→World→Prop,(∀ w',R w w'→J (up L i) w'→K (a.put o.dst c) w')→o.wp P a w K Q) :
  OweP P ops Q a0 S sp cs J R i o:=by
 intro L a w hLi hw hnot hJ hk hv K h
 refine H L a w hLi hJ hnot hk (fun j d hj hjs hd=>vG_c (hv j d hj hd) hjs) (fun j d hj hjs hd=>vG_s (hv j d hj hd) hjs) K (fun w' hR hJ'=>h c w' (fun _=>?_) hR hJ')
 unfold vG
 rw [if_neg hi]
 exact hc.symm
theorem oweS (hi:i ∈ S)
  (H:∀ (L:Nat→Bool) (a:Act) (w:World),L i=false→J L w→(∀ j oj,ops[j]? = some oj→waits oj i=true→L j=false)→(∀ t,keepOk ops i t=true→a.tmps.getD t undef=a0.tmps.getD t undef)→(∀ j d,waits o j=true→j ∉ S→dstOf ops j=some d→a.tmps.getD d undef=cs.getD j undef)→(∀ j d,waits o j=true→j ∈ S→dstOf ops j=some d→sp j (a.tmps.getD d undef) w) →
   ∀ K:Act→World→Prop,(∀ v w',sp i v w'→R w w'→J (up L i) w'→K (a.put o.dst v) w')→o.wp P a w K Q) :
  OweP P ops Q a0 S sp cs J R i o:=by
 intro L a w hLi hw hnot hJ hk hv K h
 refine H L a w hLi hJ hnot hk (fun j d hj hjs hd=>vG_c (hv j d hj hd) hjs) (fun j d hj hjs hd=>vG_s (hv j d hj hd) hjs) K (fun v w' hs hR hJ'=>h v w' (fun _=>?_) hR hJ')
 unfold vG
 rw [if_pos hi]
 exact hs
end
open Go Go.RowKit
set_option maxRecDepth 100000
section
variable {w:World} {x n:Nat} {s:List UInt8} {v:Value} {L:List Ent}
theorem ris_any (r:Go.Proofs.YthkkjjlpahdagaaGreatDoor.RefAt w x s n v L) (c:Int):Calls Tryz.prog 22 #[pt x 0,nu c] w fun e w'=>e = .returned (.bool (hasB n c))∧w' = w:=by
 have c1:=r.c1
 unfold hasB
 clear r
 by_cases h:0 ≤ c
 ·have d1:decide (0 ≤ c)=true:=decide_eq_true h
  rw [d1,Bool.true_and]
  clear h
  go_enter Tryz.func22,Tryz.ntmps22
  go_wp2
  go_ret
  exact ⟨rfl,rfl⟩
 ·have d1:decide (0 ≤ c)=false:=decide_eq_false h
  rw [d1,Bool.false_and]
  clear h
  go_enter Tryz.func22,Tryz.ntmps22
  go_wp2
  go_ret
  exact ⟨rfl,rfl⟩
theorem rcheck_any (r:Go.Proofs.YthkkjjlpahdagaaGreatDoor.RefAt w x s n v L) (hs:s.length ≤ 64) {c e:Int} {t D:List UInt8} (hc:I64 c) (he:I64 e) (ht:t.length ≤ 140737488351232) (hD:D.length=32) :
  Calls Tryz.prog 51 #[pt x 0,.agg #[nu c,nu e,st t],.agg (dg D).toArray] w fun e1 w'=>e1 = .returned (.bool (chkB s n c e t D))∧Below w.heap.size w w':=by
 unfold chkB
 by_cases h:May n (c,e,t)
 ·rw [decide_eq_true h,Bool.true_and]
  exact rcheck_yes r hs c e t D hc he ht hD h
 ·rw [decide_eq_false h,Bool.false_and]
  exact rcheck_no r c e t D h
theorem rtagged_core {c e:Int} {t:List UInt8} {B:Bool} {V:List Value} (ZV:(Tryz.prog.info? 23).map (·.size)=some V.length)
  (HC:Hid (∀ W,Below w.heap.size w W→Calls Tryz.prog 51 #[pt x 0,.agg #[nu c,nu e,st t],.agg V.toArray] W fun e1 w'=>e1 = .returned (.bool B)∧Below W.heap.size W w')) :
  Calls Tryz.prog 24 #[pt x 0,nu c,nu e,st t,.agg V.toArray] w fun e1 w'=>e1 = .returned (.bool B)∧Below w.heap.size w w':=by
 have T0:=hid (top_obj w (.cells V.toArray 23))
 have B0:=hid (below_a1 w (.cells V.toArray 23))
 go_enter Tryz.func24,Tryz.ntmps24
 go_upto_region 1 with fail
 try simp only [Act.put,List.setIfInBounds_toArray,List.set_cons_zero,List.set_cons_succ]
 generalize w.alloc (.cells V.toArray 23)=W0 at *
 have hs0:=B0.out.size
 generalize hX:w.heap.size=X at *
 go_wp2_with ((with_reducible refine wl_load 23 (.tmp 9) ?_ X 0 ?_ ?_ V _ (row_zeroY T0.out) Tryz.underlying23 ?_ ZV ?_);iterate 4 exact rfl)
 refine (HC.out _ B0.out).mono ?_
 rintro e W1 ⟨rfl,b1⟩
 have B1:Hid (Below X w W1):=hid (B0.out.trans (b1.mono hs0))
 clear b1 T0 B0
 go_wp2
 go_ret
 exact ⟨rfl,hX ▸ B1.out⟩
theorem rtagged_any (r:Go.Proofs.YthkkjjlpahdagaaGreatDoor.RefAt w x s n v L) (hs:s.length ≤ 64) {c e:Int} {t D:List UInt8} (hc:I64 c) (he:I64 e) (ht:t.length ≤ 140737488351232) (hD:D.length=32) :
  Calls Tryz.prog 24 #[pt x 0,nu c,nu e,st t,.agg (dg D).toArray] w fun e1 w'=>e1 = .returned (.bool (chkB s n c e t D))∧Below w.heap.size w w' :=
 rtagged_core (by rw [dg_len,hD];exact sizeDig) (fun _ hb=>rcheck_any (r.kept hb) hs hc he ht hD)
end
open Go Go.RowKit
set_option maxRecDepth 100000
theorem op_notB14 {P:Program} {o:Oper} {a:Act} {w:World} {Q:Exit→Act→World→Prop} {K:Act→World→Prop} (x:Tmp) (T:TypeId) (b:Bool) (ho:o.op = .unOp .not T (.tmp x)) (hx:a.tmps.getD x undef = .bool b) (h:K (a.put o.dst (.bool (!b))) w):o.wp P a w K Q:=by
 have ex:a.eval (.tmp x) = .bool b:=hx
 unfold Oper.wp execOp
 simp [ho,ex,Op.unary]
 exact h
theorem rstep_core {w:World} {x:Nat} {c nm kd tg cn E:Int} {d AT UP T D2:List UInt8} {b1 b2 q1 q2 q3 q4 eq e1 gt e2 bg:Bool} {AS PR V:List Value}
  (HC:Hid (∀ (W:World) (y:Nat),W.heap[y]? = some (.cells V.toArray 25)→W.cell? ⟨y,0,none⟩=some (nu c)∧W.cell? ⟨y,1,none⟩=some (nu nm)∧W.cell? ⟨y,2,none⟩=some (nu kd)∧W.cell? ⟨y,3,none⟩=some (nu tg)∧(∀ j u,AS[j]? = some u→W.cell? ⟨y,4 + j,none⟩=some u)∧∀ j u,PR[j]? = some u→W.cell? ⟨y,36 + j,none⟩=some u))
  (HI1:Hid (∀ W,Below w.heap.size w W→Calls Tryz.prog 22 #[pt x 0,nu c] W fun e w'=>e = .returned (.bool b1)∧w' = W))
  (HI2:Hid (∀ W,Below w.heap.size w W→Calls Tryz.prog 22 #[pt x 0,nu tg] W fun e w'=>e = .returned (.bool b2)∧w' = W))
  (hq1:decide (nm < (1:Int))=q1)
  (hq2:decide ((512:Int) < nm)=q2)
  (hq3:decide (kd < (1:Int))=q3)
  (hq4:decide ((2:Int) < kd)=q4)
  (hcn:IntKind.i64.wrap (cn + 1)=cn + 1) (HN:Hid (∀ W,Calls Tryz.prog 23 #[st d,nu c] W fun e w'=>e = .returned (nu cn)∧Below W.heap.size W w')) (hne:(cn + 1 == nm)=eq)
  (ZD:(Tryz.prog.info? 23).map (·.size)=some AS.length)
  (HI:Hid (∀ W v,IntsAt W v [c,nm,kd,tg]→Calls Tryz.prog 25 #[v] W fun e w'=>e = .returned (st AT)∧Below W.heap.size W w'))
  (HT1:Hid (∀ W,Below w.heap.size w W→Calls Tryz.prog 24 #[pt x 0,nu c,nu 1,st AT,.agg AS.toArray] W fun e w'=>e = .returned (.bool e1)∧Below W.heap.size W w'))
  (hgt:decide ((1:Int) < nm)=gt)
  (ZE:(Tryz.prog.info? 23).map (·.size)=some PR.length)
  (HU:Hid (∀ W,Calls Tryz.prog 26 #[st d,nu c] W fun e w'=>e = .returned (st UP)∧Below W.heap.size W w'))
  (HT3:Hid (∀ W,Below w.heap.size w W→Calls Tryz.prog 24 #[pt x 0,nu c,nu 3,st UP,.agg PR.toArray] W fun e w'=>e = .returned (.bool e2)∧Below W.heap.size W w'))
  (hbg:decide ((512:Int) ≤ (d.length:Int))=bg)
  (HH:Hid ((b1 && (b2 && (!q1 && (!q2 && (!q3 && !q4)))))=true→∀ W,Calls Tryz.prog 27 #[st d,nu c] W fun e w'=>e = .returned (st D2)∧Below W.heap.size W w'))
  (h1:Hid ((b1 && (b2 && (!q1 && (!q2 && (!q3 && !q4)))))=false→T = []∧E=2)) (h2:Hid ((b1 && (b2 && (!q1 && (!q2 && (!q3 && !q4)))))=true→eq=false→T = []∧E=8)) (h3:Hid ((b1 && (b2 && (!q1 && (!q2 && (!q3 && !q4)))))=true→eq=true→e1=false→T = []∧E=7)) (h4:Hid ((b1 && (b2 && (!q1 && (!q2 && (!q3 && !q4)))))=true→eq=true→e1=true→gt=true→e2=false→T = []∧E=7))
  (h5:Hid ((b1 && (b2 && (!q1 && (!q2 && (!q3 && !q4)))))=true→eq=true→e1=true→(gt=false ∨ e2=true)→bg=true→T = []∧E=11)) (h6:Hid ((b1 && (b2 && (!q1 && (!q2 && (!q3 && !q4)))))=true→eq=true→e1=true→(gt=false ∨ e2=true)→bg=false→T=D2∧E=0)) :
  Calls Tryz.prog 9 #[pt x 0,st d,.agg V.toArray] w fun e w'=>e = .returned (.tuple #[st T,nu E])∧Below w.heap.size w w':=by
 have T0:=top_obj w (.cells V.toArray 25)
 have B0:=hid (below_a1 w (.cells V.toArray 25))
 obtain ⟨a0,a1,a2,a3,a4,a5⟩:=HC.out _ _ T0
 have P0:=hid T0
 clear T0 a4 a5
 have hsz:(⟨d.toArray⟩:ByteArray).size=d.length:=rfl
 go_enter Tryz.func9,Tryz.ntmps9
 go_upto_region 1 with fail
 try simp only [Act.put,List.setIfInBounds_toArray,List.set_cons_zero,List.set_cons_succ]
 generalize w.alloc (.cells V.toArray 25)=W0 at *
 have hs0:=B0.out.size
 generalize hX:w.heap.size=X at *
 go_wp2_with fail
 refine (HI1.out _ B0.out).mono ?_
 rintro e w1 ⟨rfl,hw1⟩
 subst w1
 cases b1
 case false =>
  go_wp2
  go_ret2
  obtain ⟨hT,hE⟩:=h1.out (by rfl)
  exact ⟨by rw [hT,hE];rfl,hX ▸ B0.out⟩
 go_wp2_with fail
 refine (HI2.out _ B0.out).mono ?_
 rintro e w1 ⟨rfl,hw1⟩
 subst w1
 cases b2
 case false =>
  go_wp2
  go_ret2
  obtain ⟨hT,hE⟩:=h1.out (by rfl)
  exact ⟨by rw [hT,hE];rfl,hX ▸ B0.out⟩
 cases q1
 case true =>
  go_wp2
  go_ret2
  obtain ⟨hT,hE⟩:=h1.out (by rfl)
  exact ⟨by rw [hT,hE];rfl,hX ▸ B0.out⟩
 cases q2
 case true =>
  go_wp2
  go_ret2
  obtain ⟨hT,hE⟩:=h1.out (by rfl)
  exact ⟨by rw [hT,hE];rfl,hX ▸ B0.out⟩
 cases q3
 case true =>
  go_wp2
  go_ret2
  obtain ⟨hT,hE⟩:=h1.out (by rfl)
  exact ⟨by rw [hT,hE];rfl,hX ▸ B0.out⟩
 cases q4
 case true =>
  go_wp2
  go_ret2
  obtain ⟨hT,hE⟩:=h1.out (by rfl)
  exact ⟨by rw [hT,hE];rfl,hX ▸ B0.out⟩
 go_upto_region 3 with fail
 clear a0 a1 a2 a3
 obtain ⟨a0,a1,a2,a3,a4,a5⟩:=HC.out _ _ P0.out
 clear a2 a3 a4 a5
 have hc0:∀ dd os,(Sort.grow (redrawn W0 dd) os).cell? ⟨X,0,none⟩=some (nu c):=fun dd os=>cell_regrown a0 _ _
 have hc1:∀ dd os,(Sort.grow (redrawn W0 dd) os).cell? ⟨X,1,none⟩=some (nu nm):=fun dd os=>cell_regrown a1 _ _
 have H3:=regr (w:=W0) (fun W _=>HN.out W)
 clear a0 a1
 refine wp_region_quiet_below (by kernel_rfl) (by kernel_rfl) ?_
 repeat (first | go_big_quiet_step (exact H3.out _ _) | quiet_step (exact H3.out _ _))
 refine wpQuiet_nil ?_
 intro _ hw'
 obtain ⟨⟨dq,osq⟩,hw''⟩:=hw'
 subst hw''
 have b3:=below_regrown W0 dq osq
 have B3:Hid (Below X w (Sort.grow (redrawn W0 dq) osq)):=hid (B0.out.trans (b3.mono hs0))
 have P3:=hid (row_kept P0.out b3)
 clear hc0 hc1 H3 b3 P0 B0
 generalize Sort.grow (redrawn W0 dq) osq=W3 at *
 have hs3:X ≤ W3.heap.size:=hX ▸ B3.out.size
 cases eq
 case false =>
  go_wp2
  go_ret2
  obtain ⟨hT,hE⟩:=h2.out (by rfl) (by trivial)
  exact ⟨by rw [hT,hE];rfl,hX ▸ B3.out⟩
 go_upto_region 5 with fail
 try simp only [Act.put,List.setIfInBounds_toArray,List.set_cons_zero,List.set_cons_succ]
 refine wp_region_sp (N:=88) [11] (fun i v w=>match i with | 11=>IntsAt w v [c,nm,kd,tg] | _=>True) [(pt x 0),(pt X 0),(nu c),(pt X 0),(nu c),(pt X 1),(nu nm),(pt X 2),(nu kd),(pt X 3),(nu tg),undef,(st AT),(pt X 4),(.agg (AS).toArray),(.bool e1),(.bool (!e1))] (fun _ W=>Below W3.heap.size W3 W) (fun w w1=>Below w.heap.size w w1) (fun u=>[(48,(pt x 0)),(49,(pt X 0)),(50,(nu c)),(51,(pt X 0)),(52,(nu c)),(53,(pt X 1)),(54,(nu nm)),(55,(pt X 2)),(56,(nu kd)),(57,(pt X 3)),(58,(nu tg)),(59,u 11),(60,(st AT)),(61,(pt X 4)),(62,(.agg (AS).toArray)),(63,(.bool e1)),(64,(.bool (!e1)))]) (by kernel_rfl) (by kernel_rfl) rfl (fun u=>by kernel_rfl) ?_ (fun w1 hb=>hb) ?_ ?_
 ·intro L L' i v w w' hJ _ hR h
  match i,h with
  | 11,h=>exact IntsAt.kept h hR
  | 0,_ | 1,_ | 2,_ | 3,_ | 4,_ | 5,_ | 6,_ | 7,_ | 8,_ | 9,_ | 10,_=>trivial
  | (i + 12),_=>trivial
 ·intro i o ho
  match i,ho with
  | 0,ho=>cases ho;exact oweP (pt x 0) (by decide) rfl (fun L a w hLi hJ hnot hk hv hS K h=>op_move 0 _ rfl (hk 0 (by kernel_rfl)) (h _ (Below.refl _ _) hJ))
  | 1,ho=>cases ho;exact oweP (pt X 0) (by decide) rfl (fun L a w hLi hJ hnot hk hv hS K h=>op_fa 5 _ 0 X 0 0 rfl (fun W=>by kernel_rfl) (hk 5 (by kernel_rfl)) (h _ (Below.refl _ _) hJ))
  | 2,ho=>cases ho;exact oweP (nu c) (by decide) rfl (fun L a w hLi hJ hnot hk hv hS K h=>op_load1 _ (.tmp 49) rfl X 0 (hv 1 49 (by kernel_rfl) (by decide) (by kernel_rfl)) (nu c) _ (HC.out _ _ (row_kept P3.out hJ)).1 Tryz.underlying3 rfl (h _ (Below.refl _ _) hJ))
  | 3,ho=>cases ho;exact oweP (pt X 0) (by decide) rfl (fun L a w hLi hJ hnot hk hv hS K h=>op_fa 5 _ 0 X 0 0 rfl (fun W=>by kernel_rfl) (hk 5 (by kernel_rfl)) (h _ (Below.refl _ _) hJ))
  | 4,ho=>cases ho;exact oweP (nu c) (by decide) rfl (fun L a w hLi hJ hnot hk hv hS K h=>op_load1 _ (.tmp 51) rfl X 0 (hv 3 51 (by kernel_rfl) (by decide) (by kernel_rfl)) (nu c) _ (HC.out _ _ (row_kept P3.out hJ)).1 Tryz.underlying3 rfl (h _ (Below.refl _ _) hJ))
  | 5,ho=>cases ho;exact oweP (pt X 1) (by decide) rfl (fun L a w hLi hJ hnot hk hv hS K h=>op_fa 5 _ 1 X 0 1 rfl (fun W=>by kernel_rfl) (hk 5 (by kernel_rfl)) (h _ (Below.refl _ _) hJ))
  | 6,ho=>cases ho;exact oweP (nu nm) (by decide) rfl (fun L a w hLi hJ hnot hk hv hS K h=>op_load1 _ (.tmp 53) rfl X 1 (hv 5 53 (by kernel_rfl) (by decide) (by kernel_rfl)) (nu nm) _ (HC.out _ _ (row_kept P3.out hJ)).2.1 Tryz.underlying3 rfl (h _ (Below.refl _ _) hJ))
  | 7,ho=>cases ho;exact oweP (pt X 2) (by decide) rfl (fun L a w hLi hJ hnot hk hv hS K h=>op_fa 5 _ 2 X 0 2 rfl (fun W=>by kernel_rfl) (hk 5 (by kernel_rfl)) (h _ (Below.refl _ _) hJ))
  | 8,ho=>cases ho;exact oweP (nu kd) (by decide) rfl (fun L a w hLi hJ hnot hk hv hS K h=>op_load1 _ (.tmp 55) rfl X 2 (hv 7 55 (by kernel_rfl) (by decide) (by kernel_rfl)) (nu kd) _ (HC.out _ _ (row_kept P3.out hJ)).2.2.1 Tryz.underlying3 rfl (h _ (Below.refl _ _) hJ))
  | 9,ho=>cases ho;exact oweP (pt X 3) (by decide) rfl (fun L a w hLi hJ hnot hk hv hS K h=>op_fa 5 _ 3 X 0 3 rfl (fun W=>by kernel_rfl) (hk 5 (by kernel_rfl)) (h _ (Below.refl _ _) hJ))
  | 10,ho=>cases ho;exact oweP (nu tg) (by decide) rfl (fun L a w hLi hJ hnot hk hv hS K h=>op_load1 _ (.tmp 57) rfl X 3 (hv 9 57 (by kernel_rfl) (by decide) (by kernel_rfl)) (nu tg) _ (HC.out _ _ (row_kept P3.out hJ)).2.2.2.1 Tryz.underlying3 rfl (h _ (Below.refl _ _) hJ))
  | 11,ho=>cases ho;exact oweS (by decide) (fun L a w hLi hJ hnot hk hv hS K h=>op_bs4 81 52 54 56 58 rfl Tryz.underlying81 8 info3 c nm kd tg (hv 4 52 (by kernel_rfl) (by decide) (by kernel_rfl)) (hv 6 54 (by kernel_rfl) (by decide) (by kernel_rfl)) (hv 8 56 (by kernel_rfl) (by decide) (by kernel_rfl)) (hv 10 58 (by kernel_rfl) (by decide) (by kernel_rfl)) (h _ _ (ints_of w [c,nm,kd,tg] 4 rfl) (below_a1 _ _) (hJ.trans ((below_a1 _ _).mono hJ.size))))
  | 12,ho=>cases ho;exact oweP (st AT) (by decide) rfl (fun L a w hLi hJ hnot hk hv hS K h=>op_call 25 [.tmp 59] _ #[a.tmps.getD 59 undef] (st AT) rfl (fun _ _=>by kernel_rfl) rfl (J:=fun w1=>Below w.heap.size w w1) (HI.out _ _ (hS 11 59 (by kernel_rfl) (by decide) (by kernel_rfl))) (fun w1 e1=>h _ e1 (hJ.trans (e1.mono hJ.size))))
  | 13,ho=>cases ho;exact oweP (pt X 4) (by decide) rfl (fun L a w hLi hJ hnot hk hv hS K h=>op_fa 5 _ 4 X 0 4 rfl (fun W=>by kernel_rfl) (hk 5 (by kernel_rfl)) (h _ (Below.refl _ _) hJ))
  | 14,ho=>cases ho;exact oweP (.agg (AS).toArray) (by decide) rfl (fun L a w hLi hJ hnot hk hv hS K h=>op_load _ (.tmp 61) rfl X 4 (hv 13 61 (by kernel_rfl) (by decide) (by kernel_rfl)) (AS) _ (HC.out _ _ (row_kept P3.out hJ)).2.2.2.2.1 Tryz.underlying23 rfl ZD (h _ (Below.refl _ _) hJ))
  | 15,ho=>cases ho;exact oweP (.bool e1) (by decide) rfl (fun L a w hLi hJ hnot hk hv hS K h=>op_call 24 [.tmp 48,.tmp 50,.const (nu (1)),.tmp 60,.tmp 62] _ #[(pt x 0),(nu c),(nu (1)),(st AT),(.agg (AS).toArray)] (.bool e1) rfl (fun _ _=>by kernel_rfl) (args5 (hv 0 48 (by kernel_rfl) (by decide) (by kernel_rfl)) (hv 2 50 (by kernel_rfl) (by decide) (by kernel_rfl)) rfl (hv 12 60 (by kernel_rfl) (by decide) (by kernel_rfl)) (hv 14 62 (by kernel_rfl) (by decide) (by kernel_rfl))) (J:=fun w1=>Below w.heap.size w w1) (HT1.out w (B3.out.trans (hJ.mono hs3))) (fun w1 e1=>h _ e1 (hJ.trans (e1.mono hJ.size))))
  | 16,ho=>cases ho;exact oweP (.bool (!e1)) (by decide) rfl (fun L a w hLi hJ hnot hk hv hS K h=>op_notB14 63 _ e1 rfl (hv 15 63 (by kernel_rfl) (by decide) (by kernel_rfl)) (h _ (Below.refl _ _) hJ))
  | (i + 17),ho=>exact absurd ho (by simp)
 intro u L W5 hall hJ
 simp only [List.foldl_cons,List.foldl_nil,List.setIfInBounds_toArray,List.set_cons_zero,List.set_cons_succ]
 generalize u 11=u11
 have B5:Hid (Below X w W5):=hid (B3.out.trans (hJ.mono hs3))
 have P5:=hid (row_kept P3.out hJ)
 clear hJ hall P3 B3
 have hs5:X ≤ W5.heap.size:=hX ▸ B5.out.size
 cases e1
 case false =>
  go_wp2
  go_ret2
  obtain ⟨hT,hE⟩:=h3.out (by rfl) (by trivial) (by trivial)
  exact ⟨by rw [hT,hE];rfl,hX ▸ B5.out⟩
 go_upto_region 7 with fail
 obtain ⟨a0,a1,a2,a3,a4,a5⟩:=HC.out _ _ P5.out
 clear a2 a3 a4
 have hc0:∀ dd os,(Sort.grow (redrawn W5 dd) os).cell? ⟨X,0,none⟩=some (nu c):=fun dd os=>cell_regrown a0 _ _
 have hc1:∀ dd os,(Sort.grow (redrawn W5 dd) os).cell? ⟨X,1,none⟩=some (nu nm):=fun dd os=>cell_regrown a1 _ _
 have HLd:Hid (∀ w',(∃ q:Regrown,w' = Sort.grow (redrawn W5 q.d) q.os)→∀ j u,PR[j]? = some u→w'.cell? ⟨X,36 + j,none⟩=some u):=by
  rintro w' ⟨q,rfl⟩ j u hj
  exact cell_regrown (a5 j u hj) _ _
 have H1:=regr (w:=W5) (fun W _=>HU.out W)
 have H2:=regr (w:=W5) (fun W hb=>HT3.out W (B5.out.trans (hb.mono hs5)))
 clear a0 a1 a5
 cases gt
 case false =>
  refine wp_region_quiet_below (by kernel_rfl) (by kernel_rfl) ?_
  repeat (first | go_big_quiet_step (fail) | quiet_step (fail))
  refine wpQuiet_nil ?_
  intro _ hw'
  obtain ⟨⟨dq2,osq2⟩,hw''⟩:=hw'
  subst hw''
  have b6:=below_regrown W5 dq2 osq2
  have B6:Hid (Below X w (Sort.grow (redrawn W5 dq2) osq2)):=hid (B5.out.trans (b6.mono hs5))
  have P6:=hid (row_kept P5.out b6)
  clear hc0 hc1 H1 H2 HLd b6 P5 B5
  generalize Sort.grow (redrawn W5 dq2) osq2=W6 at *
  cases bg
  case true =>
   go_wp2
   go_ret2
   obtain ⟨hT,hE⟩:=h5.out (by rfl) (by trivial) (by trivial) (.inl (by trivial)) (by trivial)
   exact ⟨by rw [hT,hE];rfl,hX ▸ B6.out⟩
  obtain ⟨a0,a1,a2,a3,a4,a5⟩:=HC.out _ _ P6.out
  clear a1 a2 a3 a4 a5
  have hs6:X ≤ W6.heap.size:=hX ▸ B6.out.size
  have HH1:=HH.out (by rfl)
  go_wp2_with fail
  refine (HH1 _).mono ?_
  rintro e W7 ⟨rfl,b7⟩
  have B7:Hid (Below X w W7):=hid (B6.out.trans (b7.mono hs6))
  clear b7
  go_wp2
  go_ret2
  obtain ⟨hT,hE⟩:=h6.out (by rfl) (by trivial) (by trivial) (.inl (by trivial)) (by trivial)
  exact ⟨by rw [hT,hE];rfl,hX ▸ B7.out⟩
 case true =>
  refine wp_region_quiet_below (by kernel_rfl) (by kernel_rfl) ?_
  iterate 12 (first | go_big_quiet_step (exact H1.out _ _) | quiet_step (exact H1.out _ _))
  refine wq_load 23 (.tmp 76) rfl X 36 rfl rfl PR _ HLd.out Tryz.underlying23 rfl ZE ?_
  repeat (first | go_big_quiet_step (exact H2.out _ _) | quiet_step (exact H2.out _ _))
  refine wpQuiet_nil ?_
  intro _ hw'
  obtain ⟨⟨dq2,osq2⟩,hw''⟩:=hw'
  subst hw''
  have b6:=below_regrown W5 dq2 osq2
  have B6:Hid (Below X w (Sort.grow (redrawn W5 dq2) osq2)):=hid (B5.out.trans (b6.mono hs5))
  have P6:=hid (row_kept P5.out b6)
  clear hc0 hc1 H1 H2 HLd b6 P5 B5
  generalize Sort.grow (redrawn W5 dq2) osq2=W6 at *
  cases e2
  case false =>
   go_wp2
   go_ret2
   obtain ⟨hT,hE⟩:=h4.out (by rfl) (by trivial) (by trivial) (by trivial) (by trivial)
   exact ⟨by rw [hT,hE];rfl,hX ▸ B6.out⟩
  cases bg
  case true =>
   go_wp2
   go_ret2
   obtain ⟨hT,hE⟩:=h5.out (by rfl) (by trivial) (by trivial) (.inr (by trivial)) (by trivial)
   exact ⟨by rw [hT,hE];rfl,hX ▸ B6.out⟩
  obtain ⟨a0,a1,a2,a3,a4,a5⟩:=HC.out _ _ P6.out
  clear a1 a2 a3 a4 a5
  have hs6:X ≤ W6.heap.size:=hX ▸ B6.out.size
  have HH1:=HH.out (by rfl)
  go_wp2_with fail
  refine (HH1 _).mono ?_
  rintro e W7 ⟨rfl,b7⟩
  have B7:Hid (Below X w W7):=hid (B6.out.trans (b7.mono hs6))
  clear b7
  go_wp2
  go_ret2
  obtain ⟨hT,hE⟩:=h6.out (by rfl) (by trivial) (by trivial) (.inr (by trivial)) (by trivial)
  exact ⟨by rw [hT,hE];rfl,hX ▸ B7.out⟩
open Go Go.RowKit
set_option maxRecDepth 100000
section
variable {w:World} {x n:Nat} {s:List UInt8} {v:Value} {L:List Ent} {P:Pen} {d:List UInt8}
def pen4 (P:Pen):Bool:=!decide (P.number < 1) && (!decide (512 < P.number) && (!decide (P.kind < 1) && !decide (2 < P.kind)))
theorem vsub_pen (n8:n ≤ 8) (P:Pen):vsub n P.client (penSub P)=(hasB n P.client && (hasB n P.target && pen4 P)):=by
 unfold vsub
 rw [sub_may]
 show (hasB n P.client && (hasB n P.target && (inB P.client 0 7 && (asksB P.number P.kind P.target && decide (0 ≤ 256)))))=_
 rw [Bool.eq_iff_iff]
 simp only [hasB,asksB,inB,pen4,Bool.and_eq_true,decide_eq_true_eq,Bool.not_eq_true',decide_eq_false_iff_not]
 refine ⟨fun h=>?_,fun h=>?_⟩
 ·obtain ⟨⟨h1,h2⟩,⟨h3,h4⟩,⟨h5,h6⟩,⟨⟨h7,h8⟩,⟨h9,ha⟩,hb,hc⟩,-⟩:=h
  refine ⟨⟨h1,h2⟩,⟨h3,h4⟩,?_,?_,?_,?_⟩ <;> omega
 ·obtain ⟨⟨h1,h2⟩,⟨h3,h4⟩,h5,h6,h7,h8⟩:=h
  refine ⟨⟨h1,h2⟩,⟨h3,h4⟩,⟨?_,?_⟩,⟨⟨?_,?_⟩,⟨?_,?_⟩,?_,?_⟩,?_⟩ <;> first | trivial | omega
theorem upto_le (d:List UInt8) (c:Int):(Hist.uptoL d c).length ≤ d.length:=by
 unfold Hist.uptoL
 rw [List.length_take]
 exact Nat.min_le_right _ _
theorem rstep_any (r:Go.Proofs.YthkkjjlpahdagaaGreatDoor.RefAt w x s n v L) (n8:n ≤ 8) (hs:s.length ≤ 64) (hx:penOk P) (hd:d.length ≤ 140737488351232) :
  Calls Tryz.prog 9 #[pt x 0,st d,.agg (penC P).toArray] w fun e w'=>e = .returned (.tuple #[st (stepT s n d P),nu (stepE s n d P)])∧Below w.heap.size w w':=by
 have xw:P.Wf:=⟨hx.asked,hx.proof⟩
 have HC:Hid (∀ (W:World) (y:Nat),W.heap[y]? = some (.cells (penC P).toArray 25)→W.cell? ⟨y,0,none⟩=some (nu P.client)∧W.cell? ⟨y,1,none⟩=some (nu P.number)∧W.cell? ⟨y,2,none⟩=some (nu P.kind)∧W.cell? ⟨y,3,none⟩=some (nu P.target)∧(∀ j u,(dg P.asked)[j]? = some u→W.cell? ⟨y,4 + j,none⟩=some u)∧∀ j u,(dg P.proof)[j]? = some u→W.cell? ⟨y,36 + j,none⟩=some u) :=
  fun W y h=>⟨prow_client h xw,prow_number h xw,prow_kind h xw,prow_target h xw,prow_asked h xw,prow_proof h xw⟩
 have ZD:(Tryz.prog.info? 23).map (·.size)=some (dg P.asked).length:=by rw [dg_len,hx.asked];exact sizeDig
 have ZE:(Tryz.prog.info? 23).map (·.size)=some (dg P.proof).length:=by rw [dg_len,hx.proof];exact sizeDig
 have hI:∀ k ∈ [P.client,P.number,P.kind,P.target],I64 k:=by
  intro k hk
  simp only [List.mem_cons,List.not_mem_nil,or_false] at hk
  rcases hk with rfl | rfl | rfl | rfl
  ·exact hx.client
  ·exact hx.number
  ·exact hx.kind
  ·exact hx.target
 have hA:intsB [P.client,P.number,P.kind,P.target]=askB P.client (penSub P):=askB_ints P.client (penSub P)
 have lA:=intsB_len _ hI
 rw [hA] at lA
 simp only [List.length_cons,List.length_nil] at lA
 have lU:=upto_le d P.client
 have HI1:=hid (fun W (hb:Below w.heap.size w W)=>ris_any (r.kept hb) P.client)
 have HI2:=hid (fun W (hb:Below w.heap.size w W)=>ris_any (r.kept hb) P.target)
 have hcl:=Hist.cnt_le d P.client
 have hcn:=wrap1 (Hist.cnt d P.client:Int) (by omega) (by omega)
 have HN:Hid (∀ W,Calls Tryz.prog 23 #[st d,nu P.client] W fun e w'=>e = .returned (nu (Hist.cnt d P.client:Int))∧Below W.heap.size W w'):=fun W=>(Hist.rcount_any d (i64_le hd) P.client W).mono (fun _ _ h=>⟨h.1,by rw [h.2];exact Below.refl _ _⟩)
 have HU:Hid (∀ W,Calls Tryz.prog 26 #[st d,nu P.client] W fun e w'=>e = .returned (st (Hist.uptoL d P.client))∧Below W.heap.size W w'):=fun W=>(Hist.rupto_any d (i64_le hd) P.client W).mono (fun _ _ h=>⟨h.1,by rw [h.2];exact Below.refl _ _⟩)
 have HI:Hid (∀ W u,IntsAt W u [P.client,P.number,P.kind,P.target]→Calls Tryz.prog 25 #[u] W fun e w'=>e = .returned (st (askB P.client (penSub P)))∧Below W.heap.size W w'):=fun W u hu=>by
  have h:=rnints_any numOk hu hI (by simp)
  rw [hA] at h
  exact h
 have i1:I64 1:=⟨by decide,by decide⟩
 have i3:I64 3:=⟨by decide,by decide⟩
 have HT1:=hid (fun W (hb:Below w.heap.size w W)=>rtagged_any (r.kept hb) hs (t:=askB P.client (penSub P)) (D:=P.asked) hx.client i1 (by omega) hx.asked)
 have HT3:=hid (fun W (hb:Below w.heap.size w W)=>rtagged_any (r.kept hb) hs (t:=Hist.uptoL d P.client) (D:=P.proof) hx.client i3 (by omega) hx.proof)
 have hV:=vsub_pen n8 P
 have hq:(((Hist.cnt d P.client:Int) + 1 == P.number)=true)→P.number=(Hist.cnt d P.client:Int) + 1:=fun h=>by have:=eq_of_beq h;omega
 have hp:P.number=(Hist.cnt d P.client:Int) + 1→(decide ((1:Int) < P.number)=false ∨ chkB s n P.client 3 (Hist.uptoL d P.client) P.proof=true)→proE s n d P=0:=by
  intro h g
  unfold proE
  by_cases h1:P.number=1
  ·rw [if_pos h1]
  ·rw [if_neg h1]
   rcases g with g | g
   ·have:=of_decide_eq_false g
    omega
   ·exact jdg_yes g
 exact rstep_core HC HI1 HI2 rfl rfl rfl rfl hcn HN rfl ZD HI HT1 rfl ZE HU HT3 rfl
  (fun h=>by have hc:=hasB_in (vsub_hasB (hV.trans h));exact fun W=>add_one d hd P.client (by omega) W)
  (fun h=>by have e:stepE s n d P=2:=step_two (hV.trans h);exact ⟨stepT_bad (by rw [e];decide),e⟩)
  (fun h h2=>by have e:stepE s n d P=8:=step_eight (hV.trans h) (fun e=>by rw [e,beq_self_eq_true] at h2;cases h2);exact ⟨stepT_bad (by rw [e];decide),e⟩)
  (fun h h2 h3=>by have e:stepE s n d P=7:=step_seven (hV.trans h) (hq h2) (jdg_no h3);exact ⟨stepT_bad (by rw [e];decide),e⟩)
  (fun h h2 h3 h4 h5=>by have e:stepE s n d P=7:=step_sev2 (hV.trans h) (hq h2) (jdg_yes h3) (by unfold proE;rw [if_neg (by have:=of_decide_eq_true h4;omega)];exact jdg_no h5);exact ⟨stepT_bad (by rw [e];decide),e⟩)
  (fun h h2 h3 g h5=>by have e:stepE s n d P=11:=(step_rest (hV.trans h) (hq h2) (jdg_yes h3) (hp (hq h2) g)).trans (if_pos (by have:=of_decide_eq_true h5;omega));exact ⟨stepT_bad (by rw [e];decide),e⟩)
  (fun h h2 h3 g h5=>by have e:stepE s n d P=0:=(step_rest (hV.trans h) (hq h2) (jdg_yes h3) (hp (hq h2) g)).trans (if_neg (by have:=of_decide_eq_false h5;omega));exact ⟨stepT_ok e,e⟩)
end
end Go.Proofs.YthkkjjlpahdagaaGreatDoor.Ms
