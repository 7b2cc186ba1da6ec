/- S15 -/
import Derived.Test.YtagmnmoaekbffaaGreatDoorS01
import Derived.Lib.ItoaNum
import Derived.Lib.SmallJoins
import Derived.Test.YtagmnmoaekbffaaGreatDoorS05
import Derived.Test.YtagmnmoaekbffaaGreatDoorS14
set_option maxHeartbeats 2000000
namespace Go.Proofs.YtagmnmoaekbffaaGreatDoor.Ms
open Go.Proofs.Tryz
open Go Go.RowKit
set_option maxRecDepth 100000
def u0o:Prop:=∀ (u:Nat),u <= 9223372036854775807->∀ (w:World),Calls prog 62 #[.int .i64 u] w fun e w'=>e = .returned (.string ⟨(Lib.decDigits u).toArray⟩)/\Below w.heap.size w w'
def s0o:Prop:=∀ (n:Int),-9223372036854775808 <= n->n <= 9223372036854775807->∀ (w:World),Calls prog 33 #[.int .i64 n] w fun e w'=>e = .returned (.string ⟨(Lib.itoa n++[59]).toArray⟩)/\Below w.heap.size w w'
theorem k0Z (hD:u0o) (s:List UInt8) (hs:s.length <= 1000000000) (w:World):Calls prog 36 #[.string ⟨s.toArray⟩] w fun e w'=>e = .returned (.string ⟨(txtB s).toArray⟩)/\Below w.heap.size w w':=by
 have HD:=hid (hD s.length (by omega) w);have hl:=j0o s.length (by omega);have hss:(⟨s.toArray⟩:ByteArray).size=s.length:=rfl;unfold txtB;generalize Lib.decDigits s.length=d at *;have e1:=d0w d [58];have e2:=d0w (d++[58]) s;have hds:(⟨d.toArray⟩:ByteArray).size=d.length:=rfl;have hds2:(⟨(d++[58]).toArray⟩:ByteArray).size=d.length + 1:=by show (d++[58]).length=_;simp
 clear hD;go_enter func36,ntmps36
 go_wp2_with fail
 refine HD.out.mono ?_;rintro e w1 ⟨rfl,hb⟩;have HB:=hid hb;clear hb;go_wp2;go_ret;exact ⟨(by show Ending.returned (Value.string ⟨(d++58 :: s).toArray⟩)=_;simp),HB.out⟩
theorem o0v (hN:s0o) {w:World} {v:Value} {ks:List Int} (hv:a0w w v ks) (hk:∀ n ∈ ks,I64 n) (hl:ks.length <= 1000000):Calls prog 13 #[v] w fun e w'=>e = .returned (.string ⟨(e0A ks).toArray⟩)/\Below w.heap.size w w':=by
 have HV:=hid hv;obtain ⟨a,cap,rfl,-⟩:=hv;have HN:=hid hN;have HK:=hid hk;have HB0:=hid (Below.refl w.heap.size w);clear hk hN;go_enter func13,ntmps13;go_wp2;go_loopw [3,4] (fun o i w'=>∃ j:Nat,j <= ks.length/\i = .int .i64 j/\o = .string ⟨(e0A (ks.take j)).toArray⟩/\Hid (Below w.heap.size w w')) (fun _ i _=>ks.length - (intOf i).toNat)
 case atStart=>exact ⟨0,by omega,rfl,rfl,HB0.out⟩
 case round =>
  obtain ⟨j,hj,rfl,rfl,HB⟩:=hrel;by_cases hlt:j < ks.length
  ·have d1:decide ((j:Int) < (ks.length:Int))=true:=decide_eq_true (by omega)
   have d1':decide (j < ks.length)=true:=decide_eq_true hlt;obtain ⟨a',c',e',hc⟩:=HV.out.kept HB.out
   cases e'
   obtain ⟨b,off,rfl,hcc⟩:=hc (fun e=>by rw [e] at hlt;exact absurd hlt (Nat.not_lt_zero j));have cj:wr.cell? ⟨b,off + j,none⟩=some (.int .i64 (ks.getD j 0)):=hcc j hlt;have hmem:ks.getD j 0 ∈ ks:=by simp [List.getD,hlt]
   have h64:=HK.out _ hmem;have HNj:=hid (fun W=>HN.out (ks.getD j 0) h64.1 h64.2 W);have hn22:=b0e _ h64;have hol:=k0u (ks.take j) (fun n hn=>HK.out n (List.mem_of_mem_take hn));rw [List.length_take] at hol;have HS:=hid (o0c ks j hlt);have happ:=d0w (e0A (ks.take j)) (numB (ks.getD j 0));have hnb:Lib.itoa (ks.getD j 0)++[59]=numB (ks.getD j 0):=rfl;rw [hnb] at HNj;generalize numB (ks.getD j 0)=nb at *;generalize ks.getD j 0=x at *;generalize e0A (ks.take j)=o at *;have hs1:(⟨nb.toArray⟩:ByteArray).size=nb.length:=rfl;have hs2:(⟨o.toArray⟩:ByteArray).size=o.length:=rfl;have ho2:o.length <= 22000000:=by omega
   clear hc hcc hmem h64 HK HN hnb hol
   go_wp2_with fail
   refine (HNj.out _).mono ?_;rintro e w1 ⟨rfl,hb⟩;have HB1:=hid (a0b HB.out hb);clear hb;go_wp2;exact ⟨⟨j + 1,by omega,by go_num,by rw [HS.out],HB1.out⟩,by simp [intOf];omega⟩
  ·obtain rfl:j=ks.length:=by omega
   have HT:Hid (e0A (ks.take ks.length)=e0A ks):=by show _=_;rw [List.take_length]
   clear HN HK;go_wp2;go_ret;exact ⟨by rw [← HT.out];rfl,HB.out⟩
def e0J (n:Int) (s:List UInt8):List UInt8:=numB n++txtB (if 16384 < s.length then [] else s)
theorem j0Q (hD:u0o) (hN:s0o) (n:Int) (hn:I64 n) (s:List UInt8) (w:World):Calls prog 15 #[.int .i64 n,.string ⟨s.toArray⟩] w fun e w'=>e = .returned (.string ⟨(e0J n s).toArray⟩)/\Below w.heap.size w w':=by
 have HN:=hid (hN n hn.1 hn.2 w);have hss:(⟨s.toArray⟩:ByteArray).size=s.length:=rfl;have hnl:=b0e n hn;have hnb:Lib.itoa n++[59]=numB n:=rfl;rw [hnb] at HN;by_cases hl:16384 < s.length
 ·have e0:e0J n s=numB n++txtB []:=by unfold e0J;rw [if_pos hl]
  rw [e0];have HT:=hid (fun W=>k0Z hD [] (by decide) W);have htl:(txtB []).length <= 22:=by unfold txtB;have:=j0o ([]:List UInt8).length (by decide);simp at this ⊢;omega
  have d1:decide ((16384:Int) < (s.length:Int))=true:=decide_eq_true (by omega);have d1':decide (16384 < s.length)=true:=decide_eq_true hl;have happ:=d0w (numB n) (txtB []);generalize numB n=nb at *;generalize txtB []=t at *;have hs1:(⟨nb.toArray⟩:ByteArray).size=nb.length:=rfl;have hs2:(⟨t.toArray⟩:ByteArray).size=t.length:=rfl;clear e0 hl hn hD hN hnb;go_enter func15,ntmps15
  go_wp2_with fail
  refine HN.out.mono ?_;rintro e w1 ⟨rfl,hb⟩;have HB1:=hid hb;clear hb
  go_wp2_with fail
  refine (HT.out _).mono ?_;rintro e w2 ⟨rfl,hb⟩;have HB2:=hid (a0b HB1.out hb);clear hb;go_wp2;go_ret;exact ⟨rfl,HB2.out⟩
 ·have e0:e0J n s=numB n++txtB s:=by unfold e0J;rw [if_neg hl]
  rw [e0];have HT:=hid (fun W=>k0Z hD s (by omega) W);have htl:(txtB s).length <= 16500:=by unfold txtB;have:=j0o s.length (by omega);simp;omega
  have d1:decide ((16384:Int) < (s.length:Int))=false:=decide_eq_false (by omega);have d1':decide (16384 < s.length)=false:=decide_eq_false hl;have happ:=d0w (numB n) (txtB s);generalize numB n=nb at *;generalize txtB s=t at *;have hs1:(⟨nb.toArray⟩:ByteArray).size=nb.length:=rfl;have hs2:(⟨t.toArray⟩:ByteArray).size=t.length:=rfl;clear e0 hl hn hD hN hnb;go_enter func15,ntmps15
  go_wp2_with fail
  refine HN.out.mono ?_;rintro e w1 ⟨rfl,hb⟩;have HB1:=hid hb;clear hb
  go_wp2_with fail
  refine (HT.out _).mono ?_;rintro e w2 ⟨rfl,hb⟩;have HB2:=hid (a0b HB1.out hb);clear hb;go_wp2;go_ret;exact ⟨rfl,HB2.out⟩
theorem s0p (w:World) (ks:List Int) (k:Nat) (hk:ks.length=k):a0w (w.alloc (.cells (ks.map nu).toArray 3)) (.slice (some ⟨w.heap.size,0,none⟩) k k) ks:=by
 subst hk;refine ⟨_,_,rfl,fun _=>⟨w.heap.size,0,rfl,fun j hj=>?_⟩⟩;rw [cell_of_row _ _ _ _ _ _ (a0f w _),Nat.zero_add,List.getElem?_toArray];simp [List.getD,hj]
theorem o0w (hN:s0o) (c:Int) (hc:I64 c) (x:Sub) (hx:x.Wf) (h1:I64 x.number) (h2:I64 x.kind) (h3:I64 x.target) (w:World) :
  Calls prog 22 #[.int .i64 c,.agg (subC x).toArray] w fun e w'=>e = .returned (.string ⟨(e0A [c,x.number,x.kind,x.target]).toArray⟩)/\Below w.heap.size w w':=by
 have HB0:=hid (a0c w (.cells (subC x).toArray 40));have r0:=a0f w (.cells (subC x).toArray 40);have c0:=a0N r0 hx;have c1:=d0B r0 hx;have c2:=a0O r0 hx;have HI:=hid (fun W=>o0v hN (s0p W [c,x.number,x.kind,x.target] 4 rfl) (by intro n hn;simp at hn;rcases hn with rfl | rfl | rfl | rfl;exact hc;exact h1;exact h2;exact h3) (by simp));generalize e0A [c,x.number,x.kind,x.target]=t at *;generalize (subC x).toArray=S at *;clear r0 hN hx;go_enter func22,ntmps22;go_upto_region 1 with fail
 generalize w.alloc (.cells S 40)=W0 at *;have HB1:=hid (a0b HB0.out (a0c W0 (.cells ([c,x.number,x.kind,x.target].map nu).toArray 3)))
 go_wp2_with fail
 refine (HI.out _).mono ?_;rintro e w1 ⟨rfl,hb⟩;have HB2:=hid (a0b HB1.out hb);clear hb;go_wp2;go_ret;exact ⟨rfl,HB2.out⟩
end Go.Proofs.YtagmnmoaekbffaaGreatDoor.Ms
namespace Go.Proofs.YtagmnmoaekbffaaGreatDoor.Lay
open Go.Proofs.Tryz
open Go.RowKit Go.Joins
set_option maxRecDepth 100000
theorem i0m (u:Nat) (h0:10 <= u) (h1:u <= 9223372036854775808) (w:World) :
  Calls prog 33 #[.int .i64 (-(u:Int))] w fun e w'=>e = .returned (.string ⟨(Lib.itoa (-(u:Int))++[59]).toArray⟩)/\Below w.heap.size w w':=by
 have hi:Lib.itoa (-(u:Int))=45 :: (Lib.decDigits (u / 10)++Lib.decDigits (u % 10)):=by
  unfold Lib.itoa;rw [if_pos (by omega),Int.natAbs_neg,Int.natAbs_natCast,Lib.decDigits,dif_neg (by omega),Lib.decDigits_one (Nat.mod_lt u (by decide))]
 rw [hi];have hl:(Lib.decDigits (u / 10)).length <= 20:=by rw [Lib.decDigits_length];exact nDigits_le20 _ (by omega)
 have hl':(Lib.decDigits (u % 10)).length <= 20:=by rw [Lib.decDigits_length];exact nDigits_le20 _ (by omega)
 clear hi;have hq:((-(u:Int)).tdiv 10 == 0)=false:=by rw [n0r,beq_eq_false_iff_ne];omega
 have hn:-(u:Int) < 0:=by omega
 go_enter func33,ntmps33
 go_wp2_with fail
 refine (e0X _ (u / 10) (by omega) (by omega) _).mono ?_;rintro e w1 ⟨rfl,hb⟩
 go_wp2_with fail
 refine (e0X _ (u % 10) (by omega) (by omega) _).mono ?_;rintro e w2 ⟨rfl,hb2⟩;go_wp2;go_ret;refine ⟨congrArg (fun s=>Ending.returned (Value.string s)) ?_,a0b hb hb2⟩;rw [bcat [45] (Lib.decDigits (u / 10)) _ rfl,bcat ([45]++Lib.decDigits (u / 10)) (Lib.decDigits (u % 10)) _ rfl,bcat ([45]++Lib.decDigits (u / 10)++Lib.decDigits (u % 10)) [59] _ rfl];simp
theorem j0R (n:Int) (h0:-9223372036854775808 <= n) (h1:n <= 9223372036854775807) (w:World) :
  Calls prog 33 #[.int .i64 n] w fun e w'=>e = .returned (.string ⟨(Lib.itoa n++[59]).toArray⟩)/\Below w.heap.size w w':=by
 by_cases hn:0 <= n
 ·exact j0H n hn h1 w
 ·obtain ⟨u,rfl⟩:∃ u:Nat,n = -(u:Int):=⟨n.natAbs,by omega⟩
  by_cases h10:u < 10
  ·exact i0l u (by omega) h10 w
  ·exact i0m u (by omega) (by omega) w
end Go.Proofs.YtagmnmoaekbffaaGreatDoor.Lay
namespace Go.Proofs.YtagmnmoaekbffaaGreatDoor.Ms
open Go.Proofs.Tryz
open Go Go.RowKit
set_option maxRecDepth 100000
theorem v0X:s0o:=fun n h0 h1 w=>Lay.j0R n h0 h1 w
theorem x0f:u0o:=fun u hu w=>Lay.i0J u hu w
theorem s0q (s:List UInt8):(layT s).length <= 16500:=by
 unfold layT
 split
 ·have:=e0i [] (by decide);simp at this ⊢;omega
 ·have:=e0i s (by omega);omega
def askB (c:Int) (x:Sub):List UInt8:=numB c++numB x.number++numB x.kind++numB x.target
theorem q0g (c:Int) (x:Sub):e0A [c,x.number,x.kind,x.target]=askB c x:=by simp [e0A,askB]
theorem s0r (n:Int) (hn:I64 n) (s:List UInt8) (w:World) (ht:Tb w):Calls prog 60 #[nu n,st s] w fun e w'=>e = .returned (st (numB n++layT s))/\Below w.heap.size w w':=by
 have K1:=hid (Lay.c0y n hn.1 hn.2 w ht);have hnb:Lib.itoa n++[59]=numB n:=rfl;rw [hnb] at K1;have K2:=hid (fun (W:World) (h:Below w.heap.size w W)=>f0y s W (ht.stays h));have h1:=b0e n hn;have h2:=s0q s;have happ:=d0w (numB n) (layT s);generalize numB n=nb at *;generalize layT s=tb at *;have hs1:(⟨nb.toArray⟩:ByteArray).size=nb.length:=rfl;have hs2:(⟨tb.toArray⟩:ByteArray).size=tb.length:=rfl;clear hn ht hnb;go_enter func60,ntmps60
 go_wp2_with fail
 refine K1.out.mono ?_;rintro e w1 ⟨rfl,hb⟩;have HB1:=hid hb;clear hb
 go_wp2_with fail
 refine (K2.out _ HB1.out).mono ?_;rintro e w2 ⟨rfl,hb⟩;have HB2:=hid (a0b HB1.out hb);clear hb;go_wp2;go_ret;exact ⟨rfl,HB2.out⟩
structure SubRng (x:Sub):Prop where
 n:I64 x.number
 k:I64 x.kind
 t:I64 x.target
theorem q0h (c:Int) (hc:I64 c) (x:Sub) (hx:x.Wf) (hr:SubRng x) (w:World) (ht:Tb w):Calls prog 97 #[nu c,.agg (subC x).toArray] w fun e w'=>e = .returned (st (askB c x))/\Below w.heap.size w w':=by
 have HB0:=hid (a0c w (.cells (subC x).toArray 40));have r0:=a0f w (.cells (subC x).toArray 40);have c0:=a0N r0 hx;have c1:=d0B r0 hx;have c2:=a0O r0 hx;have hT0:Tb (w.alloc (.cells (subC x).toArray 40)):=ht.stays HB0.out;have l0:=b0e c hc;have l1:=b0e x.number hr.n;have l2:=b0e x.kind hr.k;have l3:=b0e x.target hr.t;have K:∀ n,I64 n->∀ W,Tb W->∀ dd os,Calls prog 68 #[nu n] (Sort.grow (redrawn W dd) os) fun e w''=>e = .returned (st (numB n))/\∃ p:Regrown,w'' = Sort.grow (redrawn W p.d) p.os:=fun n hn W hW dd os=>Calls.regrown_of (Lay.c0y n hn.1 hn.2 _ (hW.stays (below_regrown W dd os)));have k0:=hid (K c hc _ hT0);have k1:=hid (K x.number hr.n _ hT0);have k2:=hid (K x.kind hr.k _ hT0);have k3:=hid (K x.target hr.t _ hT0);have p0:∀ dd os,(Sort.grow (redrawn (w.alloc (.cells (subC x).toArray 40)) dd) os).cell? ⟨w.heap.size,0,none⟩=some (nu x.number):=fun dd os=>cell_regrown c0 _ _;have p1:∀ dd os,(Sort.grow (redrawn (w.alloc (.cells (subC x).toArray 40)) dd) os).cell? ⟨w.heap.size,1,none⟩=some (nu x.kind):=fun dd os=>cell_regrown c1 _ _;have p2:∀ dd os,(Sort.grow (redrawn (w.alloc (.cells (subC x).toArray 40)) dd) os).cell? ⟨w.heap.size,2,none⟩=some (nu x.target):=fun dd os=>cell_regrown c2 _ _;have a1:=d0w (numB c) (numB x.number);have a2:=d0w (numB c++numB x.number) (numB x.kind);have a3:=d0w (numB c++numB x.number++numB x.kind) (numB x.target);unfold askB;generalize numB c=n0 at *;generalize numB x.number=n1 at *;generalize numB x.kind=n2 at *;generalize numB x.target=n3 at *;generalize (subC x).toArray=S at *;have s0:(⟨n0.toArray⟩:ByteArray).size=n0.length:=rfl;have s1:(⟨n1.toArray⟩:ByteArray).size=n1.length:=rfl;have s2:(⟨n2.toArray⟩:ByteArray).size=n2.length:=rfl;have s3:(⟨n3.toArray⟩:ByteArray).size=n3.length:=rfl;have s4:(⟨(n0++n1).toArray⟩:ByteArray).size=n0.length + n1.length:=by show (n0++n1).length=_;simp
 have s5:(⟨(n0++n1++n2).toArray⟩:ByteArray).size=n0.length + n1.length + n2.length:=by show (n0++n1++n2).length=_;simp;omega
 clear r0 K hT0 ht hx hr hc c0 c1 c2;go_enter func97,ntmps97;go_upto_region 1 with fail
 generalize w.alloc (.cells S 40)=W0 at *;have hbg:=hid (fun dq osq=>a0b HB0.out (below_regrown W0 dq osq));refine wp_region_quiet_below (by kernel_rfl) (by kernel_rfl) ?_
 iterate 15 (first | go_big_quiet_step (first | exact k0.out _ _ | exact k1.out _ _ | exact k2.out _ _ | exact k3.out _ _) | quiet_step (first | exact k0.out _ _ | exact k1.out _ _ | exact k2.out _ _ | exact k3.out _ _))
 refine wpQuiet_nil ?_;intro _ hw';obtain ⟨⟨dq,osq⟩,hw''⟩:=hw';subst hw'';have HBq:=hid (hbg.out dq osq);go_wp2;go_ret;exact ⟨by first | rfl | (simp [d0w]),HBq.out⟩
end Go.Proofs.YtagmnmoaekbffaaGreatDoor.Ms
