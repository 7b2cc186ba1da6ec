/-
  What the reference lays of texts, digests and numbers (R10.Text, Dig, Ints, Numbered, Asked), given what R01.Digits, R01.Number and R02.Bytes answer.
-/
import Derived.Test.YthkkjjlpahdagaaGreatDoorS02
import Derived.Test.YthkkjjlpahdagaaGreatDoorS01
import Derived.Lib.ItoaNum
import Derived.Lib.SmallJoins
import Derived.Test.YthkkjjlpahdagaaGreatDoorS05
import Derived.Test.YthkkjjlpahdagaaGreatDoorS14
set_option maxHeartbeats 2000000
namespace Go.Proofs.YthkkjjlpahdagaaGreatDoor.Ms
open Go Go.RowKit
set_option maxRecDepth 100000
def DigOk:Prop:=∀ (u:Nat),u ≤ 9223372036854775807→∀ (w:World),Calls Tryz.prog 85 #[.int .i64 u] w fun e w'=>e = .returned (.string ⟨(Lib.decDigits u).toArray⟩)∧Below w.heap.size w w'
def NumOk:Prop:=∀ (n:Int),-9223372036854775808 ≤ n→n ≤ 9223372036854775807→∀ (w:World),Calls Tryz.prog 52 #[.int .i64 n] w fun e w'=>e = .returned (.string ⟨(Lib.itoa n++[59]).toArray⟩)∧Below w.heap.size w w'
theorem rtext_any (hD:DigOk) (s:List UInt8) (hs:s.length ≤ 1000000000) (w:World):Calls Tryz.prog 71 #[.string ⟨s.toArray⟩] w fun e w'=>e = .returned (.string ⟨(txtB s).toArray⟩)∧Below w.heap.size w w':=by
 have HD:=hid (hD s.length (by omega) w)
 have hl:=dec_len s.length (by omega)
 have hss:(⟨s.toArray⟩:ByteArray).size=s.length:=rfl
 unfold txtB
 generalize Lib.decDigits s.length=d at *
 have e1:=str_app d [58]
 have e2:=str_app (d++[58]) s
 have hds:(⟨d.toArray⟩:ByteArray).size=d.length:=rfl
 have hds2:(⟨(d++[58]).toArray⟩:ByteArray).size=d.length + 1:=by show (d++[58]).length=_;simp
 clear hD
 go_enter Tryz.func71,Tryz.ntmps71
 go_wp2_with fail
 refine HD.out.mono ?_
 rintro e w1 ⟨rfl,hb⟩
 have HB:=hid hb
 clear hb
 go_wp2
 go_ret
 exact ⟨(by show Ending.returned (Value.string ⟨(d++58 :: s).toArray⟩)=_;simp),HB.out⟩
theorem rnints_any (hN:NumOk) {w:World} {v:Value} {ks:List Int} (hv:IntsAt w v ks) (hk:∀ n ∈ ks,I64 n) (hl:ks.length ≤ 1000000):Calls Tryz.prog 25 #[v] w fun e w'=>e = .returned (.string ⟨(intsB ks).toArray⟩)∧Below w.heap.size w w':=by
 have HV:=hid hv
 obtain ⟨a,cap,rfl,-⟩:=hv
 have HN:=hid hN
 have HK:=hid hk
 have HB0:=hid (Below.refl w.heap.size w)
 clear hk hN
 go_enter Tryz.func25,Tryz.ntmps25
 go_wp2
 go_loopw [3,4] (fun o i w'=>∃ j:Nat,j ≤ ks.length∧i = .int .i64 j∧o = .string ⟨(intsB (ks.take j)).toArray⟩∧Hid (Below w.heap.size w w')) (fun _ i _=>ks.length - (intOf i).toNat)
 case atStart=>exact ⟨0,by omega,rfl,rfl,HB0.out⟩
 case round =>
  obtain ⟨j,hj,rfl,rfl,HB⟩:=hrel
  by_cases hlt:j < ks.length
  ·have d1:decide ((j:Int) < (ks.length:Int))=true:=decide_eq_true (by omega)
   have d1':decide (j < ks.length)=true:=decide_eq_true hlt
   obtain ⟨a',c',e',hc⟩:=HV.out.kept HB.out
   cases e'
   obtain ⟨b,off,rfl,hcc⟩:=hc (fun e=>by rw [e] at hlt;exact absurd hlt (Nat.not_lt_zero j))
   have cj:wr.cell? ⟨b,off + j,none⟩=some (.int .i64 (ks.getD j 0)):=hcc j hlt
   have hmem:ks.getD j 0 ∈ ks:=by simp [List.getD,hlt]
   have h64:=HK.out _ hmem
   have HNj:=hid (fun W=>HN.out (ks.getD j 0) h64.1 h64.2 W)
   have hn22:=numB_len _ h64
   have hol:=intsB_len (ks.take j) (fun n hn=>HK.out n (List.mem_of_mem_take hn))
   rw [List.length_take] at hol
   have HS:=hid (intsB_snoc ks j hlt)
   have happ:=str_app (intsB (ks.take j)) (numB (ks.getD j 0))
   have hnb:Lib.itoa (ks.getD j 0)++[59]=numB (ks.getD j 0):=rfl
   rw [hnb] at HNj
   generalize numB (ks.getD j 0)=nb at *
   generalize ks.getD j 0=x at *
   generalize intsB (ks.take j)=o at *
   have hs1:(⟨nb.toArray⟩:ByteArray).size=nb.length:=rfl
   have hs2:(⟨o.toArray⟩:ByteArray).size=o.length:=rfl
   have ho2:o.length ≤ 22000000:=by omega
   clear hc hcc hmem h64 HK HN hnb hol
   go_wp2_with fail
   refine (HNj.out _).mono ?_
   rintro e w1 ⟨rfl,hb⟩
   have HB1:=hid (below_two HB.out hb)
   clear hb
   go_wp2
   exact ⟨⟨j + 1,by omega,by go_num,by rw [HS.out],HB1.out⟩,by simp [intOf];omega⟩
  ·obtain rfl:j=ks.length:=by omega
   have HT:Hid (intsB (ks.take ks.length)=intsB ks):=by show _=_;rw [List.take_length]
   clear HN HK
   go_wp2
   go_ret
   exact ⟨by rw [← HT.out];rfl,HB.out⟩
def numberedB (n:Int) (s:List UInt8):List UInt8:=numB n++txtB (if 16384 < s.length then [] else s)
theorem rnumbered_any (hD:DigOk) (hN:NumOk) (n:Int) (hn:I64 n) (s:List UInt8) (w:World):Calls Tryz.prog 42 #[.int .i64 n,.string ⟨s.toArray⟩] w fun e w'=>e = .returned (.string ⟨(numberedB n s).toArray⟩)∧Below w.heap.size w w':=by
 have HN:=hid (hN n hn.1 hn.2 w)
 have hss:(⟨s.toArray⟩:ByteArray).size=s.length:=rfl
 have hnl:=numB_len n hn
 have hnb:Lib.itoa n++[59]=numB n:=rfl
 rw [hnb] at HN
 by_cases hl:16384 < s.length
 ·have e0:numberedB n s=numB n++txtB []:=by unfold numberedB;rw [if_pos hl]
  rw [e0]
  have HT:=hid (fun W=>rtext_any hD [] (by decide) W)
  have htl:(txtB []).length ≤ 22:=by unfold txtB;have:=dec_len ([]:List UInt8).length (by decide);simp at this ⊢;omega
  have d1:decide ((16384:Int) < (s.length:Int))=true:=decide_eq_true (by omega)
  have d1':decide (16384 < s.length)=true:=decide_eq_true hl
  have happ:=str_app (numB n) (txtB [])
  generalize numB n=nb at *
  generalize txtB []=t at *
  have hs1:(⟨nb.toArray⟩:ByteArray).size=nb.length:=rfl
  have hs2:(⟨t.toArray⟩:ByteArray).size=t.length:=rfl
  clear e0 hl hn hD hN hnb
  go_enter Tryz.func42,Tryz.ntmps42
  go_wp2_with fail
  refine HN.out.mono ?_
  rintro e w1 ⟨rfl,hb⟩
  have HB1:=hid hb
  clear hb
  go_wp2_with fail
  refine (HT.out _).mono ?_
  rintro e w2 ⟨rfl,hb⟩
  have HB2:=hid (below_two HB1.out hb)
  clear hb
  go_wp2
  go_ret
  exact ⟨rfl,HB2.out⟩
 ·have e0:numberedB n s=numB n++txtB s:=by unfold numberedB;rw [if_neg hl]
  rw [e0]
  have HT:=hid (fun W=>rtext_any hD s (by omega) W)
  have htl:(txtB s).length ≤ 16500:=by unfold txtB;have:=dec_len s.length (by omega);simp;omega
  have d1:decide ((16384:Int) < (s.length:Int))=false:=decide_eq_false (by omega)
  have d1':decide (16384 < s.length)=false:=decide_eq_false hl
  have happ:=str_app (numB n) (txtB s)
  generalize numB n=nb at *
  generalize txtB s=t at *
  have hs1:(⟨nb.toArray⟩:ByteArray).size=nb.length:=rfl
  have hs2:(⟨t.toArray⟩:ByteArray).size=t.length:=rfl
  clear e0 hl hn hD hN hnb
  go_enter Tryz.func42,Tryz.ntmps42
  go_wp2_with fail
  refine HN.out.mono ?_
  rintro e w1 ⟨rfl,hb⟩
  have HB1:=hid hb
  clear hb
  go_wp2_with fail
  refine (HT.out _).mono ?_
  rintro e w2 ⟨rfl,hb⟩
  have HB2:=hid (below_two HB1.out hb)
  clear hb
  go_wp2
  go_ret
  exact ⟨rfl,HB2.out⟩
theorem ints_new (w:World) (ks:List Int) (k:Nat) (hk:ks.length=k):IntsAt (w.alloc (.cells (ks.map nu).toArray 3)) (.slice (some ⟨w.heap.size,0,none⟩) k k) ks:=by
 subst hk
 refine ⟨_,_,rfl,fun _=>⟨w.heap.size,0,rfl,fun j hj=>?_⟩⟩
 rw [cell_of_row _ _ _ _ _ _ (top_obj w _),Nat.zero_add,List.getElem?_toArray]
 simp [List.getD,hj]
theorem rasked_any (hN:NumOk) (c:Int) (hc:I64 c) (x:Sub) (hx:x.Wf) (h1:I64 x.number) (h2:I64 x.kind) (h3:I64 x.target) (w:World) :
  Calls Tryz.prog 41 #[.int .i64 c,.agg (subC x).toArray] w fun e w'=>e = .returned (.string ⟨(intsB [c,x.number,x.kind,x.target]).toArray⟩)∧Below w.heap.size w w':=by
 have HB0:=hid (below_a1 w (.cells (subC x).toArray 39))
 have r0:=top_obj w (.cells (subC x).toArray 39)
 have c0:=srow_number r0 hx
 have c1:=srow_kind r0 hx
 have c2:=srow_target r0 hx
 have HI:=hid (fun W=>rnints_any hN (ints_new W [c,x.number,x.kind,x.target] 4 rfl) (by intro n hn;simp at hn;rcases hn with rfl | rfl | rfl | rfl;exact hc;exact h1;exact h2;exact h3) (by simp))
 generalize intsB [c,x.number,x.kind,x.target]=t at *
 generalize (subC x).toArray=S at *
 clear r0 hN hx
 go_enter Tryz.func41,Tryz.ntmps41
 go_upto_region 1 with fail
 generalize w.alloc (.cells S 39)=W0 at *
 have HB1:=hid (below_two HB0.out (below_a1 W0 (.cells ([c,x.number,x.kind,x.target].map nu).toArray 3)))
 go_wp2_with fail
 refine (HI.out _).mono ?_
 rintro e w1 ⟨rfl,hb⟩
 have HB2:=hid (below_two HB1.out hb)
 clear hb
 go_wp2
 go_ret
 exact ⟨rfl,HB2.out⟩
end Go.Proofs.YthkkjjlpahdagaaGreatDoor.Ms
namespace Go.Proofs.YthkkjjlpahdagaaGreatDoor.Lay
open Go.RowKit Go.Joins
set_option maxRecDepth 100000
theorem refNumber_neg2 (u:Nat) (h0:10 ≤ u) (h1:u ≤ 9223372036854775808) (w:World) :
  Calls Tryz.prog 52 #[.int .i64 (-(u:Int))] w fun e w'=>e = .returned (.string ⟨(Lib.itoa (-(u:Int))++[59]).toArray⟩)∧Below w.heap.size w w':=by
 have hi:Lib.itoa (-(u:Int))=45 :: (Lib.decDigits (u / 10)++Lib.decDigits (u % 10)):=by
  unfold Lib.itoa
  rw [if_pos (by omega),Int.natAbs_neg,Int.natAbs_natCast,Lib.decDigits,dif_neg (by omega),Lib.decDigits_one (Nat.mod_lt u (by decide))]
 rw [hi]
 have hl:(Lib.decDigits (u / 10)).length ≤ 20:=by rw [Lib.decDigits_length];exact nDigits_le20 _ (by omega)
 have hl':(Lib.decDigits (u % 10)).length ≤ 20:=by rw [Lib.decDigits_length];exact nDigits_le20 _ (by omega)
 clear hi
 have hq:((-(u:Int)).tdiv 10 == 0)=false:=by rw [tdiv_neg,beq_eq_false_iff_ne];omega
 have hn:-(u:Int) < 0:=by omega
 go_enter Tryz.func52,Tryz.ntmps52
 go_wp2_with fail
 refine (digits_int _ (u / 10) (by omega) (by omega) _).mono ?_
 rintro e w1 ⟨rfl,hb⟩
 go_wp2_with fail
 refine (digits_int _ (u % 10) (by omega) (by omega) _).mono ?_
 rintro e w2 ⟨rfl,hb2⟩
 go_wp2
 go_ret
 refine ⟨congrArg (fun s=>Ending.returned (Value.string s)) ?_,below_two hb hb2⟩
 rw [bcat [45] (Lib.decDigits (u / 10)) _ rfl,bcat ([45]++Lib.decDigits (u / 10)) (Lib.decDigits (u % 10)) _ rfl,bcat ([45]++Lib.decDigits (u / 10)++Lib.decDigits (u % 10)) [59] _ rfl]
 simp
theorem refNumber_any (n:Int) (h0:-9223372036854775808 ≤ n) (h1:n ≤ 9223372036854775807) (w:World) :
  Calls Tryz.prog 52 #[.int .i64 n] w fun e w'=>e = .returned (.string ⟨(Lib.itoa n++[59]).toArray⟩)∧Below w.heap.size w w':=by
 by_cases hn:0 ≤ n
 ·exact refNumber_pos n hn h1 w
 ·obtain ⟨u,rfl⟩:∃ u:Nat,n = -(u:Int):=⟨n.natAbs,by omega⟩
  by_cases h10:u < 10
  ·exact refNumber_neg1 u (by omega) h10 w
  ·exact refNumber_neg2 u (by omega) (by omega) w
end Go.Proofs.YthkkjjlpahdagaaGreatDoor.Lay
namespace Go.Proofs.YthkkjjlpahdagaaGreatDoor.Ms
open Go Go.RowKit
set_option maxRecDepth 100000
theorem numOk:NumOk:=fun n h0 h1 w=>Lay.refNumber_any n h0 h1 w
theorem digOk:DigOk:=fun u hu w=>Lay.digits_any u hu w
def askB (c:Int) (x:Sub):List UInt8:=numB c++numB x.number++numB x.kind++numB x.target
theorem askB_ints (c:Int) (x:Sub):intsB [c,x.number,x.kind,x.target]=askB c x:=by simp [intsB,askB]
theorem numbered_lay (n:Int) (s:List UInt8):numberedB n s=numB n++layT s:=rfl
structure SubRng (x:Sub):Prop where
 n:I64 x.number
 k:I64 x.kind
 t:I64 x.target
theorem asked_any (c:Int) (hc:I64 c) (x:Sub) (hx:x.Wf) (hr:SubRng x) (w:World) (ht:Tb w):Calls Tryz.prog 19 #[nu c,.agg (subC x).toArray] w fun e w'=>e = .returned (st (askB c x))∧Below w.heap.size w w':=by
 have HB0:=hid (below_a1 w (.cells (subC x).toArray 39))
 have r0:=top_obj w (.cells (subC x).toArray 39)
 have c0:=srow_number r0 hx
 have c1:=srow_kind r0 hx
 have c2:=srow_target r0 hx
 have hT0:Tb (w.alloc (.cells (subC x).toArray 39)):=ht.stays HB0.out
 have l0:=numB_len c hc
 have l1:=numB_len x.number hr.n
 have l2:=numB_len x.kind hr.k
 have l3:=numB_len x.target hr.t
 have K:∀ n,I64 n→∀ W,Tb W→∀ dd os,Calls Tryz.prog 37 #[nu n] (Sort.grow (redrawn W dd) os) fun e w''=>e = .returned (st (numB n))∧∃ p:Regrown,w'' = Sort.grow (redrawn W p.d) p.os:=fun n hn W hW dd os=>Calls.regrown_of (Lay.number_any n hn.1 hn.2 _ (hW.stays (below_regrown W dd os)))
 have k0:=hid (K c hc _ hT0)
 have k1:=hid (K x.number hr.n _ hT0)
 have k2:=hid (K x.kind hr.k _ hT0)
 have k3:=hid (K x.target hr.t _ hT0)
 have p0:∀ dd os,(Sort.grow (redrawn (w.alloc (.cells (subC x).toArray 39)) dd) os).cell? ⟨w.heap.size,0,none⟩=some (nu x.number):=fun dd os=>cell_regrown c0 _ _
 have p1:∀ dd os,(Sort.grow (redrawn (w.alloc (.cells (subC x).toArray 39)) dd) os).cell? ⟨w.heap.size,1,none⟩=some (nu x.kind):=fun dd os=>cell_regrown c1 _ _
 have p2:∀ dd os,(Sort.grow (redrawn (w.alloc (.cells (subC x).toArray 39)) dd) os).cell? ⟨w.heap.size,2,none⟩=some (nu x.target):=fun dd os=>cell_regrown c2 _ _
 have a1:=str_app (numB c) (numB x.number)
 have a2:=str_app (numB c++numB x.number) (numB x.kind)
 have a3:=str_app (numB c++numB x.number++numB x.kind) (numB x.target)
 unfold askB
 generalize numB c=n0 at *
 generalize numB x.number=n1 at *
 generalize numB x.kind=n2 at *
 generalize numB x.target=n3 at *
 generalize (subC x).toArray=S at *
 have s0:(⟨n0.toArray⟩:ByteArray).size=n0.length:=rfl
 have s1:(⟨n1.toArray⟩:ByteArray).size=n1.length:=rfl
 have s2:(⟨n2.toArray⟩:ByteArray).size=n2.length:=rfl
 have s3:(⟨n3.toArray⟩:ByteArray).size=n3.length:=rfl
 have s4:(⟨(n0++n1).toArray⟩:ByteArray).size=n0.length + n1.length:=by show (n0++n1).length=_;simp
 have s5:(⟨(n0++n1++n2).toArray⟩:ByteArray).size=n0.length + n1.length + n2.length:=by show (n0++n1++n2).length=_;simp;omega
 clear r0 K hT0 ht hx hr hc c0 c1 c2
 go_enter Tryz.func19,Tryz.ntmps19
 go_upto_region 1 with fail
 generalize w.alloc (.cells S 39)=W0 at *
 have hbg:=hid (fun dq osq=>below_two HB0.out (below_regrown W0 dq osq))
 refine wp_region_quiet_below (by kernel_rfl) (by kernel_rfl) ?_
 iterate 15 (first | go_big_quiet_step (first | exact k0.out _ _ | exact k1.out _ _ | exact k2.out _ _ | exact k3.out _ _) | quiet_step (first | exact k0.out _ _ | exact k1.out _ _ | exact k2.out _ _ | exact k3.out _ _))
 refine wpQuiet_nil ?_
 intro _ hw'
 obtain ⟨⟨dq,osq⟩,hw''⟩:=hw'
 subst hw''
 have HBq:=hid (hbg.out dq osq)
 go_wp2
 go_ret
 exact ⟨by first | rfl | (simp [str_app]),HBq.out⟩
end Go.Proofs.YthkkjjlpahdagaaGreatDoor.Ms
