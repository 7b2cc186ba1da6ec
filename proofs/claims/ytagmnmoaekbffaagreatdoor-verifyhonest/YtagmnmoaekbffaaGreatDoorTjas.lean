/- Tjas -/
import Derived.Test.YtagmnmoaekbffaaGreatDoorS01
import Derived.Test.YtagmnmoaekbffaaGreatDoorS04
import Derived.Test.YtagmnmoaekbffaaGreatDoorS05
import Derived.Lib.AtoiAll
import Derived.Lib.ItoaNum
import Derived.Test.YtagmnmoaekbffaaGreatDoorS06
import Derived.Handy
import Derived.Deep.RegionHeld3
import Derived.Test.YtagmnmoaekbffaaGreatDoorS03
set_option maxHeartbeats 4000000
namespace Go.Proofs.YtagmnmoaekbffaaGreatDoor.Ms
open Go.Proofs.Tryz
open Go Go.RowKit
set_option maxRecDepth 100000
theorem n0s (n k t:Int) (w:World):Calls prog 44 #[nu n,nu k,nu t] w fun e w'=>e = .returned (.bool (d0l n k t))/\w' = w:=by
 have H1:=hid (a0Z n 1 512 w);have H2:=hid (a0Z k 1 2 w);have H3:=hid (a0Z t 0 7 w);have e1:(decide (1 <= n) && decide (n <= 512))=inB n 1 512:=rfl;have e2:(decide (1 <= k) && decide (k <= 2))=inB k 1 2:=rfl;have e3:(decide (0 <= t) && decide (t <= 7))=inB t 0 7:=rfl;rw [e1] at H1;rw [e2] at H2;rw [e3] at H3;unfold d0l;clear e1 e2 e3;generalize inB n 1 512=b1 at *;generalize inB k 1 2=b2 at *;generalize inB t 0 7=b3 at *
 cases b1 with
 | false =>
  go_enter func44,ntmps44
  go_wp2_with fail
  refine H1.out.mono ?_;rintro e v ⟨rfl,hv⟩;subst v;go_wp2;go_ret;exact ⟨rfl,rfl⟩
 | true =>
  cases b2 with
  | false =>
   go_enter func44,ntmps44
   go_wp2_with fail
   refine H1.out.mono ?_;rintro e v ⟨rfl,hv⟩;subst v
   go_wp2_with fail
   refine H2.out.mono ?_;rintro e v ⟨rfl,hv⟩;subst v;go_wp2;go_ret;exact ⟨rfl,rfl⟩
  | true =>
   go_enter func44,ntmps44
   go_wp2_with fail
   refine H1.out.mono ?_;rintro e v ⟨rfl,hv⟩;subst v
   go_wp2_with fail
   refine H2.out.mono ?_;rintro e v ⟨rfl,hv⟩;subst v
   go_wp2_with fail
   refine H3.out.mono ?_;rintro e v ⟨rfl,hv⟩;subst v;go_wp2;go_ret;exact ⟨rfl,rfl⟩
theorem k0Q (l:List Int) (i:Nat) (hi:i < l.length) (h:okAt l i=false):d0y l=false:=by
 unfold d0y
 have:(List.range l.length).all (okAt l)=false:=by
  rw [List.all_eq_false];exact ⟨i,List.mem_range.2 hi,by rw [h];exact Bool.false_ne_true⟩
 rw [this];rfl
theorem k0R (l:List Int) (h:∀ i,i < l.length->okAt l i=true):d0y l=inB (l.length:Int) 1 64:=by
 unfold d0y
 have:(List.range l.length).all (okAt l)=true:=by
  rw [List.all_eq_true];exact fun i hi=>h i (List.mem_range.1 hi)
 rw [this];rfl
theorem b0d {B:Nat} {w w':World} (h:Below B w w') (n:Nat):Below B w (w'.drewN n):=⟨h.os,h.tape,h.output,h.size,h.block⟩
theorem h0A {w:World} {v:Value} {l:List Int} (hv:a0w w v l) (hl:l.length <= 9223372036854775807):Calls prog 47 #[v] w fun e w'=>e = .returned (.bool (d0y l))/\Below w.heap.size w w':=by
 have HV:=hid hv;obtain ⟨a,cap,rfl,-⟩:=hv;have HB0:=hid (Below.refl w.heap.size w);have HBad:=hid (k0Q l);have HAll:=hid (k0R l);have HL:=hid (fun W=>a0Z (l.length:Int) 1 64 W);go_enter func47,ntmps47;go_wp2;go_loopw [3] (fun i w'=>∃ j:Nat,j <= l.length/\i = .int .i64 j/\Hid (∀ k,k < j->okAt l k=true)/\Hid (Below w.heap.size w w')) (fun i _=>l.length - (intOf i).toNat)
 case atStart=>exact ⟨0,by omega,rfl,fun k hk=>absurd hk (Nat.not_lt_zero k),HB0.out⟩
 case round =>
  obtain ⟨j,hj,rfl,HN,HB⟩:=hrel;by_cases hlt:j < l.length
  ·have d1:decide ((j:Int) < (l.length:Int))=true:=decide_eq_true (by omega)
   have d1':decide (j < l.length)=true:=decide_eq_true hlt;obtain ⟨a',c',e',hc⟩:=HV.out.kept HB.out
   cases e'
   obtain ⟨b,off,rfl,hcc⟩:=hc (fun e=>by rw [e] at hlt;exact absurd hlt (Nat.not_lt_zero j));have cj:wr.cell? ⟨b,off + j,none⟩=some (.int .i64 (l.getD j 0)):=hcc j hlt;have HI:=hid (fun W=>a0Z (l.getD j 0) 0 1099511627776 W);have ei:(decide (0 <= l.getD j 0) && decide (l.getD j 0 <= 1099511627776))=inB (l.getD j 0) 0 1099511627776:=rfl;rw [ei] at HI
   have hon:Hid (okAt l j=true->∀ k,k < j + 1->okAt l k=true):=fun h k hk=>by
    by_cases e:k=j
    ·rw [e];exact h
    ·exact HN.out k (by omega)
   cases hin:inB (l.getD j 0) 0 1099511627776 with
   | false=>as_aux_lemma =>
    have HF:=hid (HBad.out j hlt (by unfold okAt;rw [hin];rfl));rw [hin] at HI;generalize l.getD j 0=x at *;clear hin ei hc hcc hon HN HAll HBad HL;go_wp2
    go_quiet (first | (go_at_call 41;refine Calls.quiet_of_same (HI.out _)))
    have HB1:=hid (b0d HB.out nq);generalize wr.drewN nq=W1 at *;go_wp2;go_ret;exact ⟨by rw [HF.out];rfl,HB1.out⟩
   | true =>
    rw [hin] at HI;by_cases h0:j=0
    ·as_aux_lemma =>
     subst h0;have cj0:wr.cell? ⟨b,off,none⟩=some (.int .i64 (l.getD 0 0)):=cj;have HN':=hid (hon.out (by unfold okAt;rw [hin];rfl));generalize l.getD 0 0=x at *;clear hin ei hc hcc hon HN HAll HBad HL;go_wp2
     go_quiet (first | (go_at_call 41;refine Calls.quiet_of_same (HI.out _)))
     have HB1:=hid (b0d HB.out nq);generalize wr.drewN nq=W1 at *;go_wp2;exact ⟨⟨1,by omega,rfl,HN'.out,HB1.out⟩,by simp [intOf];omega⟩
    ·have dz:decide ((0:Int) < (j:Int))=true:=decide_eq_true (by omega)
     have dz':decide (0 < j)=true:=decide_eq_true (by omega);have ck:wr.cell? ⟨b,off + (j - 1),none⟩=some (.int .i64 (l.getD (j - 1) 0)):=hcc (j - 1) (by omega);obtain ⟨i,hi⟩:∃ i:Nat,i=j - 1:=⟨_,rfl⟩;have hij:(j:Int) - 1=(i:Int):=by omega
     have hil:i < l.length:=by omega
     rw [← hi] at ck;by_cases hle:l.getD j 0 <= l.getD i 0
     ·as_aux_lemma =>
      have HF:=hid (HBad.out j hlt (by unfold okAt;rw [hin,← hi,decide_eq_false h0,decide_eq_false (by omega:¬ l.getD i 0 < l.getD j 0)];rfl));have dl:decide (l.getD j 0 <= l.getD i 0)=true:=decide_eq_true hle;generalize l.getD j 0=x at *;generalize l.getD i 0=y at *;clear hin ei hc hcc hon HN HAll HBad HL hle h0 hi;go_wp2
      go_quiet (first | (go_at_call 41;refine Calls.quiet_of_same (HI.out _)))
      have HB1:=hid (b0d HB.out nq);generalize wr.drewN nq=W1 at *;go_wp2;go_ret;exact ⟨by rw [HF.out];rfl,HB1.out⟩
     ·as_aux_lemma =>
      have HN':=hid (hon.out (by unfold okAt;rw [hin,← hi,decide_eq_false h0,decide_eq_true (by omega:l.getD i 0 < l.getD j 0)];rfl));have dl:decide (l.getD j 0 <= l.getD i 0)=false:=decide_eq_false hle;generalize l.getD j 0=x at *;generalize l.getD i 0=y at *;clear hin ei hc hcc hon HN HAll HBad HL hle h0 hi;go_wp2
      go_quiet (first | (go_at_call 41;refine Calls.quiet_of_same (HI.out _)))
      have HB1:=hid (b0d HB.out nq);generalize wr.drewN nq=W1 at *;go_wp2;exact ⟨⟨j + 1,by omega,by go_num,HN'.out,HB1.out⟩,by simp [intOf];omega⟩
  ·as_aux_lemma =>
   obtain rfl:j=l.length:=by omega
   have HF:=hid (HAll.out HN.out);have ei:(decide (1 <= (l.length:Int)) && decide ((l.length:Int) <= 64))=inB (l.length:Int) 1 64:=rfl;rw [ei] at HL;generalize inB (l.length:Int) 1 64=r at *;clear HN HAll HBad ei
   go_wp2_with fail
   refine (HL.out _).mono ?_;rintro e w2 ⟨rfl,hw⟩;subst w2;go_wp2;go_ret;exact ⟨by rw [HF.out];rfl,HB.out⟩
open Go Go.RowKit
set_option maxRecDepth 100000
def CvAt (w:World) (cv:Value):Val->Prop
 | .inl n=>cv=nu n
 | .inr (.inl s)=>cv=st s
 | .inr (.inr (.inl d))=>cv = .agg (dg d).toArray
 | .inr (.inr (.inr (.inl l)))=>a0w w cv l
 | .inr (.inr (.inr (.inr l)))=>a0g w cv l
def ValAt (w:World) (g off:Nat):Val->Prop
 | .inl n=>w.cell? ⟨g,off,none⟩=some (nu n)
 | .inr (.inl s)=>w.cell? ⟨g,off,none⟩=some (st s)
 | .inr (.inr (.inl d))=>∀ j v,(dg d)[j]? = some v->w.cell? ⟨g,off + j,none⟩=some v
 | .inr (.inr (.inr (.inl l)))=>∃ v,w.cell? ⟨g,off,none⟩=some v/\a0w w v l
 | .inr (.inr (.inr (.inr l)))=>∃ v,w.cell? ⟨g,off,none⟩=some v/\a0g w v l
abbrev Tb (w:World):Prop:=Lay.Tabs w
theorem i0L (s:List UInt8):Lay.f0j s=txtB s:=by unfold Lay.f0j txtB;simp
theorem i0M (s:List UInt8) (h:s.length <= 16384):layT s=txtB s:=by unfold layT;rw [if_neg (by omega)]
theorem s0c (s:List UInt8) (h:16384 < s.length):layT s=txtB []:=by unfold layT;rw [if_pos h]
theorem f0y (s:List UInt8) (w:World) (ht:Tb w):Calls prog 80 #[st s] w fun e w'=>e = .returned (st (layT s))/\Below w.heap.size w w':=by
 have hsz:(⟨s.toArray⟩:ByteArray).size=s.length:=rfl;by_cases h:s.length <= 16384
 ·have HT:=hid (Lay.m0k ⟨s.toArray⟩ (by rw [hsz];exact h) w ht)
  have e1:Lay.f0j (⟨s.toArray⟩:ByteArray).data.toList=layT s:=by rw [i0M s h,← i0L]
  rw [e1] at HT;generalize layT s=r at *;clear e1 ht h;go_enter func80,ntmps80
  go_wp2_with fail
  refine HT.out.mono ?_;rintro e w1 ⟨rfl,hb⟩;have HB:=hid hb;clear hb;go_wp2;go_ret;exact ⟨rfl,HB.out⟩
 ·have HT:=hid (Lay.s0b ⟨s.toArray⟩ (by rw [hsz];omega) w)
  have HE:=hid (Lay.m0k ⟨#[]⟩ (by decide) w ht);have e1:Lay.f0j (⟨#[]⟩:ByteArray).data.toList=layT s:=by rw [s0c s (by omega),← i0L]
  rw [e1] at HE;generalize layT s=r at *;clear e1 ht h;go_enter func80,ntmps80
  go_wp2_with fail
  refine HT.out.mono ?_;rintro e w1 ⟨rfl,hw⟩;subst w1
  go_wp2_with fail
  refine HE.out.mono ?_;rintro e w1 ⟨rfl,hb⟩;have HB:=hid hb;clear hb;go_wp2;go_ret;exact ⟨rfl,HB.out⟩
theorem v0l (d:List UInt8):dg d=d.map Go.Proofs.YtagmnmoaekbffaaGreatDoor.cb:=rfl
theorem o0o (d:List UInt8) (hd:d.length=32) (w:World) (ht:Tb w):Calls prog 136 #[.agg (dg d).toArray] w fun e w'=>e = .returned (st (txtB d))/\Below w.heap.size w w':=by
 have HB0:=hid (a0c w (.cells (dg d).toArray 38));have r0:=a0f w (.cells (dg d).toArray 38);have S0:=hid (a0s (off:=0) (A:=[]) (cs:=dg d) (C:=[]) r0 (by simp) rfl);have Z0:(prog.info? 38).map (·.size)=some (dg d).length:=by rw [a0e,hd];exact sizeDig
 have HY:=hid (fun W=>f0J d hd W);have HT:=hid (fun W h=>f0y d W h);rw [← v0l] at HY;rw [i0M d (by omega)] at HT;have HK:=hid (fun (W:World) (hb:Below w.heap.size w W)=>ht.stays hb);generalize txtB d=t at *;generalize dg d=D at *;clear hd r0 ht;go_enter func136,ntmps136;go_upto_region 1 with fail
 generalize w.alloc (.cells D.toArray 38)=W0 at *
 go_wp2_with (first | ((with_reducible refine a0d 38 (.tmp 1) ?_ w.heap.size 0 ?_ ?_ D _ S0.out underlying38 ?_ Z0 ?_);iterate 4 exact rfl))
 refine (HY.out _).mono ?_;rintro e w1 ⟨rfl,hb⟩;have HB1:=hid (a0b HB0.out hb);clear hb
 go_wp2_with fail
 refine (HT.out _ (HK.out _ HB1.out)).mono ?_;rintro e w2 ⟨rfl,hb⟩;have HB2:=hid (a0b HB1.out hb);clear hb;go_wp2;go_ret;exact ⟨rfl,HB2.out⟩
theorem j0J (l:List Int):Lay.b0I l=e0A l:=rfl
theorem m0l {w:World} {v:Value} {l:List Int} (hv:a0w w v l) (hl:l.length <= 512) (hk:∀ n ∈ l,I64 n) (ht:Tb w):Calls prog 176 #[v] w fun e w'=>e = .returned (.tuple #[st (j0t l),nu 0])/\Below w.heap.size w w':=by
 obtain ⟨a,cap,rfl,hc⟩:=hv
 have HL:=hid (Lay.v0k a l.length cap l rfl hl (fun z hz=>hk z hz) w ht (fun j hj=>by
  obtain ⟨b,off,rfl,hcc⟩:=hc (fun e=>by rw [e] at hj;exact absurd hj (Nat.not_lt_zero j))
  exact ⟨b,off,rfl,World.block_lt_of_cell? w _ (hcc j hj),hcc j hj⟩))
 have e1:40 :: Lay.b0I l++[41]=j0t l:=by unfold j0t;rw [if_neg (by omega),j0J];rfl
 rw [e1] at HL;generalize j0t l=r at *;clear e1 ht hc hk;go_enter func176,ntmps176
 go_wp2_with fail
 refine HL.out.mono ?_;rintro e w1 ⟨rfl,hb⟩;have HB:=hid hb;clear hb;go_wp2
 go_ret2
 exact ⟨rfl,HB.out⟩
theorem m0m {w:World} {v:Value} {l:List Int} (hv:a0w w v l) (hl:l.length <= 512) (hk:∀ n ∈ l,I64 n) (ht:Tb w):Calls prog 140 #[v] w fun e w'=>e = .returned (st (j0t l))/\Below w.heap.size w w':=by
 have HN:=hid (m0l hv hl hk ht);obtain ⟨a,cap,rfl,hc⟩:=hv;generalize j0t l=r at *;clear ht hc hk;go_enter func140,ntmps140
 go_wp2_with fail
 refine HN.out.mono ?_;rintro e w1 ⟨rfl,hb⟩;have HB:=hid hb;clear hb;go_wp2;go_ret;exact ⟨rfl,HB.out⟩
open Go Go.RowKit
set_option maxRecDepth 100000
theorem zeroDig:(prog.info? 38).map (·.zero)=some (some (.agg (dg a0n).toArray)):=by kernel_rfl
end Go.Proofs.YtagmnmoaekbffaaGreatDoor.Ms
