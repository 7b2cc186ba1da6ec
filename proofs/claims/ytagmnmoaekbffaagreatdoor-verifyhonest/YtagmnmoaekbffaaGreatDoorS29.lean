/- S29 -/
import Derived.Test.YtagmnmoaekbffaaGreatDoorS11
import Derived.Test.YtagmnmoaekbffaaGreatDoorS05
import Derived.Lib.QuietBelow
import Derived.Test.YtagmnmoaekbffaaGreatDoorS25
import Derived.Test.YtagmnmoaekbffaaGreatDoorS27
import Derived.Test.YtagmnmoaekbffaaGreatDoorS04
import Derived.Laws.EntriesVeiled
set_option maxHeartbeats 4000000
namespace Go.Proofs.YtagmnmoaekbffaaGreatDoor.Hist
open Go.Proofs.Tryz
open Go Go.RowKit
set_option maxRecDepth 100000
theorem a0b {w w1 w2:World} (h1:Below w.heap.size w w1) (h2:Below w1.heap.size w1 w2):Below w.heap.size w w2:=h1.trans (h2.mono h1.size)
theorem o0M (a b:List UInt8) (w:World):Calls prog 77 #[.string ⟨a.toArray⟩,.string ⟨b.toArray⟩] w fun e w'=>e = .returned (.bool (goesB a b))/\w' = w :=
 (Tryz.strings_HasPrefix ⟨a.toArray⟩ ⟨b.toArray⟩ w).mono fun e w' hq=>⟨by rw [hq.1];rfl,hq.2⟩
theorem clone_any (s:List UInt8) (hs:s.length <= 281474976710656) (w:World):Calls prog 58 #[.string ⟨s.toArray⟩] w fun e w'=>e = .returned (.string ⟨s.toArray⟩)/\Below w.heap.size w w':=by
 have HC:=hid (Tryz.stringslite_Clone ⟨s.toArray⟩ w hs);go_enter func58,ntmps58
 go_wp2_with (go_at_call 79;refine HC.out.mono ?_;rintro e w1 ⟨rfl,hb⟩)
 go_ret;exact ⟨rfl,hb⟩
theorem goes_any (a b:List UInt8) (w:World):Calls prog 56 #[.string ⟨a.toArray⟩,.string ⟨b.toArray⟩] w fun e w'=>e = .returned (.bool (goesB a b))/\w' = w:=by
 have HC:=hid (o0M a b w);generalize goesB a b=r at *;go_enter func56,ntmps56
 go_wp2_with (go_at_call 77;refine HC.out.mono ?_;rintro e w1 ⟨rfl,rfl⟩)
 go_ret;exact ⟨rfl,rfl⟩
theorem s0P (l:List UInt8) (k:Nat):(⟨l.toArray⟩:ByteArray).extract 0 k=⟨(l.take k).toArray⟩:=by
 apply ByteArray.ext;simp [ByteArray.data_extract]
theorem upto_any (h:List UInt8) (hl:h.length <= 281474976710656) (c:Int) (w:World):Calls prog 118 #[.string ⟨h.toArray⟩,.int .i64 c] w fun e w'=>e = .returned (.string ⟨(uptoL h c).toArray⟩)/\Below w.heap.size w w':=by
 have HC:=hid (count_any h (by omega) c w);have HP:=hid (fun W=>p0N h (by omega) c (cnt h c) W);have hr:=h0f h c (cnt h c);have hss:(⟨h.toArray⟩:ByteArray).size=h.length:=rfl;obtain ⟨m,hm⟩:∃ m:Nat,placeI h c (cnt h c) + 1=(m:Int):=⟨(placeI h c (cnt h c) + 1).toNat,by omega⟩;have hu:uptoL h c=h.take m:=by unfold uptoL;rw [hm];rfl
 have HK:=hid (fun W=>clone_any (h.take m) (by rw [List.length_take];omega) W);have hx:=s0P h m;have hml:m <= h.length:=by omega
 obtain ⟨p,hp⟩:∃ p,placeI h c (cnt h c)=p:=⟨_,rfl⟩;rw [hp] at HP hm;rw [hu];have hw1:p + 1=(m:Int):=hm;obtain rfl:p=(m:Int) - 1:=by omega
 clear hr hu hm hp hw1;generalize cnt h c=n at *;generalize h.take m=t at *;have HX:=hid hx;clear hx;go_enter func118,ntmps118
 go_wp2_with fail
 refine HC.out.mono ?_;rintro e w1 ⟨rfl,hb1⟩;have HB1:=hid hb1;clear hb1
 go_wp2_with fail
 refine (HP.out _).mono ?_;rintro e w2 ⟨rfl,hb2⟩;have HB2:=hid (a0b HB1.out hb2);clear hb2;have hx:=HX.out
 go_wp2_with fail
 refine (HK.out _).mono ?_;rintro e w3 ⟨rfl,hb3⟩;have HB3:=hid (a0b HB2.out hb3);clear hb3;go_wp2;go_ret;exact ⟨rfl,HB3.out⟩
end Go.Proofs.YtagmnmoaekbffaaGreatDoor.Hist
namespace Go.Proofs.YtagmnmoaekbffaaGreatDoor.Ms
open Go.Proofs.Tryz
open Go Go.RowKit
set_option maxRecDepth 100000
def pubE (m:Msg):Int:=if mayB m=true then 0 else 2
def pubT (m:Msg):List UInt8:=if mayB m=true then putM m else []
theorem q0T {w:World} {m:Msg} {vP vN:Value} (hw:m.Wf) (hr:m.Rng) (hp:a0g w vP m.rep.pend) (hn:a0w w vN m.nums) (hl:Lens m) (ht:Tb w) :
  Calls prog 75 #[.agg (msgC m vP vN).toArray] w fun e w'=>e = .returned (.tuple #[st (pubT m),nu (pubE m)])/\Below w.heap.size w w':=by
 unfold pubT pubE
 cases hm:mayB m with
 | true =>
  rw [if_pos rfl,if_pos rfl];exact v0W hw hr hp hn hl (fun _=>t0G m.rep hw.rep) (fun _=>q0O) hm ht
 | false =>
  rw [if_neg (by simp),if_neg (by simp)];exact u0n hw hr hp hn hl (fun _=>t0G m.rep hw.rep) hm
theorem n0H {w:World} {m:Msg} {vP vN:Value} (hw:m.Wf) (hr:m.Rng) (hp:a0g w vP m.rep.pend) (hn:a0w w vN m.nums) (hl:Lens m) (ht:Tb w) :
  Calls prog 52 #[.agg (msgC m vP vN).toArray] w fun e w'=>e = .returned (.bool (mayB m))/\Below w.heap.size w w':=by
 have HB0:=hid (a0c w (.cells (msgC m vP vN).toArray 80));have R0:=hid (a0f w (.cells (msgC m vP vN).toArray 80));have K1:=hid (q0T hw hr (hp.kept HB0.out) (hn.kept HB0.out) hl (ht.stays HB0.out));have Z0:(prog.info? 80).map (·.size)=some (msgC m vP vN).length:=by rw [d0q hw];exact sizeMsg
 have HE:Hid ((pubE m == 0)=mayB m):=by
  show _=_;unfold pubE
  cases mayB m <;> rfl
 clear hp hn hl hr hw ht;generalize pubT m=T at *;generalize pubE m=E at *;generalize mayB m=B at *;obtain ⟨V,hV⟩:∃ V,V=msgC m vP vN:=⟨_,rfl⟩;rw [← hV] at HB0 R0 K1 Z0 ⊢;clear hV;have S0:=hid (a0s (off:=0) (A:=[]) (cs:=V) (C:=[]) R0.out (by simp) rfl);clear R0;go_enter func52,ntmps52;go_upto_region 1 with fail
 generalize w.alloc (.cells V.toArray 80)=W0 at *
 go_wp2_with (first | ((with_reducible refine a0d 80 (.tmp 1) ?_ w.heap.size 0 ?_ ?_ V _ S0.out underlying80 ?_ Z0 ?_);iterate 4 exact rfl))
 refine K1.out.mono ?_;rintro e w1 ⟨rfl,hb⟩;have HB1:=hid (a0b HB0.out hb);clear hb;go_wp2;go_ret;exact ⟨by rw [← HE.out];rfl,HB1.out⟩
theorem j0Y {w:World} {p n:Nat} {s:List UInt8} (r:RgAt w p s n) (c:Int):Calls prog 73 #[pt p 0,nu c] w fun e w'=>e = .returned (.bool (hasB n c))/\w' = w:=by
 have HC:=hid (h0P r);unfold hasB;clear r;by_cases h:0 <= c
 ·have d1:decide (0 <= c)=true:=decide_eq_true h
  rw [d1,Bool.true_and];clear h;go_enter func73,ntmps73
  go_wp2_with fail
  refine HC.out.mono ?_;rintro e w1 ⟨rfl,hw1⟩;subst w1;go_wp2;go_ret;exact ⟨rfl,rfl⟩
 ·have d1:decide (0 <= c)=false:=decide_eq_false h
  rw [d1,Bool.false_and];clear h;go_enter func73,ntmps73;go_wp2;go_ret;exact ⟨rfl,rfl⟩
theorem u0E {c:Int} {x:Sub} (hx:x.Wf):(subM c x).Wf:=⟨hx,wfZeroR,rfl,rfl,wfZeroB⟩
theorem n0I {w:World} {p n:Nat} {s:List UInt8} (r:RgAt w p s n) {c:Int} {x:Sub} (hx:x.Wf) (hr:(subM c x).Rng) :
  Calls prog 48 #[pt p 0,nu c,.agg (subC x).toArray] w fun e w'=>e = .returned (.bool (vsub n c x))/\Below w.heap.size w w':=by
 have T0:=a0f w (.cells (subC x).toArray 40);have B0:=hid (a0c w (.cells (subC x).toArray 40));have H1:=hid (j0Y (r.kept B0.out) c);have H2:=hid (j0Y (r.kept B0.out) x.target);have HM:=hid (n0H (vP:=.slice none 0 0) (vN:=.slice none 0 0) (u0E (c:=c) hx) hr (a0g.nil (w.alloc (.cells (subC x).toArray 40))) (a0w.nil _) ⟨Nat.zero_le _,Nat.zero_le _⟩ (r.kept B0.out).tb);have cx:=a0O T0 hx;have SX:=hid (a0s (off:=0) (A:=[]) (cs:=subC x) (C:=[]) T0 (by simp) rfl);have HBm:=hid (fun W=>c0g W c x hx);have ZS:(prog.info? 40).map (·.size)=some (subC x).length:=by rw [a0h hx];exact sizeSub
 unfold vsub;clear r hr T0 hx;generalize msgC (subM c x) (.slice none 0 0) (.slice none 0 0)=MV at *;generalize mayB (subM c x)=BM at *;generalize x.target=tg at *;generalize subC x=V at *
 cases e1:hasB n c
 ·rw [e1] at H1
  rw [Bool.false_and];go_enter func48,ntmps48;go_upto_region 1 with fail
  generalize w.alloc (.cells V.toArray 40)=W0 at *
  go_wp2_with fail
  refine H1.out.mono ?_;rintro e w1 ⟨rfl,hw1⟩;subst w1;go_wp2;go_ret;exact ⟨rfl,B0.out⟩
 ·rw [e1] at H1
  rw [Bool.true_and]
  cases e2:hasB n tg
  ·rw [e2] at H2
   rw [Bool.false_and];go_enter func48,ntmps48;go_upto_region 1 with fail
   generalize w.alloc (.cells V.toArray 40)=W0 at *;generalize hX:w.heap.size=X at *
   go_wp2_with fail
   refine H1.out.mono ?_;rintro e w1 ⟨rfl,hw1⟩;subst w1
   go_wp2_with fail
   refine H2.out.mono ?_;rintro e w1 ⟨rfl,hw1⟩;subst w1;go_wp2;go_ret;exact ⟨rfl,hX ▸ B0.out⟩
  ·rw [e2] at H2
   rw [Bool.true_and];go_enter func48,ntmps48;go_upto_region 1 with fail
   generalize w.alloc (.cells V.toArray 40)=W0 at *;have hsz:w.heap.size <= W0.heap.size:=B0.out.size;generalize hX:w.heap.size=X at *
   go_wp2_with fail
   refine H1.out.mono ?_;rintro e w1 ⟨rfl,hw1⟩;subst w1
   go_wp2_with fail
   refine H2.out.mono ?_;rintro e w1 ⟨rfl,hw1⟩;subst w1
   go_wp2_with (first
    | ((with_reducible refine a0d 40 (.tmp 5) ?_ X 0 ?_ ?_ V _ SX.out underlying40 ?_ ZS ?_);iterate 4 exact rfl)
    | ((with_reducible refine e0e 80 [(0,.const (nu 1)),(1,.tmp 17),(2,.tmp 18)] ?_ ?_ MV.toArray ?_ ?_);exact rfl;exact rfl;exact (HBm.out _)))
   refine HM.out.mono ?_;rintro e w1 ⟨rfl,hb⟩;have HB1:=hid (B0.out.trans (hb.mono hsz));clear hb;go_wp2;go_ret;exact ⟨rfl,hX ▸ HB1.out⟩
def judge (k:Nat):Value:=.func (.func 53) #[] #[pt k 0]
structure JgAt (w:World) (k p:Nat) (s:List UInt8) (n:Nat):Prop where
 rg:RgAt w p s n
 cell:w.cell? ⟨k,0,none⟩=some (pt p 0)
theorem JgAt.kept {w w':World} {k p n:Nat} {s:List UInt8} (h:JgAt w k p s n) (hb:Below w.heap.size w w'):JgAt w' k p s n :=
 ⟨h.rg.kept hb,(hb.cell (p:=⟨k,0,none⟩) (World.block_lt_of_cell? w _ h.cell)).trans h.cell⟩
theorem h0Q {w:World} {p n:Nat} {s:List UInt8} (r:RgAt w p s n):Calls prog 27 #[pt p 0] w fun e w'=>e = .returned (judge w.heap.size)/\JgAt w' w.heap.size p s n/\Below w.heap.size w w':=by
 have B0:=hid (a0c w (.cells #[pt p 0] 30));have C0:Hid ((w.alloc (.cells #[pt p 0] 30)).cell? ⟨w.heap.size,0,none⟩=some (pt p 0)):=a0l (A:=[]) (C:=[]) (a0f w (.cells #[pt p 0] 30)) rfl rfl;have R0:=hid (r.kept B0.out);clear r;go_enter func27,ntmps27;go_wp2;go_ret;exact ⟨rfl,⟨R0.out,C0.out⟩,B0.out⟩
theorem e0N {w:World} {k p n:Nat} {s:List UInt8} (h:JgAt w k p s n) (c d:Int) (t D:List UInt8) (hD:D.length=32) :
  Calls prog 53 #[nu c,nu d,st t,.agg (dg D).toArray,pt k 0] w fun e w'=>e = .returned (nu (jdg s n c d t D))/\Below w.heap.size w w':=by
 have T0:=a0f w (.cells (dg D).toArray 38);have B0:=hid (a0c w (.cells (dg D).toArray 38));have h1:=h.kept B0.out;have c0:=h1.cell;have HC:=hid (u0A h1.rg c d t D hD);have SX:=hid (a0s (off:=0) (A:=[]) (cs:=dg D) (C:=[]) T0 (by simp) rfl);have ZS:(prog.info? 38).map (·.size)=some (dg D).length:=by rw [a0e,hD];kernel_rfl
 clear h h1 T0;unfold jdg
 cases hb:chkB s n c d t D
 ·rw [hb] at HC
  rw [if_neg (by decide)];clear hb;generalize dg D=V at *;go_enter func53,ntmps53;go_upto_region 1 with fail
  generalize w.alloc (.cells V.toArray 38)=W0 at *;have hsz:w.heap.size <= W0.heap.size:=B0.out.size;generalize hX:w.heap.size=X at *
  go_wp2_with ((with_reducible refine a0d 38 (.tmp 8) ?_ X 0 ?_ ?_ V _ SX.out underlying38 ?_ ZS ?_);iterate 4 exact rfl)
  refine HC.out.mono ?_;rintro e w1 ⟨rfl,hb⟩;have HB1:=hid (B0.out.trans (hb.mono hsz));clear hb;go_wp2;go_ret;exact ⟨rfl,hX ▸ HB1.out⟩
 ·rw [hb] at HC
  rw [if_pos rfl];clear hb;generalize dg D=V at *;go_enter func53,ntmps53;go_upto_region 1 with fail
  generalize w.alloc (.cells V.toArray 38)=W0 at *;have hsz:w.heap.size <= W0.heap.size:=B0.out.size;generalize hX:w.heap.size=X at *
  go_wp2_with ((with_reducible refine a0d 38 (.tmp 8) ?_ X 0 ?_ ?_ V _ SX.out underlying38 ?_ ZS ?_);iterate 4 exact rfl)
  refine HC.out.mono ?_;rintro e w1 ⟨rfl,hb⟩;have HB1:=hid (B0.out.trans (hb.mono hsz));clear hb;go_wp2;go_ret;exact ⟨rfl,hX ▸ HB1.out⟩
theorem s0Q (c:Int) (h:0 <= c/\c < 256):Go.Proofs.YtagmnmoaekbffaaGreatDoor.bv (by8 c)=c:=d0Q c h
theorem j0f (d:List UInt8) (hd:d.length <= 140737488351232) (c:Int) (hc:0 <= c/\c < 256) (w:World) :
  Calls prog 30 #[st d,nu c] w fun e w'=>e = .returned (st (d++[by8 c]))/\Below w.heap.size w w':=by
 have hu:brow (w.alloc (.cells #[.int .u8 c] 5)) w.heap.size (.slice (some ⟨w.heap.size,0,none⟩) 1 1) [by8 c]:=by
  have:=g0S w w.heap.size (by8 c) (Nat.le_refl _);rw [s0Q c hc] at this;exact this
 have hcv:=h0w hu;have B0:=hid (a0c w (.cells #[.int .u8 c] 5));have hwr:IntKind.u8.wrap c=c:=by rw [IntKind.wrap_u8];omega
 have hz:(⟨d.toArray⟩:ByteArray).size=d.length:=rfl;have hz1:(⟨[by8 c].toArray⟩:ByteArray).size=1:=rfl;have happ:(⟨d.toArray⟩:ByteArray)++(⟨[by8 c].toArray⟩:ByteArray)=⟨(d++[by8 c]).toArray⟩:=ByteArray.mk_append_mk d [by8 c];clear hu;go_enter func30,ntmps30;go_wp2;go_ret;exact ⟨rfl,B0.out⟩
open Go Go.RowKit
set_option maxRecDepth 100000
theorem u0F (n:Int) (h0:-9223372036854775808 <= n) (h1:n <= 9223372036854775806):IntKind.i64.wrap (n + 1)=n + 1:=by rw [IntKind.wrap_i64];omega
theorem l0n {n:Nat} (h:n <= 140737488351232):n < 9223372036854775807:=by omega
theorem o0N {w:World} {p n:Nat} {s:List UInt8} (r:RgAt w p s n) {me:Int} {view:List UInt8} (hv:view.length <= 140737488351232) {x:Sub} (hx:x.Wf) (hr:(subM me x).Rng) :
  Calls prog 25 #[pt p 0,nu me,st view,.agg (subC x).toArray] w fun e w'=>e = .returned (.bool (i0o n me view x))/\Below w.heap.size w w':=by
 have T0:=a0f w (.cells (subC x).toArray 40);have B0:=hid (a0c w (.cells (subC x).toArray 40));have r0:=r.kept B0.out;have H1:=regr (fun W hb=>n0I (r0.kept hb) hx hr);have H2:=regr (fun W hb=>(h0P (r0.kept hb)).mono (fun _ _ h=>⟨h.1,by rw [h.2];exact Below.refl _ _⟩));have H3:=regr (w:=w.alloc (.cells (subC x).toArray 40)) (fun W _=>Hist.right_any view (n:Int) W);have H4:=regr (w:=w.alloc (.cells (subC x).toArray 40)) (fun W _=>Hist.count_any view (l0n hv) me W);have hcl:=Hist.cnt_le view me;have hw1:=u0F (Hist.cnt view me:Int) (by omega) (by omega);have HLd:=hid (d0t _ w.heap.size (subC x) 40 T0);have hc0:∀ dd os,(Sort.grow (redrawn (w.alloc (.cells (subC x).toArray 40)) dd) os).cell? ⟨w.heap.size,0,none⟩=some (nu x.number):=fun dd os=>cell_regrown (a0N T0 hx) _ _;have ZS:=szSY hx;unfold i0o;clear r r0 hr T0 hx hv hcl;generalize x.number=xn at *;generalize (Hist.cnt view me:Int)=cn at *;generalize subC x=V at *;generalize vsub n me x=B1 at *;generalize Hist.rightB view (n:Int)=B2 at *
 cases B1
 ·rw [Bool.false_and]
  go_enter func25,ntmps25;go_upto_region 1 with fail
  generalize w.alloc (.cells V.toArray 40)=W0 at *;refine wp_region_quiet_below (by kernel_rfl) (by kernel_rfl) ?_
  iterate 2 (first | go_big_quiet_step (fail) | quiet_step (fail))
  refine b0k rfl 40 _ rfl w.heap.size rfl V _ HLd.out underlying40 rfl ZS ?_
  repeat (first | go_big_quiet_step (exact H1.out _ _) | quiet_step (exact H1.out _ _))
  refine wpQuiet_nil ?_;intro _ hw';obtain ⟨⟨dq,osq⟩,hw''⟩:=hw';subst hw'';have HB2:=hid (a0b B0.out (below_regrown W0 dq osq));clear hc0 H1 H2 H3 H4 HLd;go_wp2;go_ret;exact ⟨rfl,HB2.out⟩
 ·rw [Bool.true_and]
  cases B2
  ·rw [Bool.false_and]
   go_enter func25,ntmps25;go_upto_region 1 with fail
   generalize w.alloc (.cells V.toArray 40)=W0 at *;refine wp_region_quiet_below (by kernel_rfl) (by kernel_rfl) ?_
   iterate 2 (first | go_big_quiet_step (fail) | quiet_step (fail))
   refine b0k rfl 40 _ rfl w.heap.size rfl V _ HLd.out underlying40 rfl ZS ?_
   iterate 2 (first | go_big_quiet_step (exact H1.out _ _) | quiet_step (exact H1.out _ _))
   iterate 3 (first | go_big_quiet_step (exact H2.out _ _) | quiet_step (exact H2.out _ _))
   repeat (first | go_big_quiet_step (exact H3.out _ _) | quiet_step (exact H3.out _ _))
   refine wpQuiet_nil ?_;intro _ hw';obtain ⟨⟨dq,osq⟩,hw''⟩:=hw';subst hw'';have HB2:=hid (a0b B0.out (below_regrown W0 dq osq));clear hc0 H1 H2 H3 H4 HLd;go_wp2;go_ret;exact ⟨rfl,HB2.out⟩
  ·rw [Bool.true_and]
   cases hB3:(xn == cn + 1)
   all_goals (
    go_enter func25,ntmps25;go_upto_region 1 with fail
    generalize w.alloc (.cells V.toArray 40)=W0 at *;refine wp_region_quiet_below (by kernel_rfl) (by kernel_rfl) ?_
    iterate 2 (first | go_big_quiet_step (fail) | quiet_step (fail))
    refine b0k rfl 40 _ rfl w.heap.size rfl V _ HLd.out underlying40 rfl ZS ?_
    iterate 2 (first | go_big_quiet_step (exact H1.out _ _) | quiet_step (exact H1.out _ _))
    iterate 3 (first | go_big_quiet_step (exact H2.out _ _) | quiet_step (exact H2.out _ _))
    iterate 3 (first | go_big_quiet_step (exact H3.out _ _) | quiet_step (exact H3.out _ _))
    repeat (first | go_big_quiet_step (exact H4.out _ _) | quiet_step (exact H4.out _ _))
    refine wpQuiet_nil ?_;intro _ hw';obtain ⟨⟨dq,osq⟩,hw''⟩:=hw';subst hw'';have HB2:=hid (a0b B0.out (below_regrown W0 dq osq));clear hc0 H1 H2 H3 H4 HLd;go_wp2;go_ret;exact ⟨rfl,HB2.out⟩
    )
theorem o0O (W:World) (y:Rep) (hy:y.Wf) (v:Value):(Instr.build 80 #[(0,nu 2),(3,.agg (repC y v).toArray)]).run prog W = .ok (.agg (msgC (repM y) v (.slice none 0 0)).toArray) W:=by
 refine c0f u0z underlying80 zeroMsgs (by kernel_rfl) msgS rfl (g0o _ _ (by kernel_rfl)) [(0,[nu 2],nu 2),(3,repC y v,.agg (repC y v).toArray)] ?_ _ ?_
 ·intro z hz
  simp only [List.mem_cons,List.not_mem_nil,or_false] at hz;rcases hz with rfl | rfl
  ·exact ⟨rfl,_,rfl,rfl⟩
  ·exact ⟨rfl,_,rfl,by rw [a0j hy,a0j wfZeroR]⟩
 ·simp [msgS,msgC,repM,b0m]
structure RepRng (y:Rep):Prop where
 number:I64 y.number
 last:I64 y.last
 vnum:I64 y.vnum
 ps:∀ p ∈ y.pend,penOk p
theorem u0G {y:Rep} (hy:y.Wf):(repM y).Wf:=⟨wfZeroS,hy,rfl,rfl,wfZeroB⟩
theorem s0R {y:Rep} (hr:RepRng y):(repM y).Rng :=
 ⟨⟨by show (-9223372036854775808:Int) <= 2;decide,by show (2:Int) <= _;decide⟩,a0r,a0r,a0r,a0r,hr.number,hr.last,hr.vnum,a0r,a0r,a0r,(fun n hn=>by cases hn),hr.ps⟩
theorem j0Z {w:World} (ht:Tb w) {x:Sub} (hx:x.Wf) {y:Rep} (hy:y.Wf) (hr:RepRng y) {v:Value} (hp:a0g w v y.pend) (hl:y.pend.length <= 9223372036854775807) :
  Calls prog 26 #[.agg (subC x).toArray,.agg (repC y v).toArray] w fun e w'=>e = .returned (.bool (f0T x y))/\Below w.heap.size w w':=by
 have B0:=a0c w (.cells (subC x).toArray 40);have B1:=hid (a0b B0 (a0c (w.alloc (.cells (subC x).toArray 40)) (.cells (repC y v).toArray 44)));have T0:=a0a (a0f w (.cells (subC x).toArray 40)) (a0c (w.alloc (.cells (subC x).toArray 40)) (.cells (repC y v).toArray 44));have T1:=a0f (w.alloc (.cells (subC x).toArray 40)) (.cells (repC y v).toArray 44);have e1:(w.alloc (.cells (subC x).toArray 40)).heap.size=w.heap.size + 1:=by simp
 rw [e1] at T1;have HM:=hid (n0H (vP:=v) (vN:=.slice none 0 0) (u0G hy) (s0R hr) (hp.kept B1.out) (a0w.nil _) ⟨hl,Nat.zero_le _⟩ (ht.stays B1.out));have c0:=hid (a0N T0 hx);have c1:=hid (c0s T1 hy);have SX:=hid (a0k T1);have HBm:=hid (fun W=>o0O W y hy v);have ZS:=szRY hy v;unfold f0T;clear ht hr hp hl T0 T1 hx hy B0;generalize msgC (repM y) v (.slice none 0 0)=MV at *;generalize mayB (repM y)=BM at *;generalize x.number=xn at *;generalize y.number=yn at *;generalize subC x=V at *;generalize repC y v=U at *
 cases BM
 ·rw [Bool.false_and]
  go_enter func26,ntmps26;go_upto_region 1 with fail
  try simp only [e1]
  generalize (w.alloc (.cells V.toArray 40)).alloc (.cells U.toArray 44)=W0 at *;have hsz:w.heap.size <= W0.heap.size:=B1.out.size;clear e1;generalize w.heap.size + 1=Y at *;generalize hX:w.heap.size=X at *
  go_wp2_with (first
   | ((with_reducible refine a0d 44 (.tmp 3) ?_ Y 0 ?_ ?_ U _ SX.out underlying44 ?_ ZS ?_);iterate 4 exact rfl)
   | ((with_reducible refine e0e 80 [(0,.const (nu 2)),(3,.tmp 5)] ?_ ?_ MV.toArray ?_ ?_);exact rfl;exact rfl;exact (HBm.out _)))
  refine HM.out.mono ?_;rintro e w1 ⟨rfl,hb⟩;have HB1:=hid (B1.out.trans (hb.mono hsz));clear hb;go_wp2;go_ret;exact ⟨rfl,hX ▸ HB1.out⟩
 ·rw [Bool.true_and]
  go_enter func26,ntmps26;go_upto_region 1 with fail
  try simp only [e1]
  generalize (w.alloc (.cells V.toArray 40)).alloc (.cells U.toArray 44)=W0 at *;have hsz:w.heap.size <= W0.heap.size:=B1.out.size;clear e1;generalize w.heap.size + 1=Y at *;generalize hX:w.heap.size=X at *
  go_wp2_with (first
   | ((with_reducible refine a0d 44 (.tmp 3) ?_ Y 0 ?_ ?_ U _ SX.out underlying44 ?_ ZS ?_);iterate 4 exact rfl)
   | ((with_reducible refine e0e 80 [(0,.const (nu 2)),(3,.tmp 5)] ?_ ?_ MV.toArray ?_ ?_);exact rfl;exact rfl;exact (HBm.out _)))
  refine HM.out.mono ?_;rintro e w1 ⟨rfl,hb⟩;have HB1:=hid (B1.out.trans (hb.mono hsz));have d0:=j0d c0.out hb;have d1:=j0d c1.out hb;clear hb;go_wp2;go_ret;exact ⟨rfl,hX ▸ HB1.out⟩
end Go.Proofs.YtagmnmoaekbffaaGreatDoor.Ms
namespace Go.Proofs.YtagmnmoaekbffaaGreatDoor.Hist
open Go.Proofs.Tryz
open Go Go.RowKit
set_option maxRecDepth 100000
theorem rcount_any (h:List UInt8) (hl:h.length < 9223372036854775807) (c:Int) (w:World):Calls prog 21 #[.string ⟨h.toArray⟩,.int .i64 c] w fun e w'=>e = .returned (.int .i64 (cnt h c))/\w' = w:=by
 have hss:(⟨h.toArray⟩:ByteArray).size=h.length:=rfl;go_enter func21,ntmps21;go_wp2;go_loopw [5,6] (fun v i w'=>∃ j:Nat,j <= h.length/\i = .int .i64 j/\v = .int .i64 (cnt (h.take j) c)/\w' = w) (fun _ i _=>h.length - (intOf i).toNat)
 case atStart=>exact ⟨0,by omega,rfl,rfl,rfl⟩
 case round =>
  obtain ⟨j,hj,rfl,rfl,hw⟩:=hrel;subst wr;by_cases hlt:j < h.length
  ·have d1:decide ((j:Int) < (h.length:Int))=true:=by simp;omega
   have hq:((⟨h.toArray⟩:ByteArray)[j]'(by rw [hss];exact hlt)).toNat=(h.getD j 0).toNat:=h0F h j _;have hs:=cnt_step h j hlt c;have hx:bv (h.getD j 0)=((h.getD j 0).toNat:Int):=rfl;have hx2:(h.getD j 0).toNat < 256:=(h.getD j 0).toNat_lt;have hcl:=Nat.le_trans (cnt_take_le h j c) (cnt_le h c);have HS:=hid hs;generalize (h.getD j 0).toNat=x at *;clear hs;by_cases he:bv (h.getD j 0)=c
   ·have HS':=HS.out
    rw [if_pos he] at HS';have HS2:=hid HS';have d2:((x:Int) == c)=true:=by rw [← hx];simpa using he
    clear HS HS' he hx;generalize cnt (h.take j) c=m at *;go_wp2;exact ⟨⟨j + 1,by omega,by go_num,by rw [HS2.out];go_num,trivial⟩,by simp [intOf];omega⟩
   ·have HS':=HS.out
    rw [if_neg he] at HS';have HS2:=hid HS';have d2:((x:Int) == c)=false:=by rw [← hx];simpa using he
    clear HS HS' he hx;generalize cnt (h.take j) c=m at *;go_wp2;exact ⟨⟨j + 1,by omega,by go_num,by rw [HS2.out];rfl,trivial⟩,by simp [intOf];omega⟩
  ·obtain rfl:j=h.length:=by omega
   have e:=cnt_all h c;rw [e];go_wp2;go_ret;exact ⟨rfl,rfl⟩
theorem t0H (x:Nat) (n:Int) (b:Bool) (h:decide (n <= (x:Int))=b):decide (n - 1 < (x:Int))=b:=by
 rw [← h];by_cases e:n <= (x:Int)
 ·rw [decide_eq_true e,decide_eq_true (by omega)]
 ·rw [decide_eq_false e,decide_eq_false (by omega)]
theorem rright_any (h:List UInt8) (n:Int) (w:World):Calls prog 46 #[.string ⟨h.toArray⟩,.int .i64 n] w fun e w'=>e = .returned (.bool (rightB h n))/\w' = w:=by
 have hss:(⟨h.toArray⟩:ByteArray).size=h.length:=rfl;by_cases h1:n < 1
 ·rw [g0t h n h1]
  have d1:decide (n < 1)=true:=decide_eq_true h1;go_enter func46,ntmps46;go_wp2;go_ret;exact ⟨rfl,rfl⟩
 by_cases h2:256 < n
 ·rw [g0u h n h2]
  have d1:decide (n < 1)=false:=decide_eq_false h1;have d2:decide (256 < n)=true:=decide_eq_true h2;clear h1 h2;go_enter func46,ntmps46;go_wp2;go_ret;exact ⟨rfl,rfl⟩
 by_cases h3:512 < h.length
 ·rw [g0v h n h3]
  have d1:decide (n < 1)=false:=decide_eq_false h1;have d2:decide (256 < n)=false:=decide_eq_false h2;have d3:decide ((512:Int) < (h.length:Int))=true:=by simp;omega
  clear h1 h2 h3;go_enter func46,ntmps46;go_wp2;go_ret;exact ⟨rfl,rfl⟩
 have d1:decide (n < 1)=false:=decide_eq_false h1;have d2:decide (256 < n)=false:=decide_eq_false h2;have d3:decide ((512:Int) < (h.length:Int))=false:=by simp;omega
 have HR:=hid (i0w h n h1 h2 h3);have hn1:1 <= n/\n <= 256:=by omega
 have h3':h.length <= 512:=by omega
 clear h1 h2 h3;go_enter func46,ntmps46;go_wp2;go_loopw [5] (fun i w'=>∃ j:Nat,j <= h.length/\i = .int .i64 j/\Hid (∀ k,k < j->bv (h.getD k 0) < n)/\w' = w) (fun i _=>h.length - (intOf i).toNat)
 case atStart=>exact ⟨0,by omega,rfl,fun k hk=>absurd hk (Nat.not_lt_zero k),rfl⟩
 case round =>
  obtain ⟨j,hj,rfl,HN,hw⟩:=hrel;subst wr;by_cases hlt:j < h.length
  ·have e1:decide ((j:Int) < (h.length:Int))=true:=by simp;omega
   have hq:((⟨h.toArray⟩:ByteArray)[j]'(by rw [hss];exact hlt)).toNat=(h.getD j 0).toNat:=h0F h j _;have hx:bv (h.getD j 0)=((h.getD j 0).toNat:Int):=rfl;have hx2:(h.getD j 0).toNat < 256:=(h.getD j 0).toNat_lt;by_cases he:n <= bv (h.getD j 0)
   ·have HP:=hid (g0w h n j hlt he)
    have d4:decide (n - 1 < ((h.getD j 0).toNat:Int))=true:=t0H _ n _ (decide_eq_true (by rw [← hx];exact he));generalize (h.getD j 0).toNat=x at *;clear he hx HR HN;go_wp2;go_ret;exact ⟨by rw [HP.out];rfl,rfl⟩
   ·have HN':Hid (∀ k,k < j + 1->bv (h.getD k 0) < n):=fun k hk=>by
     by_cases e:k=j
     ·rw [e];omega
     ·exact HN.out k (by omega)
    have d4:decide (n - 1 < ((h.getD j 0).toNat:Int))=false:=t0H _ n _ (decide_eq_false (by rw [← hx];exact he));generalize (h.getD j 0).toNat=x at *;clear he hx HR HN;go_wp2;exact ⟨⟨j + 1,by omega,by go_num,HN'.out,trivial⟩,by simp [intOf];omega⟩
  ·obtain rfl:j=h.length:=by omega
   have HP:=hid (HR.out HN.out);clear HR HN;go_wp2;go_ret;exact ⟨by rw [HP.out];rfl,rfl⟩
end Go.Proofs.YtagmnmoaekbffaaGreatDoor.Hist
