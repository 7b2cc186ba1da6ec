/-
  What hist.Goes, Fit, Longer and Upto answer.
-/
import Derived.Test.YthkkjjlpahdagaaGreatDoorS11
import Derived.Test.YthkkjjlpahdagaaGreatDoorS05
import Derived.Lib.QuietBelow
import Derived.Test.YthkkjjlpahdagaaGreatDoorS25
import Derived.Test.YthkkjjlpahdagaaGreatDoorS27
import Derived.Test.YthkkjjlpahdagaaGreatDoorS04
import Derived.Laws.EntriesVeiled
set_option maxHeartbeats 4000000
namespace Go.Proofs.YthkkjjlpahdagaaGreatDoor.Hist
open Go Go.RowKit
set_option maxRecDepth 100000
theorem below_two {w w1 w2:World} (h1:Below w.heap.size w w1) (h2:Below w1.heap.size w1 w2):Below w.heap.size w w2:=h1.trans (h2.mono h1.size)
theorem prefix_any (a b:List UInt8) (w:World):Calls Tryz.prog 87 #[.string ⟨a.toArray⟩,.string ⟨b.toArray⟩] w fun e w'=>e = .returned (.bool (goesB a b))∧w' = w :=
 (Tryz.strings_HasPrefix ⟨a.toArray⟩ ⟨b.toArray⟩ w).mono fun e w' hq=>⟨by rw [hq.1];rfl,hq.2⟩
theorem clone_any (s:List UInt8) (hs:s.length ≤ 281474976710656) (w:World):Calls Tryz.prog 59 #[.string ⟨s.toArray⟩] w fun e w'=>e = .returned (.string ⟨s.toArray⟩)∧Below w.heap.size w w':=by
 have HC:=hid (Tryz.stringslite_Clone ⟨s.toArray⟩ w hs)
 go_enter Tryz.func59,Tryz.ntmps59
 go_wp2_with (go_at_call 88;refine HC.out.mono ?_;rintro e w1 ⟨rfl,hb⟩)
 go_ret
 exact ⟨rfl,hb⟩
theorem goes_any (a b:List UInt8) (w:World):Calls Tryz.prog 57 #[.string ⟨a.toArray⟩,.string ⟨b.toArray⟩] w fun e w'=>e = .returned (.bool (goesB a b))∧w' = w:=by
 have HC:=hid (prefix_any a b w)
 generalize goesB a b=r at *
 go_enter Tryz.func57,Tryz.ntmps57
 go_wp2_with (go_at_call 87;refine HC.out.mono ?_;rintro e w1 ⟨rfl,rfl⟩)
 go_ret
 exact ⟨rfl,rfl⟩
theorem ext_take (l:List UInt8) (k:Nat):(⟨l.toArray⟩:ByteArray).extract 0 k=⟨(l.take k).toArray⟩:=by
 apply ByteArray.ext
 simp [ByteArray.data_extract]
theorem upto_any (h:List UInt8) (hl:h.length ≤ 281474976710656) (c:Int) (w:World):Calls Tryz.prog 50 #[.string ⟨h.toArray⟩,.int .i64 c] w fun e w'=>e = .returned (.string ⟨(uptoL h c).toArray⟩)∧Below w.heap.size w w':=by
 have HC:=hid (count_any h (by omega) c w)
 have HP:=hid (fun W=>place_any h (by omega) c (cnt h c) W)
 have hr:=place_range h c (cnt h c)
 have hss:(⟨h.toArray⟩:ByteArray).size=h.length:=rfl
 obtain ⟨m,hm⟩:∃ m:Nat,placeI h c (cnt h c) + 1=(m:Int):=⟨(placeI h c (cnt h c) + 1).toNat,by omega⟩
 have hu:uptoL h c=h.take m:=by unfold uptoL;rw [hm];rfl
 have HK:=hid (fun W=>clone_any (h.take m) (by rw [List.length_take];omega) W)
 have hx:=ext_take h m
 have hml:m ≤ h.length:=by omega
 obtain ⟨p,hp⟩:∃ p,placeI h c (cnt h c)=p:=⟨_,rfl⟩
 rw [hp] at HP hm
 rw [hu]
 have hw1:p + 1=(m:Int):=hm
 obtain rfl:p=(m:Int) - 1:=by omega
 clear hr hu hm hp hw1
 generalize cnt h c=n at *
 generalize h.take m=t at *
 have HX:=hid hx
 clear hx
 go_enter Tryz.func50,Tryz.ntmps50
 go_wp2_with fail
 refine HC.out.mono ?_
 rintro e w1 ⟨rfl,hb1⟩
 have HB1:=hid hb1
 clear hb1
 go_wp2_with fail
 refine (HP.out _).mono ?_
 rintro e w2 ⟨rfl,hb2⟩
 have HB2:=hid (below_two HB1.out hb2)
 clear hb2
 have hx:=HX.out
 go_wp2_with fail
 refine (HK.out _).mono ?_
 rintro e w3 ⟨rfl,hb3⟩
 have HB3:=hid (below_two HB2.out hb3)
 clear hb3
 go_wp2
 go_ret
 exact ⟨rfl,HB3.out⟩
end Go.Proofs.YthkkjjlpahdagaaGreatDoor.Hist
namespace Go.Proofs.YthkkjjlpahdagaaGreatDoor.Ms
open Go Go.RowKit
set_option maxRecDepth 100000
def pubE (m:Msg):Int:=if mayB m=true then 0 else 2
def pubT (m:Msg):List UInt8:=if mayB m=true then putM m else []
theorem put_every {w:World} {m:Msg} {vP vN:Value} (hw:m.Wf) (hr:m.Rng) (hp:PensAt w vP m.rep.pend) (hn:IntsAt w vN m.nums) (hl:Lens m) (ht:Tb w) :
  Calls Tryz.prog 79 #[.agg (msgC m vP vN).toArray] w fun e w'=>e = .returned (.tuple #[st (pubT m),nu (pubE m)])∧Below w.heap.size w w':=by
 unfold pubT pubE
 cases hm:mayB m with
 | true =>
  rw [if_pos rfl,if_pos rfl]
  exact put_ok hw hr hp hn hl (fun _=>repmay m.rep hw.rep) (fun _=>mkLayPens) hm ht
 | false =>
  rw [if_neg (by simp),if_neg (by simp)]
  exact put_bad hw hr hp hn hl (fun _=>repmay m.rep hw.rep) hm
theorem vmay_any {w:World} {m:Msg} {vP vN:Value} (hw:m.Wf) (hr:m.Rng) (hp:PensAt w vP m.rep.pend) (hn:IntsAt w vN m.nums) (hl:Lens m) (ht:Tb w) :
  Calls Tryz.prog 46 #[.agg (msgC m vP vN).toArray] w fun e w'=>e = .returned (.bool (mayB m))∧Below w.heap.size w w':=by
 have HB0:=hid (below_a1 w (.cells (msgC m vP vN).toArray 102))
 have R0:=hid (top_obj w (.cells (msgC m vP vN).toArray 102))
 have K1:=hid (put_every hw hr (hp.kept HB0.out) (hn.kept HB0.out) hl (ht.stays HB0.out))
 have Z0:(Tryz.prog.info? 102).map (·.size)=some (msgC m vP vN).length:=by rw [msgC_len hw];exact sizeMsg
 have HE:Hid ((pubE m == 0)=mayB m):=by
  show _=_
  unfold pubE
  cases mayB m <;> rfl
 clear hp hn hl hr hw ht
 generalize pubT m=T at *
 generalize pubE m=E at *
 generalize mayB m=B at *
 obtain ⟨V,hV⟩:∃ V,V=msgC m vP vN:=⟨_,rfl⟩
 rw [← hV] at HB0 R0 K1 Z0 ⊢
 clear hV
 have S0:=hid (row_seg (off:=0) (A:=[]) (cs:=V) (C:=[]) R0.out (by simp) rfl)
 clear R0
 go_enter Tryz.func46,Tryz.ntmps46
 go_upto_region 1 with fail
 generalize w.alloc (.cells V.toArray 102)=W0 at *
 go_wp2_with (first | ((with_reducible refine wl_load 102 (.tmp 1) ?_ w.heap.size 0 ?_ ?_ V _ S0.out Tryz.underlying102 ?_ Z0 ?_);iterate 4 exact rfl))
 refine K1.out.mono ?_
 rintro e w1 ⟨rfl,hb⟩
 have HB1:=hid (below_two HB0.out hb)
 clear hb
 go_wp2
 go_ret
 exact ⟨by rw [← HE.out];rfl,HB1.out⟩
theorem vhas_any {w:World} {p n:Nat} {s:List UInt8} (r:RgAt w p s n) (c:Int):Calls Tryz.prog 45 #[pt p 0,nu c] w fun e w'=>e = .returned (.bool (hasB n c))∧w' = w:=by
 have HC:=hid (rgclients r)
 unfold hasB
 clear r
 by_cases h:0 ≤ c
 ·have d1:decide (0 ≤ c)=true:=decide_eq_true h
  rw [d1,Bool.true_and]
  clear h
  go_enter Tryz.func45,Tryz.ntmps45
  go_wp2_with fail
  refine HC.out.mono ?_
  rintro e w1 ⟨rfl,hw1⟩
  subst w1
  go_wp2
  go_ret
  exact ⟨rfl,rfl⟩
 ·have d1:decide (0 ≤ c)=false:=decide_eq_false h
  rw [d1,Bool.false_and]
  clear h
  go_enter Tryz.func45,Tryz.ntmps45
  go_wp2
  go_ret
  exact ⟨rfl,rfl⟩
theorem vsub_wf {c:Int} {x:Sub} (hx:x.Wf):(subM c x).Wf:=⟨hx,wfZeroR,rfl,rfl,wfZeroB⟩
theorem vsub_any {w:World} {p n:Nat} {s:List UInt8} (r:RgAt w p s n) {c:Int} {x:Sub} (hx:x.Wf) (hr:(subM c x).Rng) :
  Calls Tryz.prog 16 #[pt p 0,nu c,.agg (subC x).toArray] w fun e w'=>e = .returned (.bool (vsub n c x))∧Below w.heap.size w w':=by
 have T0:=top_obj w (.cells (subC x).toArray 39)
 have B0:=hid (below_a1 w (.cells (subC x).toArray 39))
 have H1:=hid (vhas_any (r.kept B0.out) c)
 have H2:=hid (vhas_any (r.kept B0.out) x.target)
 have HM:=hid (vmay_any (vP:=.slice none 0 0) (vN:=.slice none 0 0) (vsub_wf (c:=c) hx) hr (PensAt.nil (w.alloc (.cells (subC x).toArray 39))) (IntsAt.nil _) ⟨Nat.zero_le _,Nat.zero_le _⟩ (r.kept B0.out).tb)
 have cx:=srow_target T0 hx
 have SX:=hid (row_seg (off:=0) (A:=[]) (cs:=subC x) (C:=[]) T0 (by simp) rfl)
 have HBm:=hid (fun W=>build_subm W c x hx)
 have ZS:(Tryz.prog.info? 39).map (·.size)=some (subC x).length:=by rw [subC_len hx];exact sizeSub
 unfold vsub
 clear r hr T0 hx
 generalize msgC (subM c x) (.slice none 0 0) (.slice none 0 0)=MV at *
 generalize mayB (subM c x)=BM at *
 generalize x.target=tg at *
 generalize subC x=V at *
 cases e1:hasB n c
 ·rw [e1] at H1
  rw [Bool.false_and]
  go_enter Tryz.func16,Tryz.ntmps16
  go_upto_region 1 with fail
  generalize w.alloc (.cells V.toArray 39)=W0 at *
  go_wp2_with fail
  refine H1.out.mono ?_
  rintro e w1 ⟨rfl,hw1⟩
  subst w1
  go_wp2
  go_ret
  exact ⟨rfl,B0.out⟩
 ·rw [e1] at H1
  rw [Bool.true_and]
  cases e2:hasB n tg
  ·rw [e2] at H2
   rw [Bool.false_and]
   go_enter Tryz.func16,Tryz.ntmps16
   go_upto_region 1 with fail
   generalize w.alloc (.cells V.toArray 39)=W0 at *
   generalize hX:w.heap.size=X at *
   go_wp2_with fail
   refine H1.out.mono ?_
   rintro e w1 ⟨rfl,hw1⟩
   subst w1
   go_wp2_with fail
   refine H2.out.mono ?_
   rintro e w1 ⟨rfl,hw1⟩
   subst w1
   go_wp2
   go_ret
   exact ⟨rfl,hX ▸ B0.out⟩
  ·rw [e2] at H2
   rw [Bool.true_and]
   go_enter Tryz.func16,Tryz.ntmps16
   go_upto_region 1 with fail
   generalize w.alloc (.cells V.toArray 39)=W0 at *
   have hsz:w.heap.size ≤ W0.heap.size:=B0.out.size
   generalize hX:w.heap.size=X at *
   go_wp2_with fail
   refine H1.out.mono ?_
   rintro e w1 ⟨rfl,hw1⟩
   subst w1
   go_wp2_with fail
   refine H2.out.mono ?_
   rintro e w1 ⟨rfl,hw1⟩
   subst w1
   go_wp2_with (first
    | ((with_reducible refine wl_load 39 (.tmp 5) ?_ X 0 ?_ ?_ V _ SX.out Tryz.underlying39 ?_ ZS ?_);iterate 4 exact rfl)
    | ((with_reducible refine wl_buildY 102 [(0,.const (nu 1)),(1,.tmp 17),(2,.tmp 18)] ?_ ?_ MV.toArray ?_ ?_);exact rfl;exact rfl;exact (HBm.out _)))
   refine HM.out.mono ?_
   rintro e w1 ⟨rfl,hb⟩
   have HB1:=hid (B0.out.trans (hb.mono hsz))
   clear hb
   go_wp2
   go_ret
   exact ⟨rfl,hX ▸ HB1.out⟩
def judge (k:Nat):Value:=.func (.func 48) #[] #[pt k 0]
structure JgAt (w:World) (k p:Nat) (s:List UInt8) (n:Nat):Prop where
 rg:RgAt w p s n
 cell:w.cell? ⟨k,0,none⟩=some (pt p 0)
theorem JgAt.kept {w w':World} {k p n:Nat} {s:List UInt8} (h:JgAt w k p s n) (hb:Below w.heap.size w w'):JgAt w' k p s n :=
 ⟨h.rg.kept hb,(hb.cell (p:=⟨k,0,none⟩) (World.block_lt_of_cell? w _ h.cell)).trans h.cell⟩
theorem judgeOf_any {w:World} {p n:Nat} {s:List UInt8} (r:RgAt w p s n):Calls Tryz.prog 18 #[pt p 0] w fun e w'=>e = .returned (judge w.heap.size)∧JgAt w' w.heap.size p s n∧Below w.heap.size w w':=by
 have B0:=hid (below_a1 w (.cells #[pt p 0] 26))
 have C0:Hid ((w.alloc (.cells #[pt p 0] 26)).cell? ⟨w.heap.size,0,none⟩=some (pt p 0)):=row_cell (A:=[]) (C:=[]) (top_obj w (.cells #[pt p 0] 26)) rfl rfl
 have R0:=hid (r.kept B0.out)
 clear r
 go_enter Tryz.func18,Tryz.ntmps18
 go_wp2
 go_ret
 exact ⟨rfl,⟨R0.out,C0.out⟩,B0.out⟩
theorem judge_any {w:World} {k p n:Nat} {s:List UInt8} (h:JgAt w k p s n) (c d:Int) (t D:List UInt8) (hD:D.length=32) :
  Calls Tryz.prog 48 #[nu c,nu d,st t,.agg (dg D).toArray,pt k 0] w fun e w'=>e = .returned (nu (jdg s n c d t D))∧Below w.heap.size w w':=by
 have T0:=top_obj w (.cells (dg D).toArray 23)
 have B0:=hid (below_a1 w (.cells (dg D).toArray 23))
 have h1:=h.kept B0.out
 have c0:=h1.cell
 have HC:=hid (rgcheck h1.rg c d t D hD)
 have SX:=hid (row_seg (off:=0) (A:=[]) (cs:=dg D) (C:=[]) T0 (by simp) rfl)
 have ZS:(Tryz.prog.info? 23).map (·.size)=some (dg D).length:=by rw [dg_len,hD];kernel_rfl
 clear h h1 T0
 unfold jdg
 cases hb:chkB s n c d t D
 ·rw [hb] at HC
  rw [if_neg (by decide)]
  clear hb
  generalize dg D=V at *
  go_enter Tryz.func48,Tryz.ntmps48
  go_upto_region 1 with fail
  generalize w.alloc (.cells V.toArray 23)=W0 at *
  have hsz:w.heap.size ≤ W0.heap.size:=B0.out.size
  generalize hX:w.heap.size=X at *
  go_wp2_with ((with_reducible refine wl_load 23 (.tmp 8) ?_ X 0 ?_ ?_ V _ SX.out Tryz.underlying23 ?_ ZS ?_);iterate 4 exact rfl)
  refine HC.out.mono ?_
  rintro e w1 ⟨rfl,hb⟩
  have HB1:=hid (B0.out.trans (hb.mono hsz))
  clear hb
  go_wp2
  go_ret
  exact ⟨rfl,hX ▸ HB1.out⟩
 ·rw [hb] at HC
  rw [if_pos rfl]
  clear hb
  generalize dg D=V at *
  go_enter Tryz.func48,Tryz.ntmps48
  go_upto_region 1 with fail
  generalize w.alloc (.cells V.toArray 23)=W0 at *
  have hsz:w.heap.size ≤ W0.heap.size:=B0.out.size
  generalize hX:w.heap.size=X at *
  go_wp2_with ((with_reducible refine wl_load 23 (.tmp 8) ?_ X 0 ?_ ?_ V _ SX.out Tryz.underlying23 ?_ ZS ?_);iterate 4 exact rfl)
  refine HC.out.mono ?_
  rintro e w1 ⟨rfl,hb⟩
  have HB1:=hid (B0.out.trans (hb.mono hsz))
  clear hb
  go_wp2
  go_ret
  exact ⟨rfl,hX ▸ HB1.out⟩
theorem by8_byte (c:Int) (h:0 ≤ c∧c < 256):Go.Proofs.YthkkjjlpahdagaaGreatDoor.bv (by8 c)=c:=by8_val c h
theorem behind_one (d:List UInt8) (hd:d.length ≤ 140737488351232) (c:Int) (hc:0 ≤ c∧c < 256) (w:World) :
  Calls Tryz.prog 21 #[st d,nu c] w fun e w'=>e = .returned (st (d++[by8 c]))∧Below w.heap.size w w':=by
 have hu:brow (w.alloc (.cells #[.int .u8 c] 5)) w.heap.size (.slice (some ⟨w.heap.size,0,none⟩) 1 1) [by8 c]:=by
  have:=brow_one w w.heap.size (by8 c) (Nat.le_refl _)
  rw [by8_byte c hc] at this
  exact this
 have hcv:=conv_brow hu
 have B0:=hid (below_a1 w (.cells #[.int .u8 c] 5))
 have hwr:IntKind.u8.wrap c=c:=by rw [IntKind.wrap_u8];omega
 have hz:(⟨d.toArray⟩:ByteArray).size=d.length:=rfl
 have hz1:(⟨[by8 c].toArray⟩:ByteArray).size=1:=rfl
 have happ:(⟨d.toArray⟩:ByteArray)++(⟨[by8 c].toArray⟩:ByteArray)=⟨(d++[by8 c]).toArray⟩:=ByteArray.mk_append_mk d [by8 c]
 clear hu
 go_enter Tryz.func21,Tryz.ntmps21
 go_wp2
 go_ret
 exact ⟨rfl,B0.out⟩
theorem add_one (d:List UInt8) (hd:d.length ≤ 140737488351232) (c:Int) (hc:0 ≤ c∧c < 256) (w:World) :
  Calls Tryz.prog 27 #[st d,nu c] w fun e w'=>e = .returned (st (d++[by8 c]))∧Below w.heap.size w w':=by
 have hu:brow (w.alloc (.cells #[.int .u8 c] 5)) w.heap.size (.slice (some ⟨w.heap.size,0,none⟩) 1 1) [by8 c]:=by
  have:=brow_one w w.heap.size (by8 c) (Nat.le_refl _)
  rw [by8_byte c hc] at this
  exact this
 have hcv:=conv_brow hu
 have B0:=hid (below_a1 w (.cells #[.int .u8 c] 5))
 have hwr:IntKind.u8.wrap c=c:=by rw [IntKind.wrap_u8];omega
 have hz:(⟨d.toArray⟩:ByteArray).size=d.length:=rfl
 have hz1:(⟨[by8 c].toArray⟩:ByteArray).size=1:=rfl
 have happ:(⟨d.toArray⟩:ByteArray)++(⟨[by8 c].toArray⟩:ByteArray)=⟨(d++[by8 c]).toArray⟩:=ByteArray.mk_append_mk d [by8 c]
 clear hu
 go_enter Tryz.func27,Tryz.ntmps27
 go_wp2
 go_ret
 exact ⟨rfl,B0.out⟩
open Go Go.RowKit
set_option maxRecDepth 100000
theorem wrap1 (n:Int) (h0:-9223372036854775808 ≤ n) (h1:n ≤ 9223372036854775806):IntKind.i64.wrap (n + 1)=n + 1:=by rw [IntKind.wrap_i64];omega
theorem i64_le {n:Nat} (h:n ≤ 140737488351232):n < 9223372036854775807:=by omega
theorem mayAsk_any {w:World} {p n:Nat} {s:List UInt8} (r:RgAt w p s n) {me:Int} {view:List UInt8} (hv:view.length ≤ 140737488351232) {x:Sub} (hx:x.Wf) (hr:(subM me x).Rng) :
  Calls Tryz.prog 28 #[pt p 0,nu me,st view,.agg (subC x).toArray] w fun e w'=>e = .returned (.bool (askOk n me view x))∧Below w.heap.size w w':=by
 have T0:=top_obj w (.cells (subC x).toArray 39)
 have B0:=hid (below_a1 w (.cells (subC x).toArray 39))
 have r0:=r.kept B0.out
 have H1:=regr (fun W hb=>vsub_any (r0.kept hb) hx hr)
 have H2:=regr (fun W hb=>(rgclients (r0.kept hb)).mono (fun _ _ h=>⟨h.1,by rw [h.2];exact Below.refl _ _⟩))
 have H3:=regr (w:=w.alloc (.cells (subC x).toArray 39)) (fun W _=>Hist.right_any view (n:Int) W)
 have H4:=regr (w:=w.alloc (.cells (subC x).toArray 39)) (fun W _=>Hist.count_any view (i64_le hv) me W)
 have hcl:=Hist.cnt_le view me
 have hw1:=wrap1 (Hist.cnt view me:Int) (by omega) (by omega)
 have HLd:=hid (cells_regrown _ w.heap.size (subC x) 39 T0)
 have hc0:∀ dd os,(Sort.grow (redrawn (w.alloc (.cells (subC x).toArray 39)) dd) os).cell? ⟨w.heap.size,0,none⟩=some (nu x.number):=fun dd os=>cell_regrown (srow_number T0 hx) _ _
 have ZS:=szSY hx
 unfold askOk
 clear r r0 hr T0 hx hv hcl
 generalize x.number=xn at *
 generalize (Hist.cnt view me:Int)=cn at *
 generalize subC x=V at *
 generalize vsub n me x=B1 at *
 generalize Hist.rightB view (n:Int)=B2 at *
 cases B1
 ·rw [Bool.false_and]
  go_enter Tryz.func28,Tryz.ntmps28
  go_upto_region 1 with fail
  generalize w.alloc (.cells V.toArray 39)=W0 at *
  refine wp_region_quiet_below (by kernel_rfl) (by kernel_rfl) ?_
  iterate 2 (first | go_big_quiet_step (fail) | quiet_step (fail))
  refine wpQuiet_load_seg rfl 39 _ rfl w.heap.size rfl V _ HLd.out Tryz.underlying39 rfl ZS ?_
  repeat (first | go_big_quiet_step (exact H1.out _ _) | quiet_step (exact H1.out _ _))
  refine wpQuiet_nil ?_
  intro _ hw'
  obtain ⟨⟨dq,osq⟩,hw''⟩:=hw'
  subst hw''
  have HB2:=hid (below_two B0.out (below_regrown W0 dq osq))
  clear hc0 H1 H2 H3 H4 HLd
  go_wp2
  go_ret
  exact ⟨rfl,HB2.out⟩
 ·rw [Bool.true_and]
  cases B2
  ·rw [Bool.false_and]
   go_enter Tryz.func28,Tryz.ntmps28
   go_upto_region 1 with fail
   generalize w.alloc (.cells V.toArray 39)=W0 at *
   refine wp_region_quiet_below (by kernel_rfl) (by kernel_rfl) ?_
   iterate 2 (first | go_big_quiet_step (fail) | quiet_step (fail))
   refine wpQuiet_load_seg rfl 39 _ rfl w.heap.size rfl V _ HLd.out Tryz.underlying39 rfl ZS ?_
   iterate 2 (first | go_big_quiet_step (exact H1.out _ _) | quiet_step (exact H1.out _ _))
   iterate 3 (first | go_big_quiet_step (exact H2.out _ _) | quiet_step (exact H2.out _ _))
   repeat (first | go_big_quiet_step (exact H3.out _ _) | quiet_step (exact H3.out _ _))
   refine wpQuiet_nil ?_
   intro _ hw'
   obtain ⟨⟨dq,osq⟩,hw''⟩:=hw'
   subst hw''
   have HB2:=hid (below_two B0.out (below_regrown W0 dq osq))
   clear hc0 H1 H2 H3 H4 HLd
   go_wp2
   go_ret
   exact ⟨rfl,HB2.out⟩
  ·rw [Bool.true_and]
   cases hB3:(xn == cn + 1)
   all_goals (
    go_enter Tryz.func28,Tryz.ntmps28
    go_upto_region 1 with fail
    generalize w.alloc (.cells V.toArray 39)=W0 at *
    refine wp_region_quiet_below (by kernel_rfl) (by kernel_rfl) ?_
    iterate 2 (first | go_big_quiet_step (fail) | quiet_step (fail))
    refine wpQuiet_load_seg rfl 39 _ rfl w.heap.size rfl V _ HLd.out Tryz.underlying39 rfl ZS ?_
    iterate 2 (first | go_big_quiet_step (exact H1.out _ _) | quiet_step (exact H1.out _ _))
    iterate 3 (first | go_big_quiet_step (exact H2.out _ _) | quiet_step (exact H2.out _ _))
    iterate 3 (first | go_big_quiet_step (exact H3.out _ _) | quiet_step (exact H3.out _ _))
    repeat (first | go_big_quiet_step (exact H4.out _ _) | quiet_step (exact H4.out _ _))
    refine wpQuiet_nil ?_
    intro _ hw'
    obtain ⟨⟨dq,osq⟩,hw''⟩:=hw'
    subst hw''
    have HB2:=hid (below_two B0.out (below_regrown W0 dq osq))
    clear hc0 H1 H2 H3 H4 HLd
    go_wp2
    go_ret
    exact ⟨rfl,HB2.out⟩
    )
theorem build_repm (W:World) (y:Rep) (hy:y.Wf) (v:Value):(Instr.build 102 #[(0,nu 2),(3,.agg (repC y v).toArray)]).run Tryz.prog W = .ok (.agg (msgC (repM y) v (.slice none 0 0)).toArray) W:=by
 refine run_build_all msgPl Tryz.underlying102 zeroMsgs (by kernel_rfl) msgS rfl (fits_of _ _ (by kernel_rfl)) [(0,[nu 2],nu 2),(3,repC y v,.agg (repC y v).toArray)] ?_ _ ?_
 ·intro z hz
  simp only [List.mem_cons,List.not_mem_nil,or_false] at hz
  rcases hz with rfl | rfl
  ·exact ⟨rfl,_,rfl,rfl⟩
  ·exact ⟨rfl,_,rfl,by rw [repC_len hy,repC_len wfZeroR]⟩
 ·simp [msgS,msgC,repM,zeroM]
structure RepRng (y:Rep):Prop where
 number:I64 y.number
 last:I64 y.last
 vnum:I64 y.vnum
 ps:∀ p ∈ y.pend,penOk p
theorem repM_wf {y:Rep} (hy:y.Wf):(repM y).Wf:=⟨wfZeroS,hy,rfl,rfl,wfZeroB⟩
theorem repM_rng {y:Rep} (hr:RepRng y):(repM y).Rng :=
 ⟨⟨by show (-9223372036854775808:Int) ≤ 2;decide,by show (2:Int) ≤ _;decide⟩,i64_zero,i64_zero,i64_zero,i64_zero,hr.number,hr.last,hr.vnum,i64_zero,i64_zero,i64_zero,(fun n hn=>by cases hn),hr.ps⟩
theorem mayAnswer_any {w:World} (ht:Tb w) {x:Sub} (hx:x.Wf) {y:Rep} (hy:y.Wf) (hr:RepRng y) {v:Value} (hp:PensAt w v y.pend) (hl:y.pend.length ≤ 9223372036854775807) :
  Calls Tryz.prog 29 #[.agg (subC x).toArray,.agg (repC y v).toArray] w fun e w'=>e = .returned (.bool (ansOk x y))∧Below w.heap.size w w':=by
 have B0:=below_a1 w (.cells (subC x).toArray 39)
 have B1:=hid (below_two B0 (below_a1 (w.alloc (.cells (subC x).toArray 39)) (.cells (repC y v).toArray 42)))
 have T0:=row_kept (top_obj w (.cells (subC x).toArray 39)) (below_a1 (w.alloc (.cells (subC x).toArray 39)) (.cells (repC y v).toArray 42))
 have T1:=top_obj (w.alloc (.cells (subC x).toArray 39)) (.cells (repC y v).toArray 42)
 have e1:(w.alloc (.cells (subC x).toArray 39)).heap.size=w.heap.size + 1:=by simp
 rw [e1] at T1
 have HM:=hid (vmay_any (vP:=v) (vN:=.slice none 0 0) (repM_wf hy) (repM_rng hr) (hp.kept B1.out) (IntsAt.nil _) ⟨hl,Nat.zero_le _⟩ (ht.stays B1.out))
 have c0:=hid (srow_number T0 hx)
 have c1:=hid (rrow_number T1 hy)
 have SX:=hid (row_zeroY T1)
 have HBm:=hid (fun W=>build_repm W y hy v)
 have ZS:=szRY hy v
 unfold ansOk
 clear ht hr hp hl T0 T1 hx hy B0
 generalize msgC (repM y) v (.slice none 0 0)=MV at *
 generalize mayB (repM y)=BM at *
 generalize x.number=xn at *
 generalize y.number=yn at *
 generalize subC x=V at *
 generalize repC y v=U at *
 cases BM
 ·rw [Bool.false_and]
  go_enter Tryz.func29,Tryz.ntmps29
  go_upto_region 1 with fail
  try simp only [e1]
  generalize (w.alloc (.cells V.toArray 39)).alloc (.cells U.toArray 42)=W0 at *
  have hsz:w.heap.size ≤ W0.heap.size:=B1.out.size
  clear e1
  generalize w.heap.size + 1=Y at *
  generalize hX:w.heap.size=X at *
  go_wp2_with (first
   | ((with_reducible refine wl_load 42 (.tmp 3) ?_ Y 0 ?_ ?_ U _ SX.out Tryz.underlying42 ?_ ZS ?_);iterate 4 exact rfl)
   | ((with_reducible refine wl_buildY 102 [(0,.const (nu 2)),(3,.tmp 5)] ?_ ?_ MV.toArray ?_ ?_);exact rfl;exact rfl;exact (HBm.out _)))
  refine HM.out.mono ?_
  rintro e w1 ⟨rfl,hb⟩
  have HB1:=hid (B1.out.trans (hb.mono hsz))
  clear hb
  go_wp2
  go_ret
  exact ⟨rfl,hX ▸ HB1.out⟩
 ·rw [Bool.true_and]
  go_enter Tryz.func29,Tryz.ntmps29
  go_upto_region 1 with fail
  try simp only [e1]
  generalize (w.alloc (.cells V.toArray 39)).alloc (.cells U.toArray 42)=W0 at *
  have hsz:w.heap.size ≤ W0.heap.size:=B1.out.size
  clear e1
  generalize w.heap.size + 1=Y at *
  generalize hX:w.heap.size=X at *
  go_wp2_with (first
   | ((with_reducible refine wl_load 42 (.tmp 3) ?_ Y 0 ?_ ?_ U _ SX.out Tryz.underlying42 ?_ ZS ?_);iterate 4 exact rfl)
   | ((with_reducible refine wl_buildY 102 [(0,.const (nu 2)),(3,.tmp 5)] ?_ ?_ MV.toArray ?_ ?_);exact rfl;exact rfl;exact (HBm.out _)))
  refine HM.out.mono ?_
  rintro e w1 ⟨rfl,hb⟩
  have HB1:=hid (B1.out.trans (hb.mono hsz))
  have d0:=cell_keptY c0.out hb
  have d1:=cell_keptY c1.out hb
  clear hb
  go_wp2
  go_ret
  exact ⟨rfl,hX ▸ HB1.out⟩
end Go.Proofs.YthkkjjlpahdagaaGreatDoor.Ms
namespace Go.Proofs.YthkkjjlpahdagaaGreatDoor.Hist
open Go Go.RowKit
set_option maxRecDepth 100000
theorem rcount_any (h:List UInt8) (hl:h.length < 9223372036854775807) (c:Int) (w:World):Calls Tryz.prog 23 #[.string ⟨h.toArray⟩,.int .i64 c] w fun e w'=>e = .returned (.int .i64 (cnt h c))∧w' = w:=by
 have hss:(⟨h.toArray⟩:ByteArray).size=h.length:=rfl
 go_enter Tryz.func23,Tryz.ntmps23
 go_wp2
 go_loopw [5,6] (fun v i w'=>∃ j:Nat,j ≤ h.length∧i = .int .i64 j∧v = .int .i64 (cnt (h.take j) c)∧w' = w) (fun _ i _=>h.length - (intOf i).toNat)
 case atStart=>exact ⟨0,by omega,rfl,rfl,rfl⟩
 case round =>
  obtain ⟨j,hj,rfl,rfl,hw⟩:=hrel
  subst wr
  by_cases hlt:j < h.length
  ·have d1:decide ((j:Int) < (h.length:Int))=true:=by simp;omega
   have hq:((⟨h.toArray⟩:ByteArray)[j]'(by rw [hss];exact hlt)).toNat=(h.getD j 0).toNat:=getD_byte h j _
   have hs:=cnt_step h j hlt c
   have hx:bv (h.getD j 0)=((h.getD j 0).toNat:Int):=rfl
   have hx2:(h.getD j 0).toNat < 256:=(h.getD j 0).toNat_lt
   have hcl:=Nat.le_trans (cnt_take_le h j c) (cnt_le h c)
   have HS:=hid hs
   generalize (h.getD j 0).toNat=x at *
   clear hs
   by_cases he:bv (h.getD j 0)=c
   ·have HS':=HS.out
    rw [if_pos he] at HS'
    have HS2:=hid HS'
    have d2:((x:Int) == c)=true:=by rw [← hx];simpa using he
    clear HS HS' he hx
    generalize cnt (h.take j) c=m at *
    go_wp2
    exact ⟨⟨j + 1,by omega,by go_num,by rw [HS2.out];go_num,trivial⟩,by simp [intOf];omega⟩
   ·have HS':=HS.out
    rw [if_neg he] at HS'
    have HS2:=hid HS'
    have d2:((x:Int) == c)=false:=by rw [← hx];simpa using he
    clear HS HS' he hx
    generalize cnt (h.take j) c=m at *
    go_wp2
    exact ⟨⟨j + 1,by omega,by go_num,by rw [HS2.out];rfl,trivial⟩,by simp [intOf];omega⟩
  ·obtain rfl:j=h.length:=by omega
   have e:=cnt_all h c
   rw [e]
   go_wp2
   go_ret
   exact ⟨rfl,rfl⟩
theorem gt_sub (x:Nat) (n:Int) (b:Bool) (h:decide (n ≤ (x:Int))=b):decide (n - 1 < (x:Int))=b:=by
 rw [← h]
 by_cases e:n ≤ (x:Int)
 ·rw [decide_eq_true e,decide_eq_true (by omega)]
 ·rw [decide_eq_false e,decide_eq_false (by omega)]
theorem rright_any (h:List UInt8) (n:Int) (w:World):Calls Tryz.prog 77 #[.string ⟨h.toArray⟩,.int .i64 n] w fun e w'=>e = .returned (.bool (rightB h n))∧w' = w:=by
 have hss:(⟨h.toArray⟩:ByteArray).size=h.length:=rfl
 by_cases h1:n < 1
 ·rw [right_false1 h n h1]
  have d1:decide (n < 1)=true:=decide_eq_true h1
  go_enter Tryz.func77,Tryz.ntmps77
  go_wp2
  go_ret
  exact ⟨rfl,rfl⟩
 by_cases h2:256 < n
 ·rw [right_false2 h n h2]
  have d1:decide (n < 1)=false:=decide_eq_false h1
  have d2:decide (256 < n)=true:=decide_eq_true h2
  clear h1 h2
  go_enter Tryz.func77,Tryz.ntmps77
  go_wp2
  go_ret
  exact ⟨rfl,rfl⟩
 by_cases h3:512 < h.length
 ·rw [right_false3 h n h3]
  have d1:decide (n < 1)=false:=decide_eq_false h1
  have d2:decide (256 < n)=false:=decide_eq_false h2
  have d3:decide ((512:Int) < (h.length:Int))=true:=by simp;omega
  clear h1 h2 h3
  go_enter Tryz.func77,Tryz.ntmps77
  go_wp2
  go_ret
  exact ⟨rfl,rfl⟩
 have d1:decide (n < 1)=false:=decide_eq_false h1
 have d2:decide (256 < n)=false:=decide_eq_false h2
 have d3:decide ((512:Int) < (h.length:Int))=false:=by simp;omega
 have HR:=hid (right_true h n h1 h2 h3)
 have hn1:1 ≤ n∧n ≤ 256:=by omega
 have h3':h.length ≤ 512:=by omega
 clear h1 h2 h3
 go_enter Tryz.func77,Tryz.ntmps77
 go_wp2
 go_loopw [5] (fun i w'=>∃ j:Nat,j ≤ h.length∧i = .int .i64 j∧Hid (∀ k,k < j→bv (h.getD k 0) < n)∧w' = w) (fun i _=>h.length - (intOf i).toNat)
 case atStart=>exact ⟨0,by omega,rfl,fun k hk=>absurd hk (Nat.not_lt_zero k),rfl⟩
 case round =>
  obtain ⟨j,hj,rfl,HN,hw⟩:=hrel
  subst wr
  by_cases hlt:j < h.length
  ·have e1:decide ((j:Int) < (h.length:Int))=true:=by simp;omega
   have hq:((⟨h.toArray⟩:ByteArray)[j]'(by rw [hss];exact hlt)).toNat=(h.getD j 0).toNat:=getD_byte h j _
   have hx:bv (h.getD j 0)=((h.getD j 0).toNat:Int):=rfl
   have hx2:(h.getD j 0).toNat < 256:=(h.getD j 0).toNat_lt
   by_cases he:n ≤ bv (h.getD j 0)
   ·have HP:=hid (right_false4 h n j hlt he)
    have d4:decide (n - 1 < ((h.getD j 0).toNat:Int))=true:=gt_sub _ n _ (decide_eq_true (by rw [← hx];exact he))
    generalize (h.getD j 0).toNat=x at *
    clear he hx HR HN
    go_wp2
    go_ret
    exact ⟨by rw [HP.out];rfl,rfl⟩
   ·have HN':Hid (∀ k,k < j + 1→bv (h.getD k 0) < n):=fun k hk=>by
     by_cases e:k=j
     ·rw [e];omega
     ·exact HN.out k (by omega)
    have d4:decide (n - 1 < ((h.getD j 0).toNat:Int))=false:=gt_sub _ n _ (decide_eq_false (by rw [← hx];exact he))
    generalize (h.getD j 0).toNat=x at *
    clear he hx HR HN
    go_wp2
    exact ⟨⟨j + 1,by omega,by go_num,HN'.out,trivial⟩,by simp [intOf];omega⟩
  ·obtain rfl:j=h.length:=by omega
   have HP:=hid (HR.out HN.out)
   clear HR HN
   go_wp2
   go_ret
   exact ⟨by rw [HP.out];rfl,rfl⟩
theorem rplace_any (h:List UInt8) (hl:h.length < 9223372036854775807) (c n:Int) (w:World):Calls Tryz.prog 53 #[.string ⟨h.toArray⟩,.int .i64 c,.int .i64 n] w fun e w'=>e = .returned (.int .i64 (placeI h c n))∧w' = w:=by
 have hss:(⟨h.toArray⟩:ByteArray).size=h.length:=rfl
 have HC:=hid (fun j=>rcount_any (h.take j) (by rw [List.length_take];omega) c w)
 go_enter Tryz.func53,Tryz.ntmps53
 go_wp2
 go_loopw [7] (fun i w'=>∃ j:Nat,j ≤ h.length∧i = .int .i64 j∧Hid (∀ k,k < j→hit h c n k=false)∧w' = w) (fun i _=>h.length - (intOf i).toNat)
 case atStart=>exact ⟨0,by omega,rfl,fun k hk=>absurd hk (Nat.not_lt_zero k),rfl⟩
 case round =>
  obtain ⟨j,hj,rfl,HN,hw⟩:=hrel
  subst wr
  by_cases hlt:j < h.length
  ·have e1:decide ((j:Int) < (h.length:Int))=true:=by simp;omega
   have hq:((⟨h.toArray⟩:ByteArray)[j]'(by rw [hss];exact hlt)).toNat=(h.getD j 0).toNat:=getD_byte h j _
   have hx:bv (h.getD j 0)=((h.getD j 0).toNat:Int):=rfl
   have hx2:(h.getD j 0).toNat < 256:=(h.getD j 0).toNat_lt
   have hhit:=hit_iff h c n j
   have hext:=ext_take h (j + 1)
   have hjj:((j:Int) + 1)=((j + 1:Nat):Int):=by omega
   have HCj:=hid (HC.out (j + 1))
   have hon:Hid (hit h c n j=false→∀ k,k < j + 1→hit h c n k=false):=fun hf k hk=>by
    by_cases e:k=j
    ·rw [e];exact hf
    ·exact HN.out k (by omega)
   by_cases he:bv (h.getD j 0)=c
   ·have d1:(((h.getD j 0).toNat:Int) == c)=true:=by rw [← hx];simpa using he
    by_cases hm:(cnt (h.take (j + 1)) c:Int)=n
    ·have d2:((cnt (h.take (j + 1)) c:Int) == n)=true:=by simpa using hm
     have HP:=hid (plc_some hlt (hhit.2 ⟨he,hm⟩) HN.out)
     clear hhit he hm HN hon HC hx
     generalize (h.getD j 0).toNat=x at *
     generalize cnt (h.take (j + 1)) c=m at *
     generalize h.take (j + 1)=t at *
     obtain ⟨j1,hj1⟩:∃ j1,j1=j + 1:=⟨_,rfl⟩
     rw [← hj1] at hext hjj
     have hj2:j1 ≤ h.length:=by omega
     have HJ1:=hid hj1
     clear hj1
     go_wp2_with fail
     refine HCj.out.mono ?_
     rintro e w1 ⟨rfl,hw1⟩
     subst w1
     go_wp2
     go_ret
     exact ⟨by rw [HP.out];rfl,rfl⟩
    ·have d2:((cnt (h.take (j + 1)) c:Int) == n)=false:=by simpa using hm
     have HN':=hid (hon.out (Bool.eq_false_iff.2 fun ht=>hm (hhit.1 ht).2))
     clear hhit he hm HN hon HC hx
     generalize (h.getD j 0).toNat=x at *
     generalize cnt (h.take (j + 1)) c=m at *
     generalize h.take (j + 1)=t at *
     obtain ⟨j1,hj1⟩:∃ j1,j1=j + 1:=⟨_,rfl⟩
     rw [← hj1] at hext hjj HN'
     have hj2:j1 ≤ h.length:=by omega
     have HJ1:=hid hj1
     clear hj1
     go_wp2_with fail
     refine HCj.out.mono ?_
     rintro e w1 ⟨rfl,hw1⟩
     subst w1
     go_wp2
     have:=HJ1.out
     exact ⟨⟨j1,by omega,rfl,HN'.out,trivial⟩,by simp [intOf];omega⟩
   ·have d1:(((h.getD j 0).toNat:Int) == c)=false:=by rw [← hx];simpa using he
    have HN':=hid (hon.out (Bool.eq_false_iff.2 fun ht=>he (hhit.1 ht).1))
    clear hhit he HN hon HC hx HCj hext hjj
    generalize (h.getD j 0).toNat=x at *
    go_wp2
    exact ⟨⟨j + 1,by omega,by go_num,HN'.out,trivial⟩,by simp [intOf];omega⟩
  ·obtain rfl:j=h.length:=by omega
   have HP:=hid (plc_none HN.out)
   clear HN HC
   go_wp2
   go_ret
   exact ⟨by rw [HP.out];rfl,rfl⟩
theorem rupto_any (h:List UInt8) (hl:h.length < 9223372036854775807) (c:Int) (w:World):Calls Tryz.prog 26 #[.string ⟨h.toArray⟩,.int .i64 c] w fun e w'=>e = .returned (.string ⟨(uptoL h c).toArray⟩)∧w' = w:=by
 have HC:=hid (rcount_any h hl c w)
 have HP:=hid (rplace_any h hl c (cnt h c) w)
 have hr:=place_range h c (cnt h c)
 have hss:(⟨h.toArray⟩:ByteArray).size=h.length:=rfl
 by_cases h0:cnt h c=0
 ·have hp:placeI h c (cnt h c) = -1:=by
   refine plc_none fun j hj=>?_
   rw [Bool.eq_false_iff]
   intro ht
   have hh:=(hit_iff h c _ j).1 ht
   have e:=cnt_step h j hj c
   rw [if_pos hh.1] at e
   have:=cnt_take_le h (j + 1) c
   omega
  have hu:uptoL h c = []:=by unfold uptoL;rw [hp];rfl
  rw [hu]
  rw [h0] at HC
  clear hu hp hr HP h0
  go_enter Tryz.func26,Tryz.ntmps26
  go_wp2_with fail
  refine HC.out.mono ?_
  rintro e w1 ⟨rfl,hw1⟩
  subst w1
  go_wp2
  go_ret
  exact ⟨rfl,rfl⟩
 ·obtain ⟨m,hm⟩:∃ m:Nat,placeI h c (cnt h c) + 1=(m:Int):=⟨(placeI h c (cnt h c) + 1).toNat,by omega⟩
  have hu:uptoL h c=h.take m:=by unfold uptoL;rw [hm];rfl
  have hx:=ext_take h m
  have hml:m ≤ h.length:=by omega
  obtain ⟨p,hp⟩:∃ p,placeI h c (cnt h c)=p:=⟨_,rfl⟩
  rw [hp] at HP hm
  rw [hu]
  obtain rfl:p=(m:Int) - 1:=by omega
  clear hr hu hm hp
  have d0:(((cnt h c:Nat):Int) == 0)=false:=by simp;omega
  clear h0
  generalize cnt h c=n at *
  generalize h.take m=t at *
  go_enter Tryz.func26,Tryz.ntmps26
  go_wp2_with fail
  refine HC.out.mono ?_
  rintro e w1 ⟨rfl,hw1⟩
  subst w1
  go_wp2_with fail
  refine HP.out.mono ?_
  rintro e w2 ⟨rfl,hw2⟩
  subst w2
  go_wp2
  go_ret
  exact ⟨rfl,rfl⟩
end Go.Proofs.YthkkjjlpahdagaaGreatDoor.Hist
