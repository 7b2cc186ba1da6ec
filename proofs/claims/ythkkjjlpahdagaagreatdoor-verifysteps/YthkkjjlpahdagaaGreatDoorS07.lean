/-
  Fields of messages in memory: what their cells hold, and what is laid and read of them one by one.
-/
import Derived.Test.YthkkjjlpahdagaaGreatDoorS01
import Derived.Test.YthkkjjlpahdagaaGreatDoorS02
import Derived.Test.YthkkjjlpahdagaaGreatDoorS04
import Derived.Test.YthkkjjlpahdagaaGreatDoorS05
import Derived.Lib.AtoiAll
import Derived.Lib.ItoaNum
import Derived.Test.YthkkjjlpahdagaaGreatDoorS06
import Derived.Test.YthkkjjlpahdagaaGreatDoorTjas
import Derived.Handy
import Derived.Deep.RegionHeld3
import Derived.Test.YthkkjjlpahdagaaGreatDoorS03
set_option maxHeartbeats 1000000
namespace Go.Proofs.YthkkjjlpahdagaaGreatDoor.Ms
open Go Go.RowKit
set_option maxRecDepth 100000
def CvAt (w:World) (cv:Value):Val→Prop
 | .inl n=>cv=nu n
 | .inr (.inl s)=>cv=st s
 | .inr (.inr (.inl d))=>cv = .agg (dg d).toArray
 | .inr (.inr (.inr (.inl l)))=>IntsAt w cv l
 | .inr (.inr (.inr (.inr l)))=>PensAt w cv l
def ValAt (w:World) (g off:Nat):Val→Prop
 | .inl n=>w.cell? ⟨g,off,none⟩=some (nu n)
 | .inr (.inl s)=>w.cell? ⟨g,off,none⟩=some (st s)
 | .inr (.inr (.inl d))=>∀ j v,(dg d)[j]? = some v→w.cell? ⟨g,off + j,none⟩=some v
 | .inr (.inr (.inr (.inl l)))=>∃ v,w.cell? ⟨g,off,none⟩=some v∧IntsAt w v l
 | .inr (.inr (.inr (.inr l)))=>∃ v,w.cell? ⟨g,off,none⟩=some v∧PensAt w v l
abbrev Tb (w:World):Prop:=Lay.Tabs w
theorem textB_txtB (s:List UInt8):Lay.textB s=txtB s:=by unfold Lay.textB txtB;simp
theorem layT_small (s:List UInt8) (h:s.length ≤ 16384):layT s=txtB s:=by unfold layT;rw [if_neg (by omega)]
theorem layT_big (s:List UInt8) (h:16384 < s.length):layT s=txtB []:=by unfold layT;rw [if_pos h]
theorem laytext_any (s:List UInt8) (w:World) (ht:Tb w):Calls Tryz.prog 89 #[st s] w fun e w'=>e = .returned (st (layT s))∧Below w.heap.size w w':=by
 have hsz:(⟨s.toArray⟩:ByteArray).size=s.length:=rfl
 by_cases h:s.length ≤ 16384
 ·have HT:=hid (Lay.text_ok ⟨s.toArray⟩ (by rw [hsz];exact h) w ht)
  have e1:Lay.textB (⟨s.toArray⟩:ByteArray).data.toList=layT s:=by rw [layT_small s h,← textB_txtB]
  rw [e1] at HT
  generalize layT s=r at *
  clear e1 ht h
  go_enter Tryz.func89,Tryz.ntmps89
  go_wp2_with fail
  refine HT.out.mono ?_
  rintro e w1 ⟨rfl,hb⟩
  have HB:=hid hb
  clear hb
  go_wp2
  go_ret
  exact ⟨rfl,HB.out⟩
 ·have HT:=hid (Lay.text_big ⟨s.toArray⟩ (by rw [hsz];omega) w)
  have HE:=hid (Lay.text_ok ⟨#[]⟩ (by decide) w ht)
  have e1:Lay.textB (⟨#[]⟩:ByteArray).data.toList=layT s:=by rw [layT_big s (by omega),← textB_txtB]
  rw [e1] at HE
  generalize layT s=r at *
  clear e1 ht h
  go_enter Tryz.func89,Tryz.ntmps89
  go_wp2_with fail
  refine HT.out.mono ?_
  rintro e w1 ⟨rfl,hw⟩
  subst w1
  go_wp2_with fail
  refine HE.out.mono ?_
  rintro e w1 ⟨rfl,hb⟩
  have HB:=hid hb
  clear hb
  go_wp2
  go_ret
  exact ⟨rfl,HB.out⟩
theorem dg_map (d:List UInt8):dg d=d.map Go.Proofs.YthkkjjlpahdagaaGreatDoor.cb:=rfl
theorem laydig_any (d:List UInt8) (hd:d.length=32) (w:World) (ht:Tb w):Calls Tryz.prog 140 #[.agg (dg d).toArray] w fun e w'=>e = .returned (st (txtB d))∧Below w.heap.size w w':=by
 have HB0:=hid (below_a1 w (.cells (dg d).toArray 23))
 have r0:=top_obj w (.cells (dg d).toArray 23)
 have S0:=hid (row_seg (off:=0) (A:=[]) (cs:=dg d) (C:=[]) r0 (by simp) rfl)
 have Z0:(Tryz.prog.info? 23).map (·.size)=some (dg d).length:=by rw [dg_len,hd];exact sizeDig
 have HY:=hid (fun W=>bytes_any d hd W)
 have HT:=hid (fun W h=>laytext_any d W h)
 rw [← dg_map] at HY
 rw [layT_small d (by omega)] at HT
 have HK:=hid (fun (W:World) (hb:Below w.heap.size w W)=>ht.stays hb)
 generalize txtB d=t at *
 generalize dg d=D at *
 clear hd r0 ht
 go_enter Tryz.func140,Tryz.ntmps140
 go_upto_region 1 with fail
 generalize w.alloc (.cells D.toArray 23)=W0 at *
 go_wp2_with (first | ((with_reducible refine wl_load 23 (.tmp 1) ?_ w.heap.size 0 ?_ ?_ D _ S0.out Tryz.underlying23 ?_ Z0 ?_);iterate 4 exact rfl))
 refine (HY.out _).mono ?_
 rintro e w1 ⟨rfl,hb⟩
 have HB1:=hid (below_two HB0.out hb)
 clear hb
 go_wp2_with fail
 refine (HT.out _ (HK.out _ HB1.out)).mono ?_
 rintro e w2 ⟨rfl,hb⟩
 have HB2:=hid (below_two HB1.out hb)
 clear hb
 go_wp2
 go_ret
 exact ⟨rfl,HB2.out⟩
theorem numsBody_ints (l:List Int):Lay.numsBody l=intsB l:=rfl
theorem numbers_any {w:World} {v:Value} {l:List Int} (hv:IntsAt w v l) (hl:l.length ≤ 512) (hk:∀ n ∈ l,I64 n) (ht:Tb w):Calls Tryz.prog 181 #[v] w fun e w'=>e = .returned (.tuple #[st (layNs l),nu 0])∧Below w.heap.size w w':=by
 obtain ⟨a,cap,rfl,hc⟩:=hv
 have HL:=hid (Lay.list31 a l.length cap l rfl hl (fun z hz=>hk z hz) w ht (fun j hj=>by
  obtain ⟨b,off,rfl,hcc⟩:=hc (fun e=>by rw [e] at hj;exact absurd hj (Nat.not_lt_zero j))
  exact ⟨b,off,rfl,World.block_lt_of_cell? w _ (hcc j hj),hcc j hj⟩))
 have e1:40 :: Lay.numsBody l++[41]=layNs l:=by unfold layNs;rw [if_neg (by omega),numsBody_ints];rfl
 rw [e1] at HL
 generalize layNs l=r at *
 clear e1 ht hc hk
 go_enter Tryz.func181,Tryz.ntmps181
 go_wp2_with fail
 refine HL.out.mono ?_
 rintro e w1 ⟨rfl,hb⟩
 have HB:=hid hb
 clear hb
 go_wp2
 go_ret2
 exact ⟨rfl,HB.out⟩
theorem laynums_any {w:World} {v:Value} {l:List Int} (hv:IntsAt w v l) (hl:l.length ≤ 512) (hk:∀ n ∈ l,I64 n) (ht:Tb w):Calls Tryz.prog 144 #[v] w fun e w'=>e = .returned (st (layNs l))∧Below w.heap.size w w':=by
 have HN:=hid (numbers_any hv hl hk ht)
 obtain ⟨a,cap,rfl,hc⟩:=hv
 generalize layNs l=r at *
 clear ht hc hk
 go_enter Tryz.func144,Tryz.ntmps144
 go_wp2_with fail
 refine HN.out.mono ?_
 rintro e w1 ⟨rfl,hb⟩
 have HB:=hid hb
 clear hb
 go_wp2
 go_ret
 exact ⟨rfl,HB.out⟩
open Go Go.RowKit
set_option maxRecDepth 100000
theorem zeroDig:(Tryz.prog.info? 23).map (·.zero)=some (some (.agg (dg zeroD).toArray)):=by kernel_rfl
end Go.Proofs.YthkkjjlpahdagaaGreatDoor.Ms
