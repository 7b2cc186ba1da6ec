/-
  What the reference's rounds and block answer, for every state and block.
-/
import Derived.Test.YthkkjjlpahdagaaGreatDoorS04
import Derived.Test.YthkkjjlpahdagaaGreatDoorS16
import Derived.StillTailTactics
import Derived.Test.YthkkjjlpahdagaaGreatDoorS18
set_option maxHeartbeats 4000000
namespace Go.Proofs.YthkkjjlpahdagaaGreatDoor
open Go Go.RowKit
set_option maxRecDepth 100000
theorem infoWord:(Tryz.prog.info? 148).map (fun i=>(i.zero,i.size,i.bytes))=some (some (.int .u32 0),1,4):=by kernel_rfl
def krow:Array Value:=(kks.map cw).toArray
theorem cell_old (w:World) (o:Obj) (n g i:Nat) (hg:g < w.heap.size):((w.alloc o).drewN n).cell? ⟨g,i,none⟩=w.cell? ⟨g,i,none⟩ :=
 World.cell?_of_block (heap_old1 w o g hg)
def fq (b:List UInt8) (t:Nat):List W32:=firsts b t++List.replicate (64 - t) 0
theorem fq_len (b:List UInt8) (t:Nat) (h:t ≤ 64):(fq b t).length=64:=by unfold fq;rw [List.length_append,firsts_len,List.length_replicate];omega
theorem fq_step (b:List UInt8) (t:Nat) (h:t < 64):(fq b t).set t (wrd b t)=fq b (t + 1):=by
 unfold fq
 have e:List.replicate (64 - t) (0:W32)=0 :: List.replicate (64 - (t + 1)) 0:=by rw [← List.replicate_succ];congr 1;omega
 have hl:=firsts_len b t
 rw [e]
 conv=>lhs;arg 2;rw [← hl]
 rw [set_mid,firsts]
 simp
theorem fq_end (b:List UInt8):fq b 16=wq b 0:=rfl
theorem wv_quo (x:W32) (d:Int) (n:Nat) (hd:d=2 ^ n):(wv x).tdiv d % 4294967296=wv (x >>> n):=by
 have h:=wv_range x
 rw [Int.tdiv_eq_ediv_of_nonneg h.1,hd,wv_shr]
 exact wv_mod _
theorem rblock_any (st:S8) (b:List UInt8) (gs gb o cap gk:Nat) (w:World)
  (Hs:∀ j,j < 8→w.cell? ⟨gs,j,none⟩=some (cw (st.list.getD j 0))) (Hb:∀ j,j < 64→w.cell? ⟨gb,o + j,none⟩=some (cb (b.getD j 0)))
  (Hk:∀ j,j < 64→w.cell? ⟨gk,j,none⟩=some (cw (kks.getD j 0))) (h1:gs < w.heap.size) (h2:gb < w.heap.size) (h3:gk < w.heap.size) :
  Calls Tryz.prog 147 #[.slice (some ⟨gs,0,none⟩) 8 8,.slice (some ⟨gb,o,none⟩) 64 cap,.slice (some ⟨gk,0,none⟩) 64 64] w
   fun e w'=>∃ g,e = .returned (.slice (some ⟨g,0,none⟩) 8 8)∧w.heap.size ≤ g∧w'.heap[g]? = some (.cells ((comp st b).list.map cw).toArray 148)∧Below w.heap.size w w':=by
 obtain ⟨i,hi,hz0,hz1,hz2⟩:=info_parts infoWord
 have HS:Hid (∀ j,j < 8→w.cell? ⟨gs,j,none⟩=some (cw (st.list.getD j 0))):=Hs
 have HB:Hid (∀ j,j < 64→w.cell? ⟨gb,o + j,none⟩=some (cb (b.getD j 0))):=Hb
 have HK:Hid (∀ j,j < 64→w.cell? ⟨gk,j,none⟩=some (cw (kks.getD j 0))):=Hk
 obtain ⟨Z,hZ⟩:∃ Z,Z=madeCells #[.int .u32 0] 64:=⟨_,rfl⟩
 have hM:∀ W:World,(Instr.makeSlice 212 (.int .i64 64) (.int .i64 64)).run Tryz.prog W = .ok (.slice (some ⟨W.heap.size,0,none⟩) 64 64) (W.alloc (.cells Z 148)):=by
  intro W
  have:=run_make (P:=Tryz.prog) W 212 148 i (.int .u32 0) Tryz.underlying212 hi hz0 .i64 .i64 64 64 (by omega) (by omega) (by rw [hz2];omega) (by omega)
  rw [this,hz1,hZ]
  simp [Value.cells]
 have HZ0:Hid (Z=((fq b 0).map cw).toArray):=by
  show _=_
  rw [hZ]
  apply Array.toList_inj.1
  rw [toList_madeCells_one]
  rfl
 clear Hs Hb Hk hZ hi hz0 hz1 hz2
 go_enter Tryz.func147,Tryz.ntmps147
 go_wp2
 clear hM
 go_loopw [8] (fun i w'=>∃ (t n:Nat) (C:Array Value),t ≤ 16∧i = .int .i64 t∧Hid (C=((fq b t).map cw).toArray)∧w' = (w.alloc (.cells C 148)).drewN n) (fun i _=>16 - (intOf i).toNat)
 case atStart=>exact ⟨0,0,Z,by omega,rfl,HZ0,rfl⟩
 case round =>
  clear HZ0
  obtain ⟨t,n,C,ht,rfl,HD,hw⟩:=hrel
  subst wr
  have hsz:=cw_size _ C HD.out 64 (fq_len b t (by omega))
  by_cases hlt:t < 16
  ·have hC:=cw_at _ C HD.out t (by rw [fq_len b t (by omega)];omega)
   have HQ:Hid (C.setIfInBounds t (.int .u32 (wv (wrd b t)))=((fq b (t + 1)).map cw).toArray):=by
    show _=_
    rw [cw_set _ C HD.out,fq_step b t (by omega)]
   have HW:Hid (Calls Tryz.prog 184 #[.slice (some ⟨gb,o,none⟩) 64 cap,.int .i64 (4 * (t:Int))] ((w.alloc (.cells C 148)).drewN n) fun e w'=>e = .returned (.int .u32 (wv (wrd b t)))∧∃ k,w' = (w.alloc (.cells C 148)).drewN (n + k)):=by
    have h:=word_any b gb o cap t hlt ((w.alloc (.cells C 148)).drewN n) (fun j hj=>by rw [cell_old w _ n gb _ h2];exact HB.out j hj)
    show Calls _ _ _ _ _
    simpa using h
   clear HD
   generalize (fq b t).getD t 0=x at *
   generalize wrd b t=y at *
   go_wp2_with fail
   refine Calls.mono HW.out ?_
   rintro e w1 ⟨rfl,k,hw1⟩
   subst w1
   go_wp2
   go_roundw
   case rel=>exact ⟨t + 1,n + k,_,by omega,by go_num,HQ,setCell_top _ _ _ _ _ _ _ rfl⟩
   case measure=>simp [intOf];omega
  ·have e16:t=16:=by omega
   have HD':Hid (C=((wq b 0).map cw).toArray):=by have h:=HD.out;subst e16;rw [fq_end] at h;exact h
   clear HD e16
   go_wp2
   go_loopw [9] (fun i w'=>∃ (t n:Nat) (C:Array Value),t ≤ 48∧i = .int .i64 ((t + 16:Nat):Int)∧Hid (C=((wq b t).map cw).toArray)∧w' = (w.alloc (.cells C 148)).drewN n) (fun i _=>64 - (intOf i).toNat)
   case atStart=>exact ⟨0,n,C,by omega,rfl,HD',rfl⟩
   case round =>
    clear HD' hsz hlt C
    obtain ⟨t,n,C,ht,rfl,HD,hw⟩:=hrel
    subst wr
    have hsz:=cw_size _ C HD.out 64 (wq_len b t ht)
    by_cases hlt:t < 48
    ·have h1:=cw_at _ C HD.out (t + 1) (by rw [wq_len b t ht];omega)
     have h14:=cw_at _ C HD.out (t + 14) (by rw [wq_len b t ht];omega)
     have h9:=cw_at _ C HD.out (t + 9) (by rw [wq_len b t ht];omega)
     have h16:=cw_at _ C HD.out (t + 16) (by rw [wq_len b t ht];omega)
     have h0:=cw_at _ C HD.out t (by rw [wq_len b t ht];omega)
     have HQ:=cw_set _ C HD.out (t + 16) (sig1 ((wq b t).getD (t + 14) 0) + (wq b t).getD (t + 9) 0 + sig0 ((wq b t).getD (t + 1) 0) + (wq b t).getD t 0)
     rw [wq_step b t hlt] at HQ
     unfold sig0 sig1 at HQ
     have HQ':Hid _:=HQ
     clear HQ HD
     generalize (wq b t).getD (t + 1) 0=x1 at *
     generalize (wq b t).getD (t + 14) 0=x14 at *
     generalize (wq b t).getD (t + 9) 0=x9 at *
     generalize (wq b t).getD (t + 16) 0=x16 at *
     generalize (wq b t).getD t 0=x0 at *
     go_upto_region 11 with fail
     have hxor:=wv_xor
     have hs3:∀ y,bits .xor .u32 (wv y) ((wv x1).tdiv 8 % 4294967296)=wv (y ^^^ x1 >>> 3):=fun y=>by rw [wv_quo x1 8 3 rfl,wv_xor]
     have hs10:∀ y,bits .xor .u32 (wv y) ((wv x14).tdiv 1024 % 4294967296)=wv (y ^^^ x14 >>> 10):=fun y=>by rw [wv_quo x14 1024 10 rfl,wv_xor]
     go_upto_region 13 with (first | (go_at_call 185;refine (turn_any _ _ (by decide) (by decide) _).mono ?_;rintro e w1 ⟨rfl,rfl⟩))
     have hadd:=wv_add'
     go_region
     go_wp2
     go_roundw
     case rel=>exact ⟨t + 1,n + 1,_,by omega,by go_num,HQ',setCell_top _ _ _ _ _ _ _ rfl⟩
     case measure=>simp [intOf];omega
    ·have e48:t=48:=by omega
     have HWc:Hid (∀ k,k < 64→C[k]? = some (.int .u32 (wv ((sched b 48).getD k 0)))):=by
      intro k hk
      have h:=HD.out;subst e48;rw [wq_end] at h
      exact cw_at _ C h k (by rw [sched_len];omega)
     clear HD e48
     have c0:=HS.out 0 (by omega)
     have c1:=HS.out 1 (by omega)
     have c2:=HS.out 2 (by omega)
     have c3:=HS.out 3 (by omega)
     have c4:=HS.out 4 (by omega)
     have c5:=HS.out 5 (by omega)
     have c6:=HS.out 6 (by omega)
     have c7:=HS.out 7 (by omega)
     simp only [cw,S8.list,List.getD_cons_zero,List.getD_cons_succ] at c0 c1 c2 c3 c4 c5 c6 c7
     have HCM:Hid (Unit→comp st b=st.plus (rnds (sched b 48) st 64)):=fun _=>rfl
     generalize sched b 48=ws at *
     go_wp2
     simp only [show ((t + 16:Nat):Int)=(t:Int) + 16 from by omega]
     go_loopw [22,14,15,16,17,18,19,20,21] (fun i va vb vc vd ve vf vg vh w'=>∃ (k n:Nat) (a b c d e f g h:W32),k ≤ 64∧i = .int .i64 k∧va = .int .u32 (wv a)∧vb = .int .u32 (wv b)∧vc = .int .u32 (wv c)∧vd = .int .u32 (wv d)∧ve = .int .u32 (wv e)∧vf = .int .u32 (wv f)∧vg = .int .u32 (wv g)∧vh = .int .u32 (wv h)∧Hid (Unit→rnds ws st k=⟨a,b,c,d,e,f,g,h⟩)∧Hid (w' = (w.alloc (.cells C 148)).drewN n)) (fun i _ _ _ _ _ _ _ _ _=>64 - (intOf i).toNat)
     case atStart=>exact ⟨0,n,st.a,st.b,st.c,st.d,st.e,st.f,st.g,st.h,by omega,rfl,rfl,rfl,rfl,rfl,rfl,rfl,rfl,rfl,fun _=>rfl,rfl⟩
     case round =>
      clear hlt ht
      obtain ⟨k,n',a,b',c,d,e,f,g,h,hk,rfl,rfl,rfl,rfl,rfl,rfl,rfl,rfl,rfl,HD,hw⟩:=hrel
      by_cases hlt:k < 64
      ·have hkc:wr.cell? ⟨gk,k,none⟩=some (.int .u32 (wv (kks.getD k 0))):=by
        rw [hw.out,cell_old w _ n' gk _ h3]
        exact HK.out k hlt
       have hwc:wr.cell? ⟨w.heap.size,k,none⟩=some (.int .u32 (wv (ws.getD k 0))):=by
        rw [hw.out]
        have:=HWc.out k hlt
        simpa using this
       have HQ:Hid (Unit→rnds ws st (k + 1)=rnd (kks.getD k 0) (ws.getD k 0) ⟨a,b',c,d,e,f,g,h⟩):=by intro _;show rnd _ _ _=_;rw [HD.out ()]
       generalize kks.getD k 0=kk at *
       generalize ws.getD k 0=ww at *
       clear HD HWc HCM
       go_upto_region 25 with fail
       have hxor:=wv_xor
       have hand:=wv_and
       have hadd:=wv_add'
       have hnot:∀ x,(4294967295 - wv x) % 4294967296=wv (~~~ x):=fun x=>by rw [← wv_not',IntKind.wrap_u32']
       go_upto_region 27 with (first | (go_at_call 185;refine (turn_any _ _ (by decide) (by decide) _).mono ?_;rintro e w1 ⟨rfl,rfl⟩))
       go_quiet (fail)
       go_wp2_with (first | (go_at_call 185;refine (turn_any _ _ (by decide) (by decide) _).mono ?_;rintro e w1 ⟨rfl,rfl⟩))
       go_roundw
       case rel=>exact ⟨k + 1,n' + nq,_,_,_,_,_,_,_,_,by omega,by go_num,congrArg (Value.int .u32) (wv_add' _ _),rfl,rfl,rfl,congrArg (Value.int .u32) (wv_add' _ _),rfl,rfl,rfl,fun _=>(HQ.out ()).trans (by unfold rnd tem1 tem2;congr 1;exact (BitVec.add_assoc _ _ _).symm),by show _=_;rw [hw.out];simp⟩
       case measure=>simp [intOf];omega
      ·have e64:k=64:=by omega
       have HR:Hid (Unit→comp st b=st.plus ⟨a,b',c,d,e,f,g,h⟩):=by intro _;have q1:=HCM.out ();have q2:=HD.out ();subst e64;rw [q2] at q1;exact q1
       clear HD HCM HWc HK HB e64
       go_upto_region 38 with fail
       have d0:wr.cell? ⟨gs,0,none⟩=some (.int .u32 (wv st.a)):=by rw [hw.out,cell_old w _ n' gs _ h1];exact c0
       have d1:wr.cell? ⟨gs,1,none⟩=some (.int .u32 (wv st.b)):=by rw [hw.out,cell_old w _ n' gs _ h1];exact c1
       have d2:wr.cell? ⟨gs,2,none⟩=some (.int .u32 (wv st.c)):=by rw [hw.out,cell_old w _ n' gs _ h1];exact c2
       have d3:wr.cell? ⟨gs,3,none⟩=some (.int .u32 (wv st.d)):=by rw [hw.out,cell_old w _ n' gs _ h1];exact c3
       have d4:wr.cell? ⟨gs,4,none⟩=some (.int .u32 (wv st.e)):=by rw [hw.out,cell_old w _ n' gs _ h1];exact c4
       have d5:wr.cell? ⟨gs,5,none⟩=some (.int .u32 (wv st.f)):=by rw [hw.out,cell_old w _ n' gs _ h1];exact c5
       have d6:wr.cell? ⟨gs,6,none⟩=some (.int .u32 (wv st.g)):=by rw [hw.out,cell_old w _ n' gs _ h1];exact c6
       have d7:wr.cell? ⟨gs,7,none⟩=some (.int .u32 (wv st.h)):=by rw [hw.out,cell_old w _ n' gs _ h1];exact c7
       have hadd:=wv_add'
       clear c0 c1 c2 c3 c4 c5 c6 c7
       have hB4:Hid (Below w.heap.size w wr):=by show Below _ _ _;rw [hw.out];exact below_drawn (below_a1 w _) n'
       clear hw
       go_still_tail 40,(by kernel_rfl)
       change wpList _ _ _ _ _ (World.drew wr)
       go_wp2
       go_ret
       refine ⟨wr.heap.size,rfl,hB4.out.size,(top_row wr.drew _).trans ?_,below_more (below_drawn hB4.out 1) _ (Nat.le_refl _)⟩
       rw [HR.out ()]
       simp only [wv_add']
       rfl
theorem rounds_any (w:World):Calls Tryz.prog 146 #[] w fun e w'=>e = .returned (.slice (some ⟨w.heap.size,0,none⟩) 64 64)∧w' = w.alloc (.cells krow 148):=by
 go_enter Tryz.func146,Tryz.ntmps146
 go_wp2
 go_ret
 exact ⟨rfl,rfl⟩
open Go Go.RowKit
set_option maxRecDepth 100000
theorem conv_bytes (W:World) (base:Nat) (l:List UInt8) (hb:base ≤ W.heap.size) (hl:l.length ≤ 140737488355228) :
  ∃ g cap W1,(convert 9 113 (.string ⟨l.toArray⟩)).run Tryz.prog W = .ok (.slice (some ⟨g,0,none⟩) l.length cap) W1∧brow W1 base (.slice (some ⟨g,0,none⟩) l.length cap) l∧Below W.heap.size W W1:=by
 have hr:=Lib.run_convert_string_bytes (P:=Tryz.prog) W 9 113 5 ⟨l.toArray⟩ Tryz.underlying9 Tryz.underlying113 Tryz.underlying5
 have hs:(⟨l.toArray⟩:ByteArray).size=l.length:=rfl
 rw [hs] at hr
 have hge:=grownCap_ge W l.length 0 5
 have hcm:=grownCap_le_maxLen W l.length 0 5 (by unfold maxLen;omega)
 have hcs:(Lib.bytesCells W 5 ⟨l.toArray⟩).size=grownCap W l.length 0 5:=by
  simp [Lib.bytesCells,hs];omega
 refine ⟨W.heap.size,_,_,hr,.inr ⟨W.heap.size,_,_,_,rfl,hb,Lib.bytesWorld_at_new W 5 _,?_,hge,hcs,hcm,?_⟩,?_⟩
 ·intro j hj h;simp at h;omega
 ·simp [Lib.bytesCells]
  intro a _
  rfl
 ·exact ⟨rfl,rfl,rfl,by rw [Lib.bytesWorld_size];omega,fun k hk=>Lib.bytesWorld_at_old W 5 _ k hk⟩
def lastB (N i:Nat):List UInt8:=(nbytes N 8).drop (8 - i)
theorem nbytes_drop (N:Nat) (i:Nat) (h:i < 8):lastB N (i + 1)=nbyte N (7 - i) :: lastB N i:=by
 unfold lastB
 have hl:=nbytes_len N 8
 rcases i with _ | _ | _ | _ | _ | _ | _ | _ | i
 all_goals first | rfl | omega
theorem lastB_end (N:Nat):lastB N 8=nbytes N 8:=rfl
theorem low_byte (N i:Nat) (h:i < 8):((N / 256 ^ i:Nat):Int) % 256=bv (nbyte N (7 - i)):=by
 unfold nbyte
 rw [bv_ofNat,show 7 - (7 - i)=i by omega,Nat.pow_mul,show (2:Nat) ^ 8=256 from rfl]
theorem brow_grown {w w':World} {base g cap n:Nat} {row:Option Nat} {l:List UInt8} (h:brow w base (.slice (some ⟨g,0,none⟩) n cap) l) (hg:w.grownBy w' row) (hne:some g ≠ row):brow w' base (.slice (some ⟨g,0,none⟩) n cap) l:=by
 rcases h with ⟨h,_⟩ | ⟨g',cap',cur,fz,h,h1,h2,h3⟩
 ·simp at h
 ·have e:=h
  simp at h
  obtain ⟨rfl,-,-⟩:=h
  exact .inr ⟨g,cap',cur,fz,e,h1,by rw [hg.block g (Array.getElem?_eq_some_iff.1 h2).1 hne];exact h2,h3⟩
theorem brow_lt {w:World} {base g cap n:Nat} {l:List UInt8} (h:brow w base (.slice (some ⟨g,0,none⟩) n cap) l):g < w.heap.size:=by
 rcases h with ⟨h,_⟩ | ⟨g',cap',cur,fz,h,h1,h2,h3⟩
 ·simp at h
 ·simp at h
  obtain ⟨rfl,-,-⟩:=h
  exact (Array.getElem?_eq_some_iff.1 h2).1
def sliceLen:Value→Nat
 | .slice _ n _=>n
 | _=>0
theorem rsum_any (l:List UInt8) (hl:l.length ≤ 140737488355228) (w:World) :
  Calls Tryz.prog 120 #[.string ⟨l.toArray⟩] w fun e w'=>e = .returned (.agg ((sha l).map cb).toArray)∧Below w.heap.size w w':=by
 have HZ:=zero25
 have hZs:Hid (zb32.size=32):=show zb32.size=32 from rfl
 have HZ0:Hid (zb32=((List.replicate 32 0).map cb).toArray):=show zb32=_ from rfl
 have H25:Hid (∀ w:World,(Instr.build 23 #[]).run Tryz.prog w = .ok (.agg zb32) w):=build25
 generalize zb32=Z at *
 have hw0:Hid (Below w.heap.size w (w.alloc (.cells Z 23))):=below_a1 w _
 have hRZ:Hid ((w.alloc (.cells Z 23)).heap[w.heap.size]? = some (.cells Z 23)):=top_row w _
 have hB0:Hid ((w.alloc (.cells Z 23)).heap.size=w.heap.size + 1):=show _=_ by simp
 go_enter Tryz.func120,Tryz.ntmps120
 go_upto_region 1 with (refine wpList_alloc_row rfl 23 rfl Z HZ ?_)
 generalize w.alloc (.cells Z 23)=w0 at *
 obtain ⟨B,hB⟩:∃ B,B=w0.heap.size:=⟨_,rfl⟩
 obtain ⟨g0,cap0,W1,hcv,hr1,hb1⟩:=conv_bytes w0 B l (by omega) hl
 have HR1:Hid (brow W1 B (.slice (some ⟨g0,0,none⟩) l.length cap0) l):=hr1
 have HB1:Hid (Below B w0 W1):=hB ▸ hb1
 have hsz1:B ≤ W1.heap.size:=by rw [hB];exact hb1.size
 have HBw:Hid (B=w0.heap.size):=hB
 obtain ⟨n,hn⟩:∃ n,n=l.length:=⟨_,rfl⟩
 have hs0:(⟨l.toArray⟩:ByteArray).size=n:=hn.symm
 have Hn:Hid (n=l.length):=hn
 rw [← hn] at hcv HR1 hl
 obtain ⟨z,hz⟩:∃ z,z=(119 - n % 64) % 64:=⟨_,rfl⟩
 have HT:Hid (Unit→tail l.length=(128 :: List.replicate z 0)++nbytes (n * 8) 8):=by intro _;unfold tail;rw [← Hn.out,← hz];rfl
 have hz1:(n + 1 + z) % 64=56:=by omega
 have hz2:z < 64:=by omega
 clear hr1 hb1 hn hB hz
 go_wp2_with (first | (at_builtin;refine wpList_app rfl _ _ rfl B B _ _ l [128] rfl rfl (brow_below HR1.out (below_a1 _ _) (Nat.le_refl _)) (brow_lit _ _ 128 _ rfl hsz1) (Or.inr (by simp)) ?c1 ?c2 ?_))
 case c1=>rw [← Hn.out];simp;omega
 case c2=>simp;omega
 intro v2 w2 hr2 hg2
 have HB2:Hid (Below B w0 w2):=(HB1.out.alloc hsz1 _).grown hg2 (by simp;omega) (brow_own HR1.out)
 obtain ⟨g2,cap2,hv2,-,-⟩:=brow_form hr2 (by simp)
 have hle:(l++[128]).length=n + 1:=by rw [List.length_append,← Hn.out];rfl
 rw [hle] at hv2
 subst v2
 have HR2:Hid (brow w2 B (.slice (some ⟨g2,0,none⟩) (n + 1) cap2) (l++128 :: List.replicate 0 0)):=hr2
 clear hr2 hg2 hcv HR1 HB1 hsz1 hle
 go_wp2
 go_loopw [3] (fun v w'=>∃ (g cap j:Nat),v = .slice (some ⟨g,0,none⟩) (n + 1 + j) cap∧j ≤ z∧Hid (brow w' B (.slice (some ⟨g,0,none⟩) (n + 1 + j) cap) (l++128 :: List.replicate j 0))∧Hid (Below B w0 w')) (fun v _=>n + 100 - sliceLen v)
 case atStart=>exact ⟨g2,cap2,0,rfl,by omega,HR2,HB2⟩
 case round =>
  clear HR2 HB2
  obtain ⟨g,cap,j,rfl,hj,HI,HB⟩:=hrel
  have hsz:B ≤ wr.heap.size:=by rw [HBw.out];exact HB.out.size
  by_cases hlt:j < z
  ·have HS:Hid ((l++128 :: List.replicate j 0)++[0]=l++128 :: List.replicate (j + 1) 0):=by
    show _=_
    rw [List.append_assoc,List.cons_append,← List.replicate_succ']
   have hll:(l++128 :: List.replicate j 0).length=n + 1 + j:=by simp [← Hn.out];omega
   have HLL:Hid _:=hll
   generalize hLd:l++128 :: List.replicate j 0=L at *
   clear hLd hll
   go_wp2_with (first | (at_builtin;refine wpList_app rfl _ _ rfl B B _ _ L [0] rfl rfl (brow_below HI.out (below_a1 _ _) (Nat.le_refl _)) (brow_lit _ _ 0 _ rfl hsz) (Or.inr (by simp)) ?c1 ?c2 ?_))
   case c1=>rw [HLL.out];simp;omega
   case c2=>simp;omega
   intro v3 w3 hr3 hg3
   have HB3:Hid (Below B w0 w3):=(HB.out.alloc hsz _).grown hg3 (by simp;omega) (brow_own HI.out)
   rw [HS.out] at hr3
   obtain ⟨g3,cap3,hv3,-,-⟩:=brow_form hr3 (by simp)
   have hle:(l++128 :: List.replicate (j + 1) 0).length=n + 1 + (j + 1):=by simp [← Hn.out];omega
   rw [hle] at hv3
   subst v3
   have HR3:Hid (brow w3 B (.slice (some ⟨g3,0,none⟩) (n + 1 + (j + 1)) cap3) (l++128 :: List.replicate (j + 1) 0)):=hr3
   clear hr3 hg3 hle HI HB
   go_wp2
   go_roundw
   case rel=>exact ⟨g3,cap3,j + 1,rfl,by omega,HR3,HB3⟩
   case measure=>simp [sliceLen];omega
  ·obtain rfl:j=z:=by omega
   have HI':Hid (brow wr B (.slice (some ⟨g,0,none⟩) (n + 1 + j) cap) (l++128 :: List.replicate j 0)):=HI.out
   have HE0:Hid (brow wr B (.slice none 0 0) (lastB (n * 8) 0)):=Or.inl ⟨rfl,rfl⟩
   clear HI
   go_wp2
   simp only [show (((n:Int) + 1 + (j:Int)) % 64 != 56)=false from by rw [bne_eq_false_iff_eq];omega]
   have HJ:Hid (j < 64):=hz2
   clear hz1 hz2
   go_loopw [4,5,6] (fun N v i w'=>∃ k:Nat,k ≤ 8∧N = .int .i64 ((n * 8 / 256 ^ k:Nat):Int)∧i = .int .i64 k∧Hid (brow w' B v (lastB (n * 8) k))∧Hid (brow w' B (.slice (some ⟨g,0,none⟩) (n + 1 + j) cap) (l++128 :: List.replicate j 0))∧Hid (Below B w0 w')) (fun _ _ i _=>8 - (intOf i).toNat)
   case atStart=>exact ⟨0,by omega,by simp,rfl,HE0,HI',HB⟩
   case round =>
    clear HI' HE0 HB hlt hj
    obtain ⟨k,hk,rfl,rfl,HE,HI,HB⟩:=hrel
    have hsz:B ≤ wr.heap.size:=by rw [HBw.out];exact HB.out.size
    by_cases hlt:k < 8
    ·have hlb:=low_byte (n * 8) k hlt
     have HS:=nbytes_drop (n * 8) k hlt
     have HS':Hid _:=HS
     have HN:Hid (((n * 8 / 256 ^ k:Nat):Int) / 256=((n * 8 / 256 ^ (k + 1):Nat):Int)):=by
      show _=_
      rw [Nat.pow_succ,← Nat.div_div_eq_div_mul];omega
     have hNr:n * 8 / 256 ^ k ≤ n * 8:=Nat.div_le_self _ _
     have hll:(lastB (n * 8) k).length=k:=by unfold lastB;rw [List.length_drop,nbytes_len];omega
     have HLL:Hid _:=hll
     clear HS hll
     generalize n * 8 / 256 ^ k=M at *
     generalize nbyte (n * 8) (7 - k)=c at *
     go_wp2_with (first | (at_builtin;refine wpList_app rfl _ _ rfl B B _ _ [c] (lastB (n * 8) k) rfl rfl (brow_one _ _ c hsz) (brow_below HE.out (below_a1 _ _) (Nat.le_refl _)) (Or.inl (show Value.slice (some ⟨wr.heap.size,0,none⟩) 1 1 ≠ Value.slice none 0 0 from by simp)) ?c1 ?c2 ?_))
     case c1=>rw [HLL.out];simp;omega
     case c2=>simp;omega
     intro v3 w3 hr3 hg3
     have HR3:Hid (brow w3 B v3 (lastB (n * 8) (k + 1))):=by show brow _ _ _ _;rw [HS'.out];exact hr3
     have HB3:Hid (Below B w0 w3):=(HB.out.alloc hsz _).grown hg3 (by simp;omega) (brow_own (brow_one wr B c hsz))
     have hgl:=brow_lt HI.out
     have HI3:Hid (brow w3 B (.slice (some ⟨g,0,none⟩) (n + 1 + j) cap) (l++128 :: List.replicate j 0)):=brow_grown (brow_below HI.out (below_a1 _ _) (Nat.le_refl _)) hg3 (by simp [Value.ownBlock];omega)
     clear hr3 hg3 HE HI HB
     go_wp2
     go_roundw
     case rel=>exact ⟨k + 1,by omega,congrArg (Value.int .i64) HN.out,by go_num,HR3,HI3,HB3⟩
     case measure=>simp [intOf];omega
    ·have e8:k=8:=by omega
     have HE8:Hid (brow wr B u5 (nbytes (n * 8) 8)):=by have h:=HE.out;rw [e8,lastB_end] at h;exact h
     clear HE e8
     have hL2:(l++128 :: List.replicate j 0).length + (nbytes (n * 8) 8).length ≤ 140737488355328:=by have:=HJ.out;rw [nbytes_len];simp [← Hn.out];omega
     have HT2:Hid (Unit→l++128 :: (List.replicate j 0++nbytes (n * 8) 8)=l++tail l.length):=by intro _;rw [HT.out ()];simp
     go_wp2_with (first | (at_builtin;refine wpList_app rfl _ _ rfl B B _ _ _ _ rfl rfl HI.out HE8.out (Or.inl (show Value.slice (some ⟨g,0,none⟩) (n + 1 + j) cap ≠ Value.slice none 0 0 from by simp)) hL2 hsz ?_))
     intro v4 w4 hr4 hg4
     have HB4:Hid (Below B w0 w4):=HB.out.grown hg4 hsz (brow_own HI.out)
     rw [HT2.out ()] at hr4
     obtain ⟨g4,cap4,hv4,-,-⟩:=brow_form hr4 (by simp [tail])
     have hw64:=whole l.length
     have hle4:(l++tail l.length).length=l.length + (tail l.length).length:=List.length_append
     obtain ⟨L,hL⟩:∃ L,L=l++tail l.length:=⟨_,rfl⟩
     obtain ⟨q0,hq0⟩:∃ q0,q0=L.length / 64:=⟨_,rfl⟩
     have HLn:Hid (L.length=64 * q0):=by show _=_;rw [hq0,hL,hle4];omega
     have HSHA:Hid (Unit→sha l=dig (after L q0)):=by intro _;unfold sha;rw [hq0,hL]
     rw [← hL] at hr4 hv4
     rw [HLn.out] at hv4
     subst v4
     have hqb:Hid (q0 ≤ 2300000000000):=by show _ ≤ _;rw [hq0,hL,hle4,tail_len];have:=Hn.out;omega
     have HR4:Hid (brow w4 B (.slice (some ⟨g4,0,none⟩) (64 * q0) cap4) L):=hr4
     clear hr4 hg4 HT2 hL2 HI HE8 HB hw64 hle4 hL hq0 HT
     go_wp2_with fail
     have hs4:B ≤ w4.heap.size:=by rw [HBw.out];exact HB4.out.size
     refine (rounds_any _).mono ?_
     rintro e w5 ⟨rfl,hw5⟩
     have hS5:Hid (w5.heap[w4.heap.size]? = some (.cells ((after L 0).list.map cw).toArray 148)):=by show _=_;rw [hw5];exact heap_alloc2_old w4 _ _
     have hK5:Hid (w5.heap[w4.heap.size + 1]? = some (.cells krow 148)):=by show _=_;rw [hw5];exact heap_alloc2_new w4 _ _
     have hb5:Below w4.heap.size w4 w5:=by rw [hw5];exact below_more (below_a1 w4 _) _ (Nat.le_refl _)
     have HB5:Hid (Below B w0 w5):=HB4.out.trans (hb5.mono hs4)
     have HR5:Hid (brow w5 B (.slice (some ⟨g4,0,none⟩) (64 * q0) cap4) L):=brow_below HR4.out hb5 (Nat.le_refl _)
     have hgk:(w4.alloc (.cells #[.int .u32 1779033703,.int .u32 3144134277,.int .u32 1013904242,.int .u32 2773480762,.int .u32 1359893119,.int .u32 2600822924,.int .u32 528734635,.int .u32 1541459225] 148)).heap.size=w4.heap.size + 1:=by simp
     rw [hgk]
     obtain ⟨gk,hgk'⟩:∃ gk,gk=w4.heap.size + 1:=⟨_,rfl⟩
     obtain ⟨gi,hgi'⟩:∃ gi,gi=w4.heap.size:=⟨_,rfl⟩
     rw [← hgk'] at hK5 ⊢
     rw [← hgi'] at hS5 ⊢
     clear hw5 hb5 HB4 HR4 hgk hgk' hgi' hs4
     go_wp2
     go_loopw [7,9] (fun s i w'=>∃ (q gs:Nat),q ≤ q0∧s = .slice (some ⟨gs,0,none⟩) 8 8∧i = .int .i64 ((64 * q:Nat):Int)∧Hid (w'.heap[gs]? = some (.cells ((after L q).list.map cw).toArray 148))∧Hid (w'.heap[gk]? = some (.cells krow 148))∧Hid (brow w' B (.slice (some ⟨g4,0,none⟩) (64 * q0) cap4) L)∧Hid (Below B w0 w')) (fun _ i _=>64 * q0 - (intOf i).toNat)
     case atStart=>exact ⟨0,gi,by omega,rfl,rfl,hS5,hK5,HR5,HB5⟩
     case round =>
      clear hS5 hK5 HR5 HB5 hlt hk
      obtain ⟨q,gs,hq,rfl,rfl,hS,hK,HR,HB⟩:=hrel
      have hqs:=hqb.out
      by_cases hlt:q < q0
      ·have hcap:64 * q0 ≤ cap4:=by
        rcases HR.out with ⟨h,_⟩ | ⟨g',c',cur,fz,h,h1,h2,h3,h4,h5⟩
        ·simp at h
        ·simp at h;obtain ⟨-,h6,rfl⟩:=h;omega
       have hlt1:(64 * q:Nat) + 64 ≤ 64 * q0:=by omega
       have hne:¬ (cap4=64 * q):=by omega
       have Hs:Hid (∀ j,j < 8→wr.cell? ⟨gs,j,none⟩=some (cw ((after L q).list.getD j 0))):=by
        intro j hj
        rw [cell_of_row _ _ _ _ _ _ hS.out]
        exact cw_at (after L q).list _ rfl j hj
       have Hb:Hid (∀ j,j < 64→wr.cell? ⟨g4,64 * q + j,none⟩=some (cb ((blkAt L q).getD j 0))):=by
        intro j hj
        have hlj:64 * q + j < L.length:=by rw [HLn.out];omega
        rw [(brow_cells HR.out).2 (64 * q + j) hlj]
        have e:(blkAt L q).getD j 0=L.getD (64 * q + j) 0:=by
         unfold blkAt
         simp only [List.getD]
         rw [List.getElem?_take,if_pos hj,List.getElem?_drop]
        rw [e]
       have Hk:Hid (∀ j,j < 64→wr.cell? ⟨gk,j,none⟩=some (cw (kks.getD j 0))):=by
        intro j hj
        rw [cell_of_row _ _ _ _ _ _ hK.out]
        exact cw_at kks _ rfl j hj
       have hl1:Hid (gs < wr.heap.size):=(Array.getElem?_eq_some_iff.1 hS.out).1
       have hl2:Hid (g4 < wr.heap.size):=brow_lt HR.out
       have hl3:Hid (gk < wr.heap.size):=(Array.getElem?_eq_some_iff.1 hK.out).1
       have hBr:Hid (B ≤ wr.heap.size):=by show _ ≤ _;rw [HBw.out];exact HB.out.size
       go_wp2_with fail
       refine (rblock_any (after L q) (blkAt L q) gs g4 (64 * q) (cap4 - 64 * q) gk wr Hs.out Hb.out Hk.out hl1.out hl2.out hl3.out).mono ?_
       rintro e w6 ⟨g6,rfl,hg6,hh6,hb6⟩
       have hS6:Hid (w6.heap[g6]? = some (.cells ((after L (q + 1)).list.map cw).toArray 148)):=hh6
       have hK6:Hid (w6.heap[gk]? = some (.cells krow 148)):=(hb6.block gk hl3.out).trans hK.out
       have HR6:Hid (brow w6 B (.slice (some ⟨g4,0,none⟩) (64 * q0) cap4) L):=brow_below HR.out hb6 (Nat.le_refl _)
       have HB6:Hid (Below B w0 w6):=HB.out.trans (hb6.mono hBr.out)
       clear hh6 hb6 hg6 Hs Hb Hk hl1 hl2 hl3 hBr hS hK HR HB
       go_wp2
       go_roundw
       case rel=>exact ⟨q + 1,g6,by omega,rfl,by go_num,hS6,hK6,HR6,HB6⟩
       case measure=>simp [intOf];omega
      ·obtain rfl:q=q0:=by omega
       have hZs':=hZs.out
       have HZl:Hid (Z.toList.length=Z.size):=Array.length_toList
       have H1:Hid (∀ v ∈ Z.toList,v.oneCell' = true):=by
        show ∀ v ∈ Z.toList,_
        rw [HZ0.out];simpa using one_cb (List.replicate 32 0)
       have HI25:Hid ((Tryz.prog.info? 23).map (·.size)=some Z.toList.length):=by show _=_;rw [Array.length_toList,hZs'];exact size25
       clear hZs'
       go_wp2_with (first | (refine wpList_alloc_row rfl 23 rfl Z HZ ?_) | (refine wpList_build rfl 23 [] rfl [] rfl (.agg Z.toList.toArray) (by rw [Array.toArray_toList];exact H25.out _) ?_) | (refine wpList_store_top rfl 23 _ _ rfl rfl _ rfl Z.toList rfl Z 23 rfl HZl.out H1.out HI25.out ?_))
       have hwB:w.heap.size < B:=by rw [HBw.out,hB0.out];omega
       have hBr:B ≤ wr.heap.size:=by rw [HBw.out];exact HB.out.size
       have hD4:Hid (Z=((digTo (after L q) (4 * 0)).map cb).toArray):=by exact HZ0.out
       have hgs:gs < wr.heap.size:=(Array.getElem?_eq_some_iff.1 hS.out).1
       have hS4:Hid ((wr.alloc (.cells Z 23)).heap[gs]? = some (.cells ((after L q).list.map cw).toArray 148)):=(heap_old1 wr _ gs hgs).trans hS.out
       have hZ4:Hid ((wr.alloc (.cells Z 23)).heap[w.heap.size]? = some (.cells Z 23)):=(heap_old1 wr _ _ (by omega)).trans ((HB.out.block _ hwB).trans hRZ.out)
       have hb4:Hid (Below w.heap.size w (wr.alloc (.cells Z 23))):=below_more (hw0.out.trans (HB.out.mono (by omega))) _ (Nat.le_refl _)
       have HSL:Hid (∀ j,j < 8→((after L q).list.map cw).toArray[j]? = some (.int .u32 (wv ((after L q).list.getD j 0)))):=fun j hj=>cw_at (after L q).list _ rfl j hj
       generalize ((after L q).list.map cw).toArray=SR at *
       generalize after L q=S at *
       have HGD:Hid (gs < wr.heap.size∧w.heap.size < wr.heap.size):=⟨hgs,by omega⟩
       obtain ⟨gd,hgd⟩:∃ gd,gd=wr.heap.size:=⟨_,rfl⟩
       have htop:Hid ((wr.alloc (.cells Z 23)).heap[gd]? = some (.cells Z 23)):=by show _=_;rw [hgd];exact top_row wr _
       rw [← hgd] at HGD ⊢
       generalize wr.alloc (.cells Z 23)=w7 at *
       clear hwB hBr hgs hS hK HR HB hqs hlt hgd
       go_loopw [11] (fun i w'=>∃ (t:Nat) (D:Array Value),t ≤ 8∧i = .int .i64 t∧Hid (D=((digTo S (4 * t)).map cb).toArray)∧Hid (w'.heap[gd]? = some (.cells D 23))∧Hid (w'.heap[gs]? = some (.cells SR 148))∧Hid (w'.heap[w.heap.size]? = some (.cells Z 23))∧Hid (Below w.heap.size w w')) (fun i _=>8 - (intOf i).toNat)
       case atStart=>exact ⟨0,_,by omega,rfl,hD4,htop,hS4,hZ4,hb4⟩
       case round =>
        clear hD4 htop hS4 hZ4 hb4
        obtain ⟨t,D,ht,rfl,HD,hD,hS,hZ,hB⟩:=hrel
        by_cases hlt:t < 8
        ·have hc:wr.cell? ⟨gs,t,none⟩=some (.int .u32 (wv (S.list.getD t 0))):=by rw [cell_of_row _ _ _ _ _ _ hS.out];exact HSL.out t hlt
         have hDs:Hid (D.size=32):=by show _=_;rw [HD.out];simp [digTo_len S (4 * t) (by omega)]
         have hcd:∀ i,i < 4→∃ y:Value,wr.cell? ⟨gd,4 * t + i,none⟩=some y:=by
          intro i hi
          rw [cell_of_row _ _ _ _ _ _ hD.out]
          exact ⟨_,Array.getElem?_eq_getElem (by rw [hDs.out];omega)⟩
         obtain ⟨y0,hy0⟩:=hcd 0 (by omega)
         obtain ⟨y1,hy1⟩:=hcd 1 (by omega)
         obtain ⟨y2,hy2⟩:=hcd 2 (by omega)
         obtain ⟨y3,hy3⟩:=hcd 3 (by omega)
         have hf0:∀ i,wr.frozen? ⟨gd,i,none⟩=false:=fun i=>frozen_of_row _ _ _ _ _ hD.out
         have HQ:Hid ((((D.setIfInBounds (4 * t) (.int .u8 (bv (wbyte (S.list.getD t 0) 0)))).setIfInBounds (4 * t + 1) (.int .u8 (bv (wbyte (S.list.getD t 0) 1)))).setIfInBounds (4 * t + 2) (.int .u8 (bv (wbyte (S.list.getD t 0) 2)))).setIfInBounds (4 * t + 3) (.int .u8 (bv (wbyte (S.list.getD t 0) 3)))=((digTo S (4 * (t + 1))).map cb).toArray):=by
          have s0:=digTo_step S (4 * t) (by omega)
          have s1:=digTo_step S (4 * t + 1) (by omega)
          have s2:=digTo_step S (4 * t + 2) (by omega)
          have s3:=digTo_step S (4 * t + 3) (by omega)
          rw [show 4 * t / 4=t by omega,show 4 * t % 4=0 by omega] at s0
          rw [show (4 * t + 1) / 4=t by omega,show (4 * t + 1) % 4=1 by omega] at s1
          rw [show (4 * t + 2) / 4=t by omega,show (4 * t + 2) % 4=2 by omega] at s2
          rw [show (4 * t + 3) / 4=t by omega,show (4 * t + 3) % 4=3 by omega] at s3
          show _=_
          rw [cb_set _ D HD.out,cb_set _ _ rfl,cb_set _ _ rfl,cb_set _ _ rfl,s0,s1,s2,s3]
          rfl
         generalize S.list.getD t 0=x at *
         clear hcd
         simp only [Nat.add_zero] at hy0
         have hx:=(wv_range x).1
         have v0:(wv x).tdiv 16777216 % 256=bv (wbyte x 0):=by rw [← wbyte_bv,Int.tdiv_eq_ediv_of_nonneg hx];rfl
         have v1:(wv x).tdiv 65536 % 256=bv (wbyte x 1):=by rw [← wbyte_bv,Int.tdiv_eq_ediv_of_nonneg hx];rfl
         have v2:(wv x).tdiv 256 % 256=bv (wbyte x 2):=by rw [← wbyte_bv,Int.tdiv_eq_ediv_of_nonneg hx];rfl
         have v3:(wv x).tmod 256 % 256=bv (wbyte x 3):=by rw [← wbyte_bv,Int.tmod_eq_emod_of_nonneg hx];simp
         have V0:Hid _:=v0
         have V1:Hid _:=v1
         have V2:Hid _:=v2
         have V3:Hid _:=v3
         clear v0 v1 v2 v3 hx
         go_wp2
         rw [V0.out,V1.out,V2.out,V3.out]
         have o1:=HGD.out
         go_roundw
         case rel =>
          refine ⟨t + 1,_,by omega,by go_num,HQ,?_,?_,?_,?_⟩
          ·exact heap_setCell_same _ _ _ _ _ _ (heap_setCell_same _ _ _ _ _ _ (heap_setCell_same _ _ _ _ _ _ (heap_setCell_same _ _ _ _ _ _ hD.out)))
          ·show _=_
           rw [heap_setCell_other _ _ gs _ (by show gs ≠ gd;omega),heap_setCell_other _ _ gs _ (by show gs ≠ gd;omega),heap_setCell_other _ _ gs _ (by show gs ≠ gd;omega),heap_setCell_other _ _ gs _ (by show gs ≠ gd;omega)]
           exact hS.out
          ·show _=_
           rw [heap_setCell_other _ _ w.heap.size _ (by show w.heap.size ≠ gd;omega),heap_setCell_other _ _ w.heap.size _ (by show w.heap.size ≠ gd;omega),heap_setCell_other _ _ w.heap.size _ (by show w.heap.size ≠ gd;omega),heap_setCell_other _ _ w.heap.size _ (by show w.heap.size ≠ gd;omega)]
           exact hZ.out
          ·exact below_setCell (below_setCell (below_setCell (below_setCell hB.out _ _ (by show w.heap.size ≤ gd;omega)) _ _ (by show w.heap.size ≤ gd;omega)) _ _ (by show w.heap.size ≤ gd;omega)) _ _ (by show w.heap.size ≤ gd;omega)
         case measure=>simp [intOf];omega
        ·have e8:t=8:=by omega
         have HE:Hid (Unit→D=((sha l).map cb).toArray):=by
          intro _
          rw [HSHA.out (),HD.out,e8,digTo_end]
         have hDs:D.size=32:=by rw [HD.out];simp [digTo_len S (4 * t) (by omega)]
         have HC:Hid (∀ i v,D.toList[i]? = some v→wr.cell? ⟨gd,0 + i,none⟩=some v):=by
          intro i v hv
          rw [cell_of_row _ _ _ _ _ _ hD.out]
          simpa using hv
         have HI8:Hid ((Tryz.prog.info? 23).map (·.size)=some D.toList.length):=by show _=_;rw [Array.length_toList,hDs];exact size25
         have HF:Hid (0 + D.toList.length ≤ Z.size):=by show _ ≤ _;rw [Array.length_toList,hDs,hZs.out];omega
         have H1D:Hid (∀ v ∈ D.toList,v.oneCell' = true):=by
          show ∀ v ∈ D.toList,_
          rw [HD.out];simpa using one_cb (digTo S (4 * t))
         clear HD e8
         go_wp2_with (first | (refine wpList_load_seg rfl 23 _ rfl gd 0 rfl D.toList _ HC.out Tryz.underlying23 rfl HI8.out ?_) | (refine wpList_store_seg rfl 23 _ _ rfl rfl w.heap.size 0 rfl D.toList rfl Z 23 hZ.out HF.out H1D.out HI8.out ?_))
         have HRR:Hid ((List.take 0 Z.toList++D.toList++List.drop (0 + D.toList.length) Z.toList).toArray=D):=by
          have h64:Z.toList.length ≤ 0 + D.toList.length:=by rw [Array.length_toList,Array.length_toList,hDs,hZs.out];omega
          show _=_
          rw [List.drop_eq_nil_of_le h64];simp
         refine bodyPost_ret_by (results_cell_row (fn:=Tryz.f120) (p:=2) (ty:=23) (by kernel_rfl) _ _ w.heap.size 23 D (0,0) _ rfl (by rw [HRR.out];exact setRow_heap _ _ _ _ _ _ hZ.out) Tryz.underlying23 rfl (by rw [hDs];exact size25)) rfl ?_
         refine ⟨by rw [HE.out ()],?_⟩
         exact below_setRow hB.out _ _ (by omega)
end Go.Proofs.YthkkjjlpahdagaaGreatDoor
