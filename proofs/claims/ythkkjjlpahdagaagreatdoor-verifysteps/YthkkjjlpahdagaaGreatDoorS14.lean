/-
  Whether a message may be: what msg.hasNothingElse and msg.mayBe answer.
-/
import Derived.Test.YthkkjjlpahdagaaGreatDoorS12
import Derived.Test.YthkkjjlpahdagaaGreatDoorTjhm
import Derived.Test.YthkkjjlpahdagaaGreatDoorS13
import Derived.Test.YthkkjjlpahdagaaGreatDoorTjps
set_option maxHeartbeats 4000000
namespace Go.Proofs.YthkkjjlpahdagaaGreatDoor.Ms
open Go Go.RowKit
set_option maxRecDepth 100000
theorem ok_zero (k:Slot):okVal k.zero:=by
 cases k using Slot.cut
 ·exact i64_zero
 ·exact Nat.zero_le _
 ·exact zeroD_len
 ·exact ⟨Nat.zero_le _,fun n h=>by cases h⟩
 ·exact ⟨Nat.zero_le _,fun n h=>by cases h⟩
theorem empty_go {α:Type} (f:Fl α) (fs:List (Fl α)) (x:α):emptyAll (f :: fs) x=emptyAll fs (f.set x f.slot.zero):=rfl
theorem zero_kind (k:Int):(msgC (zeroM k 0) (.slice none 0 0) (.slice none 0 0)).toArray=Tryz.zeroCells102.setIfInBounds 0 (nu k):=by kernel_rfl
theorem fields_len (k:Int):(fieldsM k).length ≤ 100:=by
 rcases fields_cases k with ⟨_,e⟩ | ⟨_,e⟩ | ⟨_,e⟩ | ⟨_,e⟩ | ⟨_,e⟩ | ⟨_,e⟩ | ⟨_,e⟩ | ⟨_,e⟩ | ⟨_,e⟩ <;> rw [e] <;> decide
theorem set_kind (k:Int) (f:Fl Msg) (hf:f ∈ fieldsM k) (m:Msg) (v:Val):(f.set m v).kind=m.kind:=by
 rcases fields_cases k with ⟨_,e⟩ | ⟨_,e⟩ | ⟨_,e⟩ | ⟨_,e⟩ | ⟨_,e⟩ | ⟨_,e⟩ | ⟨_,e⟩ | ⟨_,e⟩ | ⟨_,e⟩ <;> rw [e] at hf
 ·simp only [subFs,List.mem_cons,List.not_mem_nil,or_false] at hf
  rcases hf with rfl | rfl | rfl | rfl | rfl | rfl | rfl <;> rfl
 ·simp only [repFs,List.mem_cons,List.not_mem_nil,or_false] at hf
  rcases hf with rfl | rfl | rfl | rfl | rfl | rfl | rfl | rfl | rfl | rfl <;> rfl
 ·simp only [comFs,List.mem_cons,List.not_mem_nil,or_false] at hf
  rcases hf with rfl | rfl | rfl <;> rfl
 ·simp only [bloFs,List.mem_cons,List.not_mem_nil,or_false] at hf
  rcases hf with rfl | rfl | rfl | rfl <;> rfl
 ·simp only [lstFs,List.mem_cons,List.not_mem_nil,or_false] at hf
  rcases hf with rfl | rfl <;> rfl
 ·simp only [proFs,List.mem_cons,List.not_mem_nil,or_false] at hf
  subst hf;rfl
 ·simp only [verFs,List.mem_cons,List.not_mem_nil,or_false] at hf
  rcases hf with rfl | rfl | rfl | rfl | rfl <;> rfl
 ·simp only [alaFs,List.mem_cons,List.not_mem_nil,or_false] at hf
  rcases hf with rfl | rfl <;> rfl
 ·cases hf
theorem box_msg {w:World} {m:Msg} {vP vN:Value} (hw:m.Wf) (hr:m.Rng) (hp:PensAt w vP m.rep.pend) (hn:IntsAt w vN m.nums) (hl:m.rep.pend.length ≤ 9223372036854775807∧m.nums.length ≤ 9223372036854775807):MsgAt [] w.heap.size m (w.alloc (.cells (msgC m vP vN).toArray 102)):=by
 refine ⟨⟨vP,vN,top_obj _ _,hp.kept (below_a1 _ _),hn.kept (below_a1 _ _),fun x hx hne a l c e=>?_,fun x hx hne a l c e=>?_⟩,(fun x hx=>by cases hx),hw,hr,hl⟩
 ·obtain ⟨a',cap,rfl,hc⟩:=hp
  obtain ⟨b,off,rfl,hj⟩:=hc (fun e=>hne (by rw [e];rfl))
  cases e
  have h0:0 < m.rep.pend.length:=Nat.pos_of_ne_zero hne
  have wp:=getD_wf hw.rep.pend 0 h0
  have:=World.block_lt_of_cell? w _ (hj 0 h0 0 _ (by unfold penC;rfl))
  simp only [List.mem_cons,List.not_mem_nil,or_false] at hx
  show b ≠ _
  have:b < w.heap.size:=this
  omega
 ·obtain ⟨a',cap,rfl,hc⟩:=hn
  obtain ⟨b,off,rfl,hj⟩:=hc (fun e=>hne (by rw [e];rfl))
  cases e
  have h0:0 < m.nums.length:=Nat.pos_of_ne_zero hne
  have:=World.block_lt_of_cell? w _ (hj 0 h0)
  simp only [List.mem_cons,List.not_mem_nil,or_false] at hx
  show b ≠ _
  have:b < w.heap.size:=this
  omega
theorem fieldsof_form (g:Nat) (kind:Int) (fs:List (Fl Msg)) (hfs:fs=fieldsM kind) (w:World) (hk:w.cell? ⟨g,0,none⟩=some (nu kind)):Calls Tryz.prog 101 #[ptr g 0] w fun e w'=>∃ av,e = .returned (.slice av fs.length fs.length)∧FieldsAt w' (.slice av fs.length fs.length) g (spots 0 fs)∧Below w.heap.size w w':=by
 subst hfs
 refine (fieldsof_any g kind w hk).mono ?_
 rintro e w' ⟨v,rfl,hv,hb⟩
 have hv2:=hv
 obtain ⟨av,bs,rfl,-⟩:=hv
 rw [spots_len] at hv2 ⊢
 exact ⟨av,rfl,hv2,hb⟩
theorem MsgAt.cell_kind {X:List Nat} {g:Nat} {m:Msg} {w:World} (h:MsgAt X g m w):w.cell? ⟨g,0,none⟩=some (nu m.kind):=by
 obtain ⟨vP,vN,hr,-⟩:=h.row
 exact mrow_kind hr h.wf
open Go Go.RowKit
set_option maxRecDepth 100000
theorem rest_any {w:World} {m:Msg} {vP vN:Value} (hw:m.Wf) (hr:m.Rng) (hp:PensAt w vP m.rep.pend) (hn:IntsAt w vN m.nums) (hl:m.rep.pend.length ≤ 9223372036854775807∧m.nums.length ≤ 9223372036854775807) :
  Calls Tryz.prog 111 #[.agg (msgC m vP vN).toArray] w fun e w'=>e = .returned (.bool (restB m))∧Below w.heap.size w w':=by
 have HB0:=hid (below_a1 w (.cells (msgC m vP vN).toArray 102))
 have HM0:=hid (box_msg hw hr hp hn hl)
 obtain ⟨RA,hRA⟩:∃ RA,RA=(msgC m vP vN).toArray:=⟨_,rfl⟩
 rw [← hRA] at HB0 HM0 ⊢
 clear hRA hw hr hp hn hl
 obtain ⟨fs,hfs⟩:∃ fs,fs=fieldsM m.kind:=⟨_,rfl⟩
 have hn100:fs.length ≤ 100:=by rw [hfs];exact fields_len _
 have HFo:=hid (fun (g:Nat) (W:World) (h:W.cell? ⟨g,0,none⟩=some (nu m.kind))=>fieldsof_form g m.kind fs hfs W h)
 have HHa:Hid (∀ g,Hold fs g 0 (MsgAt [] g)):=by rw [hfs];exact fun g=>msg_hold [] g m.kind
 have HSK:Hid (∀ f ∈ fs,∀ (y:Msg) (v:Val),(f.set y v).kind=y.kind):=by rw [hfs];exact fun f hf y v=>set_kind m.kind f hf y v
 have HRes:Hid (restB m=sameM (emptyAll fs m) (zeroM m.kind 0)):=by rw [hfs];rfl
 clear hfs
 go_enter Tryz.func111,Tryz.ntmps111
 go_upto_region 1 with fail
 generalize w.alloc (.cells RA 102)=W0 at *
 obtain ⟨g,hg⟩:∃ g,g=w.heap.size:=⟨_,rfl⟩
 rw [← hg] at HM0 ⊢
 have HG:=hid hg
 clear hg
 have HH:=hid (HHa.out g)
 have HFs:=hid (HFo.out g W0 HM0.out.cell_kind)
 clear HFo HHa
 go_wp2_with fail
 refine HFs.out.mono ?_
 rintro e W1 ⟨av,rfl,hv,hb⟩
 have HV:=hid hv
 have HB1:=hid (below_two HB0.out hb)
 have HM1:=hid (HH.out.stay m _ _ HM0.out hb)
 have HOw:=hid (HH.out.own m _ HM1.out)
 have HE0:Hid (emptyAll fs m=emptyAll (fs.drop 0) m):=by show _=_;rfl
 have HKr:=hid (Kept.refl g W1)
 clear hb hv HFs HB0 HM0
 go_wp2
 go_loopw [7] (fun i w'=>∃ (k:Nat) (y:Msg),k ≤ fs.length∧i = .int .i64 k∧Hid (emptyAll fs m=emptyAll (fs.drop k) y)∧Hid (MsgAt [] g y w')∧Hid (y.kind=m.kind)∧Hid (Kept g W1 w')) (fun i _=>fs.length - (intOf i).toNat)
 case atStart=>exact ⟨0,m,Nat.zero_le _,rfl,HE0,HM1,rfl,HKr⟩
 case round =>
  obtain ⟨k,y,hk,rfl,HE,HY,HYk,HK⟩:=hrel
  clear HE0 HM1 HKr
  by_cases hlt:k < fs.length
  ·have d1:decide ((k:Int) < (fs.length:Int))=true:=decide_eq_true (by omega)
   have d1':decide (k < fs.length)=true:=decide_eq_true hlt
   obtain ⟨row,b,ha,hF,hc⟩:=(HV.out.kept HOw.out HK.out).cells k (by rw [spots_len];exact hlt)
   subst ha
   rw [spots_at 0 fs k hlt] at hF hc
   have hmem:fs[k] ∈ fs:=List.getElem_mem hlt
   have Z0:(Tryz.prog.info? 176).map (·.size)=some (fieldV fs[k].slot b).length:=sizeFld
   have HOn:=hid (one_fld fs[k].slot b)
   have hL:([.nilFunc,.nilFunc,.nilFunc]:List Value).length=(fieldV fs[k].slot b).length:=rfl
   have S0:=hid hc
   have HBt:=hid (below_a1 wr (.cells (fieldV fs[k].slot b).toArray 176))
   have T0:=hid (top_obj wr (.cells (fieldV fs[k].slot b).toArray 176))
   obtain ⟨A,old,C,t,hrow,hA,hol,hst⟩:=HH.out.store y _ (HH.out.stay y _ _ HY.out HBt.out) _ hmem
   have HC:=hid (c3_any fs[k].slot (hF.stays HBt.out) A old C t hrow hA hol)
   have HKt:=hid (HK.out.trans (Kept.of HBt.out))
   rw [drop_at fs k hlt,empty_go] at HE
   have HSt:=hid (fun w'=>hst fs[k].slot.zero w' (zero_slot _) (ok_zero _))
   have HYn:Hid ((fs[k].set y fs[k].slot.zero).kind=m.kind):=(HSK.out _ hmem _ _).trans HYk.out
   clear hc hmem hF hrow hA hol hst HY HK HBt HH HOw HV HYk HSK HRes
   generalize fs[k].set y fs[k].slot.zero=y2 at *
   generalize fs[k].slot=sl at *
   cases sl using Slot.cut with
   | num=>as_aux_lemma =>
    have ce:(wr.alloc (.cells (fieldV .num b).toArray 176)).cell? ⟨wr.heap.size,2,none⟩=some (.func (.func (c3Fn .num)) #[] #[ptr b.x 0]):=by rw [cell_of_row _ _ _ _ _ _ T0.out];rfl
    simp only [c3Fn] at ce HC
    generalize fieldV .num b=V at *
    clear T0
    go_upto_region 4 with (first | ((with_reducible refine wl_load 176 (.tmp 9) ?_ row (k * 3) ?_ ?_ V _ S0.out Tryz.underlying176 ?_ Z0 ?_);iterate 4 exact rfl) | ((with_reducible refine wl_store_top 176 (.tmp 4) (.tmp 10) ?_ ?_ ?_ ?_ V [.nilFunc,.nilFunc,.nilFunc] ?_ 176 hL HOn.out Z0 ?_);exact rfl;iterate 4 exact rfl))
    generalize wr.alloc (.cells V.toArray 176)=W2 at *
    go_wp2_with fail
    refine HC.out.mono ?_
    rintro e w3 ⟨rfl,hst3⟩
    have HK3:=hid (HKt.out.trans hst3.kept)
    have HY3:=hid (HSt.out _ hst3)
    clear hst3 HC HKt S0 ce HSt
    go_wp2
    exact ⟨⟨k + 1,y2,by omega,by go_num,HE,HY3,HYn,HK3⟩,by simp [intOf];omega⟩
   | txt=>as_aux_lemma =>
    have ce:(wr.alloc (.cells (fieldV .txt b).toArray 176)).cell? ⟨wr.heap.size,2,none⟩=some (.func (.func (c3Fn .txt)) #[] #[ptr b.x 0]):=by rw [cell_of_row _ _ _ _ _ _ T0.out];rfl
    simp only [c3Fn] at ce HC
    generalize fieldV .txt b=V at *
    clear T0
    go_upto_region 4 with (first | ((with_reducible refine wl_load 176 (.tmp 9) ?_ row (k * 3) ?_ ?_ V _ S0.out Tryz.underlying176 ?_ Z0 ?_);iterate 4 exact rfl) | ((with_reducible refine wl_store_top 176 (.tmp 4) (.tmp 10) ?_ ?_ ?_ ?_ V [.nilFunc,.nilFunc,.nilFunc] ?_ 176 hL HOn.out Z0 ?_);exact rfl;iterate 4 exact rfl))
    generalize wr.alloc (.cells V.toArray 176)=W2 at *
    go_wp2_with fail
    refine HC.out.mono ?_
    rintro e w3 ⟨rfl,hst3⟩
    have HK3:=hid (HKt.out.trans hst3.kept)
    have HY3:=hid (HSt.out _ hst3)
    clear hst3 HC HKt S0 ce HSt
    go_wp2
    exact ⟨⟨k + 1,y2,by omega,by go_num,HE,HY3,HYn,HK3⟩,by simp [intOf];omega⟩
   | dig=>as_aux_lemma =>
    have ce:(wr.alloc (.cells (fieldV .dig b).toArray 176)).cell? ⟨wr.heap.size,2,none⟩=some (.func (.func (c3Fn .dig)) #[] #[ptr b.x 0]):=by rw [cell_of_row _ _ _ _ _ _ T0.out];rfl
    simp only [c3Fn] at ce HC
    generalize fieldV .dig b=V at *
    clear T0
    go_upto_region 4 with (first | ((with_reducible refine wl_load 176 (.tmp 9) ?_ row (k * 3) ?_ ?_ V _ S0.out Tryz.underlying176 ?_ Z0 ?_);iterate 4 exact rfl) | ((with_reducible refine wl_store_top 176 (.tmp 4) (.tmp 10) ?_ ?_ ?_ ?_ V [.nilFunc,.nilFunc,.nilFunc] ?_ 176 hL HOn.out Z0 ?_);exact rfl;iterate 4 exact rfl))
    generalize wr.alloc (.cells V.toArray 176)=W2 at *
    go_wp2_with fail
    refine HC.out.mono ?_
    rintro e w3 ⟨rfl,hst3⟩
    have HK3:=hid (HKt.out.trans hst3.kept)
    have HY3:=hid (HSt.out _ hst3)
    clear hst3 HC HKt S0 ce HSt
    go_wp2
    exact ⟨⟨k + 1,y2,by omega,by go_num,HE,HY3,HYn,HK3⟩,by simp [intOf];omega⟩
   | nums=>as_aux_lemma =>
    have ce:(wr.alloc (.cells (fieldV .nums b).toArray 176)).cell? ⟨wr.heap.size,2,none⟩=some (.func (.func (c3Fn .nums)) #[] #[ptr b.x 0]):=by rw [cell_of_row _ _ _ _ _ _ T0.out];rfl
    simp only [c3Fn] at ce HC
    generalize fieldV .nums b=V at *
    clear T0
    go_upto_region 4 with (first | ((with_reducible refine wl_load 176 (.tmp 9) ?_ row (k * 3) ?_ ?_ V _ S0.out Tryz.underlying176 ?_ Z0 ?_);iterate 4 exact rfl) | ((with_reducible refine wl_store_top 176 (.tmp 4) (.tmp 10) ?_ ?_ ?_ ?_ V [.nilFunc,.nilFunc,.nilFunc] ?_ 176 hL HOn.out Z0 ?_);exact rfl;iterate 4 exact rfl))
    generalize wr.alloc (.cells V.toArray 176)=W2 at *
    go_wp2_with fail
    refine HC.out.mono ?_
    rintro e w3 ⟨rfl,hst3⟩
    have HK3:=hid (HKt.out.trans hst3.kept)
    have HY3:=hid (HSt.out _ hst3)
    clear hst3 HC HKt S0 ce HSt
    go_wp2
    exact ⟨⟨k + 1,y2,by omega,by go_num,HE,HY3,HYn,HK3⟩,by simp [intOf];omega⟩
   | pens=>as_aux_lemma =>
    have ce:(wr.alloc (.cells (fieldV .pens b).toArray 176)).cell? ⟨wr.heap.size,2,none⟩=some (.func (.func (c3Fn .pens)) #[] #[ptr b.x 0]):=by rw [cell_of_row _ _ _ _ _ _ T0.out];rfl
    simp only [c3Fn] at ce HC
    generalize fieldV .pens b=V at *
    clear T0
    go_upto_region 4 with (first | ((with_reducible refine wl_load 176 (.tmp 9) ?_ row (k * 3) ?_ ?_ V _ S0.out Tryz.underlying176 ?_ Z0 ?_);iterate 4 exact rfl) | ((with_reducible refine wl_store_top 176 (.tmp 4) (.tmp 10) ?_ ?_ ?_ ?_ V [.nilFunc,.nilFunc,.nilFunc] ?_ 176 hL HOn.out Z0 ?_);exact rfl;iterate 4 exact rfl))
    generalize wr.alloc (.cells V.toArray 176)=W2 at *
    go_wp2_with fail
    refine HC.out.mono ?_
    rintro e w3 ⟨rfl,hst3⟩
    have HK3:=hid (HKt.out.trans hst3.kept)
    have HY3:=hid (HSt.out _ hst3)
    clear hst3 HC HKt S0 ce HSt
    go_wp2
    exact ⟨⟨k + 1,y2,by omega,by go_num,HE,HY3,HYn,HK3⟩,by simp [intOf];omega⟩
  ·as_aux_lemma =>
   have hkl:k=fs.length:=by omega
   subst hkl
   have dk:decide ((fs.length:Int) < (fs.length:Int))=false:=decide_eq_false (by omega)
   have HF:Hid (restB m=sameM y (zeroM m.kind 0)):=by show _=_;rw [HRes.out,HE.out,List.drop_length];rfl
   obtain ⟨vP',vN',hrow,hpp,hnn,-,-⟩:=HY.out.row
   have hwf:=HY.out.wf
   have ck:=mrow_kind hrow hwf
   rw [HYk.out] at ck
   have S0:=hid (row_seg (off:=0) (A:=[]) (cs:=msgC y vP' vN') (C:=[]) hrow (by simp) rfl)
   have Z0:(Tryz.prog.info? 102).map (·.size)=some (msgC y vP' vN').length:=by rw [msgC_len hwf];exact sizeMsg
   have HS:=hid (fun h1 h2=>msame_any (w:=wr) (b:=zeroM m.kind 0) hwf (zeroM_wf m.kind 0) hpp (PensAt.nil wr) hnn (IntsAt.nil wr) h1 h2)
   rw [zero_kind] at HS
   have HBf:Hid (Below w.heap.size w wr):=HK.out.below HB1.out (by rw [HG.out];exact Nat.le_refl _)
   generalize sameM y (zeroM m.kind 0)=bb at *
   generalize msgC y vP' vN' = V at *
   have HLn:=hid HY.out.len
   generalize m.kind=kk at *
   clear HH HOw HV HE HY HYk HSK HRes hrow hpp hnn hwf HK
   go_wp2_with (first | ((with_reducible refine wl_load 102 (.tmp 1) ?_ g 0 ?_ ?_ V _ S0.out Tryz.underlying102 ?_ Z0 ?_);iterate 4 exact rfl))
   refine (HS.out HLn.out.1 HLn.out.2).mono ?_
   rintro e w2 ⟨rfl,hb2⟩
   have HB2:=hid (below_two HBf.out hb2)
   clear hb2
   go_wp2
   go_ret
   exact ⟨by rw [HF.out];rfl,HB2.out⟩
open Go Go.RowKit
set_option maxRecDepth 100000
def Lens (m:Msg):Prop:=m.rep.pend.length ≤ 9223372036854775807∧m.nums.length ≤ 9223372036854775807
theorem mayB_a {m:Msg} (h:inB m.client 0 7=false):mayB m=false:=by unfold mayB;rw [h];rfl
theorem mayB_b {m:Msg} (h:inB m.client 0 7=true) (h2:partsB m=false):mayB m=false:=by unfold mayB;rw [h,h2];rfl
theorem mayB_c {m:Msg} (h:inB m.client 0 7=true) (h2:partsB m=true):mayB m=restB m:=by unfold mayB;rw [h,h2];rfl
theorem maybe_any {w:World} {m:Msg} {vP vN:Value} (hw:m.Wf) (hr:m.Rng) (hp:PensAt w vP m.rep.pend) (hn:IntsAt w vN m.nums) (hl:Lens m) (hR:m.kind=2→RepOk m.rep) :
  Calls Tryz.prog 99 #[.agg (msgC m vP vN).toArray] w fun e w'=>e = .returned (.bool (mayB m))∧Below w.heap.size w w':=by
 have HB0:=hid (below_a1 w (.cells (msgC m vP vN).toArray 102))
 have R0:=hid (top_obj w (.cells (msgC m vP vN).toArray 102))
 have K1:=hid (fun W=>isclient_any m.client W)
 have K2:=hid (fun (W:World) (h:Below w.heap.size w W)=>partsmay_any hw (hp.kept h) (hn.kept h) hR hl.2)
 have K3:=hid (fun (W:World) (h:Below w.heap.size w W)=>rest_any hw hr (hp.kept h) (hn.kept h) hl)
 have Z0:(Tryz.prog.info? 102).map (·.size)=some (msgC m vP vN).length:=by rw [msgC_len hw];exact sizeMsg
 have cc0:=mrow_client R0.out hw
 clear hp hn hR hl hr
 obtain ⟨V,hV⟩:∃ V,V=msgC m vP vN:=⟨_,rfl⟩
 rw [← hV] at HB0 R0 K2 K3 Z0 cc0 ⊢
 clear hV hw
 have S0:=hid (row_seg (off:=0) (A:=[]) (cs:=V) (C:=[]) R0.out (by simp) rfl)
 have HRw:=hid (fun (W:World) (h:Below (w.alloc (.cells V.toArray 102)).heap.size (w.alloc (.cells V.toArray 102)) W)=>row_seg (off:=0) (A:=[]) (cs:=V) (C:=[]) (row_kept R0.out h) (by simp) rfl)
 clear R0
 cases h1:inB m.client 0 7 with
 | false=>as_aux_lemma =>
  have HF:=hid (mayB_a h1)
  rw [h1] at K1
  go_enter Tryz.func99,Tryz.ntmps99
  go_upto_region 1 with fail
  generalize w.alloc (.cells V.toArray 102)=W0 at *
  go_wp2_with fail
  refine (K1.out _).mono ?_
  rintro e v ⟨rfl,hv⟩
  subst v
  go_wp2
  go_ret
  exact ⟨by rw [HF.out];rfl,HB0.out⟩
 | true =>
  rw [h1] at K1
  cases h2:partsB m with
  | false=>as_aux_lemma =>
   have HF:=hid (mayB_b h1 h2)
   rw [h2] at K2
   clear h1 h2
   go_enter Tryz.func99,Tryz.ntmps99
   go_upto_region 1 with fail
   generalize w.alloc (.cells V.toArray 102)=W0 at *
   go_wp2_with fail
   refine (K1.out _).mono ?_
   rintro e v ⟨rfl,hv⟩
   subst v
   go_wp2_with (first | ((with_reducible refine wl_load 102 (.tmp 1) ?_ w.heap.size 0 ?_ ?_ V _ S0.out Tryz.underlying102 ?_ Z0 ?_);iterate 4 exact rfl))
   refine (K2.out _ HB0.out).mono ?_
   rintro e w1 ⟨rfl,hb⟩
   have HB1:=hid (below_two HB0.out hb)
   clear hb
   go_wp2
   go_ret
   exact ⟨by rw [HF.out];rfl,HB1.out⟩
  | true=>as_aux_lemma =>
   have HF:=hid (mayB_c h1 h2)
   rw [h2] at K2
   clear h1 h2
   go_enter Tryz.func99,Tryz.ntmps99
   go_upto_region 1 with fail
   generalize w.alloc (.cells V.toArray 102)=W0 at *
   go_wp2_with fail
   refine (K1.out _).mono ?_
   rintro e v ⟨rfl,hv⟩
   subst v
   go_wp2_with (first | ((with_reducible refine wl_load 102 (.tmp 1) ?_ w.heap.size 0 ?_ ?_ V _ S0.out Tryz.underlying102 ?_ Z0 ?_);iterate 4 exact rfl))
   refine (K2.out _ HB0.out).mono ?_
   rintro e w1 ⟨rfl,hb⟩
   have HB1:=hid (below_two HB0.out hb)
   have S1:=hid (HRw.out _ hb)
   clear hb S0 HRw cc0
   go_wp2_with (first | ((with_reducible refine wl_load 102 (.tmp 1) ?_ w.heap.size 0 ?_ ?_ V _ S1.out Tryz.underlying102 ?_ Z0 ?_);iterate 4 exact rfl))
   refine (K3.out _ HB1.out).mono ?_
   rintro e w2 ⟨rfl,hb⟩
   have HB2:=hid (below_two HB1.out hb)
   clear hb
   go_wp2
   go_ret
   exact ⟨by rw [HF.out];rfl,HB2.out⟩
theorem slot_pens (k:Int) (f:Fl Msg) (hf:f ∈ fieldsM k) (h:f.slot = .pens):k=2:=by
 rcases fields_cases k with ⟨_,e⟩ | ⟨hk,e⟩ | ⟨_,e⟩ | ⟨_,e⟩ | ⟨_,e⟩ | ⟨_,e⟩ | ⟨_,e⟩ | ⟨_,e⟩ | ⟨_,e⟩ <;> rw [e] at hf
 ·simp only [subFs,List.mem_cons,List.not_mem_nil,or_false] at hf
  rcases hf with rfl | rfl | rfl | rfl | rfl | rfl | rfl <;> cases h
 ·exact hk
 ·simp only [comFs,List.mem_cons,List.not_mem_nil,or_false] at hf
  rcases hf with rfl | rfl | rfl <;> cases h
 ·simp only [bloFs,List.mem_cons,List.not_mem_nil,or_false] at hf
  rcases hf with rfl | rfl | rfl | rfl <;> cases h
 ·simp only [lstFs,List.mem_cons,List.not_mem_nil,or_false] at hf
  rcases hf with rfl | rfl <;> cases h
 ·simp only [proFs,List.mem_cons,List.not_mem_nil,or_false] at hf
  subst hf;cases h
 ·simp only [verFs,List.mem_cons,List.not_mem_nil,or_false] at hf
  rcases hf with rfl | rfl | rfl | rfl | rfl <;> cases h
 ·simp only [alaFs,List.mem_cons,List.not_mem_nil,or_false] at hf
  rcases hf with rfl | rfl <;> cases h
 ·cases hf
theorem lay_all (k:Int) (hL:k=2→LayOne .pens):∀ f ∈ fieldsM k,LayOne f.slot:=by
 intro f hf
 cases hs:f.slot using Slot.cut with
 | num=>exact mkLayNum
 | txt=>exact mkLayTxt
 | dig=>exact mkLayDig
 | nums=>exact mkLayNums
 | pens=>exact hL (slot_pens k f hf hs)
theorem put_bad {w:World} {m:Msg} {vP vN:Value} (hw:m.Wf) (hr:m.Rng) (hp:PensAt w vP m.rep.pend) (hn:IntsAt w vN m.nums) (hl:Lens m) (hR:m.kind=2→RepOk m.rep) (hm:mayB m=false) :
  Calls Tryz.prog 79 #[.agg (msgC m vP vN).toArray] w fun e w'=>e = .returned (.tuple #[st [],nu 2])∧Below w.heap.size w w':=by
 have HB0:=hid (below_a1 w (.cells (msgC m vP vN).toArray 102))
 have R0:=hid (top_obj w (.cells (msgC m vP vN).toArray 102))
 have K1:=hid (fun (W:World) (h:Below w.heap.size w W)=>maybe_any hw hr (hp.kept h) (hn.kept h) hl hR)
 rw [hm] at K1
 have Z0:(Tryz.prog.info? 102).map (·.size)=some (msgC m vP vN).length:=by rw [msgC_len hw];exact sizeMsg
 clear hp hn hR hl hr hm hw
 obtain ⟨V,hV⟩:∃ V,V=msgC m vP vN:=⟨_,rfl⟩
 rw [← hV] at HB0 R0 K1 Z0 ⊢
 clear hV
 have S0:=hid (row_seg (off:=0) (A:=[]) (cs:=V) (C:=[]) R0.out (by simp) rfl)
 clear R0
 go_enter Tryz.func79,Tryz.ntmps79
 go_upto_region 1 with fail
 generalize w.alloc (.cells V.toArray 102)=W0 at *
 go_wp2_with (first | ((with_reducible refine wl_load 102 (.tmp 1) ?_ w.heap.size 0 ?_ ?_ V _ S0.out Tryz.underlying102 ?_ Z0 ?_);iterate 4 exact rfl))
 refine (K1.out _ HB0.out).mono ?_
 rintro e w1 ⟨rfl,hb⟩
 have HB1:=hid (below_two HB0.out hb)
 clear hb
 go_wp2
 go_ret2
 exact ⟨rfl,HB1.out⟩
theorem put_ok {w:World} {m:Msg} {vP vN:Value} (hw:m.Wf) (hr:m.Rng) (hp:PensAt w vP m.rep.pend) (hn:IntsAt w vN m.nums) (hl:Lens m) (hR:m.kind=2→RepOk m.rep) (hL:m.kind=2→LayOne .pens) (hm:mayB m=true) (ht:Tb w) :
  Calls Tryz.prog 79 #[.agg (msgC m vP vN).toArray] w fun e w'=>e = .returned (.tuple #[st (putM m),nu 0])∧Below w.heap.size w w':=by
 have HB0:=hid (below_a1 w (.cells (msgC m vP vN).toArray 102))
 have R0:=hid (top_obj w (.cells (msgC m vP vN).toArray 102))
 have HM0:=hid (box_msg hw hr hp hn hl)
 have K1:=hid (fun (W:World) (h:Below w.heap.size w W)=>maybe_any hw hr (hp.kept h) (hn.kept h) hl hR)
 rw [hm] at K1
 have Z0:(Tryz.prog.info? 102).map (·.size)=some (msgC m vP vN).length:=by rw [msgC_len hw];exact sizeMsg
 obtain ⟨hk,hf⟩:=may_fits hw hm
 have hnl:=numB_len m.kind hr.kind
 have hpl:=put_len (fieldsM m.kind) m (fun f h=>(hf f h).2)
 have hfl:=fields_len m.kind
 have KN:=hid (fun (W:World) (h:Tb W)=>Lay.number_any m.kind hr.kind.1 hr.kind.2 W h)
 have KF:=hid (fun (g:Nat) (W:World) (h:W.cell? ⟨g,0,none⟩=some (nu m.kind))=>fieldsof_form g m.kind _ rfl W h)
 have KL:=hid (fun (g:Nat) (W:World) (v:Value) (h1:FieldsAt W v g (spots 0 (fieldsM m.kind))) (h2:MsgAt [] g m W) (h3:Tb W)=>layall_any (msg_hold [] g m.kind) (lay_all m.kind hL) h1 h2 (fun f h=>(hf f h).2) (fields_len m.kind) h3)
 have HT:=hid (fun (W:World) (h:Below w.heap.size w W)=>ht.stays h)
 have HStay:=hid (fun (g:Nat) (W W':World) (h:MsgAt [] g m W) (hb:Below W.heap.size W W')=>(msg_hold [] g m.kind).stay m W W' h hb)
 have HPut:Hid (putM m=numB m.kind++putAll layVal (fieldsM m.kind) m):=by show _=_;rfl
 have hnb:Lib.itoa m.kind++[59]=numB m.kind:=rfl
 rw [hnb] at KN
 clear hp hn hR hl hr hm hw hk hf hL ht hnb
 obtain ⟨V,hV⟩:∃ V,V=msgC m vP vN:=⟨_,rfl⟩
 rw [← hV] at HB0 R0 K1 Z0 HM0 ⊢
 clear hV
 have S0:=hid (row_seg (off:=0) (A:=[]) (cs:=V) (C:=[]) R0.out (by simp) rfl)
 clear R0
 generalize fieldsM m.kind=fs at *
 generalize putAll layVal fs m=pb at *
 have happ:=str_app (numB m.kind) pb
 generalize numB m.kind=nb at *
 have hs1:(⟨nb.toArray⟩:ByteArray).size=nb.length:=rfl
 have hs2:(⟨pb.toArray⟩:ByteArray).size=pb.length:=rfl
 go_enter Tryz.func79,Tryz.ntmps79
 go_upto_region 1 with fail
 generalize w.alloc (.cells V.toArray 102)=W0 at *
 obtain ⟨g,hg⟩:∃ g,g=w.heap.size:=⟨_,rfl⟩
 rw [← hg] at HM0 S0 ⊢
 clear hg
 go_wp2_with (first | ((with_reducible refine wl_load 102 (.tmp 1) ?_ g 0 ?_ ?_ V _ S0.out Tryz.underlying102 ?_ Z0 ?_);iterate 4 exact rfl))
 refine (K1.out _ HB0.out).mono ?_
 rintro e w1 ⟨rfl,hb⟩
 have HB1:=hid (below_two HB0.out hb)
 have HM1:=hid (HStay.out g _ _ HM0.out hb)
 have ck:=HM1.out.cell_kind
 clear hb S0 HB0 HM0 K1
 go_wp2_with fail
 refine (KN.out _ (HT.out _ HB1.out)).mono ?_
 rintro e w2 ⟨rfl,hb⟩
 have HB2:=hid (below_two HB1.out hb)
 have HM2:=hid (HStay.out g _ _ HM1.out hb)
 clear hb HB1 HM1 ck KN
 go_wp2_with fail
 refine (KF.out g _ HM2.out.cell_kind).mono ?_
 rintro e w3 ⟨av,rfl,hv,hb⟩
 have HV:=hid hv
 have HB3:=hid (below_two HB2.out hb)
 have HM3:=hid (HStay.out g _ _ HM2.out hb)
 clear hb hv HB2 HM2 KF
 go_wp2_with fail
 refine (KL.out g _ _ HV.out HM3.out (HT.out _ HB3.out)).mono ?_
 rintro e w4 ⟨rfl,hb⟩
 have HB4:=hid (below_two HB3.out hb)
 clear hb HV HB3 HM3 KL HStay HT
 go_wp2
 go_ret2
 exact ⟨by rw [HPut.out];rfl,HB4.out⟩
end Go.Proofs.YthkkjjlpahdagaaGreatDoor.Ms
