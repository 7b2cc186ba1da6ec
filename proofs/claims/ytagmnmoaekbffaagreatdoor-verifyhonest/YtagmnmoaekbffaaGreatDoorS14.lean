/- S14 -/
import Derived.Test.YtagmnmoaekbffaaGreatDoorS12
import Derived.Test.YtagmnmoaekbffaaGreatDoorTjhm
import Derived.Test.YtagmnmoaekbffaaGreatDoorS13
import Derived.Test.YtagmnmoaekbffaaGreatDoorTjps
set_option maxHeartbeats 4000000
namespace Go.Proofs.YtagmnmoaekbffaaGreatDoor.Ms
open Go.Proofs.Tryz
open Go Go.RowKit
set_option maxRecDepth 100000
theorem u0m (k:Slot):d0V k.zero:=by
 cases k using Slot.cut
 ·exact a0r
 ·exact Nat.zero_le _
 ·exact zeroD_len
 ·exact ⟨Nat.zero_le _,fun n h=>by cases h⟩
 ·exact ⟨Nat.zero_le _,fun n h=>by cases h⟩
theorem s0l {α:Type} (f:Fl α) (fs:List (Fl α)) (x:α):a0U (f :: fs) x=a0U fs (f.set x f.slot.zero):=rfl
theorem q0d (k:Int):(msgC (b0m k 0) (.slice none 0 0) (.slice none 0 0)).toArray=Tryz.zeroCells80.setIfInBounds 0 (nu k):=by kernel_rfl
theorem g0n (k:Int):(a0T k).length <= 100:=by
 rcases b0g k with ⟨_,e⟩ | ⟨_,e⟩ | ⟨_,e⟩ | ⟨_,e⟩ | ⟨_,e⟩ | ⟨_,e⟩ | ⟨_,e⟩ | ⟨_,e⟩ | ⟨_,e⟩ <;> rw [e] <;> decide
theorem s0m (k:Int) (f:Fl Msg) (hf:f ∈ a0T k) (m:Msg) (v:Val):(f.set m v).kind=m.kind:=by
 rcases b0g k with ⟨_,e⟩ | ⟨_,e⟩ | ⟨_,e⟩ | ⟨_,e⟩ | ⟨_,e⟩ | ⟨_,e⟩ | ⟨_,e⟩ | ⟨_,e⟩ | ⟨_,e⟩ <;> rw [e] at hf
 ·simp only [k0w,List.mem_cons,List.not_mem_nil,or_false] at hf
  rcases hf with rfl | rfl | rfl | rfl | rfl | rfl | rfl <;> rfl
 ·simp only [l0T,List.mem_cons,List.not_mem_nil,or_false] at hf
  rcases hf with rfl | rfl | rfl | rfl | rfl | rfl | rfl | rfl | rfl | rfl <;> rfl
 ·simp only [k0x,List.mem_cons,List.not_mem_nil,or_false] at hf
  rcases hf with rfl | rfl | rfl <;> rfl
 ·simp only [l0U,List.mem_cons,List.not_mem_nil,or_false] at hf
  rcases hf with rfl | rfl | rfl | rfl <;> rfl
 ·simp only [l0V,List.mem_cons,List.not_mem_nil,or_false] at hf
  rcases hf with rfl | rfl <;> rfl
 ·simp only [k0y,List.mem_cons,List.not_mem_nil,or_false] at hf
  subst hf;rfl
 ·simp only [l0W,List.mem_cons,List.not_mem_nil,or_false] at hf
  rcases hf with rfl | rfl | rfl | rfl | rfl <;> rfl
 ·simp only [l0X,List.mem_cons,List.not_mem_nil,or_false] at hf
  rcases hf with rfl | rfl <;> rfl
 ·cases hf
theorem q0e {w:World} {m:Msg} {vP vN:Value} (hw:m.Wf) (hr:m.Rng) (hp:a0g w vP m.rep.pend) (hn:a0w w vN m.nums) (hl:m.rep.pend.length <= 9223372036854775807/\m.nums.length <= 9223372036854775807):MsgAt [] w.heap.size m (w.alloc (.cells (msgC m vP vN).toArray 80)):=by
 refine ⟨⟨vP,vN,a0f _ _,hp.kept (a0c _ _),hn.kept (a0c _ _),fun x hx hne a l c e=>?_,fun x hx hne a l c e=>?_⟩,(fun x hx=>by cases hx),hw,hr,hl⟩
 ·obtain ⟨a',cap,rfl,hc⟩:=hp
  obtain ⟨b,off,rfl,hj⟩:=hc (fun e=>hne (by rw [e];rfl))
  cases e
  have h0:0 < m.rep.pend.length:=Nat.pos_of_ne_zero hne;have wp:=e0F hw.rep.pend 0 h0;have:=World.block_lt_of_cell? w _ (hj 0 h0 0 _ (by unfold penC;rfl));simp only [List.mem_cons,List.not_mem_nil,or_false] at hx;show b ≠ _;have:b < w.heap.size:=this;omega
 ·obtain ⟨a',cap,rfl,hc⟩:=hn
  obtain ⟨b,off,rfl,hj⟩:=hc (fun e=>hne (by rw [e];rfl))
  cases e
  have h0:0 < m.nums.length:=Nat.pos_of_ne_zero hne;have:=World.block_lt_of_cell? w _ (hj 0 h0);simp only [List.mem_cons,List.not_mem_nil,or_false] at hx;show b ≠ _;have:b < w.heap.size:=this;omega
theorem f0P (g:Nat) (kind:Int) (fs:List (Fl Msg)) (hfs:fs=a0T kind) (w:World) (hk:w.cell? ⟨g,0,none⟩=some (nu kind)):Calls prog 95 #[ptr g 0] w fun e w'=>∃ av,e = .returned (.slice av fs.length fs.length)/\b0n w' (.slice av fs.length fs.length) g (h0C 0 fs)/\Below w.heap.size w w':=by
 subst hfs;refine (k0X g kind w hk).mono ?_;rintro e w' ⟨v,rfl,hv,hb⟩;have hv2:=hv;obtain ⟨av,bs,rfl,-⟩:=hv;rw [f0M] at hv2 ⊢;exact ⟨av,rfl,hv2,hb⟩
theorem MsgAt.cell_kind {X:List Nat} {g:Nat} {m:Msg} {w:World} (h:MsgAt X g m w):w.cell? ⟨g,0,none⟩=some (nu m.kind):=by
 obtain ⟨vP,vN,hr,-⟩:=h.row;exact b0R hr h.wf
open Go Go.RowKit
set_option maxRecDepth 100000
theorem s0n {w:World} {m:Msg} {vP vN:Value} (hw:m.Wf) (hr:m.Rng) (hp:a0g w vP m.rep.pend) (hn:a0w w vN m.nums) (hl:m.rep.pend.length <= 9223372036854775807/\m.nums.length <= 9223372036854775807) :
  Calls prog 110 #[.agg (msgC m vP vN).toArray] w fun e w'=>e = .returned (.bool (g0I m))/\Below w.heap.size w w':=by
 have HB0:=hid (a0c w (.cells (msgC m vP vN).toArray 80));have HM0:=hid (q0e hw hr hp hn hl);obtain ⟨RA,hRA⟩:∃ RA,RA=(msgC m vP vN).toArray:=⟨_,rfl⟩;rw [← hRA] at HB0 HM0 ⊢;clear hRA hw hr hp hn hl;obtain ⟨fs,hfs⟩:∃ fs,fs=a0T m.kind:=⟨_,rfl⟩;have hn100:fs.length <= 100:=by rw [hfs];exact g0n _
 have HFo:=hid (fun (g:Nat) (W:World) (h:W.cell? ⟨g,0,none⟩=some (nu m.kind))=>f0P g m.kind fs hfs W h);have HHa:Hid (∀ g,Hold fs g 0 (MsgAt [] g)):=by rw [hfs];exact fun g=>j0P [] g m.kind
 have HSK:Hid (∀ f ∈ fs,∀ (y:Msg) (v:Val),(f.set y v).kind=y.kind):=by rw [hfs];exact fun f hf y v=>s0m m.kind f hf y v
 have HRes:Hid (g0I m=b0Z (a0U fs m) (b0m m.kind 0)):=by rw [hfs];rfl
 clear hfs;go_enter func110,ntmps110;go_upto_region 1 with fail
 generalize w.alloc (.cells RA 80)=W0 at *;obtain ⟨g,hg⟩:∃ g,g=w.heap.size:=⟨_,rfl⟩;rw [← hg] at HM0 ⊢;have HG:=hid hg;clear hg;have HH:=hid (HHa.out g);have HFs:=hid (HFo.out g W0 HM0.out.cell_kind);clear HFo HHa
 go_wp2_with fail
 refine HFs.out.mono ?_;rintro e W1 ⟨av,rfl,hv,hb⟩;have HV:=hid hv;have HB1:=hid (a0b HB0.out hb);have HM1:=hid (HH.out.stay m _ _ HM0.out hb);have HOw:=hid (HH.out.own m _ HM1.out);have HE0:Hid (a0U fs m=a0U (fs.drop 0) m):=by show _=_;rfl
 have HKr:=hid (Kept.refl g W1);clear hb hv HFs HB0 HM0;go_wp2;go_loopw [7] (fun i w'=>∃ (k:Nat) (y:Msg),k <= fs.length/\i = .int .i64 k/\Hid (a0U fs m=a0U (fs.drop k) y)/\Hid (MsgAt [] g y w')/\Hid (y.kind=m.kind)/\Hid (Kept g W1 w')) (fun i _=>fs.length - (intOf i).toNat)
 case atStart=>exact ⟨0,m,Nat.zero_le _,rfl,HE0,HM1,rfl,HKr⟩
 case round =>
  obtain ⟨k,y,hk,rfl,HE,HY,HYk,HK⟩:=hrel;clear HE0 HM1 HKr;by_cases hlt:k < fs.length
  ·have d1:decide ((k:Int) < (fs.length:Int))=true:=decide_eq_true (by omega)
   have d1':decide (k < fs.length)=true:=decide_eq_true hlt;obtain ⟨row,b,ha,hF,hc⟩:=(HV.out.kept HOw.out HK.out).cells k (by rw [f0M];exact hlt);subst ha;rw [n0x 0 fs k hlt] at hF hc;have hmem:fs[k] ∈ fs:=List.getElem_mem hlt;have Z0:(prog.info? 178).map (·.size)=some (a0o fs[k].slot b).length:=sizeFld;have HOn:=hid (e0I fs[k].slot b);have hL:([.nilFunc,.nilFunc,.nilFunc]:List Value).length=(a0o fs[k].slot b).length:=rfl;have S0:=hid hc;have HBt:=hid (a0c wr (.cells (a0o fs[k].slot b).toArray 178));have T0:=hid (a0f wr (.cells (a0o fs[k].slot b).toArray 178));obtain ⟨A,old,C,t,hrow,hA,hol,hst⟩:=HH.out.store y _ (HH.out.stay y _ _ HY.out HBt.out) _ hmem;have HC:=hid (v0O fs[k].slot (hF.stays HBt.out) A old C t hrow hA hol);have HKt:=hid (HK.out.trans (Kept.of HBt.out));rw [drop_at fs k hlt,s0l] at HE;have HSt:=hid (fun w'=>hst fs[k].slot.zero w' (p0p _) (u0m _));have HYn:Hid ((fs[k].set y fs[k].slot.zero).kind=m.kind):=(HSK.out _ hmem _ _).trans HYk.out;clear hc hmem hF hrow hA hol hst HY HK HBt HH HOw HV HYk HSK HRes;generalize fs[k].set y fs[k].slot.zero=y2 at *;generalize fs[k].slot=sl at *
   cases sl using Slot.cut with
   | num=>as_aux_lemma =>
    have ce:(wr.alloc (.cells (a0o .num b).toArray 178)).cell? ⟨wr.heap.size,2,none⟩=some (.func (.func (c3Fn .num)) #[] #[ptr b.x 0]):=by rw [cell_of_row _ _ _ _ _ _ T0.out];rfl
    simp only [c3Fn] at ce HC;generalize a0o .num b=V at *;clear T0;go_upto_region 4 with (first | ((with_reducible refine a0d 178 (.tmp 9) ?_ row (k * 3) ?_ ?_ V _ S0.out underlying178 ?_ Z0 ?_);iterate 4 exact rfl) | ((with_reducible refine a0v 178 (.tmp 4) (.tmp 10) ?_ ?_ ?_ ?_ V [.nilFunc,.nilFunc,.nilFunc] ?_ 178 hL HOn.out Z0 ?_);exact rfl;iterate 4 exact rfl))
    generalize wr.alloc (.cells V.toArray 178)=W2 at *
    go_wp2_with fail
    refine HC.out.mono ?_;rintro e w3 ⟨rfl,hst3⟩;have HK3:=hid (HKt.out.trans hst3.kept);have HY3:=hid (HSt.out _ hst3);clear hst3 HC HKt S0 ce HSt;go_wp2;exact ⟨⟨k + 1,y2,by omega,by go_num,HE,HY3,HYn,HK3⟩,by simp [intOf];omega⟩
   | txt=>as_aux_lemma =>
    have ce:(wr.alloc (.cells (a0o .txt b).toArray 178)).cell? ⟨wr.heap.size,2,none⟩=some (.func (.func (c3Fn .txt)) #[] #[ptr b.x 0]):=by rw [cell_of_row _ _ _ _ _ _ T0.out];rfl
    simp only [c3Fn] at ce HC;generalize a0o .txt b=V at *;clear T0;go_upto_region 4 with (first | ((with_reducible refine a0d 178 (.tmp 9) ?_ row (k * 3) ?_ ?_ V _ S0.out underlying178 ?_ Z0 ?_);iterate 4 exact rfl) | ((with_reducible refine a0v 178 (.tmp 4) (.tmp 10) ?_ ?_ ?_ ?_ V [.nilFunc,.nilFunc,.nilFunc] ?_ 178 hL HOn.out Z0 ?_);exact rfl;iterate 4 exact rfl))
    generalize wr.alloc (.cells V.toArray 178)=W2 at *
    go_wp2_with fail
    refine HC.out.mono ?_;rintro e w3 ⟨rfl,hst3⟩;have HK3:=hid (HKt.out.trans hst3.kept);have HY3:=hid (HSt.out _ hst3);clear hst3 HC HKt S0 ce HSt;go_wp2;exact ⟨⟨k + 1,y2,by omega,by go_num,HE,HY3,HYn,HK3⟩,by simp [intOf];omega⟩
   | dig=>as_aux_lemma =>
    have ce:(wr.alloc (.cells (a0o .dig b).toArray 178)).cell? ⟨wr.heap.size,2,none⟩=some (.func (.func (c3Fn .dig)) #[] #[ptr b.x 0]):=by rw [cell_of_row _ _ _ _ _ _ T0.out];rfl
    simp only [c3Fn] at ce HC;generalize a0o .dig b=V at *;clear T0;go_upto_region 4 with (first | ((with_reducible refine a0d 178 (.tmp 9) ?_ row (k * 3) ?_ ?_ V _ S0.out underlying178 ?_ Z0 ?_);iterate 4 exact rfl) | ((with_reducible refine a0v 178 (.tmp 4) (.tmp 10) ?_ ?_ ?_ ?_ V [.nilFunc,.nilFunc,.nilFunc] ?_ 178 hL HOn.out Z0 ?_);exact rfl;iterate 4 exact rfl))
    generalize wr.alloc (.cells V.toArray 178)=W2 at *
    go_wp2_with fail
    refine HC.out.mono ?_;rintro e w3 ⟨rfl,hst3⟩;have HK3:=hid (HKt.out.trans hst3.kept);have HY3:=hid (HSt.out _ hst3);clear hst3 HC HKt S0 ce HSt;go_wp2;exact ⟨⟨k + 1,y2,by omega,by go_num,HE,HY3,HYn,HK3⟩,by simp [intOf];omega⟩
   | nums=>as_aux_lemma =>
    have ce:(wr.alloc (.cells (a0o .nums b).toArray 178)).cell? ⟨wr.heap.size,2,none⟩=some (.func (.func (c3Fn .nums)) #[] #[ptr b.x 0]):=by rw [cell_of_row _ _ _ _ _ _ T0.out];rfl
    simp only [c3Fn] at ce HC;generalize a0o .nums b=V at *;clear T0;go_upto_region 4 with (first | ((with_reducible refine a0d 178 (.tmp 9) ?_ row (k * 3) ?_ ?_ V _ S0.out underlying178 ?_ Z0 ?_);iterate 4 exact rfl) | ((with_reducible refine a0v 178 (.tmp 4) (.tmp 10) ?_ ?_ ?_ ?_ V [.nilFunc,.nilFunc,.nilFunc] ?_ 178 hL HOn.out Z0 ?_);exact rfl;iterate 4 exact rfl))
    generalize wr.alloc (.cells V.toArray 178)=W2 at *
    go_wp2_with fail
    refine HC.out.mono ?_;rintro e w3 ⟨rfl,hst3⟩;have HK3:=hid (HKt.out.trans hst3.kept);have HY3:=hid (HSt.out _ hst3);clear hst3 HC HKt S0 ce HSt;go_wp2;exact ⟨⟨k + 1,y2,by omega,by go_num,HE,HY3,HYn,HK3⟩,by simp [intOf];omega⟩
   | pens=>as_aux_lemma =>
    have ce:(wr.alloc (.cells (a0o .pens b).toArray 178)).cell? ⟨wr.heap.size,2,none⟩=some (.func (.func (c3Fn .pens)) #[] #[ptr b.x 0]):=by rw [cell_of_row _ _ _ _ _ _ T0.out];rfl
    simp only [c3Fn] at ce HC;generalize a0o .pens b=V at *;clear T0;go_upto_region 4 with (first | ((with_reducible refine a0d 178 (.tmp 9) ?_ row (k * 3) ?_ ?_ V _ S0.out underlying178 ?_ Z0 ?_);iterate 4 exact rfl) | ((with_reducible refine a0v 178 (.tmp 4) (.tmp 10) ?_ ?_ ?_ ?_ V [.nilFunc,.nilFunc,.nilFunc] ?_ 178 hL HOn.out Z0 ?_);exact rfl;iterate 4 exact rfl))
    generalize wr.alloc (.cells V.toArray 178)=W2 at *
    go_wp2_with fail
    refine HC.out.mono ?_;rintro e w3 ⟨rfl,hst3⟩;have HK3:=hid (HKt.out.trans hst3.kept);have HY3:=hid (HSt.out _ hst3);clear hst3 HC HKt S0 ce HSt;go_wp2;exact ⟨⟨k + 1,y2,by omega,by go_num,HE,HY3,HYn,HK3⟩,by simp [intOf];omega⟩
  ·as_aux_lemma =>
   have hkl:k=fs.length:=by omega
   subst hkl;have dk:decide ((fs.length:Int) < (fs.length:Int))=false:=decide_eq_false (by omega);have HF:Hid (g0I m=b0Z y (b0m m.kind 0)):=by show _=_;rw [HRes.out,HE.out,List.drop_length];rfl
   obtain ⟨vP',vN',hrow,hpp,hnn,-,-⟩:=HY.out.row;have hwf:=HY.out.wf;have ck:=b0R hrow hwf;rw [HYk.out] at ck;have S0:=hid (a0s (off:=0) (A:=[]) (cs:=msgC y vP' vN') (C:=[]) hrow (by simp) rfl);have Z0:(prog.info? 80).map (·.size)=some (msgC y vP' vN').length:=by rw [d0q hwf];exact sizeMsg
   have HS:=hid (fun h1 h2=>q0c (w:=wr) (b:=b0m m.kind 0) hwf (g0O m.kind 0) hpp (a0g.nil wr) hnn (a0w.nil wr) h1 h2);rw [q0d] at HS;have HBf:Hid (Below w.heap.size w wr):=HK.out.below HB1.out (by rw [HG.out];exact Nat.le_refl _);generalize b0Z y (b0m m.kind 0)=bb at *;generalize msgC y vP' vN' = V at *;have HLn:=hid HY.out.len;generalize m.kind=kk at *;clear HH HOw HV HE HY HYk HSK HRes hrow hpp hnn hwf HK
   go_wp2_with (first | ((with_reducible refine a0d 80 (.tmp 1) ?_ g 0 ?_ ?_ V _ S0.out underlying80 ?_ Z0 ?_);iterate 4 exact rfl))
   refine (HS.out HLn.out.1 HLn.out.2).mono ?_;rintro e w2 ⟨rfl,hb2⟩;have HB2:=hid (a0b HBf.out hb2);clear hb2;go_wp2;go_ret;exact ⟨by rw [HF.out];rfl,HB2.out⟩
open Go Go.RowKit
set_option maxRecDepth 100000
def Lens (m:Msg):Prop:=m.rep.pend.length <= 9223372036854775807/\m.nums.length <= 9223372036854775807
theorem v0T {m:Msg} (h:inB m.client 0 7=false):mayB m=false:=by unfold mayB;rw [h];rfl
theorem v0U {m:Msg} (h:inB m.client 0 7=true) (h2:a0L m=false):mayB m=false:=by unfold mayB;rw [h,h2];rfl
theorem v0V {m:Msg} (h:inB m.client 0 7=true) (h2:a0L m=true):mayB m=g0I m:=by unfold mayB;rw [h,h2];rfl
theorem k0Y {w:World} {m:Msg} {vP vN:Value} (hw:m.Wf) (hr:m.Rng) (hp:a0g w vP m.rep.pend) (hn:a0w w vN m.nums) (hl:Lens m) (hR:m.kind=2->p0P m.rep) :
  Calls prog 93 #[.agg (msgC m vP vN).toArray] w fun e w'=>e = .returned (.bool (mayB m))/\Below w.heap.size w w':=by
 have HB0:=hid (a0c w (.cells (msgC m vP vN).toArray 80));have R0:=hid (a0f w (.cells (msgC m vP vN).toArray 80));have K1:=hid (fun W=>b0U m.client W);have K2:=hid (fun (W:World) (h:Below w.heap.size w W)=>k0U hw (hp.kept h) (hn.kept h) hR hl.2);have K3:=hid (fun (W:World) (h:Below w.heap.size w W)=>s0n hw hr (hp.kept h) (hn.kept h) hl);have Z0:(prog.info? 80).map (·.size)=some (msgC m vP vN).length:=by rw [d0q hw];exact sizeMsg
 have cc0:=c0r R0.out hw;clear hp hn hR hl hr;obtain ⟨V,hV⟩:∃ V,V=msgC m vP vN:=⟨_,rfl⟩;rw [← hV] at HB0 R0 K2 K3 Z0 cc0 ⊢;clear hV hw;have S0:=hid (a0s (off:=0) (A:=[]) (cs:=V) (C:=[]) R0.out (by simp) rfl);have HRw:=hid (fun (W:World) (h:Below (w.alloc (.cells V.toArray 80)).heap.size (w.alloc (.cells V.toArray 80)) W)=>a0s (off:=0) (A:=[]) (cs:=V) (C:=[]) (a0a R0.out h) (by simp) rfl);clear R0
 cases h1:inB m.client 0 7 with
 | false=>as_aux_lemma =>
  have HF:=hid (v0T h1);rw [h1] at K1;go_enter func93,ntmps93;go_upto_region 1 with fail
  generalize w.alloc (.cells V.toArray 80)=W0 at *
  go_wp2_with fail
  refine (K1.out _).mono ?_;rintro e v ⟨rfl,hv⟩;subst v;go_wp2;go_ret;exact ⟨by rw [HF.out];rfl,HB0.out⟩
 | true =>
  rw [h1] at K1
  cases h2:a0L m with
  | false=>as_aux_lemma =>
   have HF:=hid (v0U h1 h2);rw [h2] at K2;clear h1 h2;go_enter func93,ntmps93;go_upto_region 1 with fail
   generalize w.alloc (.cells V.toArray 80)=W0 at *
   go_wp2_with fail
   refine (K1.out _).mono ?_;rintro e v ⟨rfl,hv⟩;subst v
   go_wp2_with (first | ((with_reducible refine a0d 80 (.tmp 1) ?_ w.heap.size 0 ?_ ?_ V _ S0.out underlying80 ?_ Z0 ?_);iterate 4 exact rfl))
   refine (K2.out _ HB0.out).mono ?_;rintro e w1 ⟨rfl,hb⟩;have HB1:=hid (a0b HB0.out hb);clear hb;go_wp2;go_ret;exact ⟨by rw [HF.out];rfl,HB1.out⟩
  | true=>as_aux_lemma =>
   have HF:=hid (v0V h1 h2);rw [h2] at K2;clear h1 h2;go_enter func93,ntmps93;go_upto_region 1 with fail
   generalize w.alloc (.cells V.toArray 80)=W0 at *
   go_wp2_with fail
   refine (K1.out _).mono ?_;rintro e v ⟨rfl,hv⟩;subst v
   go_wp2_with (first | ((with_reducible refine a0d 80 (.tmp 1) ?_ w.heap.size 0 ?_ ?_ V _ S0.out underlying80 ?_ Z0 ?_);iterate 4 exact rfl))
   refine (K2.out _ HB0.out).mono ?_;rintro e w1 ⟨rfl,hb⟩;have HB1:=hid (a0b HB0.out hb);have S1:=hid (HRw.out _ hb);clear hb S0 HRw cc0
   go_wp2_with (first | ((with_reducible refine a0d 80 (.tmp 1) ?_ w.heap.size 0 ?_ ?_ V _ S1.out underlying80 ?_ Z0 ?_);iterate 4 exact rfl))
   refine (K3.out _ HB1.out).mono ?_;rintro e w2 ⟨rfl,hb⟩;have HB2:=hid (a0b HB1.out hb);clear hb;go_wp2;go_ret;exact ⟨by rw [HF.out];rfl,HB2.out⟩
theorem q0f (k:Int) (f:Fl Msg) (hf:f ∈ a0T k) (h:f.slot = .pens):k=2:=by
 rcases b0g k with ⟨_,e⟩ | ⟨hk,e⟩ | ⟨_,e⟩ | ⟨_,e⟩ | ⟨_,e⟩ | ⟨_,e⟩ | ⟨_,e⟩ | ⟨_,e⟩ | ⟨_,e⟩ <;> rw [e] at hf
 ·simp only [k0w,List.mem_cons,List.not_mem_nil,or_false] at hf
  rcases hf with rfl | rfl | rfl | rfl | rfl | rfl | rfl <;> cases h
 ·exact hk
 ·simp only [k0x,List.mem_cons,List.not_mem_nil,or_false] at hf
  rcases hf with rfl | rfl | rfl <;> cases h
 ·simp only [l0U,List.mem_cons,List.not_mem_nil,or_false] at hf
  rcases hf with rfl | rfl | rfl | rfl <;> cases h
 ·simp only [l0V,List.mem_cons,List.not_mem_nil,or_false] at hf
  rcases hf with rfl | rfl <;> cases h
 ·simp only [k0y,List.mem_cons,List.not_mem_nil,or_false] at hf
  subst hf;cases h
 ·simp only [l0W,List.mem_cons,List.not_mem_nil,or_false] at hf
  rcases hf with rfl | rfl | rfl | rfl | rfl <;> cases h
 ·simp only [l0X,List.mem_cons,List.not_mem_nil,or_false] at hf
  rcases hf with rfl | rfl <;> cases h
 ·cases hf
theorem lay_all (k:Int) (hL:k=2->d0o .pens):∀ f ∈ a0T k,d0o f.slot:=by
 intro f hf
 cases hs:f.slot using Slot.cut with
 | num=>exact f0L
 | txt=>exact s0e
 | dig=>exact j0K
 | nums=>exact p0H
 | pens=>exact hL (q0f k f hf hs)
theorem u0n {w:World} {m:Msg} {vP vN:Value} (hw:m.Wf) (hr:m.Rng) (hp:a0g w vP m.rep.pend) (hn:a0w w vN m.nums) (hl:Lens m) (hR:m.kind=2->p0P m.rep) (hm:mayB m=false) :
  Calls prog 75 #[.agg (msgC m vP vN).toArray] w fun e w'=>e = .returned (.tuple #[st [],nu 2])/\Below w.heap.size w w':=by
 have HB0:=hid (a0c w (.cells (msgC m vP vN).toArray 80));have R0:=hid (a0f w (.cells (msgC m vP vN).toArray 80));have K1:=hid (fun (W:World) (h:Below w.heap.size w W)=>k0Y hw hr (hp.kept h) (hn.kept h) hl hR);rw [hm] at K1;have Z0:(prog.info? 80).map (·.size)=some (msgC m vP vN).length:=by rw [d0q hw];exact sizeMsg
 clear hp hn hR hl hr hm hw;obtain ⟨V,hV⟩:∃ V,V=msgC m vP vN:=⟨_,rfl⟩;rw [← hV] at HB0 R0 K1 Z0 ⊢;clear hV;have S0:=hid (a0s (off:=0) (A:=[]) (cs:=V) (C:=[]) R0.out (by simp) rfl);clear R0;go_enter func75,ntmps75;go_upto_region 1 with fail
 generalize w.alloc (.cells V.toArray 80)=W0 at *
 go_wp2_with (first | ((with_reducible refine a0d 80 (.tmp 1) ?_ w.heap.size 0 ?_ ?_ V _ S0.out underlying80 ?_ Z0 ?_);iterate 4 exact rfl))
 refine (K1.out _ HB0.out).mono ?_;rintro e w1 ⟨rfl,hb⟩;have HB1:=hid (a0b HB0.out hb);clear hb;go_wp2
 go_ret2
 exact ⟨rfl,HB1.out⟩
theorem v0W {w:World} {m:Msg} {vP vN:Value} (hw:m.Wf) (hr:m.Rng) (hp:a0g w vP m.rep.pend) (hn:a0w w vN m.nums) (hl:Lens m) (hR:m.kind=2->p0P m.rep) (hL:m.kind=2->d0o .pens) (hm:mayB m=true) (ht:Tb w) :
  Calls prog 75 #[.agg (msgC m vP vN).toArray] w fun e w'=>e = .returned (.tuple #[st (putM m),nu 0])/\Below w.heap.size w w':=by
 have HB0:=hid (a0c w (.cells (msgC m vP vN).toArray 80));have R0:=hid (a0f w (.cells (msgC m vP vN).toArray 80));have HM0:=hid (q0e hw hr hp hn hl);have K1:=hid (fun (W:World) (h:Below w.heap.size w W)=>k0Y hw hr (hp.kept h) (hn.kept h) hl hR);rw [hm] at K1;have Z0:(prog.info? 80).map (·.size)=some (msgC m vP vN).length:=by rw [d0q hw];exact sizeMsg
 obtain ⟨hk,hf⟩:=r0R hw hm;have hnl:=b0e m.kind hr.kind;have hpl:=p0M (a0T m.kind) m (fun f h=>(hf f h).2);have hfl:=g0n m.kind;have KN:=hid (fun (W:World) (h:Tb W)=>Lay.c0y m.kind hr.kind.1 hr.kind.2 W h);have KF:=hid (fun (g:Nat) (W:World) (h:W.cell? ⟨g,0,none⟩=some (nu m.kind))=>f0P g m.kind _ rfl W h);have KL:=hid (fun (g:Nat) (W:World) (v:Value) (h1:b0n W v g (h0C 0 (a0T m.kind))) (h2:MsgAt [] g m W) (h3:Tb W)=>i0O (j0P [] g m.kind) (lay_all m.kind hL) h1 h2 (fun f h=>(hf f h).2) (g0n m.kind) h3);have HT:=hid (fun (W:World) (h:Below w.heap.size w W)=>ht.stays h);have HStay:=hid (fun (g:Nat) (W W':World) (h:MsgAt [] g m W) (hb:Below W.heap.size W W')=>(j0P [] g m.kind).stay m W W' h hb);have HPut:Hid (putM m=numB m.kind++c0F b0i (a0T m.kind) m):=by show _=_;rfl
 have hnb:Lib.itoa m.kind++[59]=numB m.kind:=rfl;rw [hnb] at KN;clear hp hn hR hl hr hm hw hk hf hL ht hnb;obtain ⟨V,hV⟩:∃ V,V=msgC m vP vN:=⟨_,rfl⟩;rw [← hV] at HB0 R0 K1 Z0 HM0 ⊢;clear hV;have S0:=hid (a0s (off:=0) (A:=[]) (cs:=V) (C:=[]) R0.out (by simp) rfl);clear R0;generalize a0T m.kind=fs at *;generalize c0F b0i fs m=pb at *;have happ:=d0w (numB m.kind) pb;generalize numB m.kind=nb at *;have hs1:(⟨nb.toArray⟩:ByteArray).size=nb.length:=rfl;have hs2:(⟨pb.toArray⟩:ByteArray).size=pb.length:=rfl;go_enter func75,ntmps75;go_upto_region 1 with fail
 generalize w.alloc (.cells V.toArray 80)=W0 at *;obtain ⟨g,hg⟩:∃ g,g=w.heap.size:=⟨_,rfl⟩;rw [← hg] at HM0 S0 ⊢;clear hg
 go_wp2_with (first | ((with_reducible refine a0d 80 (.tmp 1) ?_ g 0 ?_ ?_ V _ S0.out underlying80 ?_ Z0 ?_);iterate 4 exact rfl))
 refine (K1.out _ HB0.out).mono ?_;rintro e w1 ⟨rfl,hb⟩;have HB1:=hid (a0b HB0.out hb);have HM1:=hid (HStay.out g _ _ HM0.out hb);have ck:=HM1.out.cell_kind;clear hb S0 HB0 HM0 K1
 go_wp2_with fail
 refine (KN.out _ (HT.out _ HB1.out)).mono ?_;rintro e w2 ⟨rfl,hb⟩;have HB2:=hid (a0b HB1.out hb);have HM2:=hid (HStay.out g _ _ HM1.out hb);clear hb HB1 HM1 ck KN
 go_wp2_with fail
 refine (KF.out g _ HM2.out.cell_kind).mono ?_;rintro e w3 ⟨av,rfl,hv,hb⟩;have HV:=hid hv;have HB3:=hid (a0b HB2.out hb);have HM3:=hid (HStay.out g _ _ HM2.out hb);clear hb hv HB2 HM2 KF
 go_wp2_with fail
 refine (KL.out g _ _ HV.out HM3.out (HT.out _ HB3.out)).mono ?_;rintro e w4 ⟨rfl,hb⟩;have HB4:=hid (a0b HB3.out hb);clear hb HV HB3 HM3 KL HStay HT;go_wp2
 go_ret2
 exact ⟨by rw [HPut.out];rfl,HB4.out⟩
end Go.Proofs.YtagmnmoaekbffaaGreatDoor.Ms
