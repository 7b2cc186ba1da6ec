/- S23 -/
import Derived.Test.YtagmnmoaekbffaaGreatDoorS22
import Derived.Deep.MidRow
import Derived.Deep.RegionWith
import Derived.Test.YtagmnmoaekbffaaGreatDoorS21
set_option maxHeartbeats 4000000
namespace Go.Proofs.YtagmnmoaekbffaaGreatDoor
open Go.Proofs.Tryz
open Go Go.RowKit
set_option maxRecDepth 100000
theorem g0D {w:World} {g:Nat} {cs:Array Value} {t:TypeId} (h:w.heap[g]? = some (.cells cs t)) (n:Nat) (hn:n <= cs.size):w.there g 0 n:=fun j hj =>
 ⟨by rw [cell_of_row _ _ _ _ _ _ h,Array.getElem?_eq_getElem (by omega)];rfl,frozen_of_row _ _ _ _ _ h⟩
theorem a0I (b:Nat) (vs:List Value) (o:Nat) (w:World) (x:Addr) (h:x.block ≠ b):(w.setCells b o vs).cell? x=w.cell? x:=by
 rw [World.cell?_setCells_out b vs o w x (fun hb=>absurd hb h)]
theorem s0F (l:List Value) (o:Nat) (v:Value) (h:o < l.length):(l.set o v).take (o + 1)=l.take o++[v]:=by
 rw [List.take_add_one,List.getElem?_set_self h,List.take_set,List.set_eq_of_length_le (by simp;omega)];rfl
theorem s0G (l:List Value) (o k:Nat) (v:Value):(l.set o v).drop (o + 1 + k)=l.drop (o + 1 + k):=by
 rw [List.drop_set,if_pos (by omega)]
theorem f0R:∀ (vs:List Value) (g o:Nat) (w:World) (cs:Array Value) (t:TypeId),w.heap[g]? = some (.cells cs t)->o + vs.length <= cs.size->(w.setCells g o vs).heap[g]? = some (.cells (cs.toList.take o++vs++cs.toList.drop (o + vs.length)).toArray t)
 | [],g,o,w,cs,t,h,_=>by
  rw [World.setCells,List.append_nil,List.length_nil,Nat.add_zero,List.take_append_drop,Array.toArray_toList];exact h
 | v :: r,g,o,w,cs,t,h,hl=>by
  have hl':o + (r.length + 1) <= cs.size:=hl;rw [World.setCells];have ih:=f0R r g (o + 1) (w.setCell ⟨g,o,none⟩ v) (cs.setIfInBounds o v) t (heap_setCell_same _ _ _ _ _ _ h) (by rw [Array.size_setIfInBounds];omega);rw [ih,Array.toList_setIfInBounds,s0F _ _ _ (by rw [Array.length_toList];omega),s0G];simp only [List.append_assoc,List.singleton_append,List.length_cons];rw [show o + (r.length + 1)=o + 1 + r.length by omega]
theorem g0E (vs:List Value) (g:Nat) (w:World) (cs:Array Value) (t:TypeId) (h:w.heap[g]? = some (.cells cs t)) (hl:vs.length=cs.size):(w.setCells g 0 vs).heap[g]? = some (.cells vs.toArray t):=by
 rw [f0R vs g 0 w cs t h (by omega),List.drop_eq_nil_of_le (by rw [Array.length_toList];omega)];simp
theorem below_setCells {B:Nat} {w:World} (g:Nat) (hg:B <= g):∀ (vs:List Value) (o:Nat) (w':World),Below B w w'->Below B w (w'.setCells g o vs)
 | [],_,_,h=>h
 | v :: r,o,w',h=>by rw [World.setCells];exact below_setCells g hg r (o + 1) _ (c0K h ⟨g,o,none⟩ v hg)
section
variable {w:World} {p h g b n:Nat} {s:List UInt8} {L:List Ent}
theorem l0h (r:RingAt w p h g b s n L) (i:Nat) (d:Int) (t:List UInt8) (hi:i < n) (h1:1 <= d) (h6:d <= 6) (hl:t.length <= 16384) (hK:Ktab w) (hT:Lay.Tabs w) :
  Calls prog 69 #[.agg #[.int .i64 (i:Int),.int .i64 d,.string ⟨t.toArray⟩],.pointer (some ⟨h,0,none⟩)] w fun e w'=>e = .returned (.agg ((tagB s ((i:Int),d,t)).map cb).toArray)/\Below w.heap.size w w':=by
 have HZ:=zero25;have hZs:Hid (zb32.size=32):=show zb32.size=32 from rfl
 have HN:=hid (fun W h=>Lay.c0y d (by omega) (by omega) W h);have hil:Hid ((Lib.itoa d++[59]).length <= 22):=by show _ <= _;rw [List.length_append];have:=Lay.f0K d (by omega) (by omega);simp;omega
 have hkl:=hid (s0B s (i:Int))
 have HTG:Hid (∀ W,Ktab W->Calls prog 67 #[.string ⟨(keyB s (i:Int)).toArray⟩,.slice (some ⟨W.heap.size,0,none⟩) 2 2] (W.alloc (.cells #[.string ⟨(Lib.itoa d++[59]).toArray⟩,.string ⟨t.toArray⟩] 9)) fun e w'=>e = .returned (.agg ((tagB s ((i:Int),d,t)).map cb).toArray)/\Below W.heap.size W w') :=
  fun W kk=>u0w (keyB s (i:Int)) (Lib.itoa d++[59]) t (by rw [hkl.out];omega) (by have:=hil.out;omega) (by omega) W kk
 have H1:=e0x (tagB s ((i:Int),d,t));have hSl:((tagB s ((i:Int),d,t)).map cb).length=32:=by rw [List.length_map];exact c0e _ _
 have hIn:(prog.info? 38).map (·.size)=some ((tagB s ((i:Int),d,t)).map cb).length:=by rw [hSl];exact size25
 have hUn:=underlying38;have hq0:=b0z w (.cells #[.int .i64 (i:Int),.int .i64 d,.string ⟨t.toArray⟩] 112);have hb0:=a0c w (.cells #[.int .i64 (i:Int),.int .i64 d,.string ⟨t.toArray⟩] 112);have hz0:(w.alloc (.cells #[.int .i64 (i:Int),.int .i64 d,.string ⟨t.toArray⟩] 112)).heap.size=w.heap.size + 1:=by simp
 generalize hS:(tagB s ((i:Int),d,t)).map cb=S at *;have HSe:Hid (Unit->S=(tagB s ((i:Int),d,t)).map cb):=fun _=>hS.symm;clear hS;generalize zb32=Z at *;have HB1:Hid (Below w.heap.size w ((w.alloc (.cells #[.int .i64 (i:Int),.int .i64 d,.string ⟨t.toArray⟩] 112)).alloc (.cells Z 38))):=a0H hb0 _ (Nat.le_refl _);have hq1:Hid (((w.alloc (.cells #[.int .i64 (i:Int),.int .i64 d,.string ⟨t.toArray⟩] 112)).alloc (.cells Z 38)).heap[w.heap.size]? = some (.cells #[.int .i64 (i:Int),.int .i64 d,.string ⟨t.toArray⟩] 112)):=a0a hq0 (a0c _ _);have hr1:Hid (((w.alloc (.cells #[.int .i64 (i:Int),.int .i64 d,.string ⟨t.toArray⟩] 112)).alloc (.cells Z 38)).heap[w.heap.size + 1]? = some (.cells Z 38)):=by have:=b0z (w.alloc (.cells #[.int .i64 (i:Int),.int .i64 d,.string ⟨t.toArray⟩] 112)) (.cells Z 38);rw [hz0] at this;exact this
 have HK1:=hid (hK.stays HB1.out hK.pos);have HT1:=hid (hT.stays HB1.out);have HR1:=hid (r.kept HB1.out);have hi0:(0:Int) <= (i:Int):=Int.natCast_nonneg _;have hi1:(i:Int) < (n:Int):=by omega
 have hh1:h ≠ w.heap.size + 1:=by have:=e0y r.var;omega
 have hg1:g ≠ w.heap.size + 1:=by have:=e0y r.keys;omega
 clear hK hT r hq0 hb0 hz0;go_enter func69,ntmps69;go_upto_region 1 with (first | (refine a0t rfl 38 rfl Z HZ ?_))
 generalize (w.alloc (.cells #[.int .i64 (i:Int),.int .i64 d,.string ⟨t.toArray⟩] 112)).alloc (.cells Z 38)=w1 at *
 have HH:Hid (∀ W,Below w1.heap.size w1 W->W.cell? ⟨h,0,none⟩=some (.slice (some ⟨g,0,none⟩) n n)/\W.cell? ⟨g,i,none⟩=some (.string ⟨(keyB s (i:Int)).toArray⟩)/\W.cell? ⟨w.heap.size,0,none⟩=some (.int .i64 (i:Int))/\W.cell? ⟨w.heap.size,1,none⟩=some (.int .i64 d)/\W.cell? ⟨w.heap.size,2,none⟩=some (.string ⟨t.toArray⟩)/\W.there (w.heap.size + 1) 0 32):=by
  intro W hb;have hq':=a0a hq1.out hb;have hr':=a0a hr1.out hb;have rr:=HR1.out.kept hb;refine ⟨rr.v0,rr.key i hi,?_,?_,?_,g0D hr' 32 (by rw [hZs.out];omega)⟩
  ·rw [cell_of_row _ _ _ _ _ _ hq'];rfl
  ·rw [cell_of_row _ _ _ _ _ _ hq'];rfl
  ·rw [cell_of_row _ _ _ _ _ _ hq'];rfl
 have HH2:Hid (∀ W,Below w1.heap.size w1 W->(W.setCells (w.heap.size + 1) 0 S).cell? ⟨h,0,none⟩=some (.slice (some ⟨g,0,none⟩) n n)/\(W.setCells (w.heap.size + 1) 0 S).cell? ⟨g,i,none⟩=some (.string ⟨(keyB s (i:Int)).toArray⟩)/\(W.setCells (w.heap.size + 1) 0 S).cell? ⟨w.heap.size,0,none⟩=some (.int .i64 (i:Int))/\(W.setCells (w.heap.size + 1) 0 S).cell? ⟨w.heap.size,1,none⟩=some (.int .i64 d)/\(W.setCells (w.heap.size + 1) 0 S).cell? ⟨w.heap.size,2,none⟩=some (.string ⟨t.toArray⟩)/\(W.setCells (w.heap.size + 1) 0 S).there (w.heap.size + 1) 0 32):=by
  intro W hb;obtain ⟨e1,e2,e3,e4,e5,e6⟩:=HH.out W hb;refine ⟨?_,?_,?_,?_,?_,World.there_setCells e6 _ _ _⟩
  ·rw [a0I _ _ _ _ _ hh1];exact e1
  ·rw [a0I _ _ _ _ _ hg1];exact e2
  ·rw [a0I _ _ _ _ _ (by show w.heap.size ≠ _;omega)];exact e3
  ·rw [a0I _ _ _ _ _ (by show w.heap.size ≠ _;omega)];exact e4
  ·rw [a0I _ _ _ _ _ (by show w.heap.size ≠ _;omega)];exact e5
 clear hh1 hg1;clear hq1;generalize keyB s (i:Int)=ky at *;generalize Lib.itoa d++[59]=dd at *;clear hil hkl HR1 HZ
 go_region_held3 (fun W=>W.cell? ⟨h,0,none⟩=some (.slice (some ⟨g,0,none⟩) n n)/\W.cell? ⟨g,i,none⟩=some (.string ⟨ky.toArray⟩)/\W.cell? ⟨w.heap.size,0,none⟩=some (.int .i64 (i:Int))/\W.cell? ⟨w.heap.size,1,none⟩=some (.int .i64 d)/\W.cell? ⟨w.heap.size,2,none⟩=some (.string ⟨t.toArray⟩)/\W.there (w.heap.size + 1) 0 32)
  (with_reducible first | exact HH2.out _ HBb | exact HH.out _ HBb | exact HH.out _ (c0A HBa _) | exact HH.out _ HBa | exact HH.out _ (Below.refl _ _).drew | exact HH.out _ (Below.refl _ _))
  (first | (go_at_call 68;refine (HN.out _ (HT1.out.stays (Below.refl _ _).drew)).mono ?_;rintro e W1 ⟨rfl,hb⟩;have HBa:Below w1.heap.size w1 W1:=(Below.refl _ _).drew.trans hb;clear hb) | (go_at_call 67;refine (HTG.out W1 (HK1.out.stays HBa HK1.out.pos)).mono ?_;rintro e W2 ⟨rfl,hb⟩;have HBb:Below w1.heap.size w1 W2:=HBa.trans (hb.mono HBa.size);clear hb))
 have HF:Hid ((W2.setCells (w.heap.size + 1) 0 S).heap[w.heap.size + 1]? = some (.cells S.toArray 38)):=g0E S _ W2 Z 38 (a0a hr1.out HBb) (by rw [hSl,hZs.out]);go_wp2;refine bodyPost_ret_by (results_cell_row (fn:=Tryz.f69) (p:=3) (ty:=38) (by kernel_rfl) _ _ (w.heap.size + 1) 38 S.toArray (0,0) _ rfl HF.out underlying38 rfl (by rw [List.size_toArray,hSl];exact size25)) rfl ?_;exact ⟨by rw [HSe.out ()],below_setCells _ (by omega) S 0 W2 (HB1.out.trans (HBb.mono HB1.out.size))⟩
end
open Go Go.RowKit
set_option maxRecDepth 100000
structure KeysTo (w W:World) (s:List UInt8) (n j:Nat):Prop where
 row:∃ D:Array Value,D.size=n/\(∀ k:Nat,k < j->D[k]? = some (.string ⟨(keyB s k).toArray⟩))/\W.heap[w.heap.size]? = some (.cells D 9)
 var:W.heap[w.heap.size + 1]? = some (.cells #[.slice (some ⟨w.heap.size,0,none⟩) n n] 33)
 low:Below w.heap.size w W
theorem KeysTo.step {w W W1:World} {s:List UInt8} {n j:Nat} (h:KeysTo w W s n j) (hj:j < n) (hb:Below W.heap.size W W1):KeysTo w (W1.setCell ⟨w.heap.size,j,none⟩ (.string ⟨(keyB s j).toArray⟩)) s n (j + 1):=by
 obtain ⟨⟨D,hD,hk,hr⟩,hv,hl⟩:=h;refine ⟨⟨D.setIfInBounds j (.string ⟨(keyB s j).toArray⟩),by rw [Array.size_setIfInBounds];exact hD,fun k hk1=>?_,heap_setCell_same _ _ _ _ _ _ (a0a hr hb)⟩,?_,c0K (hl.trans (hb.mono hl.size)) _ _ (Nat.le_refl _)⟩
 ·by_cases e:k=j
  ·subst e;rw [Array.getElem?_setIfInBounds_self_of_lt (by omega)]
  ·rw [Array.getElem?_setIfInBounds_ne (Ne.symm e)];exact hk k (by omega)
 ·rw [Below.heap_setCell _ _ _ _ (by show _ ≠ w.heap.size;omega)];exact a0a hv hb
theorem KeysTo.whole {w W:World} {s:List UInt8} {n:Nat} (h:KeysTo w W s n n):W.heap[w.heap.size]? = some (.cells (l0f s n).toArray 9):=by
 obtain ⟨⟨D,hD,hk,hr⟩,-,-⟩:=h;rw [hr]
 congr 2
 apply Array.ext_getElem?;intro i;by_cases hi:i < n
 ·rw [hk i hi,List.getElem?_toArray,l0g s n i hi]
 ·rw [Array.getElem?_eq_none (by omega),Array.getElem?_eq_none (by simp [l0f];omega)]
theorem l0i (s:List UInt8) (hs:s.length <= 64) (n:Nat) (hn:n <= 8) (w:World) (hK:Ktab w) (hT:Lay.Tabs w) :
  Calls prog 38 #[.string ⟨s.toArray⟩,.int .i64 (n:Int)] w fun e w'=>e = .returned (.func (.func 69) #[] #[.pointer (some ⟨w.heap.size + 1,0,none⟩)])/\KeysTo w w' s n n:=by
 obtain ⟨i0,hi,hz0,hz1,hz2⟩:=info_parts infoStr
 have hmk:(Instr.makeSlice 33 (.int .i64 (n:Int)) (.int .i64 (n:Int))).run prog w = .ok (.slice (some ⟨w.heap.size,0,none⟩) n n) (w.alloc (.cells (madeCells (Value.string ⟨#[]⟩).cells (n * 1)) 9)):=by
  have h:=run_makeSlice (P:=prog) w 33 9 i0 (.string ⟨#[]⟩) underlying33 hi hz0 .i64 .i64 n n (by omega) (by omega) (by rw [hz1];omega) (by rw [hz2];omega) (by omega);rw [hz1] at h;simpa using h
 have hms:(madeCells (Value.string ⟨#[]⟩).cells (n * 1)).size=n:=by rw [size_madeCells];omega
 generalize madeCells (Value.string ⟨#[]⟩).cells (n * 1)=Z at *;have HM:=hid (fun (j:Nat) (hj:j <= 8) W h1 h2=>q0B s (by omega) [99,108,105,101,110,116] (by decide) (j:Int) (by omega) (by omega) W h1 h2);have HKb:Hid (∀ V,Below w.heap.size w V->Ktab V):=fun V h=>hK.stays h hK.pos;have HTb:Hid (∀ V,Below w.heap.size w V->Lay.Tabs V):=fun V h=>hT.stays h
 have H0:Hid (KeysTo w ((w.alloc (.cells Z 9)).alloc (.cells #[.slice (some ⟨w.heap.size,0,none⟩) n n] 33)) s n 0) :=
  ⟨⟨Z,hms,fun k hk=>absurd hk (by omega),a0a (b0z w _) (a0c _ _)⟩,by have:=b0z (w.alloc (.cells Z 9)) (.cells #[.slice (some ⟨w.heap.size,0,none⟩) n n] 33);simpa using this,a0H (a0c w _) _ (Nat.le_refl _)⟩
 clear hK hT hms;go_enter func38,ntmps38;go_wp2;go_loopw [11] (fun i w'=>∃ j:Nat,j <= n/\i = .int .i64 j/\Hid (KeysTo w w' s n j)) (fun i _=>n - (intOf i).toNat)
 case atStart=>exact ⟨0,by omega,rfl,H0⟩
 case round =>
  clear H0 hmk;obtain ⟨j,hj,rfl,HJ⟩:=hrel;by_cases hlt:j < n
  ·have hv:wr.cell? ⟨w.heap.size + 1,0,none⟩=some (.slice (some ⟨w.heap.size,0,none⟩) n n):=by rw [cell_of_row _ _ _ _ _ _ HJ.out.var];rfl
   obtain ⟨u,hu,hf⟩:∃ u,wr.cell? ⟨w.heap.size,j,none⟩=some u/\wr.frozen? ⟨w.heap.size,j,none⟩=false:=by
    obtain ⟨D,hD,hk,hr⟩:=HJ.out.row;exact ⟨D[j]'(by omega),by rw [cell_of_row _ _ _ _ _ _ hr,Array.getElem?_eq_getElem (by omega)],frozen_of_row _ _ _ _ _ hr⟩
   have hl1:w.heap.size + 1 < wr.heap.size:=e0y HJ.out.var;have hl0:w.heap.size < wr.heap.size:=by omega
   have HMj:=hid (HM.out j (by omega));have hj0:(0:Int) <= (j:Int):=Int.natCast_nonneg _;have hj1:(j:Int) < (n:Int):=by omega
   obtain ⟨ky,hky⟩:∃ ky,ky=j0X s [99,108,105,101,110,116] (j:Int):=⟨_,rfl⟩;rw [← hky] at HMj;have HKY:Hid (Unit->keyB s (j:Int)=ky):=fun _=>hky.symm;have HKr:=hid (HKb.out _ HJ.out.low);have HTr:=hid (HTb.out _ HJ.out.low)
   have HSt:Hid (∀ W1,Below wr.heap.size wr W1->KeysTo w (W1.setCell ⟨w.heap.size,j,none⟩ (.string ⟨ky.toArray⟩)) s n (j + 1)):=fun W1 hb=>by
    have:=HJ.out.step hlt hb;rw [HKY.out ()] at this;exact this
   have HC:Hid (∀ W1,Below wr.heap.size wr W1->W1.cell? ⟨w.heap.size + 1,0,none⟩=some (.slice (some ⟨w.heap.size,0,none⟩) n n)/\W1.cell? ⟨w.heap.size,j,none⟩=some u/\W1.frozen? ⟨w.heap.size,j,none⟩=false):=fun W1 hb =>
    ⟨(hb.cell (p:=⟨w.heap.size + 1,0,none⟩) hl1).trans hv,(hb.cell (p:=⟨w.heap.size,j,none⟩) hl0).trans hu,(hb.frozen (p:=⟨w.heap.size,j,none⟩) hl0).trans hf⟩
   clear hky HM HJ;go_upto_region 5 with fail
   go_region_with (go_at_call 37;refine (HMj.out _ (HKr.out.stays (Below.refl _ _).drew HKr.out.pos) (HTr.out.stays (Below.refl _ _).drew)).mono ?_;rintro e w1 ⟨rfl,hb⟩;have HB1:=hid ((Below.refl wr.heap.size wr).drew.trans hb);obtain ⟨hv1,hu1,hf1⟩:=HC.out _ HB1.out;clear hb)
   all_goals go_wp2
   all_goals exact ⟨⟨j + 1,by omega,by go_num,HSt.out _ HB1.out⟩,by simp [intOf];omega⟩
  ·obtain rfl:j=n:=by omega
   go_wp2;go_ret;exact ⟨rfl,HJ.out⟩
structure NewRing (w w':World) (p h g b:Nat) (s:List UInt8) (n:Nat):Prop where
 ring:RingAt w' p h g b s n []
 low:Below w.heap.size w w'
 far:w.heap.size <= b
theorem w0h (s:List UInt8) (hs:s.length <= 64) (n:Nat) (h2:2 <= n) (h8:n <= 8) (w:World) (hK:Ktab w) (hT:Lay.Tabs w) :
  Calls prog 16 #[.string ⟨s.toArray⟩,.int .i64 (n:Int)] w fun e w'=>∃ p h g b,e = .returned (.tuple #[.pointer (some ⟨p,0,none⟩),.int .i64 0])/\NewRing w w' p h g b s n:=by
 have hmm:=@run_makeMap prog;have HM:Hid (∀ W,Ktab W->Lay.Tabs W->Calls prog 37 #[.string ⟨s.toArray⟩,.string ⟨#[115,101,99,114,101,116]⟩,.int .i64 0] W fun e w'=>e = .returned (.string ⟨(secB s).toArray⟩)/\Below W.heap.size W w'):=fun W a b=>q0B s (by omega) [115,101,99,114,101,116] (by decide) 0 (by omega) (by omega) W a b;have HTG:=hid (fun W a b=>l0i s hs n h8 W a b);have HKb:Hid (∀ V,Below w.heap.size w V->Ktab V):=fun V h=>hK.stays h hK.pos;have HTb:Hid (∀ V,Below w.heap.size w V->Lay.Tabs V):=fun V h=>hT.stays h;have hsz:(⟨s.toArray⟩:ByteArray).size=s.length:=rfl;have d2:decide ((n:Int) < 2)=false:=by simp;omega
 have d8:decide ((8:Int) < (n:Int))=false:=by simp;omega
 have d64:decide ((64:Int) < (s.length:Int))=false:=by simp;omega
 obtain ⟨sc,hsc⟩:∃ sc,sc=secB s:=⟨_,rfl⟩;rw [← hsc] at HM;have HSC:Hid (Unit->secB s=sc):=fun _=>hsc.symm;have HB0:Hid (Below w.heap.size w w):=Below.refl _ _;clear hK hT hsc;go_enter func16,ntmps16
 go_wp2_with (first | (go_at_call 37;refine (HM.out _ (HKb.out _ HB0.out) (HTb.out _ HB0.out)).mono ?_))
 rintro e w1 ⟨rfl,hb1⟩;have HB1:=hid hb1;clear hb1 HM
 go_wp2_with (first | (go_at_call 38;refine (HTG.out _ (HKb.out _ HB1.out) (HTb.out _ HB1.out)).mono ?_))
 rintro e w2 ⟨rfl,hk2⟩;have HK2:=hid hk2;clear hk2 HTG;go_wp2
 go_ret2
 have HB2:=HB1.out.trans (HK2.out.low.mono HB1.out.size);have ea:(w2.alloc (.map #[] 0)).heap.size=w2.heap.size + 1:=by simp
 refine ⟨w2.heap.size + 1,w1.heap.size + 1,w1.heap.size,w2.heap.size,rfl,⟨?_,a0a (a0a HK2.out.var (a0c _ _)) (a0c _ _),a0a (a0a HK2.out.whole (a0c _ _)) (a0c _ _),(s0A w2).kept (a0c _ _)⟩,a0H (a0H HB2 _ (Nat.le_refl _)) _ (Nat.le_refl _),HB2.size⟩;have h:=b0z (w2.alloc (.map #[] 0)) (.cells #[.int .i64 (n:Int),.string ⟨sc.toArray⟩,.func (.func 69) #[] #[.pointer (some ⟨w1.heap.size + 1,0,none⟩)],.map (some w2.heap.size)] 107);rw [ea] at h;rw [HSC.out ()];exact h
open Go Go.RowKit
set_option maxRecDepth 100000
theorem l0j {w w':World} {b i:Nat} {L:List Ent} {nm:String} {cs:Array Value} (hg:prog.globalNamed nm=some i) (h:w.var? prog nm=some cs) (hbk:Book w b L) (ht:Touch b w w'):w'.var? prog nm=some cs:=by
 unfold World.var? at *;rw [hg] at *;simp only [Option.bind_some] at *
 have hne:i ≠ b:=by
  intro e;subst e;obtain ⟨es,clock,hb,_⟩:=hbk;rw [hb] at h
  cases h
 have hlt:i < w.heap.size:=by
  by_cases hl:i < w.heap.size
  ·exact hl
  ·rw [Array.getElem?_eq_none (by omega)] at h;cases h
 rw [ht.block i hlt hne];exact h
theorem j0b {w w':World} {b:Nat} {L:List Ent} (h:Lay.Tabs w) (hbk:Book w b L) (ht:Touch b w w'):Lay.Tabs w':=by
 obtain ⟨h1,tp,p,h2⟩:=h;exact ⟨l0j Lay.gPow h1 hbk ht,tp,p,l0j Lay.gRange h2 hbk ht⟩
theorem j0c {w w':World} {b:Nat} {L:List Ent} (h:Ktab w) (hbk:Book w b L) (ht:Touch b w w'):Ktab w':=by
 refine h.touch ht ?_;obtain ⟨t,fr,h0⟩:=h;have:=hbk.ne h0;omega
theorem f0q (g:Nat):∀ (vs:List Value) (o:Nat) (w:World),Touch g w (w.setCells g o vs)
 | [],_,w=>Touch.refl g w
 | v :: r,o,w=>by rw [World.setCells];exact (e0o g o w v).trans (f0q g r (o + 1) _)
theorem Touch.past {b q:Nat} {w w1 w2:World} (h:Touch b w w1) (k:Touch q w1 w2) (hq:w.heap.size <= q):Touch b w w2 :=
 ⟨k.os.trans h.os,k.tape.trans h.tape,k.output.trans h.output,Nat.le_trans h.size k.size,fun i hi hb=>(k.block i (Nat.lt_of_lt_of_le hi h.size) (by omega)).trans (h.block i hi hb)⟩
section
variable {w:World} {p h g b n:Nat} {s:List UInt8} {L:List Ent}
theorem o0I (r:RingAt w p h g b s n L) (i:Nat) (d:Int) (t:List UInt8) (hn:n <= 8) (hi:i < n) (h1:1 <= d) (h6:d <= 6) (hl:t.length <= 16384) (hr:L.length < 1000000) (hK:Ktab w) (hT:Lay.Tabs w) :
  Calls prog 19 #[.pointer (some ⟨p,0,none⟩),.int .i64 (i:Int),.int .i64 d,.string ⟨t.toArray⟩] w fun e w'=>e = .returned (.tuple #[.agg ((tagB s ((i:Int),d,t)).map cb).toArray,.int .i64 0])/\RingAt w' p h g b s n (e0M L ((i:Int),d,t))/\Touch b w w':=by
 have hm:May n ((i:Int),d,t):=⟨by show (0:Int) <= (i:Int);omega,by show (i:Int) < n;omega,h1,h6,hl⟩;have HZ:=zero25;have hZs:Hid (zb32.size=32):=show zb32.size=32 from rfl
 generalize zb32=Z at *;have HB1:Hid (Below w.heap.size w ((w.alloc (.cells Z 38)).alloc (.cells #[.int .i64 (i:Int),.int .i64 d,.string ⟨t.toArray⟩] 112))):=a0H (a0c w _) _ (Nat.le_refl _);have hR1:Hid (((w.alloc (.cells Z 38)).alloc (.cells #[.int .i64 (i:Int),.int .i64 d,.string ⟨t.toArray⟩] 112)).heap[w.heap.size]? = some (.cells Z 38)):=a0a (b0z w _) (a0c _ _);have hQ1:Hid (((w.alloc (.cells Z 38)).alloc (.cells #[.int .i64 (i:Int),.int .i64 d,.string ⟨t.toArray⟩] 112)).heap[w.heap.size + 1]? = some (.cells #[.int .i64 (i:Int),.int .i64 d,.string ⟨t.toArray⟩] 112)):=heap_alloc2_new w _ _;have r1:=hid (r.kept HB1.out);have HMy:=hid (m0L ((w.alloc (.cells Z 38)).alloc (.cells #[.int .i64 (i:Int),.int .i64 d,.string ⟨t.toArray⟩] 112)) (some ⟨p,0,none⟩) n (fun W hb=>e0p (r1.out.kept hb)) (i:Int) d t true (decide_eq_true hm).symm);have HNo:Hid (∀ W,RingAt W p h g b s n L->Calls prog 40 #[.pointer (some ⟨p,0,none⟩),.agg #[.int .i64 (i:Int),.int .i64 d,.string ⟨t.toArray⟩]] W fun e w'=>e = .returned (.tuple #[])/\RingAt w' p h g b s n (e0M L ((i:Int),d,t))/\Touch b W w'):=fun W rr=>s0E rr (i:Int) d t (hm.wf hn) hl hr;have HTO:Hid (∀ W,RingAt W p h g b s n (e0M L ((i:Int),d,t))->Ktab W->Lay.Tabs W->Calls prog 69 #[.agg #[.int .i64 (i:Int),.int .i64 d,.string ⟨t.toArray⟩],.pointer (some ⟨h,0,none⟩)] W fun e w'=>e = .returned (.agg ((tagB s ((i:Int),d,t)).map cb).toArray)/\Below W.heap.size W w'):=fun W rr a b=>l0h rr i d t hi h1 h6 hl a b;have HK1:=hid (hK.stays HB1.out hK.pos);have HT1:=hid (hT.stays HB1.out);have hpq:Hid (p ≠ w.heap.size):=by have:=e0y r.obj;show _ ≠ _;omega
 have hrow:Hid (h ≠ w.heap.size/\g ≠ w.heap.size):=by have:=e0y r.var;have:=e0y r.keys;exact ⟨by omega,by omega⟩
 have hqb:Hid (w.heap.size ≠ b/\w.heap.size + 1 ≠ b):=by have:=r.book.lt;exact ⟨by omega,by omega⟩
 have HO1:=e0x (tagB s ((i:Int),d,t));have hSl:((tagB s ((i:Int),d,t)).map cb).length=32:=by rw [List.length_map];exact c0e _ _
 have hIn:(prog.info? 38).map (·.size)=some ((tagB s ((i:Int),d,t)).map cb).length:=by rw [hSl];exact size25
 have hUn:=underlying38;generalize hS:(tagB s ((i:Int),d,t)).map cb=S at *;have HSe:Hid (Unit->S=(tagB s ((i:Int),d,t)).map cb):=fun _=>hS.symm;generalize hL':e0M L ((i:Int),d,t)=L' at *;clear r hm hS hL' hK hT;go_enter func19,ntmps19;go_upto_region 4 with (first | (refine a0t rfl 38 rfl Z HZ ?_))
 have hc0:((w.alloc (.cells Z 38)).alloc (.cells #[.int .i64 (i:Int),.int .i64 d,.string ⟨t.toArray⟩] 112)).cell? ⟨w.heap.size + 1,0,none⟩=some (.int .i64 (i:Int)):=by rw [cell_of_row _ _ _ _ _ _ hQ1.out];rfl
 have hc1:((w.alloc (.cells Z 38)).alloc (.cells #[.int .i64 (i:Int),.int .i64 d,.string ⟨t.toArray⟩] 112)).cell? ⟨w.heap.size + 1,1,none⟩=some (.int .i64 d):=by rw [cell_of_row _ _ _ _ _ _ hQ1.out];rfl
 have hc2:((w.alloc (.cells Z 38)).alloc (.cells #[.int .i64 (i:Int),.int .i64 d,.string ⟨t.toArray⟩] 112)).cell? ⟨w.heap.size + 1,2,none⟩=some (.string ⟨t.toArray⟩):=by rw [cell_of_row _ _ _ _ _ _ hQ1.out];rfl
 generalize (w.alloc (.cells Z 38)).alloc (.cells #[.int .i64 (i:Int),.int .i64 d,.string ⟨t.toArray⟩] 112)=w1 at *
 go_wp2_with (first | (go_at_call 39;refine Calls.mono HMy.out ?_))
 rintro e w2 ⟨rfl,hb2⟩;have hR2:=hid (a0a hR1.out hb2);have hQ2:=hid (a0a hQ1.out hb2);have r2:=hid (r1.out.kept hb2);have HB2:=hid (HB1.out.trans (hb2.mono HB1.out.size));have HK2:=hid (HK1.out.stays hb2 HK1.out.pos);have HT2:=hid (HT1.out.stays hb2);clear hb2 HMy hc0 hc1 hc2 hQ1 hR1 r1 HB1 HK1 HT1;have hc0:w2.cell? ⟨w.heap.size + 1,0,none⟩=some (.int .i64 (i:Int)):=by rw [cell_of_row _ _ _ _ _ _ hQ2.out];rfl
 have hc1:w2.cell? ⟨w.heap.size + 1,1,none⟩=some (.int .i64 d):=by rw [cell_of_row _ _ _ _ _ _ hQ2.out];rfl
 have hc2:w2.cell? ⟨w.heap.size + 1,2,none⟩=some (.string ⟨t.toArray⟩):=by rw [cell_of_row _ _ _ _ _ _ hQ2.out];rfl
 go_wp2_with (first | (go_at_call 40;refine (HNo.out _ r2.out).mono ?_))
 rintro e w3 ⟨rfl,hr3,ht3⟩;have r3:=hid hr3;have hR3:=hid (a0x hR2.out ht3 hqb.out.1);have hQ3:=hid (a0x hQ2.out ht3 hqb.out.2);have HK3:=hid (j0c HK2.out r2.out.book ht3);have HT3:=hid (j0b HT2.out r2.out.book ht3);have HTo:Hid (Touch b w w3):=(Touch.of HB2.out).trans ht3;clear hr3 ht3 HNo hc0 hc1 hc2 hQ2 hR2 r2 HB2 HK2 HT2
 have HH:Hid (∀ W,Below w3.heap.size w3 W->W.cell? ⟨p,2,none⟩=some (.func (.func 69) #[] #[.pointer (some ⟨h,0,none⟩)])/\W.cell? ⟨w.heap.size + 1,0,none⟩=some (.int .i64 (i:Int))/\W.cell? ⟨w.heap.size + 1,1,none⟩=some (.int .i64 d)/\W.cell? ⟨w.heap.size + 1,2,none⟩=some (.string ⟨t.toArray⟩)/\W.there w.heap.size 0 32):=by
  intro W hb;have hq':=a0a hQ3.out hb;refine ⟨(r3.out.kept hb).c2,?_,?_,?_,g0D (a0a hR3.out hb) 32 (by rw [hZs.out];omega)⟩
  ·rw [cell_of_row _ _ _ _ _ _ hq'];rfl
  ·rw [cell_of_row _ _ _ _ _ _ hq'];rfl
  ·rw [cell_of_row _ _ _ _ _ _ hq'];rfl
 have HH2:Hid (∀ W,Below w3.heap.size w3 W->(W.setCells w.heap.size 0 S).cell? ⟨p,2,none⟩=some (.func (.func 69) #[] #[.pointer (some ⟨h,0,none⟩)])/\(W.setCells w.heap.size 0 S).cell? ⟨w.heap.size + 1,0,none⟩=some (.int .i64 (i:Int))/\(W.setCells w.heap.size 0 S).cell? ⟨w.heap.size + 1,1,none⟩=some (.int .i64 d)/\(W.setCells w.heap.size 0 S).cell? ⟨w.heap.size + 1,2,none⟩=some (.string ⟨t.toArray⟩)/\(W.setCells w.heap.size 0 S).there w.heap.size 0 32):=by
  intro W hb;obtain ⟨e1,e2,e3,e4,e5⟩:=HH.out W hb;refine ⟨?_,?_,?_,?_,World.there_setCells e5 _ _ _⟩
  ·rw [a0I _ _ _ _ _ hpq.out];exact e1
  ·rw [a0I _ _ _ _ _ (by show w.heap.size + 1 ≠ _;omega)];exact e2
  ·rw [a0I _ _ _ _ _ (by show w.heap.size + 1 ≠ _;omega)];exact e3
  ·rw [a0I _ _ _ _ _ (by show w.heap.size + 1 ≠ _;omega)];exact e4
 clear HZ hQ3;go_upto_region 7 with fail
 go_region_held3 (fun W=>W.cell? ⟨p,2,none⟩=some (.func (.func 69) #[] #[.pointer (some ⟨h,0,none⟩)])/\W.cell? ⟨w.heap.size + 1,0,none⟩=some (.int .i64 (i:Int))/\W.cell? ⟨w.heap.size + 1,1,none⟩=some (.int .i64 d)/\W.cell? ⟨w.heap.size + 1,2,none⟩=some (.string ⟨t.toArray⟩)/\W.there w.heap.size 0 32)
  (with_reducible first | exact HH2.out _ HBa | exact HH.out _ HBa | exact HH.out _ (Below.refl _ _).drew | exact HH.out _ (Below.refl _ _))
  (first | (go_at_call 69;refine (HTO.out _ (r3.out.kept (Below.refl _ _).drew) (HK3.out.stays (Below.refl _ _).drew HK3.out.pos) (HT3.out.stays (Below.refl _ _).drew)).mono ?_;rintro e W1 ⟨rfl,hb⟩;have HBa:Below w3.heap.size w3 W1:=(Below.refl _ _).drew.trans hb;clear hb))
 have HF:Hid ((W1.setCells w.heap.size 0 S).heap[w.heap.size]? = some (.cells S.toArray 38)):=g0E S _ W1 Z 38 (a0a hR3.out HBa) (by rw [hSl,hZs.out]);have r4:=hid (r3.out.kept HBa);have HTf:Hid (Touch w.heap.size W1 (W1.setCells w.heap.size 0 S)):=f0q _ S 0 W1;have hlow:Hid (Touch b w (W1.setCells w.heap.size 0 S)):=(HTo.out.trans (Touch.of HBa)).past HTf.out (Nat.le_refl _);go_wp2;refine bodyPost_ret_by (h0x (fn:=Tryz.f19) (p:=8) (u:=9) (ty:=38) (by kernel_rfl) _ _ w.heap.size 38 S.toArray (0,0) _ rfl HF.out underlying38 rfl (by rw [List.size_toArray,hSl];exact size25)) rfl ?_;refine ⟨by rw [HSe.out ()];rfl,?_,hlow.out⟩;exact ⟨a0x r4.out.obj HTf.out hpq.out,a0x r4.out.var HTf.out hrow.out.1,a0x r4.out.keys HTf.out hrow.out.2,r4.out.book.at (HTf.out.block b r4.out.book.lt (Ne.symm hqb.out.1))⟩
end
open Go Go.RowKit
set_option maxRecDepth 100000
section
variable {w:World} {p h g b n:Nat} {s:List UInt8} {L:List Ent}
theorem s0H (w:World) (po:Option Addr) (c d:Int) (t D:List UInt8) (HM:Hid (∀ W,Below w.heap.size w W->Calls prog 39 #[.pointer po,.agg #[.int .i64 c,.int .i64 d,.string ⟨t.toArray⟩]] W fun e w'=>e = .returned (.bool false)/\Below W.heap.size W w')) :
  Calls prog 54 #[.pointer po,.int .i64 c,.int .i64 d,.string ⟨t.toArray⟩,.agg (D.map cb).toArray] w fun e w'=>e = .returned (.bool false)/\Below w.heap.size w w':=by
 generalize D.map cb=S at *;have HB1:Hid (Below w.heap.size w ((w.alloc (.cells S.toArray 38)).alloc (.cells #[.int .i64 c,.int .i64 d,.string ⟨t.toArray⟩] 112))):=a0H (a0c w _) _ (Nat.le_refl _);have hQ1:Hid (((w.alloc (.cells S.toArray 38)).alloc (.cells #[.int .i64 c,.int .i64 d,.string ⟨t.toArray⟩] 112)).heap[w.heap.size + 1]? = some (.cells #[.int .i64 c,.int .i64 d,.string ⟨t.toArray⟩] 112)):=heap_alloc2_new w _ _;go_enter func54,ntmps54;go_upto_region 2 with fail
 generalize (w.alloc (.cells S.toArray 38)).alloc (.cells #[.int .i64 c,.int .i64 d,.string ⟨t.toArray⟩] 112)=w1 at *
 have HC26:Hid (∀ dd os,Calls prog 39 #[.pointer po,.agg #[.int .i64 c,.int .i64 d,.string ⟨t.toArray⟩]] (Sort.grow (redrawn w1 dd) os) fun e w''=>e = .returned (.bool false)/\∃ p:Regrown,w'' = Sort.grow (redrawn w1 p.d) p.os):=fun dd os =>
  Calls.regrown_of (HM.out _ (HB1.out.trans ((below_regrown w1 dd os).mono HB1.out.size)))
 have hc0:∀ dd os,(Sort.grow (redrawn w1 dd) os).cell? ⟨w.heap.size + 1,0,none⟩=some (.int .i64 c):=fun dd os=>cell_regrown (by rw [cell_of_row _ _ _ _ _ _ hQ1.out];rfl) _ _;have hc1:∀ dd os,(Sort.grow (redrawn w1 dd) os).cell? ⟨w.heap.size + 1,1,none⟩=some (.int .i64 d):=fun dd os=>cell_regrown (by rw [cell_of_row _ _ _ _ _ _ hQ1.out];rfl) _ _;have hc2:∀ dd os,(Sort.grow (redrawn w1 dd) os).cell? ⟨w.heap.size + 1,2,none⟩=some (.string ⟨t.toArray⟩):=fun dd os=>cell_regrown (by rw [cell_of_row _ _ _ _ _ _ hQ1.out];rfl) _ _;refine wp_region_quiet_below (by kernel_rfl) (by kernel_rfl) ?_
 repeat (first | go_big_quiet_step (exact HC26.out _ _) | quiet_step (exact HC26.out _ _))
 refine wpQuiet_nil ?_;intro _ hw';obtain ⟨⟨dq,osq⟩,hw''⟩:=hw';subst hw'';have HB2:Hid (Below w.heap.size w (Sort.grow (redrawn w1 dq) osq)):=HB1.out.trans ((below_regrown w1 dq osq).mono HB1.out.size);clear hc0 hc1 hc2 HC26;go_wp2;go_ret;exact ⟨rfl,HB2.out⟩
theorem q0F (r:RingAt w p h g b s n L) (i:Nat) (d:Int) (t D:List UInt8) (hD:D.length=32) (hi:i < n) (h1:1 <= d) (h6:d <= 6) (hl:t.length <= 16384) (hK:Ktab w) (hT:Lay.Tabs w) :
  Calls prog 54 #[.pointer (some ⟨p,0,none⟩),.int .i64 (i:Int),.int .i64 d,.string ⟨t.toArray⟩,.agg (D.map cb).toArray] w fun e w'=>e = .returned (.bool (decide (tagB s ((i:Int),d,t)=D)))/\Below w.heap.size w w':=by
 have hm:May n ((i:Int),d,t):=⟨by show (0:Int) <= (i:Int);omega,by show (i:Int) < n;omega,h1,h6,hl⟩;have HE:=u0v (tagB s ((i:Int),d,t)) D (c0e _ _) hD
 have HM:Hid (∀ W,RingAt W p h g b s n L->Calls prog 39 #[.pointer (some ⟨p,0,none⟩),.agg #[.int .i64 (i:Int),.int .i64 d,.string ⟨t.toArray⟩]] W fun e w'=>e = .returned (.bool true)/\Below W.heap.size W w'):=fun W rr =>
  m0L W (some ⟨p,0,none⟩) n (fun V hb=>e0p (rr.kept hb)) (i:Int) d t true (decide_eq_true hm).symm
 have HTO:Hid (∀ W,RingAt W p h g b s n L->Ktab W->Lay.Tabs W->Calls prog 69 #[.agg #[.int .i64 (i:Int),.int .i64 d,.string ⟨t.toArray⟩],.pointer (some ⟨h,0,none⟩)] W fun e w'=>e = .returned (.agg ((tagB s ((i:Int),d,t)).map cb).toArray)/\Below W.heap.size W w'):=fun W rr a b=>l0h rr i d t hi h1 h6 hl a b;obtain ⟨B,hB⟩:∃ B,B=decide (tagB s ((i:Int),d,t)=D):=⟨_,rfl⟩;rw [← hB] at HE ⊢;have HId:Hid ((prog.info? 38).map (·.size)=some (D.map cb).length):=by show _=_;rw [List.length_map,hD];exact size25
 generalize D.map cb=S at *;generalize ((tagB s ((i:Int),d,t)).map cb).toArray=X at *;have HB1:Hid (Below w.heap.size w ((w.alloc (.cells S.toArray 38)).alloc (.cells #[.int .i64 (i:Int),.int .i64 d,.string ⟨t.toArray⟩] 112))):=a0H (a0c w _) _ (Nat.le_refl _);have hR1:Hid (((w.alloc (.cells S.toArray 38)).alloc (.cells #[.int .i64 (i:Int),.int .i64 d,.string ⟨t.toArray⟩] 112)).heap[w.heap.size]? = some (.cells S.toArray 38)):=a0a (b0z w _) (a0c _ _);have hQ1:Hid (((w.alloc (.cells S.toArray 38)).alloc (.cells #[.int .i64 (i:Int),.int .i64 d,.string ⟨t.toArray⟩] 112)).heap[w.heap.size + 1]? = some (.cells #[.int .i64 (i:Int),.int .i64 d,.string ⟨t.toArray⟩] 112)):=heap_alloc2_new w _ _;have r1:=hid (r.kept HB1.out);have HK1:=hid (hK.stays HB1.out hK.pos);have HT1:=hid (hT.stays HB1.out);clear hm hB hD r hK hT;go_enter func54,ntmps54;go_upto_region 2 with fail
 generalize (w.alloc (.cells S.toArray 38)).alloc (.cells #[.int .i64 (i:Int),.int .i64 d,.string ⟨t.toArray⟩] 112)=w1 at *
 have HC26:Hid (∀ dd os,Calls prog 39 #[.pointer (some ⟨p,0,none⟩),.agg #[.int .i64 (i:Int),.int .i64 d,.string ⟨t.toArray⟩]] (Sort.grow (redrawn w1 dd) os) fun e w''=>e = .returned (.bool true)/\∃ p:Regrown,w'' = Sort.grow (redrawn w1 p.d) p.os):=fun dd os =>
  Calls.regrown_of (HM.out _ (r1.out.kept (below_regrown w1 dd os)))
 have HC37:Hid (∀ dd os,Calls prog 69 #[.agg #[.int .i64 (i:Int),.int .i64 d,.string ⟨t.toArray⟩],.pointer (some ⟨h,0,none⟩)] (Sort.grow (redrawn w1 dd) os) fun e w''=>e = .returned (.agg X)/\∃ p:Regrown,w'' = Sort.grow (redrawn w1 p.d) p.os):=fun dd os =>
  Calls.regrown_of (HTO.out _ (r1.out.kept (below_regrown w1 dd os)) (HK1.out.stays (below_regrown w1 dd os) HK1.out.pos) (HT1.out.stays (below_regrown w1 dd os)))
 have hc0:∀ dd os,(Sort.grow (redrawn w1 dd) os).cell? ⟨w.heap.size + 1,0,none⟩=some (.int .i64 (i:Int)):=fun dd os=>cell_regrown (by rw [cell_of_row _ _ _ _ _ _ hQ1.out];rfl) _ _;have hc1:∀ dd os,(Sort.grow (redrawn w1 dd) os).cell? ⟨w.heap.size + 1,1,none⟩=some (.int .i64 d):=fun dd os=>cell_regrown (by rw [cell_of_row _ _ _ _ _ _ hQ1.out];rfl) _ _;have hc2:∀ dd os,(Sort.grow (redrawn w1 dd) os).cell? ⟨w.heap.size + 1,2,none⟩=some (.string ⟨t.toArray⟩):=fun dd os=>cell_regrown (by rw [cell_of_row _ _ _ _ _ _ hQ1.out];rfl) _ _;have hp2:∀ dd os,(Sort.grow (redrawn w1 dd) os).cell? ⟨p,2,none⟩=some (.func (.func 69) #[] #[.pointer (some ⟨h,0,none⟩)]):=fun dd os=>cell_regrown r1.out.c2 _ _;have HLd:=hid (d0t w1 w.heap.size S 38 hR1.out);refine wp_region_quiet_below (by kernel_rfl) (by kernel_rfl) ?_
 iterate 10 (first | go_big_quiet_step (first | exact HC26.out _ _ | exact HC37.out _ _) | quiet_step (first | exact HC26.out _ _ | exact HC37.out _ _))
 refine b0k rfl 38 _ rfl w.heap.size rfl S _ HLd.out underlying38 rfl HId.out ?_
 repeat (first | go_big_quiet_step (fail) | quiet_step (fail))
 refine wpQuiet_nil ?_;intro _ hw';obtain ⟨⟨dq,osq⟩,hw''⟩:=hw';subst hw'';have HB2:Hid (Below w.heap.size w (Sort.grow (redrawn w1 dq) osq)):=HB1.out.trans ((below_regrown w1 dq osq).mono HB1.out.size);clear hc0 hc1 hc2 hp2 HC26 HC37;go_wp2;go_ret;exact ⟨rfl,HB2.out⟩
theorem q0G (r:RingAt w p h g b s n L) (c d:Int) (t D:List UInt8) (hm:¬ May n (c,d,t)) :
  Calls prog 54 #[.pointer (some ⟨p,0,none⟩),.int .i64 c,.int .i64 d,.string ⟨t.toArray⟩,.agg (D.map cb).toArray] w fun e w'=>e = .returned (.bool false)/\Below w.heap.size w w' :=
 s0H w (some ⟨p,0,none⟩) c d t D fun W hb=>m0L W (some ⟨p,0,none⟩) n (fun _ hv=>e0p ((r.kept hb).kept hv)) c d t false (decide_eq_false hm).symm
end
open Go Go.RowKit
set_option maxRecDepth 100000
section
variable {w:World} {p h g b n:Nat} {s:List UInt8} {L:List Ent}
theorem x0m (r:RingAt w p h g b s n L) (hn:n <= 8) (c d:Int) (t:List UInt8) (hm:May n (c,d,t)) (hr:L.length < 1000000) (hK:Ktab w) (hT:Lay.Tabs w) :
  Calls prog 19 #[.pointer (some ⟨p,0,none⟩),.int .i64 c,.int .i64 d,.string ⟨t.toArray⟩] w fun e w'=>e = .returned (.tuple #[.agg ((tagB s (c,d,t)).map cb).toArray,.int .i64 0])/\RingAt w' p h g b s n (e0M L (c,d,t))/\Touch b w w':=by
 obtain ⟨h0,h1,h2,h3,h4⟩:=hm;simp only at h0 h1 h2 h3 h4;obtain ⟨i,rfl⟩:∃ i:Nat,c=(i:Int):=⟨c.toNat,by omega⟩;exact o0I r i d t hn (by omega) h2 h3 h4 hr hK hT
theorem u0x (r:RingAt w p h g b s n L) (c d:Int) (t D:List UInt8) (hD:D.length=32) (hm:May n (c,d,t)) (hK:Ktab w) (hT:Lay.Tabs w) :
  Calls prog 54 #[.pointer (some ⟨p,0,none⟩),.int .i64 c,.int .i64 d,.string ⟨t.toArray⟩,.agg (D.map cb).toArray] w fun e w'=>e = .returned (.bool (decide (tagB s (c,d,t)=D)))/\Below w.heap.size w w':=by
 obtain ⟨h0,h1,h2,h3,h4⟩:=hm;simp only at h0 h1 h2 h3 h4;obtain ⟨i,rfl⟩:∃ i:Nat,c=(i:Int):=⟨c.toNat,by omega⟩;exact q0F r i d t D hD (by omega) h2 h3 h4 hK hT
end
open Go Go.RowKit
set_option maxRecDepth 100000
def entL (e:Ent):List Value:=[.int .i64 e.1,.int .i64 e.2.1,.string ⟨e.2.2.toArray⟩]
def flat (L:List Ent):List Value:=L.flatMap entL
def s0I (w:World) (v:Value) (L:List Ent):Prop :=
 (v = .slice none 0 0/\L = []) ∨ ∃ g cap cur,v = .slice (some ⟨g,0,none⟩) L.length cap/\w.heap[g]? = some (.cells cur 62)/\cur.toList.take (3 * L.length)=flat L
theorem s0I.kept {w w':World} {v:Value} {L:List Ent} (h:s0I w v L) (hb:Below w.heap.size w w'):s0I w' v L:=by
 rcases h with h | ⟨g,cap,cur,hv,hg,ht⟩
 ·exact .inl h
 ·exact .inr ⟨g,cap,cur,hv,a0a hg hb,ht⟩
structure RefAt (w:World) (x:Nat) (s:List UInt8) (n:Nat) (v:Value) (L:List Ent):Prop where
 obj:w.heap[x]? = some (.cells #[.string ⟨s.toArray⟩,.int .i64 n,v] 110)
 book:s0I w v L
section
variable {w w':World} {x n:Nat} {s:List UInt8} {v:Value} {L:List Ent}
theorem RefAt.kept (r:RefAt w x s n v L) (hb:Below w.heap.size w w'):RefAt w' x s n v L:=⟨a0a r.obj hb,r.book.kept hb⟩
theorem u0y (s:List UInt8) (hs:s.length <= 64) (n:Nat) (h2:2 <= n) (h8:n <= 8) (w:World) :
  Calls prog 17 #[.string ⟨s.toArray⟩,.int .i64 (n:Int)] w fun e w'=>∃ x,e = .returned (.tuple #[.pointer (some ⟨x,0,none⟩),.int .i64 0])/\RefAt w' x s n (.slice none 0 0) []/\Below w.heap.size w w'/\w.heap.size <= x:=by
 have hsz:(⟨s.toArray⟩:ByteArray).size=s.length:=rfl;have d2:decide ((n:Int) < 2)=false:=by simp;omega
 have d8:decide ((8:Int) < (n:Int))=false:=by simp;omega
 have d64:decide ((64:Int) < (s.length:Int))=false:=by simp;omega
 go_enter func17,ntmps17;go_wp2
 go_ret2
 exact ⟨w.heap.size,rfl,⟨b0z w _,.inl ⟨rfl,rfl⟩⟩,a0c w _,Nat.le_refl _⟩
end
end Go.Proofs.YtagmnmoaekbffaaGreatDoor
