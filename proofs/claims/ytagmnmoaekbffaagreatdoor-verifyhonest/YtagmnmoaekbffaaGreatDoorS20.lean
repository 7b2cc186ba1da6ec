/- S20 -/
import Derived.Test.YtagmnmoaekbffaaGreatDoorS04
import Derived.Test.YtagmnmoaekbffaaGreatDoorS16
import Derived.StillTailTactics
import Derived.Test.YtagmnmoaekbffaaGreatDoorS18
import Derived.Laws.BitsAllLaws
set_option maxHeartbeats 1000000
namespace Go.Proofs.YtagmnmoaekbffaaGreatDoor
open Go.Proofs.Tryz
open Go Go.RowKit
set_option maxRecDepth 100000
def kcut (k:List UInt8):List UInt8:=if 64 < k.length then sha k else k
def kblk (k:List UInt8):List UInt8:=kcut k++List.replicate (64 - (kcut k).length) 0
def padB (k:List UInt8) (x:UInt8):List UInt8:=(kblk k).map (· ^^^ x)
def hmac (k t:List UInt8):List UInt8:=sha (padB k 92++sha (padB k 54++t))
theorem h0L (l:List UInt8):(sha l).length=32:=m0C _
theorem n0D (k:List UInt8):(kcut k).length <= 64:=by
 unfold kcut;split
 ·rw [h0L];omega
 ·omega
theorem e0Z (k:List UInt8):(kblk k).length=64:=by
 have:=n0D k;unfold kblk;rw [List.length_append,List.length_replicate];omega
theorem n0E (k:List UInt8) (x:UInt8):(padB k x).length=64:=by unfold padB;rw [List.length_map,e0Z]
theorem j0W (k t:List UInt8):(hmac k t).length=32:=h0L _
theorem w0f (a b:UInt8):bits .xor .u8 (bv a) (bv b)=bv (a ^^^ b):=by
 unfold bv;rw [u8_xor_nat _ _ a.toNat_lt b.toNat_lt,UInt8.toNat_xor]
open Go Go.RowKit
set_option maxRecDepth 100000
def zb64:Array Value:=((List.replicate 64 0).map cb).toArray
theorem zero54:(prog.info? 163).map (·.zero)=some (some (.agg zb64)):=by kernel_rfl
theorem zb64_size:zb64.size=64:=by simp [zb64]
theorem m0G (k:List UInt8) (hk:k.length < 140737488355328) (w:World) (hK:Ktab w):Calls prog 102 #[.string ⟨k.toArray⟩] w fun e w'=>e = .returned (.agg ((kblk k).map cb).toArray)/\Below w.heap.size w w':=by
 have HZ:=zero54;have hZs:=hid zb64_size;have HZ0:Hid (zb64=((List.replicate 64 0).map cb).toArray):=show zb64=_ from rfl
 have hs0:(⟨k.toArray⟩:ByteArray).size=k.length:=rfl;have HKK:Hid (Unit->kblk k=kcut k++List.replicate (64 - (kcut k).length) 0):=fun _=>rfl;have hcl:=hid (n0D k);have hbl:=hid (e0Z k);have H1:=hid (e0x (kblk k));have HI:Hid ((prog.info? 163).map (·.size)=some ((kblk k).map cb).length):=by show _=_;rw [List.length_map,hbl.out];exact size43
 generalize zb64=Z at *;by_cases hlt:64 < k.length
 ·have hkc:Hid (kcut k=sha k):=if_pos hlt
  have HS:=hid (fun W (h:Ktab W)=>q0w k hk W h);have HB:=hid (fun W=>f0J (sha k) (h0L k) W);rw [hkc.out] at hcl HKK;generalize ((sha k).map cb).toArray=X at *;generalize sha k=y at *;have hn0:Hid (y.length=Nat.min y.length 64):=(Nat.min_eq_left hcl.out).symm;have HKb:Hid (∀ V,Below w.heap.size w V->Ktab V):=fun V h=>hK.stays h hK.pos;clear hkc hK;have hw2:Hid (Below w.heap.size w ((w.alloc (.cells Z 163)).alloc (.cells Z 163))):=a0H (a0c w _) _ (Nat.le_refl _);have hR0:Hid (((w.alloc (.cells Z 163)).alloc (.cells Z 163)).heap[w.heap.size]? = some (.cells Z 163)):=heap_alloc2_old w _ _;have hR1:Hid (((w.alloc (.cells Z 163)).alloc (.cells Z 163)).heap[w.heap.size + 1]? = some (.cells Z 163)):=heap_alloc2_new w _ _;have hz2:Hid (((w.alloc (.cells Z 163)).alloc (.cells Z 163)).heap.size=w.heap.size + 2):=show _=_ by simp
  go_enter func102,ntmps102;go_upto_region 2 with (first | (refine a0t rfl 163 rfl Z HZ ?_))
  generalize (w.alloc (.cells Z 163)).alloc (.cells Z 163)=w2 at *
  go_wp2_with (first | (go_at_call 89;refine (HS.out _ (HKb.out _ hw2.out)).mono ?_))
  rintro e w3 ⟨rfl,hb3⟩;have hB3:Hid (Below w.heap.size w w3):=hw2.out.trans (hb3.mono hw2.out.size);have hR03:Hid (w3.heap[w.heap.size]? = some (.cells Z 163)):=(hb3.block _ (by have:=hz2.out;omega)).trans hR0.out;have hR13:Hid (w3.heap[w.heap.size + 1]? = some (.cells Z 163)):=(hb3.block _ (by have:=hz2.out;omega)).trans hR1.out;have hz3:Hid (w.heap.size + 2 <= w3.heap.size):=by show _ <= _;have h1:=hb3.size;have h2:=hz2.out;omega
  clear hb3 hw2 hR0 hR1 hz2 HS
  go_wp2_with (first | (go_at_call 66;refine (HB.out _).mono ?_))
  rintro e w4 ⟨rfl,hb4⟩;have hB4:Hid (Below w.heap.size w w4):=hB3.out.trans (hb4.mono hB3.out.size);have hR04:Hid (w4.heap[w.heap.size]? = some (.cells Z 163)):=(hb4.block _ (by have:=hz3.out;omega)).trans hR03.out;have hR14:Hid (w4.heap[w.heap.size + 1]? = some (.cells Z 163)):=(hb4.block _ (by have:=hz3.out;omega)).trans hR13.out;clear hb4 hB3 hR03 hR13 hz3 HB
  have HCP:Hid (Z.toList.take 0++(y.take y.length).map cb++Z.toList.drop (0 + ((y.take y.length).map cb).length)=(kblk k).map cb):=by
   show _=_;rw [copied y y.length rfl 64 hcl.out Z HZ0.out,HKK.out ()]
  have HCOPY:(Builtin.copy_ #[63,9] 3 #[.slice (some ⟨w.heap.size + 1,0,none⟩) 64 64,.string ⟨y.toArray⟩]).run prog w4 = .ok (.int .i64 (y.length:Int)) (w4.setRow (w.heap.size + 1) ((kblk k).map cb).toArray):=by
   have h:=run_copy_string (P:=prog) w4 63 9 3 5 (w.heap.size + 1) 0 64 64 ⟨y.toArray⟩ Z 163 y y.length rfl hn0.out underlying63 size5 hR14.out (by rw [Nat.zero_add,hZs.out];exact hcl.out);rw [HCP.out] at h;exact h
  go_upto_region 5 with fail
  clear HCOPY;have hR15:Hid ((w4.setRow (w.heap.size + 1) ((kblk k).map cb).toArray).heap[w.heap.size + 1]? = some (.cells ((kblk k).map cb).toArray 163)):=setRow_heap _ _ _ _ _ _ hR14.out;have hR05:Hid ((w4.setRow (w.heap.size + 1) ((kblk k).map cb).toArray).heap[w.heap.size]? = some (.cells Z 163)):=(setRow_other _ _ _ _ (by omega)).trans hR04.out;have hB5:Hid (Below w.heap.size w (w4.setRow (w.heap.size + 1) ((kblk k).map cb).toArray)):=below_setRow hB4.out _ _ (by omega);have HF:Hid (0 + ((kblk k).map cb).length <= Z.size):=by show _ <= _;rw [List.length_map,hbl.out,hZs.out];omega
  have hSl:Hid (((kblk k).map cb).length=64):=by show _=_;rw [List.length_map,hbl.out]
  clear hR14 hR04 hB4 HCP hn0 HKK hbl HZ0;generalize hS:(kblk k).map cb=S at *;have HSe:=hid hS;clear hS;generalize w4.setRow (w.heap.size + 1) S.toArray=w5 at *
  have HC:Hid (∀ i v,S[i]? = some v->w5.cell? ⟨w.heap.size + 1,0 + i,none⟩=some v):=by
   intro i v hv;rw [cell_of_row _ _ _ _ _ _ hR15.out];simpa using hv
  go_wp2_with (first | (refine a0W rfl 163 _ rfl (w.heap.size + 1) 0 rfl S _ HC.out underlying163 rfl HI.out ?_) | (refine b0c rfl 163 _ _ rfl rfl w.heap.size 0 rfl S rfl Z 163 hR05.out HF.out H1.out HI.out ?_))
  have HRR:Hid ((List.take 0 Z.toList++S++List.drop (0 + S.length) Z.toList).toArray=S.toArray):=by
   have h64:Z.toList.length <= 0 + S.length:=by rw [Array.length_toList,hSl.out,hZs.out];omega
   show _=_;rw [List.drop_eq_nil_of_le h64];simp
  refine bodyPost_ret_by (results_cell_row (fn:=Tryz.f102) (p:=2) (ty:=163) (by kernel_rfl) _ _ w.heap.size 163 S.toArray (0,0) _ rfl (by rw [HRR.out];exact setRow_heap _ _ _ _ _ _ hR05.out) underlying163 rfl (by rw [List.size_toArray,hSl.out];exact size43)) rfl ?_;exact ⟨by rw [HSe.out],below_setRow hB5.out _ _ (by omega)⟩
 ·have hkc:Hid (kcut k=k):=if_neg hlt
  rw [hkc.out] at hcl HKK;have hlt':k.length <= 64:=by omega
  have hn0:Hid (k.length=Nat.min k.length 64):=(Nat.min_eq_left hcl.out).symm;clear hkc hK hlt;have hB4:Hid (Below w.heap.size w ((w.alloc (.cells Z 163)).alloc (.cells Z 163))):=a0H (a0c w _) _ (Nat.le_refl _);have hR04:Hid (((w.alloc (.cells Z 163)).alloc (.cells Z 163)).heap[w.heap.size]? = some (.cells Z 163)):=heap_alloc2_old w _ _;have hR14:Hid (((w.alloc (.cells Z 163)).alloc (.cells Z 163)).heap[w.heap.size + 1]? = some (.cells Z 163)):=heap_alloc2_new w _ _;go_enter func102,ntmps102;go_upto_region 2 with (first | (refine a0t rfl 163 rfl Z HZ ?_))
  generalize (w.alloc (.cells Z 163)).alloc (.cells Z 163)=w4 at *
  have HCP:Hid (Z.toList.take 0++(k.take k.length).map cb++Z.toList.drop (0 + ((k.take k.length).map cb).length)=(kblk k).map cb):=by
   show _=_;rw [copied k k.length rfl 64 hcl.out Z HZ0.out,HKK.out ()]
  have HCOPY:(Builtin.copy_ #[63,9] 3 #[.slice (some ⟨w.heap.size + 1,0,none⟩) 64 64,.string ⟨k.toArray⟩]).run prog w4 = .ok (.int .i64 (k.length:Int)) (w4.setRow (w.heap.size + 1) ((kblk k).map cb).toArray):=by
   have h:=run_copy_string (P:=prog) w4 63 9 3 5 (w.heap.size + 1) 0 64 64 ⟨k.toArray⟩ Z 163 k k.length rfl hn0.out underlying63 size5 hR14.out (by rw [Nat.zero_add,hZs.out];exact hcl.out);rw [HCP.out] at h;exact h
  go_upto_region 5 with fail
  clear HCOPY;have hR15:Hid ((w4.setRow (w.heap.size + 1) ((kblk k).map cb).toArray).heap[w.heap.size + 1]? = some (.cells ((kblk k).map cb).toArray 163)):=setRow_heap _ _ _ _ _ _ hR14.out;have hR05:Hid ((w4.setRow (w.heap.size + 1) ((kblk k).map cb).toArray).heap[w.heap.size]? = some (.cells Z 163)):=(setRow_other _ _ _ _ (by omega)).trans hR04.out;have hB5:Hid (Below w.heap.size w (w4.setRow (w.heap.size + 1) ((kblk k).map cb).toArray)):=below_setRow hB4.out _ _ (by omega);have HF:Hid (0 + ((kblk k).map cb).length <= Z.size):=by show _ <= _;rw [List.length_map,hbl.out,hZs.out];omega
  have hSl:Hid (((kblk k).map cb).length=64):=by show _=_;rw [List.length_map,hbl.out]
  clear hR14 hR04 hB4 HCP hn0 HKK hbl HZ0;generalize hS:(kblk k).map cb=S at *;have HSe:=hid hS;clear hS;generalize w4.setRow (w.heap.size + 1) S.toArray=w5 at *
  have HC:Hid (∀ i v,S[i]? = some v->w5.cell? ⟨w.heap.size + 1,0 + i,none⟩=some v):=by
   intro i v hv;rw [cell_of_row _ _ _ _ _ _ hR15.out];simpa using hv
  go_wp2_with (first | (refine a0W rfl 163 _ rfl (w.heap.size + 1) 0 rfl S _ HC.out underlying163 rfl HI.out ?_) | (refine b0c rfl 163 _ _ rfl rfl w.heap.size 0 rfl S rfl Z 163 hR05.out HF.out H1.out HI.out ?_))
  have HRR:Hid ((List.take 0 Z.toList++S++List.drop (0 + S.length) Z.toList).toArray=S.toArray):=by
   have h64:Z.toList.length <= 0 + S.length:=by rw [Array.length_toList,hSl.out,hZs.out];omega
   show _=_;rw [List.drop_eq_nil_of_le h64];simp
  refine bodyPost_ret_by (results_cell_row (fn:=Tryz.f102) (p:=2) (ty:=163) (by kernel_rfl) _ _ w.heap.size 163 S.toArray (0,0) _ rfl (by rw [HRR.out];exact setRow_heap _ _ _ _ _ _ hR05.out) underlying163 rfl (by rw [List.size_toArray,hSl.out];exact size43)) rfl ?_;exact ⟨by rw [HSe.out],below_setRow hB5.out _ _ (by omega)⟩
def e0d (k:List UInt8) (x:UInt8) (i:Nat):List UInt8:=(k.take i).map (· ^^^ x)++k.drop i
theorem o0E (k:List UInt8) (x:UInt8) (i:Nat):(e0d k x i).length=k.length:=by unfold e0d;rw [List.length_append,List.length_map,List.length_take,List.length_drop];omega
theorem q0x (k:List UInt8) (x:UInt8) (i:Nat) (h:i < k.length):(e0d k x i).getD i 0=k.getD i 0:=by
 unfold e0d;rw [List.getD_eq_getElem?_getD,List.getElem?_append_right (by rw [List.length_map,List.length_take];omega),List.length_map,List.length_take,List.getElem?_drop,List.getD_eq_getElem?_getD]
 congr 2;omega
theorem m0H (k:List UInt8) (x:UInt8) (i:Nat) (h:i < k.length):(e0d k x i).set i (k.getD i 0 ^^^ x)=e0d k x (i + 1):=by
 unfold e0d
 have e:k.drop i=k.getD i 0 :: k.drop (i + 1):=by
  rw [List.getD_eq_getElem?_getD,List.getElem?_eq_getElem h];exact List.drop_eq_getElem_cons h
 have hl:((k.take i).map (· ^^^ x)).length=i:=by rw [List.length_map,List.length_take];omega
 rw [e]
 conv=>lhs;arg 2;rw [← hl]
 rw [set_mid,List.take_add_one,List.getElem?_eq_getElem h,List.getD_eq_getElem?_getD,List.getElem?_eq_getElem h];simp only [Option.toList_some,List.map_append,List.map_cons,List.map_nil,List.append_assoc,List.cons_append,List.nil_append,Option.getD_some]
theorem o0F (k:List UInt8) (x:UInt8):e0d k x k.length=k.map (· ^^^ x):=by unfold e0d;simp
theorem j0a (k:List UInt8) (hk:k.length=64) (x:UInt8) (g:Nat) (w:World) (hg:w.heap[g]? = some (.cells (k.map cb).toArray 163)) :
  Calls prog 103 #[.int .u8 (bv x),.pointer (some ⟨g,0,none⟩)] w fun e w'=>e = .returned (.string ⟨(k.map (· ^^^ x)).toArray⟩)/\Below w.heap.size w w':=by
 have HZ:=zero54;have hZs:=hid zb64_size;have HZ0:Hid (zb64=((List.replicate 64 0).map cb).toArray):=show zb64=_ from rfl
 generalize zb64=Z at *;have H1:=hid (e0x k);have HI:Hid ((prog.info? 163).map (·.size)=some (k.map cb).length):=by show _=_;rw [List.length_map,hk];exact size43
 have HF:Hid ((k.map cb).length=Z.size):=by show _=_;rw [List.length_map,hk,hZs.out]
 have HC:Hid (∀ i v,(k.map cb)[i]? = some v->w.cell? ⟨g,0 + i,none⟩=some v):=by
  intro i v hv;rw [cell_of_row _ _ _ _ _ _ hg];simpa using hv
 have HD0:Hid ((k.map cb).toArray=((e0d k x 0).map cb).toArray):=by show _=_;simp [e0d]
 generalize k.map cb=S at *;have hkl:=hid hk;clear hg hk;have HW0:Hid (Below w.heap.size w (w.alloc (.cells S.toArray 163))):=a0c w _;have HR0:Hid ((w.alloc (.cells S.toArray 163)).heap[w.heap.size]? = some (.cells S.toArray 163)):=b0z w _;go_enter func103,ntmps103;go_upto_region 2 with (first | (refine a0W rfl 163 _ rfl g 0 rfl S _ HC.out underlying163 rfl HI.out ?_) | (refine a0t rfl 163 rfl Z HZ ?_) | (refine c0o rfl 163 _ _ rfl rfl w.heap.size rfl S rfl Z 163 rfl HF.out H1.out HI.out ?_))
 generalize w.alloc (.cells S.toArray 163)=w0 at *;go_wp2;go_loopw [7] (fun i w'=>∃ (j:Nat) (D:Array Value),j <= 64/\i = .int .i64 j/\Hid (D=((e0d k x j).map cb).toArray)/\Hid (w'.heap[w.heap.size]? = some (.cells D 163))/\Hid (Below w.heap.size w w')) (fun i _=>64 - (intOf i).toNat)
 case atStart=>exact ⟨0,_,by omega,rfl,HD0,HR0,HW0⟩
 case round =>
  clear HD0 HR0 HW0;obtain ⟨j,D,hj,rfl,HD,HR,HB⟩:=hrel;by_cases hlt:j < 64
  ·have hDj:D[j]? = some (.int .u8 (bv (k.getD j 0))):=by
    have h:=HD.out;rw [h,List.getElem?_toArray,i0i _ _ (by rw [o0E,hkl.out];exact hlt),q0x k x j (by rw [hkl.out];exact hlt)]
   have hc:wr.cell? ⟨w.heap.size,j,none⟩=some (.int .u8 (bv (k.getD j 0))):=by rw [cell_of_row _ _ _ _ _ _ HR.out];exact hDj
   have hf:wr.frozen? ⟨w.heap.size,j,none⟩=false:=frozen_of_row _ _ _ _ _ HR.out
   have HS:Hid (D.setIfInBounds j (.int .u8 (bv (k.getD j 0 ^^^ x)))=((e0d k x (j + 1)).map cb).toArray):=by
    show _=_;rw [t0E _ D HD.out,m0H k x j (by rw [hkl.out];exact hlt)]
   have hx:=w0f (k.getD j 0) x;have hra:=j0u (k.getD j 0);generalize k.getD j 0 ^^^ x=z at *;generalize k.getD j 0=y at *;clear hDj HD;go_wp2
   go_roundw
   case rel=>exact ⟨j + 1,_,by omega,by go_num,HS,heap_setCell_same _ _ _ _ _ _ HR.out,c0K HB.out _ _ (by show w.heap.size <= w.heap.size;omega)⟩
   case measure=>simp [intOf];omega
  ·obtain rfl:j=64:=by omega
   have HT:Hid (D=((k.map (· ^^^ x)).map cb).toArray):=by
    have h:=o0F k x;rw [hkl.out] at h;show _=_;rw [← h];exact HD.out
   have HV:(convert 63 9 (.slice (some ⟨w.heap.size,0,none⟩) 64 64)).run prog wr = .ok (.string ⟨(k.map (· ^^^ x)).toArray⟩) wr :=
    n0p wr w.heap.size 64 (k.map (· ^^^ x)) 64 (by rw [List.length_map,hkl.out]) 163 (by rw [← HT.out];exact HR.out)
   generalize hT:k.map (· ^^^ x)=T at *;have HTe:=hid hT;clear HT HD hT;go_wp2;go_ret;exact ⟨by rw [HTe.out];rfl,HB.out⟩
theorem l0c (k:List UInt8) (hk:k.length < 140737488355328) (w:World) (hK:Ktab w):Calls prog 86 #[.string ⟨k.toArray⟩] w fun e w'=>∃ g,e = .returned (.func (.func 103) #[] #[.pointer (some ⟨g,0,none⟩)])/\w.heap.size <= g/\w'.heap[g]? = some (.cells ((kblk k).map cb).toArray 163)/\Below w.heap.size w w':=by
 have HZ:=zero54;have hZs:=hid zb64_size;generalize zb64=Z at *;have H1:=hid (e0x (kblk k));have HI:Hid ((prog.info? 163).map (·.size)=some ((kblk k).map cb).length):=by show _=_;rw [List.length_map,e0Z];exact size43
 have HF:Hid (((kblk k).map cb).length=Z.size):=by show _=_;rw [List.length_map,e0Z,hZs.out]
 have HA:=hid (m0G k hk w hK);generalize hS:(kblk k).map cb=S at *;have HSe:=hid hS;clear hS hK;go_enter func86,ntmps86
 go_wp2_with (first | (go_at_call 102;refine Calls.mono HA.out ?_))
 rintro e w1 ⟨rfl,hb1⟩;have HB1:=hid hb1;have hs1:=hid hb1.size;clear hb1 HA
 go_wp2_with (first | (refine a0t rfl 163 rfl Z HZ ?_) | (refine c0o rfl 163 _ _ rfl rfl w1.heap.size rfl S rfl Z 163 rfl HF.out H1.out HI.out ?_))
 go_ret;exact ⟨w1.heap.size,rfl,hs1.out,b0z w1 _,a0H HB1.out _ (Nat.le_refl _)⟩
end Go.Proofs.YtagmnmoaekbffaaGreatDoor
