/-
  Keys' blocks and tags as plain functions, and laws of copy and of bytes out of a row.
-/
import Derived.Test.YthkkjjlpahdagaaGreatDoorS19
import Derived.Test.YthkkjjlpahdagaaGreatDoorS16
import Derived.Laws.BitsAllLaws
set_option maxHeartbeats 1000000
namespace Go.Proofs.YthkkjjlpahdagaaGreatDoor
open Go Go.RowKit
set_option maxRecDepth 100000
def kcut (k:List UInt8):List UInt8:=if 64 < k.length then sha k else k
def kblk (k:List UInt8):List UInt8:=kcut k++List.replicate (64 - (kcut k).length) 0
def padB (k:List UInt8) (x:UInt8):List UInt8:=(kblk k).map (· ^^^ x)
def hmac (k t:List UInt8):List UInt8:=sha (padB k 92++sha (padB k 54++t))
theorem sha_len (l:List UInt8):(sha l).length=32:=dig_len _
theorem kcut_len (k:List UInt8):(kcut k).length ≤ 64:=by
 unfold kcut;split
 ·rw [sha_len];omega
 ·omega
theorem kblk_len (k:List UInt8):(kblk k).length=64:=by
 have:=kcut_len k
 unfold kblk;rw [List.length_append,List.length_replicate];omega
theorem padB_len (k:List UInt8) (x:UInt8):(padB k x).length=64:=by unfold padB;rw [List.length_map,kblk_len]
theorem hmac_len (k t:List UInt8):(hmac k t).length=32:=sha_len _
theorem bv_xor (a b:UInt8):bits .xor .u8 (bv a) (bv b)=bv (a ^^^ b):=by
 unfold bv;rw [u8_xor_nat _ _ a.toNat_lt b.toNat_lt,UInt8.toNat_xor]
open Go Go.RowKit
set_option maxRecDepth 100000
def zb64:Array Value:=((List.replicate 64 0).map cb).toArray
theorem zero54:(Tryz.prog.info? 146).map (·.zero)=some (some (.agg zb64)):=by kernel_rfl
theorem zb64_size:zb64.size=64:=by simp [zb64]
theorem blockOf_any (k:List UInt8) (hk:k.length < 140737488355328) (w:World) (hK:Ktab w):Calls Tryz.prog 91 #[.string ⟨k.toArray⟩] w fun e w'=>e = .returned (.agg ((kblk k).map cb).toArray)∧Below w.heap.size w w':=by
 have HZ:=zero54
 have hZs:=hid zb64_size
 have HZ0:Hid (zb64=((List.replicate 64 0).map cb).toArray):=show zb64=_ from rfl
 have hs0:(⟨k.toArray⟩:ByteArray).size=k.length:=rfl
 have HKK:Hid (Unit→kblk k=kcut k++List.replicate (64 - (kcut k).length) 0):=fun _=>rfl
 have hcl:=hid (kcut_len k)
 have hbl:=hid (kblk_len k)
 have H1:=hid (one_cb (kblk k))
 have HI:Hid ((Tryz.prog.info? 146).map (·.size)=some ((kblk k).map cb).length):=by show _=_;rw [List.length_map,hbl.out];exact size43
 generalize zb64=Z at *
 by_cases hlt:64 < k.length
 ·have hkc:Hid (kcut k=sha k):=if_pos hlt
  have HS:=hid (fun W (h:Ktab W)=>sum_any k hk W h)
  have HB:=hid (fun W=>bytes_any (sha k) (sha_len k) W)
  rw [hkc.out] at hcl HKK
  generalize ((sha k).map cb).toArray=X at *
  generalize sha k=y at *
  have hn0:Hid (y.length=Nat.min y.length 64):=(Nat.min_eq_left hcl.out).symm
  have HKb:Hid (∀ V,Below w.heap.size w V→Ktab V):=fun V h=>hK.stays h hK.pos
  clear hkc hK
  have hw2:Hid (Below w.heap.size w ((w.alloc (.cells Z 146)).alloc (.cells Z 146))):=below_more (below_a1 w _) _ (Nat.le_refl _)
  have hR0:Hid (((w.alloc (.cells Z 146)).alloc (.cells Z 146)).heap[w.heap.size]? = some (.cells Z 146)):=heap_alloc2_old w _ _
  have hR1:Hid (((w.alloc (.cells Z 146)).alloc (.cells Z 146)).heap[w.heap.size + 1]? = some (.cells Z 146)):=heap_alloc2_new w _ _
  have hz2:Hid (((w.alloc (.cells Z 146)).alloc (.cells Z 146)).heap.size=w.heap.size + 2):=show _=_ by simp
  go_enter Tryz.func91,Tryz.ntmps91
  go_upto_region 2 with (first | (refine wpList_alloc_row rfl 146 rfl Z HZ ?_))
  generalize (w.alloc (.cells Z 146)).alloc (.cells Z 146)=w2 at *
  go_wp2_with (first | (go_at_call 67;refine (HS.out _ (HKb.out _ hw2.out)).mono ?_))
  rintro e w3 ⟨rfl,hb3⟩
  have hB3:Hid (Below w.heap.size w w3):=hw2.out.trans (hb3.mono hw2.out.size)
  have hR03:Hid (w3.heap[w.heap.size]? = some (.cells Z 146)):=(hb3.block _ (by have:=hz2.out;omega)).trans hR0.out
  have hR13:Hid (w3.heap[w.heap.size + 1]? = some (.cells Z 146)):=(hb3.block _ (by have:=hz2.out;omega)).trans hR1.out
  have hz3:Hid (w.heap.size + 2 ≤ w3.heap.size):=by show _ ≤ _;have h1:=hb3.size;have h2:=hz2.out;omega
  clear hb3 hw2 hR0 hR1 hz2 HS
  go_wp2_with (first | (go_at_call 35;refine (HB.out _).mono ?_))
  rintro e w4 ⟨rfl,hb4⟩
  have hB4:Hid (Below w.heap.size w w4):=hB3.out.trans (hb4.mono hB3.out.size)
  have hR04:Hid (w4.heap[w.heap.size]? = some (.cells Z 146)):=(hb4.block _ (by have:=hz3.out;omega)).trans hR03.out
  have hR14:Hid (w4.heap[w.heap.size + 1]? = some (.cells Z 146)):=(hb4.block _ (by have:=hz3.out;omega)).trans hR13.out
  clear hb4 hB3 hR03 hR13 hz3 HB
  have HCP:Hid (Z.toList.take 0++(y.take y.length).map cb++Z.toList.drop (0 + ((y.take y.length).map cb).length)=(kblk k).map cb):=by
   show _=_
   rw [copied y y.length rfl 64 hcl.out Z HZ0.out,HKK.out ()]
  have HCOPY:(Builtin.copy_ #[113,9] 3 #[.slice (some ⟨w.heap.size + 1,0,none⟩) 64 64,.string ⟨y.toArray⟩]).run Tryz.prog w4 = .ok (.int .i64 (y.length:Int)) (w4.setRow (w.heap.size + 1) ((kblk k).map cb).toArray):=by
   have h:=run_copy_string (P:=Tryz.prog) w4 113 9 3 5 (w.heap.size + 1) 0 64 64 ⟨y.toArray⟩ Z 146 y y.length rfl hn0.out Tryz.underlying113 size5 hR14.out (by rw [Nat.zero_add,hZs.out];exact hcl.out)
   rw [HCP.out] at h
   exact h
  go_upto_region 5 with fail
  clear HCOPY
  have hR15:Hid ((w4.setRow (w.heap.size + 1) ((kblk k).map cb).toArray).heap[w.heap.size + 1]? = some (.cells ((kblk k).map cb).toArray 146)):=setRow_heap _ _ _ _ _ _ hR14.out
  have hR05:Hid ((w4.setRow (w.heap.size + 1) ((kblk k).map cb).toArray).heap[w.heap.size]? = some (.cells Z 146)):=(setRow_other _ _ _ _ (by omega)).trans hR04.out
  have hB5:Hid (Below w.heap.size w (w4.setRow (w.heap.size + 1) ((kblk k).map cb).toArray)):=below_setRow hB4.out _ _ (by omega)
  have HF:Hid (0 + ((kblk k).map cb).length ≤ Z.size):=by show _ ≤ _;rw [List.length_map,hbl.out,hZs.out];omega
  have hSl:Hid (((kblk k).map cb).length=64):=by show _=_;rw [List.length_map,hbl.out]
  clear hR14 hR04 hB4 HCP hn0 HKK hbl HZ0
  generalize hS:(kblk k).map cb=S at *
  have HSe:=hid hS
  clear hS
  generalize w4.setRow (w.heap.size + 1) S.toArray=w5 at *
  have HC:Hid (∀ i v,S[i]? = some v→w5.cell? ⟨w.heap.size + 1,0 + i,none⟩=some v):=by
   intro i v hv
   rw [cell_of_row _ _ _ _ _ _ hR15.out]
   simpa using hv
  go_wp2_with (first | (refine wpList_load_seg rfl 146 _ rfl (w.heap.size + 1) 0 rfl S _ HC.out Tryz.underlying146 rfl HI.out ?_) | (refine wpList_store_seg rfl 146 _ _ rfl rfl w.heap.size 0 rfl S rfl Z 146 hR05.out HF.out H1.out HI.out ?_))
  have HRR:Hid ((List.take 0 Z.toList++S++List.drop (0 + S.length) Z.toList).toArray=S.toArray):=by
   have h64:Z.toList.length ≤ 0 + S.length:=by rw [Array.length_toList,hSl.out,hZs.out];omega
   show _=_
   rw [List.drop_eq_nil_of_le h64];simp
  refine bodyPost_ret_by (results_cell_row (fn:=Tryz.f91) (p:=2) (ty:=146) (by kernel_rfl) _ _ w.heap.size 146 S.toArray (0,0) _ rfl (by rw [HRR.out];exact setRow_heap _ _ _ _ _ _ hR05.out) Tryz.underlying146 rfl (by rw [List.size_toArray,hSl.out];exact size43)) rfl ?_
  exact ⟨by rw [HSe.out],below_setRow hB5.out _ _ (by omega)⟩
 ·have hkc:Hid (kcut k=k):=if_neg hlt
  rw [hkc.out] at hcl HKK
  have hlt':k.length ≤ 64:=by omega
  have hn0:Hid (k.length=Nat.min k.length 64):=(Nat.min_eq_left hcl.out).symm
  clear hkc hK hlt
  have hB4:Hid (Below w.heap.size w ((w.alloc (.cells Z 146)).alloc (.cells Z 146))):=below_more (below_a1 w _) _ (Nat.le_refl _)
  have hR04:Hid (((w.alloc (.cells Z 146)).alloc (.cells Z 146)).heap[w.heap.size]? = some (.cells Z 146)):=heap_alloc2_old w _ _
  have hR14:Hid (((w.alloc (.cells Z 146)).alloc (.cells Z 146)).heap[w.heap.size + 1]? = some (.cells Z 146)):=heap_alloc2_new w _ _
  go_enter Tryz.func91,Tryz.ntmps91
  go_upto_region 2 with (first | (refine wpList_alloc_row rfl 146 rfl Z HZ ?_))
  generalize (w.alloc (.cells Z 146)).alloc (.cells Z 146)=w4 at *
  have HCP:Hid (Z.toList.take 0++(k.take k.length).map cb++Z.toList.drop (0 + ((k.take k.length).map cb).length)=(kblk k).map cb):=by
   show _=_
   rw [copied k k.length rfl 64 hcl.out Z HZ0.out,HKK.out ()]
  have HCOPY:(Builtin.copy_ #[113,9] 3 #[.slice (some ⟨w.heap.size + 1,0,none⟩) 64 64,.string ⟨k.toArray⟩]).run Tryz.prog w4 = .ok (.int .i64 (k.length:Int)) (w4.setRow (w.heap.size + 1) ((kblk k).map cb).toArray):=by
   have h:=run_copy_string (P:=Tryz.prog) w4 113 9 3 5 (w.heap.size + 1) 0 64 64 ⟨k.toArray⟩ Z 146 k k.length rfl hn0.out Tryz.underlying113 size5 hR14.out (by rw [Nat.zero_add,hZs.out];exact hcl.out)
   rw [HCP.out] at h
   exact h
  go_upto_region 5 with fail
  clear HCOPY
  have hR15:Hid ((w4.setRow (w.heap.size + 1) ((kblk k).map cb).toArray).heap[w.heap.size + 1]? = some (.cells ((kblk k).map cb).toArray 146)):=setRow_heap _ _ _ _ _ _ hR14.out
  have hR05:Hid ((w4.setRow (w.heap.size + 1) ((kblk k).map cb).toArray).heap[w.heap.size]? = some (.cells Z 146)):=(setRow_other _ _ _ _ (by omega)).trans hR04.out
  have hB5:Hid (Below w.heap.size w (w4.setRow (w.heap.size + 1) ((kblk k).map cb).toArray)):=below_setRow hB4.out _ _ (by omega)
  have HF:Hid (0 + ((kblk k).map cb).length ≤ Z.size):=by show _ ≤ _;rw [List.length_map,hbl.out,hZs.out];omega
  have hSl:Hid (((kblk k).map cb).length=64):=by show _=_;rw [List.length_map,hbl.out]
  clear hR14 hR04 hB4 HCP hn0 HKK hbl HZ0
  generalize hS:(kblk k).map cb=S at *
  have HSe:=hid hS
  clear hS
  generalize w4.setRow (w.heap.size + 1) S.toArray=w5 at *
  have HC:Hid (∀ i v,S[i]? = some v→w5.cell? ⟨w.heap.size + 1,0 + i,none⟩=some v):=by
   intro i v hv
   rw [cell_of_row _ _ _ _ _ _ hR15.out]
   simpa using hv
  go_wp2_with (first | (refine wpList_load_seg rfl 146 _ rfl (w.heap.size + 1) 0 rfl S _ HC.out Tryz.underlying146 rfl HI.out ?_) | (refine wpList_store_seg rfl 146 _ _ rfl rfl w.heap.size 0 rfl S rfl Z 146 hR05.out HF.out H1.out HI.out ?_))
  have HRR:Hid ((List.take 0 Z.toList++S++List.drop (0 + S.length) Z.toList).toArray=S.toArray):=by
   have h64:Z.toList.length ≤ 0 + S.length:=by rw [Array.length_toList,hSl.out,hZs.out];omega
   show _=_
   rw [List.drop_eq_nil_of_le h64];simp
  refine bodyPost_ret_by (results_cell_row (fn:=Tryz.f91) (p:=2) (ty:=146) (by kernel_rfl) _ _ w.heap.size 146 S.toArray (0,0) _ rfl (by rw [HRR.out];exact setRow_heap _ _ _ _ _ _ hR05.out) Tryz.underlying146 rfl (by rw [List.size_toArray,hSl.out];exact size43)) rfl ?_
  exact ⟨by rw [HSe.out],below_setRow hB5.out _ _ (by omega)⟩
def turnTo (k:List UInt8) (x:UInt8) (i:Nat):List UInt8:=(k.take i).map (· ^^^ x)++k.drop i
theorem turnTo_len (k:List UInt8) (x:UInt8) (i:Nat):(turnTo k x i).length=k.length:=by unfold turnTo;rw [List.length_append,List.length_map,List.length_take,List.length_drop];omega
theorem turnTo_at (k:List UInt8) (x:UInt8) (i:Nat) (h:i < k.length):(turnTo k x i).getD i 0=k.getD i 0:=by
 unfold turnTo
 rw [List.getD_eq_getElem?_getD,List.getElem?_append_right (by rw [List.length_map,List.length_take];omega),List.length_map,List.length_take,List.getElem?_drop,List.getD_eq_getElem?_getD]
 congr 2;omega
theorem turnTo_step (k:List UInt8) (x:UInt8) (i:Nat) (h:i < k.length):(turnTo k x i).set i (k.getD i 0 ^^^ x)=turnTo k x (i + 1):=by
 unfold turnTo
 have e:k.drop i=k.getD i 0 :: k.drop (i + 1):=by
  rw [List.getD_eq_getElem?_getD,List.getElem?_eq_getElem h];exact List.drop_eq_getElem_cons h
 have hl:((k.take i).map (· ^^^ x)).length=i:=by rw [List.length_map,List.length_take];omega
 rw [e]
 conv=>lhs;arg 2;rw [← hl]
 rw [set_mid,List.take_add_one,List.getElem?_eq_getElem h,List.getD_eq_getElem?_getD,List.getElem?_eq_getElem h]
 simp only [Option.toList_some,List.map_append,List.map_cons,List.map_nil,List.append_assoc,List.cons_append,List.nil_append,Option.getD_some]
theorem turnTo_end (k:List UInt8) (x:UInt8):turnTo k x k.length=k.map (· ^^^ x):=by unfold turnTo;simp
theorem turned_any (k:List UInt8) (hk:k.length=64) (x:UInt8) (g:Nat) (w:World) (hg:w.heap[g]? = some (.cells (k.map cb).toArray 146)) :
  Calls Tryz.prog 92 #[.int .u8 (bv x),.pointer (some ⟨g,0,none⟩)] w fun e w'=>e = .returned (.string ⟨(k.map (· ^^^ x)).toArray⟩)∧Below w.heap.size w w':=by
 have HZ:=zero54
 have hZs:=hid zb64_size
 have HZ0:Hid (zb64=((List.replicate 64 0).map cb).toArray):=show zb64=_ from rfl
 generalize zb64=Z at *
 have H1:=hid (one_cb k)
 have HI:Hid ((Tryz.prog.info? 146).map (·.size)=some (k.map cb).length):=by show _=_;rw [List.length_map,hk];exact size43
 have HF:Hid ((k.map cb).length=Z.size):=by show _=_;rw [List.length_map,hk,hZs.out]
 have HC:Hid (∀ i v,(k.map cb)[i]? = some v→w.cell? ⟨g,0 + i,none⟩=some v):=by
  intro i v hv
  rw [cell_of_row _ _ _ _ _ _ hg]
  simpa using hv
 have HD0:Hid ((k.map cb).toArray=((turnTo k x 0).map cb).toArray):=by show _=_;simp [turnTo]
 generalize k.map cb=S at *
 have hkl:=hid hk
 clear hg hk
 have HW0:Hid (Below w.heap.size w (w.alloc (.cells S.toArray 146))):=below_a1 w _
 have HR0:Hid ((w.alloc (.cells S.toArray 146)).heap[w.heap.size]? = some (.cells S.toArray 146)):=top_row w _
 go_enter Tryz.func92,Tryz.ntmps92
 go_upto_region 2 with (first | (refine wpList_load_seg rfl 146 _ rfl g 0 rfl S _ HC.out Tryz.underlying146 rfl HI.out ?_) | (refine wpList_alloc_row rfl 146 rfl Z HZ ?_) | (refine wpList_store_top rfl 146 _ _ rfl rfl w.heap.size rfl S rfl Z 146 rfl HF.out H1.out HI.out ?_))
 generalize w.alloc (.cells S.toArray 146)=w0 at *
 go_wp2
 go_loopw [7] (fun i w'=>∃ (j:Nat) (D:Array Value),j ≤ 64∧i = .int .i64 j∧Hid (D=((turnTo k x j).map cb).toArray)∧Hid (w'.heap[w.heap.size]? = some (.cells D 146))∧Hid (Below w.heap.size w w')) (fun i _=>64 - (intOf i).toNat)
 case atStart=>exact ⟨0,_,by omega,rfl,HD0,HR0,HW0⟩
 case round =>
  clear HD0 HR0 HW0
  obtain ⟨j,D,hj,rfl,HD,HR,HB⟩:=hrel
  by_cases hlt:j < 64
  ·have hDj:D[j]? = some (.int .u8 (bv (k.getD j 0))):=by
    have h:=HD.out
    rw [h,List.getElem?_toArray,cb_at _ _ (by rw [turnTo_len,hkl.out];exact hlt),turnTo_at k x j (by rw [hkl.out];exact hlt)]
   have hc:wr.cell? ⟨w.heap.size,j,none⟩=some (.int .u8 (bv (k.getD j 0))):=by rw [cell_of_row _ _ _ _ _ _ HR.out];exact hDj
   have hf:wr.frozen? ⟨w.heap.size,j,none⟩=false:=frozen_of_row _ _ _ _ _ HR.out
   have HS:Hid (D.setIfInBounds j (.int .u8 (bv (k.getD j 0 ^^^ x)))=((turnTo k x (j + 1)).map cb).toArray):=by
    show _=_
    rw [cb_set _ D HD.out,turnTo_step k x j (by rw [hkl.out];exact hlt)]
   have hx:=bv_xor (k.getD j 0) x
   have hra:=bv_range (k.getD j 0)
   generalize k.getD j 0 ^^^ x=z at *
   generalize k.getD j 0=y at *
   clear hDj HD
   go_wp2
   go_roundw
   case rel=>exact ⟨j + 1,_,by omega,by go_num,HS,heap_setCell_same _ _ _ _ _ _ HR.out,below_setCell HB.out _ _ (by show w.heap.size ≤ w.heap.size;omega)⟩
   case measure=>simp [intOf];omega
  ·obtain rfl:j=64:=by omega
   have HT:Hid (D=((k.map (· ^^^ x)).map cb).toArray):=by
    have h:=turnTo_end k x
    rw [hkl.out] at h
    show _=_
    rw [← h];exact HD.out
   have HV:(convert 113 9 (.slice (some ⟨w.heap.size,0,none⟩) 64 64)).run Tryz.prog wr = .ok (.string ⟨(k.map (· ^^^ x)).toArray⟩) wr :=
    conv_row wr w.heap.size 64 (k.map (· ^^^ x)) 64 (by rw [List.length_map,hkl.out]) 146 (by rw [← HT.out];exact HR.out)
   generalize hT:k.map (· ^^^ x)=T at *
   have HTe:=hid hT
   clear HT HD hT
   go_wp2
   go_ret
   exact ⟨by rw [HTe.out];rfl,HB.out⟩
theorem turnedBy_any (k:List UInt8) (hk:k.length < 140737488355328) (w:World) (hK:Ktab w):Calls Tryz.prog 64 #[.string ⟨k.toArray⟩] w fun e w'=>∃ g,e = .returned (.func (.func 92) #[] #[.pointer (some ⟨g,0,none⟩)])∧w.heap.size ≤ g∧w'.heap[g]? = some (.cells ((kblk k).map cb).toArray 146)∧Below w.heap.size w w':=by
 have HZ:=zero54
 have hZs:=hid zb64_size
 generalize zb64=Z at *
 have H1:=hid (one_cb (kblk k))
 have HI:Hid ((Tryz.prog.info? 146).map (·.size)=some ((kblk k).map cb).length):=by show _=_;rw [List.length_map,kblk_len];exact size43
 have HF:Hid (((kblk k).map cb).length=Z.size):=by show _=_;rw [List.length_map,kblk_len,hZs.out]
 have HA:=hid (blockOf_any k hk w hK)
 generalize hS:(kblk k).map cb=S at *
 have HSe:=hid hS
 clear hS hK
 go_enter Tryz.func64,Tryz.ntmps64
 go_wp2_with (first | (go_at_call 91;refine Calls.mono HA.out ?_))
 rintro e w1 ⟨rfl,hb1⟩
 have HB1:=hid hb1
 have hs1:=hid hb1.size
 clear hb1 HA
 go_wp2_with (first | (refine wpList_alloc_row rfl 146 rfl Z HZ ?_) | (refine wpList_store_top rfl 146 _ _ rfl rfl w1.heap.size rfl S rfl Z 146 rfl HF.out H1.out HI.out ?_))
 go_ret
 exact ⟨w1.heap.size,rfl,hs1.out,top_row w1 _,below_more HB1.out _ (Nat.le_refl _)⟩
end Go.Proofs.YthkkjjlpahdagaaGreatDoor
