/- S18 -/
import Derived.Test.YtagmnmoaekbffaaGreatDoorS04
import Derived.Test.YtagmnmoaekbffaaGreatDoorS16
import Derived.Test.YtagmnmoaekbffaaGreatDoorS17
set_option maxHeartbeats 1000000
namespace Go.Proofs.YtagmnmoaekbffaaGreatDoor
open Go.Proofs.Tryz
open Go Go.RowKit
set_option maxRecDepth 100000
theorem i0Z (x p:Int) (h0:0 <= p) (h1:p < 8) (w:World) :
  Calls prog 106 #[.int .u64 x,.int .i64 p] w fun e w'=>e = .returned (.int .u8 (x / 2 ^ (8 * p.toNat) % 256))/\w' = w:=by
 have h:=o0z x p.toNat (by omega) w;rw [show (p.toNat:Int)=p by omega] at h;exact h
theorem n0B (n:Nat):bv (UInt8.ofNat n)=(n:Int) % 256:=by
 unfold bv;rw [UInt8.toNat_ofNat'];omega
theorem s0x (n i:Nat):((n:Int) / 2 ^ (8 * (7 - i)) % 256)=bv (q0k n i):=by
 unfold q0k;rw [n0B];simp
def made (z:Nat):Array Value:=(madeCells #[.int .u8 0] (z + 9)).setIfInBounds 0 (.int .u8 128)
theorem q0r (W:World) (base z:Nat) (hb:base <= W.heap.size) (hz:z < 64) :
  brow (W.alloc (.cells (made z) 5)) base (.slice (some ⟨W.heap.size,0,none⟩) (z + 1) (z + 9)) (128 :: List.replicate z 0):=by
 refine .inr ⟨W.heap.size,z + 9,made z,(0,0),by simp,hb,b0z W _,fun j _ h=>by simp at h,by simp,?_,?_,?_⟩
 ·simp [made,size_madeCells]
 ·unfold maxLen;omega
 ·have e:(madeCells #[.int .u8 0] (z + 9)).toList=List.replicate (z + 9) (.int .u8 0):=toList_madeCells_one _ _
  unfold made;rw [Array.toList_setIfInBounds,e,List.replicate_succ];simp [cb,bv]
theorem o0C (n:Nat) (hn:n < 1152921504606846976) (w:World) :
  Calls prog 105 #[.int .i64 n] w fun e w'=>e = .returned (.string ⟨(tail n).toArray⟩)/\Below w.heap.size w w':=by
 obtain ⟨i,hi,hz0,hz1,hz2⟩:=info_parts infoByte;obtain ⟨z,hz⟩:∃ z,z=(119 - n % 64) % 64:=⟨_,rfl⟩;have hz64:z < 64:=by omega
 have hzi:((119:Int) - (n:Int) % 64) % 64=(z:Int):=by omega
 have HT:Hid (tail n=(128 :: List.replicate z 0)++e0c (n * 8) 8):=by show _=_;unfold tail;rw [← hz];rfl
 have HM:Hid (∀ W:World,(Instr.makeSlice 63 (.int .i64 (1 + z)) (.int .i64 (1 + z + 8))).run prog W = .ok (.slice (some ⟨W.heap.size,0,none⟩) (z + 1) (z + 9)) (W.alloc (.cells (madeCells #[.int .u8 0] (z + 9)) 5))):=by
  intro W;have:=run_make (P:=prog) W 63 5 i (.int .u8 0) underlying63 hi hz0 .i64 .i64 (1 + z) (1 + z + 8) (by omega) (by omega) (by rw [hz2];omega) (by omega);rw [this,hz1];rw [show ((1:Int) + z).toNat=z + 1 by omega,show ((1:Int) + z + 8).toNat=z + 9 by omega];simp [Value.cells]
 obtain ⟨C,hC⟩:∃ C,C=madeCells #[.int .u8 0] (z + 9):=⟨_,rfl⟩;have hM:=HM.out;rw [← hC] at hM;have hCs:C.size=z + 9:=by rw [hC,size_madeCells]
 have hC0:C[0]? = some (.int .u8 0):=by
  rw [hC,← Array.getElem?_toList,toList_madeCells_one,List.replicate_succ];rfl
 have HR:Hid (brow (w.alloc (.cells (C.setIfInBounds 0 (.int .u8 128)) 5)) w.heap.size (.slice (some ⟨w.heap.size,0,none⟩) (z + 1) (z + 9)) ((128 :: List.replicate z 0)++e0c (n * 8) 0)):=by
  show brow _ _ _ _;rw [hC];rw [show e0c (n * 8) 0 = [] from rfl,List.append_nil];exact q0r w w.heap.size z (Nat.le_refl _) hz64
 clear hz hC HM hi hz0 hz1 hz2;go_enter func105,ntmps105;go_wp2;simp only [hzi];clear hM hzi;go_loopw [4,18] (fun v i w'=>∃ k:Nat,k <= 8/\i = .int .i64 k/\Hid (brow w' w.heap.size v ((128 :: List.replicate z 0)++e0c (n * 8) k))/\Hid (Below w.heap.size w w')) (fun _ i _=>8 - (intOf i).toNat)
 case atStart=>exact ⟨0,by omega,rfl,HR,a0c w _⟩
 case round =>
  obtain ⟨k,hk,rfl,HI,HB⟩:=hrel;clear HR;have hsz:=HB.out.size;by_cases hlt:k < 8
  ·have hby:∀ W,Calls prog 106 #[.int .u64 (n * 8),.int .i64 (7 - (k:Int))] W fun e w'=>e = .returned (.int .u8 (bv (q0k (n * 8) k)))/\w' = W:=by
    intro W;have h:=i0Z (n * 8) (7 - (k:Int)) (by omega) (by omega) W;rw [show ((7:Int) - k).toNat=7 - k by omega,show ((n:Int) * 8)=((n * 8:Nat):Int) by simp,s0x] at h;simpa using h
   have HY:Hid _:=hby
   clear hby
   generalize hcc:q0k (n * 8) k=c at *;have HS:Hid (e0c (n * 8) (k + 1)=e0c (n * 8) k++[c]):=by show _=_;rw [e0c,hcc]
   clear hcc;have hln:(e0c (n * 8) k).length=k:=i0V _ _
   go_wp2_with (first | (go_at_call 106;refine (HY.out _).mono ?_;rintro e w1 ⟨rfl,rfl⟩) | (at_builtin;refine g0l rfl _ _ rfl w.heap.size w.heap.size _ _ _ [c] rfl rfl (g0k HI.out (a0c _ _) (Nat.le_refl _)) (g0S _ _ c hsz) (Or.inr (by simp)) ?c1 ?c2 ?_))
   case c1=>simp;omega
   case c2=>simp;omega
   intro v' w3 hown hgr
   have HI3:Hid (brow w3 w.heap.size v' ((128 :: List.replicate z 0)++e0c (n * 8) (k + 1))):=by
    show brow _ _ _ _;rw [HS.out];simpa using hown
   have HB3:Hid (Below w.heap.size w w3):=(a0H HB.out _ (Nat.le_refl _)).grown hgr (by simp;omega) (j0G HI.out);clear hown hgr HI HB;go_wp2
   go_roundw
   case rel=>exact ⟨k + 1,by omega,by go_num,HI3,HB3⟩
   case measure=>simp [intOf];omega
  ·have e8:k=8:=by omega
   have HE:Hid (brow wr w.heap.size u4 (tail n)):=by have h:=HI.out;rw [e8] at h;show brow _ _ _ _;rw [HT.out];exact h
   have hcv:=h0w HE.out;go_wp2;go_ret;exact ⟨rfl,HB.out⟩
open Go Go.RowKit
set_option maxRecDepth 100000
def c0N:Array Value:=(objL ini (List.replicate 64 0) 0).toArray
theorem u0t (w:World):(Instr.build 167 #[(0,.agg #[.int .u32 1779033703,.int .u32 3144134277,.int .u32 1013904242,.int .u32 2773480762,.int .u32 1359893119,.int .u32 2600822924,.int .u32 528734635,.int .u32 1541459225])]).run prog w = .ok (.agg c0N) w:=by kernel_rfl
theorem q0s (w:World):Calls prog 87 #[] w fun e w'=>e = .returned (.pointer (some ⟨w.heap.size,0,none⟩))/\w' = w.alloc (.cells c0N 167):=by
 go_enter func87,ntmps87
 go_wp2_with (first | (refine wpList_build rfl 167 [(0,Operand.tmp 1)] rfl [(0,.agg #[.int .u32 1779033703,.int .u32 3144134277,.int .u32 1013904242,.int .u32 2773480762,.int .u32 1359893119,.int .u32 2600822924,.int .u32 528734635,.int .u32 1541459225])] rfl (.agg c0N) (u0t _) ?_))
 go_ret;exact ⟨rfl,rfl⟩
theorem q0t (w:World):Has (w.alloc (.cells c0N 167)) w.heap.size []:=⟨ini,List.replicate 64 0,u0s _ (by simp),b0z w _⟩
def z256:Array Value:=((List.replicate 8 0).map cw++((List.replicate 64 0).map cb++[Value.int .i64 0])).toArray
theorem zero45:(prog.info? 167).map (·.zero)=some (some (.agg z256)):=by kernel_rfl
theorem size45:(prog.info? 167).map (·.size)=some 73:=by kernel_rfl
theorem u0u (st:S8) (rest:List UInt8) (n:Nat):∀ v ∈ objL st rest n,v.oneCell' = true:=by
 intro v hv;unfold objL at hv;rcases List.mem_append.1 hv with h | h
 ·exact i0X _ v h
 ·rcases List.mem_append.1 h with h | h
  ·exact e0x _ v h
  ·simp at h;subst h;rfl
def f0Q (s:S8) (k:Nat):List UInt8:=o0y s k++List.replicate (32 - k) 0
theorem q0u (s:S8) (k:Nat) (h:k <= 32):(f0Q s k).length=32:=by unfold f0Q;rw [List.length_append,h0H,List.length_replicate];omega
theorem o0D (s:S8) (k:Nat) (h:k < 32):(f0Q s k).set k (m0B (s.list.getD (k / 4) 0) (k % 4))=f0Q s (k + 1):=by
 unfold f0Q;have e:List.replicate (32 - k) (0:UInt8)=0 :: List.replicate (32 - (k + 1)) 0:=by rw [← List.replicate_succ];congr 1;omega
 have hl:=h0H s k;rw [e]
 conv=>lhs;arg 2;rw [← hl]
 rw [set_mid,o0y];simp
theorem q0v (s:S8):f0Q s 32=dig s:=by simp [f0Q,dig]
theorem t0E (l:List UInt8) (C:Array Value) (h:C=(l.map cb).toArray) (i:Nat) (x:UInt8):C.setIfInBounds i (.int .u8 (bv x))=((l.set i x).map cb).toArray:=by
 subst h;simp [cb,List.map_set]
theorem s0y (x:W32) (j:Nat):wv x / 2 ^ (8 * (3 - j)) % 256=bv (m0B x j):=by
 unfold m0B wv;rw [n0B];simp
open Go Go.RowKit
set_option maxRecDepth 100000
theorem n0C (p:Nat) (m:List UInt8) (hm:m.length < 140737488355328) (w:World) (hH:Has w p m) (hK:Ktab w) :
  Calls prog 90 #[.pointer (some ⟨p,0,none⟩)] w fun e w'=>e = .returned (.agg ((sha m).map cb).toArray)/\Below w.heap.size w w':=by
 obtain ⟨st,rest,hi,hh⟩:=hH;have HZ:=zero25;have HZ45:=zero45;have hZs:Hid (zb32.size=32):=show zb32.size=32 from rfl
 have HZ0:Hid (zb32=((List.replicate 32 0).map cb).toArray):=show zb32=_ from rfl
 have hZ45s:Hid (z256.size=73):=show z256.size=73 by kernel_rfl
 generalize zb32=Z at *;generalize z256=Z45 at *;have hpl:p < w.heap.size:=(Array.getElem?_eq_some_iff.1 hh).1
 have HC:Hid (∀ j v,(objL st rest m.length)[j]? = some v->(w.alloc (.cells Z 38)).cell? ⟨p,0 + j,none⟩=some v):=by
  intro j v hv;rw [cell_of_row _ _ _ _ _ _ ((d0j w _ p hpl).trans hh)];simpa using hv
 have hlen:Hid ((objL st rest m.length).length=73):=j0T _ _ _ hi.1;have HI:Hid ((prog.info? 167).map (·.size)=some (objL st rest m.length).length):=by show _=_;rw [hlen.out];exact size45
 have HF:Hid ((objL st rest m.length).length=Z45.size):=by show _=_;rw [hlen.out,hZ45s.out]
 have HO:Hid (∀ v ∈ objL st rest m.length,v.oneCell' = true):=u0u _ _ _
 have hc72:w.cell? ⟨p,72,none⟩=some (.int .i64 m.length):=by
  rw [cell_of_row _ _ _ _ _ _ hh];simpa using h0K st rest m.length hi.1
 have HI0:Hid (Inv st rest m):=hi;have HK0:Hid (Ktab w):=hK;have Hend:Hid (∀ w,Calls prog 105 #[.int .i64 m.length] w fun e w'=>e = .returned (.string ⟨(tail m.length).toArray⟩)/\Below w.heap.size w w'):=fun w=>o0C m.length (by omega) w;have htl:Hid ((tail m.length).length <= 72):=by show _ <= _;rw [n0A];omega
 generalize hOL:objL st rest m.length=OL at *;generalize hml:m.length=n at *;clear hh hi hK;go_enter func90,ntmps90
 go_wp2_with (first | (refine a0t rfl 38 rfl Z HZ ?_) | (refine a0t rfl 167 rfl Z45 HZ45 ?_) | (refine a0W rfl 167 _ rfl p 0 rfl OL _ HC.out underlying167 rfl HI.out ?_) | (refine c0o rfl 167 _ _ rfl rfl _ rfl OL rfl Z45 167 rfl HF.out HO.out HI.out ?_) | (go_at_call 105;refine (Hend.out _).mono ?_))
 rintro e w1 ⟨rfl,hb1⟩;have hb2:Hid (Below w.heap.size w w1):=(a0H (a0c w _) _ (Nat.le_refl _)).trans (hb1.mono (by simp;omega));have hsz1:w.heap.size + 2 <= w1.heap.size:=by have:=hb1.size;simp at this;omega
 have hR1:Hid (w1.heap[w.heap.size]? = some (.cells Z 38)):=(hb1.block _ (by simp;omega)).trans (heap_alloc2_old w _ _);have hO1:Hid (w1.heap[w.heap.size + 1]? = some (.cells OL.toArray 167)):=(hb1.block _ (by simp)).trans (heap_alloc2_new w _ _);have hK1:Hid (Ktab w1):=HK0.out.stays hb2.out (HK0.out.pos);have hH1:Hid (Has w1 (w.heap.size + 1) m):=⟨st,rest,HI0.out,by rw [hml,hOL];exact hO1.out⟩;have hmt:m.length + (tail n).length < 281474976710656:=by have:=htl.out;omega
 clear hb1 HC HO HF HI hc72 Hend
 go_wp2_with fail
 refine (j0V (w.heap.size + 1) m (tail n) hmt w1 hH1.out hK1.out (by omega)).mono ?_;rintro e w2 ⟨rfl,hH2,hT2⟩;clear hH1 hK1;obtain ⟨st2,rest2,hi2,hh2⟩:=hH2;have hb3:Hid (Below w.heap.size w w2):=hb2.out.trans (hT2.below (by omega) (by omega));have hsz2:w1.heap.size <= w2.heap.size:=hT2.size;have hR2:Hid (w2.heap[w.heap.size]? = some (.cells Z 38)):=(hT2.block _ (by omega) (by omega)).trans hR1.out;have HSH:Hid (Unit->dig st2=sha m):=by intro _;rw [hi2.2.1];unfold sha;rw [hml]
 have hO2:Hid (w2.heap[w.heap.size + 1]? = some (.cells (objL st2 rest2 (m++tail n).length).toArray 167)):=hh2;clear hh2 hi2 hT2 hR1 hO1 hb2
 go_wp2_with (first | (refine a0t rfl 38 rfl Z HZ ?_))
 have HD0:Hid (Z=((f0Q st2 0).map cb).toArray):=HZ0.out;have hb4:Hid (Below w.heap.size w (w2.alloc (.cells Z 38))):=a0H hb3.out _ (Nat.le_refl _);have hR4:Hid ((w2.alloc (.cells Z 38)).heap[w.heap.size]? = some (.cells Z 38)):=(d0j w2 _ _ (by omega)).trans hR2.out;have hO4:Hid ((w2.alloc (.cells Z 38)).heap[w.heap.size + 1]? = some (.cells (objL st2 rest2 (m++tail n).length).toArray 167)):=(d0j w2 _ _ (by omega)).trans hO2.out
 have HOS:Hid (∀ j,j < 8->(objL st2 rest2 (m++tail n).length).toArray[j]? = some (.int .u32 (wv (st2.list.getD j 0)))):=by
  intro j hj;have:=i0Y st2 rest2 (m++tail n).length j _ (by rw [← List.getElem?_toArray];exact g0L st2.list _ rfl j hj);simpa using this
 generalize (objL st2 rest2 (m++tail n).length).toArray=OB at *;have HA:Hid (w.heap.size + 2 <= w2.heap.size):=show _ <= _ by omega
 clear hb3 hR2 hO2 hsz1 hsz2 hmt htl HZ HZ45 hpl;go_loopw [18] (fun i w'=>∃ (k:Nat) (D:Array Value),k <= 32/\i = .int .i64 k/\Hid (D=((f0Q st2 k).map cb).toArray)/\Hid (w'.heap[w2.heap.size]? = some (.cells D 38))/\Hid (w'.heap[w.heap.size + 1]? = some (.cells OB 167))/\Hid (w'.heap[w.heap.size]? = some (.cells Z 38))/\Hid (Below w.heap.size w w')) (fun i _=>32 - (intOf i).toNat)
 case atStart=>exact ⟨0,Z,by omega,rfl,HD0,b0z w2 _,hO4,hR4,hb4⟩
 case round =>
  clear HD0 hb4 hR4 hO4;obtain ⟨k,D,hk,rfl,HD,hD,hO,hR,hB⟩:=hrel;by_cases hlt:k < 32
  ·have hc1:wr.cell? ⟨w.heap.size + 1,k / 4,none⟩=some (.int .u32 (wv (st2.list.getD (k / 4) 0))):=by
    rw [cell_of_row _ _ _ _ _ _ hO.out];exact HOS.out _ (by omega)
   have hDk:D[k]? = some (.int .u8 (bv ((f0Q st2 k).getD k 0))):=by
    have h:=HD.out;rw [h];simpa using i0i (f0Q st2 k) k (by rw [q0u st2 k hk];exact hlt)
   have hc2:wr.cell? ⟨w2.heap.size,k,none⟩=some (.int .u8 (bv ((f0Q st2 k).getD k 0))):=by
    rw [cell_of_row _ _ _ _ _ _ hD.out];exact hDk
   have hf2:wr.frozen? ⟨w2.heap.size,k,none⟩=false:=frozen_of_row _ _ _ _ _ hD.out
   have HS:Hid (D.setIfInBounds k (.int .u8 (bv (m0B (st2.list.getD (k / 4) 0) (k % 4))))=((f0Q st2 (k + 1)).map cb).toArray):=by
    show _=_;rw [t0E _ D HD.out,o0D st2 k hlt]
   have HY:Hid (∀ W,Calls prog 106 #[.int .u64 (wv (st2.list.getD (k / 4) 0)),.int .i64 (3 - (k:Int) % 4)] W fun e w'=>e = .returned (.int .u8 (bv (m0B (st2.list.getD (k / 4) 0) (k % 4))))/\w' = W):=by
    intro W;have h:=i0Z (wv (st2.list.getD (k / 4) 0)) (3 - (k:Int) % 4) (by omega) (by omega) W;rw [show ((3:Int) - (k:Int) % 4).toNat=3 - k % 4 by omega,s0y] at h;exact h
   clear hm hml hOL;clear hDk HD;generalize st2.list.getD (k / 4) 0=x at *;generalize (f0Q st2 k).getD k 0=y at *;generalize m0B x (k % 4)=z at *;go_upto_region 9 with fail
   have hx0:=(n0z x).1;have hx1:=(n0z x).2
   go_wp2_with (first | (go_at_call 106;refine (HY.out _).mono ?_;rintro e w1 ⟨rfl,rfl⟩))
   go_roundw
   case rel=>exact ⟨k + 1,_,by omega,by go_num,HS,heap_setCell_same _ _ _ _ _ _ hD.out,(heap_setCell_other _ ⟨w2.heap.size,k,none⟩ (w.heap.size + 1) _ (by show w.heap.size + 1 ≠ w2.heap.size;have:=HA.out;omega)).trans hO.out,(heap_setCell_other _ ⟨w2.heap.size,k,none⟩ w.heap.size _ (by show w.heap.size ≠ w2.heap.size;have:=HA.out;omega)).trans hR.out,c0K hB.out _ _ (by show w.heap.size <= w2.heap.size;have:=HA.out;omega)⟩
   case measure=>simp [intOf];omega
  ·have e32:k=32:=by omega
   have HE:Hid (D=((sha m).map cb).toArray):=by
    have h1:=HD.out;show _=_;rw [h1,e32,q0v,HSH.out ()]
   have hDs:D.size=32:=by rw [HE.out];simp [sha,m0C]
   have HC:Hid (∀ i v,D.toList[i]? = some v->wr.cell? ⟨w2.heap.size,0 + i,none⟩=some v):=by
    intro i v hv;rw [cell_of_row _ _ _ _ _ _ hD.out];simpa using hv
   have HI8:Hid ((prog.info? 38).map (·.size)=some D.toList.length):=by show _=_;rw [Array.length_toList,hDs];exact size25
   have HF:Hid (0 + D.toList.length <= Z.size):=by show _ <= _;rw [Array.length_toList,hDs,hZs.out];omega
   have H1:Hid (∀ v ∈ D.toList,v.oneCell' = true):=by
    have h:=HE.out;show ∀ v ∈ D.toList,_;rw [h];simpa using e0x (sha m)
   clear HD e32
   go_wp2_with (first | (refine a0W rfl 38 _ rfl w2.heap.size 0 rfl D.toList _ HC.out underlying38 rfl HI8.out ?_) | (refine b0c rfl 38 _ _ rfl rfl w.heap.size 0 rfl D.toList rfl Z 38 hR.out HF.out H1.out HI8.out ?_))
   have HRR:Hid ((List.take 0 Z.toList++D.toList++List.drop (0 + D.toList.length) Z.toList).toArray=D):=by
    have h64:Z.toList.length <= 0 + D.toList.length:=by rw [Array.length_toList,Array.length_toList,hDs,hZs.out];omega
    show _=_;rw [List.drop_eq_nil_of_le h64];simp
   refine bodyPost_ret_by (results_cell_row (fn:=Tryz.f90) (p:=2) (ty:=38) (by kernel_rfl) _ _ w.heap.size 38 D (0,0) _ rfl (by rw [HRR.out];exact setRow_heap _ _ _ _ _ _ hR.out) underlying38 rfl (by rw [hDs];exact size25)) rfl ?_;refine ⟨by rw [HE.out],?_⟩;exact below_setRow hB.out _ _ (by omega)
theorem q0w (l:List UInt8) (hl:l.length < 140737488355328) (w:World) (hK:Ktab w) :
  Calls prog 89 #[.string ⟨l.toArray⟩] w fun e w'=>e = .returned (.agg ((sha l).map cb).toArray)/\Below w.heap.size w w':=by
 have HZ:=zero25;have hZs:Hid (zb32.size=32):=show zb32.size=32 from rfl
 have H1:Hid (∀ v ∈ (sha l).map cb,v.oneCell' = true):=e0x _;have hls:Hid (((sha l).map cb).length=32):=by show List.length _=_;rw [List.length_map];exact m0C _
 have HI:Hid ((prog.info? 38).map (·.size)=some ((sha l).map cb).length):=by show _=_;rw [hls.out];exact size25
 have HK:Hid (Ktab w):=hK;have HM:Hid (∀ (p:Nat) (w:World),Has w p l->Ktab w->Calls prog 90 #[.pointer (some ⟨p,0,none⟩)] w fun e w'=>e = .returned (.agg ((sha l).map cb).toArray)/\Below w.heap.size w w'):=fun p w h k=>n0C p l hl w h k;generalize (sha l).map cb=S at *;generalize zb32=Z at *;have HF:Hid (0 + S.length <= Z.size):=by show _ <= _;rw [hls.out,hZs.out];omega
 clear hK;go_enter func89,ntmps89
 go_wp2_with (first | (refine a0t rfl 38 rfl Z HZ ?_) | (go_at_call 87;refine (q0s _).mono ?_))
 rintro e w1 ⟨rfl,hw1⟩;subst w1;have hb1:Hid (Below w.heap.size w ((w.alloc (.cells Z 38)).alloc (.cells c0N 167))):=a0H (a0c w _) _ (Nat.le_refl _)
 have hH1:Hid (Has ((w.alloc (.cells Z 38)).alloc (.cells c0N 167)) (w.heap.size + 1) []):=by
  have h:=q0t (w.alloc (.cells Z 38));rw [show (w.alloc (.cells Z 38)).heap.size=w.heap.size + 1 by simp] at h;exact h
 have hR1:Hid (((w.alloc (.cells Z 38)).alloc (.cells c0N 167)).heap[w.heap.size]? = some (.cells Z 38)):=heap_alloc2_old w _ _;have hz1:Hid (((w.alloc (.cells Z 38)).alloc (.cells c0N 167)).heap.size=w.heap.size + 2):=show _=_ by simp
 generalize (w.alloc (.cells Z 38)).alloc (.cells c0N 167)=w1 at *
 go_wp2_with fail
 refine (j0V (w.heap.size + 1) [] l (by simp;omega) w1 hH1.out (HK.out.stays hb1.out HK.out.pos) (by omega)).mono ?_;rintro e w2 ⟨rfl,hH2,hT2⟩;have hb2:Hid (Below w.heap.size w w2):=hb1.out.trans (hT2.below (by omega) (by have:=hz1.out;omega));have hR2:Hid (w2.heap[w.heap.size]? = some (.cells Z 38)):=(hT2.block _ (by have:=hz1.out;omega) (by omega)).trans hR1.out;have hH3:Hid (Has w2 (w.heap.size + 1) l):=hH2;have hlt2:Hid (w.heap.size < w2.heap.size):=(Array.getElem?_eq_some_iff.1 hR2.out).1;clear hT2 hH2 hb1 hH1 hR1 hz1
 go_wp2_with fail
 refine (HM.out (w.heap.size + 1) w2 hH3.out (HK.out.stays hb2.out HK.out.pos)).mono ?_;rintro e w3 ⟨rfl,hb3⟩;have hb4:Hid (Below w.heap.size w w3):=hb2.out.trans (hb3.mono (by have:=hlt2.out;omega));have hR3:Hid (w3.heap[w.heap.size]? = some (.cells Z 38)):=(hb3.block _ hlt2.out).trans hR2.out;clear hb3
 go_wp2_with (first | (refine b0c rfl 38 _ _ rfl rfl w.heap.size 0 rfl S rfl Z 38 hR3.out HF.out H1.out HI.out ?_))
 have HRR:Hid ((List.take 0 Z.toList++S++List.drop (0 + S.length) Z.toList).toArray=S.toArray):=by
  have h64:Z.toList.length <= 0 + S.length:=by rw [Array.length_toList,hls.out,hZs.out];omega
  show _=_;rw [List.drop_eq_nil_of_le h64];simp
 refine bodyPost_ret_by (results_cell_row (fn:=Tryz.f89) (p:=2) (ty:=38) (by kernel_rfl) _ _ w.heap.size 38 S.toArray (0,0) _ rfl (by rw [HRR.out];exact setRow_heap _ _ _ _ _ _ hR3.out) underlying38 rfl (by rw [List.size_toArray,hls.out];exact size25)) rfl ?_;exact ⟨rfl,below_setRow hb4.out _ _ (by omega)⟩
end Go.Proofs.YtagmnmoaekbffaaGreatDoor
