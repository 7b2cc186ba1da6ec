/-
  What mac.Tag answers: the tag of the texts joined.
-/
import Derived.Test.YthkkjjlpahdagaaGreatDoorS20
import Derived.Test.YthkkjjlpahdagaaGreatDoorS15
import Derived.Test.YthkkjjlpahdagaaGreatDoorS06
import Derived.Lib.SmallJoins
import Derived.Lib.FrozenHead2
import Derived.Deep.QuietTactic
import Derived.BigQuiet
import Derived.Lib.QuietBelow
set_option maxHeartbeats 4000000
namespace Go.Proofs.YthkkjjlpahdagaaGreatDoor
open Go Go.RowKit
set_option maxRecDepth 100000
theorem Has.lt {w:World} {p:Nat} {m:List UInt8} (h:Has w p m):p < w.heap.size:=by
 obtain ⟨st,rest,hi,hh⟩:=h
 exact (Array.getElem?_eq_some_iff.1 hh).1
theorem Has.stays {w w':World} {p B:Nat} {m:List UInt8} (h:Has w p m) (hb:Below B w w') (hp:p < B):Has w' p m:=by
 obtain ⟨st,rest,hi,hh⟩:=h
 exact ⟨st,rest,hi,(hb.block p hp).trans hh⟩
theorem Has.kept {w w':World} {p:Nat} {m:List UInt8} (h:Has w p m) (hb:Below w.heap.size w w'):Has w' p m:=h.stays hb h.lt
theorem row_lt {w:World} {g:Nat} {o:Obj} (h:w.heap[g]? = some o):g < w.heap.size:=(Array.getElem?_eq_some_iff.1 h).1
theorem row_kept {w w':World} {g:Nat} {o:Obj} (h:w.heap[g]? = some o) (hb:Below w.heap.size w w'):w'.heap[g]? = some o:=(hb.block g (row_lt h)).trans h
theorem row_touch {w w':World} {g p:Nat} {o:Obj} (h:w.heap[g]? = some o) (ht:Touch p w w') (hne:g ≠ p):w'.heap[g]? = some o:=(ht.block g (row_lt h) hne).trans h
def TextsAt (w:World) (a:Option Addr) (len:Nat) (Xs:List ByteArray):Prop :=
 Xs.length=len∧∀ (j:Nat),j < len→∃ b off,a=some ⟨b,off,none⟩∧b < w.heap.size∧w.cell? ⟨b,off + j,none⟩=some (.string (Xs.getD j ByteArray.empty))
theorem TextsAt.stays {w w':World} {a:Option Addr} {len:Nat} {Xs:List ByteArray} (h:TextsAt w a len Xs) (hb:Below w.heap.size w w'):TextsAt w' a len Xs:=by
 refine ⟨h.1,fun j hj=>?_⟩
 obtain ⟨b,off,ha,hlt,hc⟩:=h.2 j hj
 exact ⟨b,off,ha,Nat.lt_of_lt_of_le hlt hb.size,(hb.cell (p:=⟨b,off + j,none⟩) hlt).trans hc⟩
def joinTo (Xs:List ByteArray) (i:Nat):List UInt8:=((Xs.take i).map (·.data.toList)).flatten
def joined (Xs:List ByteArray):List UInt8:=(Xs.map (·.data.toList)).flatten
theorem joinTo_zero (Xs:List ByteArray):joinTo Xs 0 = []:=rfl
theorem joinTo_all (Xs:List ByteArray):joinTo Xs Xs.length=joined Xs:=by unfold joinTo joined;rw [List.take_of_length_le (Nat.le_refl _)]
theorem joinTo_step (Xs:List ByteArray) (i:Nat) (h:i < Xs.length):joinTo Xs (i + 1)=joinTo Xs i++(Xs.getD i ByteArray.empty).data.toList:=by
 unfold joinTo
 rw [List.take_add_one,List.getD_eq_getElem?_getD,List.getElem?_eq_getElem h]
 simp only [Option.toList_some,List.map_append,List.map_cons,List.map_nil,List.flatten_append,List.flatten_cons,List.flatten_nil,List.append_nil,Option.getD_some]
theorem joinTo_le (Xs:List ByteArray) (i:Nat):(joinTo Xs i).length ≤ (joined Xs).length:=by
 have h:joined Xs=joinTo Xs i++((Xs.drop i).map (·.data.toList)).flatten:=by
  unfold joinTo joined
  rw [← List.flatten_append,← List.map_append,List.take_append_drop]
 rw [h,List.length_append];omega
structure Mid (w0 W:World) (g p:Nat) (Z B:Array Value) (m:List UInt8):Prop where
 sum:Has W p m
 ans:W.heap[w0.heap.size]? = some (.cells Z 23)
 blk:W.heap[g]? = some (.cells B 146)
 low:Below w0.heap.size w0 W
theorem Mid.stays {w0 W W':World} {g p:Nat} {Z B:Array Value} {m:List UInt8} (h:Mid w0 W g p Z B m) (hb:Below W.heap.size W W'):Mid w0 W' g p Z B m :=
 ⟨h.sum.kept hb,row_kept h.ans hb,row_kept h.blk hb,h.low.trans (hb.mono h.low.size)⟩
theorem Mid.turn {w0 W W':World} {g p:Nat} {Z B:Array Value} {m m':List UInt8} (h:Mid w0 W g p Z B m) (hp:w0.heap.size < p) (hg:g < p) (hh:Has W' p m') (ht:Touch p W W'):Mid w0 W' g p Z B m' :=
 ⟨hh,row_touch h.ans ht (by omega),row_touch h.blk ht (by omega),h.low.trans (ht.below (by omega) h.low.size)⟩
theorem tag_any (k:List UInt8) (hk:k.length < 140737488355328) (a:Option Addr) (len cap:Nat) (Xs:List ByteArray) (w:World) (hK:Ktab w) (hX:TextsAt w a len Xs) (hJ:(joined Xs).length ≤ 140737488355100) (hl9:len ≤ 1000000) :
  Calls Tryz.prog 36 #[.string ⟨k.toArray⟩,.slice a len cap] w fun e w'=>e = .returned (.agg ((hmac k (joined Xs)).map cb).toArray)∧Below w.heap.size w w':=by
 have HZ:=zero25
 have hZs:Hid (zb32.size=32):=show zb32.size=32 from rfl
 have hP54:=hid (padB_len k 54)
 have hP92:=padB_len k 92
 have HT54:=hid (fun g W h=>turned_any (kblk k) (kblk_len k) 54 g W h)
 have HT92:=hid (fun g W h=>turned_any (kblk k) (kblk_len k) 92 g W h)
 have HM:Hid (∀ p W,Has W p (padB k 54++joined Xs)→Ktab W→Calls Tryz.prog 68 #[.pointer (some ⟨p,0,none⟩)] W fun e w'=>e = .returned (.agg ((sha (padB k 54++joined Xs)).map cb).toArray)∧Below W.heap.size W w') :=
  fun p W h kk=>sumM_any p _ (by rw [List.length_append,hP54.out];omega) W h kk
 have HBY:=hid (fun W=>bytes_any (sha (padB k 54++joined Xs)) (sha_len _) W)
 have hI32:=sha_len (padB k 54++joined Xs)
 have HSU:Hid (∀ W,Ktab W→Calls Tryz.prog 67 #[.string ⟨(padB k 92++sha (padB k 54++joined Xs)).toArray⟩] W fun e w'=>e = .returned (.agg ((hmac k (joined Xs)).map cb).toArray)∧Below W.heap.size W w') :=
  fun W kk=>sum_any _ (by rw [List.length_append,hP92,hI32];omega) W kk
 have H1:=hid (one_cb (hmac k (joined Xs)))
 have hSl:Hid (((hmac k (joined Xs)).map cb).length=32):=by show List.length _=_;rw [List.length_map];exact hmac_len _ _
 have HI:Hid ((Tryz.prog.info? 23).map (·.size)=some ((hmac k (joined Xs)).map cb).length):=by show _=_;rw [hSl.out];exact size25
 have HTB:=hid (fun W kk=>turnedBy_any k hk W kk)
 have HKb:Hid (∀ V,Below w.heap.size w V→Ktab V):=fun V h=>hK.stays h hK.pos
 have hX0:=hid hX
 have hlen:=hid hX.1
 have hJ0:=hid hJ
 have hJe:Hid (Unit→padB k 54++joinTo Xs len=padB k 54++joined Xs):=fun _=>by rw [← hX.1,joinTo_all]
 clear hK hX hJ hk
 have HT54':Hid (∀ g W,W.heap[g]? = some (.cells ((kblk k).map cb).toArray 146)→Calls Tryz.prog 92 #[.int .u8 54,.pointer (some ⟨g,0,none⟩)] W fun e w'=>e = .returned (.string ⟨(padB k 54).toArray⟩)∧Below W.heap.size W w'):=fun g W h=>HT54.out g W h
 have HT92':Hid (∀ g W,W.heap[g]? = some (.cells ((kblk k).map cb).toArray 146)→Calls Tryz.prog 92 #[.int .u8 92,.pointer (some ⟨g,0,none⟩)] W fun e w'=>e = .returned (.string ⟨(padB k 92).toArray⟩)∧Below W.heap.size W w'):=fun g W h=>HT92.out g W h
 clear HT54 HT92
 generalize hS:(hmac k (joined Xs)).map cb=S at *
 have HSe:=hid hS
 clear hS
 generalize ((sha (padB k 54++joined Xs)).map cb).toArray=X at *
 generalize sha (padB k 54++joined Xs)=I at *
 generalize padB k 54=P at *
 generalize padB k 92=Q at *
 generalize ((kblk k).map cb).toArray=B at *
 generalize zb32=Z at *
 have hsQ:(⟨Q.toArray⟩:ByteArray).size=64:=hP92
 have hsI:(⟨I.toArray⟩:ByteArray).size=32:=hI32
 have happ:(⟨Q.toArray⟩:ByteArray)++(⟨I.toArray⟩:ByteArray)=⟨(Q++I).toArray⟩:=ByteArray.mk_append_mk Q I
 have HF:Hid (0 + S.length ≤ Z.size):=by show _ ≤ _;rw [hSl.out,hZs.out];omega
 clear hP92 hI32
 have hb0:Hid (Below w.heap.size w (w.alloc (.cells Z 23))):=below_a1 w _
 have hr0:Hid ((w.alloc (.cells Z 23)).heap[w.heap.size]? = some (.cells Z 23)):=top_row w _
 have hz0:Hid ((w.alloc (.cells Z 23)).heap.size=w.heap.size + 1):=show _=_ by simp
 go_enter Tryz.func36,Tryz.ntmps36
 go_upto_region 1 with (first | (refine wpList_alloc_row rfl 23 rfl Z HZ ?_))
 generalize w.alloc (.cells Z 23)=w1 at *
 go_wp2_with (first | (go_at_call 64;refine (HTB.out w1 (HKb.out _ hb0.out)).mono ?_))
 rintro e w2 ⟨g,rfl,hg,hblk,hb2⟩
 have hB2:Hid (Below w.heap.size w w2):=hb0.out.trans (hb2.mono hb0.out.size)
 have hR2:Hid (w2.heap[w.heap.size]? = some (.cells Z 23)):=row_kept hr0.out hb2
 have hblk2:=hid hblk
 have hg1:w.heap.size + 1 ≤ g:=by have:=hz0.out;omega
 clear hb2 hblk hb0 hr0 hz0 hg HTB
 go_wp2_with (first | (go_at_call 65;refine (new_any _).mono ?_))
 rintro e w3 ⟨rfl,hw3⟩
 have hM3:Hid (Mid w w3 g w2.heap.size Z B []):=by
  show Mid _ _ _ _ _ _ _
  rw [hw3]
  exact ⟨new_has w2,row_kept hR2.out (below_a1 _ _),row_kept hblk2.out (below_a1 _ _),below_more hB2.out _ (Nat.le_refl _)⟩
 have hgp:g < w2.heap.size:=row_lt hblk2.out
 have hwp:w.heap.size < w2.heap.size:=by omega
 generalize w2.heap.size=p at *
 clear hw3 hB2 hR2 hblk2
 go_wp2_with (first | (go_at_call 92;refine (HT54'.out g _ hM3.out.blk).mono ?_))
 rintro e w4 ⟨rfl,hb4⟩
 have hM4:=hid (hM3.out.stays hb4)
 clear hb4 hM3
 go_wp2_with fail
 refine (add_any p [] P (by rw [hP54.out];simp) w4 hM4.out.sum (HKb.out _ hM4.out.low) (by omega)).mono ?_
 rintro e w5 ⟨rfl,hh5,ht5⟩
 have hM5:Hid (Mid w w5 g p Z B (P++joinTo Xs 0)):=by
  have h:=hM4.out.turn hwp hgp hh5 ht5
  rw [List.nil_append] at h
  rw [joinTo_zero,List.append_nil]
  exact h
 clear hh5 ht5 hM4 HT54'
 go_wp2
 go_loopw [18] (fun i w'=>∃ j:Nat,j ≤ len∧i = .int .i64 j∧Hid (Mid w w' g p Z B (P++joinTo Xs j))) (fun i _=>len - (intOf i).toNat)
 case atStart=>exact ⟨0,by omega,rfl,hM5⟩
 case round =>
  clear hM5
  obtain ⟨j,hj,rfl,hM⟩:=hrel
  by_cases hlt:j < len
  ·obtain ⟨b,off,ha,hbl,hc⟩:=(hX0.out.stays hM.out.low).2 j hlt
   subst ha
   obtain ⟨l,hl⟩:∃ l,l=(Xs.getD j ByteArray.empty).data.toList:=⟨_,rfl⟩
   have hsl:Xs.getD j ByteArray.empty=⟨l.toArray⟩:=by rw [hl,Array.toArray_toList]
   rw [hsl] at hc
   have hst:Hid (Unit→P++joinTo Xs (j + 1)=(P++joinTo Xs j)++l):=fun _=>by rw [joinTo_step Xs j (by rw [hlen.out];exact hlt),hl,List.append_assoc]
   have hle:Hid ((P++joinTo Xs j).length + l.length < 281474976710656):=by
    have h1:=joinTo_le Xs (j + 1)
    have h2:=congrArg List.length (hst.out ())
    have h3:=hJ0.out
    have h4:=hP54.out
    rw [List.length_append,List.length_append] at h2
    show _ < _
    omega
   have HADD:=hid (add_any p (P++joinTo Xs j) l hle.out wr hM.out.sum (HKb.out _ hM.out.low) (by omega))
   clear hl hsl
   go_wp2_with (first | (go_at_call 66;refine Calls.mono HADD.out ?_))
   rintro e w6 ⟨rfl,hh6,ht6⟩
   have hM6:Hid (Mid w w6 g p Z B (P++joinTo Xs (j + 1))):=by
    have h:=hM.out.turn hwp hgp hh6 ht6
    show Mid _ _ _ _ _ _ _
    rw [hst.out ()]
    exact h
   clear hh6 ht6 HADD hM
   go_wp2
   go_roundw
   case rel=>exact ⟨j + 1,by omega,by go_num,hM6⟩
   case measure=>simp [intOf];omega
  ·obtain rfl:j=len:=by omega
   have hMe:Hid (Mid w wr g p Z B (P++joined Xs)):=by show Mid _ _ _ _ _ _ _;rw [← hJe.out ()];exact hM.out
   clear hM hlt
   go_wp2_with (first | (go_at_call 92;refine (HT92'.out g _ hMe.out.blk).mono ?_))
   rintro e w6 ⟨rfl,hb6⟩
   have hM6:=hid (hMe.out.stays hb6)
   clear hb6 hMe
   go_wp2_with (first | (go_at_call 68;refine (HM.out p _ hM6.out.sum (HKb.out _ hM6.out.low)).mono ?_))
   rintro e w7 ⟨rfl,hb7⟩
   have hM7:=hid (hM6.out.stays hb7)
   clear hb7 hM6
   go_wp2_with (first | (go_at_call 35;refine (HBY.out _).mono ?_))
   rintro e w8 ⟨rfl,hb8⟩
   have hM8:=hid (hM7.out.stays hb8)
   clear hb8 hM7
   go_wp2_with (first | (go_at_call 67;refine (HSU.out _ (HKb.out _ hM8.out.low)).mono ?_))
   rintro e w9 ⟨rfl,hb9⟩
   have hM9:=hid (hM8.out.stays hb9)
   have hR9:=hid hM9.out.ans
   clear hb9 hM8
   go_wp2_with (first | (refine wpList_store_seg rfl 23 _ _ rfl rfl w.heap.size 0 rfl S rfl Z 23 hR9.out HF.out H1.out HI.out ?_))
   have HRR:Hid ((List.take 0 Z.toList++S++List.drop (0 + S.length) Z.toList).toArray=S.toArray):=by
    have h64:Z.toList.length ≤ 0 + S.length:=by rw [Array.length_toList,hSl.out,hZs.out];omega
    show _=_
    rw [List.drop_eq_nil_of_le h64];simp
   refine bodyPost_ret_by (results_cell_row (fn:=Tryz.f36) (p:=4) (ty:=23) (by kernel_rfl) _ _ w.heap.size 23 S.toArray (0,0) _ rfl (by rw [HRR.out];exact setRow_heap _ _ _ _ _ _ hR9.out) Tryz.underlying23 rfl (by rw [List.size_toArray,hSl.out];exact size25)) rfl ?_
   exact ⟨rfl,below_setRow hM9.out.low _ _ (by omega)⟩
open Go Go.RowKit
set_option maxRecDepth 100000
theorem kblk_at (k:List UInt8) (j:Nat) (h:j < (kcut k).length):(kblk k).getD j 0=(kcut k).getD j 0:=by
 unfold kblk
 rw [List.getD_eq_getElem?_getD,List.getElem?_append_left h,List.getD_eq_getElem?_getD]
theorem kblk_zero (k:List UInt8) (j:Nat) (h:(kcut k).length ≤ j):(kblk k).getD j 0=0:=by
 unfold kblk
 rw [List.getD_eq_getElem?_getD,List.getElem?_append_right h]
 by_cases hh:j - (kcut k).length < 64 - (kcut k).length
 ·rw [List.getElem?_replicate_of_lt hh];rfl
 ·rw [List.getElem?_eq_none (by rw [List.length_replicate];omega)];rfl
theorem take_map_step (b:List UInt8) (x:UInt8) (j:Nat) (h:j < b.length):(b.take j).map (· ^^^ x)++[b.getD j 0 ^^^ x]=(b.take (j + 1)).map (· ^^^ x):=by
 rw [List.take_add_one,List.getD_eq_getElem?_getD,List.getElem?_eq_getElem h]
 simp only [Option.toList_some,List.map_append,List.map_cons,List.map_nil,Option.getD_some]
theorem zero_xor8 (x:UInt8):(0:UInt8) ^^^ x=x:=by simp
theorem pad_any (k:List UInt8) (hk:k.length ≤ 140737488355228) (x:UInt8) (w:World):Calls Tryz.prog 121 #[.string ⟨k.toArray⟩,.int .u8 (bv x)] w fun e w'=>e = .returned (.string ⟨(padB k x).toArray⟩)∧Below w.heap.size w w':=by
 have hs0:(⟨k.toArray⟩:ByteArray).size=k.length:=rfl
 have hcl:=hid (kcut_len k)
 have hbl:=hid (kblk_len k)
 have HA:=hid (kblk_at k)
 have HZ:=hid (kblk_zero k)
 have HE:Hid (Unit→padB k x=((kblk k).take 64).map (· ^^^ x)):=fun _=>by rw [List.take_of_length_le (by rw [hbl.out];omega)];rfl
 generalize padB k x=PB at *
 by_cases hlt:64 < k.length
 ·have hkc:Hid (kcut k=sha k):=if_pos hlt
  have HS:=hid (fun W=>rsum_any k hk W)
  have HB:=hid (fun W=>rbytes_any (sha k) (sha_len k) W)
  rw [hkc.out] at hcl HA HZ
  generalize ((sha k).map cb).toArray=X at *
  generalize kblk k=b at *
  generalize sha k=y at *
  clear hkc
  go_enter Tryz.func121,Tryz.ntmps121
  go_wp2_with (first | (go_at_call 120;refine (HS.out _).mono ?_))
  rintro e w1 ⟨rfl,hb1⟩
  have HB1:=hid hb1
  clear hb1 HS
  go_wp2_with (first | (go_at_call 119;refine (HB.out _).mono ?_))
  rintro e w2 ⟨rfl,hb2⟩
  have HB2:Hid (Below w.heap.size w w2):=HB1.out.trans (hb2.mono HB1.out.size)
  clear hb2 HB HB1 hs0
  have hsy:(⟨y.toArray⟩:ByteArray).size=y.length:=rfl
  have hy64:=hcl.out
  have HE0:Hid (brow w2 w2.heap.size (.slice none 0 0) ((b.take 0).map (· ^^^ x))):=Or.inl ⟨rfl,rfl⟩
  go_wp2
  go_loopw [5,6] (fun v i w'=>∃ j:Nat,j ≤ 64∧i = .int .i64 j∧Hid (brow w' w2.heap.size v ((b.take j).map (· ^^^ x)))∧Hid (Below w2.heap.size w2 w')) (fun _ i _=>64 - (intOf i).toNat)
  case atStart=>exact ⟨0,by omega,rfl,HE0,Below.refl _ _⟩
  case round =>
   clear HE0
   obtain ⟨j,hj,rfl,HR,HBr⟩:=hrel
   have hsz:w2.heap.size ≤ wr.heap.size:=HBr.out.size
   by_cases hlt2:j < 64
   ·have HST:=hid (take_map_step b x j (by rw [hbl.out];exact hlt2))
    have HL:Hid (((b.take j).map (· ^^^ x)).length=j):=by show _=_;rw [List.length_map,List.length_take,hbl.out];omega
    generalize (b.take j).map (· ^^^ x)=L at *
    by_cases hin:j < y.length
    ·have hby:=hid (HA.out j hin)
     have hq:((⟨y.toArray⟩:ByteArray)[j]'(by show j < y.length;exact hin)).toNat=(y.getD j 0).toNat:=by
      rw [List.getD_eq_getElem?_getD,List.getElem?_eq_getElem hin];rfl
     have hx:bits .xor .u8 ((y.getD j 0).toNat:Int) (bv x)=bv (y.getD j 0 ^^^ x):=bv_xor (y.getD j 0) x
     rw [hby.out] at HST
     generalize y.getD j 0 ^^^ x=z at *
     generalize y.getD j 0=c at *
     go_wp2_with (first | (at_builtin;refine wpList_app rfl _ _ rfl w2.heap.size w2.heap.size _ _ L [z] rfl rfl (brow_below HR.out (below_a1 _ _) (Nat.le_refl _)) (brow_lit _ _ z _ rfl hsz) (Or.inr (by simp)) ?c1 ?c2 ?_))
     case c1=>rw [HL.out];simp;omega
     case c2=>simp;omega
     intro v3 w3 hr3 hg3
     have HB3:Hid (Below w2.heap.size w2 w3):=(HBr.out.alloc hsz _).grown hg3 (by simp;omega) (brow_own HR.out)
     rw [HST.out] at hr3
     have HR3:=hid hr3
     clear hr3 hg3 HR HBr HST
     go_wp2
     go_roundw
     case rel=>exact ⟨j + 1,by omega,by go_num,HR3,HB3⟩
     case measure=>simp [intOf];omega
    ·have hby:=hid (HZ.out j (by omega))
     have hx:bits .xor .u8 0 (bv x)=bv x:=by have h:=bv_xor 0 x;rw [zero_xor8] at h;exact h
     rw [hby.out,zero_xor8] at HST
     go_wp2_with (first | (at_builtin;refine wpList_app rfl _ _ rfl w2.heap.size w2.heap.size _ _ L [x] rfl rfl (brow_below HR.out (below_a1 _ _) (Nat.le_refl _)) (brow_lit _ _ x _ rfl hsz) (Or.inr (by simp)) ?c1 ?c2 ?_))
     case c1=>rw [HL.out];simp;omega
     case c2=>simp;omega
     intro v3 w3 hr3 hg3
     have HB3:Hid (Below w2.heap.size w2 w3):=(HBr.out.alloc hsz _).grown hg3 (by simp;omega) (brow_own HR.out)
     rw [HST.out] at hr3
     have HR3:=hid hr3
     clear hr3 hg3 HR HBr HST
     go_wp2
     go_roundw
     case rel=>exact ⟨j + 1,by omega,by go_num,HR3,HB3⟩
     case measure=>simp [intOf];omega
   ·obtain rfl:j=64:=by omega
    have HV:(convert 113 9 u5).run Tryz.prog wr = .ok (.string ⟨PB.toArray⟩) wr:=by
     have h:=conv_brow HR.out
     rw [← HE.out ()] at h
     exact h
    have HBe:Hid (Below w.heap.size w wr):=HB2.out.trans (HBr.out.mono HB2.out.size)
    clear HR HBr
    go_wp2
    go_ret
    exact ⟨rfl,HBe.out⟩
 ·have hkc:Hid (kcut k=k):=if_neg hlt
  rw [hkc.out] at hcl HA HZ
  generalize kblk k=b at *
  have HB2:Hid (Below w.heap.size w w):=Below.refl _ _
  have hk64:k.length ≤ 64:=hcl.out
  clear hkc hlt
  go_enter Tryz.func121,Tryz.ntmps121
  go_upto_region 3 with fail
  have hy64:=hcl.out
  have HE0:Hid (brow w w.heap.size (.slice none 0 0) ((b.take 0).map (· ^^^ x))):=Or.inl ⟨rfl,rfl⟩
  go_wp2
  go_loopw [5,6] (fun v i w'=>∃ j:Nat,j ≤ 64∧i = .int .i64 j∧Hid (brow w' w.heap.size v ((b.take j).map (· ^^^ x)))∧Hid (Below w.heap.size w w')) (fun _ i _=>64 - (intOf i).toNat)
  case atStart=>exact ⟨0,by omega,rfl,HE0,Below.refl _ _⟩
  case round =>
   clear HE0
   obtain ⟨j,hj,rfl,HR,HBr⟩:=hrel
   have hsz:w.heap.size ≤ wr.heap.size:=HBr.out.size
   by_cases hlt2:j < 64
   ·have HST:=hid (take_map_step b x j (by rw [hbl.out];exact hlt2))
    have HL:Hid (((b.take j).map (· ^^^ x)).length=j):=by show _=_;rw [List.length_map,List.length_take,hbl.out];omega
    generalize (b.take j).map (· ^^^ x)=L at *
    by_cases hin:j < k.length
    ·have hby:=hid (HA.out j hin)
     have hq:((⟨k.toArray⟩:ByteArray)[j]'(by show j < k.length;exact hin)).toNat=(k.getD j 0).toNat:=by
      rw [List.getD_eq_getElem?_getD,List.getElem?_eq_getElem hin];rfl
     have hx:bits .xor .u8 ((k.getD j 0).toNat:Int) (bv x)=bv (k.getD j 0 ^^^ x):=bv_xor (k.getD j 0) x
     rw [hby.out] at HST
     generalize k.getD j 0 ^^^ x=z at *
     generalize k.getD j 0=c at *
     go_wp2_with (first | (at_builtin;refine wpList_app rfl _ _ rfl w.heap.size w.heap.size _ _ L [z] rfl rfl (brow_below HR.out (below_a1 _ _) (Nat.le_refl _)) (brow_lit _ _ z _ rfl hsz) (Or.inr (by simp)) ?c1 ?c2 ?_))
     case c1=>rw [HL.out];simp;omega
     case c2=>simp;omega
     intro v3 w3 hr3 hg3
     have HB3:Hid (Below w.heap.size w w3):=(HBr.out.alloc hsz _).grown hg3 (by simp;omega) (brow_own HR.out)
     rw [HST.out] at hr3
     have HR3:=hid hr3
     clear hr3 hg3 HR HBr HST
     go_wp2
     go_roundw
     case rel=>exact ⟨j + 1,by omega,by go_num,HR3,HB3⟩
     case measure=>simp [intOf];omega
    ·have hby:=hid (HZ.out j (by omega))
     have hx:bits .xor .u8 0 (bv x)=bv x:=by have h:=bv_xor 0 x;rw [zero_xor8] at h;exact h
     rw [hby.out,zero_xor8] at HST
     go_wp2_with (first | (at_builtin;refine wpList_app rfl _ _ rfl w.heap.size w.heap.size _ _ L [x] rfl rfl (brow_below HR.out (below_a1 _ _) (Nat.le_refl _)) (brow_lit _ _ x _ rfl hsz) (Or.inr (by simp)) ?c1 ?c2 ?_))
     case c1=>rw [HL.out];simp;omega
     case c2=>simp;omega
     intro v3 w3 hr3 hg3
     have HB3:Hid (Below w.heap.size w w3):=(HBr.out.alloc hsz _).grown hg3 (by simp;omega) (brow_own HR.out)
     rw [HST.out] at hr3
     have HR3:=hid hr3
     clear hr3 hg3 HR HBr HST
     go_wp2
     go_roundw
     case rel=>exact ⟨j + 1,by omega,by go_num,HR3,HB3⟩
     case measure=>simp [intOf];omega
   ·obtain rfl:j=64:=by omega
    have HV:(convert 113 9 u5).run Tryz.prog wr = .ok (.string ⟨PB.toArray⟩) wr:=by
     have h:=conv_brow HR.out
     rw [← HE.out ()] at h
     exact h
    have HBe:Hid (Below w.heap.size w wr):=HB2.out.trans (HBr.out.mono HB2.out.size)
    clear HR HBr
    go_wp2
    go_ret
    exact ⟨rfl,HBe.out⟩
open Go Go.RowKit
set_option maxRecDepth 100000
theorem rtag_any (k:List UInt8) (hk:k.length ≤ 140737488355228) (t:List UInt8) (ht:t.length ≤ 140737488355100) (w:World) :
  Calls Tryz.prog 103 #[.string ⟨k.toArray⟩,.string ⟨t.toArray⟩] w fun e w'=>e = .returned (.agg ((hmac k t).map cb).toArray)∧Below w.heap.size w w':=by
 have HZ:=zero25
 have hZs:Hid (zb32.size=32):=show zb32.size=32 from rfl
 have hP54:=padB_len k 54
 have hP92:=padB_len k 92
 have HP54:Hid (∀ W,Calls Tryz.prog 121 #[.string ⟨k.toArray⟩,.int .u8 54] W fun e w'=>e = .returned (.string ⟨(padB k 54).toArray⟩)∧Below W.heap.size W w'):=fun W=>pad_any k hk 54 W
 have HP92:Hid (∀ W,Calls Tryz.prog 121 #[.string ⟨k.toArray⟩,.int .u8 92] W fun e w'=>e = .returned (.string ⟨(padB k 92).toArray⟩)∧Below W.heap.size W w'):=fun W=>pad_any k hk 92 W
 have HR1:Hid (∀ W,Calls Tryz.prog 120 #[.string ⟨(padB k 54++t).toArray⟩] W fun e w'=>e = .returned (.agg ((sha (padB k 54++t)).map cb).toArray)∧Below W.heap.size W w'):=fun W=>rsum_any _ (by rw [List.length_append,hP54];omega) W
 have hI32:=sha_len (padB k 54++t)
 have HBY:=hid (fun W=>rbytes_any (sha (padB k 54++t)) (sha_len _) W)
 have HR2:Hid (∀ W,Calls Tryz.prog 120 #[.string ⟨(padB k 92++sha (padB k 54++t)).toArray⟩] W fun e w'=>e = .returned (.agg ((hmac k t).map cb).toArray)∧Below W.heap.size W w'):=fun W=>rsum_any _ (by rw [List.length_append,hP92,hI32];omega) W
 have H1:=hid (one_cb (hmac k t))
 have hSl:Hid (((hmac k t).map cb).length=32):=by show List.length _=_;rw [List.length_map];exact hmac_len _ _
 have HI:Hid ((Tryz.prog.info? 23).map (·.size)=some ((hmac k t).map cb).length):=by show _=_;rw [hSl.out];exact size25
 generalize hS:(hmac k t).map cb=S at *
 clear hS hk
 generalize ((sha (padB k 54++t)).map cb).toArray=X at *
 generalize sha (padB k 54++t)=I at *
 generalize padB k 54=P at *
 generalize padB k 92=Q at *
 generalize zb32=Z at *
 have hsP:(⟨P.toArray⟩:ByteArray).size=64:=hP54
 have hsQ:(⟨Q.toArray⟩:ByteArray).size=64:=hP92
 have hsI:(⟨I.toArray⟩:ByteArray).size=32:=hI32
 have hst:(⟨t.toArray⟩:ByteArray).size=t.length:=rfl
 have hbt:(t.length:Int) ≤ 140737488355100:=by omega
 have happ1:(⟨P.toArray⟩:ByteArray)++(⟨t.toArray⟩:ByteArray)=⟨(P++t).toArray⟩:=ByteArray.mk_append_mk P t
 have happ2:(⟨Q.toArray⟩:ByteArray)++(⟨I.toArray⟩:ByteArray)=⟨(Q++I).toArray⟩:=ByteArray.mk_append_mk Q I
 have HF:Hid (0 + S.length ≤ Z.size):=by show _ ≤ _;rw [hSl.out,hZs.out];omega
 clear hP92 hI32 hP54
 have hb0:Hid (Below w.heap.size w (w.alloc (.cells Z 23))):=below_a1 w _
 have hr0:Hid ((w.alloc (.cells Z 23)).heap[w.heap.size]? = some (.cells Z 23)):=top_row w _
 go_enter Tryz.func103,Tryz.ntmps103
 go_upto_region 1 with (first | (refine wpList_alloc_row rfl 23 rfl Z HZ ?_))
 generalize w.alloc (.cells Z 23)=w1 at *
 go_wp2_with (first | (go_at_call 121;refine (HP54.out _).mono ?_))
 rintro e w2 ⟨rfl,hb2⟩
 have hB2:Hid (Below w.heap.size w w2):=hb0.out.trans (hb2.mono hb0.out.size)
 have hR2:=hid (row_kept hr0.out hb2)
 clear hb2 hb0 hr0
 go_wp2_with (first | (go_at_call 120;refine (HR1.out _).mono ?_))
 rintro e w3 ⟨rfl,hb3⟩
 have hB3:Hid (Below w.heap.size w w3):=hB2.out.trans (hb3.mono hB2.out.size)
 have hR3:=hid (row_kept hR2.out hb3)
 clear hb3 hB2 hR2
 go_wp2_with (first | (go_at_call 119;refine (HBY.out _).mono ?_))
 rintro e w4 ⟨rfl,hb4⟩
 have hB4:Hid (Below w.heap.size w w4):=hB3.out.trans (hb4.mono hB3.out.size)
 have hR4:=hid (row_kept hR3.out hb4)
 clear hb4 hB3 hR3
 go_wp2_with (first | (go_at_call 121;refine (HP92.out _).mono ?_))
 rintro e w5 ⟨rfl,hb5⟩
 have hB5:Hid (Below w.heap.size w w5):=hB4.out.trans (hb5.mono hB4.out.size)
 have hR5:=hid (row_kept hR4.out hb5)
 clear hb5 hB4 hR4
 go_wp2_with (first | (go_at_call 120;refine (HR2.out _).mono ?_))
 rintro e w6 ⟨rfl,hb6⟩
 have hB6:Hid (Below w.heap.size w w6):=hB5.out.trans (hb6.mono hB5.out.size)
 have hR6:=hid (row_kept hR5.out hb6)
 clear hb6 hB5 hR5
 go_wp2_with (first | (refine wpList_store_seg rfl 23 _ _ rfl rfl w.heap.size 0 rfl S rfl Z 23 hR6.out HF.out H1.out HI.out ?_))
 have HRR:Hid ((List.take 0 Z.toList++S++List.drop (0 + S.length) Z.toList).toArray=S.toArray):=by
  have h64:Z.toList.length ≤ 0 + S.length:=by rw [Array.length_toList,hSl.out,hZs.out];omega
  show _=_
  rw [List.drop_eq_nil_of_le h64];simp
 refine bodyPost_ret_by (results_cell_row (fn:=Tryz.f103) (p:=4) (ty:=23) (by kernel_rfl) _ _ w.heap.size 23 S.toArray (0,0) _ rfl (by rw [HRR.out];exact setRow_heap _ _ _ _ _ _ hR6.out) Tryz.underlying23 rfl (by rw [List.size_toArray,hSl.out];exact size25)) rfl ?_
 exact ⟨rfl,below_setRow hB6.out _ _ (by omega)⟩
theorem texts_two (W:World) (A B:List UInt8):TextsAt (W.alloc (.cells #[.string ⟨A.toArray⟩,.string ⟨B.toArray⟩] 9)) (some ⟨W.heap.size,0,none⟩) 2 [⟨A.toArray⟩,⟨B.toArray⟩]:=by
 refine ⟨rfl,fun j hj=>⟨W.heap.size,0,rfl,by simp,?_⟩⟩
 rw [cell_of_row _ _ _ _ _ _ (top_row W _)]
 rcases j with _ | _ | j
 ·rfl
 ·rfl
 ·omega
theorem joined_two (A B:List UInt8):joined [⟨A.toArray⟩,⟨B.toArray⟩]=A++B:=by simp [joined]
def makeB (k l:List UInt8) (n:Int):List UInt8:=hmac k (Lay.textB l++(Lib.itoa n++[59]))
theorem makeB_len (k l:List UInt8) (n:Int):(makeB k l n).length=32:=hmac_len _ _
theorem make_ok (k:List UInt8) (hk:k.length ≤ 140737488355228) (l:List UInt8) (hl:l.length ≤ 16384) (n:Int) (h0:-9223372036854775808 ≤ n) (h1:n ≤ 9223372036854775807) (w:World) (hK:Ktab w) (hT:Lay.Tabs w) :
  Calls Tryz.prog 11 #[.string ⟨k.toArray⟩,.string ⟨l.toArray⟩,.int .i64 n] w fun e w'=>e = .returned (.string ⟨(makeB k l n).toArray⟩)∧Below w.heap.size w w':=by
 have HT:Hid (Calls Tryz.prog 34 #[.string ⟨l.toArray⟩] w fun e w'=>e = .returned (.tuple #[.string ⟨(Lay.textB l).toArray⟩,.int .i64 0])∧Below w.heap.size w w'):=by
  have h:=Lay.text_ok ⟨l.toArray⟩ hl w hT
  exact h
 have HN:=hid (fun W h=>Lay.number_any n h0 h1 W h)
 have htl:=hid (Lay.textB_len l hl)
 have hnl:Hid ((Lib.itoa n++[59]).length ≤ 22):=by show _ ≤ _;rw [List.length_append];have:=Lay.itoa_len n h0 h1;simp;omega
 have HKb:Hid (∀ V,Below w.heap.size w V→Ktab V):=fun V h=>hK.stays h hK.pos
 have HTb:Hid (∀ V,Below w.heap.size w V→Lay.Tabs V):=fun V h=>hT.stays h
 have HTG:Hid (∀ W,Ktab W→Calls Tryz.prog 36 #[.string ⟨k.toArray⟩,.slice (some ⟨W.heap.size,0,none⟩) 2 2] (W.alloc (.cells #[.string ⟨(Lay.textB l).toArray⟩,.string ⟨(Lib.itoa n++[59]).toArray⟩] 9)) fun e w'=>e = .returned (.agg ((makeB k l n).map cb).toArray)∧Below (W.alloc (.cells #[.string ⟨(Lay.textB l).toArray⟩,.string ⟨(Lib.itoa n++[59]).toArray⟩] 9)).heap.size (W.alloc (.cells #[.string ⟨(Lay.textB l).toArray⟩,.string ⟨(Lib.itoa n++[59]).toArray⟩] 9)) w'):=by
  intro W kk
  have h:=tag_any k (by omega) (some ⟨W.heap.size,0,none⟩) 2 2 _ _ (kk.stays (below_a1 W _) kk.pos) (texts_two W (Lay.textB l) (Lib.itoa n++[59])) (by rw [joined_two,List.length_append];have:=htl.out;have:=hnl.out;omega) (by omega)
  rw [joined_two] at h
  exact h
 have HBY:=hid (fun W=>bytes_any (makeB k l n) (makeB_len k l n) W)
 generalize ((makeB k l n).map cb).toArray=X at *
 generalize makeB k l n=M at *
 generalize Lay.textB l=A at *
 generalize Lib.itoa n++[59]=B at *
 clear hK hT htl hnl hl hk
 go_enter Tryz.func11,Tryz.ntmps11
 go_wp2_with (first | (go_at_call 34;refine Calls.mono HT.out ?_))
 rintro e w1 ⟨rfl,hb1⟩
 have hB1:=hid hb1
 clear hb1 HT
 go_wp2_with (first | (go_at_call 37;refine (HN.out _ (HTb.out _ hB1.out)).mono ?_))
 rintro e w2 ⟨rfl,hb2⟩
 have hB2:Hid (Below w.heap.size w w2):=hB1.out.trans (hb2.mono hB1.out.size)
 clear hb2 hB1
 go_wp2_with (first | (go_at_call 36;refine (HTG.out w2 (HKb.out _ hB2.out)).mono ?_))
 rintro e w3 ⟨rfl,hb3⟩
 have hB3:Hid (Below w.heap.size w w3):=(below_more hB2.out _ (Nat.le_refl _)).trans (hb3.mono (below_more hB2.out _ (Nat.le_refl _)).size)
 clear hb3 hB2
 go_wp2_with (first | (go_at_call 35;refine (HBY.out _).mono ?_))
 rintro e w4 ⟨rfl,hb4⟩
 have hB4:Hid (Below w.heap.size w w4):=hB3.out.trans (hb4.mono hB3.out.size)
 clear hb4 hB3
 go_wp2
 go_ret
 exact ⟨rfl,hB4.out⟩
theorem rmake_ok (k:List UInt8) (hk:k.length ≤ 140737488355228) (l:List UInt8) (hl:l.length ≤ 16384) (n:Int) (h0:-9223372036854775808 ≤ n) (h1:n ≤ 9223372036854775807) (w:World) :
  Calls Tryz.prog 104 #[.string ⟨k.toArray⟩,.string ⟨l.toArray⟩,.int .i64 n] w fun e w'=>e = .returned (.string ⟨(makeB k l n).toArray⟩)∧Below w.heap.size w w':=by
 have HT:Hid (Calls Tryz.prog 122 #[.string ⟨l.toArray⟩] w fun e w'=>e = .returned (.tuple #[.string ⟨(Lay.textB l).toArray⟩,.int .i64 0])∧Below w.heap.size w w'):=Lay.refText_ok ⟨l.toArray⟩ hl w
 have HN:=hid (fun W=>Lay.refNumber_any n h0 h1 W)
 have htl:=hid (Lay.textB_len l hl)
 have hnl:Hid ((Lib.itoa n++[59]).length ≤ 22):=by show _ ≤ _;rw [List.length_append];have:=Lay.itoa_len n h0 h1;simp;omega
 have HTG:Hid (∀ W,Calls Tryz.prog 103 #[.string ⟨k.toArray⟩,.string ⟨(Lay.textB l++(Lib.itoa n++[59])).toArray⟩] W fun e w'=>e = .returned (.agg ((makeB k l n).map cb).toArray)∧Below W.heap.size W w'):=fun W =>
  rtag_any k hk _ (by rw [List.length_append];have:=htl.out;have:=hnl.out;omega) W
 have HBY:=hid (fun W=>rbytes_any (makeB k l n) (makeB_len k l n) W)
 generalize ((makeB k l n).map cb).toArray=X at *
 generalize makeB k l n=M at *
 generalize Lay.textB l=A at *
 generalize Lib.itoa n++[59]=B at *
 have hsA:(⟨A.toArray⟩:ByteArray).size=A.length:=rfl
 have hsB:(⟨B.toArray⟩:ByteArray).size=B.length:=rfl
 have hbA:(A.length:Int) ≤ 16410:=by have:=htl.out;omega
 have hbB:(B.length:Int) ≤ 22:=by have:=hnl.out;omega
 have happ:(⟨A.toArray⟩:ByteArray)++(⟨B.toArray⟩:ByteArray)=⟨(A++B).toArray⟩:=ByteArray.mk_append_mk A B
 clear htl hnl hl hk
 go_enter Tryz.func104,Tryz.ntmps104
 go_wp2_with (first | (go_at_call 122;refine Calls.mono HT.out ?_))
 rintro e w1 ⟨rfl,hb1⟩
 have hB1:=hid hb1
 clear hb1 HT
 go_wp2_with (first | (go_at_call 52;refine (HN.out _).mono ?_))
 rintro e w2 ⟨rfl,hb2⟩
 have hB2:Hid (Below w.heap.size w w2):=hB1.out.trans (hb2.mono hB1.out.size)
 clear hb2 hB1
 go_wp2_with (first | (go_at_call 103;refine (HTG.out w2).mono ?_))
 rintro e w3 ⟨rfl,hb3⟩
 have hB3:Hid (Below w.heap.size w w3):=hB2.out.trans (hb3.mono hB2.out.size)
 clear hb3 hB2
 go_wp2_with (first | (go_at_call 119;refine (HBY.out _).mono ?_))
 rintro e w4 ⟨rfl,hb4⟩
 have hB4:Hid (Below w.heap.size w w4):=hB3.out.trans (hb4.mono hB3.out.size)
 clear hb4 hB3
 go_wp2
 go_ret
 exact ⟨rfl,hB4.out⟩
open Go Go.RowKit Go.Joins
set_option maxRecDepth 100000
theorem equal25 (x y:List UInt8) (hx:x.length=32) (hy:y.length=32) (w:World):(Op.equalIn 10000 23 (.agg (x.map cb).toArray) (.agg (y.map cb).toArray)).run Tryz.prog w = .ok (decide (x=y)) w :=
 run_equal_bytes (P:=Tryz.prog) w 23 5 32 .u8 Tryz.underlying23 Tryz.underlying5 size5 x y hx hy
theorem tag_two (k A B:List UInt8) (hk:k.length ≤ 140737488355100) (hA:A.length ≤ 70000000000000) (hB:B.length ≤ 70000000000000) (W:World) (kk:Ktab W) :
  Calls Tryz.prog 36 #[.string ⟨k.toArray⟩,.slice (some ⟨W.heap.size,0,none⟩) 2 2] (W.alloc (.cells #[.string ⟨A.toArray⟩,.string ⟨B.toArray⟩] 9)) fun e w'=>e = .returned (.agg ((hmac k (A++B)).map cb).toArray)∧Below W.heap.size W w':=by
 have h:=tag_any k (by omega) (some ⟨W.heap.size,0,none⟩) 2 2 _ _ (kk.stays (below_a1 W _) kk.pos) (texts_two W A B) (by rw [joined_two,List.length_append];omega) (by omega)
 rw [joined_two] at h
 refine h.mono ?_
 rintro e w' ⟨rfl,hb⟩
 exact ⟨rfl,(below_a1 W _).trans (hb.mono (by simp))⟩
theorem infoStr:(Tryz.prog.info? 9).map (fun i=>(i.zero,i.size,i.bytes))=some (some (.string ⟨#[]⟩),1,16):=by kernel_rfl
theorem ownsF_below {w w':World} {B e s n:Nat} {v:Value} {xs:List Value} (h:w.ownsRowF B e s v n xs) (hb:Below w.heap.size w w'):w'.ownsRowF B e s v n xs:=by
 refine ⟨h.1,?_⟩
 rcases h.2 with hn | ⟨g,cap,cur,fz,rfl,hB,hg,rest⟩
 ·exact .inl hn
 ·exact .inr ⟨g,cap,cur,fz,rfl,hB,by rw [hb.block g (Array.getElem?_eq_some_iff.1 hg).1];exact hg,rest⟩
theorem wpQuiet_load_seg {P:Program} {ops:Array Oper} {C:World→Prop} {Q:Act→Prop} {a:Act} {o:Oper} {rest:List Oper} (hw:Region.wanted o (yielded ops a.tmps)=true) (ty:TypeId) (x:Operand) (ho:o.op = .load ty x)
  (g:Nat) (hx:a.eval x = .pointer (some ⟨g,0,none⟩)) (cs:List Value) (d:TypeDesc) (hc:∀ w,C w→∀ j v,cs[j]? = some v→w.cell? ⟨g,0 + j,none⟩=some v)
  (hu:P.underlying ty=some d) (hd:(match d with | .struct _ | .array _ _=>true | _=>false)=true) (hi:(P.info? ty).map (·.size)=some cs.length)
  (h:wpQuiet P ops C Q rest (a.put o.dst (.agg cs.toArray))):wpQuiet P ops C Q (o :: rest) a:=by
 unfold wpQuiet
 rw [if_pos hw]
 refine ⟨.agg cs.toArray,fun w hC=>?_,h⟩
 have hl:(loadCells ⟨g,0,none⟩ cs.length).run P w = .ok cs.toArray w :=
  run_loadCells_list (P:=P) w ⟨g,0,none⟩ cs (fun j v hv=>by rw [add_none];exact hc w hC j v hv)
 cases hq:P.info? ty with
 | none=>simp [hq] at hi
 | some i =>
  have hs:i.size=cs.length:=by simpa [hq] using hi
  have hagg:(isAgg ty).run P w = .ok true w:=by
   unfold isAgg
   rw [Sem.run_bind,run_underlying hu w]
   cases d <;> simp_all
  unfold Oper.quietAt execOp
  simp [ho,hx,Instr.loadAt,Instr.sureAddr,Sem.run_bind,loadVar,hagg,sizeOf,typeInfo,hq,hs,hl,Oper.quietUpon]
theorem cells_regrown (W:World) (g:Nat) (cs:List Value) (t:TypeId) (h:W.heap[g]? = some (.cells cs.toArray t)):∀ w',(∃ p:Regrown,w' = Sort.grow (redrawn W p.d) p.os)→∀ j v,cs[j]? = some v→w'.cell? ⟨g,0 + j,none⟩=some v:=by
 rintro w' ⟨p,rfl⟩ j v hv
 refine cell_regrown ?_ _ _
 rw [cell_of_row _ _ _ _ _ _ h]
 simpa using hv
open Go Go.RowKit
set_option maxRecDepth 100000
theorem wpQuiet_eql {P:Program} {ops:Array Oper} {C:World→Prop} {Q:Act→Prop} {a:Act} {o:Oper} {rest:List Oper} (hw:Region.wanted o (yielded ops a.tmps)=true) (ty rt:TypeId) (x y:Operand) (ho:o.op = .binOp .eql ty x y rt)
  (X Y:Array Value) (hx:a.eval x = .agg X) (hy:a.eval y = .agg Y) (hgt:P.eqGuardType P.depth ty=false) (B:Bool) (he:∀ w,(Op.equalIn 10000 ty (.agg X) (.agg Y)).run P w = .ok B w)
  (h:wpQuiet P ops C Q rest (a.put o.dst (.bool B))):wpQuiet P ops C Q (o :: rest) a:=by
 unfold wpQuiet
 rw [if_pos hw]
 refine ⟨.bool B,fun w hC=>?_,h⟩
 have hq:∀ w,(Op.equal ty (.agg X) (.agg Y)).run P w = .ok B w:=he
 unfold Oper.quietAt execOp
 simp [ho,hx,hy,eqGuard,binOp,Sem.run_bind,hgt,hq,Oper.quietUpon]
theorem guard34:Tryz.prog.eqGuardType Tryz.prog.depth 23=false:=by kernel_rfl
end Go.Proofs.YthkkjjlpahdagaaGreatDoor
