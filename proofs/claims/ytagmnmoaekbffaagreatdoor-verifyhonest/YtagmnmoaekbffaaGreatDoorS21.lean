/- S21 -/
import Derived.Test.YtagmnmoaekbffaaGreatDoorS20
import Derived.Test.YtagmnmoaekbffaaGreatDoorS15
import Derived.Test.YtagmnmoaekbffaaGreatDoorS06
import Derived.Lib.SmallJoins
import Derived.Lib.FrozenHead2
import Derived.Deep.QuietTactic
import Derived.BigQuiet
import Derived.Lib.QuietBelow
set_option maxHeartbeats 4000000
namespace Go.Proofs.YtagmnmoaekbffaaGreatDoor
open Go.Proofs.Tryz
open Go Go.RowKit
set_option maxRecDepth 100000
theorem Has.lt {w:World} {p:Nat} {m:List UInt8} (h:Has w p m):p < w.heap.size:=by
 obtain ⟨st,rest,hi,hh⟩:=h;exact (Array.getElem?_eq_some_iff.1 hh).1
theorem Has.stays {w w':World} {p B:Nat} {m:List UInt8} (h:Has w p m) (hb:Below B w w') (hp:p < B):Has w' p m:=by
 obtain ⟨st,rest,hi,hh⟩:=h;exact ⟨st,rest,hi,(hb.block p hp).trans hh⟩
theorem Has.kept {w w':World} {p:Nat} {m:List UInt8} (h:Has w p m) (hb:Below w.heap.size w w'):Has w' p m:=h.stays hb h.lt
theorem e0y {w:World} {g:Nat} {o:Obj} (h:w.heap[g]? = some o):g < w.heap.size:=(Array.getElem?_eq_some_iff.1 h).1
theorem a0a {w w':World} {g:Nat} {o:Obj} (h:w.heap[g]? = some o) (hb:Below w.heap.size w w'):w'.heap[g]? = some o:=(hb.block g (e0y h)).trans h
theorem a0x {w w':World} {g p:Nat} {o:Obj} (h:w.heap[g]? = some o) (ht:Touch p w w') (hne:g ≠ p):w'.heap[g]? = some o:=(ht.block g (e0y h) hne).trans h
def h0M (w:World) (a:Option Addr) (len:Nat) (Xs:List ByteArray):Prop :=
 Xs.length=len/\∀ (j:Nat),j < len->∃ b off,a=some ⟨b,off,none⟩/\b < w.heap.size/\w.cell? ⟨b,off + j,none⟩=some (.string (Xs.getD j ByteArray.empty))
theorem h0M.stays {w w':World} {a:Option Addr} {len:Nat} {Xs:List ByteArray} (h:h0M w a len Xs) (hb:Below w.heap.size w w'):h0M w' a len Xs:=by
 refine ⟨h.1,fun j hj=>?_⟩;obtain ⟨b,off,ha,hlt,hc⟩:=h.2 j hj;exact ⟨b,off,ha,Nat.lt_of_lt_of_le hlt hb.size,(hb.cell (p:=⟨b,off + j,none⟩) hlt).trans hc⟩
def d0k (Xs:List ByteArray) (i:Nat):List UInt8:=((Xs.take i).map (·.data.toList)).flatten
def joined (Xs:List ByteArray):List UInt8:=(Xs.map (·.data.toList)).flatten
theorem m0I (Xs:List ByteArray):d0k Xs 0 = []:=rfl
theorem o0G (Xs:List ByteArray):d0k Xs Xs.length=joined Xs:=by unfold d0k joined;rw [List.take_of_length_le (Nat.le_refl _)]
theorem m0J (Xs:List ByteArray) (i:Nat) (h:i < Xs.length):d0k Xs (i + 1)=d0k Xs i++(Xs.getD i ByteArray.empty).data.toList:=by
 unfold d0k;rw [List.take_add_one,List.getD_eq_getElem?_getD,List.getElem?_eq_getElem h];simp only [Option.toList_some,List.map_append,List.map_cons,List.map_nil,List.flatten_append,List.flatten_cons,List.flatten_nil,List.append_nil,Option.getD_some]
theorem q0y (Xs:List ByteArray) (i:Nat):(d0k Xs i).length <= (joined Xs).length:=by
 have h:joined Xs=d0k Xs i++((Xs.drop i).map (·.data.toList)).flatten:=by
  unfold d0k joined;rw [← List.flatten_append,← List.map_append,List.take_append_drop]
 rw [h,List.length_append];omega
structure Mid (w0 W:World) (g p:Nat) (Z B:Array Value) (m:List UInt8):Prop where
 sum:Has W p m
 ans:W.heap[w0.heap.size]? = some (.cells Z 38)
 blk:W.heap[g]? = some (.cells B 163)
 low:Below w0.heap.size w0 W
theorem Mid.stays {w0 W W':World} {g p:Nat} {Z B:Array Value} {m:List UInt8} (h:Mid w0 W g p Z B m) (hb:Below W.heap.size W W'):Mid w0 W' g p Z B m :=
 ⟨h.sum.kept hb,a0a h.ans hb,a0a h.blk hb,h.low.trans (hb.mono h.low.size)⟩
theorem Mid.turn {w0 W W':World} {g p:Nat} {Z B:Array Value} {m m':List UInt8} (h:Mid w0 W g p Z B m) (hp:w0.heap.size < p) (hg:g < p) (hh:Has W' p m') (ht:Touch p W W'):Mid w0 W' g p Z B m' :=
 ⟨hh,a0x h.ans ht (by omega),a0x h.blk ht (by omega),h.low.trans (ht.below (by omega) h.low.size)⟩
theorem q0A (k:List UInt8) (hk:k.length < 140737488355328) (a:Option Addr) (len cap:Nat) (Xs:List ByteArray) (w:World) (hK:Ktab w) (hX:h0M w a len Xs) (hJ:(joined Xs).length <= 140737488355100) (hl9:len <= 1000000) :
  Calls prog 67 #[.string ⟨k.toArray⟩,.slice a len cap] w fun e w'=>e = .returned (.agg ((hmac k (joined Xs)).map cb).toArray)/\Below w.heap.size w w':=by
 have HZ:=zero25;have hZs:Hid (zb32.size=32):=show zb32.size=32 from rfl
 have hP54:=hid (n0E k 54);have hP92:=n0E k 92;have HT54:=hid (fun g W h=>j0a (kblk k) (e0Z k) 54 g W h);have HT92:=hid (fun g W h=>j0a (kblk k) (e0Z k) 92 g W h)
 have HM:Hid (∀ p W,Has W p (padB k 54++joined Xs)->Ktab W->Calls prog 90 #[.pointer (some ⟨p,0,none⟩)] W fun e w'=>e = .returned (.agg ((sha (padB k 54++joined Xs)).map cb).toArray)/\Below W.heap.size W w') :=
  fun p W h kk=>n0C p _ (by rw [List.length_append,hP54.out];omega) W h kk
 have HBY:=hid (fun W=>f0J (sha (padB k 54++joined Xs)) (h0L _) W);have hI32:=h0L (padB k 54++joined Xs)
 have HSU:Hid (∀ W,Ktab W->Calls prog 89 #[.string ⟨(padB k 92++sha (padB k 54++joined Xs)).toArray⟩] W fun e w'=>e = .returned (.agg ((hmac k (joined Xs)).map cb).toArray)/\Below W.heap.size W w') :=
  fun W kk=>q0w _ (by rw [List.length_append,hP92,hI32];omega) W kk
 have H1:=hid (e0x (hmac k (joined Xs)));have hSl:Hid (((hmac k (joined Xs)).map cb).length=32):=by show List.length _=_;rw [List.length_map];exact j0W _ _
 have HI:Hid ((prog.info? 38).map (·.size)=some ((hmac k (joined Xs)).map cb).length):=by show _=_;rw [hSl.out];exact size25
 have HTB:=hid (fun W kk=>l0c k hk W kk);have HKb:Hid (∀ V,Below w.heap.size w V->Ktab V):=fun V h=>hK.stays h hK.pos;have hX0:=hid hX;have hlen:=hid hX.1;have hJ0:=hid hJ;have hJe:Hid (Unit->padB k 54++d0k Xs len=padB k 54++joined Xs):=fun _=>by rw [← hX.1,o0G]
 clear hK hX hJ hk;have HT54':Hid (∀ g W,W.heap[g]? = some (.cells ((kblk k).map cb).toArray 163)->Calls prog 103 #[.int .u8 54,.pointer (some ⟨g,0,none⟩)] W fun e w'=>e = .returned (.string ⟨(padB k 54).toArray⟩)/\Below W.heap.size W w'):=fun g W h=>HT54.out g W h;have HT92':Hid (∀ g W,W.heap[g]? = some (.cells ((kblk k).map cb).toArray 163)->Calls prog 103 #[.int .u8 92,.pointer (some ⟨g,0,none⟩)] W fun e w'=>e = .returned (.string ⟨(padB k 92).toArray⟩)/\Below W.heap.size W w'):=fun g W h=>HT92.out g W h;clear HT54 HT92;generalize hS:(hmac k (joined Xs)).map cb=S at *;have HSe:=hid hS;clear hS;generalize ((sha (padB k 54++joined Xs)).map cb).toArray=X at *;generalize sha (padB k 54++joined Xs)=I at *;generalize padB k 54=P at *;generalize padB k 92=Q at *;generalize ((kblk k).map cb).toArray=B at *;generalize zb32=Z at *;have hsQ:(⟨Q.toArray⟩:ByteArray).size=64:=hP92;have hsI:(⟨I.toArray⟩:ByteArray).size=32:=hI32;have happ:(⟨Q.toArray⟩:ByteArray)++(⟨I.toArray⟩:ByteArray)=⟨(Q++I).toArray⟩:=ByteArray.mk_append_mk Q I;have HF:Hid (0 + S.length <= Z.size):=by show _ <= _;rw [hSl.out,hZs.out];omega
 clear hP92 hI32;have hb0:Hid (Below w.heap.size w (w.alloc (.cells Z 38))):=a0c w _;have hr0:Hid ((w.alloc (.cells Z 38)).heap[w.heap.size]? = some (.cells Z 38)):=b0z w _;have hz0:Hid ((w.alloc (.cells Z 38)).heap.size=w.heap.size + 1):=show _=_ by simp
 go_enter func67,ntmps67;go_upto_region 1 with (first | (refine a0t rfl 38 rfl Z HZ ?_))
 generalize w.alloc (.cells Z 38)=w1 at *
 go_wp2_with (first | (go_at_call 86;refine (HTB.out w1 (HKb.out _ hb0.out)).mono ?_))
 rintro e w2 ⟨g,rfl,hg,hblk,hb2⟩;have hB2:Hid (Below w.heap.size w w2):=hb0.out.trans (hb2.mono hb0.out.size);have hR2:Hid (w2.heap[w.heap.size]? = some (.cells Z 38)):=a0a hr0.out hb2;have hblk2:=hid hblk;have hg1:w.heap.size + 1 <= g:=by have:=hz0.out;omega
 clear hb2 hblk hb0 hr0 hz0 hg HTB
 go_wp2_with (first | (go_at_call 87;refine (q0s _).mono ?_))
 rintro e w3 ⟨rfl,hw3⟩
 have hM3:Hid (Mid w w3 g w2.heap.size Z B []):=by
  show Mid _ _ _ _ _ _ _;rw [hw3];exact ⟨q0t w2,a0a hR2.out (a0c _ _),a0a hblk2.out (a0c _ _),a0H hB2.out _ (Nat.le_refl _)⟩
 have hgp:g < w2.heap.size:=e0y hblk2.out;have hwp:w.heap.size < w2.heap.size:=by omega
 generalize w2.heap.size=p at *;clear hw3 hB2 hR2 hblk2
 go_wp2_with (first | (go_at_call 103;refine (HT54'.out g _ hM3.out.blk).mono ?_))
 rintro e w4 ⟨rfl,hb4⟩;have hM4:=hid (hM3.out.stays hb4);clear hb4 hM3
 go_wp2_with fail
 refine (j0V p [] P (by rw [hP54.out];simp) w4 hM4.out.sum (HKb.out _ hM4.out.low) (by omega)).mono ?_;rintro e w5 ⟨rfl,hh5,ht5⟩
 have hM5:Hid (Mid w w5 g p Z B (P++d0k Xs 0)):=by
  have h:=hM4.out.turn hwp hgp hh5 ht5;rw [List.nil_append] at h;rw [m0I,List.append_nil];exact h
 clear hh5 ht5 hM4 HT54';go_wp2;go_loopw [18] (fun i w'=>∃ j:Nat,j <= len/\i = .int .i64 j/\Hid (Mid w w' g p Z B (P++d0k Xs j))) (fun i _=>len - (intOf i).toNat)
 case atStart=>exact ⟨0,by omega,rfl,hM5⟩
 case round =>
  clear hM5;obtain ⟨j,hj,rfl,hM⟩:=hrel;by_cases hlt:j < len
  ·obtain ⟨b,off,ha,hbl,hc⟩:=(hX0.out.stays hM.out.low).2 j hlt
   subst ha;obtain ⟨l,hl⟩:∃ l,l=(Xs.getD j ByteArray.empty).data.toList:=⟨_,rfl⟩;have hsl:Xs.getD j ByteArray.empty=⟨l.toArray⟩:=by rw [hl,Array.toArray_toList]
   rw [hsl] at hc;have hst:Hid (Unit->P++d0k Xs (j + 1)=(P++d0k Xs j)++l):=fun _=>by rw [m0J Xs j (by rw [hlen.out];exact hlt),hl,List.append_assoc]
   have hle:Hid ((P++d0k Xs j).length + l.length < 281474976710656):=by
    have h1:=q0y Xs (j + 1);have h2:=congrArg List.length (hst.out ());have h3:=hJ0.out;have h4:=hP54.out;rw [List.length_append,List.length_append] at h2;show _ < _;omega
   have HADD:=hid (j0V p (P++d0k Xs j) l hle.out wr hM.out.sum (HKb.out _ hM.out.low) (by omega));clear hl hsl
   go_wp2_with (first | (go_at_call 88;refine Calls.mono HADD.out ?_))
   rintro e w6 ⟨rfl,hh6,ht6⟩
   have hM6:Hid (Mid w w6 g p Z B (P++d0k Xs (j + 1))):=by
    have h:=hM.out.turn hwp hgp hh6 ht6;show Mid _ _ _ _ _ _ _;rw [hst.out ()];exact h
   clear hh6 ht6 HADD hM;go_wp2
   go_roundw
   case rel=>exact ⟨j + 1,by omega,by go_num,hM6⟩
   case measure=>simp [intOf];omega
  ·obtain rfl:j=len:=by omega
   have hMe:Hid (Mid w wr g p Z B (P++joined Xs)):=by show Mid _ _ _ _ _ _ _;rw [← hJe.out ()];exact hM.out
   clear hM hlt
   go_wp2_with (first | (go_at_call 103;refine (HT92'.out g _ hMe.out.blk).mono ?_))
   rintro e w6 ⟨rfl,hb6⟩;have hM6:=hid (hMe.out.stays hb6);clear hb6 hMe
   go_wp2_with (first | (go_at_call 90;refine (HM.out p _ hM6.out.sum (HKb.out _ hM6.out.low)).mono ?_))
   rintro e w7 ⟨rfl,hb7⟩;have hM7:=hid (hM6.out.stays hb7);clear hb7 hM6
   go_wp2_with (first | (go_at_call 66;refine (HBY.out _).mono ?_))
   rintro e w8 ⟨rfl,hb8⟩;have hM8:=hid (hM7.out.stays hb8);clear hb8 hM7
   go_wp2_with (first | (go_at_call 89;refine (HSU.out _ (HKb.out _ hM8.out.low)).mono ?_))
   rintro e w9 ⟨rfl,hb9⟩;have hM9:=hid (hM8.out.stays hb9);have hR9:=hid hM9.out.ans;clear hb9 hM8
   go_wp2_with (first | (refine b0c rfl 38 _ _ rfl rfl w.heap.size 0 rfl S rfl Z 38 hR9.out HF.out H1.out HI.out ?_))
   have HRR:Hid ((List.take 0 Z.toList++S++List.drop (0 + S.length) Z.toList).toArray=S.toArray):=by
    have h64:Z.toList.length <= 0 + S.length:=by rw [Array.length_toList,hSl.out,hZs.out];omega
    show _=_;rw [List.drop_eq_nil_of_le h64];simp
   refine bodyPost_ret_by (results_cell_row (fn:=Tryz.f67) (p:=4) (ty:=38) (by kernel_rfl) _ _ w.heap.size 38 S.toArray (0,0) _ rfl (by rw [HRR.out];exact setRow_heap _ _ _ _ _ _ hR9.out) underlying38 rfl (by rw [List.size_toArray,hSl.out];exact size25)) rfl ?_;exact ⟨rfl,below_setRow hM9.out.low _ _ (by omega)⟩
open Go Go.RowKit
set_option maxRecDepth 100000
theorem l0d (W:World) (A B:List UInt8):h0M (W.alloc (.cells #[.string ⟨A.toArray⟩,.string ⟨B.toArray⟩] 9)) (some ⟨W.heap.size,0,none⟩) 2 [⟨A.toArray⟩,⟨B.toArray⟩]:=by
 refine ⟨rfl,fun j hj=>⟨W.heap.size,0,rfl,by simp,?_⟩⟩;rw [cell_of_row _ _ _ _ _ _ (b0z W _)];rcases j with _ | _ | j
 ·rfl
 ·rfl
 ·omega
theorem f0b (A B:List UInt8):joined [⟨A.toArray⟩,⟨B.toArray⟩]=A++B:=by simp [joined]
def j0X (k l:List UInt8) (n:Int):List UInt8:=hmac k (Lay.f0j l++(Lib.itoa n++[59]))
theorem l0e (k l:List UInt8) (n:Int):(j0X k l n).length=32:=j0W _ _
theorem q0B (k:List UInt8) (hk:k.length <= 140737488355228) (l:List UInt8) (hl:l.length <= 16384) (n:Int) (h0:-9223372036854775808 <= n) (h1:n <= 9223372036854775807) (w:World) (hK:Ktab w) (hT:Lay.Tabs w) :
  Calls prog 37 #[.string ⟨k.toArray⟩,.string ⟨l.toArray⟩,.int .i64 n] w fun e w'=>e = .returned (.string ⟨(j0X k l n).toArray⟩)/\Below w.heap.size w w':=by
 have HT:Hid (Calls prog 65 #[.string ⟨l.toArray⟩] w fun e w'=>e = .returned (.tuple #[.string ⟨(Lay.f0j l).toArray⟩,.int .i64 0])/\Below w.heap.size w w'):=by
  have h:=Lay.m0k ⟨l.toArray⟩ hl w hT;exact h
 have HN:=hid (fun W h=>Lay.c0y n h0 h1 W h);have htl:=hid (Lay.p0E l hl);have hnl:Hid ((Lib.itoa n++[59]).length <= 22):=by show _ <= _;rw [List.length_append];have:=Lay.f0K n h0 h1;simp;omega
 have HKb:Hid (∀ V,Below w.heap.size w V->Ktab V):=fun V h=>hK.stays h hK.pos;have HTb:Hid (∀ V,Below w.heap.size w V->Lay.Tabs V):=fun V h=>hT.stays h
 have HTG:Hid (∀ W,Ktab W->Calls prog 67 #[.string ⟨k.toArray⟩,.slice (some ⟨W.heap.size,0,none⟩) 2 2] (W.alloc (.cells #[.string ⟨(Lay.f0j l).toArray⟩,.string ⟨(Lib.itoa n++[59]).toArray⟩] 9)) fun e w'=>e = .returned (.agg ((j0X k l n).map cb).toArray)/\Below (W.alloc (.cells #[.string ⟨(Lay.f0j l).toArray⟩,.string ⟨(Lib.itoa n++[59]).toArray⟩] 9)).heap.size (W.alloc (.cells #[.string ⟨(Lay.f0j l).toArray⟩,.string ⟨(Lib.itoa n++[59]).toArray⟩] 9)) w'):=by
  intro W kk;have h:=q0A k (by omega) (some ⟨W.heap.size,0,none⟩) 2 2 _ _ (kk.stays (a0c W _) kk.pos) (l0d W (Lay.f0j l) (Lib.itoa n++[59])) (by rw [f0b,List.length_append];have:=htl.out;have:=hnl.out;omega) (by omega);rw [f0b] at h;exact h
 have HBY:=hid (fun W=>f0J (j0X k l n) (l0e k l n) W);generalize ((j0X k l n).map cb).toArray=X at *;generalize j0X k l n=M at *;generalize Lay.f0j l=A at *;generalize Lib.itoa n++[59]=B at *;clear hK hT htl hnl hl hk;go_enter func37,ntmps37
 go_wp2_with (first | (go_at_call 65;refine Calls.mono HT.out ?_))
 rintro e w1 ⟨rfl,hb1⟩;have hB1:=hid hb1;clear hb1 HT
 go_wp2_with (first | (go_at_call 68;refine (HN.out _ (HTb.out _ hB1.out)).mono ?_))
 rintro e w2 ⟨rfl,hb2⟩;have hB2:Hid (Below w.heap.size w w2):=hB1.out.trans (hb2.mono hB1.out.size);clear hb2 hB1
 go_wp2_with (first | (go_at_call 67;refine (HTG.out w2 (HKb.out _ hB2.out)).mono ?_))
 rintro e w3 ⟨rfl,hb3⟩;have hB3:Hid (Below w.heap.size w w3):=(a0H hB2.out _ (Nat.le_refl _)).trans (hb3.mono (a0H hB2.out _ (Nat.le_refl _)).size);clear hb3 hB2
 go_wp2_with (first | (go_at_call 66;refine (HBY.out _).mono ?_))
 rintro e w4 ⟨rfl,hb4⟩;have hB4:Hid (Below w.heap.size w w4):=hB3.out.trans (hb4.mono hB3.out.size);clear hb4 hB3;go_wp2;go_ret;exact ⟨rfl,hB4.out⟩
open Go Go.RowKit Go.Joins
set_option maxRecDepth 100000
theorem u0v (x y:List UInt8) (hx:x.length=32) (hy:y.length=32) (w:World):(Op.equalIn 10000 38 (.agg (x.map cb).toArray) (.agg (y.map cb).toArray)).run prog w = .ok (decide (x=y)) w :=
 h0J (P:=prog) w 38 5 32 .u8 underlying38 underlying5 size5 x y hx hy
theorem u0w (k A B:List UInt8) (hk:k.length <= 140737488355100) (hA:A.length <= 70000000000000) (hB:B.length <= 70000000000000) (W:World) (kk:Ktab W) :
  Calls prog 67 #[.string ⟨k.toArray⟩,.slice (some ⟨W.heap.size,0,none⟩) 2 2] (W.alloc (.cells #[.string ⟨A.toArray⟩,.string ⟨B.toArray⟩] 9)) fun e w'=>e = .returned (.agg ((hmac k (A++B)).map cb).toArray)/\Below W.heap.size W w':=by
 have h:=q0A k (by omega) (some ⟨W.heap.size,0,none⟩) 2 2 _ _ (kk.stays (a0c W _) kk.pos) (l0d W A B) (by rw [f0b,List.length_append];omega) (by omega);rw [f0b] at h;refine h.mono ?_;rintro e w' ⟨rfl,hb⟩;exact ⟨rfl,(a0c W _).trans (hb.mono (by simp))⟩
theorem infoStr:(prog.info? 9).map (fun i=>(i.zero,i.size,i.bytes))=some (some (.string ⟨#[]⟩),1,16):=by kernel_rfl
theorem h0y {w w':World} {B e s n:Nat} {v:Value} {xs:List Value} (h:w.ownsRowF B e s v n xs) (hb:Below w.heap.size w w'):w'.ownsRowF B e s v n xs:=by
 refine ⟨h.1,?_⟩;rcases h.2 with hn | ⟨g,cap,cur,fz,rfl,hB,hg,rest⟩
 ·exact .inl hn
 ·exact .inr ⟨g,cap,cur,fz,rfl,hB,by rw [hb.block g (Array.getElem?_eq_some_iff.1 hg).1];exact hg,rest⟩
theorem b0k {P:Program} {ops:Array Oper} {C:World->Prop} {Q:Act->Prop} {a:Act} {o:Oper} {rest:List Oper} (hw:Region.wanted o (yielded ops a.tmps)=true) (ty:TypeId) (x:Operand) (ho:o.op = .load ty x)
  (g:Nat) (hx:a.eval x = .pointer (some ⟨g,0,none⟩)) (cs:List Value) (d:TypeDesc) (hc:∀ w,C w->∀ j v,cs[j]? = some v->w.cell? ⟨g,0 + j,none⟩=some v)
  (hu:P.underlying ty=some d) (hd:(match d with | .struct _ | .array _ _=>true | _=>false)=true) (hi:(P.info? ty).map (·.size)=some cs.length)
  (h:wpQuiet P ops C Q rest (a.put o.dst (.agg cs.toArray))):wpQuiet P ops C Q (o :: rest) a:=by
 unfold wpQuiet;rw [if_pos hw];refine ⟨.agg cs.toArray,fun w hC=>?_,h⟩
 have hl:(loadCells ⟨g,0,none⟩ cs.length).run P w = .ok cs.toArray w :=
  run_loadCells_list (P:=P) w ⟨g,0,none⟩ cs (fun j v hv=>by rw [b0f];exact hc w hC j v hv)
 cases hq:P.info? ty with
 | none=>simp [hq] at hi
 | some i =>
  have hs:i.size=cs.length:=by simpa [hq] using hi
  have hagg:(isAgg ty).run P w = .ok true w:=by
   unfold isAgg;rw [Sem.run_bind,run_underlying hu w]
   cases d <;> simp_all
  unfold Oper.quietAt execOp;simp [ho,hx,Instr.loadAt,Instr.sureAddr,Sem.run_bind,loadVar,hagg,sizeOf,typeInfo,hq,hs,hl,Oper.quietUpon]
theorem d0t (W:World) (g:Nat) (cs:List Value) (t:TypeId) (h:W.heap[g]? = some (.cells cs.toArray t)):∀ w',(∃ p:Regrown,w' = Sort.grow (redrawn W p.d) p.os)->∀ j v,cs[j]? = some v->w'.cell? ⟨g,0 + j,none⟩=some v:=by
 rintro w' ⟨p,rfl⟩ j v hv;refine cell_regrown ?_ _ _;rw [cell_of_row _ _ _ _ _ _ h];simpa using hv
end Go.Proofs.YtagmnmoaekbffaaGreatDoor
