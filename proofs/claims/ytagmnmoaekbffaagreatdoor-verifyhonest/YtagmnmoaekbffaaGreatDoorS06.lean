/- S06 -/
import Derived.Test.YtagmnmoaekbffaaGreatDoorS05
import Derived.Lib.FrozenHead2
import Derived.Lib.OthersKept
import Derived.WalkKit
import Derived.WalkSpells
import Derived.WalkLawsBesides
set_option maxHeartbeats 1000000
namespace Go.Proofs.YtagmnmoaekbffaaGreatDoor.Lay
open Go.Proofs.Tryz
open Go.RowKit
set_option maxRecDepth 100000
theorem sizeBld:(prog.info? 174).map (·.size)=some 2:=by kernel_rfl
theorem t0X:liesAt prog prog.depth 174 (2 / prog.cellsOf 174) 0 174 1=true:=by kernel_rfl
theorem infoByte:(prog.info? 5).map (fun i=>(i.zero,i.size,i.bytes))=some (some (.int .u8 0),1,1):=by kernel_rfl
theorem p0D (b:Nat) (w:World) (h0:w.cell? ⟨b,0,none⟩=some (.pointer (some ⟨b,0,none⟩))) :
  Calls prog 130 #[.pointer (some ⟨b,0,none⟩)] w fun e w'=>e = .returned (.tuple #[])/\w' = w:=by
 obtain ⟨j,hj,_⟩:=Option.map_eq_some_iff.1 sizeBld;go_enter func130,ntmps130;go_wp2;rw [Lib.run_neq_ptr_same w _ underlying172 hj];go_wp2
 go_end0
 exact ⟨rfl,rfl⟩
theorem o0n (b:Nat) (w:World) (h0:w.cell? ⟨b,0,none⟩=some (.pointer none)) (hsh:w.shape? b=some (174,2)) (hfz:w.frozen? ⟨b,0,none⟩=false) :
  Calls prog 130 #[.pointer (some ⟨b,0,none⟩)] w fun e w'=>e = .returned (.tuple #[])/\w' = w.setCell ⟨b,0,none⟩ (.pointer (some ⟨b,0,none⟩)):=by
 obtain ⟨j,hj,hjs⟩:=Option.map_eq_some_iff.1 sizeBld;go_enter func130,ntmps130;go_wp2;rw [Lib.run_to_unsafe w ⟨b,0,none⟩ underlying172 underlying222 hj (by rw [hjs];decide) hsh (Nat.zero_lt_succ 1)];simp only [Result.andThen];rw [Oper.upon_value];go_wp2;rw [run_callFunc_extern func156 (by kernel_rfl) (by kernel_rfl) (by kernel_rfl) (e:=Extern.AbiNoEscape.same) (by kernel_rfl)];rw [Lib.run_noEscape];simp only [Result.andThen];rw [Oper.upon_value];go_wp2;rw [Lib.run_from_unsafe w ⟨b,0,none⟩ underlying222 underlying172 hj hsh t0X];simp only [Result.andThen];rw [Oper.upon_value];go_wp2
 go_end0
 exact ⟨rfl,rfl⟩
theorem t0u (B b:Nat) (bs:List Value) (w:World) (h:Lib.IsBuilderF 174 5 B b bs w) :
  Calls prog 130 #[.pointer (some ⟨b,0,none⟩)] w fun e w'=>e = .returned (.tuple #[])/\(Lib.BuilderAtF 174 5 B b (.pointer (some ⟨b,0,none⟩)) bs w'/\Below B w w'/\Lib.OthersKept 5 (some b) w w'):=by
 rcases h with h | h
 ·refine (o0n b w h.cell0 h.shape h.frozen0).mono ?_
  rintro e w' ⟨rfl,rfl⟩;exact ⟨rfl,h.used _,(Below.refl B w).setCell (p:=⟨b,0,none⟩) h.1 _,(Lib.OthersKept.refl _ _ w).setCell ⟨b,0,none⟩ rfl _⟩
 ·refine (p0D b w h.cell0).mono ?_
  rintro e w' ⟨rfl,rfl⟩;exact ⟨rfl,h,Below.refl B _,Lib.OthersKept.refl _ _ _⟩
theorem i0K (B b:Nat) (bs:List Value) (c:Int) (w:World) (h:Lib.IsBuilderF 174 5 B b bs w) (hlen:bs.length + 1 <= 140737488355328) (hBw:B <= w.heap.size) :
  Calls prog 202 #[.pointer (some ⟨b,0,none⟩),.int .u8 c] w fun e w'=>e = .returned .nilIface/\(Lib.BuilderAtF 174 5 B b (.pointer (some ⟨b,0,none⟩)) (bs++[.int .u8 c]) w'/\Below B w w'/\Lib.OthersKept 5 (some b) w w'):=by
 obtain ⟨i0,hi,hz0,hz1,hz2⟩:=info_parts infoByte;go_enter func202,ntmps202
 go_wp2_with (go_at_call 130;refine (t0u B b bs _ h).mono ?_)
 rintro e w1 ⟨rfl,h1,hb1,hk1⟩;obtain ⟨hB,v,hbk,hown,hne⟩:=h1;have c0:w1.cell? ⟨b,0,none⟩=some (.pointer (some ⟨b,0,none⟩)):=by rw [Lib.cell_of_heap hbk];rfl
 have c1:w1.cell? ⟨b,1,none⟩=some v:=by rw [Lib.cell_of_heap hbk];rfl
 go_wp2_with (at_builtin;refine wpList_append_ownF _ rfl _ _ 63 rfl B 5 i0 (.int .u8 0) 1 1 underlying63 hi hz0 hz1 hz2 rfl (by decide) _ _ _ rfl (hown.alloc _) ⟨w1.heap.size,0,none⟩ 1 1 [.int .u8 c] rfl rfl ?c1 ?c2 ?c3 ?c4 ?c5 ?_)
 case c1 =>
  intro j u hj
  match j,hj with
  | 0,hj=>simp at hj;subst hj;simp [Addr.add]
 case c2=>intro u hu;simp at hu;subst hu;rfl
 case c3=>unfold maxLen;omega
 case c4=>omega
 case c5=>have:=hb1.size;simp;omega
 intro v' w2 hown' hgrow _
 have hlt:b < w1.heap.size:=by
  rcases Nat.lt_or_ge b w1.heap.size with h' | h'
  ·exact h'
  ·simp [Array.getElem?_eq_none h'] at hbk
 have hb2:w2.heap[b]? = some (.cells #[.pointer (some ⟨b,0,none⟩),v] 174 (0,0)):=by
  rw [hgrow.block b (by simp;omega) (fun e=>hne e.symm),Lib.alloc_old w1 _ b hlt];exact hbk
 have d0:w2.cell? ⟨b,0,none⟩=some (.pointer (some ⟨b,0,none⟩)):=by rw [Lib.cell_of_heap hb2];rfl
 have d1:w2.cell? ⟨b,1,none⟩=some v:=by rw [Lib.cell_of_heap hb2];rfl
 have f1:w2.frozen? ⟨b,1,none⟩=false:=Lib.frozen_of_heap hb2 1
 obtain ⟨g,cap,rfl⟩:∃ g cap,v' = .slice (some ⟨g,0,none⟩) (bs.length + 1) cap:=by
  rcases hown'.2 with ⟨_,h0⟩ | ⟨g,cap,cur,fz,hv,_⟩
  ·omega
  ·exact ⟨g,cap,hv⟩
 go_wp2;go_ret;refine ⟨rfl,?_,?_,((hk1.alloc _).grown hgrow (Lib.ownsRowF_kind (hown.alloc _))).setCell ⟨b,1,none⟩ rfl _⟩
 ·exact Lib.BuilderAtF.put (T:=174) (e:=5) hB hb2 (bs':=bs++[.int .u8 c]) (by simpa using hown') (by decide)
 ·exact ((hb1.alloc (by have:=hb1.size;omega) _).grown hgrow (by have:=hb1.size;simp;omega) (fun k hk=>(hown.lt k hk).1)).setCell (p:=⟨b,1,none⟩) hB _
theorem c0z (B b:Nat) (bs:List Value) (s:ByteArray) (w:World) (h:Lib.IsBuilderF 174 5 B b bs w) (hlen:bs.length + s.size <= 140737488355328) (hBw:B <= w.heap.size) :
  Calls prog 111 #[.pointer (some ⟨b,0,none⟩),.string s] w fun e w'=>e = .returned (.tuple #[.int .i64 s.size,.nilIface])/\(Lib.BuilderAtF 174 5 B b (.pointer (some ⟨b,0,none⟩)) (bs++Lib.strCells s) w'/\Below B w w'/\Lib.OthersKept 5 (some b) w w'):=by
 obtain ⟨i0,hi,hz0,hz1,hz2⟩:=info_parts infoByte;go_enter func111,ntmps111
 go_wp2_with (go_at_call 130;refine (t0u B b bs _ h).mono ?_)
 rintro e w1 ⟨rfl,h1,hb1,hk1⟩;obtain ⟨hB,v,hbk,hown,hne⟩:=h1;have c0:w1.cell? ⟨b,0,none⟩=some (.pointer (some ⟨b,0,none⟩)):=by rw [Lib.cell_of_heap hbk];rfl
 have c1:w1.cell? ⟨b,1,none⟩=some v:=by rw [Lib.cell_of_heap hbk];rfl
 go_wp2_with (at_builtin;refine Lib.wpList_append_own_stringF _ rfl _ _ 63 9 rfl B 5 i0 underlying63 underlying9 hi hz0 hz1 hz2 _ _ _ rfl hown s rfl ?c3 ?c4 ?c5 ?_)
 case c3=>unfold maxLen;omega
 case c4=>omega
 case c5=>have:=hb1.size;omega
 intro v' w2 hown' hgrow _
 have hlt:b < w1.heap.size:=by
  rcases Nat.lt_or_ge b w1.heap.size with h' | h'
  ·exact h'
  ·simp [Array.getElem?_eq_none h'] at hbk
 have hb2:w2.heap[b]? = some (.cells #[.pointer (some ⟨b,0,none⟩),v] 174 (0,0)):=by
  rw [hgrow.block b hlt (fun e=>hne e.symm)];exact hbk
 have d0:w2.cell? ⟨b,0,none⟩=some (.pointer (some ⟨b,0,none⟩)):=by rw [Lib.cell_of_heap hb2];rfl
 have d1:w2.cell? ⟨b,1,none⟩=some v:=by rw [Lib.cell_of_heap hb2];rfl
 have f1:w2.frozen? ⟨b,1,none⟩=false:=Lib.frozen_of_heap hb2 1
 obtain ⟨ao,n',cap,rfl⟩:∃ ao n' cap,v' = .slice ao n' cap:=by
  rcases hown'.2 with ⟨hv,_⟩ | ⟨g,cap,cur,fz,hv,_⟩
  ·exact ⟨_,_,_,hv⟩
  ·exact ⟨_,_,_,hv⟩
 go_wp2
 go_ret2
 refine ⟨rfl,?_,?_,(hk1.grown hgrow (Lib.ownsRowF_kind hown)).setCell ⟨b,1,none⟩ rfl _⟩
 ·exact Lib.BuilderAtF.put (T:=174) (e:=5) hB hb2 (bs':=bs++Lib.strCells s) (by simpa [Lib.strCells_length] using hown') (by decide)
 ·exact (hb1.grown hgrow (by have:=hb1.size;omega) (fun k hk=>(hown.lt k hk).1)).setCell (p:=⟨b,1,none⟩) hB _
open Go.RowKit Go.Joins
set_option maxRecDepth 100000
def b0I (zs:List Int):List UInt8:=(zs.map fun z=>Lib.itoa z++[59]).flatten
theorem j0I (zs:List Int) (z:Int):b0I (zs++[z])=b0I zs++(Lib.itoa z++[59]):=by simp [b0I]
theorem g0A:∀ (zs:List Int),(∀ z ∈ zs,-9223372036854775808 <= z/\z <= 9223372036854775807)->(b0I zs).length <= 22 * zs.length
 | [],_=>by simp [b0I]
 | z :: r,h=>by
  have h1:=g0A r (fun x hx=>h x (by simp [hx]));have h2:=f0K z (h z (by simp)).1 (h z (by simp)).2;simp only [b0I,List.map_cons,List.flatten_cons,List.length_append,List.length_cons,List.length_nil] at *;omega
theorem r0Z (n:Int) (h0:-9223372036854775808 <= n) (h1:n <= 9223372036854775807) (w:World) (ht:Tabs w) :
  Calls prog 194 #[.int .i64 n] w fun e w'=>e = .returned (.tuple #[.string ⟨(Lib.itoa n++[59]).toArray⟩,.int .i64 0])/\Below w.heap.size w w':=by
 go_enter func194,ntmps194
 go_wp2_with (go_at_call 68;refine (c0y n h0 h1 _ ht).mono ?_)
 rintro e w1 ⟨rfl,hb⟩;go_wp2
 go_ret2
 exact ⟨rfl,hb⟩
theorem h0y {w w':World} {B e s n:Nat} {v:Value} {xs:List Value} (h:w.ownsRowF B e s v n xs) (hb:Below w.heap.size w w'):w'.ownsRowF B e s v n xs:=by
 refine ⟨h.1,?_⟩;rcases h.2 with hn | ⟨g,cap,cur,fz,rfl,hB,hg,rest⟩
 ·exact .inl hn
 ·exact .inr ⟨g,cap,cur,fz,rfl,hB,by rw [hb.block g (Array.getElem?_eq_some_iff.1 hg).1];exact hg,rest⟩
theorem k0P {w w':World} {T e B b:Nat} {p:Value} {bs:List Value} (h:Lib.BuilderAtF T e B b p bs w) (hb:Below w.heap.size w w'):Lib.BuilderAtF T e B b p bs w':=by
 obtain ⟨hB,v,hbk,hown,hne⟩:=h;exact ⟨hB,v,by rw [hb.block b (Array.getElem?_eq_some_iff.1 hbk).1];exact hbk,h0y hown hb,hne⟩
theorem d0D {w w':World} {T e B b:Nat} {bs:List Value} (h:Lib.IsBuilderF T e B b bs w) (hb:Below w.heap.size w w'):Lib.IsBuilderF T e B b bs w' :=
 h.elim (fun x=>.inl (k0P x hb)) (fun x=>.inr (k0P x hb))
theorem getD_at {α:Type} (zs:List α) (d:α) (k:Nat) (h:k < zs.length):zs.getD k d=zs[k]:=by simp [List.getD,h]
theorem f0F {α:Type} (zs:List α) (d:α) (k:Nat) (h:k < zs.length):zs.take (k + 1)=zs.take k++[zs.getD k d]:=by
 rw [List.take_succ_eq_append_getElem h,getD_at zs d k h]
theorem v0k (a:Option Addr) (len cap:Nat) (zs:List Int) (hlen:zs.length=len) (h512:len <= 512)
  (hz:∀ z ∈ zs,-9223372036854775808 <= z/\z <= 9223372036854775807) (w:World) (ht:Tabs w)
  (hcell:∀ (j:Nat),j < len->∃ b off,a=some ⟨b,off,none⟩/\b < w.heap.size/\w.cell? ⟨b,off + j,none⟩=some (.int .i64 (zs.getD j 0))) :
  Calls prog 193 #[.slice a len cap,.func (.func 194) #[] #[]] w fun e w'=>e = .returned (.tuple #[.string ⟨(40 :: b0I zs++[41]).toArray⟩,.int .i64 0])/\Below w.heap.size w w':=by
 have HF:Hid (Lib.IsBuilderF 174 5 w.heap.size w.heap.size [] (w.alloc (.cells #[.pointer none,.slice none 0 0] 174))):=Lib.IsBuilderF.of (Lib.fresh_isBuilder 174 5 w);have h13:decide (512 < (len:Int))=false:=by simp;omega
 go_enter func193,ntmps193
 go_wp2_with fail
 refine (i0K w.heap.size w.heap.size [] 40 _ HF.out (by simp) (by simp)).mono ?_;rintro e w1 ⟨rfl,h1,hb1,-⟩;have HB1:Hid (Below w.heap.size w w1):=(below_alloc1 w _).trans hb1;have H1:Hid (Lib.IsBuilderF 174 5 w.heap.size w.heap.size (Lib.byteCells (40 :: b0I (zs.take 0))) w1):=Or.inr h1;clear h1 hb1;go_wp2;go_loopw [17] (fun i w'=>∃ k:Nat,k <= len/\i = .int .i64 k/\Hid (Lib.IsBuilderF 174 5 w.heap.size w.heap.size (Lib.byteCells (40 :: b0I (zs.take k))) w')/\Hid (Below w.heap.size w w')) (fun i _=>len - (intOf i).toNat)
 case atStart=>exact ⟨0,Nat.zero_le _,rfl,H1,HB1⟩
 case round =>
  obtain ⟨k,hk,rfl,HI,HB⟩:=hrel;clear H1 HB1 HF;have hsz:=HB.out.size;have htr:Tabs wr:=ht.stays HB.out;have hlk:=g0A (zs.take k) (fun z hzz=>hz z (List.mem_of_mem_take hzz));have hlt':(zs.take k).length <= 512:=by rw [List.length_take];omega
  by_cases hlt:k < len
  ·obtain ⟨b,off,rfl,hbs,hc⟩:=hcell k hlt
   have hzk:=hz (zs.getD k 0) (by rw [getD_at _ _ _ (by omega)];exact List.getElem_mem _);have HT:Hid (zs.take (k + 1)=zs.take k++[zs.getD k 0]):=f0F zs 0 k (by omega);generalize zs.getD k 0=z at *;have hcr:wr.cell? ⟨b,off + k,none⟩=some (.int .i64 z):=(HB.out.cell hbs).trans hc;have hil:=f0K z hzk.1 hzk.2;clear hc hcell
   go_wp2_with fail
   refine (r0Z z hzk.1 hzk.2 _ htr).mono ?_;rintro e w2 ⟨rfl,hb2⟩;have HI2:Hid (Lib.IsBuilderF 174 5 w.heap.size w.heap.size (Lib.byteCells (40 :: b0I (zs.take k))) w2):=d0D HI.out hb2;have HB2:Hid (Below w.heap.size w w2):=a0b HB.out hb2;have hsz2:w.heap.size <= w2.heap.size:=HB2.out.size;clear hb2 HI HB hcr htr
   go_wp2_with fail
   refine (c0z w.heap.size w.heap.size _ _ _ HI2.out (by simp [Lib.byteCells,ByteArray.size];omega) hsz2).mono ?_;rintro e w3 ⟨rfl,h3,hb3,-⟩
   have H3:Hid (Lib.IsBuilderF 174 5 w.heap.size w.heap.size (Lib.byteCells (40 :: b0I (zs.take (k + 1)))) w3):=by
    refine Or.inr ?_;rw [HT.out,j0I];simpa [Lib.byteCells,Lib.strCells] using h3
   have HB3:Hid (Below w.heap.size w w3):=HB2.out.trans hb3;clear h3 hb3 HI2 HB2 HT hsz2;go_wp2
   go_roundw
   case rel=>exact ⟨k + 1,by omega,by go_num,H3,HB3⟩
   case measure=>simp [intOf];omega
  ·have hkl:k=len:=by omega
   have HK:Hid (zs.take k=zs):=by show _=_;rw [hkl,← hlen,List.take_length]
   clear hkl hcell
   go_wp2_with fail
   refine (i0K w.heap.size w.heap.size _ 41 _ HI.out (by simp [Lib.byteCells];omega) hsz).mono ?_;rintro e w2 ⟨rfl,h2,hb2,-⟩
   have H2:Hid (Lib.IsBuilderF 174 5 w.heap.size w.heap.size (Lib.byteCells (40 :: b0I zs++[41])) w2):=by
    refine Or.inr ?_;rw [HK.out] at h2;simpa [Lib.byteCells] using h2
   have HB2:Hid (Below w.heap.size w w2):=HB.out.trans hb2;have hsz2:w.heap.size <= w2.heap.size:=HB2.out.size;clear h2 hb2 HI HB
   go_wp2_with fail
   refine (Tryz.Builder_String_any_k w.heap.size w.heap.size (40 :: b0I zs++[41]) _ H2.out hsz2).mono ?_;rintro e w3 ⟨rfl,h3,hb3,-⟩;have HB3:Hid (Below w.heap.size w w3):=HB2.out.trans hb3;clear h3 hb3;go_wp2
   go_ret2
   exact ⟨rfl,HB3.out⟩
open Go.RowKit Go.Joins
set_option maxRecDepth 100000
def f0j (l:List UInt8):List UInt8:=Lib.decDigits l.length++58 :: l
theorem p0E (l:List UInt8) (h:l.length <= 16384):(f0j l).length <= 16410:=by
 unfold f0j;have:=nDigits_le20 l.length (by omega);rw [List.length_append,Lib.decDigits_length,List.length_cons];omega
theorem p0F (s:ByteArray):s.data.toList.length=s.size:=by rw [Array.length_toList];rfl
theorem p0G (s:ByteArray):(⟨(Lib.decDigits s.size).toArray⟩:ByteArray) ++ ⟨#[58]⟩++s=⟨(f0j s.data.toList).toArray⟩:=by
 rw [bcat (Lib.decDigits s.size) [58] _ rfl,bcat (Lib.decDigits s.size++[58]) s.data.toList s (bytes_eta s).symm];unfold f0j;rw [p0F];simp
theorem s0a (n:Nat):Lib.itoa (n:Int)=Lib.decDigits n:=by unfold Lib.itoa;rw [if_neg (by omega),Int.toNat_natCast]
theorem m0k (s:ByteArray) (hs:s.size <= 16384) (w:World) (ht:Tabs w) :
  Calls prog 65 #[.string s] w fun e w'=>e = .returned (.tuple #[.string ⟨(f0j s.data.toList).toArray⟩,.int .i64 0])/\Below w.heap.size w w':=by
 have hl:(Lib.decDigits s.size).length <= 20:=by rw [Lib.decDigits_length];exact nDigits_le20 _ (by omega)
 have HI:Hid (∀ w:World,Tabs w->Calls prog 85 #[.int .i64 (s.size:Int)] w fun e w'=>e = .returned (.string ⟨(Lib.decDigits s.size).toArray⟩)/\Below w.heap.size w w'):=by
  intro w ht;have:=n0q (s.size:Int) (by omega) (by omega) w ht
  rwa [s0a] at this
 go_enter func65,ntmps65
 go_wp2_with fail
 refine (HI.out _ ht).mono ?_;rintro e w1 ⟨rfl,hb⟩;go_wp2
 go_ret2
 exact ⟨congrArg (fun x=>Ending.returned (.tuple #[Value.string x,.int .i64 0])) (p0G s),hb⟩
theorem s0b (s:ByteArray) (hs:16384 < s.size) (w:World) :
  Calls prog 65 #[.string s] w fun e w'=>e = .returned (.tuple #[.string ⟨#[]⟩,.int .i64 4])/\w' = w:=by
 go_enter func65,ntmps65;go_wp2
 go_ret2
 exact ⟨rfl,rfl⟩
end Go.Proofs.YtagmnmoaekbffaaGreatDoor.Lay
