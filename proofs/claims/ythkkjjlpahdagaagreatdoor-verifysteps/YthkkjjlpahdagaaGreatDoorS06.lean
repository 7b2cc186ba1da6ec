/-
  What strings.Builder's copyCheck, WriteByte and WriteString do at this translation, to a builder that the call itself has made.
-/
import Derived.Test.YthkkjjlpahdagaaGreatDoorS05
import Derived.Lib.FrozenHead2
import Derived.Lib.OthersKept
import Derived.WalkKit
import Derived.WalkSpells
import Derived.WalkLawsBesides
set_option maxHeartbeats 1000000
namespace Go.Proofs.YthkkjjlpahdagaaGreatDoor.Lay
open Go.RowKit
set_option maxRecDepth 100000
theorem sizeBld:(Tryz.prog.info? 172).map (·.size)=some 2:=by kernel_rfl
theorem liesBld:liesAt Tryz.prog Tryz.prog.depth 172 (2 / Tryz.prog.cellsOf 172) 0 172 1=true:=by kernel_rfl
theorem infoByte:(Tryz.prog.info? 5).map (fun i=>(i.zero,i.size,i.bytes))=some (some (.int .u8 0),1,1):=by kernel_rfl
theorem copy_used (b:Nat) (w:World) (h0:w.cell? ⟨b,0,none⟩=some (.pointer (some ⟨b,0,none⟩))) :
  Calls Tryz.prog 134 #[.pointer (some ⟨b,0,none⟩)] w fun e w'=>e = .returned (.tuple #[])∧w' = w:=by
 obtain ⟨j,hj,_⟩:=Option.map_eq_some_iff.1 sizeBld
 go_enter Tryz.func134,Tryz.ntmps134
 go_wp2
 rw [Lib.run_neq_ptr_same w _ Tryz.underlying170 hj]
 go_wp2
 go_end0
 exact ⟨rfl,rfl⟩
theorem copy_fresh (b:Nat) (w:World) (h0:w.cell? ⟨b,0,none⟩=some (.pointer none)) (hsh:w.shape? b=some (172,2)) (hfz:w.frozen? ⟨b,0,none⟩=false) :
  Calls Tryz.prog 134 #[.pointer (some ⟨b,0,none⟩)] w fun e w'=>e = .returned (.tuple #[])∧w' = w.setCell ⟨b,0,none⟩ (.pointer (some ⟨b,0,none⟩)):=by
 obtain ⟨j,hj,hjs⟩:=Option.map_eq_some_iff.1 sizeBld
 go_enter Tryz.func134,Tryz.ntmps134
 go_wp2
 rw [Lib.run_to_unsafe w ⟨b,0,none⟩ Tryz.underlying170 Tryz.underlying222 hj (by rw [hjs];decide) hsh (Nat.zero_lt_succ 1)]
 simp only [Result.andThen]
 rw [Oper.upon_value]
 go_wp2
 rw [run_callFunc_extern Tryz.func161 (by kernel_rfl) (by kernel_rfl) (by kernel_rfl) (e:=Extern.AbiNoEscape.same) (by kernel_rfl)]
 rw [Lib.run_noEscape]
 simp only [Result.andThen]
 rw [Oper.upon_value]
 go_wp2
 rw [Lib.run_from_unsafe w ⟨b,0,none⟩ Tryz.underlying222 Tryz.underlying170 hj hsh liesBld]
 simp only [Result.andThen]
 rw [Oper.upon_value]
 go_wp2
 go_end0
 exact ⟨rfl,rfl⟩
theorem copy_k (B b:Nat) (bs:List Value) (w:World) (h:Lib.IsBuilderF 172 5 B b bs w) :
  Calls Tryz.prog 134 #[.pointer (some ⟨b,0,none⟩)] w fun e w'=>e = .returned (.tuple #[])∧(Lib.BuilderAtF 172 5 B b (.pointer (some ⟨b,0,none⟩)) bs w'∧Below B w w'∧Lib.OthersKept 5 (some b) w w'):=by
 rcases h with h | h
 ·refine (copy_fresh b w h.cell0 h.shape h.frozen0).mono ?_
  rintro e w' ⟨rfl,rfl⟩
  exact ⟨rfl,h.used _,(Below.refl B w).setCell (p:=⟨b,0,none⟩) h.1 _,(Lib.OthersKept.refl _ _ w).setCell ⟨b,0,none⟩ rfl _⟩
 ·refine (copy_used b w h.cell0).mono ?_
  rintro e w' ⟨rfl,rfl⟩
  exact ⟨rfl,h,Below.refl B _,Lib.OthersKept.refl _ _ _⟩
theorem write_byte (B b:Nat) (bs:List Value) (c:Int) (w:World) (h:Lib.IsBuilderF 172 5 B b bs w) (hlen:bs.length + 1 ≤ 140737488355328) (hBw:B ≤ w.heap.size) :
  Calls Tryz.prog 204 #[.pointer (some ⟨b,0,none⟩),.int .u8 c] w fun e w'=>e = .returned .nilIface∧(Lib.BuilderAtF 172 5 B b (.pointer (some ⟨b,0,none⟩)) (bs++[.int .u8 c]) w'∧Below B w w'∧Lib.OthersKept 5 (some b) w w'):=by
 obtain ⟨i0,hi,hz0,hz1,hz2⟩:=info_parts infoByte
 go_enter Tryz.func204,Tryz.ntmps204
 go_wp2_with (go_at_call 134;refine (copy_k B b bs _ h).mono ?_)
 rintro e w1 ⟨rfl,h1,hb1,hk1⟩
 obtain ⟨hB,v,hbk,hown,hne⟩:=h1
 have c0:w1.cell? ⟨b,0,none⟩=some (.pointer (some ⟨b,0,none⟩)):=by rw [Lib.cell_of_heap hbk];rfl
 have c1:w1.cell? ⟨b,1,none⟩=some v:=by rw [Lib.cell_of_heap hbk];rfl
 go_wp2_with (at_builtin;refine wpList_append_ownF _ rfl _ _ 113 rfl B 5 i0 (.int .u8 0) 1 1 Tryz.underlying113 hi hz0 hz1 hz2 rfl (by decide) _ _ _ rfl (hown.alloc _) ⟨w1.heap.size,0,none⟩ 1 1 [.int .u8 c] rfl rfl ?c1 ?c2 ?c3 ?c4 ?c5 ?_)
 case c1 =>
  intro j u hj
  match j,hj with
  | 0,hj=>simp at hj;subst hj;simp [Addr.add]
 case c2=>intro u hu;simp at hu;subst hu;rfl
 case c3=>unfold maxLen;omega
 case c4=>omega
 case c5=>have:=hb1.size;simp;omega
 intro v' w2 hown' hgrow _
 have hlt:b < w1.heap.size:=by
  rcases Nat.lt_or_ge b w1.heap.size with h' | h'
  ·exact h'
  ·simp [Array.getElem?_eq_none h'] at hbk
 have hb2:w2.heap[b]? = some (.cells #[.pointer (some ⟨b,0,none⟩),v] 172 (0,0)):=by
  rw [hgrow.block b (by simp;omega) (fun e=>hne e.symm),Lib.alloc_old w1 _ b hlt]
  exact hbk
 have d0:w2.cell? ⟨b,0,none⟩=some (.pointer (some ⟨b,0,none⟩)):=by rw [Lib.cell_of_heap hb2];rfl
 have d1:w2.cell? ⟨b,1,none⟩=some v:=by rw [Lib.cell_of_heap hb2];rfl
 have f1:w2.frozen? ⟨b,1,none⟩=false:=Lib.frozen_of_heap hb2 1
 obtain ⟨g,cap,rfl⟩:∃ g cap,v' = .slice (some ⟨g,0,none⟩) (bs.length + 1) cap:=by
  rcases hown'.2 with ⟨_,h0⟩ | ⟨g,cap,cur,fz,hv,_⟩
  ·omega
  ·exact ⟨g,cap,hv⟩
 go_wp2
 go_ret
 refine ⟨rfl,?_,?_,((hk1.alloc _).grown hgrow (Lib.ownsRowF_kind (hown.alloc _))).setCell ⟨b,1,none⟩ rfl _⟩
 ·exact Lib.BuilderAtF.put (T:=172) (e:=5) hB hb2 (bs':=bs++[.int .u8 c]) (by simpa using hown') (by decide)
 ·exact ((hb1.alloc (by have:=hb1.size;omega) _).grown hgrow (by have:=hb1.size;simp;omega) (fun k hk=>(hown.lt k hk).1)).setCell (p:=⟨b,1,none⟩) hB _
theorem write_string (B b:Nat) (bs:List Value) (s:ByteArray) (w:World) (h:Lib.IsBuilderF 172 5 B b bs w) (hlen:bs.length + s.size ≤ 140737488355328) (hBw:B ≤ w.heap.size) :
  Calls Tryz.prog 112 #[.pointer (some ⟨b,0,none⟩),.string s] w fun e w'=>e = .returned (.tuple #[.int .i64 s.size,.nilIface])∧(Lib.BuilderAtF 172 5 B b (.pointer (some ⟨b,0,none⟩)) (bs++Lib.strCells s) w'∧Below B w w'∧Lib.OthersKept 5 (some b) w w'):=by
 obtain ⟨i0,hi,hz0,hz1,hz2⟩:=info_parts infoByte
 go_enter Tryz.func112,Tryz.ntmps112
 go_wp2_with (go_at_call 134;refine (copy_k B b bs _ h).mono ?_)
 rintro e w1 ⟨rfl,h1,hb1,hk1⟩
 obtain ⟨hB,v,hbk,hown,hne⟩:=h1
 have c0:w1.cell? ⟨b,0,none⟩=some (.pointer (some ⟨b,0,none⟩)):=by rw [Lib.cell_of_heap hbk];rfl
 have c1:w1.cell? ⟨b,1,none⟩=some v:=by rw [Lib.cell_of_heap hbk];rfl
 go_wp2_with (at_builtin;refine Lib.wpList_append_own_stringF _ rfl _ _ 113 9 rfl B 5 i0 Tryz.underlying113 Tryz.underlying9 hi hz0 hz1 hz2 _ _ _ rfl hown s rfl ?c3 ?c4 ?c5 ?_)
 case c3=>unfold maxLen;omega
 case c4=>omega
 case c5=>have:=hb1.size;omega
 intro v' w2 hown' hgrow _
 have hlt:b < w1.heap.size:=by
  rcases Nat.lt_or_ge b w1.heap.size with h' | h'
  ·exact h'
  ·simp [Array.getElem?_eq_none h'] at hbk
 have hb2:w2.heap[b]? = some (.cells #[.pointer (some ⟨b,0,none⟩),v] 172 (0,0)):=by
  rw [hgrow.block b hlt (fun e=>hne e.symm)]
  exact hbk
 have d0:w2.cell? ⟨b,0,none⟩=some (.pointer (some ⟨b,0,none⟩)):=by rw [Lib.cell_of_heap hb2];rfl
 have d1:w2.cell? ⟨b,1,none⟩=some v:=by rw [Lib.cell_of_heap hb2];rfl
 have f1:w2.frozen? ⟨b,1,none⟩=false:=Lib.frozen_of_heap hb2 1
 obtain ⟨ao,n',cap,rfl⟩:∃ ao n' cap,v' = .slice ao n' cap:=by
  rcases hown'.2 with ⟨hv,_⟩ | ⟨g,cap,cur,fz,hv,_⟩
  ·exact ⟨_,_,_,hv⟩
  ·exact ⟨_,_,_,hv⟩
 go_wp2
 go_ret2
 refine ⟨rfl,?_,?_,(hk1.grown hgrow (Lib.ownsRowF_kind hown)).setCell ⟨b,1,none⟩ rfl _⟩
 ·exact Lib.BuilderAtF.put (T:=172) (e:=5) hB hb2 (bs':=bs++Lib.strCells s) (by simpa [Lib.strCells_length] using hown') (by decide)
 ·exact (hb1.grown hgrow (by have:=hb1.size;omega) (fun k hk=>(hown.lt k hk).1)).setCell (p:=⟨b,1,none⟩) hB _
open Go.RowKit Go.Joins
set_option maxRecDepth 100000
def numsBody (zs:List Int):List UInt8:=(zs.map fun z=>Lib.itoa z++[59]).flatten
theorem numsBody_snoc (zs:List Int) (z:Int):numsBody (zs++[z])=numsBody zs++(Lib.itoa z++[59]):=by simp [numsBody]
theorem numsBody_len:∀ (zs:List Int),(∀ z ∈ zs,-9223372036854775808 ≤ z∧z ≤ 9223372036854775807)→(numsBody zs).length ≤ 22 * zs.length
 | [],_=>by simp [numsBody]
 | z :: r,h=>by
  have h1:=numsBody_len r (fun x hx=>h x (by simp [hx]))
  have h2:=itoa_len z (h z (by simp)).1 (h z (by simp)).2
  simp only [numsBody,List.map_cons,List.flatten_cons,List.length_append,List.length_cons,List.length_nil] at *
  omega
theorem item_int (n:Int) (h0:-9223372036854775808 ≤ n) (h1:n ≤ 9223372036854775807) (w:World) (ht:Tabs w) :
  Calls Tryz.prog 198 #[.int .i64 n] w fun e w'=>e = .returned (.tuple #[.string ⟨(Lib.itoa n++[59]).toArray⟩,.int .i64 0])∧Below w.heap.size w w':=by
 go_enter Tryz.func198,Tryz.ntmps198
 go_wp2_with (go_at_call 37;refine (number_any n h0 h1 _ ht).mono ?_)
 rintro e w1 ⟨rfl,hb⟩
 go_wp2
 go_ret2
 exact ⟨rfl,hb⟩
theorem ownsF_below {w w':World} {B e s n:Nat} {v:Value} {xs:List Value} (h:w.ownsRowF B e s v n xs) (hb:Below w.heap.size w w'):w'.ownsRowF B e s v n xs:=by
 refine ⟨h.1,?_⟩
 rcases h.2 with hn | ⟨g,cap,cur,fz,rfl,hB,hg,rest⟩
 ·exact .inl hn
 ·exact .inr ⟨g,cap,cur,fz,rfl,hB,by rw [hb.block g (Array.getElem?_eq_some_iff.1 hg).1];exact hg,rest⟩
theorem atF_below {w w':World} {T e B b:Nat} {p:Value} {bs:List Value} (h:Lib.BuilderAtF T e B b p bs w) (hb:Below w.heap.size w w'):Lib.BuilderAtF T e B b p bs w':=by
 obtain ⟨hB,v,hbk,hown,hne⟩:=h
 exact ⟨hB,v,by rw [hb.block b (Array.getElem?_eq_some_iff.1 hbk).1];exact hbk,ownsF_below hown hb,hne⟩
theorem isF_below {w w':World} {T e B b:Nat} {bs:List Value} (h:Lib.IsBuilderF T e B b bs w) (hb:Below w.heap.size w w'):Lib.IsBuilderF T e B b bs w' :=
 h.elim (fun x=>.inl (atF_below x hb)) (fun x=>.inr (atF_below x hb))
theorem getD_at {α:Type} (zs:List α) (d:α) (k:Nat) (h:k < zs.length):zs.getD k d=zs[k]:=by simp [List.getD,h]
theorem take_snoc {α:Type} (zs:List α) (d:α) (k:Nat) (h:k < zs.length):zs.take (k + 1)=zs.take k++[zs.getD k d]:=by
 rw [List.take_succ_eq_append_getElem h,getD_at zs d k h]
theorem list31 (a:Option Addr) (len cap:Nat) (zs:List Int) (hlen:zs.length=len) (h512:len ≤ 512)
  (hz:∀ z ∈ zs,-9223372036854775808 ≤ z∧z ≤ 9223372036854775807) (w:World) (ht:Tabs w)
  (hcell:∀ (j:Nat),j < len→∃ b off,a=some ⟨b,off,none⟩∧b < w.heap.size∧w.cell? ⟨b,off + j,none⟩=some (.int .i64 (zs.getD j 0))) :
  Calls Tryz.prog 197 #[.slice a len cap,.func (.func 198) #[] #[]] w fun e w'=>e = .returned (.tuple #[.string ⟨(40 :: numsBody zs++[41]).toArray⟩,.int .i64 0])∧Below w.heap.size w w':=by
 have HF:Hid (Lib.IsBuilderF 172 5 w.heap.size w.heap.size [] (w.alloc (.cells #[.pointer none,.slice none 0 0] 172))):=Lib.IsBuilderF.of (Lib.fresh_isBuilder 172 5 w)
 have h13:decide (512 < (len:Int))=false:=by simp;omega
 go_enter Tryz.func197,Tryz.ntmps197
 go_wp2_with fail
 refine (write_byte w.heap.size w.heap.size [] 40 _ HF.out (by simp) (by simp)).mono ?_
 rintro e w1 ⟨rfl,h1,hb1,-⟩
 have HB1:Hid (Below w.heap.size w w1):=(below_alloc1 w _).trans hb1
 have H1:Hid (Lib.IsBuilderF 172 5 w.heap.size w.heap.size (Lib.byteCells (40 :: numsBody (zs.take 0))) w1):=Or.inr h1
 clear h1 hb1
 go_wp2
 go_loopw [17] (fun i w'=>∃ k:Nat,k ≤ len∧i = .int .i64 k∧Hid (Lib.IsBuilderF 172 5 w.heap.size w.heap.size (Lib.byteCells (40 :: numsBody (zs.take k))) w')∧Hid (Below w.heap.size w w')) (fun i _=>len - (intOf i).toNat)
 case atStart=>exact ⟨0,Nat.zero_le _,rfl,H1,HB1⟩
 case round =>
  obtain ⟨k,hk,rfl,HI,HB⟩:=hrel
  clear H1 HB1 HF
  have hsz:=HB.out.size
  have htr:Tabs wr:=ht.stays HB.out
  have hlk:=numsBody_len (zs.take k) (fun z hzz=>hz z (List.mem_of_mem_take hzz))
  have hlt':(zs.take k).length ≤ 512:=by rw [List.length_take];omega
  by_cases hlt:k < len
  ·obtain ⟨b,off,rfl,hbs,hc⟩:=hcell k hlt
   have hzk:=hz (zs.getD k 0) (by rw [getD_at _ _ _ (by omega)];exact List.getElem_mem _)
   have HT:Hid (zs.take (k + 1)=zs.take k++[zs.getD k 0]):=take_snoc zs 0 k (by omega)
   generalize zs.getD k 0=z at *
   have hcr:wr.cell? ⟨b,off + k,none⟩=some (.int .i64 z):=(HB.out.cell hbs).trans hc
   have hil:=itoa_len z hzk.1 hzk.2
   clear hc hcell
   go_wp2_with fail
   refine (item_int z hzk.1 hzk.2 _ htr).mono ?_
   rintro e w2 ⟨rfl,hb2⟩
   have HI2:Hid (Lib.IsBuilderF 172 5 w.heap.size w.heap.size (Lib.byteCells (40 :: numsBody (zs.take k))) w2):=isF_below HI.out hb2
   have HB2:Hid (Below w.heap.size w w2):=below_two HB.out hb2
   have hsz2:w.heap.size ≤ w2.heap.size:=HB2.out.size
   clear hb2 HI HB hcr htr
   go_wp2_with fail
   refine (write_string w.heap.size w.heap.size _ _ _ HI2.out (by simp [Lib.byteCells,ByteArray.size];omega) hsz2).mono ?_
   rintro e w3 ⟨rfl,h3,hb3,-⟩
   have H3:Hid (Lib.IsBuilderF 172 5 w.heap.size w.heap.size (Lib.byteCells (40 :: numsBody (zs.take (k + 1)))) w3):=by
    refine Or.inr ?_
    rw [HT.out,numsBody_snoc]
    simpa [Lib.byteCells,Lib.strCells] using h3
   have HB3:Hid (Below w.heap.size w w3):=HB2.out.trans hb3
   clear h3 hb3 HI2 HB2 HT hsz2
   go_wp2
   go_roundw
   case rel=>exact ⟨k + 1,by omega,by go_num,H3,HB3⟩
   case measure=>simp [intOf];omega
  ·have hkl:k=len:=by omega
   have HK:Hid (zs.take k=zs):=by show _=_;rw [hkl,← hlen,List.take_length]
   clear hkl hcell
   go_wp2_with fail
   refine (write_byte w.heap.size w.heap.size _ 41 _ HI.out (by simp [Lib.byteCells];omega) hsz).mono ?_
   rintro e w2 ⟨rfl,h2,hb2,-⟩
   have H2:Hid (Lib.IsBuilderF 172 5 w.heap.size w.heap.size (Lib.byteCells (40 :: numsBody zs++[41])) w2):=by
    refine Or.inr ?_
    rw [HK.out] at h2
    simpa [Lib.byteCells] using h2
   have HB2:Hid (Below w.heap.size w w2):=HB.out.trans hb2
   have hsz2:w.heap.size ≤ w2.heap.size:=HB2.out.size
   clear h2 hb2 HI HB
   go_wp2_with fail
   refine (Tryz.Builder_String_any_k w.heap.size w.heap.size (40 :: numsBody zs++[41]) _ H2.out hsz2).mono ?_
   rintro e w3 ⟨rfl,h3,hb3,-⟩
   have HB3:Hid (Below w.heap.size w w3):=HB2.out.trans hb3
   clear h3 hb3
   go_wp2
   go_ret2
   exact ⟨rfl,HB3.out⟩
open Go.RowKit Go.Joins
set_option maxRecDepth 100000
def textB (l:List UInt8):List UInt8:=Lib.decDigits l.length++58 :: l
theorem textB_len (l:List UInt8) (h:l.length ≤ 16384):(textB l).length ≤ 16410:=by
 unfold textB
 have:=nDigits_le20 l.length (by omega)
 rw [List.length_append,Lib.decDigits_length,List.length_cons];omega
theorem size_list (s:ByteArray):s.data.toList.length=s.size:=by rw [Array.length_toList];rfl
theorem text_join (s:ByteArray):(⟨(Lib.decDigits s.size).toArray⟩:ByteArray) ++ ⟨#[58]⟩++s=⟨(textB s.data.toList).toArray⟩:=by
 rw [bcat (Lib.decDigits s.size) [58] _ rfl,bcat (Lib.decDigits s.size++[58]) s.data.toList s (bytes_eta s).symm]
 unfold textB
 rw [size_list]
 simp
theorem itoa_nat (n:Nat):Lib.itoa (n:Int)=Lib.decDigits n:=by unfold Lib.itoa;rw [if_neg (by omega),Int.toNat_natCast]
theorem text_ok (s:ByteArray) (hs:s.size ≤ 16384) (w:World) (ht:Tabs w) :
  Calls Tryz.prog 34 #[.string s] w fun e w'=>e = .returned (.tuple #[.string ⟨(textB s.data.toList).toArray⟩,.int .i64 0])∧Below w.heap.size w w':=by
 have hl:(Lib.decDigits s.size).length ≤ 20:=by rw [Lib.decDigits_length];exact nDigits_le20 _ (by omega)
 have HI:Hid (∀ w:World,Tabs w→Calls Tryz.prog 63 #[.int .i64 (s.size:Int)] w fun e w'=>e = .returned (.string ⟨(Lib.decDigits s.size).toArray⟩)∧Below w.heap.size w w'):=by
  intro w ht
  have:=itoa_any (s.size:Int) (by omega) (by omega) w ht
  rwa [itoa_nat] at this
 go_enter Tryz.func34,Tryz.ntmps34
 go_wp2_with fail
 refine (HI.out _ ht).mono ?_
 rintro e w1 ⟨rfl,hb⟩
 go_wp2
 go_ret2
 exact ⟨congrArg (fun x=>Ending.returned (.tuple #[Value.string x,.int .i64 0])) (text_join s),hb⟩
theorem text_big (s:ByteArray) (hs:16384 < s.size) (w:World) :
  Calls Tryz.prog 34 #[.string s] w fun e w'=>e = .returned (.tuple #[.string ⟨#[]⟩,.int .i64 4])∧w' = w:=by
 go_enter Tryz.func34,Tryz.ntmps34
 go_wp2
 go_ret2
 exact ⟨rfl,rfl⟩
theorem refText_ok (s:ByteArray) (hs:s.size ≤ 16384) (w:World) :
  Calls Tryz.prog 122 #[.string s] w fun e w'=>e = .returned (.tuple #[.string ⟨(textB s.data.toList).toArray⟩,.int .i64 0])∧Below w.heap.size w w':=by
 have hl:(Lib.decDigits s.size).length ≤ 20:=by rw [Lib.decDigits_length];exact nDigits_le20 _ (by omega)
 go_enter Tryz.func122,Tryz.ntmps122
 go_wp2_with fail
 refine (digits_any s.size (by omega) _).mono ?_
 rintro e w1 ⟨rfl,hb⟩
 go_wp2
 go_ret2
 exact ⟨congrArg (fun x=>Ending.returned (.tuple #[Value.string x,.int .i64 0])) (text_join s),hb⟩
end Go.Proofs.YthkkjjlpahdagaaGreatDoor.Lay
