/-
  The library's contracts that this seat's proofs use (of strconv, strings), laid at this translation by the shelf's own tool in plain words.
-/
import Derived.Shelf.Strings.BuilderK
import Derived.Shelf.Strconv.Itoa3
import Derived.Shelf.Strconv.ErrVarAll
import Derived.Shelf.Strings.Prefix
import Derived.Shelf.Strconv.Clone
import Derived.Test.YthkkjjlpahdagaaGreatDoorProg
import Derived.Lib.FrozenHead2
import Derived.Lib.OthersKept
import Derived.WalkKit
import Derived.WalkSpells
import Derived.WalkLawsBesides
import Derived.Lib.SmallJoins
import Derived.Deep.RegionWith
import Derived.Sort.Grow
set_option maxHeartbeats 1000000
namespace Go.Proofs
open Go.Shelf
def Tryz.lays169_ren:Go.Shelf.Ren:=⟨fun | 169=>113 | n=>n,fun | 70=>170 | 9=>9 | 0=>0 | 72=>172 | 37=>113 | 127=>164 | 3=>3 | 5=>5 | n=>n,fun | n=>n⟩
theorem Tryz.lays169:Go.Proofs.Lays.n169 Tryz.prog Tryz.lays169_ren:={
 mixed:=by kernel_rfl
 f169:=Tryz.func113.trans (congrArg some (by kernel_rfl))
 t0:=Tryz.underlying0
 a0:=Tryz.isAgg0
 z0:=Tryz.sizeOf0
 v0:=Tryz.zeroValue0
 t3:=Tryz.underlying3
 a3:=Tryz.isAgg3
 z3:=Tryz.sizeOf3
 v3:=Tryz.zeroValue3
 t9:=Tryz.underlying9
 a9:=Tryz.isAgg9
 z9:=Tryz.sizeOf9
 v9:=Tryz.zeroValue9
 t37:=Tryz.underlying113
 a37:=Tryz.isAgg113
 z37:=Tryz.sizeOf113
 v37:=Tryz.zeroValue113
 t70:=Tryz.underlying170
 a70:=Tryz.isAgg170
 z70:=Tryz.sizeOf170
 v70:=Tryz.zeroValue170
 t72:=Tryz.underlying172
 a72:=Tryz.isAgg172
 z72:=Tryz.sizeOf172
 v72:=Tryz.zeroValue172
 t127:=Tryz.underlying164
 a127:=Tryz.isAgg164
 z127:=Tryz.sizeOf164
 v127:=Tryz.zeroValue164 }
theorem Tryz.Builder_Extra_169:Builder.Extra Tryz.prog Tryz.lays169_ren:={
 sizeBuilder:=by kernel_rfl
 liesBuilder:=by kernel_rfl
 t5:=Tryz.underlying5
 a5:=Tryz.isAgg5
 z5:=Tryz.sizeOf5
 v5:=Tryz.zeroValue5
 infoByte:=by kernel_rfl
 cellsByte:=by kernel_rfl
 sizeByte:=by kernel_rfl
 neB5:=by decide }
open Go.RowKit in
theorem Tryz.Builder_String_any_k (B b:Nat) (l:List UInt8) (w:World) (h:Lib.IsBuilderF 172 5 B b (Lib.byteCells l) w) (hBw:B ≤ w.heap.size) :
  Calls Tryz.prog 113 #[.pointer (some ⟨b,0,none⟩)] w fun e w'=>e = .returned (.string ⟨l.toArray⟩)∧(Lib.IsBuilderF 172 5 B b (Lib.byteCells l) w'∧Below B w w'∧Lib.OthersKept 5 (some b) w w'):=Any.Builder_String_any_k Tryz.lays169 Tryz.Builder_Extra_169 B b l w h hBw
def Tryz.laysM171_ren:Go.Shelf.Ren:=⟨fun | 171=>63 | 243=>90 | 246=>106 | 283=>123 | 284=>124 | 285=>125 | 286=>126 | 129=>149 | 317=>148 | 318=>150 | 319=>151 | 320=>152 | 337=>186 | 338=>187 | n=>n,fun | 3=>3 | 9=>9 | 2=>2 | 4=>4 | 171=>194 | 0=>0 | 53=>154 | 37=>113 | 5=>5 | 173=>197 | 212=>217 | 51=>148 | 20=>20 | 213=>218 | 46=>199 | 232=>22 | 233=>146 | n=>n,fun | 17=>1 | 18=>2 | 19=>3 | n=>n⟩
theorem Tryz.laysM171:Go.Proofs.LaysM.n171 Tryz.prog Tryz.laysM171_ren:={
 mixed:=by kernel_rfl
 f129:=Tryz.func149.trans (congrArg some (by kernel_rfl))
 f171:=Tryz.func63.trans (congrArg some (by kernel_rfl))
 f243:=Tryz.func90.trans (congrArg some (by kernel_rfl))
 f246:=Tryz.func106.trans (congrArg some (by kernel_rfl))
 f283:=Tryz.func123.trans (congrArg some (by kernel_rfl))
 f284:=Tryz.func124.trans (congrArg some (by kernel_rfl))
 f285:=Tryz.func125.trans (congrArg some (by kernel_rfl))
 f286:=Tryz.func126.trans (congrArg some (by kernel_rfl))
 f317:=Tryz.func148.trans (congrArg some (by kernel_rfl))
 f318:=Tryz.func150.trans (congrArg some (by kernel_rfl))
 f319:=Tryz.func151.trans (congrArg some (by kernel_rfl))
 f320:=Tryz.func152.trans (congrArg some (by kernel_rfl))
 f337:=Tryz.func186.trans (congrArg some (by kernel_rfl))
 f338:=Tryz.func187.trans (congrArg some (by kernel_rfl))
 t0:=Tryz.underlying0
 a0:=Tryz.isAgg0
 z0:=Tryz.sizeOf0
 v0:=Tryz.zeroValue0
 t2:=Tryz.underlying2
 a2:=Tryz.isAgg2
 z2:=Tryz.sizeOf2
 v2:=Tryz.zeroValue2
 t3:=Tryz.underlying3
 a3:=Tryz.isAgg3
 z3:=Tryz.sizeOf3
 v3:=Tryz.zeroValue3
 t4:=Tryz.underlying4
 a4:=Tryz.isAgg4
 z4:=Tryz.sizeOf4
 v4:=Tryz.zeroValue4
 t5:=Tryz.underlying5
 a5:=Tryz.isAgg5
 z5:=Tryz.sizeOf5
 v5:=Tryz.zeroValue5
 t9:=Tryz.underlying9
 a9:=Tryz.isAgg9
 z9:=Tryz.sizeOf9
 v9:=Tryz.zeroValue9
 t20:=Tryz.underlying20
 a20:=Tryz.isAgg20
 z20:=Tryz.sizeOf20
 v20:=Tryz.zeroValue20
 t37:=Tryz.underlying113
 a37:=Tryz.isAgg113
 z37:=Tryz.sizeOf113
 v37:=Tryz.zeroValue113
 t46:=Tryz.underlying199
 a46:=Tryz.isAgg199
 z46:=Tryz.sizeOf199
 v46:=Tryz.zeroValue199
 t51:=Tryz.underlying148
 a51:=Tryz.isAgg148
 z51:=Tryz.sizeOf148
 v51:=Tryz.zeroValue148
 t53:=Tryz.underlying154
 a53:=Tryz.isAgg154
 z53:=Tryz.sizeOf154
 v53:=Tryz.zeroValue154
 t171:=Tryz.underlying194
 a171:=Tryz.isAgg194
 z171:=Tryz.sizeOf194
 v171:=Tryz.zeroValue194
 t173:=Tryz.underlying197
 a173:=Tryz.isAgg197
 z173:=Tryz.sizeOf197
 v173:=Tryz.zeroValue197
 t212:=Tryz.underlying217
 a212:=Tryz.isAgg217
 z212:=Tryz.sizeOf217
 v212:=Tryz.zeroValue217
 t213:=Tryz.underlying218
 a213:=Tryz.isAgg218
 z213:=Tryz.sizeOf218
 t232:=Tryz.underlying22
 a232:=Tryz.isAgg22
 z232:=Tryz.sizeOf22
 v232:=Tryz.zeroValue22
 t233:=Tryz.underlying146
 a233:=Tryz.isAgg146
 z233:=Tryz.sizeOf146
 v233:=Tryz.zeroValue146
 g17:=by kernel_rfl
 g18:=by kernel_rfl
 g19:=by kernel_rfl
 i0:=by kernel_rfl
 i2:=by kernel_rfl
 i3:=by kernel_rfl
 i4:=by kernel_rfl
 i5:=by kernel_rfl
 i9:=by kernel_rfl
 i20:=by kernel_rfl
 i37:=by kernel_rfl
 i46:=by kernel_rfl
 i51:=by kernel_rfl
 i53:=by kernel_rfl
 i171:=by kernel_rfl
 i173:=by kernel_rfl
 i212:=by kernel_rfl
 i232:=by kernel_rfl
 i233:=by kernel_rfl
 m17:=by kernel_rfl
 m18:=by kernel_rfl
 m19:=by kernel_rfl }
open Go.RowKit Go.Sort Go.Lib in
theorem Tryz.strconv_Itoa (n:Int) (h0:-9223372036854775808 ≤ n) (h1:n ≤ 9223372036854775807) (w:World) (htab:Lib.TabIs Tryz.prog w "internal/strconv.uint64pow10" .u64 Lib.pow10Tab) :
  Calls Tryz.prog 63 #[.int .i64 n] w fun e w'=>e = .returned (.string ⟨(Lib.itoa n).toArray⟩)∧∃ k os,w' = grow (w.drewN k) os:=Any.strconv_Itoa Tryz.laysM171 n h0 h1 w htab
def Tryz.laysM316_ren:Go.Shelf.Ren:=⟨fun | 316=>88 | n=>n,fun | 9=>9 | 3=>3 | 4=>4 | 37=>113 | 0=>0 | 127=>164 | 5=>5 | n=>n,fun | n=>n⟩
theorem Tryz.laysM316:Go.Proofs.LaysM.n316 Tryz.prog Tryz.laysM316_ren:={
 mixed:=by kernel_rfl
 f316:=Tryz.func88.trans (congrArg some (by kernel_rfl))
 t0:=Tryz.underlying0
 a0:=Tryz.isAgg0
 z0:=Tryz.sizeOf0
 v0:=Tryz.zeroValue0
 t3:=Tryz.underlying3
 a3:=Tryz.isAgg3
 z3:=Tryz.sizeOf3
 v3:=Tryz.zeroValue3
 t4:=Tryz.underlying4
 a4:=Tryz.isAgg4
 z4:=Tryz.sizeOf4
 v4:=Tryz.zeroValue4
 t9:=Tryz.underlying9
 a9:=Tryz.isAgg9
 z9:=Tryz.sizeOf9
 v9:=Tryz.zeroValue9
 t37:=Tryz.underlying113
 a37:=Tryz.isAgg113
 z37:=Tryz.sizeOf113
 v37:=Tryz.zeroValue113
 t127:=Tryz.underlying164
 a127:=Tryz.isAgg164
 z127:=Tryz.sizeOf164
 v127:=Tryz.zeroValue164
 t5:=Tryz.underlying5
 a5:=Tryz.isAgg5
 z5:=Tryz.sizeOf5
 v5:=Tryz.zeroValue5
 i0:=by kernel_rfl
 i3:=by kernel_rfl
 i4:=by kernel_rfl
 i5:=by kernel_rfl
 i9:=by kernel_rfl
 i37:=by kernel_rfl
 i127:=by kernel_rfl }
open Go.RowKit in
theorem Tryz.stringslite_Clone (s:ByteArray) (w:World) (hlim:s.size ≤ 281474976710656) :
  Calls Tryz.prog 88 #[.string s] w fun e w'=>e = .returned (.string s)∧Below w.heap.size w w':=Any.stringslite_Clone Tryz.laysM316 s w hlim
def Tryz.lays99_ren:Go.Shelf.Ren:=⟨fun | 99=>87 | 206=>105 | n=>n,fun | 9=>9 | 4=>4 | 3=>3 | n=>n,fun | n=>n⟩
theorem Tryz.lays99:Go.Proofs.Lays.n99 Tryz.prog Tryz.lays99_ren:={
 mixed:=by kernel_rfl
 f99:=Tryz.func87.trans (congrArg some (by kernel_rfl))
 f206:=Tryz.func105.trans (congrArg some (by kernel_rfl))
 t3:=Tryz.underlying3
 a3:=Tryz.isAgg3
 z3:=Tryz.sizeOf3
 v3:=Tryz.zeroValue3
 t4:=Tryz.underlying4
 a4:=Tryz.isAgg4
 z4:=Tryz.sizeOf4
 v4:=Tryz.zeroValue4
 t9:=Tryz.underlying9
 a9:=Tryz.isAgg9
 z9:=Tryz.sizeOf9
 v9:=Tryz.zeroValue9 }
open Go.RowKit Go.Lib in
theorem Tryz.strings_HasPrefix (s p:ByteArray) (w:World) :
  Calls Tryz.prog 87 #[.string s,.string p] w fun e w'=>e = .returned (.bool (Lib.hasPrefix s.data.toList p.data.toList))∧w' = w:=Any.strings_HasPrefix Tryz.lays99 s p w
end Go.Proofs
namespace Go.Proofs.YthkkjjlpahdagaaGreatDoor.Lay
open Go.RowKit Go.Joins
set_option maxRecDepth 100000
theorem gPow:Tryz.prog.globalNamed "internal/strconv.uint64pow10" = some 1:=by kernel_rfl
theorem gRange:Tryz.prog.globalNamed "strconv.ErrRange" = some 5:=by kernel_rfl
def Tabs (w:World):Prop:=Lib.TabIs Tryz.prog w "internal/strconv.uint64pow10" .u64 Lib.pow10Tab∧∃ tp p,w.var? Tryz.prog "strconv.ErrRange" = some #[.iface tp p]
theorem Tabs.stays {w w':World} (h:Tabs w) (hb:Below w.heap.size w w'):Tabs w':=by
 obtain ⟨h1,tp,p,h2⟩:=h
 exact ⟨tab_stays gPow h1 hb (Nat.le_refl _),tp,p,var_stays gRange h2 hb (Nat.le_refl _)⟩
theorem below_grown (w:World) (k:Nat) (os:Array Obj):Below w.heap.size w (Sort.grow (w.drewN k) os) :=
 ⟨rfl,rfl,rfl,by show w.heap.size ≤ (w.heap++os).size;rw [Array.size_append];omega,fun j hj=>by show (w.heap++os)[j]? = w.heap[j]?;rw [Array.getElem?_append_left hj]⟩
theorem nDigits_le20 (u:Nat) (h:u < 18446744073709551616):Lib.nDigits u ≤ 20:=by
 rcases Nat.eq_zero_or_pos u with h0 | h0
 ·subst h0;rw [Lib.nDigits_small (by omega)];omega
 ·have:=Lib.numDigits_eq u h0 h;split at this <;> omega
theorem itoa_len (n:Int) (h0:-9223372036854775808 ≤ n) (h1:n ≤ 9223372036854775807):(Lib.itoa n).length ≤ 21:=by
 unfold Lib.itoa
 split
 ·have:=nDigits_le20 n.natAbs (by omega);rw [List.length_cons,Lib.decDigits_length];omega
 ·have:=nDigits_le20 n.toNat (by omega);rw [Lib.decDigits_length];omega
theorem itoa_any (n:Int) (h0:-9223372036854775808 ≤ n) (h1:n ≤ 9223372036854775807) (w:World) (ht:Tabs w) :
  Calls Tryz.prog 63 #[.int .i64 n] w fun e w'=>e = .returned (.string ⟨(Lib.itoa n).toArray⟩)∧Below w.heap.size w w':=by
 refine (Tryz.strconv_Itoa n h0 h1 w ht.1).mono ?_
 rintro e w' ⟨rfl,k,os,rfl⟩
 exact ⟨rfl,below_grown w k os⟩
theorem bcat (a b:List UInt8) (s:ByteArray) (hs:s=⟨b.toArray⟩):(⟨a.toArray⟩:ByteArray)++s=⟨(a++b).toArray⟩:=by rw [hs];exact ByteArray.mk_append_mk a b
theorem number_any (n:Int) (h0:-9223372036854775808 ≤ n) (h1:n ≤ 9223372036854775807) (w:World) (ht:Tabs w) :
  Calls Tryz.prog 37 #[.int .i64 n] w fun e w'=>e = .returned (.string ⟨(Lib.itoa n++[59]).toArray⟩)∧Below w.heap.size w w':=by
 have hl:=itoa_len n h0 h1
 go_enter Tryz.func37,Tryz.ntmps37
 go_wp2_with (go_at_call 63;refine (itoa_any n h0 h1 _ ht).mono ?_)
 rintro e w1 ⟨rfl,hb⟩
 go_wp2
 go_ret
 exact ⟨congrArg (fun s=>Ending.returned (.string s)) (bcat _ [59] _ rfl),hb⟩
theorem conv1 (W:World) (c:Int):(convert 113 9 (.slice (some ⟨W.heap.size,0,none⟩) 1 1)).run Tryz.prog (W.alloc (.cells #[.int .u8 c] 5)) = .ok (.string ⟨#[UInt8.ofNat c.toNat]⟩) (W.alloc (.cells #[.int .u8 c] 5)) :=
 run_convert_bytes_arg (P:=Tryz.prog) (W.alloc (.cells #[.int .u8 c] 5)) 113 5 Tryz.underlying113 Tryz.underlying5 W.heap.size 0 1 1 [c] rfl (fun i hi=>by
  have hi0:i=0:=by omega
  subst hi0
  simp) 9 Tryz.underlying9
theorem digits_small (u:Nat) (hu:u < 10) (w:World) :
  Calls Tryz.prog 85 #[.int .i64 u] w fun e w'=>e = .returned (.string ⟨(Lib.decDigits u).toArray⟩)∧Below w.heap.size w w':=by
 have hc:=conv1
 rw [Lib.decDigits_one hu]
 go_enter Tryz.func85,Tryz.ntmps85
 go_wp2
 go_ret
 exact ⟨rfl,below_alloc1 w _⟩
theorem bcell {W w1:World} (hb:Below W.heap.size W w1):(∀ b o,b < W.heap.size→w1.cell? ⟨b,o,none⟩=W.cell? ⟨b,o,none⟩)∧(∀ b o,b < W.heap.size→w1.frozen? ⟨b,o,none⟩=W.frozen? ⟨b,o,none⟩) :=
 ⟨fun b o h=>hb.cell (p:=⟨b,o,none⟩) h,fun b o h=>hb.frozen (p:=⟨b,o,none⟩) h⟩
theorem conv1c (c:Int) (W:World) (g:Nat) (h:W.cell? ⟨g,0,none⟩=some (.int .u8 c)):(convert 113 9 (.slice (some ⟨g,0,none⟩) 1 1)).run Tryz.prog W = .ok (.string ⟨#[UInt8.ofNat c.toNat]⟩) W :=
 run_convert_bytes_arg (P:=Tryz.prog) W 113 5 Tryz.underlying113 Tryz.underlying5 g 0 1 1 [c] rfl (fun i hi=>by
  have hi0:i=0:=by omega
  subst hi0
  simpa using h) 9 Tryz.underlying9
theorem below_drew1 {w w':World} (h:Below w.drew.heap.size w.drew w'):Below w.heap.size w w':=⟨h.os,h.tape,h.output,h.size,h.block⟩
theorem below_first {w w':World} (o:Obj) (h:Below (w.alloc o).drew.heap.size (w.alloc o).drew w'):Below w.heap.size w w' :=
 (below_alloc1 w o).drew.trans (h.mono (by show w.heap.size ≤ (w.alloc o).heap.size;simp))
theorem digits_any:∀ (u:Nat),u ≤ 9223372036854775807→∀ (w:World),
  Calls Tryz.prog 85 #[.int .i64 u] w fun e w'=>e = .returned (.string ⟨(Lib.decDigits u).toArray⟩)∧Below w.heap.size w w':=by
 intro u
 induction u using Nat.strongRecOn with
 | ind u ih =>
 intro hu w
 by_cases h10:u < 10
 ·exact digits_small u h10 w
 have ih':=ih (u / 10) (by omega) (by omega)
 clear ih
 have hl:(Lib.decDigits (u / 10)).length ≤ 20:=by rw [Lib.decDigits_length];exact nDigits_le20 _ (by omega)
 have hd:Lib.decDigits u=Lib.decDigits (u / 10)++[UInt8.ofNat (48 + u % 10)]:=by rw [Lib.decDigits,dif_neg h10]
 rw [hd]
 clear hd
 have H:Hid (∀ (a:Int),a=((u / 10:Nat):Int)→∀ (w:World),Calls Tryz.prog 85 #[.int .i64 a] w fun e w'=>e = .returned (.string ⟨(Lib.decDigits (u / 10)).toArray⟩)∧Below w.heap.size w w'):=by
  intro a ha;subst ha;exact ih'
 clear ih'
 generalize Lib.decDigits (u / 10)=l at *
 have hc:=conv1c (IntKind.u8.wrap (IntKind.i64.wrap (48 + (u:Int).tmod 10)))
 have hw:IntKind.i64.wrap ((u:Int) / 10)=((u / 10:Nat):Int):=by rw [IntKind.wrap_i64];omega
 have HW:Hid (IntKind.i64.wrap ((u:Int) / 10)=((u / 10:Nat):Int)):=hw
 clear hw
 have HC:Hid ((⟨l.toArray⟩:ByteArray) ++ ⟨#[UInt8.ofNat (48 + (u:Int) % 10).toNat]⟩=⟨(l++[UInt8.ofNat (48 + u % 10)]).toArray⟩) :=
  bcat l [UInt8.ofNat (48 + u % 10)] _ (by rw [show (48 + (u:Int) % 10).toNat=48 + u % 10 by omega])
 go_enter Tryz.func85,Tryz.ntmps85
 go_wp2
 go_region_with (go_at_call 85;refine (H.out _ HW.out _).mono ?_;rintro e w' ⟨rfl,hb⟩;obtain ⟨hcc,hff⟩:=bcell hb)
 all_goals go_wp2
 all_goals go_ret
 all_goals refine ⟨congrArg (fun s=>Ending.returned (Value.string s)) HC.out,?_⟩
 all_goals first | exact below_first _ hb | exact (below_drew1 hb).alloc hb.size _
theorem digits_int (a:Int) (u:Nat) (ha:a=u) (hu:u ≤ 9223372036854775807) (w:World) :
  Calls Tryz.prog 85 #[.int .i64 a] w fun e w'=>e = .returned (.string ⟨(Lib.decDigits u).toArray⟩)∧Below w.heap.size w w':=by
 subst ha;exact digits_any u hu w
theorem refNumber_pos (n:Int) (h0:0 ≤ n) (h1:n ≤ 9223372036854775807) (w:World) :
  Calls Tryz.prog 52 #[.int .i64 n] w fun e w'=>e = .returned (.string ⟨(Lib.itoa n++[59]).toArray⟩)∧Below w.heap.size w w':=by
 have hi:Lib.itoa n=Lib.decDigits n.toNat:=by unfold Lib.itoa;rw [if_neg (by omega)]
 rw [hi]
 have hl:(Lib.decDigits n.toNat).length ≤ 20:=by rw [Lib.decDigits_length];exact nDigits_le20 _ (by omega)
 clear hi
 go_enter Tryz.func52,Tryz.ntmps52
 go_wp2_with (go_at_call 85;refine (digits_int n n.toNat (by omega) (by omega) _).mono ?_)
 rintro e w1 ⟨rfl,hb⟩
 go_wp2
 go_ret
 exact ⟨congrArg (fun s=>Ending.returned (Value.string s)) (bcat _ [59] _ rfl),hb⟩
theorem tdiv_neg (u:Nat):(-(u:Int)).tdiv 10 = -((u / 10:Nat):Int):=by
 rw [Int.neg_tdiv,Int.tdiv_eq_ediv_of_nonneg (by omega)];omega
theorem below_two {w w1 w2:World} (h1:Below w.heap.size w w1) (h2:Below w1.heap.size w1 w2):Below w.heap.size w w2:=h1.trans (h2.mono h1.size)
theorem refNumber_neg1 (u:Nat) (h0:1 ≤ u) (h1:u < 10) (w:World) :
  Calls Tryz.prog 52 #[.int .i64 (-(u:Int))] w fun e w'=>e = .returned (.string ⟨(Lib.itoa (-(u:Int))++[59]).toArray⟩)∧Below w.heap.size w w':=by
 have hi:Lib.itoa (-(u:Int))=45 :: Lib.decDigits u:=by unfold Lib.itoa;rw [if_pos (by omega),Int.natAbs_neg,Int.natAbs_natCast]
 rw [hi]
 have hl:(Lib.decDigits u).length ≤ 20:=by rw [Lib.decDigits_length];exact nDigits_le20 _ (by omega)
 clear hi
 have hq:((-(u:Int)).tdiv 10 == 0)=true:=by rw [tdiv_neg,beq_iff_eq];omega
 have hn:-(u:Int) < 0:=by omega
 go_enter Tryz.func52,Tryz.ntmps52
 go_wp2_with fail
 refine (digits_int _ u (by omega) (by omega) _).mono ?_
 rintro e w1 ⟨rfl,hb⟩
 go_wp2
 go_ret
 exact ⟨congrArg (fun s=>Ending.returned (Value.string s)) (by rw [bcat _ [59] _ rfl];rfl),hb⟩
end Go.Proofs.YthkkjjlpahdagaaGreatDoor.Lay
