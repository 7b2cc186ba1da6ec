/- S05 -/
import Derived.Shelf.Strings.BuilderK
import Derived.Shelf.Strconv.Itoa3
import Derived.Shelf.Strconv.ErrVarAll
import Derived.Shelf.Strings.Prefix
import Derived.Shelf.Strconv.Clone
import Derived.Test.YtagmnmoaekbffaaGreatDoorProg
import Derived.Lib.FrozenHead2
import Derived.Lib.OthersKept
import Derived.WalkKit
import Derived.WalkSpells
import Derived.WalkLawsBesides
import Derived.Lib.SmallJoins
import Derived.Deep.RegionWith
import Derived.Sort.Grow
set_option maxHeartbeats 1000000
namespace Go.Proofs
open Go.Shelf
def Tryz.lays169_ren:Go.Shelf.Ren:=⟨fun | 169=>112 | n=>n,fun | 70=>172 | 9=>9 | 0=>0 | 72=>174 | 37=>63 | 127=>158 | 3=>3 | 5=>5 | n=>n,fun | n=>n⟩
theorem Tryz.lays169:Go.Proofs.Lays.n169 prog Tryz.lays169_ren:={
 mixed:=by kernel_rfl
 f169:=func112.trans (congrArg some (by kernel_rfl))
 t0:=underlying0
 a0:=Tryz.isAgg0
 z0:=Tryz.sizeOf0
 v0:=Tryz.zeroValue0
 t3:=underlying3
 a3:=Tryz.isAgg3
 z3:=Tryz.sizeOf3
 v3:=Tryz.zeroValue3
 t9:=underlying9
 a9:=Tryz.isAgg9
 z9:=Tryz.sizeOf9
 v9:=Tryz.zeroValue9
 t37:=underlying63
 a37:=Tryz.isAgg63
 z37:=Tryz.sizeOf63
 v37:=Tryz.zeroValue63
 t70:=underlying172
 a70:=Tryz.isAgg172
 z70:=Tryz.sizeOf172
 v70:=Tryz.zeroValue172
 t72:=underlying174
 a72:=Tryz.isAgg174
 z72:=Tryz.sizeOf174
 v72:=Tryz.zeroValue174
 t127:=underlying158
 a127:=Tryz.isAgg158
 z127:=Tryz.sizeOf158
 v127:=Tryz.zeroValue158 }
theorem Tryz.Builder_Extra_169:Builder.Extra prog Tryz.lays169_ren:={
 sizeBuilder:=by kernel_rfl
 liesBuilder:=by kernel_rfl
 t5:=underlying5
 a5:=Tryz.isAgg5
 z5:=Tryz.sizeOf5
 v5:=Tryz.zeroValue5
 infoByte:=by kernel_rfl
 cellsByte:=by kernel_rfl
 sizeByte:=by kernel_rfl
 neB5:=by decide }
open Go.RowKit in
theorem Tryz.Builder_String_any_k (B b:Nat) (l:List UInt8) (w:World) (h:Lib.IsBuilderF 174 5 B b (Lib.byteCells l) w) (hBw:B <= w.heap.size) :
  Calls prog 112 #[.pointer (some ⟨b,0,none⟩)] w fun e w'=>e = .returned (.string ⟨l.toArray⟩)/\(Lib.IsBuilderF 174 5 B b (Lib.byteCells l) w'/\Below B w w'/\Lib.OthersKept 5 (some b) w w'):=Any.Builder_String_any_k Tryz.lays169 Tryz.Builder_Extra_169 B b l w h hBw
def Tryz.laysM171_ren:Go.Shelf.Ren:=⟨fun | 171=>85 | 243=>101 | 246=>121 | 283=>143 | 284=>144 | 285=>145 | 286=>146 | 129=>180 | 317=>179 | 318=>181 | 319=>182 | 320=>183 | 337=>195 | 338=>196 | n=>n,fun | 3=>3 | 9=>9 | 2=>2 | 4=>4 | 171=>214 | 0=>0 | 53=>170 | 37=>63 | 5=>5 | 173=>217 | 212=>239 | 51=>159 | 20=>20 | 213=>240 | 46=>219 | 232=>37 | 233=>163 | n=>n,fun | 17=>1 | 18=>2 | 19=>3 | n=>n⟩
theorem Tryz.laysM171:Go.Proofs.LaysM.n171 prog Tryz.laysM171_ren:={
 mixed:=by kernel_rfl
 f129:=func180.trans (congrArg some (by kernel_rfl))
 f171:=func85.trans (congrArg some (by kernel_rfl))
 f243:=func101.trans (congrArg some (by kernel_rfl))
 f246:=func121.trans (congrArg some (by kernel_rfl))
 f283:=func143.trans (congrArg some (by kernel_rfl))
 f284:=func144.trans (congrArg some (by kernel_rfl))
 f285:=func145.trans (congrArg some (by kernel_rfl))
 f286:=func146.trans (congrArg some (by kernel_rfl))
 f317:=func179.trans (congrArg some (by kernel_rfl))
 f318:=func181.trans (congrArg some (by kernel_rfl))
 f319:=func182.trans (congrArg some (by kernel_rfl))
 f320:=func183.trans (congrArg some (by kernel_rfl))
 f337:=func195.trans (congrArg some (by kernel_rfl))
 f338:=func196.trans (congrArg some (by kernel_rfl))
 t0:=underlying0
 a0:=Tryz.isAgg0
 z0:=Tryz.sizeOf0
 v0:=Tryz.zeroValue0
 t2:=underlying2
 a2:=Tryz.isAgg2
 z2:=Tryz.sizeOf2
 v2:=Tryz.zeroValue2
 t3:=underlying3
 a3:=Tryz.isAgg3
 z3:=Tryz.sizeOf3
 v3:=Tryz.zeroValue3
 t4:=underlying4
 a4:=Tryz.isAgg4
 z4:=Tryz.sizeOf4
 v4:=Tryz.zeroValue4
 t5:=underlying5
 a5:=Tryz.isAgg5
 z5:=Tryz.sizeOf5
 v5:=Tryz.zeroValue5
 t9:=underlying9
 a9:=Tryz.isAgg9
 z9:=Tryz.sizeOf9
 v9:=Tryz.zeroValue9
 t20:=underlying20
 a20:=Tryz.isAgg20
 z20:=Tryz.sizeOf20
 v20:=Tryz.zeroValue20
 t37:=underlying63
 a37:=Tryz.isAgg63
 z37:=Tryz.sizeOf63
 v37:=Tryz.zeroValue63
 t46:=underlying219
 a46:=Tryz.isAgg219
 z46:=Tryz.sizeOf219
 v46:=Tryz.zeroValue219
 t51:=underlying159
 a51:=Tryz.isAgg159
 z51:=Tryz.sizeOf159
 v51:=Tryz.zeroValue159
 t53:=underlying170
 a53:=Tryz.isAgg170
 z53:=Tryz.sizeOf170
 v53:=Tryz.zeroValue170
 t171:=underlying214
 a171:=Tryz.isAgg214
 z171:=Tryz.sizeOf214
 v171:=Tryz.zeroValue214
 t173:=underlying217
 a173:=Tryz.isAgg217
 z173:=Tryz.sizeOf217
 v173:=Tryz.zeroValue217
 t212:=underlying239
 a212:=Tryz.isAgg239
 z212:=Tryz.sizeOf239
 v212:=Tryz.zeroValue239
 t213:=underlying240
 a213:=Tryz.isAgg240
 z213:=Tryz.sizeOf240
 t232:=underlying37
 a232:=Tryz.isAgg37
 z232:=Tryz.sizeOf37
 v232:=Tryz.zeroValue37
 t233:=underlying163
 a233:=Tryz.isAgg163
 z233:=Tryz.sizeOf163
 v233:=Tryz.zeroValue163
 g17:=by kernel_rfl
 g18:=by kernel_rfl
 g19:=by kernel_rfl
 i0:=by kernel_rfl
 i2:=by kernel_rfl
 i3:=by kernel_rfl
 i4:=by kernel_rfl
 i5:=by kernel_rfl
 i9:=by kernel_rfl
 i20:=by kernel_rfl
 i37:=by kernel_rfl
 i46:=by kernel_rfl
 i51:=by kernel_rfl
 i53:=by kernel_rfl
 i171:=by kernel_rfl
 i173:=by kernel_rfl
 i212:=by kernel_rfl
 i232:=by kernel_rfl
 i233:=by kernel_rfl
 m17:=by kernel_rfl
 m18:=by kernel_rfl
 m19:=by kernel_rfl }
open Go.RowKit Go.Sort Go.Lib in
theorem Tryz.strconv_Itoa (n:Int) (h0:-9223372036854775808 <= n) (h1:n <= 9223372036854775807) (w:World) (htab:Lib.TabIs prog w "internal/strconv.uint64pow10" .u64 Lib.pow10Tab) :
  Calls prog 85 #[.int .i64 n] w fun e w'=>e = .returned (.string ⟨(Lib.itoa n).toArray⟩)/\∃ k os,w' = grow (w.drewN k) os:=Any.strconv_Itoa Tryz.laysM171 n h0 h1 w htab
def Tryz.laysM316_ren:Go.Shelf.Ren:=⟨fun | 316=>79 | n=>n,fun | 9=>9 | 3=>3 | 4=>4 | 37=>63 | 0=>0 | 127=>158 | 5=>5 | n=>n,fun | n=>n⟩
theorem Tryz.laysM316:Go.Proofs.LaysM.n316 prog Tryz.laysM316_ren:={
 mixed:=by kernel_rfl
 f316:=func79.trans (congrArg some (by kernel_rfl))
 t0:=underlying0
 a0:=Tryz.isAgg0
 z0:=Tryz.sizeOf0
 v0:=Tryz.zeroValue0
 t3:=underlying3
 a3:=Tryz.isAgg3
 z3:=Tryz.sizeOf3
 v3:=Tryz.zeroValue3
 t4:=underlying4
 a4:=Tryz.isAgg4
 z4:=Tryz.sizeOf4
 v4:=Tryz.zeroValue4
 t9:=underlying9
 a9:=Tryz.isAgg9
 z9:=Tryz.sizeOf9
 v9:=Tryz.zeroValue9
 t37:=underlying63
 a37:=Tryz.isAgg63
 z37:=Tryz.sizeOf63
 v37:=Tryz.zeroValue63
 t127:=underlying158
 a127:=Tryz.isAgg158
 z127:=Tryz.sizeOf158
 v127:=Tryz.zeroValue158
 t5:=underlying5
 a5:=Tryz.isAgg5
 z5:=Tryz.sizeOf5
 v5:=Tryz.zeroValue5
 i0:=by kernel_rfl
 i3:=by kernel_rfl
 i4:=by kernel_rfl
 i5:=by kernel_rfl
 i9:=by kernel_rfl
 i37:=by kernel_rfl
 i127:=by kernel_rfl }
open Go.RowKit in
theorem Tryz.stringslite_Clone (s:ByteArray) (w:World) (hlim:s.size <= 281474976710656) :
  Calls prog 79 #[.string s] w fun e w'=>e = .returned (.string s)/\Below w.heap.size w w':=Any.stringslite_Clone Tryz.laysM316 s w hlim
def Tryz.lays99_ren:Go.Shelf.Ren:=⟨fun | 99=>77 | 206=>96 | n=>n,fun | 9=>9 | 4=>4 | 3=>3 | n=>n,fun | n=>n⟩
theorem Tryz.lays99:Go.Proofs.Lays.n99 prog Tryz.lays99_ren:={
 mixed:=by kernel_rfl
 f99:=func77.trans (congrArg some (by kernel_rfl))
 f206:=func96.trans (congrArg some (by kernel_rfl))
 t3:=underlying3
 a3:=Tryz.isAgg3
 z3:=Tryz.sizeOf3
 v3:=Tryz.zeroValue3
 t4:=underlying4
 a4:=Tryz.isAgg4
 z4:=Tryz.sizeOf4
 v4:=Tryz.zeroValue4
 t9:=underlying9
 a9:=Tryz.isAgg9
 z9:=Tryz.sizeOf9
 v9:=Tryz.zeroValue9 }
open Go.RowKit Go.Lib in
theorem Tryz.strings_HasPrefix (s p:ByteArray) (w:World) :
  Calls prog 77 #[.string s,.string p] w fun e w'=>e = .returned (.bool (Lib.hasPrefix s.data.toList p.data.toList))/\w' = w:=Any.strings_HasPrefix Tryz.lays99 s p w
end Go.Proofs
namespace Go.Proofs.YtagmnmoaekbffaaGreatDoor.Lay
open Go.Proofs.Tryz
open Go.RowKit Go.Joins
set_option maxRecDepth 100000
theorem gPow:prog.globalNamed "internal/strconv.uint64pow10" = some 1:=by kernel_rfl
theorem gRange:prog.globalNamed "strconv.ErrRange" = some 5:=by kernel_rfl
def Tabs (w:World):Prop:=Lib.TabIs prog w "internal/strconv.uint64pow10" .u64 Lib.pow10Tab/\∃ tp p,w.var? prog "strconv.ErrRange" = some #[.iface tp p]
theorem Tabs.stays {w w':World} (h:Tabs w) (hb:Below w.heap.size w w'):Tabs w':=by
 obtain ⟨h1,tp,p,h2⟩:=h;exact ⟨tab_stays gPow h1 hb (Nat.le_refl _),tp,p,var_stays gRange h2 hb (Nat.le_refl _)⟩
theorem below_grown (w:World) (k:Nat) (os:Array Obj):Below w.heap.size w (Sort.grow (w.drewN k) os) :=
 ⟨rfl,rfl,rfl,by show w.heap.size <= (w.heap++os).size;rw [Array.size_append];omega,fun j hj=>by show (w.heap++os)[j]? = w.heap[j]?;rw [Array.getElem?_append_left hj]⟩
theorem nDigits_le20 (u:Nat) (h:u < 18446744073709551616):Lib.nDigits u <= 20:=by
 rcases Nat.eq_zero_or_pos u with h0 | h0
 ·subst h0;rw [Lib.nDigits_small (by omega)];omega
 ·have:=Lib.numDigits_eq u h0 h;split at this <;> omega
theorem f0K (n:Int) (h0:-9223372036854775808 <= n) (h1:n <= 9223372036854775807):(Lib.itoa n).length <= 21:=by
 unfold Lib.itoa
 split
 ·have:=nDigits_le20 n.natAbs (by omega);rw [List.length_cons,Lib.decDigits_length];omega
 ·have:=nDigits_le20 n.toNat (by omega);rw [Lib.decDigits_length];omega
theorem n0q (n:Int) (h0:-9223372036854775808 <= n) (h1:n <= 9223372036854775807) (w:World) (ht:Tabs w) :
  Calls prog 85 #[.int .i64 n] w fun e w'=>e = .returned (.string ⟨(Lib.itoa n).toArray⟩)/\Below w.heap.size w w':=by
 refine (Tryz.strconv_Itoa n h0 h1 w ht.1).mono ?_;rintro e w' ⟨rfl,k,os,rfl⟩;exact ⟨rfl,below_grown w k os⟩
theorem bcat (a b:List UInt8) (s:ByteArray) (hs:s=⟨b.toArray⟩):(⟨a.toArray⟩:ByteArray)++s=⟨(a++b).toArray⟩:=by rw [hs];exact ByteArray.mk_append_mk a b
theorem c0y (n:Int) (h0:-9223372036854775808 <= n) (h1:n <= 9223372036854775807) (w:World) (ht:Tabs w) :
  Calls prog 68 #[.int .i64 n] w fun e w'=>e = .returned (.string ⟨(Lib.itoa n++[59]).toArray⟩)/\Below w.heap.size w w':=by
 have hl:=f0K n h0 h1;go_enter func68,ntmps68
 go_wp2_with (go_at_call 85;refine (n0q n h0 h1 _ ht).mono ?_)
 rintro e w1 ⟨rfl,hb⟩;go_wp2;go_ret;exact ⟨congrArg (fun s=>Ending.returned (.string s)) (bcat _ [59] _ rfl),hb⟩
theorem x0d (W:World) (c:Int):(convert 63 9 (.slice (some ⟨W.heap.size,0,none⟩) 1 1)).run prog (W.alloc (.cells #[.int .u8 c] 5)) = .ok (.string ⟨#[UInt8.ofNat c.toNat]⟩) (W.alloc (.cells #[.int .u8 c] 5)) :=
 run_convert_bytes_arg (P:=prog) (W.alloc (.cells #[.int .u8 c] 5)) 63 5 underlying63 underlying5 W.heap.size 0 1 1 [c] rfl (fun i hi=>by
  have hi0:i=0:=by omega
  subst hi0
  simp) 9 underlying9
theorem k0O (u:Nat) (hu:u < 10) (w:World) :
  Calls prog 62 #[.int .i64 u] w fun e w'=>e = .returned (.string ⟨(Lib.decDigits u).toArray⟩)/\Below w.heap.size w w':=by
 have hc:=x0d;rw [Lib.decDigits_one hu];go_enter func62,ntmps62;go_wp2;go_ret;exact ⟨rfl,below_alloc1 w _⟩
theorem x0e {W w1:World} (hb:Below W.heap.size W w1):(∀ b o,b < W.heap.size->w1.cell? ⟨b,o,none⟩=W.cell? ⟨b,o,none⟩)/\(∀ b o,b < W.heap.size->w1.frozen? ⟨b,o,none⟩=W.frozen? ⟨b,o,none⟩) :=
 ⟨fun b o h=>hb.cell (p:=⟨b,o,none⟩) h,fun b o h=>hb.frozen (p:=⟨b,o,none⟩) h⟩
theorem v0j (c:Int) (W:World) (g:Nat) (h:W.cell? ⟨g,0,none⟩=some (.int .u8 c)):(convert 63 9 (.slice (some ⟨g,0,none⟩) 1 1)).run prog W = .ok (.string ⟨#[UInt8.ofNat c.toNat]⟩) W :=
 run_convert_bytes_arg (P:=prog) W 63 5 underlying63 underlying5 g 0 1 1 [c] rfl (fun i hi=>by
  have hi0:i=0:=by omega
  subst hi0
  simpa using h) 9 underlying9
theorem m0i {w w':World} (h:Below w.drew.heap.size w.drew w'):Below w.heap.size w w':=⟨h.os,h.tape,h.output,h.size,h.block⟩
theorem m0j {w w':World} (o:Obj) (h:Below (w.alloc o).drew.heap.size (w.alloc o).drew w'):Below w.heap.size w w' :=
 (below_alloc1 w o).drew.trans (h.mono (by show w.heap.size <= (w.alloc o).heap.size;simp))
theorem i0J:∀ (u:Nat),u <= 9223372036854775807->∀ (w:World),
  Calls prog 62 #[.int .i64 u] w fun e w'=>e = .returned (.string ⟨(Lib.decDigits u).toArray⟩)/\Below w.heap.size w w':=by
 intro u
 induction u using Nat.strongRecOn with
 | ind u ih =>
 intro hu w;by_cases h10:u < 10
 ·exact k0O u h10 w
 have ih':=ih (u / 10) (by omega) (by omega);clear ih;have hl:(Lib.decDigits (u / 10)).length <= 20:=by rw [Lib.decDigits_length];exact nDigits_le20 _ (by omega)
 have hd:Lib.decDigits u=Lib.decDigits (u / 10)++[UInt8.ofNat (48 + u % 10)]:=by rw [Lib.decDigits,dif_neg h10]
 rw [hd];clear hd
 have H:Hid (∀ (a:Int),a=((u / 10:Nat):Int)->∀ (w:World),Calls prog 62 #[.int .i64 a] w fun e w'=>e = .returned (.string ⟨(Lib.decDigits (u / 10)).toArray⟩)/\Below w.heap.size w w'):=by
  intro a ha;subst ha;exact ih'
 clear ih';generalize Lib.decDigits (u / 10)=l at *;have hc:=v0j (IntKind.u8.wrap (IntKind.i64.wrap (48 + (u:Int).tmod 10)));have hw:IntKind.i64.wrap ((u:Int) / 10)=((u / 10:Nat):Int):=by rw [IntKind.wrap_i64];omega
 have HW:Hid (IntKind.i64.wrap ((u:Int) / 10)=((u / 10:Nat):Int)):=hw;clear hw
 have HC:Hid ((⟨l.toArray⟩:ByteArray) ++ ⟨#[UInt8.ofNat (48 + (u:Int) % 10).toNat]⟩=⟨(l++[UInt8.ofNat (48 + u % 10)]).toArray⟩) :=
  bcat l [UInt8.ofNat (48 + u % 10)] _ (by rw [show (48 + (u:Int) % 10).toNat=48 + u % 10 by omega])
 go_enter func62,ntmps62;go_wp2
 go_region_with (go_at_call 62;refine (H.out _ HW.out _).mono ?_;rintro e w' ⟨rfl,hb⟩;obtain ⟨hcc,hff⟩:=x0e hb)
 all_goals go_wp2
 all_goals go_ret
 all_goals refine ⟨congrArg (fun s=>Ending.returned (Value.string s)) HC.out,?_⟩
 all_goals first | exact m0j _ hb | exact (m0i hb).alloc hb.size _
theorem e0X (a:Int) (u:Nat) (ha:a=u) (hu:u <= 9223372036854775807) (w:World) :
  Calls prog 62 #[.int .i64 a] w fun e w'=>e = .returned (.string ⟨(Lib.decDigits u).toArray⟩)/\Below w.heap.size w w':=by
 subst ha;exact i0J u hu w
theorem j0H (n:Int) (h0:0 <= n) (h1:n <= 9223372036854775807) (w:World) :
  Calls prog 33 #[.int .i64 n] w fun e w'=>e = .returned (.string ⟨(Lib.itoa n++[59]).toArray⟩)/\Below w.heap.size w w':=by
 have hi:Lib.itoa n=Lib.decDigits n.toNat:=by unfold Lib.itoa;rw [if_neg (by omega)]
 rw [hi];have hl:(Lib.decDigits n.toNat).length <= 20:=by rw [Lib.decDigits_length];exact nDigits_le20 _ (by omega)
 clear hi;go_enter func33,ntmps33
 go_wp2_with (go_at_call 62;refine (e0X n n.toNat (by omega) (by omega) _).mono ?_)
 rintro e w1 ⟨rfl,hb⟩;go_wp2;go_ret;exact ⟨congrArg (fun s=>Ending.returned (Value.string s)) (bcat _ [59] _ rfl),hb⟩
theorem n0r (u:Nat):(-(u:Int)).tdiv 10 = -((u / 10:Nat):Int):=by
 rw [Int.neg_tdiv,Int.tdiv_eq_ediv_of_nonneg (by omega)];omega
theorem a0b {w w1 w2:World} (h1:Below w.heap.size w w1) (h2:Below w1.heap.size w1 w2):Below w.heap.size w w2:=h1.trans (h2.mono h1.size)
theorem i0l (u:Nat) (h0:1 <= u) (h1:u < 10) (w:World) :
  Calls prog 33 #[.int .i64 (-(u:Int))] w fun e w'=>e = .returned (.string ⟨(Lib.itoa (-(u:Int))++[59]).toArray⟩)/\Below w.heap.size w w':=by
 have hi:Lib.itoa (-(u:Int))=45 :: Lib.decDigits u:=by unfold Lib.itoa;rw [if_pos (by omega),Int.natAbs_neg,Int.natAbs_natCast]
 rw [hi];have hl:(Lib.decDigits u).length <= 20:=by rw [Lib.decDigits_length];exact nDigits_le20 _ (by omega)
 clear hi;have hq:((-(u:Int)).tdiv 10 == 0)=true:=by rw [n0r,beq_iff_eq];omega
 have hn:-(u:Int) < 0:=by omega
 go_enter func33,ntmps33
 go_wp2_with fail
 refine (e0X _ u (by omega) (by omega) _).mono ?_;rintro e w1 ⟨rfl,hb⟩;go_wp2;go_ret;exact ⟨congrArg (fun s=>Ending.returned (Value.string s)) (by rw [bcat _ [59] _ rfl];rfl),hb⟩
end Go.Proofs.YtagmnmoaekbffaaGreatDoor.Lay
