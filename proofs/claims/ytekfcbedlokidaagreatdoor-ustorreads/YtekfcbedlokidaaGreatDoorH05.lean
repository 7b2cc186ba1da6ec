/-
  The library's contracts that this seat's proofs use (of strconv, strings), laid at this translation by the shelf's own tool in plain words.
-/
import Derived.Shelf.Strings.BuilderK
import Derived.Shelf.Strconv.Itoa3
import Derived.Shelf.Strconv.ErrVarAll
import Derived.Shelf.Strings.Prefix
import Derived.Shelf.Strconv.Clone
import Derived.Test.YtekfcbedlokidaaGreatDoorProg
import Derived.Lib.FrozenHead2
import Derived.Lib.OthersKept
import Derived.WalkKit
import Derived.WalkSpells
import Derived.WalkLawsBesides
import Derived.Lib.SmallJoins
import Derived.Deep.RegionWith
import Derived.Sort.Grow
import Derived.Test.YtekfcbedlokidaaGreatDoorH01
namespace Go.Proofs
open Go.Shelf
def Tryz.lays169_ren : Go.Shelf.Ren := ⟨fun | 169 => 148 | n => n, fun | 70 => 217 | 9 => 9 | 0 => 0 | 72 => 219 | 37 => 128 | 127 => 196 | 3 => 3 | 5 => 5 | n => n, fun | n => n⟩
theorem Tryz.lays169 : Go.Proofs.Lays.n169 Tryz.prog Tryz.lays169_ren := {
  mixed := by kernel_rfl
  f169 := Tryz.func148.trans (congrArg some (by kernel_rfl))
  t0 := Tryz.underlying0
  a0 := Tryz.isAgg0
  z0 := Tryz.sizeOf0
  v0 := Tryz.zeroValue0
  t3 := Tryz.underlying3
  a3 := Tryz.isAgg3
  z3 := Tryz.sizeOf3
  v3 := Tryz.zeroValue3
  t9 := Tryz.underlying9
  a9 := Tryz.isAgg9
  z9 := Tryz.sizeOf9
  v9 := Tryz.zeroValue9
  t37 := Tryz.underlying128
  a37 := Tryz.isAgg128
  z37 := Tryz.sizeOf128
  v37 := Tryz.zeroValue128
  t70 := Tryz.underlying217
  a70 := Tryz.isAgg217
  z70 := Tryz.sizeOf217
  v70 := Tryz.zeroValue217
  t72 := Tryz.underlying219
  a72 := Tryz.isAgg219
  z72 := Tryz.sizeOf219
  v72 := Tryz.zeroValue219
  t127 := Tryz.underlying196
  a127 := Tryz.isAgg196
  z127 := Tryz.sizeOf196
  v127 := Tryz.zeroValue196 }
theorem Tryz.Builder_Extra_169 : Builder.Extra Tryz.prog Tryz.lays169_ren := {
  sizeBuilder := by kernel_rfl
  liesBuilder := by kernel_rfl
  t5 := Tryz.underlying5
  a5 := Tryz.isAgg5
  z5 := Tryz.sizeOf5
  v5 := Tryz.zeroValue5
  infoByte := by kernel_rfl
  cellsByte := by kernel_rfl
  sizeByte := by kernel_rfl
  neB5 := by decide }
open Go.RowKit in
theorem Tryz.Builder_String_any_k (B b : Nat) (l : List UInt8) (w : World) (h : Lib.IsBuilderF 219 5 B b (Lib.byteCells l) w) (hBw : B ≤ w.heap.size) :
    Calls Tryz.prog 148 #[.pointer (some ⟨b, 0, none⟩)] w fun e w' => e = .returned (.string ⟨l.toArray⟩) ∧ (Lib.IsBuilderF 219 5 B b (Lib.byteCells l) w' ∧ Below B w w' ∧ Lib.OthersKept 5 (some b) w w') := Any.Builder_String_any_k Tryz.lays169 Tryz.Builder_Extra_169 B b l w h hBw
def Tryz.laysM171_ren : Go.Shelf.Ren := ⟨fun | 171 => 88 | 243 => 123 | 246 => 143 | 283 => 162 | 284 => 163 | 285 => 164 | 286 => 165 | 129 => 191 | 317 => 190 | 318 => 192 | 319 => 193 | 320 => 194 | 337 => 227 | 338 => 228 | n => n, fun | 3 => 3 | 9 => 9 | 2 => 2 | 4 => 4 | 171 => 237 | 0 => 0 | 53 => 209 | 37 => 128 | 5 => 5 | 173 => 240 | 212 => 263 | 51 => 203 | 20 => 20 | 213 => 264 | 46 => 251 | 232 => 22 | 233 => 201 | n => n, fun | 17 => 1 | 18 => 4 | 19 => 5 | n => n⟩
theorem Tryz.laysM171 : Go.Proofs.LaysM.n171 Tryz.prog Tryz.laysM171_ren := {
  mixed := by kernel_rfl
  f129 := Tryz.func191.trans (congrArg some (by kernel_rfl))
  f171 := Tryz.func88.trans (congrArg some (by kernel_rfl))
  f243 := Tryz.func123.trans (congrArg some (by kernel_rfl))
  f246 := Tryz.func143.trans (congrArg some (by kernel_rfl))
  f283 := Tryz.func162.trans (congrArg some (by kernel_rfl))
  f284 := Tryz.func163.trans (congrArg some (by kernel_rfl))
  f285 := Tryz.func164.trans (congrArg some (by kernel_rfl))
  f286 := Tryz.func165.trans (congrArg some (by kernel_rfl))
  f317 := Tryz.func190.trans (congrArg some (by kernel_rfl))
  f318 := Tryz.func192.trans (congrArg some (by kernel_rfl))
  f319 := Tryz.func193.trans (congrArg some (by kernel_rfl))
  f320 := Tryz.func194.trans (congrArg some (by kernel_rfl))
  f337 := Tryz.func227.trans (congrArg some (by kernel_rfl))
  f338 := Tryz.func228.trans (congrArg some (by kernel_rfl))
  t0 := Tryz.underlying0
  a0 := Tryz.isAgg0
  z0 := Tryz.sizeOf0
  v0 := Tryz.zeroValue0
  t2 := Tryz.underlying2
  a2 := Tryz.isAgg2
  z2 := Tryz.sizeOf2
  v2 := Tryz.zeroValue2
  t3 := Tryz.underlying3
  a3 := Tryz.isAgg3
  z3 := Tryz.sizeOf3
  v3 := Tryz.zeroValue3
  t4 := Tryz.underlying4
  a4 := Tryz.isAgg4
  z4 := Tryz.sizeOf4
  v4 := Tryz.zeroValue4
  t5 := Tryz.underlying5
  a5 := Tryz.isAgg5
  z5 := Tryz.sizeOf5
  v5 := Tryz.zeroValue5
  t9 := Tryz.underlying9
  a9 := Tryz.isAgg9
  z9 := Tryz.sizeOf9
  v9 := Tryz.zeroValue9
  t20 := Tryz.underlying20
  a20 := Tryz.isAgg20
  z20 := Tryz.sizeOf20
  v20 := Tryz.zeroValue20
  t37 := Tryz.underlying128
  a37 := Tryz.isAgg128
  z37 := Tryz.sizeOf128
  v37 := Tryz.zeroValue128
  t46 := Tryz.underlying251
  a46 := Tryz.isAgg251
  z46 := Tryz.sizeOf251
  v46 := Tryz.zeroValue251
  t51 := Tryz.underlying203
  a51 := Tryz.isAgg203
  z51 := Tryz.sizeOf203
  v51 := Tryz.zeroValue203
  t53 := Tryz.underlying209
  a53 := Tryz.isAgg209
  z53 := Tryz.sizeOf209
  v53 := Tryz.zeroValue209
  t171 := Tryz.underlying237
  a171 := Tryz.isAgg237
  z171 := Tryz.sizeOf237
  v171 := Tryz.zeroValue237
  t173 := Tryz.underlying240
  a173 := Tryz.isAgg240
  z173 := Tryz.sizeOf240
  v173 := Tryz.zeroValue240
  t212 := Tryz.underlying263
  a212 := Tryz.isAgg263
  z212 := Tryz.sizeOf263
  v212 := Tryz.zeroValue263
  t213 := Tryz.underlying264
  a213 := Tryz.isAgg264
  z213 := Tryz.sizeOf264
  t232 := Tryz.underlying22
  a232 := Tryz.isAgg22
  z232 := Tryz.sizeOf22
  v232 := Tryz.zeroValue22
  t233 := Tryz.underlying201
  a233 := Tryz.isAgg201
  z233 := Tryz.sizeOf201
  v233 := Tryz.zeroValue201
  g17 := by kernel_rfl
  g18 := by kernel_rfl
  g19 := by kernel_rfl
  i0 := by kernel_rfl
  i2 := by kernel_rfl
  i3 := by kernel_rfl
  i4 := by kernel_rfl
  i5 := by kernel_rfl
  i9 := by kernel_rfl
  i20 := by kernel_rfl
  i37 := by kernel_rfl
  i46 := by kernel_rfl
  i51 := by kernel_rfl
  i53 := by kernel_rfl
  i171 := by kernel_rfl
  i173 := by kernel_rfl
  i212 := by kernel_rfl
  i232 := by kernel_rfl
  i233 := by kernel_rfl
  m17 := by kernel_rfl
  m18 := by kernel_rfl
  m19 := by kernel_rfl }
open Go.RowKit Go.Sort Go.Lib in
theorem Tryz.strconv_Itoa (n : Int) (h0 : -9223372036854775808 ≤ n) (h1 : n ≤ 9223372036854775807) (w : World) (htab : Lib.TabIs Tryz.prog w "internal/strconv.uint64pow10" .u64 Lib.pow10Tab) :
    Calls Tryz.prog 88 #[.int .i64 n] w fun e w' => e = .returned (.string ⟨(Lib.itoa n).toArray⟩) ∧ ∃ k os, w' = grow (w.drewN k) os := Any.strconv_Itoa Tryz.laysM171 n h0 h1 w htab
def Tryz.laysM316_ren : Go.Shelf.Ren := ⟨fun | 316 => 93 | n => n, fun | 9 => 9 | 3 => 3 | 4 => 4 | 37 => 128 | 0 => 0 | 127 => 196 | 5 => 5 | n => n, fun | n => n⟩
theorem Tryz.laysM316 : Go.Proofs.LaysM.n316 Tryz.prog Tryz.laysM316_ren := {
  mixed := by kernel_rfl
  f316 := Tryz.func93.trans (congrArg some (by kernel_rfl))
  t0 := Tryz.underlying0
  a0 := Tryz.isAgg0
  z0 := Tryz.sizeOf0
  v0 := Tryz.zeroValue0
  t3 := Tryz.underlying3
  a3 := Tryz.isAgg3
  z3 := Tryz.sizeOf3
  v3 := Tryz.zeroValue3
  t4 := Tryz.underlying4
  a4 := Tryz.isAgg4
  z4 := Tryz.sizeOf4
  v4 := Tryz.zeroValue4
  t9 := Tryz.underlying9
  a9 := Tryz.isAgg9
  z9 := Tryz.sizeOf9
  v9 := Tryz.zeroValue9
  t37 := Tryz.underlying128
  a37 := Tryz.isAgg128
  z37 := Tryz.sizeOf128
  v37 := Tryz.zeroValue128
  t127 := Tryz.underlying196
  a127 := Tryz.isAgg196
  z127 := Tryz.sizeOf196
  v127 := Tryz.zeroValue196
  t5 := Tryz.underlying5
  a5 := Tryz.isAgg5
  z5 := Tryz.sizeOf5
  v5 := Tryz.zeroValue5
  i0 := by kernel_rfl
  i3 := by kernel_rfl
  i4 := by kernel_rfl
  i5 := by kernel_rfl
  i9 := by kernel_rfl
  i37 := by kernel_rfl
  i127 := by kernel_rfl }
open Go.RowKit in
theorem Tryz.stringslite_Clone (s : ByteArray) (w : World) (hlim : s.size ≤ 281474976710656) :
    Calls Tryz.prog 93 #[.string s] w fun e w' => e = .returned (.string s) ∧ Below w.heap.size w w' := Any.stringslite_Clone Tryz.laysM316 s w hlim
def Tryz.laysC172_ren : Go.Shelf.Ren := ⟨fun | 172 => 140 | 244 => 156 | 245 => 157 | 247 => 183 | 279 => 184 | 280 => 185 | 281 => 186 | 282 => 187 | 287 => 223 | 316 => 93 | 171 => 88 | 205 => 224 | 321 => 238 | 322 => 239 | 243 => 123 | 246 => 143 | 283 => 162 | 284 => 163 | 285 => 164 | 286 => 165 | 129 => 191 | 317 => 190 | 318 => 192 | 319 => 193 | 320 => 194 | 337 => 227 | 338 => 228 | n => n, fun | 9 => 9 | 3 => 3 | 75 => 212 | 76 => 213 | 4 => 4 | 5 => 5 | 167 => 252 | 37 => 128 | 0 => 0 | 85 => 253 | 2 => 2 | 168 => 255 | 53 => 209 | 175 => 279 | 46 => 251 | 210 => 282 | 127 => 196 | 145 => 298 | 143 => 296 | 21 => 21 | 171 => 237 | 173 => 240 | 212 => 263 | 51 => 203 | 20 => 20 | 213 => 264 | 232 => 22 | 233 => 201 | 80 => 54 | n => n, fun | 15 => 2 | 16 => 3 | 17 => 1 | 18 => 4 | 19 => 5 | n => n⟩
theorem Tryz.laysC172 : Go.Proofs.LaysC.n172 Tryz.prog Tryz.laysC172_ren := {
  mixed := by kernel_rfl
  f129 := Tryz.func191.trans (congrArg some (by kernel_rfl))
  f171 := Tryz.func88.trans (congrArg some (by kernel_rfl))
  f172 := Tryz.func140.trans (congrArg some (by kernel_rfl))
  f205 := Tryz.func224.trans (congrArg some (by kernel_rfl))
  f243 := Tryz.func123.trans (congrArg some (by kernel_rfl))
  f244 := Tryz.func156.trans (congrArg some (by kernel_rfl))
  f245 := Tryz.func157.trans (congrArg some (by kernel_rfl))
  f246 := Tryz.func143.trans (congrArg some (by kernel_rfl))
  f247 := Tryz.func183.trans (congrArg some (by kernel_rfl))
  f279 := Tryz.func184.trans (congrArg some (by kernel_rfl))
  f280 := Tryz.func185.trans (congrArg some (by kernel_rfl))
  f281 := Tryz.func186.trans (congrArg some (by kernel_rfl))
  f282 := Tryz.func187.trans (congrArg some (by kernel_rfl))
  f283 := Tryz.func162.trans (congrArg some (by kernel_rfl))
  f284 := Tryz.func163.trans (congrArg some (by kernel_rfl))
  f285 := Tryz.func164.trans (congrArg some (by kernel_rfl))
  f286 := Tryz.func165.trans (congrArg some (by kernel_rfl))
  f287 := Tryz.func223.trans (congrArg some (by kernel_rfl))
  f316 := Tryz.func93.trans (congrArg some (by kernel_rfl))
  f317 := Tryz.func190.trans (congrArg some (by kernel_rfl))
  f318 := Tryz.func192.trans (congrArg some (by kernel_rfl))
  f319 := Tryz.func193.trans (congrArg some (by kernel_rfl))
  f320 := Tryz.func194.trans (congrArg some (by kernel_rfl))
  f321 := Tryz.func238.trans (congrArg some (by kernel_rfl))
  f322 := Tryz.func239.trans (congrArg some (by kernel_rfl))
  f337 := Tryz.func227.trans (congrArg some (by kernel_rfl))
  f338 := Tryz.func228.trans (congrArg some (by kernel_rfl))
  t0 := Tryz.underlying0
  a0 := Tryz.isAgg0
  z0 := Tryz.sizeOf0
  v0 := Tryz.zeroValue0
  t2 := Tryz.underlying2
  a2 := Tryz.isAgg2
  z2 := Tryz.sizeOf2
  v2 := Tryz.zeroValue2
  t3 := Tryz.underlying3
  a3 := Tryz.isAgg3
  z3 := Tryz.sizeOf3
  v3 := Tryz.zeroValue3
  t4 := Tryz.underlying4
  a4 := Tryz.isAgg4
  z4 := Tryz.sizeOf4
  v4 := Tryz.zeroValue4
  t5 := Tryz.underlying5
  a5 := Tryz.isAgg5
  z5 := Tryz.sizeOf5
  v5 := Tryz.zeroValue5
  t9 := Tryz.underlying9
  a9 := Tryz.isAgg9
  z9 := Tryz.sizeOf9
  v9 := Tryz.zeroValue9
  t20 := Tryz.underlying20
  a20 := Tryz.isAgg20
  z20 := Tryz.sizeOf20
  v20 := Tryz.zeroValue20
  t21 := Tryz.underlying21
  a21 := Tryz.isAgg21
  z21 := Tryz.sizeOf21
  v21 := Tryz.zeroValue21
  t37 := Tryz.underlying128
  a37 := Tryz.isAgg128
  z37 := Tryz.sizeOf128
  v37 := Tryz.zeroValue128
  t46 := Tryz.underlying251
  a46 := Tryz.isAgg251
  z46 := Tryz.sizeOf251
  v46 := Tryz.zeroValue251
  t51 := Tryz.underlying203
  a51 := Tryz.isAgg203
  z51 := Tryz.sizeOf203
  v51 := Tryz.zeroValue203
  t53 := Tryz.underlying209
  a53 := Tryz.isAgg209
  z53 := Tryz.sizeOf209
  v53 := Tryz.zeroValue209
  t75 := Tryz.underlying212
  a75 := Tryz.isAgg212
  z75 := Tryz.sizeOf212
  v75 := Tryz.zeroValue212
  t76 := Tryz.underlying213
  a76 := Tryz.isAgg213
  z76 := Tryz.sizeOf213
  v76 := Tryz.zeroValue213
  t85 := Tryz.underlying253
  a85 := Tryz.isAgg253
  z85 := Tryz.sizeOf253
  v85 := Tryz.zeroValue253
  t127 := Tryz.underlying196
  a127 := Tryz.isAgg196
  z127 := Tryz.sizeOf196
  v127 := Tryz.zeroValue196
  t143 := Tryz.underlying296
  a143 := Tryz.isAgg296
  z143 := Tryz.sizeOf296
  v143 := Tryz.zeroValue296
  t145 := Tryz.underlying298
  a145 := Tryz.isAgg298
  z145 := Tryz.sizeOf298
  v145 := Tryz.zeroValue298
  t167 := Tryz.underlying252
  a167 := Tryz.isAgg252
  z167 := Tryz.sizeOf252
  v167 := Tryz.zeroValue252
  t168 := Tryz.underlying255
  a168 := Tryz.isAgg255
  z168 := Tryz.sizeOf255
  v168 := Tryz.zeroValue255
  t171 := Tryz.underlying237
  a171 := Tryz.isAgg237
  z171 := Tryz.sizeOf237
  v171 := Tryz.zeroValue237
  t173 := Tryz.underlying240
  a173 := Tryz.isAgg240
  z173 := Tryz.sizeOf240
  v173 := Tryz.zeroValue240
  t175 := Tryz.underlying279
  a175 := Tryz.isAgg279
  z175 := Tryz.sizeOf279
  v175 := Tryz.zeroValue279
  t210 := Tryz.underlying282
  a210 := Tryz.isAgg282
  z210 := Tryz.sizeOf282
  v210 := Tryz.zeroValue282
  t212 := Tryz.underlying263
  a212 := Tryz.isAgg263
  z212 := Tryz.sizeOf263
  v212 := Tryz.zeroValue263
  t213 := Tryz.underlying264
  a213 := Tryz.isAgg264
  z213 := Tryz.sizeOf264
  t232 := Tryz.underlying22
  a232 := Tryz.isAgg22
  z232 := Tryz.sizeOf22
  v232 := Tryz.zeroValue22
  t233 := Tryz.underlying201
  a233 := Tryz.isAgg201
  z233 := Tryz.sizeOf201
  v233 := Tryz.zeroValue201
  g15 := by kernel_rfl
  g16 := by kernel_rfl
  g17 := by kernel_rfl
  g18 := by kernel_rfl
  g19 := by kernel_rfl
  t80 := Tryz.underlying54
  a80 := Tryz.isAgg54
  z80 := Tryz.sizeOf54
  v80 := Tryz.zeroValue54
  i0 := by kernel_rfl
  i2 := by kernel_rfl
  i3 := by kernel_rfl
  i4 := by kernel_rfl
  i5 := by kernel_rfl
  i9 := by kernel_rfl
  i20 := by kernel_rfl
  i21 := by kernel_rfl
  i37 := by kernel_rfl
  i46 := by kernel_rfl
  i51 := by kernel_rfl
  i53 := by kernel_rfl
  i75 := by kernel_rfl
  i76 := by kernel_rfl
  i80 := by kernel_rfl
  i85 := by kernel_rfl
  i127 := by kernel_rfl
  i143 := by kernel_rfl
  i145 := by kernel_rfl
  i167 := by kernel_rfl
  i168 := by kernel_rfl
  i171 := by kernel_rfl
  i173 := by kernel_rfl
  i175 := by kernel_rfl
  i210 := by kernel_rfl
  i212 := by kernel_rfl
  i232 := by kernel_rfl
  i233 := by kernel_rfl
  m15 := by kernel_rfl
  m16 := by kernel_rfl
  m17 := by kernel_rfl
  m18 := by kernel_rfl
  m19 := by kernel_rfl
  c0 := by kernel_rfl
  c2 := by kernel_rfl
  c3 := by kernel_rfl
  c4 := by kernel_rfl
  c5 := by kernel_rfl
  c9 := by kernel_rfl
  c20 := by kernel_rfl
  c21 := by kernel_rfl
  c37 := by kernel_rfl
  c46 := by kernel_rfl
  c51 := by kernel_rfl
  c53 := by kernel_rfl
  c75 := by kernel_rfl
  c76 := by kernel_rfl
  c80 := by kernel_rfl
  c85 := by kernel_rfl
  c127 := by kernel_rfl
  c143 := by kernel_rfl
  c145 := by kernel_rfl
  c167 := by kernel_rfl
  c168 := by kernel_rfl
  c171 := by kernel_rfl
  c173 := by kernel_rfl
  c175 := by kernel_rfl
  c210 := by kernel_rfl
  c212 := by kernel_rfl
  c213 := by kernel_rfl
  c232 := by kernel_rfl
  c233 := by kernel_rfl }
open Go.RowKit in
theorem Tryz.strconv_Atoi_ok (s : ByteArray) (hmax : s.size ≤ 9223372036854775806) (v : Int) (h : Lib.atoiAll s.data.toList = .ok v) (w : World) :
    Calls Tryz.prog 140 #[.string s] w fun e w' => e = .returned (.tuple #[.int .i64 v, .nilIface]) ∧ (w' = w ∨ ∃ t, w' = Lib.bytesWorld w 5 t) := Any.strconv_Atoi_ok Tryz.laysC172 s hmax v h w
open Go.RowKit in
theorem Tryz.strconv_Atoi_range_var (s : ByteArray) (hlim : s.size ≤ 281474976710656) (h : Lib.atoiAll s.data.toList = .range) (tp : TypeId) (p : Value) (w : World) (hvar : w.var? Tryz.prog "strconv.ErrRange" = some #[.iface tp p]) :
    Calls Tryz.prog 140 #[.string s] w fun e w' => ∃ N, e = .returned (.tuple #[.int .i64 (Lib.atoiSat s.data.toList), .iface 255 (.pointer (some ⟨N, 0, none⟩))]) ∧ w.heap.size ≤ N ∧ w'.heap[N]? = some (.cells #[.string ⟨#[65, 116, 111, 105]⟩, .string s, .iface tp p] 282 (0, 0)) ∧ Below w.heap.size w w' := Any.strconv_Atoi_range_var Tryz.laysC172 s hlim h tp p w hvar
def Tryz.lays99_ren : Go.Shelf.Ren := ⟨fun | 99 => 92 | 206 => 127 | n => n, fun | 9 => 9 | 4 => 4 | 3 => 3 | n => n, fun | n => n⟩
theorem Tryz.lays99 : Go.Proofs.Lays.n99 Tryz.prog Tryz.lays99_ren := {
  mixed := by kernel_rfl
  f99 := Tryz.func92.trans (congrArg some (by kernel_rfl))
  f206 := Tryz.func127.trans (congrArg some (by kernel_rfl))
  t3 := Tryz.underlying3
  a3 := Tryz.isAgg3
  z3 := Tryz.sizeOf3
  v3 := Tryz.zeroValue3
  t4 := Tryz.underlying4
  a4 := Tryz.isAgg4
  z4 := Tryz.sizeOf4
  v4 := Tryz.zeroValue4
  t9 := Tryz.underlying9
  a9 := Tryz.isAgg9
  z9 := Tryz.sizeOf9
  v9 := Tryz.zeroValue9 }
open Go.RowKit Go.Lib in
theorem Tryz.strings_HasPrefix (s p : ByteArray) (w : World) :
    Calls Tryz.prog 92 #[.string s, .string p] w fun e w' => e = .returned (.bool (Lib.hasPrefix s.data.toList p.data.toList)) ∧ w' = w := Any.strings_HasPrefix Tryz.lays99 s p w
end Go.Proofs
namespace Go.Proofs.YtekfcbedlokidaaGreatDoor.Lay
open Go.RowKit Go.Joins
set_option maxRecDepth 100000
theorem gPow : Tryz.prog.globalNamed "internal/strconv.uint64pow10" = some 1 := by kernel_rfl
theorem gRange : Tryz.prog.globalNamed "strconv.ErrRange" = some 3 := by kernel_rfl
def Tabs (w : World) : Prop := Lib.TabIs Tryz.prog w "internal/strconv.uint64pow10" .u64 Lib.pow10Tab ∧ ∃ tp p, w.var? Tryz.prog "strconv.ErrRange" = some #[.iface tp p]
theorem Tabs.stays {w w' : World} (h : Tabs w) (hb : Below w.heap.size w w') : Tabs w' := by
  obtain ⟨h1, tp, p, h2⟩ := h
  exact ⟨tab_stays gPow h1 hb (Nat.le_refl _), tp, p, var_stays gRange h2 hb (Nat.le_refl _)⟩
theorem below_grown (w : World) (k : Nat) (os : Array Obj) : Below w.heap.size w (Sort.grow (w.drewN k) os) :=
  ⟨rfl, rfl, rfl, by show w.heap.size ≤ (w.heap ++ os).size; rw [Array.size_append]; omega, fun j hj => by show (w.heap ++ os)[j]? = w.heap[j]?; rw [Array.getElem?_append_left hj]⟩
theorem nDigits_le20 (u : Nat) (h : u < 18446744073709551616) : Lib.nDigits u ≤ 20 := by
  rcases Nat.eq_zero_or_pos u with h0 | h0
  · subst h0; rw [Lib.nDigits_small (by omega)]; omega
  · have := Lib.numDigits_eq u h0 h; split at this <;> omega
theorem itoa_len (n : Int) (h0 : -9223372036854775808 ≤ n) (h1 : n ≤ 9223372036854775807) : (Lib.itoa n).length ≤ 21 := by
  unfold Lib.itoa
  split
  · have := nDigits_le20 n.natAbs (by omega); rw [List.length_cons, Lib.decDigits_length]; omega
  · have := nDigits_le20 n.toNat (by omega); rw [Lib.decDigits_length]; omega
theorem itoa_any (n : Int) (h0 : -9223372036854775808 ≤ n) (h1 : n ≤ 9223372036854775807) (w : World) (ht : Tabs w) :
    Calls Tryz.prog 88 #[.int .i64 n] w fun e w' => e = .returned (.string ⟨(Lib.itoa n).toArray⟩) ∧ Below w.heap.size w w' := by
  refine (Tryz.strconv_Itoa n h0 h1 w ht.1).mono ?_
  rintro e w' ⟨rfl, k, os, rfl⟩
  exact ⟨rfl, below_grown w k os⟩
theorem bcat (a b : List UInt8) (s : ByteArray) (hs : s = ⟨b.toArray⟩) : (⟨a.toArray⟩ : ByteArray) ++ s = ⟨(a ++ b).toArray⟩ := by rw [hs]; exact ByteArray.mk_append_mk a b
set_option maxHeartbeats 400000 in
theorem number_any (n : Int) (h0 : -9223372036854775808 ≤ n) (h1 : n ≤ 9223372036854775807) (w : World) (ht : Tabs w) :
    Calls Tryz.prog 51 #[.int .i64 n] w fun e w' => e = .returned (.string ⟨(Lib.itoa n ++ [59]).toArray⟩) ∧ Below w.heap.size w w' := by
  have hl := itoa_len n h0 h1
  go_enter Tryz.func51, Tryz.ntmps51
  go_wp2_with (go_at_call 88; refine (itoa_any n h0 h1 _ ht).mono ?_)
  rintro e w1 ⟨rfl, hb⟩
  go_wp2
  go_ret
  exact ⟨congrArg (fun s => Ending.returned (.string s)) (bcat _ [59] _ rfl), hb⟩
theorem conv1 (W : World) (c : Int) : (convert 128 9 (.slice (some ⟨W.heap.size, 0, none⟩) 1 1)).run Tryz.prog (W.alloc (.cells #[.int .u8 c] 5)) = .ok (.string ⟨#[UInt8.ofNat c.toNat]⟩) (W.alloc (.cells #[.int .u8 c] 5)) :=
  run_convert_bytes_arg (P := Tryz.prog) (W.alloc (.cells #[.int .u8 c] 5)) 128 5 Tryz.underlying128 Tryz.underlying5 W.heap.size 0 1 1 [c] rfl (fun i hi => by
    have hi0 : i = 0 := by omega
    subst hi0
    simp) 9 Tryz.underlying9
set_option maxHeartbeats 400000 in
theorem digits_small (u : Nat) (hu : u < 10) (w : World) :
    Calls Tryz.prog 130 #[.int .i64 u] w fun e w' => e = .returned (.string ⟨(Lib.decDigits u).toArray⟩) ∧ Below w.heap.size w w' := by
  have hc := conv1
  rw [Lib.decDigits_one hu]
  go_enter Tryz.func130, Tryz.ntmps130
  go_wp2
  go_ret
  exact ⟨rfl, below_alloc1 w _⟩
theorem bcell {W w1 : World} (hb : Below W.heap.size W w1) : (∀ b o, b < W.heap.size → w1.cell? ⟨b, o, none⟩ = W.cell? ⟨b, o, none⟩) ∧ (∀ b o, b < W.heap.size → w1.frozen? ⟨b, o, none⟩ = W.frozen? ⟨b, o, none⟩) :=
  ⟨fun b o h => hb.cell (p := ⟨b, o, none⟩) h, fun b o h => hb.frozen (p := ⟨b, o, none⟩) h⟩
theorem conv1c (c : Int) (W : World) (g : Nat) (h : W.cell? ⟨g, 0, none⟩ = some (.int .u8 c)) : (convert 128 9 (.slice (some ⟨g, 0, none⟩) 1 1)).run Tryz.prog W = .ok (.string ⟨#[UInt8.ofNat c.toNat]⟩) W :=
  run_convert_bytes_arg (P := Tryz.prog) W 128 5 Tryz.underlying128 Tryz.underlying5 g 0 1 1 [c] rfl (fun i hi => by
    have hi0 : i = 0 := by omega
    subst hi0
    simpa using h) 9 Tryz.underlying9
theorem below_drew1 {w w' : World} (h : Below w.drew.heap.size w.drew w') : Below w.heap.size w w' := ⟨h.os, h.tape, h.output, h.size, h.block⟩
theorem below_first {w w' : World} (o : Obj) (h : Below (w.alloc o).drew.heap.size (w.alloc o).drew w') : Below w.heap.size w w' :=
  (below_alloc1 w o).drew.trans (h.mono (by show w.heap.size ≤ (w.alloc o).heap.size; simp))
set_option maxHeartbeats 1000000 in
theorem digits_any : ∀ (u : Nat), u ≤ 9223372036854775807 → ∀ (w : World),
    Calls Tryz.prog 130 #[.int .i64 u] w fun e w' => e = .returned (.string ⟨(Lib.decDigits u).toArray⟩) ∧ Below w.heap.size w w' := by
  intro u
  induction u using Nat.strongRecOn with
  | ind u ih =>
  intro hu w
  by_cases h10 : u < 10
  · exact digits_small u h10 w
  have ih' := ih (u / 10) (by omega) (by omega)
  clear ih
  have hl : (Lib.decDigits (u / 10)).length ≤ 20 := by rw [Lib.decDigits_length]; exact nDigits_le20 _ (by omega)
  have hd : Lib.decDigits u = Lib.decDigits (u / 10) ++ [UInt8.ofNat (48 + u % 10)] := by rw [Lib.decDigits, dif_neg h10]
  rw [hd]
  clear hd
  have H : Hid (∀ (a : Int), a = ((u / 10 : Nat) : Int) → ∀ (w : World), Calls Tryz.prog 130 #[.int .i64 a] w fun e w' => e = .returned (.string ⟨(Lib.decDigits (u / 10)).toArray⟩) ∧ Below w.heap.size w w') := by
    intro a ha; subst ha; exact ih'
  clear ih'
  generalize Lib.decDigits (u / 10) = l at *
  have hc := conv1c (IntKind.u8.wrap (IntKind.i64.wrap (48 + (u : Int).tmod 10)))
  have hw : IntKind.i64.wrap ((u : Int) / 10) = ((u / 10 : Nat) : Int) := by rw [IntKind.wrap_i64]; omega
  have HW : Hid (IntKind.i64.wrap ((u : Int) / 10) = ((u / 10 : Nat) : Int)) := hw
  clear hw
  have HC : Hid ((⟨l.toArray⟩ : ByteArray) ++ ⟨#[UInt8.ofNat (48 + (u : Int) % 10).toNat]⟩ = ⟨(l ++ [UInt8.ofNat (48 + u % 10)]).toArray⟩) :=
    bcat l [UInt8.ofNat (48 + u % 10)] _ (by rw [show (48 + (u : Int) % 10).toNat = 48 + u % 10 by omega])
  go_enter Tryz.func130, Tryz.ntmps130
  go_wp2
  go_region_with (go_at_call 130; refine (H.out _ HW.out _).mono ?_; rintro e w' ⟨rfl, hb⟩; obtain ⟨hcc, hff⟩ := bcell hb)
  all_goals go_wp2
  all_goals go_ret
  all_goals refine ⟨congrArg (fun s => Ending.returned (Value.string s)) HC.out, ?_⟩
  all_goals first | exact below_first _ hb | exact (below_drew1 hb).alloc hb.size _
theorem digits_int (a : Int) (u : Nat) (ha : a = u) (hu : u ≤ 9223372036854775807) (w : World) :
    Calls Tryz.prog 130 #[.int .i64 a] w fun e w' => e = .returned (.string ⟨(Lib.decDigits u).toArray⟩) ∧ Below w.heap.size w w' := by
  subst ha; exact digits_any u hu w
set_option maxHeartbeats 400000 in
theorem refNumber_pos (n : Int) (h0 : 0 ≤ n) (h1 : n ≤ 9223372036854775807) (w : World) :
    Calls Tryz.prog 100 #[.int .i64 n] w fun e w' => e = .returned (.string ⟨(Lib.itoa n ++ [59]).toArray⟩) ∧ Below w.heap.size w w' := by
  have hi : Lib.itoa n = Lib.decDigits n.toNat := by unfold Lib.itoa; rw [if_neg (by omega)]
  rw [hi]
  have hl : (Lib.decDigits n.toNat).length ≤ 20 := by rw [Lib.decDigits_length]; exact nDigits_le20 _ (by omega)
  clear hi
  go_enter Tryz.func100, Tryz.ntmps100
  go_wp2_with (go_at_call 130; refine (digits_int n n.toNat (by omega) (by omega) _).mono ?_)
  rintro e w1 ⟨rfl, hb⟩
  go_wp2
  go_ret
  exact ⟨congrArg (fun s => Ending.returned (Value.string s)) (bcat _ [59] _ rfl), hb⟩
theorem tdiv_neg (u : Nat) : (-(u : Int)).tdiv 10 = -((u / 10 : Nat) : Int) := by
  rw [Int.neg_tdiv, Int.tdiv_eq_ediv_of_nonneg (by omega)]; omega
theorem below_two {w w1 w2 : World} (h1 : Below w.heap.size w w1) (h2 : Below w1.heap.size w1 w2) : Below w.heap.size w w2 := h1.trans (h2.mono h1.size)
set_option maxHeartbeats 400000 in
theorem refNumber_neg1 (u : Nat) (h0 : 1 ≤ u) (h1 : u < 10) (w : World) :
    Calls Tryz.prog 100 #[.int .i64 (-(u : Int))] w fun e w' => e = .returned (.string ⟨(Lib.itoa (-(u : Int)) ++ [59]).toArray⟩) ∧ Below w.heap.size w w' := by
  have hi : Lib.itoa (-(u : Int)) = 45 :: Lib.decDigits u := by unfold Lib.itoa; rw [if_pos (by omega), Int.natAbs_neg, Int.natAbs_natCast]
  rw [hi]
  have hl : (Lib.decDigits u).length ≤ 20 := by rw [Lib.decDigits_length]; exact nDigits_le20 _ (by omega)
  clear hi
  have hq : ((-(u : Int)).tdiv 10 == 0) = true := by rw [tdiv_neg, beq_iff_eq]; omega
  have hn : -(u : Int) < 0 := by omega
  go_enter Tryz.func100, Tryz.ntmps100
  go_wp2_with fail
  refine (digits_int _ u (by omega) (by omega) _).mono ?_
  rintro e w1 ⟨rfl, hb⟩
  go_wp2
  go_ret
  exact ⟨congrArg (fun s => Ending.returned (Value.string s)) (by rw [bcat _ [59] _ rfl]; rfl), hb⟩
open Go.RowKit Go.Joins
set_option maxRecDepth 100000
set_option maxHeartbeats 400000 in
theorem place_yes (s : ByteArray) (p : Nat) (h : p ≤ s.size) (w : World) :
    Calls Tryz.prog 138 #[.string s, .int .i64 p] w fun e w' => e = .returned (.bool true) ∧ w' = w := by
  have h1 : decide ((p : Int) ≤ (s.size : Int)) = true := by simp; omega
  go_enter Tryz.func138, Tryz.ntmps138
  go_wp2
  go_ret
  exact ⟨rfl, rfl⟩
theorem byte_at (s : ByteArray) (i : Nat) (h : i < s.size) : s.data.toList.getD i 0 = s[i] := by
  have h' : i < s.data.toList.length := by simpa using h
  rw [List.getD, List.getElem?_eq_getElem h']
  rfl
theorem byte_drop (s : ByteArray) (p k : Nat) (h : p + k < s.size) : (s.data.toList.drop p).getD k 0 = s[p + k] := by
  rw [← byte_at s (p + k) h]; simp [List.getD]
def eodTo (p : Nat) (r : List UInt8) (stop : UInt8) : Nat := if eodErr r stop = 0 then p + digRun r else 0
theorem eodTo_err {p : Nat} {r : List UInt8} {c : UInt8} {n : Nat} (h : eodErr r c = n) (hn : n ≠ 0) : eodTo p r c = 0 := by unfold eodTo; rw [if_neg (by omega)]
theorem eodTo_ok {p : Nat} {r : List UInt8} {c : UInt8} (h : eodErr r c = 0) : eodTo p r c = p + digRun r := by unfold eodTo; rw [if_pos h]
theorem ret_two {a b a' b' : Int} (h1 : a = a') (h2 : b = b') : Ending.returned (.tuple #[.int .i64 a, .int .i64 b]) = .returned (.tuple #[.int .i64 a', .int .i64 b']) := by rw [h1, h2]
set_option maxHeartbeats 1000000 in
theorem eod_any (s : ByteArray) (p : Nat) (h : p ≤ s.size) (c : UInt8) (hs : s.size ≤ maxLen) (w : World) (r : List UInt8) (HR : Hid (s.data.toList.drop p = r)) :
    Calls Tryz.prog 139 #[.string s, .int .i64 p, .int .u8 c.toNat] w fun e w' => e = .returned (.tuple #[.int .i64 (eodTo p r c), .int .i64 (eodErr r c)]) ∧ w' = w := by
  unfold maxLen at hs
  have hl := digRun_le r
  have hl2 : r.length = s.size - p := by rw [← HR.out]; simp
  have HD := digRun_at r
  have HS := digRun_stop r
  go_enter Tryz.func139, Tryz.ntmps139
  go_wp2
  go_loop [8] (fun i => ∃ k : Nat, k ≤ digRun r ∧ i = .int .i64 ((p + k : Nat) : Int)) (fun i => s.size - (intOf i).toNat)
  case atStart => exact ⟨0, Nat.zero_le _, rfl⟩
  case round =>
    obtain ⟨k, hk, rfl⟩ := hrel
    by_cases hlt : k < digRun r
    · have hd := HD k hlt
      have hps : p + k < s.size := by omega
      rw [← HR.out, byte_drop s p k hps] at hd
      simp only [isDig, Bool.and_eq_true, decide_eq_true_eq] at hd
      obtain ⟨hd1, hd2⟩ := hd
      clear HD HS
      go_wp2
      go_round
      case rel => exact ⟨k + 1, by omega, by go_num⟩
      case measure => simp [intOf]; omega
    · have hke : k = digRun r := by omega
      subst hke
      clear HD
      by_cases hend : digRun r = r.length
      · have hps : p + digRun r = s.size := by omega
        have HE : Hid (eodErr r c = 5) := by show _ = _; unfold eodErr; rw [if_pos hend]
        have hq : (((p : Int) + (digRun r : Int)) == (s.size : Int)) = true := by rw [beq_iff_eq]; omega
        have hq2 : ¬ ((p : Int) + (digRun r : Int)) < (s.size : Int) := by omega
        clear HS
        go_wp2
        go_ret2
        exact ⟨ret_two (by rw [eodTo_err HE.out (by decide)]; rfl) (by rw [HE.out]; rfl), rfl⟩
      · have hps : p + digRun r < s.size := by omega
        have hst := HS (by omega)
        have hgd : r.getD (digRun r) 0 = s[p + digRun r] := by have := byte_drop s p (digRun r) hps; rw [HR.out] at this; exact this
        have hp : p < s.size := by omega
        rw [hgd] at hst
        have hg0 : r.getD 0 0 = s[p] := by have := byte_drop s p 0 (by omega); rw [HR.out] at this; exact this
        have HE : Hid (eodErr r c = if digRun r = 0 ∨ s[p + digRun r] ≠ c ∨ (1 < digRun r ∧ s[p] = 48) then 6 else 0) := by show _ = _; unfold eodErr; rw [if_neg hend, hgd, hg0]
        clear HS hgd hg0
        have hq : (((p : Int) + (digRun r : Int)) == (s.size : Int)) = false := by rw [beq_eq_false_iff_ne]; omega
        have hnd : ((s[p + digRun r].toNat : Int) < 48) ∨ (57 < (s[p + digRun r].toNat : Int)) := by
          simp only [isDig, Bool.and_eq_false_iff, decide_eq_false_iff_not] at hst; omega
        clear hst
        by_cases h0 : digRun r = 0
        · have HE6 : Hid (eodErr r c = 6) := by show _ = _; rw [HE.out, if_pos (Or.inl h0)]
          have hb : (((p : Int) + (digRun r : Int)) == (p : Int)) = true := by rw [beq_iff_eq]; omega
          have hb1 : ¬ 1 < (p : Int) + (digRun r : Int) - (p : Int) := by omega
          clear HE h0
          rcases hnd with hnd | hnd
          all_goals
            go_wp2
            go_ret2
            exact ⟨ret_two (by rw [eodTo_err HE6.out (by decide)]; rfl) (by rw [HE6.out]; rfl), rfl⟩
        · have hb : (((p : Int) + (digRun r : Int)) == (p : Int)) = false := by rw [beq_eq_false_iff_ne]; omega
          by_cases hc : s[p + digRun r] = c
          · have hcb : ((s[p + digRun r].toNat : Int) != (c.toNat : Int)) = false := by rw [hc]; simp
            by_cases h1 : 1 < digRun r
            · have hb1 : 1 < (p : Int) + (digRun r : Int) - (p : Int) := by omega
              by_cases hz : s[p] = 48
              · have HE6 : Hid (eodErr r c = 6) := by show _ = _; rw [HE.out, if_pos (Or.inr (Or.inr ⟨h1, hz⟩))]
                have hzb : ((s[p].toNat : Int) == 48) = true := by rw [beq_iff_eq, hz]; rfl
                clear HE h0 hc hz
                rcases hnd with hnd | hnd
                all_goals
                  go_wp2
                  go_ret2
                  exact ⟨ret_two (by rw [eodTo_err HE6.out (by decide)]; rfl) (by rw [HE6.out]; rfl), rfl⟩
              · have HE0 : Hid (eodErr r c = 0) := by show _ = _; rw [HE.out, if_neg]; exact fun h' => h'.elim h0 (fun h' => h'.elim (fun h' => h' hc) (fun h' => hz h'.2))
                have hzb : ((s[p].toNat : Int) == 48) = false := by
                  rw [beq_eq_false_iff_ne]; intro h'; apply hz; apply UInt8.toNat_inj.1; show _ = 48; omega
                clear HE h0 hc hz
                rcases hnd with hnd | hnd
                all_goals
                  go_wp2
                  go_ret2
                  exact ⟨ret_two (by rw [eodTo_ok HE0.out]; omega) (by rw [HE0.out]; rfl), rfl⟩
            · have hb1 : ¬ 1 < (p : Int) + (digRun r : Int) - (p : Int) := by omega
              have HE0 : Hid (eodErr r c = 0) := by show _ = _; rw [HE.out, if_neg]; exact fun h' => h'.elim h0 (fun h' => h'.elim (fun h' => h' hc) (fun h' => h1 h'.1))
              clear HE h0 hc h1
              rcases hnd with hnd | hnd
              all_goals
                go_wp2
                go_ret2
                exact ⟨ret_two (by rw [eodTo_ok HE0.out]; omega) (by rw [HE0.out]; rfl), rfl⟩
          · have hcb : ((s[p + digRun r].toNat : Int) == (c.toNat : Int)) = false := by
              rw [beq_eq_false_iff_ne]; intro h'; apply hc; apply UInt8.toNat_inj.1; omega
            have hcn : ((s[p + digRun r].toNat : Int) != (c.toNat : Int)) = true := by rw [bne, hcb]; rfl
            have HE6 : Hid (eodErr r c = 6) := by show _ = _; rw [HE.out, if_pos (Or.inr (Or.inl hc))]
            clear HE h0 hc
            rcases hnd with hnd | hnd
            all_goals
              clear hcb
              by_cases h1 : 1 < (p : Int) + (digRun r : Int) - (p : Int)
              all_goals
                go_wp2
                all_goals
                  go_ret2
                  exact ⟨ret_two (by rw [eodTo_err HE6.out (by decide)]; rfl) (by rw [HE6.out]; rfl), rfl⟩
open Go.RowKit Go.Joins
set_option maxRecDepth 100000
theorem eod_ok (s : ByteArray) (q : Int) (p : Nat) (hq : q = p) (h : p ≤ s.size) (c : UInt8) (hs : s.size ≤ maxLen) (w : World) (r : List UInt8) (HR : Hid (s.data.toList.drop p = r)) (he : eodErr r c = 0) :
    Calls Tryz.prog 139 #[.string s, .int .i64 q, .int .u8 c.toNat] w fun e w' => e = .returned (.tuple #[.int .i64 ((p + digRun r : Nat) : Int), .int .i64 0]) ∧ w' = w := by
  subst hq
  refine (eod_any s p h c hs w r HR).mono ?_
  rintro e w' ⟨rfl, rfl⟩
  rw [eodTo_ok he, he]
  exact ⟨rfl, rfl⟩
theorem eod_bad (s : ByteArray) (q : Int) (p : Nat) (hq : q = p) (h : p ≤ s.size) (c : UInt8) (hs : s.size ≤ maxLen) (w : World) (r : List UInt8) (HR : Hid (s.data.toList.drop p = r)) (n : Nat) (he : eodErr r c = n) (hn : n ≠ 0) :
    Calls Tryz.prog 139 #[.string s, .int .i64 q, .int .u8 c.toNat] w fun e w' => e = .returned (.tuple #[.int .i64 0, .int .i64 n]) ∧ w' = w := by
  subst hq
  refine (eod_any s p h c hs w r HR).mono ?_
  rintro e w' ⟨rfl, rfl⟩
  rw [eodTo_err he hn, he]
  exact ⟨rfl, rfl⟩
theorem pre_minus (s : ByteArray) (p : Nat) (w : World) (b : Bool) (hb : isNeg (s.data.toList.drop p) = b) :
    Calls Tryz.prog 92 #[.string (s.extract p s.size), .string ⟨#[45]⟩] w fun e w' => e = .returned (.bool b) ∧ w' = w := by
  refine (Tryz.strings_HasPrefix _ _ w).mono ?_
  rintro e w' ⟨rfl, rfl⟩
  rw [Lib.extract_data, List.take_of_length_le (by simp), ← hb]
  refine ⟨?_, rfl⟩
  congr 2
  generalize s.data.toList.drop p = l
  cases l with
  | nil => rfl
  | cons x l => simp only [Lib.hasPrefix, isNeg, List.isPrefixOf, List.getD_cons_zero, Bool.and_true]; rw [Bool.eq_iff_iff, beq_iff_eq, beq_iff_eq]; exact eq_comm
set_option maxHeartbeats 400000 in
theorem rd_negbad (s : ByteArray) (p : Nat) (h : p < s.size) (hs : s.size ≤ maxLen) (hneg : isNeg (s.data.toList.drop p) = true) (r : List UInt8) (HR : Hid (s.data.toList.drop (p + 1) = r)) (n : Nat) (he : eodErr r 59 = n) (hn : n ≠ 0) (w : World) :
    Calls Tryz.prog 117 #[.string s, .int .i64 p] w fun e w' => e = .returned (.tuple #[.int .i64 0, .int .i64 0, .int .i64 n]) ∧ w' = w := by
  have HS : Hid (s.size ≤ maxLen) := hs
  unfold maxLen at hs
  have HE : Hid (eodErr r 59 = n) := he
  have HG : Hid (isNeg (s.data.toList.drop p) = true) := hneg
  have hnb : ((n : Int) != 0) = true := by rw [bne_iff_ne]; omega
  clear he hneg
  go_enter Tryz.func117, Tryz.ntmps117
  go_wp2_with fail
  refine (place_yes s p (by omega) _).mono ?_
  rintro e w' ⟨rfl, hw⟩
  subst hw
  go_wp2_with fail
  refine (pre_minus s p _ true HG.out).mono ?_
  rintro e w' ⟨rfl, hw⟩
  subst hw
  go_wp2_with fail
  refine (eod_bad s _ (p + 1) (by omega) (by omega) 59 HS.out _ r HR n HE.out hn).mono ?_
  rintro e w' ⟨rfl, hw⟩
  subst hw
  go_wp2
  go_ret3
  exact ⟨rfl, rfl⟩
set_option maxHeartbeats 400000 in
theorem rd_posbad (s : ByteArray) (p : Nat) (h : p ≤ s.size) (hs : s.size ≤ maxLen) (hneg : isNeg (s.data.toList.drop p) = false) (r : List UInt8) (HR : Hid (s.data.toList.drop p = r)) (n : Nat) (he : eodErr r 59 = n) (hn : n ≠ 0) (w : World) :
    Calls Tryz.prog 117 #[.string s, .int .i64 p] w fun e w' => e = .returned (.tuple #[.int .i64 0, .int .i64 0, .int .i64 n]) ∧ w' = w := by
  have HS : Hid (s.size ≤ maxLen) := hs
  unfold maxLen at hs
  have HE : Hid (eodErr r 59 = n) := he
  have HG : Hid (isNeg (s.data.toList.drop p) = false) := hneg
  have hnb : ((n : Int) != 0) = true := by rw [bne_iff_ne]; omega
  clear he hneg
  go_enter Tryz.func117, Tryz.ntmps117
  go_wp2_with fail
  refine (place_yes s p (by omega) _).mono ?_
  rintro e w' ⟨rfl, hw⟩
  subst hw
  go_wp2_with fail
  refine (pre_minus s p _ false HG.out).mono ?_
  rintro e w' ⟨rfl, hw⟩
  subst hw
  go_wp2_with fail
  refine (eod_bad s _ p (by omega) (by omega) 59 HS.out _ r HR n HE.out hn).mono ?_
  rintro e w' ⟨rfl, hw⟩
  subst hw
  go_wp2
  go_ret3
  exact ⟨rfl, rfl⟩
set_option maxHeartbeats 400000 in
theorem rd_negzero (s : ByteArray) (p : Nat) (hs : s.size ≤ maxLen) (hneg : isNeg (s.data.toList.drop p) = true) (r : List UInt8) (HR : Hid (s.data.toList.drop (p + 1) = r)) (he : eodErr r 59 = 0) (h1 : p + 1 < s.size) (hz : s[p + 1] = 48) (w : World) :
    Calls Tryz.prog 117 #[.string s, .int .i64 p] w fun e w' => e = .returned (.tuple #[.int .i64 0, .int .i64 0, .int .i64 6]) ∧ w' = w := by
  have HS : Hid (s.size ≤ maxLen) := hs
  unfold maxLen at hs
  have HE : Hid (eodErr r 59 = 0) := he
  have HG : Hid (isNeg (s.data.toList.drop p) = true) := hneg
  have hzb : ((s[p + 1].toNat : Int) == 48) = true := by rw [beq_iff_eq, hz]; rfl
  clear he hneg hz
  go_enter Tryz.func117, Tryz.ntmps117
  go_wp2_with fail
  refine (place_yes s p (by omega) _).mono ?_
  rintro e w' ⟨rfl, hw⟩
  subst hw
  go_wp2_with fail
  refine (pre_minus s p _ true HG.out).mono ?_
  rintro e w' ⟨rfl, hw⟩
  subst hw
  go_wp2_with fail
  refine (eod_ok s _ (p + 1) (by omega) (by omega) 59 HS.out _ r HR HE.out).mono ?_
  rintro e w' ⟨rfl, hw⟩
  subst hw
  go_wp2
  go_ret3
  exact ⟨rfl, rfl⟩
theorem atoi_at (x : ByteArray) (l : List UInt8) (hx : x.data.toList = l) (hlim : x.size ≤ 281474976710656) (hl : (∃ v, Lib.atoiAll l = .ok v) ∨ Lib.atoiAll l = .range) (w : World) (ht : Tabs w) :
    Calls Tryz.prog 140 #[.string x] w fun e w' => ((∃ v, Lib.atoiAll l = .ok v ∧ e = .returned (.tuple #[.int .i64 v, .nilIface])) ∨ (Lib.atoiAll l = .range ∧ ∃ v tt pp, e = .returned (.tuple #[.int .i64 v, .iface tt pp]))) ∧ Below w.heap.size w w' := by
  subst hx
  rcases hl with ⟨v, hv⟩ | hr
  · refine (Tryz.strconv_Atoi_ok x (by omega) v hv w).mono ?_
    rintro e w' ⟨rfl, hw⟩
    refine ⟨.inl ⟨v, hv, rfl⟩, ?_⟩
    rcases hw with rfl | ⟨t, rfl⟩
    · exact Below.refl _ _
    · exact below_bytesWorld _ _ _ _ (Nat.le_refl _)
  · obtain ⟨tp, p, hvar⟩ := ht.2
    refine (Tryz.strconv_Atoi_range_var x hlim hr tp p w hvar).mono ?_
    rintro e w' ⟨N, rfl, -, -, hb⟩
    exact ⟨.inr ⟨hr, _, _, _, rfl⟩, hb⟩
theorem extract_size (s : ByteArray) (a b : Nat) : (s.extract a b).size ≤ s.size := by
  have h := congrArg List.length (Lib.extract_data s a b)
  rw [List.length_take, List.length_drop] at h
  have e1 : (s.extract a b).data.toList.length = (s.extract a b).size := by rw [Array.length_toList]; rfl
  have e2 : s.data.toList.length = s.size := by rw [Array.length_toList]; rfl
  omega
set_option maxHeartbeats 400000 in
theorem rd_neg (s : ByteArray) (p : Nat) (hs : s.size ≤ 281474976710656) (hneg : isNeg (s.data.toList.drop p) = true) (r : List UInt8) (HR : Hid (s.data.toList.drop (p + 1) = r)) (he : eodErr r 59 = 0) (h1 : p + 1 < s.size) (hz : s[p + 1] ≠ 48)
    (l : List UInt8) (hlt : (s.data.toList.drop p).take (1 + digRun r) = l) (hl : (∃ v, Lib.atoiAll l = .ok v) ∨ Lib.atoiAll l = .range) (w : World) (ht : Tabs w) :
    Calls Tryz.prog 117 #[.string s, .int .i64 p] w fun e w' => ((∃ v, Lib.atoiAll l = .ok v ∧ e = .returned (.tuple #[.int .i64 v, .int .i64 ((p + (1 + digRun r + 1) : Nat) : Int), .int .i64 0])) ∨ (Lib.atoiAll l = .range ∧ e = .returned (.tuple #[.int .i64 0, .int .i64 0, .int .i64 4]))) ∧ Below w.heap.size w w' := by
  have HS : Hid (s.size ≤ maxLen) := by show s.size ≤ 9223372036854775807; omega
  have HE : Hid (eodErr r 59 = 0) := he
  have HG : Hid (isNeg (s.data.toList.drop p) = true) := hneg
  have HL : Hid ((s.data.toList.drop p).take (1 + digRun r) = l) := hlt
  have hzb : ((s[p + 1].toNat : Int) == 48) = false := by
    rw [beq_eq_false_iff_ne]; intro h'; apply hz; apply UInt8.toNat_inj.1; show _ = 48; omega
  have hdl := digRun_le r
  have hrl : r.length = s.size - (p + 1) := by rw [← HR.out]; simp
  have hde : p + 1 + digRun r ≤ s.size := by omega
  have HLL : Hid ((∃ v, Lib.atoiAll l = .ok v) ∨ Lib.atoiAll l = .range) := hl
  clear he hneg hz hlt hl hrl
  go_enter Tryz.func117, Tryz.ntmps117
  go_wp2_with fail
  refine (place_yes s p (by omega) _).mono ?_
  rintro e w' ⟨rfl, hw⟩
  subst hw
  go_wp2_with fail
  refine (pre_minus s p _ true HG.out).mono ?_
  rintro e w' ⟨rfl, hw⟩
  subst hw
  go_wp2_with fail
  refine (eod_ok s _ (p + 1) (by omega) (by omega) 59 HS.out _ r HR HE.out).mono ?_
  rintro e w' ⟨rfl, hw⟩
  subst hw
  go_wp2_with fail
  refine (atoi_at (s.extract p (p + 1 + digRun r)) l (by rw [Lib.extract_data, show p + 1 + digRun r - p = 1 + digRun r by omega]; exact HL.out) (Nat.le_trans (extract_size _ _ _) hs) HLL.out _ ht).mono ?_
  rintro e w2 ⟨(⟨v, hv, rfl⟩ | ⟨hr, v, tt, pp, rfl⟩), hb⟩
  · have HV : Hid (Lib.atoiAll l = .ok v) := hv
    clear hv HLL
    go_wp2
    go_ret3
    exact ⟨.inl ⟨v, HV.out, by simp; omega⟩, hb⟩
  · have HV : Hid (Lib.atoiAll l = .range) := hr
    clear hr HLL
    go_wp2
    go_ret3
    exact ⟨.inr ⟨HV.out, rfl⟩, hb⟩
set_option maxHeartbeats 400000 in
theorem rd_pos (s : ByteArray) (p : Nat) (hs : s.size ≤ 281474976710656) (hneg : isNeg (s.data.toList.drop p) = false) (r : List UInt8) (HR : Hid (s.data.toList.drop p = r)) (he : eodErr r 59 = 0) (h1 : p ≤ s.size)
    (l : List UInt8) (hlt : (s.data.toList.drop p).take (0 + digRun r) = l) (hl : (∃ v, Lib.atoiAll l = .ok v) ∨ Lib.atoiAll l = .range) (w : World) (ht : Tabs w) :
    Calls Tryz.prog 117 #[.string s, .int .i64 p] w fun e w' => ((∃ v, Lib.atoiAll l = .ok v ∧ e = .returned (.tuple #[.int .i64 v, .int .i64 ((p + (0 + digRun r + 1) : Nat) : Int), .int .i64 0])) ∨ (Lib.atoiAll l = .range ∧ e = .returned (.tuple #[.int .i64 0, .int .i64 0, .int .i64 4]))) ∧ Below w.heap.size w w' := by
  have HS : Hid (s.size ≤ maxLen) := by show s.size ≤ 9223372036854775807; omega
  have HE : Hid (eodErr r 59 = 0) := he
  have HG : Hid (isNeg (s.data.toList.drop p) = false) := hneg
  have HL : Hid ((s.data.toList.drop p).take (0 + digRun r) = l) := hlt
  have hdl := digRun_le r
  have hrl : r.length = s.size - p := by rw [← HR.out]; simp
  have hde : p + digRun r ≤ s.size := by omega
  have HLL : Hid ((∃ v, Lib.atoiAll l = .ok v) ∨ Lib.atoiAll l = .range) := hl
  clear he hneg hlt hl hrl
  go_enter Tryz.func117, Tryz.ntmps117
  go_wp2_with fail
  refine (place_yes s p (by omega) _).mono ?_
  rintro e w' ⟨rfl, hw⟩
  subst hw
  go_wp2_with fail
  refine (pre_minus s p _ false HG.out).mono ?_
  rintro e w' ⟨rfl, hw⟩
  subst hw
  go_wp2_with fail
  refine (eod_ok s _ p (by omega) (by omega) 59 HS.out _ r HR HE.out).mono ?_
  rintro e w' ⟨rfl, hw⟩
  subst hw
  go_wp2_with fail
  refine (atoi_at (s.extract p (p + digRun r)) l (by rw [Lib.extract_data, show p + digRun r - p = 0 + digRun r by omega]; exact HL.out) (Nat.le_trans (extract_size _ _ _) hs) HLL.out _ ht).mono ?_
  rintro e w2 ⟨(⟨v, hv, rfl⟩ | ⟨hr, v, tt, pp, rfl⟩), hb⟩
  · have HV : Hid (Lib.atoiAll l = .ok v) := hv
    clear hv HLL
    go_wp2
    go_ret3
    exact ⟨.inl ⟨v, HV.out, by simp; omega⟩, hb⟩
  · have HV : Hid (Lib.atoiAll l = .range) := hr
    clear hr HLL
    go_wp2
    go_ret3
    exact ⟨.inr ⟨HV.out, rfl⟩, hb⟩
def numTo (p : Nat) (r : List UInt8) : Nat := if (readNum r).1 = 0 then p + (readNum r).2.2 else 0
theorem atoi_digits (l : List UInt8) (hl : ∀ c ∈ l, isDig c = true) (hne : l ≠ []) : (∃ v, Lib.atoiAll l = .ok v) ∨ Lib.atoiAll l = .range := by
  have hp := parse_digits l hl 0
  cases l with
  | nil => exact absurd rfl hne
  | cons c r =>
    have hc := isDig_ne (hl c (by simp))
    simp only [Lib.atoiAll]
    rw [if_neg (by omega)]
    simp only [Lib.parseMag]
    rw [if_neg (by simp)]
    rcases hp with ⟨u, hu⟩ | hu
    · rw [hu]
      simp only
      split
      · exact .inr rfl
      · split
        · exact .inr rfl
        · exact .inl ⟨_, rfl⟩
    · rw [hu]; exact .inr rfl
theorem atoi_negdigits (l : List UInt8) (hl : ∀ c ∈ l, isDig c = true) (hne : l ≠ []) : (∃ v, Lib.atoiAll (45 :: l) = .ok v) ∨ Lib.atoiAll (45 :: l) = .range := by
  have hp := parse_digits l hl 0
  simp only [Lib.atoiAll]
  rw [if_pos (Or.inr (by decide))]
  simp only [Lib.parseMag]
  rw [if_neg hne]
  rcases hp with ⟨u, hu⟩ | hu
  · rw [hu]
    simp only
    split
    · exact .inr rfl
    · split
      · exact .inr rfl
      · exact .inl ⟨_, rfl⟩
  · rw [hu]; exact .inr rfl
theorem eod_zero {r : List UInt8} {c : UInt8} (h : eodErr r c = 0) : 0 < digRun r ∧ digRun r < r.length ∧ r.getD (digRun r) 0 = c ∧ (1 < digRun r → r.getD 0 0 ≠ 48) := by
  unfold eodErr at h
  have hl := digRun_le r
  split at h
  · omega
  · split at h
    · omega
    · rename_i h1 h2
      refine ⟨?_, by omega, ?_, ?_⟩
      · rcases Nat.eq_zero_or_pos (digRun r) with h3 | h3
        · exact absurd (Or.inl h3) h2
        · exact h3
      · by_cases h3 : r.getD (digRun r) 0 = c
        · exact h3
        · exact absurd (Or.inr (Or.inl h3)) h2
      · intro h3 h4; exact h2 (Or.inr (Or.inr ⟨h3, h4⟩))
theorem neg_form {r : List UInt8} (h : isNeg r = true) : ∃ r', r = 45 :: r' := by
  cases r with
  | nil => simp [isNeg] at h
  | cons c r => simp [isNeg] at h; exact ⟨r, by rw [h]⟩
theorem readNumber_any (s : ByteArray) (p : Nat) (h : p ≤ s.size) (hs : s.size ≤ 281474976710656) (w : World) (ht : Tabs w) (r : List UInt8) (hr : s.data.toList.drop p = r) :
    Calls Tryz.prog 117 #[.string s, .int .i64 p] w fun e w' => e = .returned (.tuple #[.int .i64 (readNum r).2.1, .int .i64 (numTo p r), .int .i64 (readNum r).1]) ∧ Below w.heap.size w w' := by
  have hlen : r.length = s.size - p := by rw [← hr]; simp
  have hsm : s.size ≤ maxLen := by show s.size ≤ 9223372036854775807; omega
  cases hneg : isNeg r with
  | true =>
    obtain ⟨r', rfl⟩ := neg_form hneg
    have hp : p < s.size := by simp at hlen; omega
    have hr' : s.data.toList.drop (p + 1) = r' := by rw [← List.drop_drop, hr]; rfl
    have hnl : negLen (45 :: r') = 1 := by unfold negLen; rw [if_pos hneg]
    have hd : (45 :: r').drop 1 = r' := rfl
    by_cases he : eodErr r' 59 = 0
    · obtain ⟨k0, k1, -, -⟩ := eod_zero he
      have h1 : p + 1 < s.size := by simp at hlen; omega
      have hg : r'.getD 0 0 = s[p + 1] := by rw [← byte_drop s (p + 1) 0 (by omega), hr']
      by_cases hz : s[p + 1] = 48
      · have e : readNum (45 :: r') = (6, 0, 0) := by
          unfold readNum; rw [hnl, hd, he, if_neg (by simp), if_pos ⟨hneg, by rw [hg, hz]⟩]
        refine (rd_negzero s p hsm (by rw [hr]; exact hneg) r' hr' he h1 hz w).mono ?_
        rintro e w' ⟨rfl, rfl⟩
        rw [show numTo p (45 :: r') = 0 by unfold numTo; rw [‹readNum _ = _›]; rfl, ‹readNum _ = _›]
        exact ⟨rfl, Below.refl _ _⟩
      · have ht1 : (45 :: r').take (1 + digRun r') = 45 :: r'.take (digRun r') := by rw [Nat.add_comm, List.take_succ_cons]
        have hl := atoi_negdigits (r'.take (digRun r')) (digRun_all r') (by intro h0; have := congrArg List.length h0; rw [List.length_take, List.length_nil] at this; omega)
        refine (rd_neg s p hs (by rw [hr]; exact hneg) r' hr' he h1 hz (45 :: r'.take (digRun r')) (by rw [hr, ht1]) hl w ht).mono ?_
        have e0 : readNum (45 :: r') = numOf (Lib.atoiAll (45 :: r'.take (digRun r'))) (1 + digRun r' + 1) := by
          unfold readNum; rw [hnl, hd, he, if_neg (by simp), if_neg (by rw [hg]; exact fun h' => hz h'.2), ht1]
        rintro e w' ⟨(⟨v, hv, rfl⟩ | ⟨hv, rfl⟩), hb⟩
        · rw [hv] at e0
          simp only [numOf] at e0
          rw [show numTo p (45 :: r') = p + (1 + digRun r' + 1) by unfold numTo; rw [e0]; rfl, e0]
          exact ⟨rfl, hb⟩
        · rw [hv] at e0
          simp only [numOf] at e0
          rw [show numTo p (45 :: r') = 0 by unfold numTo; rw [e0]; rfl, e0]
          exact ⟨rfl, hb⟩
    · have e0 : readNum (45 :: r') = (eodErr r' 59, 0, 0) := by unfold readNum; rw [hnl, hd, if_pos he]
      refine (rd_negbad s p hp hsm (by rw [hr]; exact hneg) r' hr' _ rfl he w).mono ?_
      rintro e w' ⟨rfl, rfl⟩
      rw [show numTo p (45 :: r') = 0 by unfold numTo; rw [e0, if_neg he], e0]
      exact ⟨rfl, Below.refl _ _⟩
  | false =>
    have hnl : negLen r = 0 := by unfold negLen; rw [hneg]; rfl
    by_cases he : eodErr r 59 = 0
    · obtain ⟨k0, k1, -, -⟩ := eod_zero he
      have hl := atoi_digits (r.take (digRun r)) (digRun_all r) (by intro h0; have := congrArg List.length h0; rw [List.length_take, List.length_nil] at this; omega)
      refine (rd_pos s p hs (by rw [hr]; exact hneg) r hr he h (r.take (digRun r)) (by rw [hr, Nat.zero_add]) hl w ht).mono ?_
      have e0 : readNum r = numOf (Lib.atoiAll (r.take (digRun r))) (0 + digRun r + 1) := by
        unfold readNum; rw [hnl, List.drop_zero, he, if_neg (by simp), if_neg (by rw [hneg]; simp), Nat.zero_add]
      rintro e w' ⟨(⟨v, hv, rfl⟩ | ⟨hv, rfl⟩), hb⟩
      · rw [hv] at e0
        simp only [numOf] at e0
        rw [show numTo p r = p + (0 + digRun r + 1) by unfold numTo; rw [e0]; rfl, e0]
        exact ⟨rfl, hb⟩
      · rw [hv] at e0
        simp only [numOf] at e0
        rw [show numTo p r = 0 by unfold numTo; rw [e0]; rfl, e0]
        exact ⟨rfl, hb⟩
    · have e0 : readNum r = (eodErr r 59, 0, 0) := by unfold readNum; rw [hnl, List.drop_zero, if_pos he]
      refine (rd_posbad s p h hsm (by rw [hr]; exact hneg) r hr _ rfl he w).mono ?_
      rintro e w' ⟨rfl, rfl⟩
      rw [show numTo p r = 0 by unfold numTo; rw [e0, if_neg he], e0]
      exact ⟨rfl, Below.refl _ _⟩
end Go.Proofs.YtekfcbedlokidaaGreatDoor.Lay
