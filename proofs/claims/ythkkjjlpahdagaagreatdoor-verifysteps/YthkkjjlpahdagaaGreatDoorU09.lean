/-
  Submits, blobs, what is pending, replies and messages that came in, opened for a walk.
-/
import Derived.Test.YthkkjjlpahdagaaGreatDoorS15
import Derived.Test.YthkkjjlpahdagaaGreatDoorRows
import Derived.ProofKit
import Derived.OpenShut
import Derived.Deep.Slices
import Derived.Test.YthkkjjlpahdagaaGreatDoorS05
import Derived.Test.YthkkjjlpahdagaaGreatDoorS16
import Derived.LaidMore
import Derived.Stop.Joined
import Derived.Stop.LaidErr
import Derived.Lib.LaidTab
namespace Go.Proofs.YthkkjjlpahdagaaGreatDoor.Ms
open Go Go.ChangeShapes Go.WideShapes Go.ChangeAt Go.WideMaps Go.WideElems Go.RowKit
set_option maxRecDepth 100000
theorem laidOut:laidOutB Tryz.prog=true:=by kernel_rfl
theorem cells_dig:Tryz.prog.cellsOf 23=32:=by kernel_rfl
theorem cells_byt:Tryz.prog.cellsOf 5=1:=by kernel_rfl
theorem cells_int:Tryz.prog.cellsOf 3=1:=by kernel_rfl
theorem cells_pen:Tryz.prog.cellsOf 25=68:=by kernel_rfl
theorem bytes_list:∀ (cs:List Value),(∀ i,i < cs.length→∃ n:Int,cs[i]? = some (.int .u8 n)∧0 ≤ n∧n ≤ 255)→∃ l:List UInt8,l.length=cs.length∧cs=dg l
 | [],_=>⟨[],rfl,rfl⟩
 | c :: cs,h=>by
  obtain ⟨n,hn,h0,h1⟩:=h 0 (by simp)
  obtain ⟨l,hl,hcs⟩:=bytes_list cs (fun i hi=>by
   obtain ⟨m,hm,h2⟩:=h (i + 1) (by simpa using hi)
   exact ⟨m,by simpa using hm,h2⟩)
  refine ⟨UInt8.ofNat n.toNat :: l,by simp [hl],?_⟩
  have hc:c = .int .u8 n:=by simpa using hn
  have e:dg (UInt8.ofNat n.toNat :: l)=cb (UInt8.ofNat n.toNat) :: dg l:=rfl
  rw [e,← hcs,hc]
  congr 1
  unfold cb bv
  congr 1
  rw [UInt8.toNat_ofNat']
  omega
theorem stp (cs:List Value) (a b c:Nat) (h:a + b=c):cs.drop a=(cs.drop a).take b++cs.drop c:=by subst h;rw [← List.drop_drop];exact (List.take_append_drop b _).symm
theorem at_some {α:Type} {xs:List α} {n:Nat} (i:Nat) (h:xs.length=n) (hi:i < n):∃ y,xs[i]? = some y:=⟨xs[i],List.getElem?_eq_getElem (by omega)⟩
section
variable {H:Type} {enc:TypeId × Value→H} {W:World} {held:Bool} {fuel:Nat} {cs:List Value} {x:DataW H × List MemPlace}
theorem int_c (h:DataW.trod enc Tryz.prog W 0 (fun _=>true) held fuel 3 cs=some x):∃ n,cs = [nu n]∧I64 n:=by
 obtain ⟨n,e,-,hw⟩:=DataW.trod_int Tryz.underlying3 h
 exact ⟨n,e,bounds_i64 hw⟩
theorem dig_c (h:DataW.trod enc Tryz.prog W 0 (fun _=>true) held fuel 23 cs=some x):∃ l:List UInt8,cs=dg l∧l.length=32:=by
 obtain ⟨xs,m,_,hx,hlen,hxl,hat⟩:=DataW.trod_array Tryz.underlying23 h
 rw [cells_dig] at hlen
 rw [cells_byt] at hat
 obtain ⟨l,hl,hcs⟩:=bytes_list cs (fun i hi=>by
  have h1:=hat i (by omega)
  cases hq:xs[i]? with
  | none=>rw [List.getElem?_eq_none_iff] at hq;omega
  | some x =>
   rw [hq] at h1
   obtain ⟨n,hn,-,hw⟩:=DataW.trod_int Tryz.underlying5 h1
   have h2:cs[i]? = some (.int .u8 n):=by
    have:=congrArg (·[0]?) hn
    simpa [List.getElem?_take,List.getElem?_drop] using this
   exact ⟨n,h2,bounds_u8 hw⟩)
 exact ⟨l,hcs,by omega⟩
theorem pen_c (h:DataW.trod enc Tryz.prog W 0 (fun _=>true) held fuel 25 cs=some x):∃ y:Pen,cs=penC y∧penOk y:=by
 obtain ⟨xs,n,_,_,hl,hlen,hfs⟩:=DataW.trod_struct Tryz.underlying25 h
 rw [cells_pen] at hl
 have hxl:xs.length=6:=hlen
 have g0:DataW.trod enc Tryz.prog W 0 (fun _=>true) held n 3 ((cs.drop 0).take (Tryz.prog.cellsOf 3))=xs[0]?:=hfs 0 _ rfl
 rw [cells_int] at g0
 obtain ⟨y0,hy0⟩:=at_some 0 hxl (by decide)
 rw [hy0] at g0
 obtain ⟨a0,e0,b0⟩:=int_c g0
 have g1:DataW.trod enc Tryz.prog W 0 (fun _=>true) held n 3 ((cs.drop 1).take (Tryz.prog.cellsOf 3))=xs[1]?:=hfs 1 _ rfl
 rw [cells_int] at g1
 obtain ⟨y1,hy1⟩:=at_some 1 hxl (by decide)
 rw [hy1] at g1
 obtain ⟨a1,e1,b1⟩:=int_c g1
 have g2:DataW.trod enc Tryz.prog W 0 (fun _=>true) held n 3 ((cs.drop 2).take (Tryz.prog.cellsOf 3))=xs[2]?:=hfs 2 _ rfl
 rw [cells_int] at g2
 obtain ⟨y2,hy2⟩:=at_some 2 hxl (by decide)
 rw [hy2] at g2
 obtain ⟨a2,e2,b2⟩:=int_c g2
 have g3:DataW.trod enc Tryz.prog W 0 (fun _=>true) held n 3 ((cs.drop 3).take (Tryz.prog.cellsOf 3))=xs[3]?:=hfs 3 _ rfl
 rw [cells_int] at g3
 obtain ⟨y3,hy3⟩:=at_some 3 hxl (by decide)
 rw [hy3] at g3
 obtain ⟨a3,e3,b3⟩:=int_c g3
 have g4:DataW.trod enc Tryz.prog W 0 (fun _=>true) held n 23 ((cs.drop 4).take (Tryz.prog.cellsOf 23))=xs[4]?:=hfs 4 _ rfl
 rw [cells_dig] at g4
 obtain ⟨y4,hy4⟩:=at_some 4 hxl (by decide)
 rw [hy4] at g4
 obtain ⟨a4,e4,b4⟩:=dig_c g4
 have g5:DataW.trod enc Tryz.prog W 0 (fun _=>true) held n 23 ((cs.drop 36).take (Tryz.prog.cellsOf 23))=xs[5]?:=hfs 5 _ rfl
 rw [cells_dig] at g5
 obtain ⟨y5,hy5⟩:=at_some 5 hxl (by decide)
 rw [hy5] at g5
 obtain ⟨a5,e5,b5⟩:=dig_c g5
 have hcs:cs = [nu a0]++([nu a1]++([nu a2]++([nu a3]++(dg a4++(dg a5++[]))))):=(stp cs 0 1 1 rfl).trans (congr (congrArg HAppend.hAppend e0) ((stp cs 1 1 2 rfl).trans (congr (congrArg HAppend.hAppend e1) ((stp cs 2 1 3 rfl).trans (congr (congrArg HAppend.hAppend e2) ((stp cs 3 1 4 rfl).trans (congr (congrArg HAppend.hAppend e3) ((stp cs 4 32 36 rfl).trans (congr (congrArg HAppend.hAppend e4) ((stp cs 36 32 68 rfl).trans (congr (congrArg HAppend.hAppend e5) (List.drop_eq_nil_of_le (by omega)))))))))))))
 refine ⟨⟨a0,a1,a2,a3,a4,a5⟩,?_,⟨b0,b1,b2,b3,b4,b5⟩⟩
 rw [hcs];simp [penC]
end
section
variable {H:Type} {enc:TypeId × Value→H} {W:World} {v:Value} {d:DataW H} {p:List MemPlace}
theorem agg_of {v:Value} {l:List Value} (h:v.cells.toList=l) (hl:1 < l.length):v = .agg l.toArray:=by
 cases v with
 | agg cs=>simp only [Value.cells] at h;rw [← h,Array.toArray_toList]
 | _=>simp [Value.cells] at h;subst h;simp at hl
end
open Go Go.ChangeShapes Go.WideShapes Go.ChangeAt Go.WideMaps Go.WideElems Go.RowKit
set_option maxRecDepth 100000
section
variable {H:Type} {enc:TypeId × Value→H} {W:World} {v:Value} {d:DataW H} {p:List MemPlace}
theorem open_pen (h:DataW.Trod enc Tryz.prog W 0 (fun _=>true) true 25 v d p):∃ P:Pen,v = .agg (penC P).toArray∧penOk P:=by
 obtain ⟨fuel,hf⟩:=h
 obtain ⟨P,hc,h1⟩:=pen_c hf
 exact ⟨P,agg_of hc (by rw [penC_len ⟨h1.asked,h1.proof⟩];decide),h1⟩
end
end Go.Proofs.YthkkjjlpahdagaaGreatDoor.Ms
namespace Go.Proofs.YthkkjjlpahdagaaGreatDoor
open Go.ChangeShapes Go.WideShapes Go.ChangeAt Go.WideMaps Go.WideElems Go.RowKit
def laidAll:List (String × DataW Unit):=[("math/bits.deBruijn32tab", Rows.laid_math_bits_deBruijn32tab),("math/bits.deBruijn64tab", Rows.laid_math_bits_deBruijn64tab),("affidavit/sum.constants", Rows.laid_affidavit_sum_constants),("internal/strconv.uint64pow10", Rows.laid_internal_strconv_uint64pow10),("strconv.ErrRange", Rows.laid_strconv_ErrRange),("strconv.ErrSyntax", Rows.laid_strconv_ErrSyntax)]
theorem own:ownKnob Tryz.prog.godebug=none:=by kernel_rfl
theorem tPow:(Tryz.prog.globals[1]?).map (·.type)=some 217:=by kernel_rfl
theorem tRange:(Tryz.prog.globals[5]?).map (·.type)=some 178:=by kernel_rfl
theorem door_met (os:Os) (args:Array Value):laidMetH Tryz.prog laidAll ((World.doorLaid Tryz.prog 67 os).forCall (fun _ _=>0) ⟨#[],args,[]⟩).memory :=
 laidMetH_of_parts3 (fuel:=8) (laidMet_of_run' 8 (by kernel_rfl) (by kernel_rfl)) (by kernel_rfl) (by kernel_rfl)
theorem cells154:Tryz.prog.cellsOf 154=1:=by kernel_rfl
theorem cells217:Tryz.prog.cellsOf 217=20:=by kernel_rfl
theorem cells264:Tryz.prog.cellsOf 264=1:=by kernel_rfl
theorem cells9:Tryz.prog.cellsOf 9=1:=by kernel_rfl
theorem star : "*" ++ "errors.errorString" = "*errors.errorString" := by decide
theorem row262 (u:TypeId) (h:Tryz.prog.typeName? 3 u=some "*errors.errorString"):u=262 :=
 typeName_ptr_named (nm := "errors.errorString") (by rw [star];kernel_rfl) (by kernel_rfl) (by decide) u (by rw [star];exact h)
theorem powData:(Rows.laid_internal_strconv_uint64pow10:DataW Unit)=Lib.tabData .u64 Lib.pow10Tab:=by kernel_rfl
theorem tabs_of_laid {W:World} (h:laidMetH Tryz.prog laidAll W):Lay.Tabs W:=by
 rw [MakeChecks.laidMetH_plain _ _ _ (by kernel_rfl)] at h
 have h2:=h.tail.tail.tail
 rw [powData] at h2
 obtain ⟨a,s,hv,-,-,-⟩:=laid_sentinel h.tail.tail.tail.tail Lay.gRange tRange Tryz.underlying178 row262 Tryz.underlying262 Tryz.underlying264 rfl rfl Tryz.underlying9 cells264 cells9
 exact ⟨Lib.tabIs_of_head Lay.gPow tPow Tryz.underlying217 Tryz.underlying154 cells154 cells217 h2,_,_,hv⟩
theorem gTab:Tryz.prog.globalNamed "affidavit/sum.constants" = some 0:=by kernel_rfl
theorem tTab:(Tryz.prog.globals[0]?).map (·.type)=some 166:=by kernel_rfl
theorem tTab_e:Tryz.prog.cellsOf 148=1:=by kernel_rfl
theorem tTab_t:Tryz.prog.cellsOf 166=64:=by kernel_rfl
theorem tabData1:(Rows.laid_affidavit_sum_constants:DataW Unit)=Lib.tabData .u32 (kks.map wv):=by kernel_rfl
theorem ktab_of_laid {W:World} (h:laidMetH Tryz.prog laidAll W):Ktab W:=by
 rw [MakeChecks.laidMetH_plain _ _ _ (by kernel_rfl)] at h
 have h2:=h.tail.tail
 rw [tabData1] at h2
 have h1:=Lib.tabIs_of_head gTab tTab Tryz.underlying166 Tryz.underlying148 tTab_e tTab_t h2
 unfold Lib.TabIs World.var? at h1
 rw [gTab] at h1
 simp only [Option.bind_some] at h1
 cases hh:W.heap[0]? with
 | none=>rw [hh] at h1;simp at h1
 | some o =>
  rw [hh] at h1
  cases o with
  | cells cs t fr =>
   simp only [Option.some.injEq] at h1
   subst h1
   refine ⟨t,fr,?_⟩
   rw [hh,List.map_map]
   rfl
  | _=>simp at h1
end Go.Proofs.YthkkjjlpahdagaaGreatDoor
