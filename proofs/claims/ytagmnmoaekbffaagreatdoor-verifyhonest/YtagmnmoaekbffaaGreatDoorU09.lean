/- U09 -/
import Derived.Test.YtagmnmoaekbffaaGreatDoorS15
import Derived.Test.YtagmnmoaekbffaaGreatDoorRows
import Derived.ProofKit
import Derived.OpenShut
import Derived.Deep.Slices
import Derived.Test.YtagmnmoaekbffaaGreatDoorS05
import Derived.Test.YtagmnmoaekbffaaGreatDoorS16
import Derived.LaidMore
import Derived.Stop.Joined
import Derived.Stop.LaidErr
import Derived.Lib.LaidTab
namespace Go.Proofs.YtagmnmoaekbffaaGreatDoor.Ms
open Go.Proofs.Tryz
open Go Go.ChangeShapes Go.WideShapes Go.ChangeAt Go.WideMaps Go.WideElems Go.RowKit
set_option maxRecDepth 100000
theorem laidOut:laidOutB prog=true:=by kernel_rfl
theorem cells_int:prog.cellsOf 3=1:=by kernel_rfl
theorem cells_str:prog.cellsOf 9=1:=by kernel_rfl
theorem stp (cs:List Value) (a b c:Nat) (h:a + b=c):cs.drop a=(cs.drop a).take b++cs.drop c:=by subst h;rw [← List.drop_drop];exact (List.take_append_drop b _).symm
theorem k0h {α:Type} {xs:List α} {n:Nat} (i:Nat) (h:xs.length=n) (hi:i < n):∃ y,xs[i]? = some y:=⟨xs[i],List.getElem?_eq_getElem (by omega)⟩
section
variable {H:Type} {enc:TypeId × Value->H} {W:World} {held:Bool} {fuel:Nat} {cs:List Value} {x:DataW H × List MemPlace}
theorem u0T (h:DataW.trod enc prog W 0 (fun _=>true) held fuel 3 cs=some x):∃ n,cs = [nu n]/\I64 n:=by
 obtain ⟨n,e,-,hw⟩:=DataW.trod_int underlying3 h;exact ⟨n,e,bounds_i64 hw⟩
theorem x0x (h:DataW.trod enc prog W 0 (fun _=>true) held fuel 9 cs=some x):∃ s:List UInt8,cs = [st s]:=by
 obtain ⟨A,e,-,-⟩:=DataW.trod_string underlying9 h;exact ⟨A.data.toList,by rw [e]⟩
end
end Go.Proofs.YtagmnmoaekbffaaGreatDoor.Ms
namespace Go.Proofs.YtagmnmoaekbffaaGreatDoor
open Go.Proofs.Tryz
open Go.ChangeShapes Go.WideShapes Go.ChangeAt Go.WideMaps Go.WideElems Go.RowKit
def laidAll:List (String × DataW Unit):=[("math/bits.deBruijn32tab", Rows.laid_math_bits_deBruijn32tab),("math/bits.deBruijn64tab", Rows.laid_math_bits_deBruijn64tab),("affidavit/sum.constants", Rows.laid_affidavit_sum_constants),("internal/strconv.uint64pow10", Rows.laid_internal_strconv_uint64pow10),("strconv.ErrRange", Rows.laid_strconv_ErrRange),("strconv.ErrSyntax", Rows.laid_strconv_ErrSyntax)]
theorem own:ownKnob prog.godebug=none:=by kernel_rfl
theorem tPow:(prog.globals[1]?).map (·.type)=some 239:=by kernel_rfl
theorem tRange:(prog.globals[5]?).map (·.type)=some 180:=by kernel_rfl
theorem door_met (os:Os) (args:Array Value):laidMetH prog laidAll ((World.doorLaid prog 67 os).forCall (fun _ _=>0) ⟨#[],args,[]⟩).memory :=
 laidMetH_of_parts3 (fuel:=8) (laidMet_of_run' 8 (by kernel_rfl) (by kernel_rfl)) (by kernel_rfl) (by kernel_rfl)
theorem cells170:prog.cellsOf 170=1:=by kernel_rfl
theorem cells239:prog.cellsOf 239=20:=by kernel_rfl
theorem cells267:prog.cellsOf 267=1:=by kernel_rfl
theorem cells9:prog.cellsOf 9=1:=by kernel_rfl
theorem star : "*" ++ "errors.errorString" = "*errors.errorString" := by decide
theorem row265 (u:TypeId) (h:prog.typeName? 3 u=some "*errors.errorString"):u=265 :=
 typeName_ptr_named (nm := "errors.errorString") (by rw [star];kernel_rfl) (by kernel_rfl) (by decide) u (by rw [star];exact h)
theorem powData:(Rows.laid_internal_strconv_uint64pow10:DataW Unit)=Lib.tabData .u64 Lib.pow10Tab:=by kernel_rfl
theorem tabs_of_laid {W:World} (h:laidMetH prog laidAll W):Lay.Tabs W:=by
 rw [MakeChecks.laidMetH_plain _ _ _ (by kernel_rfl)] at h;have h2:=h.tail.tail.tail;rw [powData] at h2;obtain ⟨a,s,hv,-,-,-⟩:=laid_sentinel h.tail.tail.tail.tail Lay.gRange tRange underlying180 row265 underlying265 underlying267 rfl rfl underlying9 cells267 cells9;exact ⟨Lib.tabIs_of_head Lay.gPow tPow underlying239 underlying170 cells170 cells239 h2,_,_,hv⟩
theorem gTab:prog.globalNamed "affidavit/sum.constants" = some 0:=by kernel_rfl
theorem tTab:(prog.globals[0]?).map (·.type)=some 198:=by kernel_rfl
theorem tTab_e:prog.cellsOf 159=1:=by kernel_rfl
theorem tTab_t:prog.cellsOf 198=64:=by kernel_rfl
theorem tabData1:(Rows.laid_affidavit_sum_constants:DataW Unit)=Lib.tabData .u32 (kks.map wv):=by kernel_rfl
theorem ktab_of_laid {W:World} (h:laidMetH prog laidAll W):Ktab W:=by
 rw [MakeChecks.laidMetH_plain _ _ _ (by kernel_rfl)] at h;have h2:=h.tail.tail;rw [tabData1] at h2;have h1:=Lib.tabIs_of_head gTab tTab underlying198 underlying159 tTab_e tTab_t h2;unfold Lib.TabIs World.var? at h1;rw [gTab] at h1;simp only [Option.bind_some] at h1
 cases hh:W.heap[0]? with
 | none=>rw [hh] at h1;simp at h1
 | some o =>
  rw [hh] at h1
  cases o with
  | cells cs t fr =>
   simp only [Option.some.injEq] at h1;subst h1;refine ⟨t,fr,?_⟩;rw [hh,List.map_map];rfl
  | _=>simp at h1
end Go.Proofs.YtagmnmoaekbffaaGreatDoor
