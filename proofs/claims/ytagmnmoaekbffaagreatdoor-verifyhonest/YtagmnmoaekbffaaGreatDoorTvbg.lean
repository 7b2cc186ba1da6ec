/- Tvbg -/
import Derived.Test.YtagmnmoaekbffaaGreatDoorU01
import Derived.Test.YtagmnmoaekbffaaGreatDoorU02
import Derived.Test.YtagmnmoaekbffaaGreatDoorS23
namespace Go.Proofs.YtagmnmoaekbffaaGreatDoor.Ms
open Go.Proofs.Tryz
open Go Go.RowKit
set_option maxRecDepth 100000
theorem a0C {L:Nat->Bool} {i k:Nat} (h:L k=true):up L i k=true:=by unfold up;split;rfl;exact h
theorem RY.lt {W:World} {x:Nat} {G:List Nat} {R:Rs} (h:RY W x G R):∀ b ∈ G,b < W.heap.size:=by
 obtain ⟨bs,br,bv,bt,ps,vP,Y,-,-,h3⟩:=h;exact h3
end Go.Proofs.YtagmnmoaekbffaaGreatDoor.Ms
