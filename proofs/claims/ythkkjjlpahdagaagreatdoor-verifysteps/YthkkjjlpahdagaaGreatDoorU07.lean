/-
  The walk of VerifySteps.
-/
import Derived.Test.YthkkjjlpahdagaaGreatDoorTvan
import Derived.Test.YthkkjjlpahdagaaGreatDoorU06
set_option maxHeartbeats 16000000
namespace Go.Proofs.YthkkjjlpahdagaaGreatDoor.Ms
open Go Go.RowKit
set_option maxRecDepth 100000
def sd4:List UInt8:=[115,101,101,100]
theorem vring_any (w:World) (hK:Ktab w) (hT:Lay.Tabs w):Calls Tryz.prog 5 #[.string ⟨#[115,101,101,100]⟩,nu 3] w fun e w'=>∃ p,e = .returned (.tuple #[pt p 0,nu 0])∧RgAt w' p sd4 3∧Below w.heap.size w w':=by
 refine (new_ok [115,101,101,100] (by decide) 3 (by decide) (by decide) w hK hT).mono ?_
 rintro e w' ⟨p,h,g,b,rfl,q⟩
 exact ⟨p,rfl,⟨by decide,by decide,⟨h,g,b,[],q.ring⟩,hK.stays q.low hK.pos,hT.stays q.low⟩,q.low⟩
theorem vref_any (w:World):Calls Tryz.prog 6 #[.string ⟨#[115,101,101,100]⟩,nu 3] w fun e w'=>∃ x,e = .returned (.tuple #[pt x 0,nu 0])∧Go.Proofs.YthkkjjlpahdagaaGreatDoor.RefAt w' x sd4 3 (.slice none 0 0) []∧Below w.heap.size w w':=by
 refine (rnew_ok [115,101,101,100] (by decide) 3 (by decide) (by decide) w).mono ?_
 rintro e w' ⟨x,rfl,r,hb,-⟩
 exact ⟨x,rfl,r,hb⟩
section
variable {w:World} {d:List UInt8} {PV:List Value} {A:Nat→World→Prop} {B:Nat→World→Prop}
theorem vsteps_core {T:List UInt8} {E:Int} (kA:∀ p W W',A p W→Below W.heap.size W W'→A p W') (kB:∀ p W W',B p W→Below W.heap.size W W'→B p W')
  (HR:Hid (∀ W,Below w.heap.size w W→Calls Tryz.prog 5 #[.string ⟨#[115,101,101,100]⟩,nu 3] W fun e w'=>∃ p,e = .returned (.tuple #[pt p 0,nu 0])∧A p w'∧Below W.heap.size W w'))
  (HQ:Hid (∀ W,Calls Tryz.prog 6 #[.string ⟨#[115,101,101,100]⟩,nu 3] W fun e w'=>∃ x,e = .returned (.tuple #[pt x 0,nu 0])∧B x w'∧Below W.heap.size W w'))
  (HW:Hid (∀ W,Below w.heap.size w W→Calls Tryz.prog 7 #[] W fun e w'=>e = .returned (.bool true)∧Below W.heap.size W w'))
  (ZP:(Tryz.prog.info? 25).map (·.size)=some PV.length) (hbg:decide ((600:Int) < (d.length:Int))=false)
  (HS:Hid (∀ W p,A p W→Calls Tryz.prog 8 #[pt p 0,st d,.agg PV.toArray] W fun e w'=>e = .returned (.tuple #[st T,nu E])∧Below W.heap.size W w'))
  (HT:Hid (∀ W x,B x W→Calls Tryz.prog 9 #[pt x 0,st d,.agg PV.toArray] W fun e w'=>e = .returned (.tuple #[st T,nu E])∧Below W.heap.size W w')) :
  Calls Tryz.prog 3 #[st d,.agg PV.toArray] w fun e w'=>e = .returned (.bool true)∧Below w.heap.size w w':=by
 have P0:=hid (top_obj w (.cells PV.toArray 25))
 have B0:=hid (below_a1 w (.cells PV.toArray 25))
 have hsz:(⟨d.toArray⟩:ByteArray).size=d.length:=rfl
 go_enter Tryz.func3,Tryz.ntmps3
 go_upto_region 1 with fail
 try simp only [Act.put,List.setIfInBounds_toArray,List.set_cons_zero,List.set_cons_succ]
 generalize w.alloc (.cells PV.toArray 25)=W0 at *
 have hs0:=B0.out.size
 generalize hX:w.heap.size=X at *
 go_wp2_with fail
 refine (HR.out _ B0.out).mono ?_
 rintro e W1 ⟨p,rfl,a1,b1⟩
 have B1:Hid (Below X w W1):=hid (B0.out.trans (b1.mono hs0))
 have P1:=hid (row_kept P0.out b1)
 have hs1:X ≤ W1.heap.size:=hX ▸ B1.out.size
 clear b1 P0 B0
 go_wp2_with fail
 refine (HQ.out _).mono ?_
 rintro e W2 ⟨x,rfl,q2,b2⟩
 have B2:Hid (Below X w W2):=hid (B1.out.trans (b2.mono hs1))
 have P2:=hid (row_kept P1.out b2)
 have a2:=kA _ _ _ a1 b2
 have hs2:X ≤ W2.heap.size:=hX ▸ B2.out.size
 clear b2 P1 B1 a1
 go_wp2_with ((with_reducible refine wl_load 25 (.tmp 3) ?_ X 0 ?_ ?_ PV _ (row_zeroY P2.out) Tryz.underlying25 ?_ ZP ?_);iterate 4 exact rfl)
 refine (HS.out _ _ a2).mono ?_
 rintro e W3 ⟨rfl,b3⟩
 have B3:Hid (Below X w W3):=hid (B2.out.trans (b3.mono hs2))
 have P3:=hid (row_kept P2.out b3)
 have q3:=kB _ _ _ q2 b3
 have hs3:X ≤ W3.heap.size:=hX ▸ B3.out.size
 clear b3 P2 B2 a2 q2
 go_wp2_with ((with_reducible refine wl_load 25 (.tmp 3) ?_ X 0 ?_ ?_ PV _ (row_zeroY P3.out) Tryz.underlying25 ?_ ZP ?_);iterate 4 exact rfl)
 refine (HT.out _ _ q3).mono ?_
 rintro e W4 ⟨rfl,b4⟩
 have B4:Hid (Below X w W4):=hid (B3.out.trans (b4.mono hs3))
 have hs4:X ≤ W4.heap.size:=hX ▸ B4.out.size
 clear b4 P3 B3 q3
 go_wp2_with fail
 refine (HW.out _ B4.out).mono ?_
 rintro e W5 ⟨rfl,b5⟩
 have B5:Hid (Below X w W5):=hid (B4.out.trans (b5.mono hs4))
 clear b5 B4
 go_wp2
 go_ret
 exact ⟨rfl,hX ▸ B5.out⟩
theorem vsteps_long
  (HR:Hid (∀ W,Below w.heap.size w W→Calls Tryz.prog 5 #[.string ⟨#[115,101,101,100]⟩,nu 3] W fun e w'=>∃ p,e = .returned (.tuple #[pt p 0,nu 0])∧A p w'∧Below W.heap.size W w'))
  (HQ:Hid (∀ W,Calls Tryz.prog 6 #[.string ⟨#[115,101,101,100]⟩,nu 3] W fun e w'=>∃ x,e = .returned (.tuple #[pt x 0,nu 0])∧B x w'∧Below W.heap.size W w'))
  (HW:Hid (∀ W,Below w.heap.size w W→Calls Tryz.prog 7 #[] W fun e w'=>e = .returned (.bool true)∧Below W.heap.size W w'))
  (hbg:decide ((600:Int) < (d.length:Int))=true) :
  Calls Tryz.prog 3 #[st d,.agg PV.toArray] w fun e w'=>e = .returned (.bool true)∧Below w.heap.size w w':=by
 have B0:=hid (below_a1 w (.cells PV.toArray 25))
 have hsz:(⟨d.toArray⟩:ByteArray).size=d.length:=rfl
 go_enter Tryz.func3,Tryz.ntmps3
 go_upto_region 1 with fail
 try simp only [Act.put,List.setIfInBounds_toArray,List.set_cons_zero,List.set_cons_succ]
 generalize w.alloc (.cells PV.toArray 25)=W0 at *
 have hs0:=B0.out.size
 generalize hX:w.heap.size=X at *
 go_wp2_with fail
 refine (HR.out _ B0.out).mono ?_
 rintro e W1 ⟨p,rfl,-,b1⟩
 have B1:Hid (Below X w W1):=hid (B0.out.trans (b1.mono hs0))
 have hs1:X ≤ W1.heap.size:=hX ▸ B1.out.size
 clear b1 B0
 go_wp2_with fail
 refine (HQ.out _).mono ?_
 rintro e W2 ⟨x,rfl,-,b2⟩
 have B2:Hid (Below X w W2):=hid (B1.out.trans (b2.mono hs1))
 have hs2:X ≤ W2.heap.size:=hX ▸ B2.out.size
 clear b2 B1
 go_wp2_with fail
 refine (HW.out _ B2.out).mono ?_
 rintro e W5 ⟨rfl,b5⟩
 have B5:Hid (Below X w W5):=hid (B2.out.trans (b5.mono hs2))
 clear b5 B2
 go_wp2
 go_ret
 exact ⟨rfl,hX ▸ B5.out⟩
end
theorem vsteps_walk (w:World) (hK:Ktab w) (hT:Lay.Tabs w) (d:List UInt8) (P:Pen) (hP:penOk P) :
  Calls Tryz.prog 3 #[st d,.agg (penC P).toArray] w fun e w'=>e = .returned (.bool true)∧Below w.heap.size w w':=by
 have ZP:(Tryz.prog.info? 25).map (·.size)=some (penC P).length:=by rw [penC_len ⟨hP.asked,hP.proof⟩];exact sizePen
 have HR:=hid (fun W (hb:Below w.heap.size w W)=>vring_any W (hK.stays hb hK.pos) (hT.stays hb))
 have HW:=hid (fun W (hb:Below w.heap.size w W)=>vawake_any (w:=W) (hK.stays hb hK.pos) (hT.stays hb))
 by_cases h:d.length ≤ 600
 ·exact vsteps_core (A:=fun p W=>RgAt W p sd4 3) (B:=fun x W=>Go.Proofs.YthkkjjlpahdagaaGreatDoor.RefAt W x sd4 3 (.slice none 0 0) []) (T:=stepT sd4 3 d P) (E:=stepE sd4 3 d P) (fun _ _ _ r hb=>r.kept hb) (fun _ _ _ r hb=>r.kept hb) HR vref_any HW ZP (by simp;omega)
   (fun W p r=>vstep_any r hP (by omega)) (fun W x r=>rstep_any r (by decide) (by decide) hP (by omega))
 ·exact vsteps_long (A:=fun p W=>RgAt W p sd4 3) (B:=fun x W=>Go.Proofs.YthkkjjlpahdagaaGreatDoor.RefAt W x sd4 3 (.slice none 0 0) []) HR vref_any HW (by simp;omega)
end Go.Proofs.YthkkjjlpahdagaaGreatDoor.Ms
