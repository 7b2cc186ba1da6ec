/- Tyal -/
import Derived.Test.YtagmnmoaekbffaaGreatDoorS29
import Derived.Test.YtagmnmoaekbffaaGreatDoorS30
import Derived.WalkMore
set_option maxHeartbeats 4000000
namespace Go.Proofs.YtagmnmoaekbffaaGreatDoor.Ms
open Go.Proofs.Tryz
open Go Go.RowKit
set_option maxRecDepth 100000
theorem sizeGot:(prog.info? 49).map (·.size)=some 70:=by kernel_rfl
theorem zeroGot:(prog.info? 49).map (·.zero)=some (some (.agg (gotC f0l).toArray)):=by kernel_rfl
theorem szGY {g:Got} (h:g.Wf):(prog.info? 49).map (·.size)=some (gotC g).length:=by rw [b0M h];exact sizeGot
theorem o0R (W:World) (v:List UInt8):(Instr.build 49 #[(0,st v),(3,nu (-1))]).run prog W = .ok (.agg (gotC ⟨v,0,[],-1,[],a0n,[],a0n⟩).toArray) W:=by kernel_rfl
theorem o0S (W:World):(Instr.build 49 #[]).run prog W = .ok (.agg (gotC f0l).toArray) W:=by kernel_rfl
section
variable {w:World} {p n k:Nat} {s:List UInt8} {y:Rep} {v:Value}
theorem l0p (f:Value) (hy:y.Wf) (hv:y.view = []):Calls prog 55 #[pt p 0,f,.agg (repC y v).toArray] w fun e w'=>e = .returned (nu 0)/\Below w.heap.size w w':=by
 have T0:=a0f w (.cells (repC y v).toArray 44);have B0:=hid (a0c w (.cells (repC y v).toArray 44));have c2:=b0B T0 hy;rw [hv] at c2;clear T0 hy hv;generalize repC y v=U at *;go_enter func55,ntmps55;go_wp2;go_ret;exact ⟨rfl,B0.out⟩
theorem o0T (d:List UInt8) (hy:y.Wf) (hv:y.view = []):Calls prog 29 #[st d,.agg (repC y v).toArray] w fun e w'=>e = .returned (.agg (gotC (c0U d y)).toArray)/\Below w.heap.size w w':=by
 have e0:c0U d y=⟨d,0,[],-1,[],a0n,[],a0n⟩:=by unfold c0U;rw [if_pos hv]
 rw [e0];have B0:=a0c w (.cells (repC y v).toArray 44);have B1:=hid (a0b B0 (a0c (w.alloc (.cells (repC y v).toArray 44)) (.cells (gotC f0l).toArray 49)));have T0:=a0a (a0f w (.cells (repC y v).toArray 44)) (a0c (w.alloc (.cells (repC y v).toArray 44)) (.cells (gotC f0l).toArray 49));have T1:=hid (a0f (w.alloc (.cells (repC y v).toArray 44)) (.cells (gotC f0l).toArray 49));have e1:(w.alloc (.cells (repC y v).toArray 44)).heap.size=w.heap.size + 1:=by simp
 rw [e1] at T1;have c2:=b0B T0 hy;rw [hv] at c2;have ZG:=zeroGot;have HB:=hid (fun W=>o0R W d);have HO:=hid (e0q ⟨d,0,[],-1,[],a0n,[],a0n⟩);have HZ:=hid (szGY (g:=⟨d,0,[],-1,[],a0n,[],a0n⟩) ⟨rfl,rfl⟩);have HL:Hid ((gotC f0l).length=(gotC ⟨d,0,[],-1,[],a0n,[],a0n⟩).length):=by show _=_;rw [b0M zeroT_wf,b0M ⟨rfl,rfl⟩]
 clear hy hv e0 T0 B0;generalize repC y v=U at *;generalize gotC ⟨d,0,[],-1,[],a0n,[],a0n⟩=G at *;generalize gotC f0l=Z at *;go_enter func29,ntmps29;go_upto_region 1 with ((with_reducible refine a0G 49 ?_ ?_ Z.toArray ZG ?_);exact rfl;exact rfl)
 generalize hW:(w.alloc (.cells U.toArray 44)).alloc (.cells Z.toArray 49)=W0 at *
 try simp only [Act.put,List.setIfInBounds_toArray,List.set_cons_zero,List.set_cons_succ,e1]
 clear e1 hW;have hge:w.heap.size <= w.heap.size + 1:=Nat.le_succ _;generalize w.heap.size + 1=Y at *;generalize hX:w.heap.size=X at *
 go_wp2_with (first
  | ((with_reducible refine e0e 49 [(0,.tmp 8),(3,.const (nu (-1)))] ?_ ?_ G.toArray ?_ ?_);exact rfl;exact rfl;exact (HB.out _))
  | ((with_reducible refine b0b 49 (.tmp 4) (.tmp 9) ?_ ?_ Y 0 ?_ ?_ [] G Z [] ?_ 49 (c0O T1.out) rfl HL.out HO.out HZ.out ?_);exact rfl;exact rfl;exact rfl;exact rfl;exact rfl;intro W4 hr4 hbut))
 have hr5:W4.heap[Y]? = some (.cells G.toArray 49):=by simpa using hr4
 refine bodyPost_ret_by (f0c (fn:=Tryz.f29) (p:=4) (ty:=49) (by kernel_rfl) _ _ Y 49 G.toArray (0,0) _ rfl hr5 underlying49 rfl (by rw [List.size_toArray];exact HZ.out)) rfl ?_;exact ⟨rfl,hX ▸ hbut.below B1.out hge⟩
end
end Go.Proofs.YtagmnmoaekbffaaGreatDoor.Ms
