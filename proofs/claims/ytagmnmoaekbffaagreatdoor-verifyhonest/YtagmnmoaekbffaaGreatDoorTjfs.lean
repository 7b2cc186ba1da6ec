/- Tjfs -/
import Derived.Test.YtagmnmoaekbffaaGreatDoorS08
set_option maxHeartbeats 4000000
namespace Go.Proofs.YtagmnmoaekbffaaGreatDoor.Ms
open Go.Proofs.Tryz
open Go Go.RowKit
set_option maxRecDepth 100000
theorem b0K (args:Array Value) (w:World):(callFunc 113 args).run prog w = .ok (.enter 113 args) w:=by kernel_rfl
theorem d0L (args:Array Value) (w:World):(callFunc 114 args).run prog w = .ok (.enter 114 args) w:=by kernel_rfl
theorem c0d (args:Array Value) (w:World):(callFunc 115 args).run prog w = .ok (.enter 115 args) w:=by kernel_rfl
theorem h0E (args:Array Value) (w:World):(callFunc 117 args).run prog w = .ok (.enter 117 args) w:=by kernel_rfl
theorem p0K (args:Array Value) (w:World):(callFunc 138 args).run prog w = .ok (.enter 138 args) w:=by kernel_rfl
theorem u0g (g off:Nat) (w:World):(Instr.fieldAt 57 (ptr g off) 0).run prog w = .ok (ptr g (off + 0)) w:=by kernel_rfl
theorem u0h (g off:Nat) (w:World):(Instr.fieldAt 57 (ptr g off) 1).run prog w = .ok (ptr g (off + 1)) w:=by kernel_rfl
theorem u0i (g off:Nat) (w:World):(Instr.fieldAt 57 (ptr g off) 2).run prog w = .ok (ptr g (off + 2)) w:=by kernel_rfl
theorem u0j (g off:Nat) (w:World):(Instr.fieldAt 57 (ptr g off) 3).run prog w = .ok (ptr g (off + 3)) w:=by kernel_rfl
theorem u0k (g off:Nat) (w:World):(Instr.fieldAt 57 (ptr g off) 4).run prog w = .ok (ptr g (off + 4)) w:=by kernel_rfl
theorem u0l (g off:Nat) (w:World):(Instr.fieldAt 57 (ptr g off) 5).run prog w = .ok (ptr g (off + 36)) w:=by kernel_rfl
theorem v0w (g off:Nat) (w:World):(Instr.fieldAt 44 (ptr g off) 0).run prog w = .ok (ptr g (off + 0)) w:=by kernel_rfl
theorem v0x (g off:Nat) (w:World):(Instr.fieldAt 44 (ptr g off) 1).run prog w = .ok (ptr g (off + 1)) w:=by kernel_rfl
theorem v0y (g off:Nat) (w:World):(Instr.fieldAt 44 (ptr g off) 2).run prog w = .ok (ptr g (off + 2)) w:=by kernel_rfl
theorem v0z (g off:Nat) (w:World):(Instr.fieldAt 44 (ptr g off) 3).run prog w = .ok (ptr g (off + 3)) w:=by kernel_rfl
theorem v0A (g off:Nat) (w:World):(Instr.fieldAt 44 (ptr g off) 4).run prog w = .ok (ptr g (off + 35)) w:=by kernel_rfl
theorem v0B (g off:Nat) (w:World):(Instr.fieldAt 44 (ptr g off) 5).run prog w = .ok (ptr g (off + 36)) w:=by kernel_rfl
theorem v0C (g off:Nat) (w:World):(Instr.fieldAt 44 (ptr g off) 6).run prog w = .ok (ptr g (off + 37)) w:=by kernel_rfl
theorem v0D (g off:Nat) (w:World):(Instr.fieldAt 44 (ptr g off) 7).run prog w = .ok (ptr g (off + 38)) w:=by kernel_rfl
theorem v0E (g off:Nat) (w:World):(Instr.fieldAt 44 (ptr g off) 8).run prog w = .ok (ptr g (off + 70)) w:=by kernel_rfl
theorem v0F (g off:Nat) (w:World):(Instr.fieldAt 44 (ptr g off) 9).run prog w = .ok (ptr g (off + 71)) w:=by kernel_rfl
theorem v0G (g off:Nat) (w:World):(Instr.fieldAt 40 (ptr g off) 0).run prog w = .ok (ptr g (off + 0)) w:=by kernel_rfl
theorem v0H (g off:Nat) (w:World):(Instr.fieldAt 40 (ptr g off) 1).run prog w = .ok (ptr g (off + 1)) w:=by kernel_rfl
theorem v0I (g off:Nat) (w:World):(Instr.fieldAt 40 (ptr g off) 2).run prog w = .ok (ptr g (off + 2)) w:=by kernel_rfl
theorem v0J (g off:Nat) (w:World):(Instr.fieldAt 40 (ptr g off) 3).run prog w = .ok (ptr g (off + 3)) w:=by kernel_rfl
theorem v0K (g off:Nat) (w:World):(Instr.fieldAt 40 (ptr g off) 4).run prog w = .ok (ptr g (off + 4)) w:=by kernel_rfl
theorem v0L (g off:Nat) (w:World):(Instr.fieldAt 40 (ptr g off) 5).run prog w = .ok (ptr g (off + 36)) w:=by kernel_rfl
theorem t0v (g off:Nat) (w:World):(Instr.fieldAt 78 (ptr g off) 0).run prog w = .ok (ptr g (off + 0)) w:=by kernel_rfl
theorem t0w (g off:Nat) (w:World):(Instr.fieldAt 78 (ptr g off) 1).run prog w = .ok (ptr g (off + 1)) w:=by kernel_rfl
theorem t0x (g off:Nat) (w:World):(Instr.fieldAt 78 (ptr g off) 2).run prog w = .ok (ptr g (off + 2)) w:=by kernel_rfl
theorem t0y (g off:Nat) (w:World):(Instr.fieldAt 78 (ptr g off) 3).run prog w = .ok (ptr g (off + 3)) w:=by kernel_rfl
theorem t0z (g off:Nat) (w:World):(Instr.fieldAt 80 (ptr g off) 4).run prog w = .ok (ptr g (off + 173)) w:=by kernel_rfl
theorem v0M (g off:Nat) (w:World):(Instr.fieldAt 80 (ptr g off) 5).run prog w = .ok (ptr g (off + 174)) w:=by kernel_rfl
theorem t0A (g off:Nat) (w:World):(Instr.fieldAt 80 (ptr g off) 6).run prog w = .ok (ptr g (off + 175)) w:=by kernel_rfl
theorem t0B (g off:Nat) (w:World):(Instr.fieldAt 80 (ptr g off) 7).run prog w = .ok (ptr g (off + 207)) w:=by kernel_rfl
theorem p0L (g off:Nat) (w:World):(Instr.fieldAt 80 (ptr g off) 9).run prog w = .ok (ptr g (off + 274)) w:=by kernel_rfl
theorem j0M (g off:Nat) (w:World):Calls prog 191 #[ptr g off] w fun e w'=>∃ v,e = .returned v/\b0n w' v g [(.num,(off + 0)),(.num,(off + 1)),(.num,(off + 2)),(.num,(off + 3)),(.dig,(off + 4)),(.dig,(off + 36))]/\Below w.heap.size w w':=by
 go_enter func191,ntmps191
 go_wp2_with fail
 refine a0X (N:=28) (keep:=[0]) (val:=valOf [vc (ptr g off),vc (ptr g off),vc (ptr g (off + 0)),IsF .num g (off + 0),vc (ptr g off),vc (ptr g off),vc (ptr g (off + 1)),IsF .num g (off + 1),vc (ptr g off),vc (ptr g off),vc (ptr g (off + 2)),IsF .num g (off + 2),vc (ptr g off),vc (ptr g off),vc (ptr g (off + 3)),IsF .num g (off + 3),vc (ptr g off),vc (ptr g off),vc (ptr g (off + 4)),IsF .dig g (off + 4),vc (ptr g off),vc (ptr g off),vc (ptr g (off + 36)),IsF .dig g (off + 36),vF g [(.num,(off + 0)),(.num,(off + 1)),(.num,(off + 2)),(.num,(off + 3)),(.dig,(off + 4)),(.dig,(off + 36))],vF g [(.num,(off + 0)),(.num,(off + 1)),(.num,(off + 2)),(.num,(off + 3)),(.dig,(off + 4)),(.dig,(off + 36))]]) (by kernel_rfl) (by kernel_rfl) rfl (d0H (by
   intro p hp;simp only [List.mem_cons,List.not_mem_nil,or_false] at hp;rcases hp with rfl | rfl | rfl | rfl | rfl | rfl | rfl | rfl | rfl | rfl | rfl | rfl | rfl | rfl | rfl | rfl | rfl | rfl | rfl | rfl | rfl | rfl | rfl | rfl | rfl | rfl
   all_goals first | exact d0F _ | exact c0L _ _ _ | exact d0G _ _)) ?_ ?_
 ·intro i o ho
  match i,ho with
  | 0,ho=>cases ho;exact a0B 0 (ptr g off) rfl rfl rfl rfl
  | 1,ho=>cases ho;exact a0R 3 0 g off rfl (by kernel_rfl) (by kernel_rfl) rfl rfl
  | 2,ho=>cases ho;exact b0F 4 1 57 0 g off 0 rfl (fun W=>u0g _ _ W) (by kernel_rfl) (by kernel_rfl) rfl rfl
  | 3,ho=>cases ho;exact b0G 5 2 113 _ .num g (off + 0) rfl (fun x W=>b0K x W) (fun W=>d0p g (off + 0) W) (by kernel_rfl) (by kernel_rfl) rfl rfl
  | 4,ho=>cases ho;exact a0B 0 (ptr g off) rfl rfl rfl rfl
  | 5,ho=>cases ho;exact a0R 7 4 g off rfl (by kernel_rfl) (by kernel_rfl) rfl rfl
  | 6,ho=>cases ho;exact b0F 8 5 57 1 g off 1 rfl (fun W=>u0h _ _ W) (by kernel_rfl) (by kernel_rfl) rfl rfl
  | 7,ho=>cases ho;exact b0G 9 6 113 _ .num g (off + 1) rfl (fun x W=>b0K x W) (fun W=>d0p g (off + 1) W) (by kernel_rfl) (by kernel_rfl) rfl rfl
  | 8,ho=>cases ho;exact a0B 0 (ptr g off) rfl rfl rfl rfl
  | 9,ho=>cases ho;exact a0R 11 8 g off rfl (by kernel_rfl) (by kernel_rfl) rfl rfl
  | 10,ho=>cases ho;exact b0F 12 9 57 2 g off 2 rfl (fun W=>u0i _ _ W) (by kernel_rfl) (by kernel_rfl) rfl rfl
  | 11,ho=>cases ho;exact b0G 13 10 113 _ .num g (off + 2) rfl (fun x W=>b0K x W) (fun W=>d0p g (off + 2) W) (by kernel_rfl) (by kernel_rfl) rfl rfl
  | 12,ho=>cases ho;exact a0B 0 (ptr g off) rfl rfl rfl rfl
  | 13,ho=>cases ho;exact a0R 15 12 g off rfl (by kernel_rfl) (by kernel_rfl) rfl rfl
  | 14,ho=>cases ho;exact b0F 16 13 57 3 g off 3 rfl (fun W=>u0j _ _ W) (by kernel_rfl) (by kernel_rfl) rfl rfl
  | 15,ho=>cases ho;exact b0G 17 14 113 _ .num g (off + 3) rfl (fun x W=>b0K x W) (fun W=>d0p g (off + 3) W) (by kernel_rfl) (by kernel_rfl) rfl rfl
  | 16,ho=>cases ho;exact a0B 0 (ptr g off) rfl rfl rfl rfl
  | 17,ho=>cases ho;exact a0R 19 16 g off rfl (by kernel_rfl) (by kernel_rfl) rfl rfl
  | 18,ho=>cases ho;exact b0F 20 17 57 4 g off 4 rfl (fun W=>u0k _ _ W) (by kernel_rfl) (by kernel_rfl) rfl rfl
  | 19,ho=>cases ho;exact b0G 21 18 115 _ .dig g (off + 4) rfl (fun x W=>c0d x W) (fun W=>e0b g (off + 4) W) (by kernel_rfl) (by kernel_rfl) rfl rfl
  | 20,ho=>cases ho;exact a0B 0 (ptr g off) rfl rfl rfl rfl
  | 21,ho=>cases ho;exact a0R 23 20 g off rfl (by kernel_rfl) (by kernel_rfl) rfl rfl
  | 22,ho=>cases ho;exact b0F 24 21 57 5 g off 36 rfl (fun W=>u0l _ _ W) (by kernel_rfl) (by kernel_rfl) rfl rfl
  | 23,ho=>cases ho;exact b0G 25 22 115 _ .dig g (off + 36) rfl (fun x W=>c0d x W) (fun W=>e0b g (off + 36) W) (by kernel_rfl) (by kernel_rfl) rfl rfl
  | 24,ho=>cases ho;exact h0D 154 178 6 _ g [(.num,(off + 0)),(.num,(off + 1)),(.num,(off + 2)),(.num,(off + 3)),(.dig,(off + 4)),(.dig,(off + 36))] [(3,6),(7,10),(11,14),(15,18),(19,22),(23,26)] rfl underlying154 rfl sizeFld infoFld rfl (by decide) (by decide) rfl rfl (by kernel_rfl) (by intro j hj;match j,hj with | 0,_=>rfl | 1,_=>rfl | 2,_=>rfl | 3,_=>rfl | 4,_=>rfl | 5,_=>rfl) rfl
  | 25,ho=>cases ho;exact b0T 27 24 g [(.num,(off + 0)),(.num,(off + 1)),(.num,(off + 2)),(.num,(off + 3)),(.dig,(off + 4)),(.dig,(off + 36))] rfl (by kernel_rfl) (by kernel_rfl) rfl rfl
  | (i + 26),ho=>exact absurd ho (by simp)
 ·intro a w' hB hs hd hk hv
  have h2:=hv 25 2 (by kernel_rfl);obtain ⟨tm,df⟩:=a;obtain rfl:df = []:=hd;go_wp2;go_ret;exact ⟨_,rfl,h2,hB⟩
theorem j0N (g off:Nat) (w:World):Calls prog 116 #[ptr g off] w fun e w'=>∃ v,e = .returned v/\b0n w' v g [(.num,(off + 0)),(.num,(off + 1)),(.txt,(off + 2)),(.dig,(off + 3)),(.pens,(off + 35)),(.num,(off + 36)),(.txt,(off + 37)),(.dig,(off + 38)),(.txt,(off + 70)),(.dig,(off + 71))]/\Below w.heap.size w w':=by
 go_enter func116,ntmps116
 go_wp2_with fail
 refine a0X (N:=44) (keep:=[0]) (val:=valOf [vc (ptr g off),vc (ptr g off),vc (ptr g (off + 0)),IsF .num g (off + 0),vc (ptr g off),vc (ptr g off),vc (ptr g (off + 1)),IsF .num g (off + 1),vc (ptr g off),vc (ptr g off),vc (ptr g (off + 2)),IsF .txt g (off + 2),vc (ptr g off),vc (ptr g off),vc (ptr g (off + 3)),IsF .dig g (off + 3),vc (ptr g off),vc (ptr g off),vc (ptr g (off + 35)),IsF .pens g (off + 35),vc (ptr g off),vc (ptr g off),vc (ptr g (off + 36)),IsF .num g (off + 36),vc (ptr g off),vc (ptr g off),vc (ptr g (off + 37)),IsF .txt g (off + 37),vc (ptr g off),vc (ptr g off),vc (ptr g (off + 38)),IsF .dig g (off + 38),vc (ptr g off),vc (ptr g off),vc (ptr g (off + 70)),IsF .txt g (off + 70),vc (ptr g off),vc (ptr g off),vc (ptr g (off + 71)),IsF .dig g (off + 71),vF g [(.num,(off + 0)),(.num,(off + 1)),(.txt,(off + 2)),(.dig,(off + 3)),(.pens,(off + 35)),(.num,(off + 36)),(.txt,(off + 37)),(.dig,(off + 38)),(.txt,(off + 70)),(.dig,(off + 71))],vF g [(.num,(off + 0)),(.num,(off + 1)),(.txt,(off + 2)),(.dig,(off + 3)),(.pens,(off + 35)),(.num,(off + 36)),(.txt,(off + 37)),(.dig,(off + 38)),(.txt,(off + 70)),(.dig,(off + 71))]]) (by kernel_rfl) (by kernel_rfl) rfl (d0H (by
   intro p hp;simp only [List.mem_cons,List.not_mem_nil,or_false] at hp;rcases hp with rfl | rfl | rfl | rfl | rfl | rfl | rfl | rfl | rfl | rfl | rfl | rfl | rfl | rfl | rfl | rfl | rfl | rfl | rfl | rfl | rfl | rfl | rfl | rfl | rfl | rfl | rfl | rfl | rfl | rfl | rfl | rfl | rfl | rfl | rfl | rfl | rfl | rfl | rfl | rfl | rfl | rfl
   all_goals first | exact d0F _ | exact c0L _ _ _ | exact d0G _ _)) ?_ ?_
 ·intro i o ho
  match i,ho with
  | 0,ho=>cases ho;exact a0B 0 (ptr g off) rfl rfl rfl rfl
  | 1,ho=>cases ho;exact a0R 3 0 g off rfl (by kernel_rfl) (by kernel_rfl) rfl rfl
  | 2,ho=>cases ho;exact b0F 4 1 44 0 g off 0 rfl (fun W=>v0w _ _ W) (by kernel_rfl) (by kernel_rfl) rfl rfl
  | 3,ho=>cases ho;exact b0G 5 2 113 _ .num g (off + 0) rfl (fun x W=>b0K x W) (fun W=>d0p g (off + 0) W) (by kernel_rfl) (by kernel_rfl) rfl rfl
  | 4,ho=>cases ho;exact a0B 0 (ptr g off) rfl rfl rfl rfl
  | 5,ho=>cases ho;exact a0R 7 4 g off rfl (by kernel_rfl) (by kernel_rfl) rfl rfl
  | 6,ho=>cases ho;exact b0F 8 5 44 1 g off 1 rfl (fun W=>v0x _ _ W) (by kernel_rfl) (by kernel_rfl) rfl rfl
  | 7,ho=>cases ho;exact b0G 9 6 113 _ .num g (off + 1) rfl (fun x W=>b0K x W) (fun W=>d0p g (off + 1) W) (by kernel_rfl) (by kernel_rfl) rfl rfl
  | 8,ho=>cases ho;exact a0B 0 (ptr g off) rfl rfl rfl rfl
  | 9,ho=>cases ho;exact a0R 11 8 g off rfl (by kernel_rfl) (by kernel_rfl) rfl rfl
  | 10,ho=>cases ho;exact b0F 12 9 44 2 g off 2 rfl (fun W=>v0y _ _ W) (by kernel_rfl) (by kernel_rfl) rfl rfl
  | 11,ho=>cases ho;exact b0G 13 10 114 _ .txt g (off + 2) rfl (fun x W=>d0L x W) (fun W=>g0B g (off + 2) W) (by kernel_rfl) (by kernel_rfl) rfl rfl
  | 12,ho=>cases ho;exact a0B 0 (ptr g off) rfl rfl rfl rfl
  | 13,ho=>cases ho;exact a0R 15 12 g off rfl (by kernel_rfl) (by kernel_rfl) rfl rfl
  | 14,ho=>cases ho;exact b0F 16 13 44 3 g off 3 rfl (fun W=>v0z _ _ W) (by kernel_rfl) (by kernel_rfl) rfl rfl
  | 15,ho=>cases ho;exact b0G 17 14 115 _ .dig g (off + 3) rfl (fun x W=>c0d x W) (fun W=>e0b g (off + 3) W) (by kernel_rfl) (by kernel_rfl) rfl rfl
  | 16,ho=>cases ho;exact a0B 0 (ptr g off) rfl rfl rfl rfl
  | 17,ho=>cases ho;exact a0R 19 16 g off rfl (by kernel_rfl) (by kernel_rfl) rfl rfl
  | 18,ho=>cases ho;exact b0F 20 17 44 4 g off 35 rfl (fun W=>v0A _ _ W) (by kernel_rfl) (by kernel_rfl) rfl rfl
  | 19,ho=>cases ho;exact b0G 21 18 138 _ .pens g (off + 35) rfl (fun x W=>p0K x W) (fun W=>u0d g (off + 35) W) (by kernel_rfl) (by kernel_rfl) rfl rfl
  | 20,ho=>cases ho;exact a0B 0 (ptr g off) rfl rfl rfl rfl
  | 21,ho=>cases ho;exact a0R 23 20 g off rfl (by kernel_rfl) (by kernel_rfl) rfl rfl
  | 22,ho=>cases ho;exact b0F 24 21 44 5 g off 36 rfl (fun W=>v0B _ _ W) (by kernel_rfl) (by kernel_rfl) rfl rfl
  | 23,ho=>cases ho;exact b0G 25 22 113 _ .num g (off + 36) rfl (fun x W=>b0K x W) (fun W=>d0p g (off + 36) W) (by kernel_rfl) (by kernel_rfl) rfl rfl
  | 24,ho=>cases ho;exact a0B 0 (ptr g off) rfl rfl rfl rfl
  | 25,ho=>cases ho;exact a0R 27 24 g off rfl (by kernel_rfl) (by kernel_rfl) rfl rfl
  | 26,ho=>cases ho;exact b0F 28 25 44 6 g off 37 rfl (fun W=>v0C _ _ W) (by kernel_rfl) (by kernel_rfl) rfl rfl
  | 27,ho=>cases ho;exact b0G 29 26 114 _ .txt g (off + 37) rfl (fun x W=>d0L x W) (fun W=>g0B g (off + 37) W) (by kernel_rfl) (by kernel_rfl) rfl rfl
  | 28,ho=>cases ho;exact a0B 0 (ptr g off) rfl rfl rfl rfl
  | 29,ho=>cases ho;exact a0R 31 28 g off rfl (by kernel_rfl) (by kernel_rfl) rfl rfl
  | 30,ho=>cases ho;exact b0F 32 29 44 7 g off 38 rfl (fun W=>v0D _ _ W) (by kernel_rfl) (by kernel_rfl) rfl rfl
  | 31,ho=>cases ho;exact b0G 33 30 115 _ .dig g (off + 38) rfl (fun x W=>c0d x W) (fun W=>e0b g (off + 38) W) (by kernel_rfl) (by kernel_rfl) rfl rfl
  | 32,ho=>cases ho;exact a0B 0 (ptr g off) rfl rfl rfl rfl
  | 33,ho=>cases ho;exact a0R 35 32 g off rfl (by kernel_rfl) (by kernel_rfl) rfl rfl
  | 34,ho=>cases ho;exact b0F 36 33 44 8 g off 70 rfl (fun W=>v0E _ _ W) (by kernel_rfl) (by kernel_rfl) rfl rfl
  | 35,ho=>cases ho;exact b0G 37 34 114 _ .txt g (off + 70) rfl (fun x W=>d0L x W) (fun W=>g0B g (off + 70) W) (by kernel_rfl) (by kernel_rfl) rfl rfl
  | 36,ho=>cases ho;exact a0B 0 (ptr g off) rfl rfl rfl rfl
  | 37,ho=>cases ho;exact a0R 39 36 g off rfl (by kernel_rfl) (by kernel_rfl) rfl rfl
  | 38,ho=>cases ho;exact b0F 40 37 44 9 g off 71 rfl (fun W=>v0F _ _ W) (by kernel_rfl) (by kernel_rfl) rfl rfl
  | 39,ho=>cases ho;exact b0G 41 38 115 _ .dig g (off + 71) rfl (fun x W=>c0d x W) (fun W=>e0b g (off + 71) W) (by kernel_rfl) (by kernel_rfl) rfl rfl
  | 40,ho=>cases ho;exact h0D 154 178 10 _ g [(.num,(off + 0)),(.num,(off + 1)),(.txt,(off + 2)),(.dig,(off + 3)),(.pens,(off + 35)),(.num,(off + 36)),(.txt,(off + 37)),(.dig,(off + 38)),(.txt,(off + 70)),(.dig,(off + 71))] [(3,6),(7,10),(11,14),(15,18),(19,22),(23,26),(27,30),(31,34),(35,38),(39,42)] rfl underlying154 rfl sizeFld infoFld rfl (by decide) (by decide) rfl rfl (by kernel_rfl) (by intro j hj;match j,hj with | 0,_=>rfl | 1,_=>rfl | 2,_=>rfl | 3,_=>rfl | 4,_=>rfl | 5,_=>rfl | 6,_=>rfl | 7,_=>rfl | 8,_=>rfl | 9,_=>rfl) rfl
  | 41,ho=>cases ho;exact b0T 43 40 g [(.num,(off + 0)),(.num,(off + 1)),(.txt,(off + 2)),(.dig,(off + 3)),(.pens,(off + 35)),(.num,(off + 36)),(.txt,(off + 37)),(.dig,(off + 38)),(.txt,(off + 70)),(.dig,(off + 71))] rfl (by kernel_rfl) (by kernel_rfl) rfl rfl
  | (i + 42),ho=>exact absurd ho (by simp)
 ·intro a w' hB hs hd hk hv
  have h2:=hv 41 2 (by kernel_rfl);obtain ⟨tm,df⟩:=a;obtain rfl:df = []:=hd;go_wp2;go_ret;exact ⟨_,rfl,h2,hB⟩
end Go.Proofs.YtagmnmoaekbffaaGreatDoor.Ms
