/-
  The lists of fields of what is pending, and of a reply.
-/
import Derived.Test.YthkkjjlpahdagaaGreatDoorS08
set_option maxHeartbeats 4000000
namespace Go.Proofs.YthkkjjlpahdagaaGreatDoor.Ms
open Go Go.RowKit
set_option maxRecDepth 100000
theorem call_num (args:Array Value) (w:World):(callFunc 114 args).run Tryz.prog w = .ok (.enter 114 args) w:=by kernel_rfl
theorem call_txt (args:Array Value) (w:World):(callFunc 115 args).run Tryz.prog w = .ok (.enter 115 args) w:=by kernel_rfl
theorem call_dig (args:Array Value) (w:World):(callFunc 116 args).run Tryz.prog w = .ok (.enter 116 args) w:=by kernel_rfl
theorem call_nums (args:Array Value) (w:World):(callFunc 118 args).run Tryz.prog w = .ok (.enter 118 args) w:=by kernel_rfl
theorem call_pens (args:Array Value) (w:World):(callFunc 142 args).run Tryz.prog w = .ok (.enter 142 args) w:=by kernel_rfl
theorem fa109_0 (g off:Nat) (w:World):(Instr.fieldAt 25 (ptr g off) 0).run Tryz.prog w = .ok (ptr g (off + 0)) w:=by kernel_rfl
theorem fa109_1 (g off:Nat) (w:World):(Instr.fieldAt 25 (ptr g off) 1).run Tryz.prog w = .ok (ptr g (off + 1)) w:=by kernel_rfl
theorem fa109_2 (g off:Nat) (w:World):(Instr.fieldAt 25 (ptr g off) 2).run Tryz.prog w = .ok (ptr g (off + 2)) w:=by kernel_rfl
theorem fa109_3 (g off:Nat) (w:World):(Instr.fieldAt 25 (ptr g off) 3).run Tryz.prog w = .ok (ptr g (off + 3)) w:=by kernel_rfl
theorem fa109_4 (g off:Nat) (w:World):(Instr.fieldAt 25 (ptr g off) 4).run Tryz.prog w = .ok (ptr g (off + 4)) w:=by kernel_rfl
theorem fa109_5 (g off:Nat) (w:World):(Instr.fieldAt 25 (ptr g off) 5).run Tryz.prog w = .ok (ptr g (off + 36)) w:=by kernel_rfl
theorem fa28_0 (g off:Nat) (w:World):(Instr.fieldAt 42 (ptr g off) 0).run Tryz.prog w = .ok (ptr g (off + 0)) w:=by kernel_rfl
theorem fa28_1 (g off:Nat) (w:World):(Instr.fieldAt 42 (ptr g off) 1).run Tryz.prog w = .ok (ptr g (off + 1)) w:=by kernel_rfl
theorem fa28_2 (g off:Nat) (w:World):(Instr.fieldAt 42 (ptr g off) 2).run Tryz.prog w = .ok (ptr g (off + 2)) w:=by kernel_rfl
theorem fa28_3 (g off:Nat) (w:World):(Instr.fieldAt 42 (ptr g off) 3).run Tryz.prog w = .ok (ptr g (off + 3)) w:=by kernel_rfl
theorem fa28_4 (g off:Nat) (w:World):(Instr.fieldAt 42 (ptr g off) 4).run Tryz.prog w = .ok (ptr g (off + 35)) w:=by kernel_rfl
theorem fa28_5 (g off:Nat) (w:World):(Instr.fieldAt 42 (ptr g off) 5).run Tryz.prog w = .ok (ptr g (off + 36)) w:=by kernel_rfl
theorem fa28_6 (g off:Nat) (w:World):(Instr.fieldAt 42 (ptr g off) 6).run Tryz.prog w = .ok (ptr g (off + 37)) w:=by kernel_rfl
theorem fa28_7 (g off:Nat) (w:World):(Instr.fieldAt 42 (ptr g off) 7).run Tryz.prog w = .ok (ptr g (off + 38)) w:=by kernel_rfl
theorem fa28_8 (g off:Nat) (w:World):(Instr.fieldAt 42 (ptr g off) 8).run Tryz.prog w = .ok (ptr g (off + 70)) w:=by kernel_rfl
theorem fa28_9 (g off:Nat) (w:World):(Instr.fieldAt 42 (ptr g off) 9).run Tryz.prog w = .ok (ptr g (off + 71)) w:=by kernel_rfl
theorem fa25_0 (g off:Nat) (w:World):(Instr.fieldAt 39 (ptr g off) 0).run Tryz.prog w = .ok (ptr g (off + 0)) w:=by kernel_rfl
theorem fa25_1 (g off:Nat) (w:World):(Instr.fieldAt 39 (ptr g off) 1).run Tryz.prog w = .ok (ptr g (off + 1)) w:=by kernel_rfl
theorem fa25_2 (g off:Nat) (w:World):(Instr.fieldAt 39 (ptr g off) 2).run Tryz.prog w = .ok (ptr g (off + 2)) w:=by kernel_rfl
theorem fa25_3 (g off:Nat) (w:World):(Instr.fieldAt 39 (ptr g off) 3).run Tryz.prog w = .ok (ptr g (off + 3)) w:=by kernel_rfl
theorem fa25_4 (g off:Nat) (w:World):(Instr.fieldAt 39 (ptr g off) 4).run Tryz.prog w = .ok (ptr g (off + 4)) w:=by kernel_rfl
theorem fa25_5 (g off:Nat) (w:World):(Instr.fieldAt 39 (ptr g off) 5).run Tryz.prog w = .ok (ptr g (off + 36)) w:=by kernel_rfl
theorem fa30_0 (g off:Nat) (w:World):(Instr.fieldAt 100 (ptr g off) 0).run Tryz.prog w = .ok (ptr g (off + 0)) w:=by kernel_rfl
theorem fa30_1 (g off:Nat) (w:World):(Instr.fieldAt 100 (ptr g off) 1).run Tryz.prog w = .ok (ptr g (off + 1)) w:=by kernel_rfl
theorem fa30_2 (g off:Nat) (w:World):(Instr.fieldAt 100 (ptr g off) 2).run Tryz.prog w = .ok (ptr g (off + 2)) w:=by kernel_rfl
theorem fa30_3 (g off:Nat) (w:World):(Instr.fieldAt 100 (ptr g off) 3).run Tryz.prog w = .ok (ptr g (off + 3)) w:=by kernel_rfl
theorem fa33_4 (g off:Nat) (w:World):(Instr.fieldAt 102 (ptr g off) 4).run Tryz.prog w = .ok (ptr g (off + 173)) w:=by kernel_rfl
theorem fa33_5 (g off:Nat) (w:World):(Instr.fieldAt 102 (ptr g off) 5).run Tryz.prog w = .ok (ptr g (off + 174)) w:=by kernel_rfl
theorem fa33_6 (g off:Nat) (w:World):(Instr.fieldAt 102 (ptr g off) 6).run Tryz.prog w = .ok (ptr g (off + 175)) w:=by kernel_rfl
theorem fa33_7 (g off:Nat) (w:World):(Instr.fieldAt 102 (ptr g off) 7).run Tryz.prog w = .ok (ptr g (off + 207)) w:=by kernel_rfl
theorem fa33_9 (g off:Nat) (w:World):(Instr.fieldAt 102 (ptr g off) 9).run Tryz.prog w = .ok (ptr g (off + 274)) w:=by kernel_rfl
theorem penfields_any (g off:Nat) (w:World):Calls Tryz.prog 195 #[ptr g off] w fun e w'=>∃ v,e = .returned v∧FieldsAt w' v g [(.num,(off + 0)),(.num,(off + 1)),(.num,(off + 2)),(.num,(off + 3)),(.dig,(off + 4)),(.dig,(off + 36))]∧Below w.heap.size w w':=by
 go_enter Tryz.func195,Tryz.ntmps195
 go_wp2_with fail
 refine wp_region_mid (N:=28) (keep:=[0]) (val:=valOf [vc (ptr g off),vc (ptr g off),vc (ptr g (off + 0)),IsF .num g (off + 0),vc (ptr g off),vc (ptr g off),vc (ptr g (off + 1)),IsF .num g (off + 1),vc (ptr g off),vc (ptr g off),vc (ptr g (off + 2)),IsF .num g (off + 2),vc (ptr g off),vc (ptr g off),vc (ptr g (off + 3)),IsF .num g (off + 3),vc (ptr g off),vc (ptr g off),vc (ptr g (off + 4)),IsF .dig g (off + 4),vc (ptr g off),vc (ptr g off),vc (ptr g (off + 36)),IsF .dig g (off + 36),vF g [(.num,(off + 0)),(.num,(off + 1)),(.num,(off + 2)),(.num,(off + 3)),(.dig,(off + 4)),(.dig,(off + 36))],vF g [(.num,(off + 0)),(.num,(off + 1)),(.num,(off + 2)),(.num,(off + 3)),(.dig,(off + 4)),(.dig,(off + 36))]]) (by kernel_rfl) (by kernel_rfl) rfl (mono_of (by
   intro p hp
   simp only [List.mem_cons,List.not_mem_nil,or_false] at hp
   rcases hp with rfl | rfl | rfl | rfl | rfl | rfl | rfl | rfl | rfl | rfl | rfl | rfl | rfl | rfl | rfl | rfl | rfl | rfl | rfl | rfl | rfl | rfl | rfl | rfl | rfl | rfl
   all_goals first | exact mono_vc _ | exact mono_isF _ _ _ | exact mono_vF _ _)) ?_ ?_
 ·intro i o ho
  match i,ho with
  | 0,ho=>cases ho;exact ow_move 0 (ptr g off) rfl rfl rfl rfl
  | 1,ho=>cases ho;exact ow_nil 3 0 g off rfl (by kernel_rfl) (by kernel_rfl) rfl rfl
  | 2,ho=>cases ho;exact ow_fa 4 1 25 0 g off 0 rfl (fun W=>fa109_0 _ _ W) (by kernel_rfl) (by kernel_rfl) rfl rfl
  | 3,ho=>cases ho;exact ow_mk 5 2 114 _ .num g (off + 0) rfl (fun x W=>call_num x W) (fun W=>mk_num g (off + 0) W) (by kernel_rfl) (by kernel_rfl) rfl rfl
  | 4,ho=>cases ho;exact ow_move 0 (ptr g off) rfl rfl rfl rfl
  | 5,ho=>cases ho;exact ow_nil 7 4 g off rfl (by kernel_rfl) (by kernel_rfl) rfl rfl
  | 6,ho=>cases ho;exact ow_fa 8 5 25 1 g off 1 rfl (fun W=>fa109_1 _ _ W) (by kernel_rfl) (by kernel_rfl) rfl rfl
  | 7,ho=>cases ho;exact ow_mk 9 6 114 _ .num g (off + 1) rfl (fun x W=>call_num x W) (fun W=>mk_num g (off + 1) W) (by kernel_rfl) (by kernel_rfl) rfl rfl
  | 8,ho=>cases ho;exact ow_move 0 (ptr g off) rfl rfl rfl rfl
  | 9,ho=>cases ho;exact ow_nil 11 8 g off rfl (by kernel_rfl) (by kernel_rfl) rfl rfl
  | 10,ho=>cases ho;exact ow_fa 12 9 25 2 g off 2 rfl (fun W=>fa109_2 _ _ W) (by kernel_rfl) (by kernel_rfl) rfl rfl
  | 11,ho=>cases ho;exact ow_mk 13 10 114 _ .num g (off + 2) rfl (fun x W=>call_num x W) (fun W=>mk_num g (off + 2) W) (by kernel_rfl) (by kernel_rfl) rfl rfl
  | 12,ho=>cases ho;exact ow_move 0 (ptr g off) rfl rfl rfl rfl
  | 13,ho=>cases ho;exact ow_nil 15 12 g off rfl (by kernel_rfl) (by kernel_rfl) rfl rfl
  | 14,ho=>cases ho;exact ow_fa 16 13 25 3 g off 3 rfl (fun W=>fa109_3 _ _ W) (by kernel_rfl) (by kernel_rfl) rfl rfl
  | 15,ho=>cases ho;exact ow_mk 17 14 114 _ .num g (off + 3) rfl (fun x W=>call_num x W) (fun W=>mk_num g (off + 3) W) (by kernel_rfl) (by kernel_rfl) rfl rfl
  | 16,ho=>cases ho;exact ow_move 0 (ptr g off) rfl rfl rfl rfl
  | 17,ho=>cases ho;exact ow_nil 19 16 g off rfl (by kernel_rfl) (by kernel_rfl) rfl rfl
  | 18,ho=>cases ho;exact ow_fa 20 17 25 4 g off 4 rfl (fun W=>fa109_4 _ _ W) (by kernel_rfl) (by kernel_rfl) rfl rfl
  | 19,ho=>cases ho;exact ow_mk 21 18 116 _ .dig g (off + 4) rfl (fun x W=>call_dig x W) (fun W=>mk_dig g (off + 4) W) (by kernel_rfl) (by kernel_rfl) rfl rfl
  | 20,ho=>cases ho;exact ow_move 0 (ptr g off) rfl rfl rfl rfl
  | 21,ho=>cases ho;exact ow_nil 23 20 g off rfl (by kernel_rfl) (by kernel_rfl) rfl rfl
  | 22,ho=>cases ho;exact ow_fa 24 21 25 5 g off 36 rfl (fun W=>fa109_5 _ _ W) (by kernel_rfl) (by kernel_rfl) rfl rfl
  | 23,ho=>cases ho;exact ow_mk 25 22 116 _ .dig g (off + 36) rfl (fun x W=>call_dig x W) (fun W=>mk_dig g (off + 36) W) (by kernel_rfl) (by kernel_rfl) rfl rfl
  | 24,ho=>cases ho;exact ow_bs 159 176 6 _ g [(.num,(off + 0)),(.num,(off + 1)),(.num,(off + 2)),(.num,(off + 3)),(.dig,(off + 4)),(.dig,(off + 36))] [(3,6),(7,10),(11,14),(15,18),(19,22),(23,26)] rfl Tryz.underlying159 rfl sizeFld infoFld rfl (by decide) (by decide) rfl rfl (by kernel_rfl) (by intro j hj;match j,hj with | 0,_=>rfl | 1,_=>rfl | 2,_=>rfl | 3,_=>rfl | 4,_=>rfl | 5,_=>rfl) rfl
  | 25,ho=>cases ho;exact ow_assign 27 24 g [(.num,(off + 0)),(.num,(off + 1)),(.num,(off + 2)),(.num,(off + 3)),(.dig,(off + 4)),(.dig,(off + 36))] rfl (by kernel_rfl) (by kernel_rfl) rfl rfl
  | (i + 26),ho=>exact absurd ho (by simp)
 ·intro a w' hB hs hd hk hv
  have h2:=hv 25 2 (by kernel_rfl)
  obtain ⟨tm,df⟩:=a
  obtain rfl:df = []:=hd
  go_wp2
  go_ret
  exact ⟨_,rfl,h2,hB⟩
theorem repfields_any (g off:Nat) (w:World):Calls Tryz.prog 117 #[ptr g off] w fun e w'=>∃ v,e = .returned v∧FieldsAt w' v g [(.num,(off + 0)),(.num,(off + 1)),(.txt,(off + 2)),(.dig,(off + 3)),(.pens,(off + 35)),(.num,(off + 36)),(.txt,(off + 37)),(.dig,(off + 38)),(.txt,(off + 70)),(.dig,(off + 71))]∧Below w.heap.size w w':=by
 go_enter Tryz.func117,Tryz.ntmps117
 go_wp2_with fail
 refine wp_region_mid (N:=44) (keep:=[0]) (val:=valOf [vc (ptr g off),vc (ptr g off),vc (ptr g (off + 0)),IsF .num g (off + 0),vc (ptr g off),vc (ptr g off),vc (ptr g (off + 1)),IsF .num g (off + 1),vc (ptr g off),vc (ptr g off),vc (ptr g (off + 2)),IsF .txt g (off + 2),vc (ptr g off),vc (ptr g off),vc (ptr g (off + 3)),IsF .dig g (off + 3),vc (ptr g off),vc (ptr g off),vc (ptr g (off + 35)),IsF .pens g (off + 35),vc (ptr g off),vc (ptr g off),vc (ptr g (off + 36)),IsF .num g (off + 36),vc (ptr g off),vc (ptr g off),vc (ptr g (off + 37)),IsF .txt g (off + 37),vc (ptr g off),vc (ptr g off),vc (ptr g (off + 38)),IsF .dig g (off + 38),vc (ptr g off),vc (ptr g off),vc (ptr g (off + 70)),IsF .txt g (off + 70),vc (ptr g off),vc (ptr g off),vc (ptr g (off + 71)),IsF .dig g (off + 71),vF g [(.num,(off + 0)),(.num,(off + 1)),(.txt,(off + 2)),(.dig,(off + 3)),(.pens,(off + 35)),(.num,(off + 36)),(.txt,(off + 37)),(.dig,(off + 38)),(.txt,(off + 70)),(.dig,(off + 71))],vF g [(.num,(off + 0)),(.num,(off + 1)),(.txt,(off + 2)),(.dig,(off + 3)),(.pens,(off + 35)),(.num,(off + 36)),(.txt,(off + 37)),(.dig,(off + 38)),(.txt,(off + 70)),(.dig,(off + 71))]]) (by kernel_rfl) (by kernel_rfl) rfl (mono_of (by
   intro p hp
   simp only [List.mem_cons,List.not_mem_nil,or_false] at hp
   rcases hp with rfl | rfl | rfl | rfl | rfl | rfl | rfl | rfl | rfl | rfl | rfl | rfl | rfl | rfl | rfl | rfl | rfl | rfl | rfl | rfl | rfl | rfl | rfl | rfl | rfl | rfl | rfl | rfl | rfl | rfl | rfl | rfl | rfl | rfl | rfl | rfl | rfl | rfl | rfl | rfl | rfl | rfl
   all_goals first | exact mono_vc _ | exact mono_isF _ _ _ | exact mono_vF _ _)) ?_ ?_
 ·intro i o ho
  match i,ho with
  | 0,ho=>cases ho;exact ow_move 0 (ptr g off) rfl rfl rfl rfl
  | 1,ho=>cases ho;exact ow_nil 3 0 g off rfl (by kernel_rfl) (by kernel_rfl) rfl rfl
  | 2,ho=>cases ho;exact ow_fa 4 1 42 0 g off 0 rfl (fun W=>fa28_0 _ _ W) (by kernel_rfl) (by kernel_rfl) rfl rfl
  | 3,ho=>cases ho;exact ow_mk 5 2 114 _ .num g (off + 0) rfl (fun x W=>call_num x W) (fun W=>mk_num g (off + 0) W) (by kernel_rfl) (by kernel_rfl) rfl rfl
  | 4,ho=>cases ho;exact ow_move 0 (ptr g off) rfl rfl rfl rfl
  | 5,ho=>cases ho;exact ow_nil 7 4 g off rfl (by kernel_rfl) (by kernel_rfl) rfl rfl
  | 6,ho=>cases ho;exact ow_fa 8 5 42 1 g off 1 rfl (fun W=>fa28_1 _ _ W) (by kernel_rfl) (by kernel_rfl) rfl rfl
  | 7,ho=>cases ho;exact ow_mk 9 6 114 _ .num g (off + 1) rfl (fun x W=>call_num x W) (fun W=>mk_num g (off + 1) W) (by kernel_rfl) (by kernel_rfl) rfl rfl
  | 8,ho=>cases ho;exact ow_move 0 (ptr g off) rfl rfl rfl rfl
  | 9,ho=>cases ho;exact ow_nil 11 8 g off rfl (by kernel_rfl) (by kernel_rfl) rfl rfl
  | 10,ho=>cases ho;exact ow_fa 12 9 42 2 g off 2 rfl (fun W=>fa28_2 _ _ W) (by kernel_rfl) (by kernel_rfl) rfl rfl
  | 11,ho=>cases ho;exact ow_mk 13 10 115 _ .txt g (off + 2) rfl (fun x W=>call_txt x W) (fun W=>mk_txt g (off + 2) W) (by kernel_rfl) (by kernel_rfl) rfl rfl
  | 12,ho=>cases ho;exact ow_move 0 (ptr g off) rfl rfl rfl rfl
  | 13,ho=>cases ho;exact ow_nil 15 12 g off rfl (by kernel_rfl) (by kernel_rfl) rfl rfl
  | 14,ho=>cases ho;exact ow_fa 16 13 42 3 g off 3 rfl (fun W=>fa28_3 _ _ W) (by kernel_rfl) (by kernel_rfl) rfl rfl
  | 15,ho=>cases ho;exact ow_mk 17 14 116 _ .dig g (off + 3) rfl (fun x W=>call_dig x W) (fun W=>mk_dig g (off + 3) W) (by kernel_rfl) (by kernel_rfl) rfl rfl
  | 16,ho=>cases ho;exact ow_move 0 (ptr g off) rfl rfl rfl rfl
  | 17,ho=>cases ho;exact ow_nil 19 16 g off rfl (by kernel_rfl) (by kernel_rfl) rfl rfl
  | 18,ho=>cases ho;exact ow_fa 20 17 42 4 g off 35 rfl (fun W=>fa28_4 _ _ W) (by kernel_rfl) (by kernel_rfl) rfl rfl
  | 19,ho=>cases ho;exact ow_mk 21 18 142 _ .pens g (off + 35) rfl (fun x W=>call_pens x W) (fun W=>mk_pens g (off + 35) W) (by kernel_rfl) (by kernel_rfl) rfl rfl
  | 20,ho=>cases ho;exact ow_move 0 (ptr g off) rfl rfl rfl rfl
  | 21,ho=>cases ho;exact ow_nil 23 20 g off rfl (by kernel_rfl) (by kernel_rfl) rfl rfl
  | 22,ho=>cases ho;exact ow_fa 24 21 42 5 g off 36 rfl (fun W=>fa28_5 _ _ W) (by kernel_rfl) (by kernel_rfl) rfl rfl
  | 23,ho=>cases ho;exact ow_mk 25 22 114 _ .num g (off + 36) rfl (fun x W=>call_num x W) (fun W=>mk_num g (off + 36) W) (by kernel_rfl) (by kernel_rfl) rfl rfl
  | 24,ho=>cases ho;exact ow_move 0 (ptr g off) rfl rfl rfl rfl
  | 25,ho=>cases ho;exact ow_nil 27 24 g off rfl (by kernel_rfl) (by kernel_rfl) rfl rfl
  | 26,ho=>cases ho;exact ow_fa 28 25 42 6 g off 37 rfl (fun W=>fa28_6 _ _ W) (by kernel_rfl) (by kernel_rfl) rfl rfl
  | 27,ho=>cases ho;exact ow_mk 29 26 115 _ .txt g (off + 37) rfl (fun x W=>call_txt x W) (fun W=>mk_txt g (off + 37) W) (by kernel_rfl) (by kernel_rfl) rfl rfl
  | 28,ho=>cases ho;exact ow_move 0 (ptr g off) rfl rfl rfl rfl
  | 29,ho=>cases ho;exact ow_nil 31 28 g off rfl (by kernel_rfl) (by kernel_rfl) rfl rfl
  | 30,ho=>cases ho;exact ow_fa 32 29 42 7 g off 38 rfl (fun W=>fa28_7 _ _ W) (by kernel_rfl) (by kernel_rfl) rfl rfl
  | 31,ho=>cases ho;exact ow_mk 33 30 116 _ .dig g (off + 38) rfl (fun x W=>call_dig x W) (fun W=>mk_dig g (off + 38) W) (by kernel_rfl) (by kernel_rfl) rfl rfl
  | 32,ho=>cases ho;exact ow_move 0 (ptr g off) rfl rfl rfl rfl
  | 33,ho=>cases ho;exact ow_nil 35 32 g off rfl (by kernel_rfl) (by kernel_rfl) rfl rfl
  | 34,ho=>cases ho;exact ow_fa 36 33 42 8 g off 70 rfl (fun W=>fa28_8 _ _ W) (by kernel_rfl) (by kernel_rfl) rfl rfl
  | 35,ho=>cases ho;exact ow_mk 37 34 115 _ .txt g (off + 70) rfl (fun x W=>call_txt x W) (fun W=>mk_txt g (off + 70) W) (by kernel_rfl) (by kernel_rfl) rfl rfl
  | 36,ho=>cases ho;exact ow_move 0 (ptr g off) rfl rfl rfl rfl
  | 37,ho=>cases ho;exact ow_nil 39 36 g off rfl (by kernel_rfl) (by kernel_rfl) rfl rfl
  | 38,ho=>cases ho;exact ow_fa 40 37 42 9 g off 71 rfl (fun W=>fa28_9 _ _ W) (by kernel_rfl) (by kernel_rfl) rfl rfl
  | 39,ho=>cases ho;exact ow_mk 41 38 116 _ .dig g (off + 71) rfl (fun x W=>call_dig x W) (fun W=>mk_dig g (off + 71) W) (by kernel_rfl) (by kernel_rfl) rfl rfl
  | 40,ho=>cases ho;exact ow_bs 159 176 10 _ g [(.num,(off + 0)),(.num,(off + 1)),(.txt,(off + 2)),(.dig,(off + 3)),(.pens,(off + 35)),(.num,(off + 36)),(.txt,(off + 37)),(.dig,(off + 38)),(.txt,(off + 70)),(.dig,(off + 71))] [(3,6),(7,10),(11,14),(15,18),(19,22),(23,26),(27,30),(31,34),(35,38),(39,42)] rfl Tryz.underlying159 rfl sizeFld infoFld rfl (by decide) (by decide) rfl rfl (by kernel_rfl) (by intro j hj;match j,hj with | 0,_=>rfl | 1,_=>rfl | 2,_=>rfl | 3,_=>rfl | 4,_=>rfl | 5,_=>rfl | 6,_=>rfl | 7,_=>rfl | 8,_=>rfl | 9,_=>rfl) rfl
  | 41,ho=>cases ho;exact ow_assign 43 40 g [(.num,(off + 0)),(.num,(off + 1)),(.txt,(off + 2)),(.dig,(off + 3)),(.pens,(off + 35)),(.num,(off + 36)),(.txt,(off + 37)),(.dig,(off + 38)),(.txt,(off + 70)),(.dig,(off + 71))] rfl (by kernel_rfl) (by kernel_rfl) rfl rfl
  | (i + 42),ho=>exact absurd ho (by simp)
 ·intro a w' hB hs hd hk hv
  have h2:=hv 41 2 (by kernel_rfl)
  obtain ⟨tm,df⟩:=a
  obtain rfl:df = []:=hd
  go_wp2
  go_ret
  exact ⟨_,rfl,h2,hB⟩
end Go.Proofs.YthkkjjlpahdagaaGreatDoor.Ms
