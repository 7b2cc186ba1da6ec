/-
  The list of fields that a message's kind has: what msg.fieldsOf answers.
-/
import Derived.Test.YthkkjjlpahdagaaGreatDoorTjfs
import Derived.Test.YthkkjjlpahdagaaGreatDoorThsr
import Derived.Test.YthkkjjlpahdagaaGreatDoorTjas
set_option maxHeartbeats 8000000
namespace Go.Proofs.YthkkjjlpahdagaaGreatDoor.Ms
open Go Go.RowKit
set_option maxRecDepth 100000
theorem fnil (w:World) (g:Nat):FieldsAt w (.slice none 0 0) g []:=⟨none,[],rfl,rfl,fun h=>absurd rfl h,fun j hj=>absurd hj (Nat.not_lt_zero j)⟩
theorem wl_bs1 {ops:Array Oper} {rest:List Oper} {o:Oper} {a:Act} {w:World} {Q:Exit→Act→World→Prop} (hg:o.guard=none) (x:Operand) (ho:o.op = .buildSlice 159 1 #[(0,x)]) (V:List Value) (hV:V.length=3) (hx:a.eval x = .agg V.toArray)
  (h:wpList Tryz.prog ops Q rest (a.put o.dst (.slice (some ⟨w.heap.size,0,none⟩) 1 1)) (w.alloc (.cells V.toArray 176))):wpList Tryz.prog ops Q (o :: rest) a w:=by
 have hs:=sizeFld
 have hz:=infoFld
 cases hie:Tryz.prog.info? 176 with
 | none=>simp [hie] at hs
 | some ie =>
  simp only [hie,Option.map_some,Option.some.injEq,Option.bind_some] at hs hz
  cases hzz:ie.zero with
  | none=>rw [hzz] at hz;cases hz
  | some z =>
   rw [hzz] at hz
   have hz3:z.cells.size=3:=by simpa using hz
   have hfill:=Great.fill_whole (s:=3) (by omega) [Value.agg V.toArray] ((Array.range (1 * 3)).map (z.cells[· % z.cells.size]!)) (by intro v hv;simp at hv;subst hv;simpa [Value.cells] using hV) (by simp)
   have e1:(([Value.agg V.toArray].zipIdx 0).map fun x=>(x.2,x.1))=(#[(0,x)].map fun (i,x)=>(i,a.eval x)).toList:=by simp [hx]
   have e2:([Value.agg V.toArray].flatMap fun v=>v.cells.toList).toArray=V.toArray:=by simp [Value.cells]
   rw [e1,e2] at hfill
   exact wpList_buildSlice hg 159 176 1 _ ho V.toArray ie z Tryz.underlying159 hie hzz (by rw [hs];omega) (by rw [hs];omega) (by rw [hs];exact hfill) h
theorem fieldsof_any (g:Nat) (kind:Int) (w:World) (hk:w.cell? ⟨g,0,none⟩=some (nu kind)):Calls Tryz.prog 101 #[ptr g 0] w fun e w'=>∃ v,e = .returned v∧FieldsAt w' v g (spots 0 (fieldsM kind))∧Below w.heap.size w w':=by
 have HM:=hid (mk_num g 1 w)
 go_enter Tryz.func101,Tryz.ntmps101
 go_wp2_with fail
 refine HM.out.mono ?_
 rintro e w1 ⟨cb,rfl,hF,hb⟩
 have HB2:=hid (below_two hb (below_a1 w1 (.cells (fieldV .num cb).toArray 176)))
 have HCr:=hid (top_obj w1 (.cells (fieldV .num cb).toArray 176))
 have HCf:=hid (hF.stays (below_a1 w1 (.cells (fieldV .num cb).toArray 176)))
 have HO:=hid (one_fld .num cb)
 have hL:([.nilFunc,.nilFunc,.nilFunc]:List Value).length=(fieldV .num cb).length:=rfl
 have hI:(Tryz.prog.info? 176).map (·.size)=some (fieldV .num cb).length:=sizeFld
 have k0:(w1.alloc (.cells (fieldV .num cb).toArray 176)).cell? ⟨g,0,none⟩=some (nu kind):=(HB2.out.cell (p:=⟨g,0,none⟩) (World.block_lt_of_cell? w _ hk)).trans hk
 clear hb hF HM hk
 obtain ⟨V,hV⟩:∃ V,V=fieldV .num cb:=⟨_,rfl⟩
 rw [← hV] at HO hL hI k0 HB2 HCr HCf ⊢
 have HV:=hid hV
 clear hV
 go_upto_region 2 with (first | ((with_reducible refine wl_store_top 176 (.tmp 3) (.tmp 9) ?_ ?_ ?_ ?_ V [.nilFunc,.nilFunc,.nilFunc] ?_ 176 hL HO.out hI ?_);exact rfl;iterate 4 exact rfl))
 obtain ⟨c,hc⟩:∃ c,c=w1.heap.size:=⟨_,rfl⟩
 generalize w1.alloc (.cells V.toArray 176)=W2 at *
 rw [← hc] at HCr ⊢
 rw [HV.out] at HCr
 clear hc hL hI HO HV
 rcases fields_cases kind with ⟨hk,e⟩ | ⟨hk,e⟩ | ⟨hk,e⟩ | ⟨hk,e⟩ | ⟨hk,e⟩ | ⟨hk,e⟩ | ⟨hk,e⟩ | ⟨hk,e⟩ | ⟨hk,e⟩
 ·as_aux_lemma =>
  subst hk
  go_wp2_with fail
  refine wp_region_mid (N:=128) (keep:=[3,4]) (val:=valOf [IsF .num g 1,vc (ptr g 2),vc (ptr g 2),vc (ptr g (2 + 0)),IsF .num g (2 + 0),vc (ptr g 2),vc (ptr g 2),vc (ptr g (2 + 1)),IsF .num g (2 + 1),vc (ptr g 2),vc (ptr g 2),vc (ptr g (2 + 2)),IsF .num g (2 + 2),vc (ptr g 2),vc (ptr g 2),vc (ptr g (2 + 3)),IsF .txt g (2 + 3),vc (ptr g 2),vc (ptr g 2),vc (ptr g (2 + 4)),IsF .dig g (2 + 4),vc (ptr g 2),vc (ptr g 2),vc (ptr g (2 + 36)),IsF .dig g (2 + 36),vF g [(.num,1),(.num,(2 + 0)),(.num,(2 + 1)),(.num,(2 + 2)),(.txt,(2 + 3)),(.dig,(2 + 4)),(.dig,(2 + 36))],vF g [(.num,1),(.num,(2 + 0)),(.num,(2 + 1)),(.num,(2 + 2)),(.txt,(2 + 3)),(.dig,(2 + 4)),(.dig,(2 + 36))]]) (by kernel_rfl) (by kernel_rfl) rfl (mono_of (by
    intro p hp
    simp only [List.mem_cons,List.not_mem_nil,or_false] at hp
    rcases hp with rfl | rfl | rfl | rfl | rfl | rfl | rfl | rfl | rfl | rfl | rfl | rfl | rfl | rfl | rfl | rfl | rfl | rfl | rfl | rfl | rfl | rfl | rfl | rfl | rfl | rfl | rfl
    all_goals first | exact mono_vc _ | exact mono_isF _ _ _ | exact mono_vF _ _)) ?_ ?_
  ·intro i o ho
   match i,ho with
   | 0,ho=>cases ho;exact ow_ld 3 c .num g 1 cb rfl rfl rfl HCr.out HCf.out _ Tryz.underlying176 rfl sizeFld rfl
   | 1,ho=>cases ho;exact ow_move 4 (ptr g 2) rfl rfl rfl rfl
   | 2,ho=>cases ho;exact ow_nil 20 1 g 2 rfl (by kernel_rfl) (by kernel_rfl) rfl rfl
   | 3,ho=>cases ho;exact ow_fa 21 2 39 0 g 2 0 rfl (fun W=>fa25_0 _ _ W) (by kernel_rfl) (by kernel_rfl) rfl rfl
   | 4,ho=>cases ho;exact ow_mk 22 3 114 _ .num g (2 + 0) rfl (fun x W=>call_num x W) (fun W=>mk_num g (2 + 0) W) (by kernel_rfl) (by kernel_rfl) rfl rfl
   | 5,ho=>cases ho;exact ow_move 4 (ptr g 2) rfl rfl rfl rfl
   | 6,ho=>cases ho;exact ow_nil 24 5 g 2 rfl (by kernel_rfl) (by kernel_rfl) rfl rfl
   | 7,ho=>cases ho;exact ow_fa 25 6 39 1 g 2 1 rfl (fun W=>fa25_1 _ _ W) (by kernel_rfl) (by kernel_rfl) rfl rfl
   | 8,ho=>cases ho;exact ow_mk 26 7 114 _ .num g (2 + 1) rfl (fun x W=>call_num x W) (fun W=>mk_num g (2 + 1) W) (by kernel_rfl) (by kernel_rfl) rfl rfl
   | 9,ho=>cases ho;exact ow_move 4 (ptr g 2) rfl rfl rfl rfl
   | 10,ho=>cases ho;exact ow_nil 28 9 g 2 rfl (by kernel_rfl) (by kernel_rfl) rfl rfl
   | 11,ho=>cases ho;exact ow_fa 29 10 39 2 g 2 2 rfl (fun W=>fa25_2 _ _ W) (by kernel_rfl) (by kernel_rfl) rfl rfl
   | 12,ho=>cases ho;exact ow_mk 30 11 114 _ .num g (2 + 2) rfl (fun x W=>call_num x W) (fun W=>mk_num g (2 + 2) W) (by kernel_rfl) (by kernel_rfl) rfl rfl
   | 13,ho=>cases ho;exact ow_move 4 (ptr g 2) rfl rfl rfl rfl
   | 14,ho=>cases ho;exact ow_nil 32 13 g 2 rfl (by kernel_rfl) (by kernel_rfl) rfl rfl
   | 15,ho=>cases ho;exact ow_fa 33 14 39 3 g 2 3 rfl (fun W=>fa25_3 _ _ W) (by kernel_rfl) (by kernel_rfl) rfl rfl
   | 16,ho=>cases ho;exact ow_mk 34 15 115 _ .txt g (2 + 3) rfl (fun x W=>call_txt x W) (fun W=>mk_txt g (2 + 3) W) (by kernel_rfl) (by kernel_rfl) rfl rfl
   | 17,ho=>cases ho;exact ow_move 4 (ptr g 2) rfl rfl rfl rfl
   | 18,ho=>cases ho;exact ow_nil 36 17 g 2 rfl (by kernel_rfl) (by kernel_rfl) rfl rfl
   | 19,ho=>cases ho;exact ow_fa 37 18 39 4 g 2 4 rfl (fun W=>fa25_4 _ _ W) (by kernel_rfl) (by kernel_rfl) rfl rfl
   | 20,ho=>cases ho;exact ow_mk 38 19 116 _ .dig g (2 + 4) rfl (fun x W=>call_dig x W) (fun W=>mk_dig g (2 + 4) W) (by kernel_rfl) (by kernel_rfl) rfl rfl
   | 21,ho=>cases ho;exact ow_move 4 (ptr g 2) rfl rfl rfl rfl
   | 22,ho=>cases ho;exact ow_nil 40 21 g 2 rfl (by kernel_rfl) (by kernel_rfl) rfl rfl
   | 23,ho=>cases ho;exact ow_fa 41 22 39 5 g 2 36 rfl (fun W=>fa25_5 _ _ W) (by kernel_rfl) (by kernel_rfl) rfl rfl
   | 24,ho=>cases ho;exact ow_mk 42 23 116 _ .dig g (2 + 36) rfl (fun x W=>call_dig x W) (fun W=>mk_dig g (2 + 36) W) (by kernel_rfl) (by kernel_rfl) rfl rfl
   | 25,ho=>cases ho;exact ow_bs 159 176 7 _ g [(.num,1),(.num,(2 + 0)),(.num,(2 + 1)),(.num,(2 + 2)),(.txt,(2 + 3)),(.dig,(2 + 4)),(.dig,(2 + 36))] [(0,19),(4,23),(8,27),(12,31),(16,35),(20,39),(24,43)] rfl Tryz.underlying159 rfl sizeFld infoFld rfl (by decide) (by decide) rfl rfl (by kernel_rfl) (by intro j hj;match j,hj with | 0,_=>rfl | 1,_=>rfl | 2,_=>rfl | 3,_=>rfl | 4,_=>rfl | 5,_=>rfl | 6,_=>rfl) rfl
   | 26,ho=>cases ho;exact ow_assign 44 25 g [(.num,1),(.num,(2 + 0)),(.num,(2 + 1)),(.num,(2 + 2)),(.txt,(2 + 3)),(.dig,(2 + 4)),(.dig,(2 + 36))] rfl (by kernel_rfl) (by kernel_rfl) rfl rfl
   | (i + 27),ho=>exact absurd ho (by simp)
  ·intro a w' hB hs hd hk2 hv
   have h2:=hv 26 2 (by kernel_rfl)
   have HB3:=hid (below_two HB2.out hB)
   obtain ⟨tm,df⟩:=a
   obtain rfl:df = []:=hd
   go_wp2
   go_ret
   exact ⟨_,rfl,h2,HB3.out⟩
 ·as_aux_lemma =>
  subst hk
  have HR:=hid (fun W=>repfields_any g 70 W)
  go_wp2_with fail
  refine (HR.out _).mono ?_
  rintro e1 w3 ⟨v,rfl,h2,hb⟩
  have HB3:=hid (below_two HB2.out hb)
  have H2:=hid h2
  obtain ⟨av,bs,rfl,-⟩:=h2
  clear hb
  go_wp2
  go_ret
  exact ⟨_,rfl,H2.out,HB3.out⟩
 ·as_aux_lemma =>
  subst hk
  go_wp2_with fail
  refine wp_region_mid (N:=128) (keep:=[0,3]) (val:=valOf [IsF .num g 1,vc (ptr g 0),vc (ptr g 0),vc (ptr g (0 + 173)),IsF .txt g (0 + 173),vc (ptr g 0),vc (ptr g 0),vc (ptr g (0 + 175)),IsF .dig g (0 + 175),vF g [(.num,1),(.txt,(0 + 173)),(.dig,(0 + 175))],vF g [(.num,1),(.txt,(0 + 173)),(.dig,(0 + 175))]]) (by kernel_rfl) (by kernel_rfl) rfl (mono_of (by
    intro p hp
    simp only [List.mem_cons,List.not_mem_nil,or_false] at hp
    rcases hp with rfl | rfl | rfl | rfl | rfl | rfl | rfl | rfl | rfl | rfl | rfl
    all_goals first | exact mono_vc _ | exact mono_isF _ _ _ | exact mono_vF _ _)) ?_ ?_
  ·intro i o ho
   match i,ho with
   | 0,ho=>cases ho;exact ow_ld 3 c .num g 1 cb rfl rfl rfl HCr.out HCf.out _ Tryz.underlying176 rfl sizeFld rfl
   | 1,ho=>cases ho;exact ow_move 0 (ptr g 0) rfl rfl rfl rfl
   | 2,ho=>cases ho;exact ow_nil 54 1 g 0 rfl (by kernel_rfl) (by kernel_rfl) rfl rfl
   | 3,ho=>cases ho;exact ow_fa 55 2 102 4 g 0 173 rfl (fun W=>fa33_4 _ _ W) (by kernel_rfl) (by kernel_rfl) rfl rfl
   | 4,ho=>cases ho;exact ow_mk 56 3 115 _ .txt g (0 + 173) rfl (fun x W=>call_txt x W) (fun W=>mk_txt g (0 + 173) W) (by kernel_rfl) (by kernel_rfl) rfl rfl
   | 5,ho=>cases ho;exact ow_move 0 (ptr g 0) rfl rfl rfl rfl
   | 6,ho=>cases ho;exact ow_nil 58 5 g 0 rfl (by kernel_rfl) (by kernel_rfl) rfl rfl
   | 7,ho=>cases ho;exact ow_fa 59 6 102 6 g 0 175 rfl (fun W=>fa33_6 _ _ W) (by kernel_rfl) (by kernel_rfl) rfl rfl
   | 8,ho=>cases ho;exact ow_mk 60 7 116 _ .dig g (0 + 175) rfl (fun x W=>call_dig x W) (fun W=>mk_dig g (0 + 175) W) (by kernel_rfl) (by kernel_rfl) rfl rfl
   | 9,ho=>cases ho;exact ow_bs 159 176 3 _ g [(.num,1),(.txt,(0 + 173)),(.dig,(0 + 175))] [(0,53),(4,57),(8,61)] rfl Tryz.underlying159 rfl sizeFld infoFld rfl (by decide) (by decide) rfl rfl (by kernel_rfl) (by intro j hj;match j,hj with | 0,_=>rfl | 1,_=>rfl | 2,_=>rfl) rfl
   | 10,ho=>cases ho;exact ow_assign 62 9 g [(.num,1),(.txt,(0 + 173)),(.dig,(0 + 175))] rfl (by kernel_rfl) (by kernel_rfl) rfl rfl
   | (i + 11),ho=>exact absurd ho (by simp)
  ·intro a w' hB hs hd hk2 hv
   have h2:=hv 10 2 (by kernel_rfl)
   have HB3:=hid (below_two HB2.out hB)
   obtain ⟨tm,df⟩:=a
   obtain rfl:df = []:=hd
   go_wp2
   go_ret
   exact ⟨_,rfl,h2,HB3.out⟩
 ·rcases hk with hk | hk
  ·as_aux_lemma =>
   subst hk
   go_wp2_with fail
   refine wp_region_mid (N:=128) (keep:=[5]) (val:=valOf [vc (ptr g 239),vc (ptr g 239),vc (ptr g (239 + 0)),IsF .num g (239 + 0),vc (ptr g 239),vc (ptr g 239),vc (ptr g (239 + 1)),IsF .num g (239 + 1),vc (ptr g 239),vc (ptr g 239),vc (ptr g (239 + 2)),IsF .txt g (239 + 2),vc (ptr g 239),vc (ptr g 239),vc (ptr g (239 + 3)),IsF .dig g (239 + 3),vF g [(.num,(239 + 0)),(.num,(239 + 1)),(.txt,(239 + 2)),(.dig,(239 + 3))],vF g [(.num,(239 + 0)),(.num,(239 + 1)),(.txt,(239 + 2)),(.dig,(239 + 3))]]) (by kernel_rfl) (by kernel_rfl) rfl (mono_of (by
     intro p hp
     simp only [List.mem_cons,List.not_mem_nil,or_false] at hp
     rcases hp with rfl | rfl | rfl | rfl | rfl | rfl | rfl | rfl | rfl | rfl | rfl | rfl | rfl | rfl | rfl | rfl | rfl | rfl
     all_goals first | exact mono_vc _ | exact mono_isF _ _ _ | exact mono_vF _ _)) ?_ ?_
   ·intro i o ho
    match i,ho with
    | 0,ho=>cases ho;exact ow_move 5 (ptr g 239) rfl rfl rfl rfl
    | 1,ho=>cases ho;exact ow_nil 69 0 g 239 rfl (by kernel_rfl) (by kernel_rfl) rfl rfl
    | 2,ho=>cases ho;exact ow_fa 70 1 100 0 g 239 0 rfl (fun W=>fa30_0 _ _ W) (by kernel_rfl) (by kernel_rfl) rfl rfl
    | 3,ho=>cases ho;exact ow_mk 71 2 114 _ .num g (239 + 0) rfl (fun x W=>call_num x W) (fun W=>mk_num g (239 + 0) W) (by kernel_rfl) (by kernel_rfl) rfl rfl
    | 4,ho=>cases ho;exact ow_move 5 (ptr g 239) rfl rfl rfl rfl
    | 5,ho=>cases ho;exact ow_nil 73 4 g 239 rfl (by kernel_rfl) (by kernel_rfl) rfl rfl
    | 6,ho=>cases ho;exact ow_fa 74 5 100 1 g 239 1 rfl (fun W=>fa30_1 _ _ W) (by kernel_rfl) (by kernel_rfl) rfl rfl
    | 7,ho=>cases ho;exact ow_mk 75 6 114 _ .num g (239 + 1) rfl (fun x W=>call_num x W) (fun W=>mk_num g (239 + 1) W) (by kernel_rfl) (by kernel_rfl) rfl rfl
    | 8,ho=>cases ho;exact ow_move 5 (ptr g 239) rfl rfl rfl rfl
    | 9,ho=>cases ho;exact ow_nil 77 8 g 239 rfl (by kernel_rfl) (by kernel_rfl) rfl rfl
    | 10,ho=>cases ho;exact ow_fa 78 9 100 2 g 239 2 rfl (fun W=>fa30_2 _ _ W) (by kernel_rfl) (by kernel_rfl) rfl rfl
    | 11,ho=>cases ho;exact ow_mk 79 10 115 _ .txt g (239 + 2) rfl (fun x W=>call_txt x W) (fun W=>mk_txt g (239 + 2) W) (by kernel_rfl) (by kernel_rfl) rfl rfl
    | 12,ho=>cases ho;exact ow_move 5 (ptr g 239) rfl rfl rfl rfl
    | 13,ho=>cases ho;exact ow_nil 81 12 g 239 rfl (by kernel_rfl) (by kernel_rfl) rfl rfl
    | 14,ho=>cases ho;exact ow_fa 82 13 100 3 g 239 3 rfl (fun W=>fa30_3 _ _ W) (by kernel_rfl) (by kernel_rfl) rfl rfl
    | 15,ho=>cases ho;exact ow_mk 83 14 116 _ .dig g (239 + 3) rfl (fun x W=>call_dig x W) (fun W=>mk_dig g (239 + 3) W) (by kernel_rfl) (by kernel_rfl) rfl rfl
    | 16,ho=>cases ho;exact ow_bs 159 176 4 _ g [(.num,(239 + 0)),(.num,(239 + 1)),(.txt,(239 + 2)),(.dig,(239 + 3))] [(3,72),(7,76),(11,80),(15,84)] rfl Tryz.underlying159 rfl sizeFld infoFld rfl (by decide) (by decide) rfl rfl (by kernel_rfl) (by intro j hj;match j,hj with | 0,_=>rfl | 1,_=>rfl | 2,_=>rfl | 3,_=>rfl) rfl
    | 17,ho=>cases ho;exact ow_assign 85 16 g [(.num,(239 + 0)),(.num,(239 + 1)),(.txt,(239 + 2)),(.dig,(239 + 3))] rfl (by kernel_rfl) (by kernel_rfl) rfl rfl
    | (i + 18),ho=>exact absurd ho (by simp)
   ·intro a w' hB hs hd hk2 hv
    have h2:=hv 17 2 (by kernel_rfl)
    have HB3:=hid (below_two HB2.out hB)
    obtain ⟨tm,df⟩:=a
    obtain rfl:df = []:=hd
    go_wp2
    go_ret
    exact ⟨_,rfl,h2,HB3.out⟩
  ·as_aux_lemma =>
   subst hk
   go_wp2_with fail
   refine wp_region_mid (N:=128) (keep:=[5]) (val:=valOf [vc (ptr g 239),vc (ptr g 239),vc (ptr g (239 + 0)),IsF .num g (239 + 0),vc (ptr g 239),vc (ptr g 239),vc (ptr g (239 + 1)),IsF .num g (239 + 1),vc (ptr g 239),vc (ptr g 239),vc (ptr g (239 + 2)),IsF .txt g (239 + 2),vc (ptr g 239),vc (ptr g 239),vc (ptr g (239 + 3)),IsF .dig g (239 + 3),vF g [(.num,(239 + 0)),(.num,(239 + 1)),(.txt,(239 + 2)),(.dig,(239 + 3))],vF g [(.num,(239 + 0)),(.num,(239 + 1)),(.txt,(239 + 2)),(.dig,(239 + 3))]]) (by kernel_rfl) (by kernel_rfl) rfl (mono_of (by
     intro p hp
     simp only [List.mem_cons,List.not_mem_nil,or_false] at hp
     rcases hp with rfl | rfl | rfl | rfl | rfl | rfl | rfl | rfl | rfl | rfl | rfl | rfl | rfl | rfl | rfl | rfl | rfl | rfl
     all_goals first | exact mono_vc _ | exact mono_isF _ _ _ | exact mono_vF _ _)) ?_ ?_
   ·intro i o ho
    match i,ho with
    | 0,ho=>cases ho;exact ow_move 5 (ptr g 239) rfl rfl rfl rfl
    | 1,ho=>cases ho;exact ow_nil 69 0 g 239 rfl (by kernel_rfl) (by kernel_rfl) rfl rfl
    | 2,ho=>cases ho;exact ow_fa 70 1 100 0 g 239 0 rfl (fun W=>fa30_0 _ _ W) (by kernel_rfl) (by kernel_rfl) rfl rfl
    | 3,ho=>cases ho;exact ow_mk 71 2 114 _ .num g (239 + 0) rfl (fun x W=>call_num x W) (fun W=>mk_num g (239 + 0) W) (by kernel_rfl) (by kernel_rfl) rfl rfl
    | 4,ho=>cases ho;exact ow_move 5 (ptr g 239) rfl rfl rfl rfl
    | 5,ho=>cases ho;exact ow_nil 73 4 g 239 rfl (by kernel_rfl) (by kernel_rfl) rfl rfl
    | 6,ho=>cases ho;exact ow_fa 74 5 100 1 g 239 1 rfl (fun W=>fa30_1 _ _ W) (by kernel_rfl) (by kernel_rfl) rfl rfl
    | 7,ho=>cases ho;exact ow_mk 75 6 114 _ .num g (239 + 1) rfl (fun x W=>call_num x W) (fun W=>mk_num g (239 + 1) W) (by kernel_rfl) (by kernel_rfl) rfl rfl
    | 8,ho=>cases ho;exact ow_move 5 (ptr g 239) rfl rfl rfl rfl
    | 9,ho=>cases ho;exact ow_nil 77 8 g 239 rfl (by kernel_rfl) (by kernel_rfl) rfl rfl
    | 10,ho=>cases ho;exact ow_fa 78 9 100 2 g 239 2 rfl (fun W=>fa30_2 _ _ W) (by kernel_rfl) (by kernel_rfl) rfl rfl
    | 11,ho=>cases ho;exact ow_mk 79 10 115 _ .txt g (239 + 2) rfl (fun x W=>call_txt x W) (fun W=>mk_txt g (239 + 2) W) (by kernel_rfl) (by kernel_rfl) rfl rfl
    | 12,ho=>cases ho;exact ow_move 5 (ptr g 239) rfl rfl rfl rfl
    | 13,ho=>cases ho;exact ow_nil 81 12 g 239 rfl (by kernel_rfl) (by kernel_rfl) rfl rfl
    | 14,ho=>cases ho;exact ow_fa 82 13 100 3 g 239 3 rfl (fun W=>fa30_3 _ _ W) (by kernel_rfl) (by kernel_rfl) rfl rfl
    | 15,ho=>cases ho;exact ow_mk 83 14 116 _ .dig g (239 + 3) rfl (fun x W=>call_dig x W) (fun W=>mk_dig g (239 + 3) W) (by kernel_rfl) (by kernel_rfl) rfl rfl
    | 16,ho=>cases ho;exact ow_bs 159 176 4 _ g [(.num,(239 + 0)),(.num,(239 + 1)),(.txt,(239 + 2)),(.dig,(239 + 3))] [(3,72),(7,76),(11,80),(15,84)] rfl Tryz.underlying159 rfl sizeFld infoFld rfl (by decide) (by decide) rfl rfl (by kernel_rfl) (by intro j hj;match j,hj with | 0,_=>rfl | 1,_=>rfl | 2,_=>rfl | 3,_=>rfl) rfl
    | 17,ho=>cases ho;exact ow_assign 85 16 g [(.num,(239 + 0)),(.num,(239 + 1)),(.txt,(239 + 2)),(.dig,(239 + 3))] rfl (by kernel_rfl) (by kernel_rfl) rfl rfl
    | (i + 18),ho=>exact absurd ho (by simp)
   ·intro a w' hB hs hd hk2 hv
    have h2:=hv 17 2 (by kernel_rfl)
    have HB3:=hid (below_two HB2.out hB)
    obtain ⟨tm,df⟩:=a
    obtain rfl:df = []:=hd
    go_wp2
    go_ret
    exact ⟨_,rfl,h2,HB3.out⟩
 ·rcases hk with hk | hk | hk
  ·as_aux_lemma =>
   subst hk
   go_wp2_with fail
   refine wp_region_mid (N:=128) (keep:=[0,3]) (val:=valOf [IsF .num g 1,vc (ptr g 0),vc (ptr g 0),vc (ptr g (0 + 274)),IsF .nums g (0 + 274),vF g [(.num,1),(.nums,(0 + 274))],vF g [(.num,1),(.nums,(0 + 274))]]) (by kernel_rfl) (by kernel_rfl) rfl (mono_of (by
     intro p hp
     simp only [List.mem_cons,List.not_mem_nil,or_false] at hp
     rcases hp with rfl | rfl | rfl | rfl | rfl | rfl | rfl
     all_goals first | exact mono_vc _ | exact mono_isF _ _ _ | exact mono_vF _ _)) ?_ ?_
   ·intro i o ho
    match i,ho with
    | 0,ho=>cases ho;exact ow_ld 3 c .num g 1 cb rfl rfl rfl HCr.out HCf.out _ Tryz.underlying176 rfl sizeFld rfl
    | 1,ho=>cases ho;exact ow_move 0 (ptr g 0) rfl rfl rfl rfl
    | 2,ho=>cases ho;exact ow_nil 91 1 g 0 rfl (by kernel_rfl) (by kernel_rfl) rfl rfl
    | 3,ho=>cases ho;exact ow_fa 92 2 102 9 g 0 274 rfl (fun W=>fa33_9 _ _ W) (by kernel_rfl) (by kernel_rfl) rfl rfl
    | 4,ho=>cases ho;exact ow_mk 93 3 118 _ .nums g (0 + 274) rfl (fun x W=>call_nums x W) (fun W=>mk_nums g (0 + 274) W) (by kernel_rfl) (by kernel_rfl) rfl rfl
    | 5,ho=>cases ho;exact ow_bs 159 176 2 _ g [(.num,1),(.nums,(0 + 274))] [(0,90),(4,94)] rfl Tryz.underlying159 rfl sizeFld infoFld rfl (by decide) (by decide) rfl rfl (by kernel_rfl) (by intro j hj;match j,hj with | 0,_=>rfl | 1,_=>rfl) rfl
    | 6,ho=>cases ho;exact ow_assign 95 5 g [(.num,1),(.nums,(0 + 274))] rfl (by kernel_rfl) (by kernel_rfl) rfl rfl
    | (i + 7),ho=>exact absurd ho (by simp)
   ·intro a w' hB hs hd hk2 hv
    have h2:=hv 6 2 (by kernel_rfl)
    have HB3:=hid (below_two HB2.out hB)
    obtain ⟨tm,df⟩:=a
    obtain rfl:df = []:=hd
    go_wp2
    go_ret
    exact ⟨_,rfl,h2,HB3.out⟩
  ·as_aux_lemma =>
   subst hk
   go_wp2_with fail
   refine wp_region_mid (N:=128) (keep:=[0,3]) (val:=valOf [IsF .num g 1,vc (ptr g 0),vc (ptr g 0),vc (ptr g (0 + 274)),IsF .nums g (0 + 274),vF g [(.num,1),(.nums,(0 + 274))],vF g [(.num,1),(.nums,(0 + 274))]]) (by kernel_rfl) (by kernel_rfl) rfl (mono_of (by
     intro p hp
     simp only [List.mem_cons,List.not_mem_nil,or_false] at hp
     rcases hp with rfl | rfl | rfl | rfl | rfl | rfl | rfl
     all_goals first | exact mono_vc _ | exact mono_isF _ _ _ | exact mono_vF _ _)) ?_ ?_
   ·intro i o ho
    match i,ho with
    | 0,ho=>cases ho;exact ow_ld 3 c .num g 1 cb rfl rfl rfl HCr.out HCf.out _ Tryz.underlying176 rfl sizeFld rfl
    | 1,ho=>cases ho;exact ow_move 0 (ptr g 0) rfl rfl rfl rfl
    | 2,ho=>cases ho;exact ow_nil 91 1 g 0 rfl (by kernel_rfl) (by kernel_rfl) rfl rfl
    | 3,ho=>cases ho;exact ow_fa 92 2 102 9 g 0 274 rfl (fun W=>fa33_9 _ _ W) (by kernel_rfl) (by kernel_rfl) rfl rfl
    | 4,ho=>cases ho;exact ow_mk 93 3 118 _ .nums g (0 + 274) rfl (fun x W=>call_nums x W) (fun W=>mk_nums g (0 + 274) W) (by kernel_rfl) (by kernel_rfl) rfl rfl
    | 5,ho=>cases ho;exact ow_bs 159 176 2 _ g [(.num,1),(.nums,(0 + 274))] [(0,90),(4,94)] rfl Tryz.underlying159 rfl sizeFld infoFld rfl (by decide) (by decide) rfl rfl (by kernel_rfl) (by intro j hj;match j,hj with | 0,_=>rfl | 1,_=>rfl) rfl
    | 6,ho=>cases ho;exact ow_assign 95 5 g [(.num,1),(.nums,(0 + 274))] rfl (by kernel_rfl) (by kernel_rfl) rfl rfl
    | (i + 7),ho=>exact absurd ho (by simp)
   ·intro a w' hB hs hd hk2 hv
    have h2:=hv 6 2 (by kernel_rfl)
    have HB3:=hid (below_two HB2.out hB)
    obtain ⟨tm,df⟩:=a
    obtain rfl:df = []:=hd
    go_wp2
    go_ret
    exact ⟨_,rfl,h2,HB3.out⟩
  ·as_aux_lemma =>
   subst hk
   go_wp2_with fail
   refine wp_region_mid (N:=128) (keep:=[0,3]) (val:=valOf [IsF .num g 1,vc (ptr g 0),vc (ptr g 0),vc (ptr g (0 + 274)),IsF .nums g (0 + 274),vF g [(.num,1),(.nums,(0 + 274))],vF g [(.num,1),(.nums,(0 + 274))]]) (by kernel_rfl) (by kernel_rfl) rfl (mono_of (by
     intro p hp
     simp only [List.mem_cons,List.not_mem_nil,or_false] at hp
     rcases hp with rfl | rfl | rfl | rfl | rfl | rfl | rfl
     all_goals first | exact mono_vc _ | exact mono_isF _ _ _ | exact mono_vF _ _)) ?_ ?_
   ·intro i o ho
    match i,ho with
    | 0,ho=>cases ho;exact ow_ld 3 c .num g 1 cb rfl rfl rfl HCr.out HCf.out _ Tryz.underlying176 rfl sizeFld rfl
    | 1,ho=>cases ho;exact ow_move 0 (ptr g 0) rfl rfl rfl rfl
    | 2,ho=>cases ho;exact ow_nil 91 1 g 0 rfl (by kernel_rfl) (by kernel_rfl) rfl rfl
    | 3,ho=>cases ho;exact ow_fa 92 2 102 9 g 0 274 rfl (fun W=>fa33_9 _ _ W) (by kernel_rfl) (by kernel_rfl) rfl rfl
    | 4,ho=>cases ho;exact ow_mk 93 3 118 _ .nums g (0 + 274) rfl (fun x W=>call_nums x W) (fun W=>mk_nums g (0 + 274) W) (by kernel_rfl) (by kernel_rfl) rfl rfl
    | 5,ho=>cases ho;exact ow_bs 159 176 2 _ g [(.num,1),(.nums,(0 + 274))] [(0,90),(4,94)] rfl Tryz.underlying159 rfl sizeFld infoFld rfl (by decide) (by decide) rfl rfl (by kernel_rfl) (by intro j hj;match j,hj with | 0,_=>rfl | 1,_=>rfl) rfl
    | 6,ho=>cases ho;exact ow_assign 95 5 g [(.num,1),(.nums,(0 + 274))] rfl (by kernel_rfl) (by kernel_rfl) rfl rfl
    | (i + 7),ho=>exact absurd ho (by simp)
   ·intro a w' hB hs hd hk2 hv
    have h2:=hv 6 2 (by kernel_rfl)
    have HB3:=hid (below_two HB2.out hB)
    obtain ⟨tm,df⟩:=a
    obtain rfl:df = []:=hd
    go_wp2
    go_ret
    exact ⟨_,rfl,h2,HB3.out⟩
 ·as_aux_lemma =>
  subst hk
  obtain ⟨V,hV⟩:∃ V,V=fieldV .num cb:=⟨_,rfl⟩
  have hI:(Tryz.prog.info? 176).map (·.size)=some V.length:=by rw [hV];exact sizeFld
  have hL:V.length=3:=by rw [hV];rfl
  have S0:Hid (∀ j v,V[j]? = some v→W2.cell? ⟨c,0 + j,none⟩=some v):=by rw [hV];exact row_seg (off:=0) (A:=[]) (C:=[]) HCr.out (by simp) rfl
  have HFin:Hid (FieldsAt (W2.alloc (.cells V.toArray 176)) (.slice (some ⟨W2.heap.size,0,none⟩) 1 1) g (spots 0 proFs)∧Below w.heap.size w (W2.alloc (.cells V.toArray 176))):=by
   refine ⟨⟨_,[cb],rfl,rfl,fun _=>⟨_,rfl,?_⟩,fun j hj=>?_⟩,below_two HB2.out (below_a1 _ _)⟩
   ·rw [top_obj,hV];rfl
   ·have:j=0:=by have:j < 1:=hj;omega
    subst this
    exact HCf.out.stays (below_a1 _ _)
  clear hV HCr HCf
  go_wp2_with (first | ((with_reducible refine wl_load 176 (.tmp 3) ?_ c 0 ?_ ?_ V _ S0.out Tryz.underlying176 ?_ hI ?_);iterate 4 exact rfl) | ((with_reducible refine wl_bs1 ?_ (.tmp 98) ?_ V hL ?_ ?_);exact rfl;exact rfl;exact rfl))
  go_ret
  exact ⟨_,rfl,HFin.out.1,HFin.out.2⟩
 ·as_aux_lemma =>
  subst hk
  go_wp2_with fail
  refine wp_region_mid (N:=128) (keep:=[0,3]) (val:=valOf [IsF .num g 1,vc (ptr g 0),vc (ptr g 0),vc (ptr g (0 + 174)),IsF .num g (0 + 174),vc (ptr g 0),vc (ptr g 0),vc (ptr g (0 + 173)),IsF .txt g (0 + 173),vc (ptr g 0),vc (ptr g 0),vc (ptr g (0 + 175)),IsF .dig g (0 + 175),vc (ptr g 0),vc (ptr g 0),vc (ptr g (0 + 207)),IsF .dig g (0 + 207),vF g [(.num,1),(.num,(0 + 174)),(.txt,(0 + 173)),(.dig,(0 + 175)),(.dig,(0 + 207))],vF g [(.num,1),(.num,(0 + 174)),(.txt,(0 + 173)),(.dig,(0 + 175)),(.dig,(0 + 207))]]) (by kernel_rfl) (by kernel_rfl) rfl (mono_of (by
    intro p hp
    simp only [List.mem_cons,List.not_mem_nil,or_false] at hp
    rcases hp with rfl | rfl | rfl | rfl | rfl | rfl | rfl | rfl | rfl | rfl | rfl | rfl | rfl | rfl | rfl | rfl | rfl | rfl | rfl
    all_goals first | exact mono_vc _ | exact mono_isF _ _ _ | exact mono_vF _ _)) ?_ ?_
  ·intro i o ho
   match i,ho with
   | 0,ho=>cases ho;exact ow_ld 3 c .num g 1 cb rfl rfl rfl HCr.out HCf.out _ Tryz.underlying176 rfl sizeFld rfl
   | 1,ho=>cases ho;exact ow_move 0 (ptr g 0) rfl rfl rfl rfl
   | 2,ho=>cases ho;exact ow_nil 103 1 g 0 rfl (by kernel_rfl) (by kernel_rfl) rfl rfl
   | 3,ho=>cases ho;exact ow_fa 104 2 102 5 g 0 174 rfl (fun W=>fa33_5 _ _ W) (by kernel_rfl) (by kernel_rfl) rfl rfl
   | 4,ho=>cases ho;exact ow_mk 105 3 114 _ .num g (0 + 174) rfl (fun x W=>call_num x W) (fun W=>mk_num g (0 + 174) W) (by kernel_rfl) (by kernel_rfl) rfl rfl
   | 5,ho=>cases ho;exact ow_move 0 (ptr g 0) rfl rfl rfl rfl
   | 6,ho=>cases ho;exact ow_nil 107 5 g 0 rfl (by kernel_rfl) (by kernel_rfl) rfl rfl
   | 7,ho=>cases ho;exact ow_fa 108 6 102 4 g 0 173 rfl (fun W=>fa33_4 _ _ W) (by kernel_rfl) (by kernel_rfl) rfl rfl
   | 8,ho=>cases ho;exact ow_mk 109 7 115 _ .txt g (0 + 173) rfl (fun x W=>call_txt x W) (fun W=>mk_txt g (0 + 173) W) (by kernel_rfl) (by kernel_rfl) rfl rfl
   | 9,ho=>cases ho;exact ow_move 0 (ptr g 0) rfl rfl rfl rfl
   | 10,ho=>cases ho;exact ow_nil 111 9 g 0 rfl (by kernel_rfl) (by kernel_rfl) rfl rfl
   | 11,ho=>cases ho;exact ow_fa 112 10 102 6 g 0 175 rfl (fun W=>fa33_6 _ _ W) (by kernel_rfl) (by kernel_rfl) rfl rfl
   | 12,ho=>cases ho;exact ow_mk 113 11 116 _ .dig g (0 + 175) rfl (fun x W=>call_dig x W) (fun W=>mk_dig g (0 + 175) W) (by kernel_rfl) (by kernel_rfl) rfl rfl
   | 13,ho=>cases ho;exact ow_move 0 (ptr g 0) rfl rfl rfl rfl
   | 14,ho=>cases ho;exact ow_nil 115 13 g 0 rfl (by kernel_rfl) (by kernel_rfl) rfl rfl
   | 15,ho=>cases ho;exact ow_fa 116 14 102 7 g 0 207 rfl (fun W=>fa33_7 _ _ W) (by kernel_rfl) (by kernel_rfl) rfl rfl
   | 16,ho=>cases ho;exact ow_mk 117 15 116 _ .dig g (0 + 207) rfl (fun x W=>call_dig x W) (fun W=>mk_dig g (0 + 207) W) (by kernel_rfl) (by kernel_rfl) rfl rfl
   | 17,ho=>cases ho;exact ow_bs 159 176 5 _ g [(.num,1),(.num,(0 + 174)),(.txt,(0 + 173)),(.dig,(0 + 175)),(.dig,(0 + 207))] [(0,102),(4,106),(8,110),(12,114),(16,118)] rfl Tryz.underlying159 rfl sizeFld infoFld rfl (by decide) (by decide) rfl rfl (by kernel_rfl) (by intro j hj;match j,hj with | 0,_=>rfl | 1,_=>rfl | 2,_=>rfl | 3,_=>rfl | 4,_=>rfl) rfl
   | 18,ho=>cases ho;exact ow_assign 119 17 g [(.num,1),(.num,(0 + 174)),(.txt,(0 + 173)),(.dig,(0 + 175)),(.dig,(0 + 207))] rfl (by kernel_rfl) (by kernel_rfl) rfl rfl
   | (i + 19),ho=>exact absurd ho (by simp)
  ·intro a w' hB hs hd hk2 hv
   have h2:=hv 18 2 (by kernel_rfl)
   have HB3:=hid (below_two HB2.out hB)
   obtain ⟨tm,df⟩:=a
   obtain rfl:df = []:=hd
   go_wp2
   go_ret
   exact ⟨_,rfl,h2,HB3.out⟩
 ·as_aux_lemma =>
  subst hk
  go_wp2_with fail
  refine wp_region_mid (N:=128) (keep:=[0,3]) (val:=valOf [IsF .num g 1,vc (ptr g 0),vc (ptr g 0),vc (ptr g (0 + 207)),IsF .dig g (0 + 207),vF g [(.num,1),(.dig,(0 + 207))],vF g [(.num,1),(.dig,(0 + 207))]]) (by kernel_rfl) (by kernel_rfl) rfl (mono_of (by
    intro p hp
    simp only [List.mem_cons,List.not_mem_nil,or_false] at hp
    rcases hp with rfl | rfl | rfl | rfl | rfl | rfl | rfl
    all_goals first | exact mono_vc _ | exact mono_isF _ _ _ | exact mono_vF _ _)) ?_ ?_
  ·intro i o ho
   match i,ho with
   | 0,ho=>cases ho;exact ow_ld 3 c .num g 1 cb rfl rfl rfl HCr.out HCf.out _ Tryz.underlying176 rfl sizeFld rfl
   | 1,ho=>cases ho;exact ow_move 0 (ptr g 0) rfl rfl rfl rfl
   | 2,ho=>cases ho;exact ow_nil 123 1 g 0 rfl (by kernel_rfl) (by kernel_rfl) rfl rfl
   | 3,ho=>cases ho;exact ow_fa 124 2 102 7 g 0 207 rfl (fun W=>fa33_7 _ _ W) (by kernel_rfl) (by kernel_rfl) rfl rfl
   | 4,ho=>cases ho;exact ow_mk 125 3 116 _ .dig g (0 + 207) rfl (fun x W=>call_dig x W) (fun W=>mk_dig g (0 + 207) W) (by kernel_rfl) (by kernel_rfl) rfl rfl
   | 5,ho=>cases ho;exact ow_bs 159 176 2 _ g [(.num,1),(.dig,(0 + 207))] [(0,122),(4,126)] rfl Tryz.underlying159 rfl sizeFld infoFld rfl (by decide) (by decide) rfl rfl (by kernel_rfl) (by intro j hj;match j,hj with | 0,_=>rfl | 1,_=>rfl) rfl
   | 6,ho=>cases ho;exact ow_assign 127 5 g [(.num,1),(.dig,(0 + 207))] rfl (by kernel_rfl) (by kernel_rfl) rfl rfl
   | (i + 7),ho=>exact absurd ho (by simp)
  ·intro a w' hB hs hd hk2 hv
   have h2:=hv 6 2 (by kernel_rfl)
   have HB3:=hid (below_two HB2.out hB)
   obtain ⟨tm,df⟩:=a
   obtain rfl:df = []:=hd
   go_wp2
   go_ret
   exact ⟨_,rfl,h2,HB3.out⟩
 ·as_aux_lemma =>
  have d1:(kind == 1)=false:=by simp;omega
  have d2:(kind == 2)=false:=by simp;omega
  have d3:(kind == 3)=false:=by simp;omega
  have d4:(kind == 4)=false:=by simp;omega
  have d5:(kind == 5)=false:=by simp;omega
  have d6:(kind == 6)=false:=by simp;omega
  have d7:(kind == 7)=false:=by simp;omega
  have d8:(kind == 8)=false:=by simp;omega
  have d9:(kind == 9)=false:=by simp;omega
  have d10:(kind == 10)=false:=by simp;omega
  have d11:(kind == 11)=false:=by simp;omega
  have HE:=hid e
  clear hk e
  go_wp2
  go_ret
  exact ⟨_,rfl,by rw [HE.out];exact fnil _ _,HB2.out⟩
open Go Go.RowKit
set_option maxRecDepth 100000
theorem eqInts_any {w:World} {u v:Value} {xs ys:List Int} (hu:IntsAt w u xs) (hv:IntsAt w v ys) (hx:xs.length ≤ 9223372036854775807) :
  Calls Tryz.prog 160 #[u,v] w fun e w'=>e = .returned (.bool (xs == ys))∧Below w.heap.size w w':=by
 obtain ⟨a,c1,rfl,ha⟩:=hu
 obtain ⟨b,c2,rfl,hb⟩:=hv
 have HB0:=hid (Below.refl w.heap.size w)
 by_cases hl:xs.length=ys.length
 ·have HE:=hid (list_eq_of (0:Int) xs ys hl)
  have HN:=hid (fun j=>list_ne_at (0:Int) xs ys j)
  have HA:=hid ha
  have HBb:=hid hb
  have dl:((xs.length:Int) != (ys.length:Int))=false:=by simp;omega
  have dl':(xs.length != ys.length)=false:=by simp;omega
  have HL:=hid hl
  clear ha hb hl
  go_enter Tryz.func160,Tryz.ntmps160
  go_wp2
  go_loopw [13] (fun i w'=>∃ j:Nat,j ≤ xs.length∧i = .int .i64 j∧Hid (∀ k,k < j→xs.getD k 0=ys.getD k 0)∧Hid (Below w.heap.size w w')) (fun i _=>xs.length - (intOf i).toNat)
  case atStart=>exact ⟨0,by omega,rfl,fun k hk=>absurd hk (Nat.not_lt_zero k),HB0.out⟩
  case round =>
   obtain ⟨j,hj,rfl,HQ,HB⟩:=hrel
   by_cases hlt:j < xs.length
   ·have d1:decide ((j:Int) < (xs.length:Int))=true:=decide_eq_true (by omega)
    have d1':decide (j < xs.length)=true:=decide_eq_true hlt
    have hly:j < ys.length:=by have:=HL.out;omega
    obtain ⟨ba,oa,rfl,hca⟩:=HA.out (fun e=>by rw [e] at hlt;exact absurd hlt (Nat.not_lt_zero j))
    obtain ⟨bb,ob,rfl,hcb⟩:=HBb.out (fun e=>by rw [e] at hly;exact absurd hly (Nat.not_lt_zero j))
    have ca:wr.cell? ⟨ba,oa + j,none⟩=some (.int .i64 (xs.getD j 0)):=(HB.out.cell (p:=⟨ba,oa + j,none⟩) (World.block_lt_of_cell? w _ (hca j hlt))).trans (hca j hlt)
    have cb':wr.cell? ⟨bb,ob + j,none⟩=some (.int .i64 (ys.getD j 0)):=(HB.out.cell (p:=⟨bb,ob + j,none⟩) (World.block_lt_of_cell? w _ (hcb j hly))).trans (hcb j hly)
    by_cases he:xs.getD j 0=ys.getD j 0
    ·have HQ':Hid (∀ k,k < j + 1→xs.getD k 0=ys.getD k 0):=fun k hk=>by
      by_cases e:k=j
      ·rw [e];exact he
      ·exact HQ.out k (by omega)
     rw [← he] at cb'
     generalize xs.getD j 0=x at *
     clear he hca hcb HQ HE HN HA HBb
     have HBd:=hid HB.out.drew
     go_wp2
     go_region
     all_goals (go_wp2;exact ⟨⟨j + 1,by omega,by go_num,HQ'.out,HBd.out⟩,by simp [intOf];omega⟩)
    ·have HP:=hid (HN.out j he)
     generalize xs.getD j 0=x at *
     generalize ys.getD j 0=y at *
     have dx:(x != y)=true:=by simpa using he
     clear he hca hcb HQ HE HN HA HBb
     have HBd:=hid HB.out.drew
     go_wp2
     go_region
     all_goals (go_wp2;go_ret;exact ⟨by rw [HP.out];rfl,HBd.out⟩)
   ·obtain rfl:j=xs.length:=by omega
    have HP:Hid ((xs == ys)=true):=by show _=_;rw [HE.out HQ.out];simp
    clear HE HQ HN HA HBb
    go_wp2
    go_ret
    exact ⟨by rw [HP.out];rfl,HB.out⟩
 ·rw [list_ne_len xs ys hl]
  have dl:((xs.length:Int) != (ys.length:Int))=true:=by simp;omega
  have dl':(xs.length != ys.length)=true:=by simp;omega
  clear ha hb hl
  go_enter Tryz.func160,Tryz.ntmps160
  go_wp2
  go_ret
  exact ⟨rfl,HB0.out⟩
theorem eqPens_any {w:World} {u v:Value} {xs ys:List Pen} (wx:∀ p ∈ xs,p.Wf) (wy:∀ p ∈ ys,p.Wf) (hu:PensAt w u xs) (hv:PensAt w v ys) (hx:xs.length ≤ 9223372036854775807) :
  Calls Tryz.prog 189 #[u,v] w fun e w'=>e = .returned (.bool (sameL sameP xs ys))∧Below w.heap.size w w':=by
 have HP:=hid hu
 have HQ:=hid hv
 obtain ⟨a,c1,rfl,-⟩:=hu
 obtain ⟨b,c2,rfl,-⟩:=hv
 have HB0:=hid (Below.refl w.heap.size w)
 by_cases hl:xs.length=ys.length
 ·have HX:=hid wx
  have HY:=hid wy
  have dl:((xs.length:Int) != (ys.length:Int))=false:=by simp;omega
  have dl':(xs.length != ys.length)=false:=by simp;omega
  have HL:=hid hl
  clear wx wy hl
  go_enter Tryz.func189,Tryz.ntmps189
  go_wp2
  go_loopw [13] (fun i w'=>∃ j:Nat,j ≤ xs.length∧i = .int .i64 j∧Hid (∀ k,k < j→sameP (xs.getD k noPen) (ys.getD k noPen)=true)∧Hid (Below w.heap.size w w')) (fun i _=>xs.length - (intOf i).toNat)
  case atStart=>exact ⟨0,by omega,rfl,fun k hk=>absurd hk (Nat.not_lt_zero k),HB0.out⟩
  case round =>
   obtain ⟨k,hk,rfl,HN,HB⟩:=hrel
   clear dl dl'
   by_cases hlt:k < xs.length
   ·as_aux_lemma =>
    have hlb:k < ys.length:=by have:=HL.out;omega
    have d1:decide ((k:Int) < (xs.length:Int))=true:=decide_eq_true (by omega)
    have d1':decide (k < xs.length)=true:=decide_eq_true hlt
    obtain ⟨pa',cp',e',hpc⟩:=HP.out.kept HB.out
    cases e'
    obtain ⟨qa',cq',e',hqc⟩:=HQ.out.kept HB.out
    cases e'
    obtain ⟨ba,oa,rfl,hca⟩:=hpc (fun e=>by rw [e] at hlt;exact absurd hlt (Nat.not_lt_zero k))
    obtain ⟨bb,ob,rfl,hcb⟩:=hqc (fun e=>by rw [e] at hlb;exact absurd hlb (Nat.not_lt_zero k))
    have wa:=getD_wf HX.out k hlt
    have wb:=getD_wf HY.out k hlb
    have EP:=fun W=>equal_pen W _ _ wa wb
    have ZA:(Tryz.prog.info? 25).map (·.size)=some (penC (xs.getD k noPen)).length:=by rw [penC_len wa];exact sizePen
    have ZB:(Tryz.prog.info? 25).map (·.size)=some (penC (ys.getD k noPen)).length:=by rw [penC_len wb];exact sizePen
    have SA:=hid (fun w' (hw:∃ p:Regrown,w' = Sort.grow (redrawn wr p.d) p.os)=>(by obtain ⟨p,rfl⟩:=hw;exact fun i c hi=>cell_regrown (hca k hlt i c hi) _ _:∀ i c,(penC (xs.getD k noPen))[i]? = some c→w'.cell? ⟨ba,oa + k * 68 + i,none⟩=some c))
    have SB:=hid (fun w' (hw:∃ p:Regrown,w' = Sort.grow (redrawn wr p.d) p.os)=>(by obtain ⟨p,rfl⟩:=hw;exact fun i c hi=>cell_regrown (hcb k hlb i c hi) _ _:∀ i c,(penC (ys.getD k noPen))[i]? = some c→w'.cell? ⟨bb,ob + k * 68 + i,none⟩=some c))
    have HM:Hid (sameP (xs.getD k noPen) (ys.getD k noPen)=true→∀ j,j < k + 1→sameP (xs.getD j noPen) (ys.getD j noPen)=true):=fun h j hj=>by
     by_cases e:j=k
     ·rw [e];exact h
     ·exact HN.out j (by omega)
    have HF:Hid (sameP (xs.getD k noPen) (ys.getD k noPen)=false→sameL sameP xs ys=false):=fun h=>sameL_at sameP sameP_iff noPen _ _ k h
    have HBg:=hid (fun dq osq=>HB.out.trans ((below_regrown wr dq osq).mono HB.out.size))
    clear hpc hqc hca hcb wa wb HN HX HY
    generalize sameP (xs.getD k noPen) (ys.getD k noPen)=r at *
    generalize penC (xs.getD k noPen)=PA at *
    generalize penC (ys.getD k noPen)=PB at *
    go_wp2_with fail
    refine wp_region_quiet_below (by kernel_rfl) (by kernel_rfl) ?_
    iterate 3 (first | go_big_quiet_step (fail) | quiet_step (fail))
    refine wq_load 25 (.tmp 18) rfl ba (oa + k * 68) rfl rfl PA _ (fun w' hw'=>SA.out w' hw') Tryz.underlying25 rfl ZA ?_
    simp only [Act.put,List.setIfInBounds_toArray,List.set_cons_zero,List.set_cons_succ]
    iterate 3 (first | go_big_quiet_step (fail) | quiet_step (fail))
    refine wq_load 25 (.tmp 22) rfl bb (ob + k * 68) rfl rfl PB _ (fun w' hw'=>SB.out w' hw') Tryz.underlying25 rfl ZB ?_
    simp only [Act.put,List.setIfInBounds_toArray,List.set_cons_zero,List.set_cons_succ]
    refine wq_neq rfl 25 25 (.tmp 19) (.tmp 23) rfl PA.toArray PB.toArray rfl rfl guardPen r EP ?_
    simp only [Act.put,List.setIfInBounds_toArray,List.set_cons_zero,List.set_cons_succ]
    refine wpQuiet_nil ?_
    intro _ hw'
    obtain ⟨⟨dq,osq⟩,hw''⟩:=hw'
    subst hw''
    have HBq:=hid (HBg.out dq osq)
    generalize Sort.grow (redrawn wr dq) osq=w5 at *
    clear SA SB EP ZA ZB HBg
    cases hr:r with
    | true =>
     have HM':=hid (HM.out hr)
     subst hr
     clear HM HF
     go_wp2
     exact ⟨⟨k + 1,by omega,by go_num,HM'.out,HBq.out⟩,by simp [intOf];omega⟩
    | false =>
     have HF':=hid (HF.out hr)
     subst hr
     clear HM HF
     go_wp2
     go_ret
     exact ⟨by rw [HF'.out];rfl,HBq.out⟩
   ·as_aux_lemma =>
    have e:k=xs.length:=by omega
    subst e
    have dk:decide ((xs.length:Int) < (xs.length:Int))=false:=decide_eq_false (by omega)
    have HPL:Hid (sameL sameP xs ys=true):=(sameL_iff sameP sameP_iff _ _).2 (list_eq_of noPen _ _ HL.out (fun j hj=>(sameP_iff _ _).1 (HN.out j hj)))
    clear HN HX HY
    go_wp2
    go_ret
    exact ⟨by rw [HPL.out];rfl,HB.out⟩
 ·rw [sameL_len sameP sameP_iff xs ys hl]
  have dl:((xs.length:Int) != (ys.length:Int))=true:=by simp;omega
  have dl':(xs.length != ys.length)=true:=by simp;omega
  clear hl wx wy
  go_enter Tryz.func189,Tryz.ntmps189
  go_wp2
  go_ret
  exact ⟨rfl,HB0.out⟩
end Go.Proofs.YthkkjjlpahdagaaGreatDoor.Ms
