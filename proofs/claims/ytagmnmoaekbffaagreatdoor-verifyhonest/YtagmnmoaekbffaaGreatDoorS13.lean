/- S13 -/
import Derived.Test.YtagmnmoaekbffaaGreatDoorTjfs
import Derived.Test.YtagmnmoaekbffaaGreatDoorThsr
import Derived.Test.YtagmnmoaekbffaaGreatDoorTjas
set_option maxHeartbeats 8000000
namespace Go.Proofs.YtagmnmoaekbffaaGreatDoor.Ms
open Go.Proofs.Tryz
open Go Go.RowKit
set_option maxRecDepth 100000
theorem fnil (w:World) (g:Nat):b0n w (.slice none 0 0) g []:=⟨none,[],rfl,rfl,fun h=>absurd rfl h,fun j hj=>absurd hj (Nat.not_lt_zero j)⟩
theorem v0S {ops:Array Oper} {rest:List Oper} {o:Oper} {a:Act} {w:World} {Q:Exit->Act->World->Prop} (hg:o.guard=none) (x:Operand) (ho:o.op = .buildSlice 154 1 #[(0,x)]) (V:List Value) (hV:V.length=3) (hx:a.eval x = .agg V.toArray)
  (h:wpList prog ops Q rest (a.put o.dst (.slice (some ⟨w.heap.size,0,none⟩) 1 1)) (w.alloc (.cells V.toArray 178))):wpList prog ops Q (o :: rest) a w:=by
 have hs:=sizeFld;have hz:=infoFld
 cases hie:prog.info? 178 with
 | none=>simp [hie] at hs
 | some ie =>
  simp only [hie,Option.map_some,Option.some.injEq,Option.bind_some] at hs hz
  cases hzz:ie.zero with
  | none=>rw [hzz] at hz;cases hz
  | some z =>
   rw [hzz] at hz;have hz3:z.cells.size=3:=by simpa using hz
   have hfill:=Great.fill_whole (s:=3) (by omega) [Value.agg V.toArray] ((Array.range (1 * 3)).map (z.cells[· % z.cells.size]!)) (by intro v hv;simp at hv;subst hv;simpa [Value.cells] using hV) (by simp);have e1:(([Value.agg V.toArray].zipIdx 0).map fun x=>(x.2,x.1))=(#[(0,x)].map fun (i,x)=>(i,a.eval x)).toList:=by simp [hx]
   have e2:([Value.agg V.toArray].flatMap fun v=>v.cells.toList).toArray=V.toArray:=by simp [Value.cells]
   rw [e1,e2] at hfill;exact wpList_buildSlice hg 154 178 1 _ ho V.toArray ie z underlying154 hie hzz (by rw [hs];omega) (by rw [hs];omega) (by rw [hs];exact hfill) h
theorem k0X (g:Nat) (kind:Int) (w:World) (hk:w.cell? ⟨g,0,none⟩=some (nu kind)):Calls prog 95 #[ptr g 0] w fun e w'=>∃ v,e = .returned v/\b0n w' v g (h0C 0 (a0T kind))/\Below w.heap.size w w':=by
 have HM:=hid (d0p g 1 w);go_enter func95,ntmps95
 go_wp2_with fail
 refine HM.out.mono ?_;rintro e w1 ⟨cb,rfl,hF,hb⟩;have HB2:=hid (a0b hb (a0c w1 (.cells (a0o .num cb).toArray 178)));have HCr:=hid (a0f w1 (.cells (a0o .num cb).toArray 178));have HCf:=hid (hF.stays (a0c w1 (.cells (a0o .num cb).toArray 178)));have HO:=hid (e0I .num cb);have hL:([.nilFunc,.nilFunc,.nilFunc]:List Value).length=(a0o .num cb).length:=rfl;have hI:(prog.info? 178).map (·.size)=some (a0o .num cb).length:=sizeFld;have k0:(w1.alloc (.cells (a0o .num cb).toArray 178)).cell? ⟨g,0,none⟩=some (nu kind):=(HB2.out.cell (p:=⟨g,0,none⟩) (World.block_lt_of_cell? w _ hk)).trans hk;clear hb hF HM hk;obtain ⟨V,hV⟩:∃ V,V=a0o .num cb:=⟨_,rfl⟩;rw [← hV] at HO hL hI k0 HB2 HCr HCf ⊢;have HV:=hid hV;clear hV;go_upto_region 2 with (first | ((with_reducible refine a0v 178 (.tmp 3) (.tmp 9) ?_ ?_ ?_ ?_ V [.nilFunc,.nilFunc,.nilFunc] ?_ 178 hL HO.out hI ?_);exact rfl;iterate 4 exact rfl))
 obtain ⟨c,hc⟩:∃ c,c=w1.heap.size:=⟨_,rfl⟩;generalize w1.alloc (.cells V.toArray 178)=W2 at *;rw [← hc] at HCr ⊢;rw [HV.out] at HCr;clear hc hL hI HO HV;rcases b0g kind with ⟨hk,e⟩ | ⟨hk,e⟩ | ⟨hk,e⟩ | ⟨hk,e⟩ | ⟨hk,e⟩ | ⟨hk,e⟩ | ⟨hk,e⟩ | ⟨hk,e⟩ | ⟨hk,e⟩
 ·as_aux_lemma =>
  subst hk
  go_wp2_with fail
  refine a0X (N:=128) (keep:=[3,4]) (val:=valOf [IsF .num g 1,vc (ptr g 2),vc (ptr g 2),vc (ptr g (2 + 0)),IsF .num g (2 + 0),vc (ptr g 2),vc (ptr g 2),vc (ptr g (2 + 1)),IsF .num g (2 + 1),vc (ptr g 2),vc (ptr g 2),vc (ptr g (2 + 2)),IsF .num g (2 + 2),vc (ptr g 2),vc (ptr g 2),vc (ptr g (2 + 3)),IsF .txt g (2 + 3),vc (ptr g 2),vc (ptr g 2),vc (ptr g (2 + 4)),IsF .dig g (2 + 4),vc (ptr g 2),vc (ptr g 2),vc (ptr g (2 + 36)),IsF .dig g (2 + 36),vF g [(.num,1),(.num,(2 + 0)),(.num,(2 + 1)),(.num,(2 + 2)),(.txt,(2 + 3)),(.dig,(2 + 4)),(.dig,(2 + 36))],vF g [(.num,1),(.num,(2 + 0)),(.num,(2 + 1)),(.num,(2 + 2)),(.txt,(2 + 3)),(.dig,(2 + 4)),(.dig,(2 + 36))]]) (by kernel_rfl) (by kernel_rfl) rfl (d0H (by
    intro p hp;simp only [List.mem_cons,List.not_mem_nil,or_false] at hp;rcases hp with rfl | rfl | rfl | rfl | rfl | rfl | rfl | rfl | rfl | rfl | rfl | rfl | rfl | rfl | rfl | rfl | rfl | rfl | rfl | rfl | rfl | rfl | rfl | rfl | rfl | rfl | rfl
    all_goals first | exact d0F _ | exact c0L _ _ _ | exact d0G _ _)) ?_ ?_
  ·intro i o ho
   match i,ho with
   | 0,ho=>cases ho;exact m0p 3 c .num g 1 cb rfl rfl rfl HCr.out HCf.out _ underlying178 rfl sizeFld rfl
   | 1,ho=>cases ho;exact a0B 4 (ptr g 2) rfl rfl rfl rfl
   | 2,ho=>cases ho;exact a0R 20 1 g 2 rfl (by kernel_rfl) (by kernel_rfl) rfl rfl
   | 3,ho=>cases ho;exact b0F 21 2 40 0 g 2 0 rfl (fun W=>v0G _ _ W) (by kernel_rfl) (by kernel_rfl) rfl rfl
   | 4,ho=>cases ho;exact b0G 22 3 113 _ .num g (2 + 0) rfl (fun x W=>b0K x W) (fun W=>d0p g (2 + 0) W) (by kernel_rfl) (by kernel_rfl) rfl rfl
   | 5,ho=>cases ho;exact a0B 4 (ptr g 2) rfl rfl rfl rfl
   | 6,ho=>cases ho;exact a0R 24 5 g 2 rfl (by kernel_rfl) (by kernel_rfl) rfl rfl
   | 7,ho=>cases ho;exact b0F 25 6 40 1 g 2 1 rfl (fun W=>v0H _ _ W) (by kernel_rfl) (by kernel_rfl) rfl rfl
   | 8,ho=>cases ho;exact b0G 26 7 113 _ .num g (2 + 1) rfl (fun x W=>b0K x W) (fun W=>d0p g (2 + 1) W) (by kernel_rfl) (by kernel_rfl) rfl rfl
   | 9,ho=>cases ho;exact a0B 4 (ptr g 2) rfl rfl rfl rfl
   | 10,ho=>cases ho;exact a0R 28 9 g 2 rfl (by kernel_rfl) (by kernel_rfl) rfl rfl
   | 11,ho=>cases ho;exact b0F 29 10 40 2 g 2 2 rfl (fun W=>v0I _ _ W) (by kernel_rfl) (by kernel_rfl) rfl rfl
   | 12,ho=>cases ho;exact b0G 30 11 113 _ .num g (2 + 2) rfl (fun x W=>b0K x W) (fun W=>d0p g (2 + 2) W) (by kernel_rfl) (by kernel_rfl) rfl rfl
   | 13,ho=>cases ho;exact a0B 4 (ptr g 2) rfl rfl rfl rfl
   | 14,ho=>cases ho;exact a0R 32 13 g 2 rfl (by kernel_rfl) (by kernel_rfl) rfl rfl
   | 15,ho=>cases ho;exact b0F 33 14 40 3 g 2 3 rfl (fun W=>v0J _ _ W) (by kernel_rfl) (by kernel_rfl) rfl rfl
   | 16,ho=>cases ho;exact b0G 34 15 114 _ .txt g (2 + 3) rfl (fun x W=>d0L x W) (fun W=>g0B g (2 + 3) W) (by kernel_rfl) (by kernel_rfl) rfl rfl
   | 17,ho=>cases ho;exact a0B 4 (ptr g 2) rfl rfl rfl rfl
   | 18,ho=>cases ho;exact a0R 36 17 g 2 rfl (by kernel_rfl) (by kernel_rfl) rfl rfl
   | 19,ho=>cases ho;exact b0F 37 18 40 4 g 2 4 rfl (fun W=>v0K _ _ W) (by kernel_rfl) (by kernel_rfl) rfl rfl
   | 20,ho=>cases ho;exact b0G 38 19 115 _ .dig g (2 + 4) rfl (fun x W=>c0d x W) (fun W=>e0b g (2 + 4) W) (by kernel_rfl) (by kernel_rfl) rfl rfl
   | 21,ho=>cases ho;exact a0B 4 (ptr g 2) rfl rfl rfl rfl
   | 22,ho=>cases ho;exact a0R 40 21 g 2 rfl (by kernel_rfl) (by kernel_rfl) rfl rfl
   | 23,ho=>cases ho;exact b0F 41 22 40 5 g 2 36 rfl (fun W=>v0L _ _ W) (by kernel_rfl) (by kernel_rfl) rfl rfl
   | 24,ho=>cases ho;exact b0G 42 23 115 _ .dig g (2 + 36) rfl (fun x W=>c0d x W) (fun W=>e0b g (2 + 36) W) (by kernel_rfl) (by kernel_rfl) rfl rfl
   | 25,ho=>cases ho;exact h0D 154 178 7 _ g [(.num,1),(.num,(2 + 0)),(.num,(2 + 1)),(.num,(2 + 2)),(.txt,(2 + 3)),(.dig,(2 + 4)),(.dig,(2 + 36))] [(0,19),(4,23),(8,27),(12,31),(16,35),(20,39),(24,43)] rfl underlying154 rfl sizeFld infoFld rfl (by decide) (by decide) rfl rfl (by kernel_rfl) (by intro j hj;match j,hj with | 0,_=>rfl | 1,_=>rfl | 2,_=>rfl | 3,_=>rfl | 4,_=>rfl | 5,_=>rfl | 6,_=>rfl) rfl
   | 26,ho=>cases ho;exact b0T 44 25 g [(.num,1),(.num,(2 + 0)),(.num,(2 + 1)),(.num,(2 + 2)),(.txt,(2 + 3)),(.dig,(2 + 4)),(.dig,(2 + 36))] rfl (by kernel_rfl) (by kernel_rfl) rfl rfl
   | (i + 27),ho=>exact absurd ho (by simp)
  ·intro a w' hB hs hd hk2 hv
   have h2:=hv 26 2 (by kernel_rfl);have HB3:=hid (a0b HB2.out hB);obtain ⟨tm,df⟩:=a;obtain rfl:df = []:=hd;go_wp2;go_ret;exact ⟨_,rfl,h2,HB3.out⟩
 ·as_aux_lemma =>
  subst hk;have HR:=hid (fun W=>j0N g 70 W)
  go_wp2_with fail
  refine (HR.out _).mono ?_;rintro e1 w3 ⟨v,rfl,h2,hb⟩;have HB3:=hid (a0b HB2.out hb);have H2:=hid h2;obtain ⟨av,bs,rfl,-⟩:=h2;clear hb;go_wp2;go_ret;exact ⟨_,rfl,H2.out,HB3.out⟩
 ·as_aux_lemma =>
  subst hk
  go_wp2_with fail
  refine a0X (N:=128) (keep:=[0,3]) (val:=valOf [IsF .num g 1,vc (ptr g 0),vc (ptr g 0),vc (ptr g (0 + 173)),IsF .txt g (0 + 173),vc (ptr g 0),vc (ptr g 0),vc (ptr g (0 + 175)),IsF .dig g (0 + 175),vF g [(.num,1),(.txt,(0 + 173)),(.dig,(0 + 175))],vF g [(.num,1),(.txt,(0 + 173)),(.dig,(0 + 175))]]) (by kernel_rfl) (by kernel_rfl) rfl (d0H (by
    intro p hp;simp only [List.mem_cons,List.not_mem_nil,or_false] at hp;rcases hp with rfl | rfl | rfl | rfl | rfl | rfl | rfl | rfl | rfl | rfl | rfl
    all_goals first | exact d0F _ | exact c0L _ _ _ | exact d0G _ _)) ?_ ?_
  ·intro i o ho
   match i,ho with
   | 0,ho=>cases ho;exact m0p 3 c .num g 1 cb rfl rfl rfl HCr.out HCf.out _ underlying178 rfl sizeFld rfl
   | 1,ho=>cases ho;exact a0B 0 (ptr g 0) rfl rfl rfl rfl
   | 2,ho=>cases ho;exact a0R 54 1 g 0 rfl (by kernel_rfl) (by kernel_rfl) rfl rfl
   | 3,ho=>cases ho;exact b0F 55 2 80 4 g 0 173 rfl (fun W=>t0z _ _ W) (by kernel_rfl) (by kernel_rfl) rfl rfl
   | 4,ho=>cases ho;exact b0G 56 3 114 _ .txt g (0 + 173) rfl (fun x W=>d0L x W) (fun W=>g0B g (0 + 173) W) (by kernel_rfl) (by kernel_rfl) rfl rfl
   | 5,ho=>cases ho;exact a0B 0 (ptr g 0) rfl rfl rfl rfl
   | 6,ho=>cases ho;exact a0R 58 5 g 0 rfl (by kernel_rfl) (by kernel_rfl) rfl rfl
   | 7,ho=>cases ho;exact b0F 59 6 80 6 g 0 175 rfl (fun W=>t0A _ _ W) (by kernel_rfl) (by kernel_rfl) rfl rfl
   | 8,ho=>cases ho;exact b0G 60 7 115 _ .dig g (0 + 175) rfl (fun x W=>c0d x W) (fun W=>e0b g (0 + 175) W) (by kernel_rfl) (by kernel_rfl) rfl rfl
   | 9,ho=>cases ho;exact h0D 154 178 3 _ g [(.num,1),(.txt,(0 + 173)),(.dig,(0 + 175))] [(0,53),(4,57),(8,61)] rfl underlying154 rfl sizeFld infoFld rfl (by decide) (by decide) rfl rfl (by kernel_rfl) (by intro j hj;match j,hj with | 0,_=>rfl | 1,_=>rfl | 2,_=>rfl) rfl
   | 10,ho=>cases ho;exact b0T 62 9 g [(.num,1),(.txt,(0 + 173)),(.dig,(0 + 175))] rfl (by kernel_rfl) (by kernel_rfl) rfl rfl
   | (i + 11),ho=>exact absurd ho (by simp)
  ·intro a w' hB hs hd hk2 hv
   have h2:=hv 10 2 (by kernel_rfl);have HB3:=hid (a0b HB2.out hB);obtain ⟨tm,df⟩:=a;obtain rfl:df = []:=hd;go_wp2;go_ret;exact ⟨_,rfl,h2,HB3.out⟩
 ·rcases hk with hk | hk
  ·as_aux_lemma =>
   subst hk
   go_wp2_with fail
   refine a0X (N:=128) (keep:=[5]) (val:=valOf [vc (ptr g 239),vc (ptr g 239),vc (ptr g (239 + 0)),IsF .num g (239 + 0),vc (ptr g 239),vc (ptr g 239),vc (ptr g (239 + 1)),IsF .num g (239 + 1),vc (ptr g 239),vc (ptr g 239),vc (ptr g (239 + 2)),IsF .txt g (239 + 2),vc (ptr g 239),vc (ptr g 239),vc (ptr g (239 + 3)),IsF .dig g (239 + 3),vF g [(.num,(239 + 0)),(.num,(239 + 1)),(.txt,(239 + 2)),(.dig,(239 + 3))],vF g [(.num,(239 + 0)),(.num,(239 + 1)),(.txt,(239 + 2)),(.dig,(239 + 3))]]) (by kernel_rfl) (by kernel_rfl) rfl (d0H (by
     intro p hp;simp only [List.mem_cons,List.not_mem_nil,or_false] at hp;rcases hp with rfl | rfl | rfl | rfl | rfl | rfl | rfl | rfl | rfl | rfl | rfl | rfl | rfl | rfl | rfl | rfl | rfl | rfl
     all_goals first | exact d0F _ | exact c0L _ _ _ | exact d0G _ _)) ?_ ?_
   ·intro i o ho
    match i,ho with
    | 0,ho=>cases ho;exact a0B 5 (ptr g 239) rfl rfl rfl rfl
    | 1,ho=>cases ho;exact a0R 69 0 g 239 rfl (by kernel_rfl) (by kernel_rfl) rfl rfl
    | 2,ho=>cases ho;exact b0F 70 1 78 0 g 239 0 rfl (fun W=>t0v _ _ W) (by kernel_rfl) (by kernel_rfl) rfl rfl
    | 3,ho=>cases ho;exact b0G 71 2 113 _ .num g (239 + 0) rfl (fun x W=>b0K x W) (fun W=>d0p g (239 + 0) W) (by kernel_rfl) (by kernel_rfl) rfl rfl
    | 4,ho=>cases ho;exact a0B 5 (ptr g 239) rfl rfl rfl rfl
    | 5,ho=>cases ho;exact a0R 73 4 g 239 rfl (by kernel_rfl) (by kernel_rfl) rfl rfl
    | 6,ho=>cases ho;exact b0F 74 5 78 1 g 239 1 rfl (fun W=>t0w _ _ W) (by kernel_rfl) (by kernel_rfl) rfl rfl
    | 7,ho=>cases ho;exact b0G 75 6 113 _ .num g (239 + 1) rfl (fun x W=>b0K x W) (fun W=>d0p g (239 + 1) W) (by kernel_rfl) (by kernel_rfl) rfl rfl
    | 8,ho=>cases ho;exact a0B 5 (ptr g 239) rfl rfl rfl rfl
    | 9,ho=>cases ho;exact a0R 77 8 g 239 rfl (by kernel_rfl) (by kernel_rfl) rfl rfl
    | 10,ho=>cases ho;exact b0F 78 9 78 2 g 239 2 rfl (fun W=>t0x _ _ W) (by kernel_rfl) (by kernel_rfl) rfl rfl
    | 11,ho=>cases ho;exact b0G 79 10 114 _ .txt g (239 + 2) rfl (fun x W=>d0L x W) (fun W=>g0B g (239 + 2) W) (by kernel_rfl) (by kernel_rfl) rfl rfl
    | 12,ho=>cases ho;exact a0B 5 (ptr g 239) rfl rfl rfl rfl
    | 13,ho=>cases ho;exact a0R 81 12 g 239 rfl (by kernel_rfl) (by kernel_rfl) rfl rfl
    | 14,ho=>cases ho;exact b0F 82 13 78 3 g 239 3 rfl (fun W=>t0y _ _ W) (by kernel_rfl) (by kernel_rfl) rfl rfl
    | 15,ho=>cases ho;exact b0G 83 14 115 _ .dig g (239 + 3) rfl (fun x W=>c0d x W) (fun W=>e0b g (239 + 3) W) (by kernel_rfl) (by kernel_rfl) rfl rfl
    | 16,ho=>cases ho;exact h0D 154 178 4 _ g [(.num,(239 + 0)),(.num,(239 + 1)),(.txt,(239 + 2)),(.dig,(239 + 3))] [(3,72),(7,76),(11,80),(15,84)] rfl underlying154 rfl sizeFld infoFld rfl (by decide) (by decide) rfl rfl (by kernel_rfl) (by intro j hj;match j,hj with | 0,_=>rfl | 1,_=>rfl | 2,_=>rfl | 3,_=>rfl) rfl
    | 17,ho=>cases ho;exact b0T 85 16 g [(.num,(239 + 0)),(.num,(239 + 1)),(.txt,(239 + 2)),(.dig,(239 + 3))] rfl (by kernel_rfl) (by kernel_rfl) rfl rfl
    | (i + 18),ho=>exact absurd ho (by simp)
   ·intro a w' hB hs hd hk2 hv
    have h2:=hv 17 2 (by kernel_rfl);have HB3:=hid (a0b HB2.out hB);obtain ⟨tm,df⟩:=a;obtain rfl:df = []:=hd;go_wp2;go_ret;exact ⟨_,rfl,h2,HB3.out⟩
  ·as_aux_lemma =>
   subst hk
   go_wp2_with fail
   refine a0X (N:=128) (keep:=[5]) (val:=valOf [vc (ptr g 239),vc (ptr g 239),vc (ptr g (239 + 0)),IsF .num g (239 + 0),vc (ptr g 239),vc (ptr g 239),vc (ptr g (239 + 1)),IsF .num g (239 + 1),vc (ptr g 239),vc (ptr g 239),vc (ptr g (239 + 2)),IsF .txt g (239 + 2),vc (ptr g 239),vc (ptr g 239),vc (ptr g (239 + 3)),IsF .dig g (239 + 3),vF g [(.num,(239 + 0)),(.num,(239 + 1)),(.txt,(239 + 2)),(.dig,(239 + 3))],vF g [(.num,(239 + 0)),(.num,(239 + 1)),(.txt,(239 + 2)),(.dig,(239 + 3))]]) (by kernel_rfl) (by kernel_rfl) rfl (d0H (by
     intro p hp;simp only [List.mem_cons,List.not_mem_nil,or_false] at hp;rcases hp with rfl | rfl | rfl | rfl | rfl | rfl | rfl | rfl | rfl | rfl | rfl | rfl | rfl | rfl | rfl | rfl | rfl | rfl
     all_goals first | exact d0F _ | exact c0L _ _ _ | exact d0G _ _)) ?_ ?_
   ·intro i o ho
    match i,ho with
    | 0,ho=>cases ho;exact a0B 5 (ptr g 239) rfl rfl rfl rfl
    | 1,ho=>cases ho;exact a0R 69 0 g 239 rfl (by kernel_rfl) (by kernel_rfl) rfl rfl
    | 2,ho=>cases ho;exact b0F 70 1 78 0 g 239 0 rfl (fun W=>t0v _ _ W) (by kernel_rfl) (by kernel_rfl) rfl rfl
    | 3,ho=>cases ho;exact b0G 71 2 113 _ .num g (239 + 0) rfl (fun x W=>b0K x W) (fun W=>d0p g (239 + 0) W) (by kernel_rfl) (by kernel_rfl) rfl rfl
    | 4,ho=>cases ho;exact a0B 5 (ptr g 239) rfl rfl rfl rfl
    | 5,ho=>cases ho;exact a0R 73 4 g 239 rfl (by kernel_rfl) (by kernel_rfl) rfl rfl
    | 6,ho=>cases ho;exact b0F 74 5 78 1 g 239 1 rfl (fun W=>t0w _ _ W) (by kernel_rfl) (by kernel_rfl) rfl rfl
    | 7,ho=>cases ho;exact b0G 75 6 113 _ .num g (239 + 1) rfl (fun x W=>b0K x W) (fun W=>d0p g (239 + 1) W) (by kernel_rfl) (by kernel_rfl) rfl rfl
    | 8,ho=>cases ho;exact a0B 5 (ptr g 239) rfl rfl rfl rfl
    | 9,ho=>cases ho;exact a0R 77 8 g 239 rfl (by kernel_rfl) (by kernel_rfl) rfl rfl
    | 10,ho=>cases ho;exact b0F 78 9 78 2 g 239 2 rfl (fun W=>t0x _ _ W) (by kernel_rfl) (by kernel_rfl) rfl rfl
    | 11,ho=>cases ho;exact b0G 79 10 114 _ .txt g (239 + 2) rfl (fun x W=>d0L x W) (fun W=>g0B g (239 + 2) W) (by kernel_rfl) (by kernel_rfl) rfl rfl
    | 12,ho=>cases ho;exact a0B 5 (ptr g 239) rfl rfl rfl rfl
    | 13,ho=>cases ho;exact a0R 81 12 g 239 rfl (by kernel_rfl) (by kernel_rfl) rfl rfl
    | 14,ho=>cases ho;exact b0F 82 13 78 3 g 239 3 rfl (fun W=>t0y _ _ W) (by kernel_rfl) (by kernel_rfl) rfl rfl
    | 15,ho=>cases ho;exact b0G 83 14 115 _ .dig g (239 + 3) rfl (fun x W=>c0d x W) (fun W=>e0b g (239 + 3) W) (by kernel_rfl) (by kernel_rfl) rfl rfl
    | 16,ho=>cases ho;exact h0D 154 178 4 _ g [(.num,(239 + 0)),(.num,(239 + 1)),(.txt,(239 + 2)),(.dig,(239 + 3))] [(3,72),(7,76),(11,80),(15,84)] rfl underlying154 rfl sizeFld infoFld rfl (by decide) (by decide) rfl rfl (by kernel_rfl) (by intro j hj;match j,hj with | 0,_=>rfl | 1,_=>rfl | 2,_=>rfl | 3,_=>rfl) rfl
    | 17,ho=>cases ho;exact b0T 85 16 g [(.num,(239 + 0)),(.num,(239 + 1)),(.txt,(239 + 2)),(.dig,(239 + 3))] rfl (by kernel_rfl) (by kernel_rfl) rfl rfl
    | (i + 18),ho=>exact absurd ho (by simp)
   ·intro a w' hB hs hd hk2 hv
    have h2:=hv 17 2 (by kernel_rfl);have HB3:=hid (a0b HB2.out hB);obtain ⟨tm,df⟩:=a;obtain rfl:df = []:=hd;go_wp2;go_ret;exact ⟨_,rfl,h2,HB3.out⟩
 ·rcases hk with hk | hk | hk
  ·as_aux_lemma =>
   subst hk
   go_wp2_with fail
   refine a0X (N:=128) (keep:=[0,3]) (val:=valOf [IsF .num g 1,vc (ptr g 0),vc (ptr g 0),vc (ptr g (0 + 274)),IsF .nums g (0 + 274),vF g [(.num,1),(.nums,(0 + 274))],vF g [(.num,1),(.nums,(0 + 274))]]) (by kernel_rfl) (by kernel_rfl) rfl (d0H (by
     intro p hp;simp only [List.mem_cons,List.not_mem_nil,or_false] at hp;rcases hp with rfl | rfl | rfl | rfl | rfl | rfl | rfl
     all_goals first | exact d0F _ | exact c0L _ _ _ | exact d0G _ _)) ?_ ?_
   ·intro i o ho
    match i,ho with
    | 0,ho=>cases ho;exact m0p 3 c .num g 1 cb rfl rfl rfl HCr.out HCf.out _ underlying178 rfl sizeFld rfl
    | 1,ho=>cases ho;exact a0B 0 (ptr g 0) rfl rfl rfl rfl
    | 2,ho=>cases ho;exact a0R 91 1 g 0 rfl (by kernel_rfl) (by kernel_rfl) rfl rfl
    | 3,ho=>cases ho;exact b0F 92 2 80 9 g 0 274 rfl (fun W=>p0L _ _ W) (by kernel_rfl) (by kernel_rfl) rfl rfl
    | 4,ho=>cases ho;exact b0G 93 3 117 _ .nums g (0 + 274) rfl (fun x W=>h0E x W) (fun W=>m0n g (0 + 274) W) (by kernel_rfl) (by kernel_rfl) rfl rfl
    | 5,ho=>cases ho;exact h0D 154 178 2 _ g [(.num,1),(.nums,(0 + 274))] [(0,90),(4,94)] rfl underlying154 rfl sizeFld infoFld rfl (by decide) (by decide) rfl rfl (by kernel_rfl) (by intro j hj;match j,hj with | 0,_=>rfl | 1,_=>rfl) rfl
    | 6,ho=>cases ho;exact b0T 95 5 g [(.num,1),(.nums,(0 + 274))] rfl (by kernel_rfl) (by kernel_rfl) rfl rfl
    | (i + 7),ho=>exact absurd ho (by simp)
   ·intro a w' hB hs hd hk2 hv
    have h2:=hv 6 2 (by kernel_rfl);have HB3:=hid (a0b HB2.out hB);obtain ⟨tm,df⟩:=a;obtain rfl:df = []:=hd;go_wp2;go_ret;exact ⟨_,rfl,h2,HB3.out⟩
  ·as_aux_lemma =>
   subst hk
   go_wp2_with fail
   refine a0X (N:=128) (keep:=[0,3]) (val:=valOf [IsF .num g 1,vc (ptr g 0),vc (ptr g 0),vc (ptr g (0 + 274)),IsF .nums g (0 + 274),vF g [(.num,1),(.nums,(0 + 274))],vF g [(.num,1),(.nums,(0 + 274))]]) (by kernel_rfl) (by kernel_rfl) rfl (d0H (by
     intro p hp;simp only [List.mem_cons,List.not_mem_nil,or_false] at hp;rcases hp with rfl | rfl | rfl | rfl | rfl | rfl | rfl
     all_goals first | exact d0F _ | exact c0L _ _ _ | exact d0G _ _)) ?_ ?_
   ·intro i o ho
    match i,ho with
    | 0,ho=>cases ho;exact m0p 3 c .num g 1 cb rfl rfl rfl HCr.out HCf.out _ underlying178 rfl sizeFld rfl
    | 1,ho=>cases ho;exact a0B 0 (ptr g 0) rfl rfl rfl rfl
    | 2,ho=>cases ho;exact a0R 91 1 g 0 rfl (by kernel_rfl) (by kernel_rfl) rfl rfl
    | 3,ho=>cases ho;exact b0F 92 2 80 9 g 0 274 rfl (fun W=>p0L _ _ W) (by kernel_rfl) (by kernel_rfl) rfl rfl
    | 4,ho=>cases ho;exact b0G 93 3 117 _ .nums g (0 + 274) rfl (fun x W=>h0E x W) (fun W=>m0n g (0 + 274) W) (by kernel_rfl) (by kernel_rfl) rfl rfl
    | 5,ho=>cases ho;exact h0D 154 178 2 _ g [(.num,1),(.nums,(0 + 274))] [(0,90),(4,94)] rfl underlying154 rfl sizeFld infoFld rfl (by decide) (by decide) rfl rfl (by kernel_rfl) (by intro j hj;match j,hj with | 0,_=>rfl | 1,_=>rfl) rfl
    | 6,ho=>cases ho;exact b0T 95 5 g [(.num,1),(.nums,(0 + 274))] rfl (by kernel_rfl) (by kernel_rfl) rfl rfl
    | (i + 7),ho=>exact absurd ho (by simp)
   ·intro a w' hB hs hd hk2 hv
    have h2:=hv 6 2 (by kernel_rfl);have HB3:=hid (a0b HB2.out hB);obtain ⟨tm,df⟩:=a;obtain rfl:df = []:=hd;go_wp2;go_ret;exact ⟨_,rfl,h2,HB3.out⟩
  ·as_aux_lemma =>
   subst hk
   go_wp2_with fail
   refine a0X (N:=128) (keep:=[0,3]) (val:=valOf [IsF .num g 1,vc (ptr g 0),vc (ptr g 0),vc (ptr g (0 + 274)),IsF .nums g (0 + 274),vF g [(.num,1),(.nums,(0 + 274))],vF g [(.num,1),(.nums,(0 + 274))]]) (by kernel_rfl) (by kernel_rfl) rfl (d0H (by
     intro p hp;simp only [List.mem_cons,List.not_mem_nil,or_false] at hp;rcases hp with rfl | rfl | rfl | rfl | rfl | rfl | rfl
     all_goals first | exact d0F _ | exact c0L _ _ _ | exact d0G _ _)) ?_ ?_
   ·intro i o ho
    match i,ho with
    | 0,ho=>cases ho;exact m0p 3 c .num g 1 cb rfl rfl rfl HCr.out HCf.out _ underlying178 rfl sizeFld rfl
    | 1,ho=>cases ho;exact a0B 0 (ptr g 0) rfl rfl rfl rfl
    | 2,ho=>cases ho;exact a0R 91 1 g 0 rfl (by kernel_rfl) (by kernel_rfl) rfl rfl
    | 3,ho=>cases ho;exact b0F 92 2 80 9 g 0 274 rfl (fun W=>p0L _ _ W) (by kernel_rfl) (by kernel_rfl) rfl rfl
    | 4,ho=>cases ho;exact b0G 93 3 117 _ .nums g (0 + 274) rfl (fun x W=>h0E x W) (fun W=>m0n g (0 + 274) W) (by kernel_rfl) (by kernel_rfl) rfl rfl
    | 5,ho=>cases ho;exact h0D 154 178 2 _ g [(.num,1),(.nums,(0 + 274))] [(0,90),(4,94)] rfl underlying154 rfl sizeFld infoFld rfl (by decide) (by decide) rfl rfl (by kernel_rfl) (by intro j hj;match j,hj with | 0,_=>rfl | 1,_=>rfl) rfl
    | 6,ho=>cases ho;exact b0T 95 5 g [(.num,1),(.nums,(0 + 274))] rfl (by kernel_rfl) (by kernel_rfl) rfl rfl
    | (i + 7),ho=>exact absurd ho (by simp)
   ·intro a w' hB hs hd hk2 hv
    have h2:=hv 6 2 (by kernel_rfl);have HB3:=hid (a0b HB2.out hB);obtain ⟨tm,df⟩:=a;obtain rfl:df = []:=hd;go_wp2;go_ret;exact ⟨_,rfl,h2,HB3.out⟩
 ·as_aux_lemma =>
  subst hk;obtain ⟨V,hV⟩:∃ V,V=a0o .num cb:=⟨_,rfl⟩;have hI:(prog.info? 178).map (·.size)=some V.length:=by rw [hV];exact sizeFld
  have hL:V.length=3:=by rw [hV];rfl
  have S0:Hid (∀ j v,V[j]? = some v->W2.cell? ⟨c,0 + j,none⟩=some v):=by rw [hV];exact a0s (off:=0) (A:=[]) (C:=[]) HCr.out (by simp) rfl
  have HFin:Hid (b0n (W2.alloc (.cells V.toArray 178)) (.slice (some ⟨W2.heap.size,0,none⟩) 1 1) g (h0C 0 k0y)/\Below w.heap.size w (W2.alloc (.cells V.toArray 178))):=by
   refine ⟨⟨_,[cb],rfl,rfl,fun _=>⟨_,rfl,?_⟩,fun j hj=>?_⟩,a0b HB2.out (a0c _ _)⟩
   ·rw [a0f,hV];rfl
   ·have:j=0:=by have:j < 1:=hj;omega
    subst this;exact HCf.out.stays (a0c _ _)
  clear hV HCr HCf
  go_wp2_with (first | ((with_reducible refine a0d 178 (.tmp 3) ?_ c 0 ?_ ?_ V _ S0.out underlying178 ?_ hI ?_);iterate 4 exact rfl) | ((with_reducible refine v0S ?_ (.tmp 98) ?_ V hL ?_ ?_);exact rfl;exact rfl;exact rfl))
  go_ret;exact ⟨_,rfl,HFin.out.1,HFin.out.2⟩
 ·as_aux_lemma =>
  subst hk
  go_wp2_with fail
  refine a0X (N:=128) (keep:=[0,3]) (val:=valOf [IsF .num g 1,vc (ptr g 0),vc (ptr g 0),vc (ptr g (0 + 174)),IsF .num g (0 + 174),vc (ptr g 0),vc (ptr g 0),vc (ptr g (0 + 173)),IsF .txt g (0 + 173),vc (ptr g 0),vc (ptr g 0),vc (ptr g (0 + 175)),IsF .dig g (0 + 175),vc (ptr g 0),vc (ptr g 0),vc (ptr g (0 + 207)),IsF .dig g (0 + 207),vF g [(.num,1),(.num,(0 + 174)),(.txt,(0 + 173)),(.dig,(0 + 175)),(.dig,(0 + 207))],vF g [(.num,1),(.num,(0 + 174)),(.txt,(0 + 173)),(.dig,(0 + 175)),(.dig,(0 + 207))]]) (by kernel_rfl) (by kernel_rfl) rfl (d0H (by
    intro p hp;simp only [List.mem_cons,List.not_mem_nil,or_false] at hp;rcases hp with rfl | rfl | rfl | rfl | rfl | rfl | rfl | rfl | rfl | rfl | rfl | rfl | rfl | rfl | rfl | rfl | rfl | rfl | rfl
    all_goals first | exact d0F _ | exact c0L _ _ _ | exact d0G _ _)) ?_ ?_
  ·intro i o ho
   match i,ho with
   | 0,ho=>cases ho;exact m0p 3 c .num g 1 cb rfl rfl rfl HCr.out HCf.out _ underlying178 rfl sizeFld rfl
   | 1,ho=>cases ho;exact a0B 0 (ptr g 0) rfl rfl rfl rfl
   | 2,ho=>cases ho;exact a0R 103 1 g 0 rfl (by kernel_rfl) (by kernel_rfl) rfl rfl
   | 3,ho=>cases ho;exact b0F 104 2 80 5 g 0 174 rfl (fun W=>v0M _ _ W) (by kernel_rfl) (by kernel_rfl) rfl rfl
   | 4,ho=>cases ho;exact b0G 105 3 113 _ .num g (0 + 174) rfl (fun x W=>b0K x W) (fun W=>d0p g (0 + 174) W) (by kernel_rfl) (by kernel_rfl) rfl rfl
   | 5,ho=>cases ho;exact a0B 0 (ptr g 0) rfl rfl rfl rfl
   | 6,ho=>cases ho;exact a0R 107 5 g 0 rfl (by kernel_rfl) (by kernel_rfl) rfl rfl
   | 7,ho=>cases ho;exact b0F 108 6 80 4 g 0 173 rfl (fun W=>t0z _ _ W) (by kernel_rfl) (by kernel_rfl) rfl rfl
   | 8,ho=>cases ho;exact b0G 109 7 114 _ .txt g (0 + 173) rfl (fun x W=>d0L x W) (fun W=>g0B g (0 + 173) W) (by kernel_rfl) (by kernel_rfl) rfl rfl
   | 9,ho=>cases ho;exact a0B 0 (ptr g 0) rfl rfl rfl rfl
   | 10,ho=>cases ho;exact a0R 111 9 g 0 rfl (by kernel_rfl) (by kernel_rfl) rfl rfl
   | 11,ho=>cases ho;exact b0F 112 10 80 6 g 0 175 rfl (fun W=>t0A _ _ W) (by kernel_rfl) (by kernel_rfl) rfl rfl
   | 12,ho=>cases ho;exact b0G 113 11 115 _ .dig g (0 + 175) rfl (fun x W=>c0d x W) (fun W=>e0b g (0 + 175) W) (by kernel_rfl) (by kernel_rfl) rfl rfl
   | 13,ho=>cases ho;exact a0B 0 (ptr g 0) rfl rfl rfl rfl
   | 14,ho=>cases ho;exact a0R 115 13 g 0 rfl (by kernel_rfl) (by kernel_rfl) rfl rfl
   | 15,ho=>cases ho;exact b0F 116 14 80 7 g 0 207 rfl (fun W=>t0B _ _ W) (by kernel_rfl) (by kernel_rfl) rfl rfl
   | 16,ho=>cases ho;exact b0G 117 15 115 _ .dig g (0 + 207) rfl (fun x W=>c0d x W) (fun W=>e0b g (0 + 207) W) (by kernel_rfl) (by kernel_rfl) rfl rfl
   | 17,ho=>cases ho;exact h0D 154 178 5 _ g [(.num,1),(.num,(0 + 174)),(.txt,(0 + 173)),(.dig,(0 + 175)),(.dig,(0 + 207))] [(0,102),(4,106),(8,110),(12,114),(16,118)] rfl underlying154 rfl sizeFld infoFld rfl (by decide) (by decide) rfl rfl (by kernel_rfl) (by intro j hj;match j,hj with | 0,_=>rfl | 1,_=>rfl | 2,_=>rfl | 3,_=>rfl | 4,_=>rfl) rfl
   | 18,ho=>cases ho;exact b0T 119 17 g [(.num,1),(.num,(0 + 174)),(.txt,(0 + 173)),(.dig,(0 + 175)),(.dig,(0 + 207))] rfl (by kernel_rfl) (by kernel_rfl) rfl rfl
   | (i + 19),ho=>exact absurd ho (by simp)
  ·intro a w' hB hs hd hk2 hv
   have h2:=hv 18 2 (by kernel_rfl);have HB3:=hid (a0b HB2.out hB);obtain ⟨tm,df⟩:=a;obtain rfl:df = []:=hd;go_wp2;go_ret;exact ⟨_,rfl,h2,HB3.out⟩
 ·as_aux_lemma =>
  subst hk
  go_wp2_with fail
  refine a0X (N:=128) (keep:=[0,3]) (val:=valOf [IsF .num g 1,vc (ptr g 0),vc (ptr g 0),vc (ptr g (0 + 207)),IsF .dig g (0 + 207),vF g [(.num,1),(.dig,(0 + 207))],vF g [(.num,1),(.dig,(0 + 207))]]) (by kernel_rfl) (by kernel_rfl) rfl (d0H (by
    intro p hp;simp only [List.mem_cons,List.not_mem_nil,or_false] at hp;rcases hp with rfl | rfl | rfl | rfl | rfl | rfl | rfl
    all_goals first | exact d0F _ | exact c0L _ _ _ | exact d0G _ _)) ?_ ?_
  ·intro i o ho
   match i,ho with
   | 0,ho=>cases ho;exact m0p 3 c .num g 1 cb rfl rfl rfl HCr.out HCf.out _ underlying178 rfl sizeFld rfl
   | 1,ho=>cases ho;exact a0B 0 (ptr g 0) rfl rfl rfl rfl
   | 2,ho=>cases ho;exact a0R 123 1 g 0 rfl (by kernel_rfl) (by kernel_rfl) rfl rfl
   | 3,ho=>cases ho;exact b0F 124 2 80 7 g 0 207 rfl (fun W=>t0B _ _ W) (by kernel_rfl) (by kernel_rfl) rfl rfl
   | 4,ho=>cases ho;exact b0G 125 3 115 _ .dig g (0 + 207) rfl (fun x W=>c0d x W) (fun W=>e0b g (0 + 207) W) (by kernel_rfl) (by kernel_rfl) rfl rfl
   | 5,ho=>cases ho;exact h0D 154 178 2 _ g [(.num,1),(.dig,(0 + 207))] [(0,122),(4,126)] rfl underlying154 rfl sizeFld infoFld rfl (by decide) (by decide) rfl rfl (by kernel_rfl) (by intro j hj;match j,hj with | 0,_=>rfl | 1,_=>rfl) rfl
   | 6,ho=>cases ho;exact b0T 127 5 g [(.num,1),(.dig,(0 + 207))] rfl (by kernel_rfl) (by kernel_rfl) rfl rfl
   | (i + 7),ho=>exact absurd ho (by simp)
  ·intro a w' hB hs hd hk2 hv
   have h2:=hv 6 2 (by kernel_rfl);have HB3:=hid (a0b HB2.out hB);obtain ⟨tm,df⟩:=a;obtain rfl:df = []:=hd;go_wp2;go_ret;exact ⟨_,rfl,h2,HB3.out⟩
 ·as_aux_lemma =>
  have d1:(kind == 1)=false:=by simp;omega
  have d2:(kind == 2)=false:=by simp;omega
  have d3:(kind == 3)=false:=by simp;omega
  have d4:(kind == 4)=false:=by simp;omega
  have d5:(kind == 5)=false:=by simp;omega
  have d6:(kind == 6)=false:=by simp;omega
  have d7:(kind == 7)=false:=by simp;omega
  have d8:(kind == 8)=false:=by simp;omega
  have d9:(kind == 9)=false:=by simp;omega
  have d10:(kind == 10)=false:=by simp;omega
  have d11:(kind == 11)=false:=by simp;omega
  have HE:=hid e;clear hk e;go_wp2;go_ret;exact ⟨_,rfl,by rw [HE.out];exact fnil _ _,HB2.out⟩
open Go Go.RowKit
set_option maxRecDepth 100000
theorem i0S {w:World} {u v:Value} {xs ys:List Int} (hu:a0w w u xs) (hv:a0w w v ys) (hx:xs.length <= 9223372036854775807) :
  Calls prog 155 #[u,v] w fun e w'=>e = .returned (.bool (xs == ys))/\Below w.heap.size w w':=by
 obtain ⟨a,c1,rfl,ha⟩:=hu;obtain ⟨b,c2,rfl,hb⟩:=hv;have HB0:=hid (Below.refl w.heap.size w);by_cases hl:xs.length=ys.length
 ·have HE:=hid (e0W (0:Int) xs ys hl)
  have HN:=hid (fun j=>i0x (0:Int) xs ys j);have HA:=hid ha;have HBb:=hid hb;have dl:((xs.length:Int) != (ys.length:Int))=false:=by simp;omega
  have dl':(xs.length != ys.length)=false:=by simp;omega
  have HL:=hid hl;clear ha hb hl;go_enter func155,ntmps155;go_wp2;go_loopw [13] (fun i w'=>∃ j:Nat,j <= xs.length/\i = .int .i64 j/\Hid (∀ k,k < j->xs.getD k 0=ys.getD k 0)/\Hid (Below w.heap.size w w')) (fun i _=>xs.length - (intOf i).toNat)
  case atStart=>exact ⟨0,by omega,rfl,fun k hk=>absurd hk (Nat.not_lt_zero k),HB0.out⟩
  case round =>
   obtain ⟨j,hj,rfl,HQ,HB⟩:=hrel;by_cases hlt:j < xs.length
   ·have d1:decide ((j:Int) < (xs.length:Int))=true:=decide_eq_true (by omega)
    have d1':decide (j < xs.length)=true:=decide_eq_true hlt;have hly:j < ys.length:=by have:=HL.out;omega
    obtain ⟨ba,oa,rfl,hca⟩:=HA.out (fun e=>by rw [e] at hlt;exact absurd hlt (Nat.not_lt_zero j));obtain ⟨bb,ob,rfl,hcb⟩:=HBb.out (fun e=>by rw [e] at hly;exact absurd hly (Nat.not_lt_zero j));have ca:wr.cell? ⟨ba,oa + j,none⟩=some (.int .i64 (xs.getD j 0)):=(HB.out.cell (p:=⟨ba,oa + j,none⟩) (World.block_lt_of_cell? w _ (hca j hlt))).trans (hca j hlt);have cb':wr.cell? ⟨bb,ob + j,none⟩=some (.int .i64 (ys.getD j 0)):=(HB.out.cell (p:=⟨bb,ob + j,none⟩) (World.block_lt_of_cell? w _ (hcb j hly))).trans (hcb j hly);by_cases he:xs.getD j 0=ys.getD j 0
    ·have HQ':Hid (∀ k,k < j + 1->xs.getD k 0=ys.getD k 0):=fun k hk=>by
      by_cases e:k=j
      ·rw [e];exact he
      ·exact HQ.out k (by omega)
     rw [← he] at cb';generalize xs.getD j 0=x at *;clear he hca hcb HQ HE HN HA HBb;have HBd:=hid HB.out.drew;go_wp2
     go_region
     all_goals (go_wp2;exact ⟨⟨j + 1,by omega,by go_num,HQ'.out,HBd.out⟩,by simp [intOf];omega⟩)
    ·have HP:=hid (HN.out j he)
     generalize xs.getD j 0=x at *;generalize ys.getD j 0=y at *;have dx:(x != y)=true:=by simpa using he
     clear he hca hcb HQ HE HN HA HBb;have HBd:=hid HB.out.drew;go_wp2
     go_region
     all_goals (go_wp2;go_ret;exact ⟨by rw [HP.out];rfl,HBd.out⟩)
   ·obtain rfl:j=xs.length:=by omega
    have HP:Hid ((xs == ys)=true):=by show _=_;rw [HE.out HQ.out];simp
    clear HE HQ HN HA HBb;go_wp2;go_ret;exact ⟨by rw [HP.out];rfl,HB.out⟩
 ·rw [h0o xs ys hl]
  have dl:((xs.length:Int) != (ys.length:Int))=true:=by simp;omega
  have dl':(xs.length != ys.length)=true:=by simp;omega
  clear ha hb hl;go_enter func155,ntmps155;go_wp2;go_ret;exact ⟨rfl,HB0.out⟩
theorem c0Y {w:World} {u v:Value} {xs ys:List Pen} (wx:∀ p ∈ xs,p.Wf) (wy:∀ p ∈ ys,p.Wf) (hu:a0g w u xs) (hv:a0g w v ys) (hx:xs.length <= 9223372036854775807) :
  Calls prog 185 #[u,v] w fun e w'=>e = .returned (.bool (e0C c0C xs ys))/\Below w.heap.size w w':=by
 have HP:=hid hu;have HQ:=hid hv;obtain ⟨a,c1,rfl,-⟩:=hu;obtain ⟨b,c2,rfl,-⟩:=hv;have HB0:=hid (Below.refl w.heap.size w);by_cases hl:xs.length=ys.length
 ·have HX:=hid wx
  have HY:=hid wy;have dl:((xs.length:Int) != (ys.length:Int))=false:=by simp;omega
  have dl':(xs.length != ys.length)=false:=by simp;omega
  have HL:=hid hl;clear wx wy hl;go_enter func185,ntmps185;go_wp2;go_loopw [13] (fun i w'=>∃ j:Nat,j <= xs.length/\i = .int .i64 j/\Hid (∀ k,k < j->c0C (xs.getD k a0z) (ys.getD k a0z)=true)/\Hid (Below w.heap.size w w')) (fun i _=>xs.length - (intOf i).toNat)
  case atStart=>exact ⟨0,by omega,rfl,fun k hk=>absurd hk (Nat.not_lt_zero k),HB0.out⟩
  case round =>
   obtain ⟨k,hk,rfl,HN,HB⟩:=hrel;clear dl dl';by_cases hlt:k < xs.length
   ·as_aux_lemma =>
    have hlb:k < ys.length:=by have:=HL.out;omega
    have d1:decide ((k:Int) < (xs.length:Int))=true:=decide_eq_true (by omega);have d1':decide (k < xs.length)=true:=decide_eq_true hlt;obtain ⟨pa',cp',e',hpc⟩:=HP.out.kept HB.out
    cases e'
    obtain ⟨qa',cq',e',hqc⟩:=HQ.out.kept HB.out
    cases e'
    obtain ⟨ba,oa,rfl,hca⟩:=hpc (fun e=>by rw [e] at hlt;exact absurd hlt (Nat.not_lt_zero k));obtain ⟨bb,ob,rfl,hcb⟩:=hqc (fun e=>by rw [e] at hlb;exact absurd hlb (Nat.not_lt_zero k));have wa:=e0F HX.out k hlt;have wb:=e0F HY.out k hlb;have EP:=fun W=>k0C W _ _ wa wb;have ZA:(prog.info? 57).map (·.size)=some (penC (xs.getD k a0z)).length:=by rw [a0K wa];exact sizePen
    have ZB:(prog.info? 57).map (·.size)=some (penC (ys.getD k a0z)).length:=by rw [a0K wb];exact sizePen
    have SA:=hid (fun w' (hw:∃ p:Regrown,w' = Sort.grow (redrawn wr p.d) p.os)=>(by obtain ⟨p,rfl⟩:=hw;exact fun i c hi=>cell_regrown (hca k hlt i c hi) _ _:∀ i c,(penC (xs.getD k a0z))[i]? = some c->w'.cell? ⟨ba,oa + k * 68 + i,none⟩=some c));have SB:=hid (fun w' (hw:∃ p:Regrown,w' = Sort.grow (redrawn wr p.d) p.os)=>(by obtain ⟨p,rfl⟩:=hw;exact fun i c hi=>cell_regrown (hcb k hlb i c hi) _ _:∀ i c,(penC (ys.getD k a0z))[i]? = some c->w'.cell? ⟨bb,ob + k * 68 + i,none⟩=some c))
    have HM:Hid (c0C (xs.getD k a0z) (ys.getD k a0z)=true->∀ j,j < k + 1->c0C (xs.getD j a0z) (ys.getD j a0z)=true):=fun h j hj=>by
     by_cases e:j=k
     ·rw [e];exact h
     ·exact HN.out j (by omega)
    have HF:Hid (c0C (xs.getD k a0z) (ys.getD k a0z)=false->e0C c0C xs ys=false):=fun h=>n0k c0C c0E a0z _ _ k h;have HBg:=hid (fun dq osq=>HB.out.trans ((below_regrown wr dq osq).mono HB.out.size));clear hpc hqc hca hcb wa wb HN HX HY;generalize c0C (xs.getD k a0z) (ys.getD k a0z)=r at *;generalize penC (xs.getD k a0z)=PA at *;generalize penC (ys.getD k a0z)=PB at *
    go_wp2_with fail
    refine wp_region_quiet_below (by kernel_rfl) (by kernel_rfl) ?_
    iterate 3 (first | go_big_quiet_step (fail) | quiet_step (fail))
    refine c0H 57 (.tmp 18) rfl ba (oa + k * 68) rfl rfl PA _ (fun w' hw'=>SA.out w' hw') underlying57 rfl ZA ?_;simp only [Act.put,List.setIfInBounds_toArray,List.set_cons_zero,List.set_cons_succ]
    iterate 3 (first | go_big_quiet_step (fail) | quiet_step (fail))
    refine c0H 57 (.tmp 22) rfl bb (ob + k * 68) rfl rfl PB _ (fun w' hw'=>SB.out w' hw') underlying57 rfl ZB ?_;simp only [Act.put,List.setIfInBounds_toArray,List.set_cons_zero,List.set_cons_succ];refine t0t rfl 57 57 (.tmp 19) (.tmp 23) rfl PA.toArray PB.toArray rfl rfl guardPen r EP ?_;simp only [Act.put,List.setIfInBounds_toArray,List.set_cons_zero,List.set_cons_succ];refine wpQuiet_nil ?_;intro _ hw';obtain ⟨⟨dq,osq⟩,hw''⟩:=hw';subst hw'';have HBq:=hid (HBg.out dq osq);generalize Sort.grow (redrawn wr dq) osq=w5 at *;clear SA SB EP ZA ZB HBg
    cases hr:r with
    | true =>
     have HM':=hid (HM.out hr);subst hr;clear HM HF;go_wp2;exact ⟨⟨k + 1,by omega,by go_num,HM'.out,HBq.out⟩,by simp [intOf];omega⟩
    | false =>
     have HF':=hid (HF.out hr);subst hr;clear HM HF;go_wp2;go_ret;exact ⟨by rw [HF'.out];rfl,HBq.out⟩
   ·as_aux_lemma =>
    have e:k=xs.length:=by omega
    subst e;have dk:decide ((xs.length:Int) < (xs.length:Int))=false:=decide_eq_false (by omega);have HPL:Hid (e0C c0C xs ys=true):=(d0U c0C c0E _ _).2 (e0W a0z _ _ HL.out (fun j hj=>(c0E _ _).1 (HN.out j hj)));clear HN HX HY;go_wp2;go_ret;exact ⟨by rw [HPL.out];rfl,HB.out⟩
 ·rw [k0E c0C c0E xs ys hl]
  have dl:((xs.length:Int) != (ys.length:Int))=true:=by simp;omega
  have dl':(xs.length != ys.length)=true:=by simp;omega
  clear hl wx wy;go_enter func185,ntmps185;go_wp2;go_ret;exact ⟨rfl,HB0.out⟩
open Go Go.RowKit
set_option maxRecDepth 100000
theorem m0z {a b:Rep} (h0:(a.number == b.number)=true) (h1:(a.last == b.last)=true) (h2:(a.view == b.view)=true) (h3:(a.commit == b.commit)=true) (h4:e0C c0C a.pend b.pend=true) (h5:(a.vnum == b.vnum)=true) (h6:(a.value == b.value)=true) (h7:(a.data == b.data)=true) (h8:(a.seen == b.seen)=true) (h9:(a.stag == b.stag)=true):b0Y a b=true:=by unfold b0Y;rw [h0,h1,h2,h3,h4,h5,h6,h7,h8,h9];rfl
theorem b0o {w:World} {a b:Rep} {vP vQ:Value} (ha:a.Wf) (hb:b.Wf) (hp:a0g w vP a.pend) (hq:a0g w vQ b.pend) (hmx:a.pend.length <= 9223372036854775807) :
  Calls prog 154 #[.agg (repC a vP).toArray,.agg (repC b vQ).toArray] w fun e w'=>e = .returned (.bool (b0Y a b))/\Below w.heap.size w w':=by
 have HB0:Hid (Below w.heap.size w ((w.alloc (.cells (repC a vP).toArray 44)).alloc (.cells (repC b vQ).toArray 44))):=(a0c w _).alloc (by simp) _;have R0:Hid (((w.alloc (.cells (repC a vP).toArray 44)).alloc (.cells (repC b vQ).toArray 44)).heap[w.heap.size]? = some (.cells (repC a vP).toArray 44)):=heap_alloc2_old w _ _;have R1:Hid (((w.alloc (.cells (repC a vP).toArray 44)).alloc (.cells (repC b vQ).toArray 44)).heap[w.heap.size + 1]? = some (.cells (repC b vQ).toArray 44)):=heap_alloc2_new w _ _;have HP:=hid (hp.kept HB0.out);have HQ:=hid (hq.kept HB0.out);obtain ⟨pa,capa,hpa,-⟩:=hp;obtain ⟨qa,capb,hqa,-⟩:=hq;subst hpa;subst hqa;obtain ⟨RA,hRA⟩:∃ RA,RA=(repC a (.slice pa a.pend.length capa)).toArray:=⟨_,rfl⟩;obtain ⟨RB,hRB⟩:∃ RB,RB=(repC b (.slice qa b.pend.length capb)).toArray:=⟨_,rfl⟩;rw [← hRA] at HB0 R0 R1 HP HQ ⊢;rw [← hRB] at HB0 R0 R1 HP HQ ⊢;have HRA:=hid hRA;have HRB:=hid hRB;clear hRA hRB;go_enter func154,ntmps154;go_upto_region 1 with fail
 simp only [List.append_eq,List.cons_append,List.nil_append];generalize (w.alloc (.cells RA 44)).alloc (.cells RB 44)=W0 at *;have r0:=R0.out;have r1:=R1.out;rw [HRA.out] at r0;rw [HRB.out] at r1;obtain ⟨g0,hg0⟩:∃ g0,g0=w.heap.size:=⟨_,rfl⟩;obtain ⟨g1,hg1⟩:∃ g1,g1=w.heap.size + 1:=⟨_,rfl⟩;rw [← hg1] at r1 ⊢;rw [← hg0] at r0 ⊢;have Q0:=hid r0;have Q1:=hid r1;have HA:=hid ha;have HBw:=hid hb;clear R0 R1 HRA HRB hg0 hg1;have c0_number:=c0s r0 ha;have c0_last:=d0f r0 ha;have c0_view:=b0B r0 ha;have s0_commit:=hid (c0W r0 ha);have c0_P:=f0n r0 ha;have c1_number:=c0s r1 hb;have c1_last:=d0f r1 hb;have c1_view:=b0B r1 hb;have s1_commit:=hid (c0W r1 hb);have c1_P:=f0n r1 hb;clear r0 r1
 cases h_number:(a.number == b.number) with
 | false=>as_aux_lemma =>
  have HF:=hid (g0x h_number);have d_number:(a.number == b.number)=false:=h_number;clear h_number;clear ha hb;go_wp2;go_ret;exact ⟨by rw [HF.out];rfl,HB0.out⟩
 | true =>
  cases h_last:(a.last == b.last) with
  | false=>as_aux_lemma =>
   have HF:=hid (i0y h_last);have d_number:(a.number == b.number)=true:=h_number;have d_last:(a.last == b.last)=false:=h_last;clear h_number h_last;clear ha hb;go_wp2;go_ret;exact ⟨by rw [HF.out];rfl,HB0.out⟩
  | true =>
   cases h_view:(a.view == b.view) with
   | false=>as_aux_lemma =>
    have HF:=hid (i0z h_view);have d_number:(a.number == b.number)=true:=h_number;have d_last:(a.last == b.last)=true:=h_last;have d_view:¬ a.view=b.view:=by simpa using h_view
    clear h_number h_last h_view;clear ha hb;go_wp2;go_ret;exact ⟨by rw [HF.out];rfl,HB0.out⟩
   | true =>
    cases h_commit:(a.commit == b.commit) with
    | false=>as_aux_lemma =>
     have HF:=hid (g0y h_commit);have d_number:(a.number == b.number)=true:=h_number;have d_last:(a.last == b.last)=true:=h_last;have d_view:a.view=b.view:=by simpa using h_view
     have E_commit:=fun W=>a0m W a.commit b.commit ha.commit hb.commit;rw [h_commit] at E_commit;have Z0_commit:(prog.info? 38).map (·.size)=some (dg a.commit).length:=by rw [a0e,ha.commit];exact sizeDig
     have Z1_commit:(prog.info? 38).map (·.size)=some (dg b.commit).length:=by rw [a0e,hb.commit];exact sizeDig
     clear h_number h_last h_view h_commit;clear ha hb;generalize dg a.commit=A_commit at *;generalize dg b.commit=B_commit at *
     go_wp2_with (first | ((with_reducible refine a0d 38 (.tmp 25) ?_ g0 3 ?_ ?_ A_commit _ s0_commit.out underlying38 ?_ Z0_commit ?_);iterate 4 exact rfl) | ((with_reducible refine a0d 38 (.tmp 27) ?_ g1 3 ?_ ?_ B_commit _ s1_commit.out underlying38 ?_ Z1_commit ?_);iterate 4 exact rfl))
     go_ret;exact ⟨by rw [HF.out];rfl,HB0.out⟩
    | true =>
     cases h_pend:e0C c0C a.pend b.pend with
     | false=>as_aux_lemma =>
      have HF:=hid (g0h h_pend);have d_number:(a.number == b.number)=true:=h_number;have d_last:(a.last == b.last)=true:=h_last;have d_view:a.view=b.view:=by simpa using h_view
      have E_commit:=fun W=>a0m W a.commit b.commit ha.commit hb.commit;rw [h_commit] at E_commit;have Z0_commit:(prog.info? 38).map (·.size)=some (dg a.commit).length:=by rw [a0e,ha.commit];exact sizeDig
      have Z1_commit:(prog.info? 38).map (·.size)=some (dg b.commit).length:=by rw [a0e,hb.commit];exact sizeDig
      have K_pend:=hid (fun (W:World) (h1:a0g W (.slice pa a.pend.length capa) a.pend) (h2:a0g W (.slice qa b.pend.length capb) b.pend)=>c0Y ha.pend hb.pend h1 h2 hmx);rw [h_pend] at K_pend;clear h_number h_last h_view h_commit h_pend;clear ha hb;generalize dg a.commit=A_commit at *;generalize dg b.commit=B_commit at *
      go_wp2_with (first | ((with_reducible refine a0d 38 (.tmp 25) ?_ g0 3 ?_ ?_ A_commit _ s0_commit.out underlying38 ?_ Z0_commit ?_);iterate 4 exact rfl) | ((with_reducible refine a0d 38 (.tmp 27) ?_ g1 3 ?_ ?_ B_commit _ s1_commit.out underlying38 ?_ Z1_commit ?_);iterate 4 exact rfl))
      refine (K_pend.out _ HP.out HQ.out).mono ?_;rintro e w1 ⟨rfl,hb1⟩;have HB1:=hid (a0b HB0.out hb1);clear hb1;go_wp2;go_ret;exact ⟨by rw [HF.out];rfl,HB1.out⟩
     | true =>
      cases h_vnum:(a.vnum == b.vnum) with
      | false=>as_aux_lemma =>
       have HF:=hid (i0A h_vnum);have d_number:(a.number == b.number)=true:=h_number;have d_last:(a.last == b.last)=true:=h_last;have d_view:a.view=b.view:=by simpa using h_view
       have E_commit:=fun W=>a0m W a.commit b.commit ha.commit hb.commit;rw [h_commit] at E_commit;have Z0_commit:(prog.info? 38).map (·.size)=some (dg a.commit).length:=by rw [a0e,ha.commit];exact sizeDig
       have Z1_commit:(prog.info? 38).map (·.size)=some (dg b.commit).length:=by rw [a0e,hb.commit];exact sizeDig
       have K_pend:=hid (fun (W:World) (h1:a0g W (.slice pa a.pend.length capa) a.pend) (h2:a0g W (.slice qa b.pend.length capb) b.pend)=>c0Y ha.pend hb.pend h1 h2 hmx);rw [h_pend] at K_pend;have d_vnum:(a.vnum == b.vnum)=false:=h_vnum;clear h_number h_last h_view h_commit h_pend h_vnum;have HFx:Hid (∀ W,Below W0.heap.size W0 W->W.heap[g0]? = some (.cells (repC a (.slice pa a.pend.length capa)).toArray 44)/\W.heap[g1]? = some (.cells (repC b (.slice qa b.pend.length capb)).toArray 44)):=fun W hb=>⟨a0a Q0.out hb,a0a Q1.out hb⟩;clear Q0 Q1;obtain ⟨LA,hLA⟩:∃ LA,LA=repC a (.slice pa a.pend.length capa):=⟨_,rfl⟩;obtain ⟨LB,hLB⟩:∃ LB,LB=repC b (.slice qa b.pend.length capb):=⟨_,rfl⟩;rw [← hLA,← hLB] at HFx;have HLA:=hid hLA;have HLB:=hid hLB;clear hLA hLB ha hb;generalize dg a.commit=A_commit at *;generalize dg b.commit=B_commit at *
       go_wp2_with (first | ((with_reducible refine a0d 38 (.tmp 25) ?_ g0 3 ?_ ?_ A_commit _ s0_commit.out underlying38 ?_ Z0_commit ?_);iterate 4 exact rfl) | ((with_reducible refine a0d 38 (.tmp 27) ?_ g1 3 ?_ ?_ B_commit _ s1_commit.out underlying38 ?_ Z1_commit ?_);iterate 4 exact rfl))
       refine (K_pend.out _ HP.out HQ.out).mono ?_;rintro e w1 ⟨rfl,hb1⟩;have HB1:=hid (a0b HB0.out hb1);have ha:=HA.out;have hb:=HBw.out;obtain ⟨q0,q1⟩:=HFx.out _ hb1;rw [HLA.out] at q0;rw [HLB.out] at q1;have c0_vnum:=a0Q q0 ha;have c1_vnum:=a0Q q1 hb;clear hb1 ha hb q0 q1 HFx HLA HLB s0_commit s1_commit E_commit Z0_commit Z1_commit c0_number c1_number c0_last c1_last c0_view c1_view c0_P c1_P;go_wp2;go_ret;exact ⟨by rw [HF.out];rfl,HB1.out⟩
      | true =>
       cases h_value:(a.value == b.value) with
       | false=>as_aux_lemma =>
        have HF:=hid (h0p h_value);have d_number:(a.number == b.number)=true:=h_number;have d_last:(a.last == b.last)=true:=h_last;have d_view:a.view=b.view:=by simpa using h_view
        have E_commit:=fun W=>a0m W a.commit b.commit ha.commit hb.commit;rw [h_commit] at E_commit;have Z0_commit:(prog.info? 38).map (·.size)=some (dg a.commit).length:=by rw [a0e,ha.commit];exact sizeDig
        have Z1_commit:(prog.info? 38).map (·.size)=some (dg b.commit).length:=by rw [a0e,hb.commit];exact sizeDig
        have K_pend:=hid (fun (W:World) (h1:a0g W (.slice pa a.pend.length capa) a.pend) (h2:a0g W (.slice qa b.pend.length capb) b.pend)=>c0Y ha.pend hb.pend h1 h2 hmx);rw [h_pend] at K_pend;have d_vnum:(a.vnum == b.vnum)=true:=h_vnum;have d_value:¬ a.value=b.value:=by simpa using h_value
        clear h_number h_last h_view h_commit h_pend h_vnum h_value;have HFx:Hid (∀ W,Below W0.heap.size W0 W->W.heap[g0]? = some (.cells (repC a (.slice pa a.pend.length capa)).toArray 44)/\W.heap[g1]? = some (.cells (repC b (.slice qa b.pend.length capb)).toArray 44)):=fun W hb=>⟨a0a Q0.out hb,a0a Q1.out hb⟩;clear Q0 Q1;obtain ⟨LA,hLA⟩:∃ LA,LA=repC a (.slice pa a.pend.length capa):=⟨_,rfl⟩;obtain ⟨LB,hLB⟩:∃ LB,LB=repC b (.slice qa b.pend.length capb):=⟨_,rfl⟩;rw [← hLA,← hLB] at HFx;have HLA:=hid hLA;have HLB:=hid hLB;clear hLA hLB ha hb;generalize dg a.commit=A_commit at *;generalize dg b.commit=B_commit at *
        go_wp2_with (first | ((with_reducible refine a0d 38 (.tmp 25) ?_ g0 3 ?_ ?_ A_commit _ s0_commit.out underlying38 ?_ Z0_commit ?_);iterate 4 exact rfl) | ((with_reducible refine a0d 38 (.tmp 27) ?_ g1 3 ?_ ?_ B_commit _ s1_commit.out underlying38 ?_ Z1_commit ?_);iterate 4 exact rfl))
        refine (K_pend.out _ HP.out HQ.out).mono ?_;rintro e w1 ⟨rfl,hb1⟩;have HB1:=hid (a0b HB0.out hb1);have ha:=HA.out;have hb:=HBw.out;obtain ⟨q0,q1⟩:=HFx.out _ hb1;rw [HLA.out] at q0;rw [HLB.out] at q1;have c0_vnum:=a0Q q0 ha;have c0_value:=a0Y q0 ha;have c1_vnum:=a0Q q1 hb;have c1_value:=a0Y q1 hb;clear hb1 ha hb q0 q1 HFx HLA HLB s0_commit s1_commit E_commit Z0_commit Z1_commit c0_number c1_number c0_last c1_last c0_view c1_view c0_P c1_P;go_wp2;go_ret;exact ⟨by rw [HF.out];rfl,HB1.out⟩
       | true =>
        cases h_data:(a.data == b.data) with
        | false=>as_aux_lemma =>
         have HF:=hid (i0B h_data);have d_number:(a.number == b.number)=true:=h_number;have d_last:(a.last == b.last)=true:=h_last;have d_view:a.view=b.view:=by simpa using h_view
         have E_commit:=fun W=>a0m W a.commit b.commit ha.commit hb.commit;rw [h_commit] at E_commit;have Z0_commit:(prog.info? 38).map (·.size)=some (dg a.commit).length:=by rw [a0e,ha.commit];exact sizeDig
         have Z1_commit:(prog.info? 38).map (·.size)=some (dg b.commit).length:=by rw [a0e,hb.commit];exact sizeDig
         have K_pend:=hid (fun (W:World) (h1:a0g W (.slice pa a.pend.length capa) a.pend) (h2:a0g W (.slice qa b.pend.length capb) b.pend)=>c0Y ha.pend hb.pend h1 h2 hmx);rw [h_pend] at K_pend;have d_vnum:(a.vnum == b.vnum)=true:=h_vnum;have d_value:a.value=b.value:=by simpa using h_value
         have E_data:=fun W=>a0m W a.data b.data ha.data hb.data;rw [h_data] at E_data;have Z0_data:(prog.info? 38).map (·.size)=some (dg a.data).length:=by rw [a0e,ha.data];exact sizeDig
         have Z1_data:(prog.info? 38).map (·.size)=some (dg b.data).length:=by rw [a0e,hb.data];exact sizeDig
         clear h_number h_last h_view h_commit h_pend h_vnum h_value h_data;have HFx:Hid (∀ W,Below W0.heap.size W0 W->W.heap[g0]? = some (.cells (repC a (.slice pa a.pend.length capa)).toArray 44)/\W.heap[g1]? = some (.cells (repC b (.slice qa b.pend.length capb)).toArray 44)):=fun W hb=>⟨a0a Q0.out hb,a0a Q1.out hb⟩;clear Q0 Q1;obtain ⟨LA,hLA⟩:∃ LA,LA=repC a (.slice pa a.pend.length capa):=⟨_,rfl⟩;obtain ⟨LB,hLB⟩:∃ LB,LB=repC b (.slice qa b.pend.length capb):=⟨_,rfl⟩;rw [← hLA,← hLB] at HFx;have HLA:=hid hLA;have HLB:=hid hLB;clear hLA hLB ha hb;generalize dg a.commit=A_commit at *;generalize dg b.commit=B_commit at *
         go_wp2_with (first | ((with_reducible refine a0d 38 (.tmp 25) ?_ g0 3 ?_ ?_ A_commit _ s0_commit.out underlying38 ?_ Z0_commit ?_);iterate 4 exact rfl) | ((with_reducible refine a0d 38 (.tmp 27) ?_ g1 3 ?_ ?_ B_commit _ s1_commit.out underlying38 ?_ Z1_commit ?_);iterate 4 exact rfl))
         refine (K_pend.out _ HP.out HQ.out).mono ?_;rintro e w1 ⟨rfl,hb1⟩;have HB1:=hid (a0b HB0.out hb1);have ha:=HA.out;have hb:=HBw.out;obtain ⟨q0,q1⟩:=HFx.out _ hb1;rw [HLA.out] at q0;rw [HLB.out] at q1;have c0_vnum:=a0Q q0 ha;have c0_value:=a0Y q0 ha;have s0_data:=hid (b0S q0 ha);have c1_vnum:=a0Q q1 hb;have c1_value:=a0Y q1 hb;have s1_data:=hid (b0S q1 hb);clear hb1 ha hb q0 q1 HFx HLA HLB s0_commit s1_commit E_commit Z0_commit Z1_commit c0_number c1_number c0_last c1_last c0_view c1_view c0_P c1_P;generalize dg a.data=A_data at *;generalize dg b.data=B_data at *
         go_wp2_with (first | ((with_reducible refine a0d 38 (.tmp 53) ?_ g0 38 ?_ ?_ A_data _ s0_data.out underlying38 ?_ Z0_data ?_);iterate 4 exact rfl) | ((with_reducible refine a0d 38 (.tmp 55) ?_ g1 38 ?_ ?_ B_data _ s1_data.out underlying38 ?_ Z1_data ?_);iterate 4 exact rfl))
         go_ret;exact ⟨by rw [HF.out];rfl,HB1.out⟩
        | true =>
         cases h_seen:(a.seen == b.seen) with
         | false=>as_aux_lemma =>
          have HF:=hid (i0C h_seen);have d_number:(a.number == b.number)=true:=h_number;have d_last:(a.last == b.last)=true:=h_last;have d_view:a.view=b.view:=by simpa using h_view
          have E_commit:=fun W=>a0m W a.commit b.commit ha.commit hb.commit;rw [h_commit] at E_commit;have Z0_commit:(prog.info? 38).map (·.size)=some (dg a.commit).length:=by rw [a0e,ha.commit];exact sizeDig
          have Z1_commit:(prog.info? 38).map (·.size)=some (dg b.commit).length:=by rw [a0e,hb.commit];exact sizeDig
          have K_pend:=hid (fun (W:World) (h1:a0g W (.slice pa a.pend.length capa) a.pend) (h2:a0g W (.slice qa b.pend.length capb) b.pend)=>c0Y ha.pend hb.pend h1 h2 hmx);rw [h_pend] at K_pend;have d_vnum:(a.vnum == b.vnum)=true:=h_vnum;have d_value:a.value=b.value:=by simpa using h_value
          have E_data:=fun W=>a0m W a.data b.data ha.data hb.data;rw [h_data] at E_data;have Z0_data:(prog.info? 38).map (·.size)=some (dg a.data).length:=by rw [a0e,ha.data];exact sizeDig
          have Z1_data:(prog.info? 38).map (·.size)=some (dg b.data).length:=by rw [a0e,hb.data];exact sizeDig
          have d_seen:¬ a.seen=b.seen:=by simpa using h_seen
          clear h_number h_last h_view h_commit h_pend h_vnum h_value h_data h_seen;have HFx:Hid (∀ W,Below W0.heap.size W0 W->W.heap[g0]? = some (.cells (repC a (.slice pa a.pend.length capa)).toArray 44)/\W.heap[g1]? = some (.cells (repC b (.slice qa b.pend.length capb)).toArray 44)):=fun W hb=>⟨a0a Q0.out hb,a0a Q1.out hb⟩;clear Q0 Q1;obtain ⟨LA,hLA⟩:∃ LA,LA=repC a (.slice pa a.pend.length capa):=⟨_,rfl⟩;obtain ⟨LB,hLB⟩:∃ LB,LB=repC b (.slice qa b.pend.length capb):=⟨_,rfl⟩;rw [← hLA,← hLB] at HFx;have HLA:=hid hLA;have HLB:=hid hLB;clear hLA hLB ha hb;generalize dg a.commit=A_commit at *;generalize dg b.commit=B_commit at *
          go_wp2_with (first | ((with_reducible refine a0d 38 (.tmp 25) ?_ g0 3 ?_ ?_ A_commit _ s0_commit.out underlying38 ?_ Z0_commit ?_);iterate 4 exact rfl) | ((with_reducible refine a0d 38 (.tmp 27) ?_ g1 3 ?_ ?_ B_commit _ s1_commit.out underlying38 ?_ Z1_commit ?_);iterate 4 exact rfl))
          refine (K_pend.out _ HP.out HQ.out).mono ?_;rintro e w1 ⟨rfl,hb1⟩;have HB1:=hid (a0b HB0.out hb1);have ha:=HA.out;have hb:=HBw.out;obtain ⟨q0,q1⟩:=HFx.out _ hb1;rw [HLA.out] at q0;rw [HLB.out] at q1;have c0_vnum:=a0Q q0 ha;have c0_value:=a0Y q0 ha;have s0_data:=hid (b0S q0 ha);have c0_seen:=b0x q0 ha;have c1_vnum:=a0Q q1 hb;have c1_value:=a0Y q1 hb;have s1_data:=hid (b0S q1 hb);have c1_seen:=b0x q1 hb;clear hb1 ha hb q0 q1 HFx HLA HLB s0_commit s1_commit E_commit Z0_commit Z1_commit c0_number c1_number c0_last c1_last c0_view c1_view c0_P c1_P;generalize dg a.data=A_data at *;generalize dg b.data=B_data at *
          go_wp2_with (first | ((with_reducible refine a0d 38 (.tmp 53) ?_ g0 38 ?_ ?_ A_data _ s0_data.out underlying38 ?_ Z0_data ?_);iterate 4 exact rfl) | ((with_reducible refine a0d 38 (.tmp 55) ?_ g1 38 ?_ ?_ B_data _ s1_data.out underlying38 ?_ Z1_data ?_);iterate 4 exact rfl))
          go_ret;exact ⟨by rw [HF.out];rfl,HB1.out⟩
         | true =>
          cases h_stag:(a.stag == b.stag) with
          | false=>as_aux_lemma =>
           have HF:=hid (i0D h_stag);have d_number:(a.number == b.number)=true:=h_number;have d_last:(a.last == b.last)=true:=h_last;have d_view:a.view=b.view:=by simpa using h_view
           have E_commit:=fun W=>a0m W a.commit b.commit ha.commit hb.commit;rw [h_commit] at E_commit;have Z0_commit:(prog.info? 38).map (·.size)=some (dg a.commit).length:=by rw [a0e,ha.commit];exact sizeDig
           have Z1_commit:(prog.info? 38).map (·.size)=some (dg b.commit).length:=by rw [a0e,hb.commit];exact sizeDig
           have K_pend:=hid (fun (W:World) (h1:a0g W (.slice pa a.pend.length capa) a.pend) (h2:a0g W (.slice qa b.pend.length capb) b.pend)=>c0Y ha.pend hb.pend h1 h2 hmx);rw [h_pend] at K_pend;have d_vnum:(a.vnum == b.vnum)=true:=h_vnum;have d_value:a.value=b.value:=by simpa using h_value
           have E_data:=fun W=>a0m W a.data b.data ha.data hb.data;rw [h_data] at E_data;have Z0_data:(prog.info? 38).map (·.size)=some (dg a.data).length:=by rw [a0e,ha.data];exact sizeDig
           have Z1_data:(prog.info? 38).map (·.size)=some (dg b.data).length:=by rw [a0e,hb.data];exact sizeDig
           have d_seen:a.seen=b.seen:=by simpa using h_seen
           have E_stag:=fun W=>a0m W a.stag b.stag ha.stag hb.stag;rw [h_stag] at E_stag;have Z0_stag:(prog.info? 38).map (·.size)=some (dg a.stag).length:=by rw [a0e,ha.stag];exact sizeDig
           have Z1_stag:(prog.info? 38).map (·.size)=some (dg b.stag).length:=by rw [a0e,hb.stag];exact sizeDig
           clear h_number h_last h_view h_commit h_pend h_vnum h_value h_data h_seen h_stag;have HFx:Hid (∀ W,Below W0.heap.size W0 W->W.heap[g0]? = some (.cells (repC a (.slice pa a.pend.length capa)).toArray 44)/\W.heap[g1]? = some (.cells (repC b (.slice qa b.pend.length capb)).toArray 44)):=fun W hb=>⟨a0a Q0.out hb,a0a Q1.out hb⟩;clear Q0 Q1;obtain ⟨LA,hLA⟩:∃ LA,LA=repC a (.slice pa a.pend.length capa):=⟨_,rfl⟩;obtain ⟨LB,hLB⟩:∃ LB,LB=repC b (.slice qa b.pend.length capb):=⟨_,rfl⟩;rw [← hLA,← hLB] at HFx;have HLA:=hid hLA;have HLB:=hid hLB;clear hLA hLB ha hb;generalize dg a.commit=A_commit at *;generalize dg b.commit=B_commit at *
           go_wp2_with (first | ((with_reducible refine a0d 38 (.tmp 25) ?_ g0 3 ?_ ?_ A_commit _ s0_commit.out underlying38 ?_ Z0_commit ?_);iterate 4 exact rfl) | ((with_reducible refine a0d 38 (.tmp 27) ?_ g1 3 ?_ ?_ B_commit _ s1_commit.out underlying38 ?_ Z1_commit ?_);iterate 4 exact rfl))
           refine (K_pend.out _ HP.out HQ.out).mono ?_;rintro e w1 ⟨rfl,hb1⟩;have HB1:=hid (a0b HB0.out hb1);have ha:=HA.out;have hb:=HBw.out;obtain ⟨q0,q1⟩:=HFx.out _ hb1;rw [HLA.out] at q0;rw [HLB.out] at q1;have c0_vnum:=a0Q q0 ha;have c0_value:=a0Y q0 ha;have s0_data:=hid (b0S q0 ha);have c0_seen:=b0x q0 ha;have s0_stag:=hid (d0g q0 ha);have c1_vnum:=a0Q q1 hb;have c1_value:=a0Y q1 hb;have s1_data:=hid (b0S q1 hb);have c1_seen:=b0x q1 hb;have s1_stag:=hid (d0g q1 hb);clear hb1 ha hb q0 q1 HFx HLA HLB s0_commit s1_commit E_commit Z0_commit Z1_commit c0_number c1_number c0_last c1_last c0_view c1_view c0_P c1_P;generalize dg a.data=A_data at *;generalize dg b.data=B_data at *;generalize dg a.stag=A_stag at *;generalize dg b.stag=B_stag at *
           go_wp2_with (first | ((with_reducible refine a0d 38 (.tmp 53) ?_ g0 38 ?_ ?_ A_data _ s0_data.out underlying38 ?_ Z0_data ?_);iterate 4 exact rfl) | ((with_reducible refine a0d 38 (.tmp 55) ?_ g1 38 ?_ ?_ B_data _ s1_data.out underlying38 ?_ Z1_data ?_);iterate 4 exact rfl) | ((with_reducible refine a0d 38 (.tmp 67) ?_ g0 71 ?_ ?_ A_stag _ s0_stag.out underlying38 ?_ Z0_stag ?_);iterate 4 exact rfl) | ((with_reducible refine a0d 38 (.tmp 69) ?_ g1 71 ?_ ?_ B_stag _ s1_stag.out underlying38 ?_ Z1_stag ?_);iterate 4 exact rfl))
           go_ret;exact ⟨by rw [HF.out];rfl,HB1.out⟩
          | true =>
           as_aux_lemma =>
           have HF:=hid (m0z h_number h_last h_view h_commit h_pend h_vnum h_value h_data h_seen h_stag);have d_number:(a.number == b.number)=true:=h_number;have d_last:(a.last == b.last)=true:=h_last;have d_view:a.view=b.view:=by simpa using h_view
           have E_commit:=fun W=>a0m W a.commit b.commit ha.commit hb.commit;rw [h_commit] at E_commit;have Z0_commit:(prog.info? 38).map (·.size)=some (dg a.commit).length:=by rw [a0e,ha.commit];exact sizeDig
           have Z1_commit:(prog.info? 38).map (·.size)=some (dg b.commit).length:=by rw [a0e,hb.commit];exact sizeDig
           have K_pend:=hid (fun (W:World) (h1:a0g W (.slice pa a.pend.length capa) a.pend) (h2:a0g W (.slice qa b.pend.length capb) b.pend)=>c0Y ha.pend hb.pend h1 h2 hmx);rw [h_pend] at K_pend;have d_vnum:(a.vnum == b.vnum)=true:=h_vnum;have d_value:a.value=b.value:=by simpa using h_value
           have E_data:=fun W=>a0m W a.data b.data ha.data hb.data;rw [h_data] at E_data;have Z0_data:(prog.info? 38).map (·.size)=some (dg a.data).length:=by rw [a0e,ha.data];exact sizeDig
           have Z1_data:(prog.info? 38).map (·.size)=some (dg b.data).length:=by rw [a0e,hb.data];exact sizeDig
           have d_seen:a.seen=b.seen:=by simpa using h_seen
           have E_stag:=fun W=>a0m W a.stag b.stag ha.stag hb.stag;rw [h_stag] at E_stag;have Z0_stag:(prog.info? 38).map (·.size)=some (dg a.stag).length:=by rw [a0e,ha.stag];exact sizeDig
           have Z1_stag:(prog.info? 38).map (·.size)=some (dg b.stag).length:=by rw [a0e,hb.stag];exact sizeDig
           clear h_number h_last h_view h_commit h_pend h_vnum h_value h_data h_seen h_stag;have HFx:Hid (∀ W,Below W0.heap.size W0 W->W.heap[g0]? = some (.cells (repC a (.slice pa a.pend.length capa)).toArray 44)/\W.heap[g1]? = some (.cells (repC b (.slice qa b.pend.length capb)).toArray 44)):=fun W hb=>⟨a0a Q0.out hb,a0a Q1.out hb⟩;clear Q0 Q1;obtain ⟨LA,hLA⟩:∃ LA,LA=repC a (.slice pa a.pend.length capa):=⟨_,rfl⟩;obtain ⟨LB,hLB⟩:∃ LB,LB=repC b (.slice qa b.pend.length capb):=⟨_,rfl⟩;rw [← hLA,← hLB] at HFx;have HLA:=hid hLA;have HLB:=hid hLB;clear hLA hLB ha hb;generalize dg a.commit=A_commit at *;generalize dg b.commit=B_commit at *
           go_wp2_with (first | ((with_reducible refine a0d 38 (.tmp 25) ?_ g0 3 ?_ ?_ A_commit _ s0_commit.out underlying38 ?_ Z0_commit ?_);iterate 4 exact rfl) | ((with_reducible refine a0d 38 (.tmp 27) ?_ g1 3 ?_ ?_ B_commit _ s1_commit.out underlying38 ?_ Z1_commit ?_);iterate 4 exact rfl))
           refine (K_pend.out _ HP.out HQ.out).mono ?_;rintro e w1 ⟨rfl,hb1⟩;have HB1:=hid (a0b HB0.out hb1);have ha:=HA.out;have hb:=HBw.out;obtain ⟨q0,q1⟩:=HFx.out _ hb1;rw [HLA.out] at q0;rw [HLB.out] at q1;have c0_vnum:=a0Q q0 ha;have c0_value:=a0Y q0 ha;have s0_data:=hid (b0S q0 ha);have c0_seen:=b0x q0 ha;have s0_stag:=hid (d0g q0 ha);have c1_vnum:=a0Q q1 hb;have c1_value:=a0Y q1 hb;have s1_data:=hid (b0S q1 hb);have c1_seen:=b0x q1 hb;have s1_stag:=hid (d0g q1 hb);clear hb1 ha hb q0 q1 HFx HLA HLB s0_commit s1_commit E_commit Z0_commit Z1_commit c0_number c1_number c0_last c1_last c0_view c1_view c0_P c1_P;generalize dg a.data=A_data at *;generalize dg b.data=B_data at *;generalize dg a.stag=A_stag at *;generalize dg b.stag=B_stag at *
           go_wp2_with (first | ((with_reducible refine a0d 38 (.tmp 53) ?_ g0 38 ?_ ?_ A_data _ s0_data.out underlying38 ?_ Z0_data ?_);iterate 4 exact rfl) | ((with_reducible refine a0d 38 (.tmp 55) ?_ g1 38 ?_ ?_ B_data _ s1_data.out underlying38 ?_ Z1_data ?_);iterate 4 exact rfl) | ((with_reducible refine a0d 38 (.tmp 67) ?_ g0 71 ?_ ?_ A_stag _ s0_stag.out underlying38 ?_ Z0_stag ?_);iterate 4 exact rfl) | ((with_reducible refine a0d 38 (.tmp 69) ?_ g1 71 ?_ ?_ B_stag _ s1_stag.out underlying38 ?_ Z1_stag ?_);iterate 4 exact rfl))
           go_ret;exact ⟨by rw [HF.out];rfl,HB1.out⟩
end Go.Proofs.YtagmnmoaekbffaaGreatDoor.Ms
