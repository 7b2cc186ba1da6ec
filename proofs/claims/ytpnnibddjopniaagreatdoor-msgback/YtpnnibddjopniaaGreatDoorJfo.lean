/-
  The list of fields that a message's kind has: what msg.fieldsOf answers.
-/
import Derived.Test.YtpnnibddjopniaaGreatDoorJfs
namespace Go.Proofs.YtpnnibddjopniaaGreatDoor.Ms
open Go Go.RowKit
set_option maxRecDepth 100000

theorem fnil (w : World) (g : Nat) : FieldsAt w (.slice none 0 0) g [] := ⟨none, [], rfl, rfl, fun h => absurd rfl h, fun j hj => absurd hj (Nat.not_lt_zero j)⟩
theorem wl_bs1 {ops : Array Oper} {rest : List Oper} {o : Oper} {a : Act} {w : World} {Q : Exit → Act → World → Prop} (hg : o.guard = none) (x : Operand) (ho : o.op = .buildSlice 53 1 #[(0, x)]) (V : List Value) (hV : V.length = 3) (hx : a.eval x = .agg V.toArray)
    (h : wpList Tryz.prog ops Q rest (a.put o.dst (.slice (some ⟨w.heap.size, 0, none⟩) 1 1)) (w.alloc (.cells V.toArray 91))) : wpList Tryz.prog ops Q (o :: rest) a w := by
  have hs := sizeFld
  have hz := infoFld
  cases hie : Tryz.prog.info? 91 with
  | none => simp [hie] at hs
  | some ie =>
    simp only [hie, Option.map_some, Option.some.injEq, Option.bind_some] at hs hz
    cases hzz : ie.zero with
    | none => rw [hzz] at hz; cases hz
    | some z =>
      rw [hzz] at hz
      have hz3 : z.cells.size = 3 := by simpa using hz
      have hfill := Great.fill_whole (s := 3) (by omega) [Value.agg V.toArray] ((Array.range (1 * 3)).map (z.cells[· % z.cells.size]!)) (by intro v hv; simp at hv; subst hv; simpa [Value.cells] using hV) (by simp)
      have e1 : (([Value.agg V.toArray].zipIdx 0).map fun x => (x.2, x.1)) = (#[(0, x)].map fun (i, x) => (i, a.eval x)).toList := by simp [hx]
      have e2 : ([Value.agg V.toArray].flatMap fun v => v.cells.toList).toArray = V.toArray := by simp [Value.cells]
      rw [e1, e2] at hfill
      exact wpList_buildSlice hg 53 91 1 _ ho V.toArray ie z Tryz.underlying53 hie hzz (by rw [hs]; omega) (by rw [hs]; omega) (by rw [hs]; exact hfill) h
set_option maxHeartbeats 8000000 in
theorem fieldsof_any (g : Nat) (kind : Int) (w : World) (hk : w.cell? ⟨g, 0, none⟩ = some (nu kind)) : Calls Tryz.prog 27 #[ptr g 0] w fun e w' => ∃ v, e = .returned v ∧ FieldsAt w' v g (spots 0 (fieldsM kind)) ∧ Below w.heap.size w w' := by
  have HM := hid (mk_num g 1 w)
  go_enter Tryz.func27, Tryz.ntmps27
  go_wp2_with fail
  refine HM.out.mono ?_
  rintro e w1 ⟨cb, rfl, hF, hb⟩
  have HB2 := hid (below_two hb (below_a1 w1 (.cells (fieldV .num cb).toArray 91)))
  have HCr := hid (top_obj w1 (.cells (fieldV .num cb).toArray 91))
  have HCf := hid (hF.stays (below_a1 w1 (.cells (fieldV .num cb).toArray 91)))
  have HO := hid (one_fld .num cb)
  have hL : ([.nilFunc, .nilFunc, .nilFunc] : List Value).length = (fieldV .num cb).length := rfl
  have hI : (Tryz.prog.info? 91).map (·.size) = some (fieldV .num cb).length := sizeFld
  have k0 : (w1.alloc (.cells (fieldV .num cb).toArray 91)).cell? ⟨g, 0, none⟩ = some (nu kind) := (HB2.out.cell (p := ⟨g, 0, none⟩) (World.block_lt_of_cell? w _ hk)).trans hk
  clear hb hF HM hk
  obtain ⟨V, hV⟩ : ∃ V, V = fieldV .num cb := ⟨_, rfl⟩
  rw [← hV] at HO hL hI k0 HB2 HCr HCf ⊢
  have HV := hid hV
  clear hV
  go_upto_region 2 with (first | ((with_reducible refine wl_store_top 91 (.tmp 3) (.tmp 9) ?_ ?_ ?_ ?_ V [.nilFunc, .nilFunc, .nilFunc] ?_ 91 hL HO.out hI ?_); exact rfl; exact rfl; exact rfl; exact rfl; exact rfl))
  obtain ⟨c, hc⟩ : ∃ c, c = w1.heap.size := ⟨_, rfl⟩
  generalize w1.alloc (.cells V.toArray 91) = W2 at *
  rw [← hc] at HCr ⊢
  rw [HV.out] at HCr
  clear hc hL hI HO HV
  rcases fields_cases kind with ⟨hk, e⟩ | ⟨hk, e⟩ | ⟨hk, e⟩ | ⟨hk, e⟩ | ⟨hk, e⟩ | ⟨hk, e⟩ | ⟨hk, e⟩ | ⟨hk, e⟩ | ⟨hk, e⟩
  · as_aux_lemma =>
    subst hk
    go_wp2_with fail
    refine wp_region_mid (N := 128) (keep := [3, 4]) (val := valOf [IsF .num g 1, vc (ptr g 2), vc (ptr g 2), vc (ptr g (2 + 0)), IsF .num g (2 + 0), vc (ptr g 2), vc (ptr g 2), vc (ptr g (2 + 1)), IsF .num g (2 + 1), vc (ptr g 2), vc (ptr g 2), vc (ptr g (2 + 2)), IsF .num g (2 + 2), vc (ptr g 2), vc (ptr g 2), vc (ptr g (2 + 3)), IsF .txt g (2 + 3), vc (ptr g 2), vc (ptr g 2), vc (ptr g (2 + 4)), IsF .dig g (2 + 4), vc (ptr g 2), vc (ptr g 2), vc (ptr g (2 + 36)), IsF .dig g (2 + 36), vF g [(.num, 1), (.num, (2 + 0)), (.num, (2 + 1)), (.num, (2 + 2)), (.txt, (2 + 3)), (.dig, (2 + 4)), (.dig, (2 + 36))], vF g [(.num, 1), (.num, (2 + 0)), (.num, (2 + 1)), (.num, (2 + 2)), (.txt, (2 + 3)), (.dig, (2 + 4)), (.dig, (2 + 36))]]) (by kernel_rfl) (by kernel_rfl) rfl (mono_of (by
        intro p hp
        simp only [List.mem_cons, List.not_mem_nil, or_false] at hp
        rcases hp with rfl | rfl | rfl | rfl | rfl | rfl | rfl | rfl | rfl | rfl | rfl | rfl | rfl | rfl | rfl | rfl | rfl | rfl | rfl | rfl | rfl | rfl | rfl | rfl | rfl | rfl | rfl
        all_goals first | exact mono_vc _ | exact mono_isF _ _ _ | exact mono_vF _ _)) ?_ ?_
    · intro i o ho
      match i, ho with
      | 0, ho => cases ho; exact ow_ld 3 c .num g 1 cb rfl rfl rfl HCr.out HCf.out _ Tryz.underlying91 rfl sizeFld rfl
      | 1, ho => cases ho; exact ow_move 4 (ptr g 2) rfl rfl rfl rfl
      | 2, ho => cases ho; exact ow_nil 20 1 g 2 rfl (by kernel_rfl) (by kernel_rfl) rfl rfl
      | 3, ho => cases ho; exact ow_fa 21 2 25 0 g 2 0 rfl (fun W => fa25_0 _ _ W) (by kernel_rfl) (by kernel_rfl) rfl rfl
      | 4, ho => cases ho; exact ow_mk 22 3 58 _ .num g (2 + 0) rfl (fun x W => call_num x W) (fun W => mk_num g (2 + 0) W) (by kernel_rfl) (by kernel_rfl) rfl rfl
      | 5, ho => cases ho; exact ow_move 4 (ptr g 2) rfl rfl rfl rfl
      | 6, ho => cases ho; exact ow_nil 24 5 g 2 rfl (by kernel_rfl) (by kernel_rfl) rfl rfl
      | 7, ho => cases ho; exact ow_fa 25 6 25 1 g 2 1 rfl (fun W => fa25_1 _ _ W) (by kernel_rfl) (by kernel_rfl) rfl rfl
      | 8, ho => cases ho; exact ow_mk 26 7 58 _ .num g (2 + 1) rfl (fun x W => call_num x W) (fun W => mk_num g (2 + 1) W) (by kernel_rfl) (by kernel_rfl) rfl rfl
      | 9, ho => cases ho; exact ow_move 4 (ptr g 2) rfl rfl rfl rfl
      | 10, ho => cases ho; exact ow_nil 28 9 g 2 rfl (by kernel_rfl) (by kernel_rfl) rfl rfl
      | 11, ho => cases ho; exact ow_fa 29 10 25 2 g 2 2 rfl (fun W => fa25_2 _ _ W) (by kernel_rfl) (by kernel_rfl) rfl rfl
      | 12, ho => cases ho; exact ow_mk 30 11 58 _ .num g (2 + 2) rfl (fun x W => call_num x W) (fun W => mk_num g (2 + 2) W) (by kernel_rfl) (by kernel_rfl) rfl rfl
      | 13, ho => cases ho; exact ow_move 4 (ptr g 2) rfl rfl rfl rfl
      | 14, ho => cases ho; exact ow_nil 32 13 g 2 rfl (by kernel_rfl) (by kernel_rfl) rfl rfl
      | 15, ho => cases ho; exact ow_fa 33 14 25 3 g 2 3 rfl (fun W => fa25_3 _ _ W) (by kernel_rfl) (by kernel_rfl) rfl rfl
      | 16, ho => cases ho; exact ow_mk 34 15 59 _ .txt g (2 + 3) rfl (fun x W => call_txt x W) (fun W => mk_txt g (2 + 3) W) (by kernel_rfl) (by kernel_rfl) rfl rfl
      | 17, ho => cases ho; exact ow_move 4 (ptr g 2) rfl rfl rfl rfl
      | 18, ho => cases ho; exact ow_nil 36 17 g 2 rfl (by kernel_rfl) (by kernel_rfl) rfl rfl
      | 19, ho => cases ho; exact ow_fa 37 18 25 4 g 2 4 rfl (fun W => fa25_4 _ _ W) (by kernel_rfl) (by kernel_rfl) rfl rfl
      | 20, ho => cases ho; exact ow_mk 38 19 60 _ .dig g (2 + 4) rfl (fun x W => call_dig x W) (fun W => mk_dig g (2 + 4) W) (by kernel_rfl) (by kernel_rfl) rfl rfl
      | 21, ho => cases ho; exact ow_move 4 (ptr g 2) rfl rfl rfl rfl
      | 22, ho => cases ho; exact ow_nil 40 21 g 2 rfl (by kernel_rfl) (by kernel_rfl) rfl rfl
      | 23, ho => cases ho; exact ow_fa 41 22 25 5 g 2 36 rfl (fun W => fa25_5 _ _ W) (by kernel_rfl) (by kernel_rfl) rfl rfl
      | 24, ho => cases ho; exact ow_mk 42 23 60 _ .dig g (2 + 36) rfl (fun x W => call_dig x W) (fun W => mk_dig g (2 + 36) W) (by kernel_rfl) (by kernel_rfl) rfl rfl
      | 25, ho => cases ho; exact ow_bs 53 91 7 _ g [(.num, 1), (.num, (2 + 0)), (.num, (2 + 1)), (.num, (2 + 2)), (.txt, (2 + 3)), (.dig, (2 + 4)), (.dig, (2 + 36))] [(0, 19), (4, 23), (8, 27), (12, 31), (16, 35), (20, 39), (24, 43)] rfl Tryz.underlying53 rfl sizeFld infoFld rfl (by decide) (by decide) rfl rfl (by kernel_rfl) (by intro j hj; match j, hj with | 0, _ => rfl | 1, _ => rfl | 2, _ => rfl | 3, _ => rfl | 4, _ => rfl | 5, _ => rfl | 6, _ => rfl) rfl
      | 26, ho => cases ho; exact ow_assign 44 25 g [(.num, 1), (.num, (2 + 0)), (.num, (2 + 1)), (.num, (2 + 2)), (.txt, (2 + 3)), (.dig, (2 + 4)), (.dig, (2 + 36))] rfl (by kernel_rfl) (by kernel_rfl) rfl rfl
      | (i + 27), ho => exact absurd ho (by simp)
    · intro a w' hB hs hd hk2 hv
      have h2 := hv 26 2 (by kernel_rfl)
      have HB3 := hid (below_two HB2.out hB)
      obtain ⟨tm, df⟩ := a
      obtain rfl : df = [] := hd
      go_wp2
      go_ret
      exact ⟨_, rfl, h2, HB3.out⟩
  · as_aux_lemma =>
    subst hk
    have HR := hid (fun W => repfields_any g 70 W)
    go_wp2_with fail
    refine (HR.out _).mono ?_
    rintro e1 w3 ⟨v, rfl, h2, hb⟩
    have HB3 := hid (below_two HB2.out hb)
    have H2 := hid h2
    obtain ⟨av, bs, rfl, -⟩ := h2
    clear hb
    go_wp2
    go_ret
    exact ⟨_, rfl, H2.out, HB3.out⟩
  · as_aux_lemma =>
    subst hk
    go_wp2_with fail
    refine wp_region_mid (N := 128) (keep := [0, 3]) (val := valOf [IsF .num g 1, vc (ptr g 0), vc (ptr g 0), vc (ptr g (0 + 173)), IsF .txt g (0 + 173), vc (ptr g 0), vc (ptr g 0), vc (ptr g (0 + 175)), IsF .dig g (0 + 175), vF g [(.num, 1), (.txt, (0 + 173)), (.dig, (0 + 175))], vF g [(.num, 1), (.txt, (0 + 173)), (.dig, (0 + 175))]]) (by kernel_rfl) (by kernel_rfl) rfl (mono_of (by
        intro p hp
        simp only [List.mem_cons, List.not_mem_nil, or_false] at hp
        rcases hp with rfl | rfl | rfl | rfl | rfl | rfl | rfl | rfl | rfl | rfl | rfl
        all_goals first | exact mono_vc _ | exact mono_isF _ _ _ | exact mono_vF _ _)) ?_ ?_
    · intro i o ho
      match i, ho with
      | 0, ho => cases ho; exact ow_ld 3 c .num g 1 cb rfl rfl rfl HCr.out HCf.out _ Tryz.underlying91 rfl sizeFld rfl
      | 1, ho => cases ho; exact ow_move 0 (ptr g 0) rfl rfl rfl rfl
      | 2, ho => cases ho; exact ow_nil 54 1 g 0 rfl (by kernel_rfl) (by kernel_rfl) rfl rfl
      | 3, ho => cases ho; exact ow_fa 55 2 33 4 g 0 173 rfl (fun W => fa33_4 _ _ W) (by kernel_rfl) (by kernel_rfl) rfl rfl
      | 4, ho => cases ho; exact ow_mk 56 3 59 _ .txt g (0 + 173) rfl (fun x W => call_txt x W) (fun W => mk_txt g (0 + 173) W) (by kernel_rfl) (by kernel_rfl) rfl rfl
      | 5, ho => cases ho; exact ow_move 0 (ptr g 0) rfl rfl rfl rfl
      | 6, ho => cases ho; exact ow_nil 58 5 g 0 rfl (by kernel_rfl) (by kernel_rfl) rfl rfl
      | 7, ho => cases ho; exact ow_fa 59 6 33 6 g 0 175 rfl (fun W => fa33_6 _ _ W) (by kernel_rfl) (by kernel_rfl) rfl rfl
      | 8, ho => cases ho; exact ow_mk 60 7 60 _ .dig g (0 + 175) rfl (fun x W => call_dig x W) (fun W => mk_dig g (0 + 175) W) (by kernel_rfl) (by kernel_rfl) rfl rfl
      | 9, ho => cases ho; exact ow_bs 53 91 3 _ g [(.num, 1), (.txt, (0 + 173)), (.dig, (0 + 175))] [(0, 53), (4, 57), (8, 61)] rfl Tryz.underlying53 rfl sizeFld infoFld rfl (by decide) (by decide) rfl rfl (by kernel_rfl) (by intro j hj; match j, hj with | 0, _ => rfl | 1, _ => rfl | 2, _ => rfl) rfl
      | 10, ho => cases ho; exact ow_assign 62 9 g [(.num, 1), (.txt, (0 + 173)), (.dig, (0 + 175))] rfl (by kernel_rfl) (by kernel_rfl) rfl rfl
      | (i + 11), ho => exact absurd ho (by simp)
    · intro a w' hB hs hd hk2 hv
      have h2 := hv 10 2 (by kernel_rfl)
      have HB3 := hid (below_two HB2.out hB)
      obtain ⟨tm, df⟩ := a
      obtain rfl : df = [] := hd
      go_wp2
      go_ret
      exact ⟨_, rfl, h2, HB3.out⟩
  · rcases hk with hk | hk
    · as_aux_lemma =>
      subst hk
      go_wp2_with fail
      refine wp_region_mid (N := 128) (keep := [5]) (val := valOf [vc (ptr g 239), vc (ptr g 239), vc (ptr g (239 + 0)), IsF .num g (239 + 0), vc (ptr g 239), vc (ptr g 239), vc (ptr g (239 + 1)), IsF .num g (239 + 1), vc (ptr g 239), vc (ptr g 239), vc (ptr g (239 + 2)), IsF .txt g (239 + 2), vc (ptr g 239), vc (ptr g 239), vc (ptr g (239 + 3)), IsF .dig g (239 + 3), vF g [(.num, (239 + 0)), (.num, (239 + 1)), (.txt, (239 + 2)), (.dig, (239 + 3))], vF g [(.num, (239 + 0)), (.num, (239 + 1)), (.txt, (239 + 2)), (.dig, (239 + 3))]]) (by kernel_rfl) (by kernel_rfl) rfl (mono_of (by
          intro p hp
          simp only [List.mem_cons, List.not_mem_nil, or_false] at hp
          rcases hp with rfl | rfl | rfl | rfl | rfl | rfl | rfl | rfl | rfl | rfl | rfl | rfl | rfl | rfl | rfl | rfl | rfl | rfl
          all_goals first | exact mono_vc _ | exact mono_isF _ _ _ | exact mono_vF _ _)) ?_ ?_
      · intro i o ho
        match i, ho with
        | 0, ho => cases ho; exact ow_move 5 (ptr g 239) rfl rfl rfl rfl
        | 1, ho => cases ho; exact ow_nil 69 0 g 239 rfl (by kernel_rfl) (by kernel_rfl) rfl rfl
        | 2, ho => cases ho; exact ow_fa 70 1 30 0 g 239 0 rfl (fun W => fa30_0 _ _ W) (by kernel_rfl) (by kernel_rfl) rfl rfl
        | 3, ho => cases ho; exact ow_mk 71 2 58 _ .num g (239 + 0) rfl (fun x W => call_num x W) (fun W => mk_num g (239 + 0) W) (by kernel_rfl) (by kernel_rfl) rfl rfl
        | 4, ho => cases ho; exact ow_move 5 (ptr g 239) rfl rfl rfl rfl
        | 5, ho => cases ho; exact ow_nil 73 4 g 239 rfl (by kernel_rfl) (by kernel_rfl) rfl rfl
        | 6, ho => cases ho; exact ow_fa 74 5 30 1 g 239 1 rfl (fun W => fa30_1 _ _ W) (by kernel_rfl) (by kernel_rfl) rfl rfl
        | 7, ho => cases ho; exact ow_mk 75 6 58 _ .num g (239 + 1) rfl (fun x W => call_num x W) (fun W => mk_num g (239 + 1) W) (by kernel_rfl) (by kernel_rfl) rfl rfl
        | 8, ho => cases ho; exact ow_move 5 (ptr g 239) rfl rfl rfl rfl
        | 9, ho => cases ho; exact ow_nil 77 8 g 239 rfl (by kernel_rfl) (by kernel_rfl) rfl rfl
        | 10, ho => cases ho; exact ow_fa 78 9 30 2 g 239 2 rfl (fun W => fa30_2 _ _ W) (by kernel_rfl) (by kernel_rfl) rfl rfl
        | 11, ho => cases ho; exact ow_mk 79 10 59 _ .txt g (239 + 2) rfl (fun x W => call_txt x W) (fun W => mk_txt g (239 + 2) W) (by kernel_rfl) (by kernel_rfl) rfl rfl
        | 12, ho => cases ho; exact ow_move 5 (ptr g 239) rfl rfl rfl rfl
        | 13, ho => cases ho; exact ow_nil 81 12 g 239 rfl (by kernel_rfl) (by kernel_rfl) rfl rfl
        | 14, ho => cases ho; exact ow_fa 82 13 30 3 g 239 3 rfl (fun W => fa30_3 _ _ W) (by kernel_rfl) (by kernel_rfl) rfl rfl
        | 15, ho => cases ho; exact ow_mk 83 14 60 _ .dig g (239 + 3) rfl (fun x W => call_dig x W) (fun W => mk_dig g (239 + 3) W) (by kernel_rfl) (by kernel_rfl) rfl rfl
        | 16, ho => cases ho; exact ow_bs 53 91 4 _ g [(.num, (239 + 0)), (.num, (239 + 1)), (.txt, (239 + 2)), (.dig, (239 + 3))] [(3, 72), (7, 76), (11, 80), (15, 84)] rfl Tryz.underlying53 rfl sizeFld infoFld rfl (by decide) (by decide) rfl rfl (by kernel_rfl) (by intro j hj; match j, hj with | 0, _ => rfl | 1, _ => rfl | 2, _ => rfl | 3, _ => rfl) rfl
        | 17, ho => cases ho; exact ow_assign 85 16 g [(.num, (239 + 0)), (.num, (239 + 1)), (.txt, (239 + 2)), (.dig, (239 + 3))] rfl (by kernel_rfl) (by kernel_rfl) rfl rfl
        | (i + 18), ho => exact absurd ho (by simp)
      · intro a w' hB hs hd hk2 hv
        have h2 := hv 17 2 (by kernel_rfl)
        have HB3 := hid (below_two HB2.out hB)
        obtain ⟨tm, df⟩ := a
        obtain rfl : df = [] := hd
        go_wp2
        go_ret
        exact ⟨_, rfl, h2, HB3.out⟩
    · as_aux_lemma =>
      subst hk
      go_wp2_with fail
      refine wp_region_mid (N := 128) (keep := [5]) (val := valOf [vc (ptr g 239), vc (ptr g 239), vc (ptr g (239 + 0)), IsF .num g (239 + 0), vc (ptr g 239), vc (ptr g 239), vc (ptr g (239 + 1)), IsF .num g (239 + 1), vc (ptr g 239), vc (ptr g 239), vc (ptr g (239 + 2)), IsF .txt g (239 + 2), vc (ptr g 239), vc (ptr g 239), vc (ptr g (239 + 3)), IsF .dig g (239 + 3), vF g [(.num, (239 + 0)), (.num, (239 + 1)), (.txt, (239 + 2)), (.dig, (239 + 3))], vF g [(.num, (239 + 0)), (.num, (239 + 1)), (.txt, (239 + 2)), (.dig, (239 + 3))]]) (by kernel_rfl) (by kernel_rfl) rfl (mono_of (by
          intro p hp
          simp only [List.mem_cons, List.not_mem_nil, or_false] at hp
          rcases hp with rfl | rfl | rfl | rfl | rfl | rfl | rfl | rfl | rfl | rfl | rfl | rfl | rfl | rfl | rfl | rfl | rfl | rfl
          all_goals first | exact mono_vc _ | exact mono_isF _ _ _ | exact mono_vF _ _)) ?_ ?_
      · intro i o ho
        match i, ho with
        | 0, ho => cases ho; exact ow_move 5 (ptr g 239) rfl rfl rfl rfl
        | 1, ho => cases ho; exact ow_nil 69 0 g 239 rfl (by kernel_rfl) (by kernel_rfl) rfl rfl
        | 2, ho => cases ho; exact ow_fa 70 1 30 0 g 239 0 rfl (fun W => fa30_0 _ _ W) (by kernel_rfl) (by kernel_rfl) rfl rfl
        | 3, ho => cases ho; exact ow_mk 71 2 58 _ .num g (239 + 0) rfl (fun x W => call_num x W) (fun W => mk_num g (239 + 0) W) (by kernel_rfl) (by kernel_rfl) rfl rfl
        | 4, ho => cases ho; exact ow_move 5 (ptr g 239) rfl rfl rfl rfl
        | 5, ho => cases ho; exact ow_nil 73 4 g 239 rfl (by kernel_rfl) (by kernel_rfl) rfl rfl
        | 6, ho => cases ho; exact ow_fa 74 5 30 1 g 239 1 rfl (fun W => fa30_1 _ _ W) (by kernel_rfl) (by kernel_rfl) rfl rfl
        | 7, ho => cases ho; exact ow_mk 75 6 58 _ .num g (239 + 1) rfl (fun x W => call_num x W) (fun W => mk_num g (239 + 1) W) (by kernel_rfl) (by kernel_rfl) rfl rfl
        | 8, ho => cases ho; exact ow_move 5 (ptr g 239) rfl rfl rfl rfl
        | 9, ho => cases ho; exact ow_nil 77 8 g 239 rfl (by kernel_rfl) (by kernel_rfl) rfl rfl
        | 10, ho => cases ho; exact ow_fa 78 9 30 2 g 239 2 rfl (fun W => fa30_2 _ _ W) (by kernel_rfl) (by kernel_rfl) rfl rfl
        | 11, ho => cases ho; exact ow_mk 79 10 59 _ .txt g (239 + 2) rfl (fun x W => call_txt x W) (fun W => mk_txt g (239 + 2) W) (by kernel_rfl) (by kernel_rfl) rfl rfl
        | 12, ho => cases ho; exact ow_move 5 (ptr g 239) rfl rfl rfl rfl
        | 13, ho => cases ho; exact ow_nil 81 12 g 239 rfl (by kernel_rfl) (by kernel_rfl) rfl rfl
        | 14, ho => cases ho; exact ow_fa 82 13 30 3 g 239 3 rfl (fun W => fa30_3 _ _ W) (by kernel_rfl) (by kernel_rfl) rfl rfl
        | 15, ho => cases ho; exact ow_mk 83 14 60 _ .dig g (239 + 3) rfl (fun x W => call_dig x W) (fun W => mk_dig g (239 + 3) W) (by kernel_rfl) (by kernel_rfl) rfl rfl
        | 16, ho => cases ho; exact ow_bs 53 91 4 _ g [(.num, (239 + 0)), (.num, (239 + 1)), (.txt, (239 + 2)), (.dig, (239 + 3))] [(3, 72), (7, 76), (11, 80), (15, 84)] rfl Tryz.underlying53 rfl sizeFld infoFld rfl (by decide) (by decide) rfl rfl (by kernel_rfl) (by intro j hj; match j, hj with | 0, _ => rfl | 1, _ => rfl | 2, _ => rfl | 3, _ => rfl) rfl
        | 17, ho => cases ho; exact ow_assign 85 16 g [(.num, (239 + 0)), (.num, (239 + 1)), (.txt, (239 + 2)), (.dig, (239 + 3))] rfl (by kernel_rfl) (by kernel_rfl) rfl rfl
        | (i + 18), ho => exact absurd ho (by simp)
      · intro a w' hB hs hd hk2 hv
        have h2 := hv 17 2 (by kernel_rfl)
        have HB3 := hid (below_two HB2.out hB)
        obtain ⟨tm, df⟩ := a
        obtain rfl : df = [] := hd
        go_wp2
        go_ret
        exact ⟨_, rfl, h2, HB3.out⟩
  · rcases hk with hk | hk | hk
    · as_aux_lemma =>
      subst hk
      go_wp2_with fail
      refine wp_region_mid (N := 128) (keep := [0, 3]) (val := valOf [IsF .num g 1, vc (ptr g 0), vc (ptr g 0), vc (ptr g (0 + 274)), IsF .nums g (0 + 274), vF g [(.num, 1), (.nums, (0 + 274))], vF g [(.num, 1), (.nums, (0 + 274))]]) (by kernel_rfl) (by kernel_rfl) rfl (mono_of (by
          intro p hp
          simp only [List.mem_cons, List.not_mem_nil, or_false] at hp
          rcases hp with rfl | rfl | rfl | rfl | rfl | rfl | rfl
          all_goals first | exact mono_vc _ | exact mono_isF _ _ _ | exact mono_vF _ _)) ?_ ?_
      · intro i o ho
        match i, ho with
        | 0, ho => cases ho; exact ow_ld 3 c .num g 1 cb rfl rfl rfl HCr.out HCf.out _ Tryz.underlying91 rfl sizeFld rfl
        | 1, ho => cases ho; exact ow_move 0 (ptr g 0) rfl rfl rfl rfl
        | 2, ho => cases ho; exact ow_nil 91 1 g 0 rfl (by kernel_rfl) (by kernel_rfl) rfl rfl
        | 3, ho => cases ho; exact ow_fa 92 2 33 9 g 0 274 rfl (fun W => fa33_9 _ _ W) (by kernel_rfl) (by kernel_rfl) rfl rfl
        | 4, ho => cases ho; exact ow_mk 93 3 62 _ .nums g (0 + 274) rfl (fun x W => call_nums x W) (fun W => mk_nums g (0 + 274) W) (by kernel_rfl) (by kernel_rfl) rfl rfl
        | 5, ho => cases ho; exact ow_bs 53 91 2 _ g [(.num, 1), (.nums, (0 + 274))] [(0, 90), (4, 94)] rfl Tryz.underlying53 rfl sizeFld infoFld rfl (by decide) (by decide) rfl rfl (by kernel_rfl) (by intro j hj; match j, hj with | 0, _ => rfl | 1, _ => rfl) rfl
        | 6, ho => cases ho; exact ow_assign 95 5 g [(.num, 1), (.nums, (0 + 274))] rfl (by kernel_rfl) (by kernel_rfl) rfl rfl
        | (i + 7), ho => exact absurd ho (by simp)
      · intro a w' hB hs hd hk2 hv
        have h2 := hv 6 2 (by kernel_rfl)
        have HB3 := hid (below_two HB2.out hB)
        obtain ⟨tm, df⟩ := a
        obtain rfl : df = [] := hd
        go_wp2
        go_ret
        exact ⟨_, rfl, h2, HB3.out⟩
    · as_aux_lemma =>
      subst hk
      go_wp2_with fail
      refine wp_region_mid (N := 128) (keep := [0, 3]) (val := valOf [IsF .num g 1, vc (ptr g 0), vc (ptr g 0), vc (ptr g (0 + 274)), IsF .nums g (0 + 274), vF g [(.num, 1), (.nums, (0 + 274))], vF g [(.num, 1), (.nums, (0 + 274))]]) (by kernel_rfl) (by kernel_rfl) rfl (mono_of (by
          intro p hp
          simp only [List.mem_cons, List.not_mem_nil, or_false] at hp
          rcases hp with rfl | rfl | rfl | rfl | rfl | rfl | rfl
          all_goals first | exact mono_vc _ | exact mono_isF _ _ _ | exact mono_vF _ _)) ?_ ?_
      · intro i o ho
        match i, ho with
        | 0, ho => cases ho; exact ow_ld 3 c .num g 1 cb rfl rfl rfl HCr.out HCf.out _ Tryz.underlying91 rfl sizeFld rfl
        | 1, ho => cases ho; exact ow_move 0 (ptr g 0) rfl rfl rfl rfl
        | 2, ho => cases ho; exact ow_nil 91 1 g 0 rfl (by kernel_rfl) (by kernel_rfl) rfl rfl
        | 3, ho => cases ho; exact ow_fa 92 2 33 9 g 0 274 rfl (fun W => fa33_9 _ _ W) (by kernel_rfl) (by kernel_rfl) rfl rfl
        | 4, ho => cases ho; exact ow_mk 93 3 62 _ .nums g (0 + 274) rfl (fun x W => call_nums x W) (fun W => mk_nums g (0 + 274) W) (by kernel_rfl) (by kernel_rfl) rfl rfl
        | 5, ho => cases ho; exact ow_bs 53 91 2 _ g [(.num, 1), (.nums, (0 + 274))] [(0, 90), (4, 94)] rfl Tryz.underlying53 rfl sizeFld infoFld rfl (by decide) (by decide) rfl rfl (by kernel_rfl) (by intro j hj; match j, hj with | 0, _ => rfl | 1, _ => rfl) rfl
        | 6, ho => cases ho; exact ow_assign 95 5 g [(.num, 1), (.nums, (0 + 274))] rfl (by kernel_rfl) (by kernel_rfl) rfl rfl
        | (i + 7), ho => exact absurd ho (by simp)
      · intro a w' hB hs hd hk2 hv
        have h2 := hv 6 2 (by kernel_rfl)
        have HB3 := hid (below_two HB2.out hB)
        obtain ⟨tm, df⟩ := a
        obtain rfl : df = [] := hd
        go_wp2
        go_ret
        exact ⟨_, rfl, h2, HB3.out⟩
    · as_aux_lemma =>
      subst hk
      go_wp2_with fail
      refine wp_region_mid (N := 128) (keep := [0, 3]) (val := valOf [IsF .num g 1, vc (ptr g 0), vc (ptr g 0), vc (ptr g (0 + 274)), IsF .nums g (0 + 274), vF g [(.num, 1), (.nums, (0 + 274))], vF g [(.num, 1), (.nums, (0 + 274))]]) (by kernel_rfl) (by kernel_rfl) rfl (mono_of (by
          intro p hp
          simp only [List.mem_cons, List.not_mem_nil, or_false] at hp
          rcases hp with rfl | rfl | rfl | rfl | rfl | rfl | rfl
          all_goals first | exact mono_vc _ | exact mono_isF _ _ _ | exact mono_vF _ _)) ?_ ?_
      · intro i o ho
        match i, ho with
        | 0, ho => cases ho; exact ow_ld 3 c .num g 1 cb rfl rfl rfl HCr.out HCf.out _ Tryz.underlying91 rfl sizeFld rfl
        | 1, ho => cases ho; exact ow_move 0 (ptr g 0) rfl rfl rfl rfl
        | 2, ho => cases ho; exact ow_nil 91 1 g 0 rfl (by kernel_rfl) (by kernel_rfl) rfl rfl
        | 3, ho => cases ho; exact ow_fa 92 2 33 9 g 0 274 rfl (fun W => fa33_9 _ _ W) (by kernel_rfl) (by kernel_rfl) rfl rfl
        | 4, ho => cases ho; exact ow_mk 93 3 62 _ .nums g (0 + 274) rfl (fun x W => call_nums x W) (fun W => mk_nums g (0 + 274) W) (by kernel_rfl) (by kernel_rfl) rfl rfl
        | 5, ho => cases ho; exact ow_bs 53 91 2 _ g [(.num, 1), (.nums, (0 + 274))] [(0, 90), (4, 94)] rfl Tryz.underlying53 rfl sizeFld infoFld rfl (by decide) (by decide) rfl rfl (by kernel_rfl) (by intro j hj; match j, hj with | 0, _ => rfl | 1, _ => rfl) rfl
        | 6, ho => cases ho; exact ow_assign 95 5 g [(.num, 1), (.nums, (0 + 274))] rfl (by kernel_rfl) (by kernel_rfl) rfl rfl
        | (i + 7), ho => exact absurd ho (by simp)
      · intro a w' hB hs hd hk2 hv
        have h2 := hv 6 2 (by kernel_rfl)
        have HB3 := hid (below_two HB2.out hB)
        obtain ⟨tm, df⟩ := a
        obtain rfl : df = [] := hd
        go_wp2
        go_ret
        exact ⟨_, rfl, h2, HB3.out⟩
  · as_aux_lemma =>
    subst hk
    obtain ⟨V, hV⟩ : ∃ V, V = fieldV .num cb := ⟨_, rfl⟩
    have hI : (Tryz.prog.info? 91).map (·.size) = some V.length := by rw [hV]; exact sizeFld
    have hL : V.length = 3 := by rw [hV]; rfl
    have S0 : Hid (∀ j v, V[j]? = some v → W2.cell? ⟨c, 0 + j, none⟩ = some v) := by rw [hV]; exact row_seg (off := 0) (A := []) (C := []) HCr.out (by simp) rfl
    have HFin : Hid (FieldsAt (W2.alloc (.cells V.toArray 91)) (.slice (some ⟨W2.heap.size, 0, none⟩) 1 1) g (spots 0 proFs) ∧ Below w.heap.size w (W2.alloc (.cells V.toArray 91))) := by
      refine ⟨⟨_, [cb], rfl, rfl, fun _ => ⟨_, rfl, ?_⟩, fun j hj => ?_⟩, below_two HB2.out (below_a1 _ _)⟩
      · rw [top_obj, hV]; rfl
      · have : j = 0 := by have : j < 1 := hj; omega
        subst this
        exact HCf.out.stays (below_a1 _ _)
    clear hV HCr HCf
    go_wp2_with (first | ((with_reducible refine wl_load 91 (.tmp 3) ?_ c 0 ?_ ?_ V _ S0.out Tryz.underlying91 ?_ hI ?_); exact rfl; exact rfl; exact rfl; exact rfl) | ((with_reducible refine wl_bs1 ?_ (.tmp 98) ?_ V hL ?_ ?_); exact rfl; exact rfl; exact rfl))
    go_ret
    exact ⟨_, rfl, HFin.out.1, HFin.out.2⟩
  · as_aux_lemma =>
    subst hk
    go_wp2_with fail
    refine wp_region_mid (N := 128) (keep := [0, 3]) (val := valOf [IsF .num g 1, vc (ptr g 0), vc (ptr g 0), vc (ptr g (0 + 174)), IsF .num g (0 + 174), vc (ptr g 0), vc (ptr g 0), vc (ptr g (0 + 173)), IsF .txt g (0 + 173), vc (ptr g 0), vc (ptr g 0), vc (ptr g (0 + 175)), IsF .dig g (0 + 175), vc (ptr g 0), vc (ptr g 0), vc (ptr g (0 + 207)), IsF .dig g (0 + 207), vF g [(.num, 1), (.num, (0 + 174)), (.txt, (0 + 173)), (.dig, (0 + 175)), (.dig, (0 + 207))], vF g [(.num, 1), (.num, (0 + 174)), (.txt, (0 + 173)), (.dig, (0 + 175)), (.dig, (0 + 207))]]) (by kernel_rfl) (by kernel_rfl) rfl (mono_of (by
        intro p hp
        simp only [List.mem_cons, List.not_mem_nil, or_false] at hp
        rcases hp with rfl | rfl | rfl | rfl | rfl | rfl | rfl | rfl | rfl | rfl | rfl | rfl | rfl | rfl | rfl | rfl | rfl | rfl | rfl
        all_goals first | exact mono_vc _ | exact mono_isF _ _ _ | exact mono_vF _ _)) ?_ ?_
    · intro i o ho
      match i, ho with
      | 0, ho => cases ho; exact ow_ld 3 c .num g 1 cb rfl rfl rfl HCr.out HCf.out _ Tryz.underlying91 rfl sizeFld rfl
      | 1, ho => cases ho; exact ow_move 0 (ptr g 0) rfl rfl rfl rfl
      | 2, ho => cases ho; exact ow_nil 103 1 g 0 rfl (by kernel_rfl) (by kernel_rfl) rfl rfl
      | 3, ho => cases ho; exact ow_fa 104 2 33 5 g 0 174 rfl (fun W => fa33_5 _ _ W) (by kernel_rfl) (by kernel_rfl) rfl rfl
      | 4, ho => cases ho; exact ow_mk 105 3 58 _ .num g (0 + 174) rfl (fun x W => call_num x W) (fun W => mk_num g (0 + 174) W) (by kernel_rfl) (by kernel_rfl) rfl rfl
      | 5, ho => cases ho; exact ow_move 0 (ptr g 0) rfl rfl rfl rfl
      | 6, ho => cases ho; exact ow_nil 107 5 g 0 rfl (by kernel_rfl) (by kernel_rfl) rfl rfl
      | 7, ho => cases ho; exact ow_fa 108 6 33 4 g 0 173 rfl (fun W => fa33_4 _ _ W) (by kernel_rfl) (by kernel_rfl) rfl rfl
      | 8, ho => cases ho; exact ow_mk 109 7 59 _ .txt g (0 + 173) rfl (fun x W => call_txt x W) (fun W => mk_txt g (0 + 173) W) (by kernel_rfl) (by kernel_rfl) rfl rfl
      | 9, ho => cases ho; exact ow_move 0 (ptr g 0) rfl rfl rfl rfl
      | 10, ho => cases ho; exact ow_nil 111 9 g 0 rfl (by kernel_rfl) (by kernel_rfl) rfl rfl
      | 11, ho => cases ho; exact ow_fa 112 10 33 6 g 0 175 rfl (fun W => fa33_6 _ _ W) (by kernel_rfl) (by kernel_rfl) rfl rfl
      | 12, ho => cases ho; exact ow_mk 113 11 60 _ .dig g (0 + 175) rfl (fun x W => call_dig x W) (fun W => mk_dig g (0 + 175) W) (by kernel_rfl) (by kernel_rfl) rfl rfl
      | 13, ho => cases ho; exact ow_move 0 (ptr g 0) rfl rfl rfl rfl
      | 14, ho => cases ho; exact ow_nil 115 13 g 0 rfl (by kernel_rfl) (by kernel_rfl) rfl rfl
      | 15, ho => cases ho; exact ow_fa 116 14 33 7 g 0 207 rfl (fun W => fa33_7 _ _ W) (by kernel_rfl) (by kernel_rfl) rfl rfl
      | 16, ho => cases ho; exact ow_mk 117 15 60 _ .dig g (0 + 207) rfl (fun x W => call_dig x W) (fun W => mk_dig g (0 + 207) W) (by kernel_rfl) (by kernel_rfl) rfl rfl
      | 17, ho => cases ho; exact ow_bs 53 91 5 _ g [(.num, 1), (.num, (0 + 174)), (.txt, (0 + 173)), (.dig, (0 + 175)), (.dig, (0 + 207))] [(0, 102), (4, 106), (8, 110), (12, 114), (16, 118)] rfl Tryz.underlying53 rfl sizeFld infoFld rfl (by decide) (by decide) rfl rfl (by kernel_rfl) (by intro j hj; match j, hj with | 0, _ => rfl | 1, _ => rfl | 2, _ => rfl | 3, _ => rfl | 4, _ => rfl) rfl
      | 18, ho => cases ho; exact ow_assign 119 17 g [(.num, 1), (.num, (0 + 174)), (.txt, (0 + 173)), (.dig, (0 + 175)), (.dig, (0 + 207))] rfl (by kernel_rfl) (by kernel_rfl) rfl rfl
      | (i + 19), ho => exact absurd ho (by simp)
    · intro a w' hB hs hd hk2 hv
      have h2 := hv 18 2 (by kernel_rfl)
      have HB3 := hid (below_two HB2.out hB)
      obtain ⟨tm, df⟩ := a
      obtain rfl : df = [] := hd
      go_wp2
      go_ret
      exact ⟨_, rfl, h2, HB3.out⟩
  · as_aux_lemma =>
    subst hk
    go_wp2_with fail
    refine wp_region_mid (N := 128) (keep := [0, 3]) (val := valOf [IsF .num g 1, vc (ptr g 0), vc (ptr g 0), vc (ptr g (0 + 207)), IsF .dig g (0 + 207), vF g [(.num, 1), (.dig, (0 + 207))], vF g [(.num, 1), (.dig, (0 + 207))]]) (by kernel_rfl) (by kernel_rfl) rfl (mono_of (by
        intro p hp
        simp only [List.mem_cons, List.not_mem_nil, or_false] at hp
        rcases hp with rfl | rfl | rfl | rfl | rfl | rfl | rfl
        all_goals first | exact mono_vc _ | exact mono_isF _ _ _ | exact mono_vF _ _)) ?_ ?_
    · intro i o ho
      match i, ho with
      | 0, ho => cases ho; exact ow_ld 3 c .num g 1 cb rfl rfl rfl HCr.out HCf.out _ Tryz.underlying91 rfl sizeFld rfl
      | 1, ho => cases ho; exact ow_move 0 (ptr g 0) rfl rfl rfl rfl
      | 2, ho => cases ho; exact ow_nil 123 1 g 0 rfl (by kernel_rfl) (by kernel_rfl) rfl rfl
      | 3, ho => cases ho; exact ow_fa 124 2 33 7 g 0 207 rfl (fun W => fa33_7 _ _ W) (by kernel_rfl) (by kernel_rfl) rfl rfl
      | 4, ho => cases ho; exact ow_mk 125 3 60 _ .dig g (0 + 207) rfl (fun x W => call_dig x W) (fun W => mk_dig g (0 + 207) W) (by kernel_rfl) (by kernel_rfl) rfl rfl
      | 5, ho => cases ho; exact ow_bs 53 91 2 _ g [(.num, 1), (.dig, (0 + 207))] [(0, 122), (4, 126)] rfl Tryz.underlying53 rfl sizeFld infoFld rfl (by decide) (by decide) rfl rfl (by kernel_rfl) (by intro j hj; match j, hj with | 0, _ => rfl | 1, _ => rfl) rfl
      | 6, ho => cases ho; exact ow_assign 127 5 g [(.num, 1), (.dig, (0 + 207))] rfl (by kernel_rfl) (by kernel_rfl) rfl rfl
      | (i + 7), ho => exact absurd ho (by simp)
    · intro a w' hB hs hd hk2 hv
      have h2 := hv 6 2 (by kernel_rfl)
      have HB3 := hid (below_two HB2.out hB)
      obtain ⟨tm, df⟩ := a
      obtain rfl : df = [] := hd
      go_wp2
      go_ret
      exact ⟨_, rfl, h2, HB3.out⟩
  · as_aux_lemma =>
    have d1 : (kind == 1) = false := by simp; omega
    have d2 : (kind == 2) = false := by simp; omega
    have d3 : (kind == 3) = false := by simp; omega
    have d4 : (kind == 4) = false := by simp; omega
    have d5 : (kind == 5) = false := by simp; omega
    have d6 : (kind == 6) = false := by simp; omega
    have d7 : (kind == 7) = false := by simp; omega
    have d8 : (kind == 8) = false := by simp; omega
    have d9 : (kind == 9) = false := by simp; omega
    have d10 : (kind == 10) = false := by simp; omega
    have d11 : (kind == 11) = false := by simp; omega
    have HE := hid e
    clear hk e
    go_wp2
    go_ret
    exact ⟨_, rfl, by rw [HE.out]; exact fnil _ _, HB2.out⟩
end Go.Proofs.YtpnnibddjopniaaGreatDoor.Ms
