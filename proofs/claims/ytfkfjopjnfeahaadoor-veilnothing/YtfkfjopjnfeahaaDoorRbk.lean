/-
  What the reference's rounds and block answer, for every state and block.
-/
import Derived.Test.YtfkfjopjnfeahaaDoorBow
import Derived.Test.YtfkfjopjnfeahaaDoorTbk
import Derived.StillTailTactics
namespace Go.Proofs.YtfkfjopjnfeahaaDoor
open Go Go.RowKit
set_option maxRecDepth 100000

def krow : Array Value := (kks.map cw).toArray

theorem cell_old (w : World) (o : Obj) (n g i : Nat) (hg : g < w.heap.size) : ((w.alloc o).drewN n).cell? ⟨g, i, none⟩ = w.cell? ⟨g, i, none⟩ :=
  World.cell?_of_block (heap_old1 w o g hg)

def fq (b : List UInt8) (t : Nat) : List W32 := firsts b t ++ List.replicate (64 - t) 0
theorem fq_len (b : List UInt8) (t : Nat) (h : t ≤ 64) : (fq b t).length = 64 := by unfold fq; rw [List.length_append, firsts_len, List.length_replicate]; omega
theorem fq_step (b : List UInt8) (t : Nat) (h : t < 64) : (fq b t).set t (wrd b t) = fq b (t + 1) := by
  unfold fq
  have e : List.replicate (64 - t) (0 : W32) = 0 :: List.replicate (64 - (t + 1)) 0 := by rw [← List.replicate_succ]; congr 1; omega
  have hl := firsts_len b t
  rw [e]
  conv => lhs; arg 2; rw [← hl]
  rw [set_mid, firsts]
  simp
theorem fq_end (b : List UInt8) : fq b 16 = wq b 0 := rfl

theorem wv_quo (x : W32) (d : Int) (n : Nat) (hd : d = 2 ^ n) : (wv x).tdiv d % 4294967296 = wv (x >>> n) := by
  have h := wv_range x
  rw [Int.tdiv_eq_ediv_of_nonneg h.1, hd, wv_shr]
  exact wv_mod _

set_option maxHeartbeats 4000000 in
theorem rblock_any (st : S8) (b : List UInt8) (gs gb o cap gk : Nat) (w : World)
    (Hs : ∀ j, j < 8 → w.cell? ⟨gs, j, none⟩ = some (cw (st.list.getD j 0))) (Hb : ∀ j, j < 64 → w.cell? ⟨gb, o + j, none⟩ = some (cb (b.getD j 0)))
    (Hk : ∀ j, j < 64 → w.cell? ⟨gk, j, none⟩ = some (cw (kks.getD j 0))) (h1 : gs < w.heap.size) (h2 : gb < w.heap.size) (h3 : gk < w.heap.size) :
    Calls Tryd.prog 38 #[.slice (some ⟨gs, 0, none⟩) 8 8, .slice (some ⟨gb, o, none⟩) 64 cap, .slice (some ⟨gk, 0, none⟩) 64 64] w
      fun e w' => ∃ g, e = .returned (.slice (some ⟨g, 0, none⟩) 8 8) ∧ w.heap.size ≤ g ∧ w'.heap[g]? = some (.cells ((comp st b).list.map cw).toArray 67) ∧ Below w.heap.size w w' := by
  obtain ⟨i, hi, hz0, hz1, hz2⟩ := info_parts infoWord
  have HS : Hid (∀ j, j < 8 → w.cell? ⟨gs, j, none⟩ = some (cw (st.list.getD j 0))) := Hs
  have HB : Hid (∀ j, j < 64 → w.cell? ⟨gb, o + j, none⟩ = some (cb (b.getD j 0))) := Hb
  have HK : Hid (∀ j, j < 64 → w.cell? ⟨gk, j, none⟩ = some (cw (kks.getD j 0))) := Hk
  obtain ⟨Z, hZ⟩ : ∃ Z, Z = madeCells #[.int .u32 0] 64 := ⟨_, rfl⟩
  have hM : ∀ W : World, (Instr.makeSlice 68 (.int .i64 64) (.int .i64 64)).run Tryd.prog W = .ok (.slice (some ⟨W.heap.size, 0, none⟩) 64 64) (W.alloc (.cells Z 67)) := by
    intro W
    have := run_make (P := Tryd.prog) W 68 67 i (.int .u32 0) Tryd.underlying68 hi hz0 .i64 .i64 64 64 (by omega) (by omega) (by rw [hz2]; omega) (by omega)
    rw [this, hz1, hZ]
    simp [Value.cells]
  have HZ0 : Hid (Z = ((fq b 0).map cw).toArray) := by
    show _ = _
    rw [hZ]
    apply Array.toList_inj.1
    rw [toList_madeCells_one]
    rfl
  clear Hs Hb Hk hZ hi hz0 hz1 hz2
  go_enter Tryd.func38, Tryd.ntmps38
  go_wp2
  clear hM
  go_loopw [8] (fun i w' => ∃ (t n : Nat) (C : Array Value), t ≤ 16 ∧ i = .int .i64 t ∧ Hid (C = ((fq b t).map cw).toArray) ∧ w' = (w.alloc (.cells C 67)).drewN n) (fun i _ => 16 - (intOf i).toNat)
  case atStart => exact ⟨0, 0, Z, by omega, rfl, HZ0, rfl⟩
  case round =>
    clear HZ0
    obtain ⟨t, n, C, ht, rfl, HD, hw⟩ := hrel
    subst wr
    have hsz := cw_size _ C HD.out 64 (fq_len b t (by omega))
    by_cases hlt : t < 16
    · have hC := cw_at _ C HD.out t (by rw [fq_len b t (by omega)]; omega)
      have HQ : Hid (C.setIfInBounds t (.int .u32 (wv (wrd b t))) = ((fq b (t + 1)).map cw).toArray) := by
        show _ = _
        rw [cw_set _ C HD.out, fq_step b t (by omega)]
      have HW : Hid (Calls Tryd.prog 45 #[.slice (some ⟨gb, o, none⟩) 64 cap, .int .i64 (4 * (t : Int))] ((w.alloc (.cells C 67)).drewN n) fun e w' => e = .returned (.int .u32 (wv (wrd b t))) ∧ ∃ k, w' = (w.alloc (.cells C 67)).drewN (n + k)) := by
        have h := word_any b gb o cap t hlt ((w.alloc (.cells C 67)).drewN n) (fun j hj => by rw [cell_old w _ n gb _ h2]; exact HB.out j hj)
        show Calls _ _ _ _ _
        simpa using h
      clear HD
      generalize (fq b t).getD t 0 = x at *
      generalize wrd b t = y at *
      go_wp2_with fail
      refine Calls.mono HW.out ?_
      rintro e w1 ⟨rfl, k, hw1⟩
      subst w1
      go_wp2
      go_roundw
      case rel => exact ⟨t + 1, n + k, _, by omega, by go_num, HQ, setCell_top _ _ _ _ _ _ _ rfl⟩
      case measure => simp [intOf]; omega
    · have e16 : t = 16 := by omega
      have HD' : Hid (C = ((wq b 0).map cw).toArray) := by have h := HD.out; subst e16; rw [fq_end] at h; exact h
      clear HD e16
      go_wp2
      go_loopw [9] (fun i w' => ∃ (t n : Nat) (C : Array Value), t ≤ 48 ∧ i = .int .i64 ((t + 16 : Nat) : Int) ∧ Hid (C = ((wq b t).map cw).toArray) ∧ w' = (w.alloc (.cells C 67)).drewN n) (fun i _ => 64 - (intOf i).toNat)
      case atStart => exact ⟨0, n, C, by omega, rfl, HD', rfl⟩
      case round =>
        clear HD' hsz hlt C
        obtain ⟨t, n, C, ht, rfl, HD, hw⟩ := hrel
        subst wr
        have hsz := cw_size _ C HD.out 64 (wq_len b t ht)
        by_cases hlt : t < 48
        · have h1 := cw_at _ C HD.out (t + 1) (by rw [wq_len b t ht]; omega)
          have h14 := cw_at _ C HD.out (t + 14) (by rw [wq_len b t ht]; omega)
          have h9 := cw_at _ C HD.out (t + 9) (by rw [wq_len b t ht]; omega)
          have h16 := cw_at _ C HD.out (t + 16) (by rw [wq_len b t ht]; omega)
          have h0 := cw_at _ C HD.out t (by rw [wq_len b t ht]; omega)
          have HQ := cw_set _ C HD.out (t + 16) (sig1 ((wq b t).getD (t + 14) 0) + (wq b t).getD (t + 9) 0 + sig0 ((wq b t).getD (t + 1) 0) + (wq b t).getD t 0)
          rw [wq_step b t hlt] at HQ
          unfold sig0 sig1 at HQ
          have HQ' : Hid _ := HQ
          clear HQ HD
          generalize (wq b t).getD (t + 1) 0 = x1 at *
          generalize (wq b t).getD (t + 14) 0 = x14 at *
          generalize (wq b t).getD (t + 9) 0 = x9 at *
          generalize (wq b t).getD (t + 16) 0 = x16 at *
          generalize (wq b t).getD t 0 = x0 at *
          go_upto_region 11 with fail
          have hxor := wv_xor
          have hs3 : ∀ y, bits .xor .u32 (wv y) ((wv x1).tdiv 8 % 4294967296) = wv (y ^^^ x1 >>> 3) := fun y => by rw [wv_quo x1 8 3 rfl, wv_xor]
          have hs10 : ∀ y, bits .xor .u32 (wv y) ((wv x14).tdiv 1024 % 4294967296) = wv (y ^^^ x14 >>> 10) := fun y => by rw [wv_quo x14 1024 10 rfl, wv_xor]
          go_upto_region 13 with (first | (go_at_call 46; refine (turn_any _ _ (by decide) (by decide) _).mono ?_; rintro e w1 ⟨rfl, rfl⟩))
          have hadd := wv_add'
          go_region
          go_wp2
          go_roundw
          case rel => exact ⟨t + 1, n + 1, _, by omega, by go_num, HQ', setCell_top _ _ _ _ _ _ _ rfl⟩
          case measure => simp [intOf]; omega
        · have e48 : t = 48 := by omega
          have HWc : Hid (∀ k, k < 64 → C[k]? = some (.int .u32 (wv ((sched b 48).getD k 0)))) := by
            intro k hk
            have h := HD.out; subst e48; rw [wq_end] at h
            exact cw_at _ C h k (by rw [sched_len]; omega)
          clear HD e48
          have c0 := HS.out 0 (by omega)
          have c1 := HS.out 1 (by omega)
          have c2 := HS.out 2 (by omega)
          have c3 := HS.out 3 (by omega)
          have c4 := HS.out 4 (by omega)
          have c5 := HS.out 5 (by omega)
          have c6 := HS.out 6 (by omega)
          have c7 := HS.out 7 (by omega)
          simp only [cw, S8.list, List.getD_cons_zero, List.getD_cons_succ] at c0 c1 c2 c3 c4 c5 c6 c7
          have HCM : Hid (Unit → comp st b = st.plus (rnds (sched b 48) st 64)) := fun _ => rfl
          generalize sched b 48 = ws at *
          go_wp2
          simp only [show ((t + 16 : Nat) : Int) = (t : Int) + 16 from by omega]
          go_loopw [22, 14, 15, 16, 17, 18, 19, 20, 21] (fun i va vb vc vd ve vf vg vh w' => ∃ (k n : Nat) (a b c d e f g h : W32), k ≤ 64 ∧ i = .int .i64 k ∧ va = .int .u32 (wv a) ∧ vb = .int .u32 (wv b) ∧ vc = .int .u32 (wv c) ∧ vd = .int .u32 (wv d) ∧ ve = .int .u32 (wv e) ∧ vf = .int .u32 (wv f) ∧ vg = .int .u32 (wv g) ∧ vh = .int .u32 (wv h) ∧ Hid (Unit → rnds ws st k = ⟨a, b, c, d, e, f, g, h⟩) ∧ Hid (w' = (w.alloc (.cells C 67)).drewN n)) (fun i _ _ _ _ _ _ _ _ _ => 64 - (intOf i).toNat)
          case atStart => exact ⟨0, n, st.a, st.b, st.c, st.d, st.e, st.f, st.g, st.h, by omega, rfl, rfl, rfl, rfl, rfl, rfl, rfl, rfl, rfl, fun _ => rfl, rfl⟩
          case round =>
            clear hlt ht
            obtain ⟨k, n', a, b', c, d, e, f, g, h, hk, rfl, rfl, rfl, rfl, rfl, rfl, rfl, rfl, rfl, HD, hw⟩ := hrel
            by_cases hlt : k < 64
            · have hkc : wr.cell? ⟨gk, k, none⟩ = some (.int .u32 (wv (kks.getD k 0))) := by
                rw [hw.out, cell_old w _ n' gk _ h3]
                exact HK.out k hlt
              have hwc : wr.cell? ⟨w.heap.size, k, none⟩ = some (.int .u32 (wv (ws.getD k 0))) := by
                rw [hw.out]
                have := HWc.out k hlt
                simpa using this
              have HQ : Hid (Unit → rnds ws st (k + 1) = rnd (kks.getD k 0) (ws.getD k 0) ⟨a, b', c, d, e, f, g, h⟩) := by intro _; show rnd _ _ _ = _; rw [HD.out ()]
              generalize kks.getD k 0 = kk at *
              generalize ws.getD k 0 = ww at *
              clear HD HWc HCM
              go_upto_region 25 with fail
              have hxor := wv_xor
              have hand := wv_and
              have hadd := wv_add'
              have hnot : ∀ x, (4294967295 - wv x) % 4294967296 = wv (~~~ x) := fun x => by rw [← wv_not', IntKind.wrap_u32']
              go_upto_region 27 with (first | (go_at_call 46; refine (turn_any _ _ (by decide) (by decide) _).mono ?_; rintro e w1 ⟨rfl, rfl⟩))
              go_quiet (fail)
              go_wp2_with (first | (go_at_call 46; refine (turn_any _ _ (by decide) (by decide) _).mono ?_; rintro e w1 ⟨rfl, rfl⟩))
              go_roundw
              case rel => exact ⟨k + 1, n' + nq, _, _, _, _, _, _, _, _, by omega, by go_num, congrArg (Value.int .u32) (wv_add' _ _), rfl, rfl, rfl, congrArg (Value.int .u32) (wv_add' _ _), rfl, rfl, rfl, fun _ => (HQ.out ()).trans (by unfold rnd tem1 tem2; congr 1; exact (BitVec.add_assoc _ _ _).symm), by show _ = _; rw [hw.out]; simp⟩
              case measure => simp [intOf]; omega
            · have e64 : k = 64 := by omega
              have HR : Hid (Unit → comp st b = st.plus ⟨a, b', c, d, e, f, g, h⟩) := by intro _; have q1 := HCM.out (); have q2 := HD.out (); subst e64; rw [q2] at q1; exact q1
              clear HD HCM HWc HK HB e64
              go_upto_region 38 with fail
              have d0 : wr.cell? ⟨gs, 0, none⟩ = some (.int .u32 (wv st.a)) := by rw [hw.out, cell_old w _ n' gs _ h1]; exact c0
              have d1 : wr.cell? ⟨gs, 1, none⟩ = some (.int .u32 (wv st.b)) := by rw [hw.out, cell_old w _ n' gs _ h1]; exact c1
              have d2 : wr.cell? ⟨gs, 2, none⟩ = some (.int .u32 (wv st.c)) := by rw [hw.out, cell_old w _ n' gs _ h1]; exact c2
              have d3 : wr.cell? ⟨gs, 3, none⟩ = some (.int .u32 (wv st.d)) := by rw [hw.out, cell_old w _ n' gs _ h1]; exact c3
              have d4 : wr.cell? ⟨gs, 4, none⟩ = some (.int .u32 (wv st.e)) := by rw [hw.out, cell_old w _ n' gs _ h1]; exact c4
              have d5 : wr.cell? ⟨gs, 5, none⟩ = some (.int .u32 (wv st.f)) := by rw [hw.out, cell_old w _ n' gs _ h1]; exact c5
              have d6 : wr.cell? ⟨gs, 6, none⟩ = some (.int .u32 (wv st.g)) := by rw [hw.out, cell_old w _ n' gs _ h1]; exact c6
              have d7 : wr.cell? ⟨gs, 7, none⟩ = some (.int .u32 (wv st.h)) := by rw [hw.out, cell_old w _ n' gs _ h1]; exact c7
              have hadd := wv_add'
              clear c0 c1 c2 c3 c4 c5 c6 c7
              have hB4 : Hid (Below w.heap.size w wr) := by show Below _ _ _; rw [hw.out]; exact below_drawn (below_a1 w _) n'
              clear hw
              go_still_tail 40, (by kernel_rfl)
              change wpList _ _ _ _ _ (World.drew wr)
              go_wp2
              go_ret
              refine ⟨wr.heap.size, rfl, hB4.out.size, (top_row wr.drew _).trans ?_, below_more (below_drawn hB4.out 1) _ (Nat.le_refl _)⟩
              rw [HR.out ()]
              simp only [wv_add']
              rfl

set_option maxHeartbeats 400000 in
theorem rounds_any (w : World) : Calls Tryd.prog 37 #[] w fun e w' => e = .returned (.slice (some ⟨w.heap.size, 0, none⟩) 64 64) ∧ w' = w.alloc (.cells krow 67) := by
  go_enter Tryd.func37, Tryd.ntmps37
  go_wp2
  go_ret
  exact ⟨rfl, rfl⟩
end Go.Proofs.YtfkfjopjnfeahaaDoor
