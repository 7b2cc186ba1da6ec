/-
  NonceDoes answers true: every call of an allocator, on a disk that goes down and crashes, is answered as the reference answers it.
-/
import Derived.Test.YtnhnjdldgaaeoaaGreatDoorGref
namespace Go.Proofs.YtnhnjdldgaaeoaaGreatDoor
open Go Go.RowKit
set_option maxRecDepth 100000

set_option maxHeartbeats 16000000 in
theorem does_walk (w : World) (ht : Lay.Tabs w) (la : Option Addr) (len cap : Nat) (hA : ActsAt w la len) : Calls Tryz.prog 3 #[.slice la len cap] w fun e w' => e = .returned (.bool true) ∧ Below w.heap.size w w' := by
  have H1 := hid (new_ok w 6 (by omega) (by omega))
  have H2 := hid (fun W => rnew_ok W 6 (by omega) (by omega))
  have HTb := hid ht
  have HAc := hid hA
  obtain ⟨hu1, hu2, hu3⟩ := newD_up 6
  have hl0 := (CInv.new 6 1 1 (by omega) (by omega)).load hu1
  have HK0 : Hid (keptE (loadP (newD 6) 1 1) = 0) := by show _ = _; rw [hl0]; rfl
  have HN0 : Hid (keptN (loadP (newD 6) 1 1) = 0) := by show _ = _; rw [hl0]; rfl
  have HLn0 : Hid ((newD 6).S.length = 6) := hu3
  clear hu2 hA ht hl0
  generalize newD 6 = D0 at *
  go_enter Tryz.func3, Tryz.ntmps3
  go_wp2_with fail
  refine H1.out.mono ?_
  rintro e w1 ⟨d, g, rfl, hd1, hb1, hg1, hg2⟩
  have HD1 := hid hd1
  have HB1 := hid hb1
  have HG1 := hid hg1
  have HG2 := hid hg2
  clear hd1 hb1 hg1 hg2 H1
  go_wp2_with fail
  refine (H2.out _).mono ?_
  rintro e w2 ⟨r, rfl, hr2, hb2, hx1, hx2, hx3⟩
  have HBo2 : Hid (Both w2 d g r D0) := ⟨HD1.out.kept (X := []) (Kp.of hb2) (by simp) (by simp), hr2⟩
  have HB2 : Hid (Below w.heap.size w w2) := HB1.out.trans (hb2.mono HB1.out.size)
  have HG : Hid (∀ z ∈ allB d g r, w.heap.size ≤ z) := by
    intro z hz
    have h9 := HB1.out.size
    have h8 := HG1.out
    have h7 := HG2.out
    simp only [List.mem_cons, List.not_mem_nil, or_false] at hz
    omega
  clear hr2 hb2 hx1 hx2 hx3 H2 HD1 HB1 HG1 HG2
  have HO := hid (open_ok HBo2.out.disk 1 1 (by omega) (by omega) (by omega) hu1)
  go_wp2_with fail
  refine HO.out.mono ?_
  rintro e w3 ⟨x, rfl, hc3, hb3, -⟩
  have HBo3 := hid (HBo2.out.kept hb3)
  have HB3 : Hid (Below w.heap.size w w3) := HB2.out.trans (hb3.mono HB2.out.size)
  have HC3 := hid hc3
  have HO2 := hid (ropen_ok HBo3.out.ref 1 1 (by omega) (by omega) (by omega) hu1)
  clear hc3 hb3 HO HBo2 HB2
  go_wp2_with fail
  refine HO2.out.mono ?_
  rintro e w4 ⟨y, rfl, hy4, hb4, -⟩
  have HS4 : Hid (DSt w w4 d g r x y D0) := ⟨⟨HBo3.out.kept hb4, HC3.out.stays hb4, hy4⟩, HLn0.out, HB3.out.trans (hb4.mono HB3.out.size), HG.out⟩
  clear hy4 hb4 HO2 HBo3 HB3 HC3 HLn0 HG
  go_wp2_with fail
  refine (nawake_any _ (HTb.out.stays HS4.out.bel)).mono ?_
  rintro e w5 ⟨rfl, hb5⟩
  have HS5 := hid (HS4.out.stays hb5)
  have HO5 := hid (nopen_ok HS5.out.quad.cell HS5.out.quad.both.disk (by omega) (HTb.out.stays HS5.out.bel) HK0.out)
  have HO6 : Hid (∀ W, Below w5.heap.size w5 W → _) := fun W hb => r8open_ok (HS5.out.quad.ref.stays hb) (HS5.out.quad.both.ref.below hb) (by omega) HK0.out
  rw [HN0.out] at HO5 HO6
  clear hb5 HS4 HK0 HN0 hu1 hu3
  go_wp2_with fail
  refine HO5.out.mono ?_
  rintro e w6 ⟨a0, rfl, ha6, hb6, hg6⟩
  have HS6 := hid (HS5.out.stays hb6)
  have HO7 := hid (HO6.out _ hb6)
  have HA6 := hid ha6
  have HG6 : Hid (w.heap.size ≤ a0) := Nat.le_trans HS5.out.bel.size hg6
  clear ha6 hb6 hg6 HO5 HO6 HS5
  go_wp2_with fail
  refine HO7.out.mono ?_
  rintro e w7 ⟨b0, rfl, hb7a, hb7, hg7⟩
  have HA7 : Hid (Als w w7 x y a0 b0 ⟨0, 0⟩) := ⟨HA6.out.stays hb7, hb7a, HG6.out, Nat.le_trans HS6.out.bel.size hg7⟩
  have HS7 := hid (HS6.out.stays hb7)
  clear hb7a hb7 hg7 HO7 HA6 HG6 HS6
  go_wp2
  go_loopw [8, 10, 11, 12, 13] (fun ve vf va vb vi w' => ∃ (j : Nat) (D : Dk) (E : Int), j ≤ len ∧ j ≤ 40 ∧ ve = .int .i64 E ∧ vf = .int .i64 E ∧ vi = .int .i64 j ∧ Hid (DSt w w' d g r x y D) ∧ ((va = .pointer none ∧ vb = .pointer none) ∨ ∃ (a b : Nat) (al : Al), va = .pointer (some ⟨a, 0, none⟩) ∧ vb = .pointer (some ⟨b, 0, none⟩) ∧ Hid (Als w w' x y a b al))) (fun _ _ _ _ i _ => 40 - (intOf i).toNat)
  case atStart => exact ⟨0, D0, 0, by omega, by omega, rfl, rfl, rfl, HS7, .inr ⟨a0, b0, ⟨0, 0⟩, rfl, rfl, HA7⟩⟩
  case round =>
    clear HS7 HA7
    obtain ⟨j, D, E, hj, hj40, rfl, rfl, rfl, HS, hor⟩ := hrel
    by_cases hlt : j < len
    · have e1 : decide ((j : Int) < (len : Int)) = true := by simpa using hlt
      have e2 : decide (j < len) = true := by simpa using hlt
      by_cases h40 : j < 40
      · have e3 : decide ((j : Int) < 40) = true := by simp; omega
        obtain ⟨ob, off, k, i, t, v, ks, hab, hc, hi, hI⟩ := HAc.out j hlt
        subst hab
        obtain ⟨q0, q1, q2, q3⟩ := ActsAt.cells hc HS.out.bel
        clear hc
        obtain ⟨vao, vcap, hv, -⟩ := id hI
        subst hv
        have HI := hid hI
        clear hI
        generalize hvl : ks.length = vl at *
        clear hvl
        rcases hor with ⟨rfl, rfl⟩ | ⟨a, b, al, rfl, rfl, HA⟩
        · as_aux_lemma =>
          have HB1 : Hid (Below wr.heap.size wr (wr.alloc (.cells #[.int .i64 k, .int .i64 i, .string ⟨t.toArray⟩, .slice vao vl vcap] 45))) := below_a1 _ _
          have HFs : Hid (wr.heap.size ∉ allB d g r) := by
            have h1 := row_lt HS.out.quad.both.disk.obj
            have h2 := row_lt HS.out.quad.both.disk.row
            have h3 := row_lt HS.out.quad.both.ref.obj
            have h4 := row_lt HS.out.quad.both.ref.L
            have h5 := row_lt HS.out.quad.both.ref.O
            show _ ∉ _
            simp only [List.mem_cons, List.not_mem_nil, or_false]
            omega
          have HS1 := hid (HS.out.stays HB1.out)
          have HBo := hid HS1.out.quad.both
          have HT1 : Hid ((wr.alloc (.cells #[.int .i64 k, .int .i64 i, .string ⟨t.toArray⟩, .slice vao vl vcap] 45)).heap[wr.heap.size]? = some (.cells #[.int .i64 k, .int .i64 i, .string ⟨t.toArray⟩, .slice vao vl vcap] 45)) := top_row _ _
          have HQ : Hid (∀ W, Kp (allB d g r) (wr.alloc (.cells #[.int .i64 k, .int .i64 i, .string ⟨t.toArray⟩, .slice vao vl vcap] 45)) W → W.cell? ⟨wr.heap.size, 1, none⟩ = some (.int .i64 i) ∧ W.cell? ⟨wr.heap.size, 2, none⟩ = some (.string ⟨t.toArray⟩)) := by
            intro W hk
            have h9 := hk.row HT1.out HFs.out
            exact ⟨by rw [cell_of_row _ _ _ _ _ _ h9]; rfl, by rw [cell_of_row _ _ _ _ _ _ h9]; rfl⟩
          have HQ3 : Hid (∀ W, Kp (allB d g r) (wr.alloc (.cells #[.int .i64 k, .int .i64 i, .string ⟨t.toArray⟩, .slice vao vl vcap] 45)) W → W.cell? ⟨wr.heap.size, 3, none⟩ = some (.slice vao vl vcap)) := by
            intro W hk
            have h9 := hk.row HT1.out HFs.out
            rw [cell_of_row _ _ _ _ _ _ h9]
            rfl
          by_cases hk4 : k = 4
          · as_aux_lemma =>
            have f4 : (k == 4) = true := by simp [hk4]
            clear hk4
            have HSa : Hid (∀ W, DiskAt W d g D → Calls Tryz.prog 11 #[.pointer (some ⟨d, 0, none⟩), .int .i64 i] W fun e w' => e = .returned (.int .i64 (armE D i)) ∧ DiskAt w' d g (armD D i) ∧ Kp [d, g] W w') := fun W h => (arm_any h i hi).mono fun e w' ⟨h1, h2, h3⟩ => ⟨h1, h2, h3.drop (by simp)⟩
            have HSb : Hid (∀ W, RefAt W r D → Calls Tryz.prog 12 #[.pointer (some ⟨r.x, 0, none⟩), .int .i64 i] W fun e w' => e = .returned (.int .i64 (armE D i)) ∧ RefAt w' r (armD D i) ∧ Kp [r.x, r.gL, r.gO] W w') := fun W h => (rarm_any h i hi).mono fun e w' ⟨h1, h2, h3⟩ => ⟨h1, h2, h3.drop (by simp)⟩
            have HLn : Hid ((armD D i).S.length = 6) := by show _ = _; rw [armD_len]; exact HS1.out.len
            generalize armE D i = eS at *
            generalize armD D i = D2 at *
            go_wp2_with fail
            generalize wr.alloc (.cells #[.int .i64 k, .int .i64 i, .string ⟨t.toArray⟩, .slice vao vl vcap] 45) = W1 at *
            go_region_held3 (fun W => W.cell? ⟨wr.heap.size, 1, none⟩ = some (.int .i64 i) ∧ W.cell? ⟨wr.heap.size, 2, none⟩ = some (.string ⟨t.toArray⟩))
              (with_reducible first | exact HQ.out _ HKb | exact HQ.out _ HKa | exact HQ.out _ (Kp.refl _ _).drew | exact HQ.out _ (Kp.refl _ _))
              (first | (go_at_call 11; refine (HSa.out _ (HBo.out.disk.kept (X := []) ((Kp.refl _ _).drew) (by simp) (by simp))).mono ?_; rintro e W2 ⟨rfl, h2, k2⟩; have HD2 := hid h2; have HKd : Kp [d, g] W1 W2 := (Kp.refl _ _).drew.trans k2; have HKa : Kp (allB d g r) W1 W2 := HKd.drop (by simp); have HR2 := hid (HBo.out.refKept HKd); clear h2 k2) | (go_at_call 12; refine (HSb.out _ HR2.out).mono ?_; rintro e W3 ⟨rfl, h3, k3⟩; have HR3 := hid h3; have HKr := hid k3; have HKb : Kp (allB d g r) W1 W3 := HKa.trans (k3.drop (by simp)); clear h3 k3))
            have HS9 : Hid (DSt w W3 d g r x y D2) := HS1.out.next HKb (HBo.out.next HD2.out HR3.out HKr.out) HLn.out
            clear HKb HKa HKd HKr HR2 HR3 HD2 HSa HSb HLn HS1 HT1 HB1 HQ HBo q0 q1 q2 q3 HI
            go_wp2_with fail
            go_quiet (fail)
            go_wp2
            go_roundw
            case rel => exact ⟨j + 1, D2, E, by omega, by omega, rfl, rfl, by go_num, HS9.out.stays (below_drawn (Below.refl _ _) _), .inl ⟨rfl, rfl⟩⟩
            case measure => simp [intOf]; omega
          · have f4 : (k == 4) = false := by simp [hk4]
            by_cases hk5 : k = 5
            · as_aux_lemma =>
              have f5 : (k == 5) = true := by simp [hk5]
              clear hk4 hk5
              have HCr := hid (crash_any HBo.out.disk (.slice vao vl vcap) ks (HI.out.kept HS1.out.bel))
              have HLn : Hid ((crashD D ks).S.length = 6) := by show _ = _; rw [crashD_len]; exact HS1.out.len
              have HOld : Hid (ks ≠ [] → ∀ q, (Value.slice vao vl vcap).ownBlock = some q → q < w.heap.size) := fun hne q hq => ints_old HI.out hne q hq
              have HNew := hid HS1.out.new
              go_wp2_with fail
              refine HCr.out.mono ?_
              rintro e W5 ⟨rfl, h5, k5⟩
              have HD5 := hid h5
              have HR5 := hid (HBo.out.refKept k5)
              have HKa : Hid (Kp (allB d g r) (wr.alloc (.cells #[.int .i64 k, .int .i64 i, .string ⟨t.toArray⟩, .slice vao vl vcap] 45)) W5) := k5.drop (by simp)
              have q5 := (HQ3.out _ HKa.out)
              have HI5 : Hid (IntsAt W5 (.slice vao vl vcap) ks) := HI.out.kept (HS1.out.bel.trans (HKa.out.below HNew.out HS1.out.bel.size))
              clear h5 k5 HCr
              have HCr2 := hid (rcrash_any HR5.out (.slice vao vl vcap) ks HI5.out (fun hne q hq => by
                have h9 := HOld.out hne q hq
                have h8 := HNew.out r.gL (by simp)
                have h7 := HNew.out r.gO (by simp)
                exact ⟨by omega, by omega⟩))
              go_wp2_with fail
              refine HCr2.out.mono ?_
              rintro e W6 ⟨rfl, h6, k6⟩
              have HKb : Hid (Kp (allB d g r) (wr.alloc (.cells #[.int .i64 k, .int .i64 i, .string ⟨t.toArray⟩, .slice vao vl vcap] 45)) W6) := HKa.out.trans (k6.drop (by simp))
              have HS6 : Hid (DSt w W6 d g r x y (crashD D ks)) := HS1.out.next HKb.out ⟨HD5.out.kept k6 HBo.out.nes.1 HBo.out.nes.2, h6⟩ HLn.out
              clear h6 k6 HCr2 HI5 q5 HKa HKb HR5 HD5 HS1 HT1 HB1 HQ HQ3 HBo q0 q1 q2 q3 HI HOld HNew
              generalize crashD D ks = D2 at *
              by_cases hE : keptE (loadP D2 1 1) = 0
              · have HO := hid (nopen_ok HS6.out.quad.cell HS6.out.quad.both.disk (by have := HLn.out; omega) (HTb.out.stays HS6.out.bel) hE)
                have HO2 : Hid (∀ W, Below W6.heap.size W6 W → _) := fun W hb => r8open_ok (HS6.out.quad.ref.stays hb) (HS6.out.quad.both.ref.below hb) (by have := HLn.out; omega) hE
                generalize keptN (loadP D2 1 1) = kn at *
                clear hE
                go_wp2_with fail
                refine HO.out.mono ?_
                rintro e W7 ⟨a7, rfl, ha7, hb7, hg7⟩
                have HS7 := hid (HS6.out.stays hb7)
                have HO3 := hid (HO2.out _ hb7)
                have HA7 := hid ha7
                have HG7 : Hid (w.heap.size ≤ a7) := Nat.le_trans HS6.out.bel.size hg7
                clear ha7 hb7 hg7 HO HO2 HS6
                go_wp2_with fail
                refine HO3.out.mono ?_
                rintro e W8 ⟨b8, rfl, hb8a, hb8, hg8⟩
                have HA9 : Hid (Als w W8 x y a7 b8 ⟨kn, kn⟩) := ⟨HA7.out.stays hb8, hb8a, HG7.out, Nat.le_trans HS7.out.bel.size hg8⟩
                have HS9 := hid (HS7.out.stays hb8)
                clear hb8a hb8 hg8 HO3 HA7 HG7 HS7 HLn
                have HNx : Hid (∀ W, Below W8.heap.size W8 W → Calls Tryz.prog 21 #[.pointer (some ⟨a7, 0, none⟩)] W fun e w' => e = .returned (.int .i64 kn) ∧ w' = W) := fun W hb => anext_any (HA9.out.all.stays hb)
                have HLm : Hid (∀ W, Below W8.heap.size W8 W → Calls Tryz.prog 22 #[.pointer (some ⟨a7, 0, none⟩)] W fun e w' => e = .returned (.int .i64 kn) ∧ w' = W) := fun W hb => limit_any (HA9.out.all.stays hb)
                have c1 : W8.cell? ⟨b8, 1, none⟩ = some (.int .i64 kn) := HA9.out.ref.c1
                have c2 : W8.cell? ⟨b8, 2, none⟩ = some (.int .i64 kn) := HA9.out.ref.c2
                go_wp2_with fail
                go_quiet (first | (go_at_call 21; refine Calls.quiet_of_same (HNx.out _ (below_drawn (Below.refl _ _) _))) | (go_at_call 22; refine Calls.quiet_of_same (HLm.out _ (below_drawn (Below.refl _ _) _))))
                go_wp2
                go_roundw
                case rel => exact ⟨j + 1, D2, 0, by omega, by omega, rfl, rfl, by go_num, HS9.out.stays (below_drawn (Below.refl _ _) _), .inr ⟨a7, b8, ⟨kn, kn⟩, rfl, rfl, HA9.out.stays (below_drawn (Below.refl _ _) _)⟩⟩
                case measure => simp [intOf]; omega
              · have HO := hid (nopen_bad HS6.out.quad.cell HS6.out.quad.both.disk (by have := HLn.out; omega) (HTb.out.stays HS6.out.bel) hE)
                have HO2 : Hid (∀ W, Below W6.heap.size W6 W → _) := fun W hb => r8open_bad (HS6.out.quad.ref.stays hb) (HS6.out.quad.both.ref.below hb) (by have := HLn.out; omega) hE
                generalize keptE (loadP D2 1 1) = E2 at *
                clear hE
                go_wp2_with fail
                refine HO.out.mono ?_
                rintro e W7 ⟨rfl, hb7⟩
                have HS7 := hid (HS6.out.stays hb7)
                have HO3 := hid (HO2.out _ hb7)
                clear hb7 HO HO2 HS6
                go_wp2_with fail
                refine HO3.out.mono ?_
                rintro e W8 ⟨rfl, hb8⟩
                have HS9 := hid (HS7.out.stays hb8)
                clear hb8 HO3 HS7 HLn
                go_wp2_with fail
                go_quiet (fail)
                go_wp2
                go_roundw
                case rel => exact ⟨j + 1, D2, E2, by omega, by omega, rfl, rfl, by go_num, HS9.out.stays (below_drawn (Below.refl _ _) _), .inl ⟨rfl, rfl⟩⟩
                case measure => simp [intOf]; omega
            · have f5 : (k == 5) = false := by simp [hk5]
              by_cases hk6 : k = 6
              · as_aux_lemma =>
                have f6 : (k == 6) = true := by simp [hk6]
                clear hk4 hk5 hk6
                have HSa : Hid (∀ W, DiskAt W d g D → CellAt W x d 1 1 → Calls Tryz.prog 15 #[.pointer (some ⟨x.c, 0, none⟩), .string ⟨t.toArray⟩] W fun e w' => e = .returned (.int .i64 (saveP D 1 1 t).1) ∧ DiskAt w' d g (saveP D 1 1 t).2 ∧ Kp [d, g] W w') := fun W h hc => save_any hc h (by have := HS1.out.len; omega) t
                have HSb : Hid (∀ W, RefAt W r D → RcAt W y r 1 1 → Calls Tryz.prog 16 #[.pointer (some ⟨y, 0, none⟩), .string ⟨t.toArray⟩] W fun e w' => e = .returned (.int .i64 (saveP D 1 1 t).1) ∧ RefAt w' r (saveP D 1 1 t).2 ∧ Kp [r.x, r.gL, r.gO] W w') := fun W h hc => rsave_any hc h (by have := HS1.out.len; omega) t
                have HLn : Hid ((saveP D 1 1 t).2.S.length = 6) := by show _ = _; rw [saveP_len]; exact HS1.out.len
                generalize saveP D 1 1 t = RR at *
                obtain ⟨eS, D2⟩ := RR
                simp only at HSa HSb HLn
                have HQd := hid HS1.out.quad
                have HYk : Hid (∀ W, Kp [d, g] (wr.alloc (.cells #[.int .i64 k, .int .i64 i, .string ⟨t.toArray⟩, .slice vao vl vcap] 45)) W → RcAt W y r 1 1) := fun W hk => HQd.out.ref.kept hk (fun hm => HQd.out.part.2 (by simp only [List.mem_cons, List.not_mem_nil, or_false] at hm ⊢; omega))
                go_wp2_with fail
                generalize wr.alloc (.cells #[.int .i64 k, .int .i64 i, .string ⟨t.toArray⟩, .slice vao vl vcap] 45) = W1 at *
                go_region_held3 (fun W => W.cell? ⟨wr.heap.size, 1, none⟩ = some (.int .i64 i) ∧ W.cell? ⟨wr.heap.size, 2, none⟩ = some (.string ⟨t.toArray⟩))
                  (with_reducible first | exact HQ.out _ HKb | exact HQ.out _ HKa | exact HQ.out _ (Kp.refl _ _).drew | exact HQ.out _ (Kp.refl _ _))
                  (first | (go_at_call 15; refine (HSa.out _ (HBo.out.disk.kept (X := []) ((Kp.refl _ _).drew) (by simp) (by simp)) (HQd.out.cell.kept (X := []) ((Kp.refl _ _).drew) (by simp) (by simp) (by simp) (by simp))).mono ?_; rintro e W2 ⟨rfl, h2, k2⟩; have HD2 := hid h2; have HKd : Kp [d, g] W1 W2 := (Kp.refl _ _).drew.trans k2; have HKa : Kp (allB d g r) W1 W2 := HKd.drop (by simp); have HR2 := hid (HBo.out.refKept HKd); clear h2 k2) | (go_at_call 16; refine (HSb.out _ HR2.out (HYk.out _ HKd)).mono ?_; rintro e W3 ⟨rfl, h3, k3⟩; have HR3 := hid h3; have HKr := hid k3; have HKb : Kp (allB d g r) W1 W3 := HKa.trans (k3.drop (by simp)); clear h3 k3))
                have HS9 : Hid (DSt w W3 d g r x y D2) := HS1.out.next HKb (HBo.out.next HD2.out HR3.out HKr.out) HLn.out
                clear HKb HKa HKd HKr HR2 HR3 HD2 HSa HSb HLn HS1 HT1 HB1 HQ HBo q0 q1 q2 q3 HI
                clear HQd HYk
                go_wp2_with fail
                go_quiet (fail)
                go_wp2
                go_roundw
                case rel => exact ⟨j + 1, D2, E, by omega, by omega, rfl, rfl, by go_num, HS9.out.stays (below_drawn (Below.refl _ _) _), .inl ⟨rfl, rfl⟩⟩
                case measure => simp [intOf]; omega
              · have f6 : (k == 6) = false := by simp [hk6]
                as_aux_lemma =>
                  have HS9 := hid HS1.out
                  clear HS1 HT1 HB1 HQ HQ3 HBo HI hk4 hk5 hk6
                  go_wp2_with fail
                  generalize wr.alloc (.cells #[.int .i64 k, .int .i64 i, .string ⟨t.toArray⟩, .slice vao vl vcap] 45) = W1 at *
                  go_quiet (fail)
                  go_wp2
                  go_roundw
                  case rel => exact ⟨j + 1, D, E, by omega, by omega, rfl, rfl, by go_num, HS9.out.stays (below_drawn (Below.refl _ _) _), .inl ⟨rfl, rfl⟩⟩
                  case measure => simp [intOf]; omega
        · as_aux_lemma =>
          have HB1 : Hid (Below wr.heap.size wr (wr.alloc (.cells #[.int .i64 k, .int .i64 i, .string ⟨t.toArray⟩, .slice vao vl vcap] 45))) := below_a1 _ _
          have HFs : Hid (wr.heap.size ∉ allB d g r) := by
            have h1 := row_lt HS.out.quad.both.disk.obj
            have h2 := row_lt HS.out.quad.both.disk.row
            have h3 := row_lt HS.out.quad.both.ref.obj
            have h4 := row_lt HS.out.quad.both.ref.L
            have h5 := row_lt HS.out.quad.both.ref.O
            show _ ∉ _
            simp only [List.mem_cons, List.not_mem_nil, or_false]
            omega
          have HS1 := hid (HS.out.stays HB1.out)
          have HBo := hid HS1.out.quad.both
          have HT1 : Hid ((wr.alloc (.cells #[.int .i64 k, .int .i64 i, .string ⟨t.toArray⟩, .slice vao vl vcap] 45)).heap[wr.heap.size]? = some (.cells #[.int .i64 k, .int .i64 i, .string ⟨t.toArray⟩, .slice vao vl vcap] 45)) := top_row _ _
          have HQ : Hid (∀ W, Kp (allB d g r) (wr.alloc (.cells #[.int .i64 k, .int .i64 i, .string ⟨t.toArray⟩, .slice vao vl vcap] 45)) W → W.cell? ⟨wr.heap.size, 1, none⟩ = some (.int .i64 i) ∧ W.cell? ⟨wr.heap.size, 2, none⟩ = some (.string ⟨t.toArray⟩)) := by
            intro W hk
            have h9 := hk.row HT1.out HFs.out
            exact ⟨by rw [cell_of_row _ _ _ _ _ _ h9]; rfl, by rw [cell_of_row _ _ _ _ _ _ h9]; rfl⟩
          have HQ3 : Hid (∀ W, Kp (allB d g r) (wr.alloc (.cells #[.int .i64 k, .int .i64 i, .string ⟨t.toArray⟩, .slice vao vl vcap] 45)) W → W.cell? ⟨wr.heap.size, 3, none⟩ = some (.slice vao vl vcap)) := by
            intro W hk
            have h9 := hk.row HT1.out HFs.out
            rw [cell_of_row _ _ _ _ _ _ h9]
            rfl
          have HA1 := hid (HA.out.stays HB1.out)
          by_cases hk4 : k = 4
          · as_aux_lemma =>
            have f4 : (k == 4) = true := by simp [hk4]
            clear hk4
            have HSa : Hid (∀ W, DiskAt W d g D → Calls Tryz.prog 11 #[.pointer (some ⟨d, 0, none⟩), .int .i64 i] W fun e w' => e = .returned (.int .i64 (armE D i)) ∧ DiskAt w' d g (armD D i) ∧ Kp [d, g] W w') := fun W h => (arm_any h i hi).mono fun e w' ⟨h1, h2, h3⟩ => ⟨h1, h2, h3.drop (by simp)⟩
            have HSb : Hid (∀ W, RefAt W r D → Calls Tryz.prog 12 #[.pointer (some ⟨r.x, 0, none⟩), .int .i64 i] W fun e w' => e = .returned (.int .i64 (armE D i)) ∧ RefAt w' r (armD D i) ∧ Kp [r.x, r.gL, r.gO] W w') := fun W h => (rarm_any h i hi).mono fun e w' ⟨h1, h2, h3⟩ => ⟨h1, h2, h3.drop (by simp)⟩
            have HLn : Hid ((armD D i).S.length = 6) := by show _ = _; rw [armD_len]; exact HS1.out.len
            generalize armE D i = eS at *
            generalize armD D i = D2 at *
            go_wp2_with fail
            generalize wr.alloc (.cells #[.int .i64 k, .int .i64 i, .string ⟨t.toArray⟩, .slice vao vl vcap] 45) = W1 at *
            go_region_held3 (fun W => W.cell? ⟨wr.heap.size, 1, none⟩ = some (.int .i64 i) ∧ W.cell? ⟨wr.heap.size, 2, none⟩ = some (.string ⟨t.toArray⟩))
              (with_reducible first | exact HQ.out _ HKb | exact HQ.out _ HKa | exact HQ.out _ (Kp.refl _ _).drew | exact HQ.out _ (Kp.refl _ _))
              (first | (go_at_call 11; refine (HSa.out _ (HBo.out.disk.kept (X := []) ((Kp.refl _ _).drew) (by simp) (by simp))).mono ?_; rintro e W2 ⟨rfl, h2, k2⟩; have HD2 := hid h2; have HKd : Kp [d, g] W1 W2 := (Kp.refl _ _).drew.trans k2; have HKa : Kp (allB d g r) W1 W2 := HKd.drop (by simp); have HR2 := hid (HBo.out.refKept HKd); clear h2 k2) | (go_at_call 12; refine (HSb.out _ HR2.out).mono ?_; rintro e W3 ⟨rfl, h3, k3⟩; have HR3 := hid h3; have HKr := hid k3; have HKb : Kp (allB d g r) W1 W3 := HKa.trans (k3.drop (by simp)); clear h3 k3))
            have HS9 : Hid (DSt w W3 d g r x y D2) := HS1.out.next HKb (HBo.out.next HD2.out HR3.out HKr.out) HLn.out
            have HA9 := hid (HA1.out.next HBo.out HKb)
            clear HKb HKa HKd HKr HR2 HR3 HD2 HSa HSb HLn HS1 HT1 HB1 HQ HBo q0 q1 q2 q3 HI HA1
            have HNx : Hid (∀ W, Below W3.heap.size W3 W → Calls Tryz.prog 21 #[.pointer (some ⟨a, 0, none⟩)] W fun e w' => e = .returned (.int .i64 al.next) ∧ w' = W) := fun W hb => anext_any (HA9.out.all.stays hb)
            have HLm : Hid (∀ W, Below W3.heap.size W3 W → Calls Tryz.prog 22 #[.pointer (some ⟨a, 0, none⟩)] W fun e w' => e = .returned (.int .i64 al.lim) ∧ w' = W) := fun W hb => limit_any (HA9.out.all.stays hb)
            have c1 : W3.cell? ⟨b, 1, none⟩ = some (.int .i64 al.next) := HA9.out.ref.c1
            have c2 : W3.cell? ⟨b, 2, none⟩ = some (.int .i64 al.lim) := HA9.out.ref.c2
            go_wp2_with fail
            go_quiet (first | (go_at_call 21; refine Calls.quiet_of_same (HNx.out _ (below_drawn (Below.refl _ _) _))) | (go_at_call 22; refine Calls.quiet_of_same (HLm.out _ (below_drawn (Below.refl _ _) _))))
            go_wp2
            go_roundw
            case rel => exact ⟨j + 1, D2, E, by omega, by omega, rfl, rfl, by go_num, HS9.out.stays (below_drawn (Below.refl _ _) _), .inr ⟨a, b, al, rfl, rfl, HA9.out.stays (below_drawn (Below.refl _ _) _)⟩⟩
            case measure => simp [intOf]; omega
          · have f4 : (k == 4) = false := by simp [hk4]
            by_cases hk5 : k = 5
            · as_aux_lemma =>
              have f5 : (k == 5) = true := by simp [hk5]
              clear hk4 hk5
              have HCr := hid (crash_any HBo.out.disk (.slice vao vl vcap) ks (HI.out.kept HS1.out.bel))
              have HLn : Hid ((crashD D ks).S.length = 6) := by show _ = _; rw [crashD_len]; exact HS1.out.len
              have HOld : Hid (ks ≠ [] → ∀ q, (Value.slice vao vl vcap).ownBlock = some q → q < w.heap.size) := fun hne q hq => ints_old HI.out hne q hq
              have HNew := hid HS1.out.new
              go_wp2_with fail
              refine HCr.out.mono ?_
              rintro e W5 ⟨rfl, h5, k5⟩
              have HD5 := hid h5
              have HR5 := hid (HBo.out.refKept k5)
              have HKa : Hid (Kp (allB d g r) (wr.alloc (.cells #[.int .i64 k, .int .i64 i, .string ⟨t.toArray⟩, .slice vao vl vcap] 45)) W5) := k5.drop (by simp)
              have q5 := (HQ3.out _ HKa.out)
              have HI5 : Hid (IntsAt W5 (.slice vao vl vcap) ks) := HI.out.kept (HS1.out.bel.trans (HKa.out.below HNew.out HS1.out.bel.size))
              clear h5 k5 HCr
              have HCr2 := hid (rcrash_any HR5.out (.slice vao vl vcap) ks HI5.out (fun hne q hq => by
                have h9 := HOld.out hne q hq
                have h8 := HNew.out r.gL (by simp)
                have h7 := HNew.out r.gO (by simp)
                exact ⟨by omega, by omega⟩))
              go_wp2_with fail
              refine HCr2.out.mono ?_
              rintro e W6 ⟨rfl, h6, k6⟩
              have HKb : Hid (Kp (allB d g r) (wr.alloc (.cells #[.int .i64 k, .int .i64 i, .string ⟨t.toArray⟩, .slice vao vl vcap] 45)) W6) := HKa.out.trans (k6.drop (by simp))
              have HS6 : Hid (DSt w W6 d g r x y (crashD D ks)) := HS1.out.next HKb.out ⟨HD5.out.kept k6 HBo.out.nes.1 HBo.out.nes.2, h6⟩ HLn.out
              clear h6 k6 HCr2 HI5 q5 HKa HKb HR5 HD5 HS1 HT1 HB1 HQ HQ3 HBo q0 q1 q2 q3 HI HOld HNew HA1
              generalize crashD D ks = D2 at *
              by_cases hE : keptE (loadP D2 1 1) = 0
              · have HO := hid (nopen_ok HS6.out.quad.cell HS6.out.quad.both.disk (by have := HLn.out; omega) (HTb.out.stays HS6.out.bel) hE)
                have HO2 : Hid (∀ W, Below W6.heap.size W6 W → _) := fun W hb => r8open_ok (HS6.out.quad.ref.stays hb) (HS6.out.quad.both.ref.below hb) (by have := HLn.out; omega) hE
                generalize keptN (loadP D2 1 1) = kn at *
                clear hE
                go_wp2_with fail
                refine HO.out.mono ?_
                rintro e W7 ⟨a7, rfl, ha7, hb7, hg7⟩
                have HS7 := hid (HS6.out.stays hb7)
                have HO3 := hid (HO2.out _ hb7)
                have HA7 := hid ha7
                have HG7 : Hid (w.heap.size ≤ a7) := Nat.le_trans HS6.out.bel.size hg7
                clear ha7 hb7 hg7 HO HO2 HS6
                go_wp2_with fail
                refine HO3.out.mono ?_
                rintro e W8 ⟨b8, rfl, hb8a, hb8, hg8⟩
                have HA9 : Hid (Als w W8 x y a7 b8 ⟨kn, kn⟩) := ⟨HA7.out.stays hb8, hb8a, HG7.out, Nat.le_trans HS7.out.bel.size hg8⟩
                have HS9 := hid (HS7.out.stays hb8)
                clear hb8a hb8 hg8 HO3 HA7 HG7 HS7 HLn
                have HNx : Hid (∀ W, Below W8.heap.size W8 W → Calls Tryz.prog 21 #[.pointer (some ⟨a7, 0, none⟩)] W fun e w' => e = .returned (.int .i64 kn) ∧ w' = W) := fun W hb => anext_any (HA9.out.all.stays hb)
                have HLm : Hid (∀ W, Below W8.heap.size W8 W → Calls Tryz.prog 22 #[.pointer (some ⟨a7, 0, none⟩)] W fun e w' => e = .returned (.int .i64 kn) ∧ w' = W) := fun W hb => limit_any (HA9.out.all.stays hb)
                have c1 : W8.cell? ⟨b8, 1, none⟩ = some (.int .i64 kn) := HA9.out.ref.c1
                have c2 : W8.cell? ⟨b8, 2, none⟩ = some (.int .i64 kn) := HA9.out.ref.c2
                go_wp2_with fail
                go_quiet (first | (go_at_call 21; refine Calls.quiet_of_same (HNx.out _ (below_drawn (Below.refl _ _) _))) | (go_at_call 22; refine Calls.quiet_of_same (HLm.out _ (below_drawn (Below.refl _ _) _))))
                go_wp2
                go_roundw
                case rel => exact ⟨j + 1, D2, 0, by omega, by omega, rfl, rfl, by go_num, HS9.out.stays (below_drawn (Below.refl _ _) _), .inr ⟨a7, b8, ⟨kn, kn⟩, rfl, rfl, HA9.out.stays (below_drawn (Below.refl _ _) _)⟩⟩
                case measure => simp [intOf]; omega
              · have HO := hid (nopen_bad HS6.out.quad.cell HS6.out.quad.both.disk (by have := HLn.out; omega) (HTb.out.stays HS6.out.bel) hE)
                have HO2 : Hid (∀ W, Below W6.heap.size W6 W → _) := fun W hb => r8open_bad (HS6.out.quad.ref.stays hb) (HS6.out.quad.both.ref.below hb) (by have := HLn.out; omega) hE
                generalize keptE (loadP D2 1 1) = E2 at *
                clear hE
                go_wp2_with fail
                refine HO.out.mono ?_
                rintro e W7 ⟨rfl, hb7⟩
                have HS7 := hid (HS6.out.stays hb7)
                have HO3 := hid (HO2.out _ hb7)
                clear hb7 HO HO2 HS6
                go_wp2_with fail
                refine HO3.out.mono ?_
                rintro e W8 ⟨rfl, hb8⟩
                have HS9 := hid (HS7.out.stays hb8)
                clear hb8 HO3 HS7 HLn
                go_wp2_with fail
                go_quiet (fail)
                go_wp2
                go_roundw
                case rel => exact ⟨j + 1, D2, E2, by omega, by omega, rfl, rfl, by go_num, HS9.out.stays (below_drawn (Below.refl _ _) _), .inl ⟨rfl, rfl⟩⟩
                case measure => simp [intOf]; omega
            · have f5 : (k == 5) = false := by simp [hk5]
              by_cases hk6 : k = 6
              · as_aux_lemma =>
                have f6 : (k == 6) = true := by simp [hk6]
                clear hk4 hk5 hk6
                have HSa : Hid (∀ W, DiskAt W d g D → CellAt W x d 1 1 → Calls Tryz.prog 15 #[.pointer (some ⟨x.c, 0, none⟩), .string ⟨t.toArray⟩] W fun e w' => e = .returned (.int .i64 (saveP D 1 1 t).1) ∧ DiskAt w' d g (saveP D 1 1 t).2 ∧ Kp [d, g] W w') := fun W h hc => save_any hc h (by have := HS1.out.len; omega) t
                have HSb : Hid (∀ W, RefAt W r D → RcAt W y r 1 1 → Calls Tryz.prog 16 #[.pointer (some ⟨y, 0, none⟩), .string ⟨t.toArray⟩] W fun e w' => e = .returned (.int .i64 (saveP D 1 1 t).1) ∧ RefAt w' r (saveP D 1 1 t).2 ∧ Kp [r.x, r.gL, r.gO] W w') := fun W h hc => rsave_any hc h (by have := HS1.out.len; omega) t
                have HLn : Hid ((saveP D 1 1 t).2.S.length = 6) := by show _ = _; rw [saveP_len]; exact HS1.out.len
                generalize saveP D 1 1 t = RR at *
                obtain ⟨eS, D2⟩ := RR
                simp only at HSa HSb HLn
                have HQd := hid HS1.out.quad
                have HYk : Hid (∀ W, Kp [d, g] (wr.alloc (.cells #[.int .i64 k, .int .i64 i, .string ⟨t.toArray⟩, .slice vao vl vcap] 45)) W → RcAt W y r 1 1) := fun W hk => HQd.out.ref.kept hk (fun hm => HQd.out.part.2 (by simp only [List.mem_cons, List.not_mem_nil, or_false] at hm ⊢; omega))
                go_wp2_with fail
                generalize wr.alloc (.cells #[.int .i64 k, .int .i64 i, .string ⟨t.toArray⟩, .slice vao vl vcap] 45) = W1 at *
                go_region_held3 (fun W => W.cell? ⟨wr.heap.size, 1, none⟩ = some (.int .i64 i) ∧ W.cell? ⟨wr.heap.size, 2, none⟩ = some (.string ⟨t.toArray⟩))
                  (with_reducible first | exact HQ.out _ HKb | exact HQ.out _ HKa | exact HQ.out _ (Kp.refl _ _).drew | exact HQ.out _ (Kp.refl _ _))
                  (first | (go_at_call 15; refine (HSa.out _ (HBo.out.disk.kept (X := []) ((Kp.refl _ _).drew) (by simp) (by simp)) (HQd.out.cell.kept (X := []) ((Kp.refl _ _).drew) (by simp) (by simp) (by simp) (by simp))).mono ?_; rintro e W2 ⟨rfl, h2, k2⟩; have HD2 := hid h2; have HKd : Kp [d, g] W1 W2 := (Kp.refl _ _).drew.trans k2; have HKa : Kp (allB d g r) W1 W2 := HKd.drop (by simp); have HR2 := hid (HBo.out.refKept HKd); clear h2 k2) | (go_at_call 16; refine (HSb.out _ HR2.out (HYk.out _ HKd)).mono ?_; rintro e W3 ⟨rfl, h3, k3⟩; have HR3 := hid h3; have HKr := hid k3; have HKb : Kp (allB d g r) W1 W3 := HKa.trans (k3.drop (by simp)); clear h3 k3))
                have HS9 : Hid (DSt w W3 d g r x y D2) := HS1.out.next HKb (HBo.out.next HD2.out HR3.out HKr.out) HLn.out
                have HA9 := hid (HA1.out.next HBo.out HKb)
                clear HKb HKa HKd HKr HR2 HR3 HD2 HSa HSb HLn HS1 HT1 HB1 HQ HBo q0 q1 q2 q3 HI HA1
                clear HQd HYk
                have HNx : Hid (∀ W, Below W3.heap.size W3 W → Calls Tryz.prog 21 #[.pointer (some ⟨a, 0, none⟩)] W fun e w' => e = .returned (.int .i64 al.next) ∧ w' = W) := fun W hb => anext_any (HA9.out.all.stays hb)
                have HLm : Hid (∀ W, Below W3.heap.size W3 W → Calls Tryz.prog 22 #[.pointer (some ⟨a, 0, none⟩)] W fun e w' => e = .returned (.int .i64 al.lim) ∧ w' = W) := fun W hb => limit_any (HA9.out.all.stays hb)
                have c1 : W3.cell? ⟨b, 1, none⟩ = some (.int .i64 al.next) := HA9.out.ref.c1
                have c2 : W3.cell? ⟨b, 2, none⟩ = some (.int .i64 al.lim) := HA9.out.ref.c2
                go_wp2_with fail
                go_quiet (first | (go_at_call 21; refine Calls.quiet_of_same (HNx.out _ (below_drawn (Below.refl _ _) _))) | (go_at_call 22; refine Calls.quiet_of_same (HLm.out _ (below_drawn (Below.refl _ _) _))))
                go_wp2
                go_roundw
                case rel => exact ⟨j + 1, D2, E, by omega, by omega, rfl, rfl, by go_num, HS9.out.stays (below_drawn (Below.refl _ _) _), .inr ⟨a, b, al, rfl, rfl, HA9.out.stays (below_drawn (Below.refl _ _) _)⟩⟩
                case measure => simp [intOf]; omega
              · have f6 : (k == 6) = false := by simp [hk6]
                by_cases hk3 : k = 3
                · as_aux_lemma =>
                  have f3 : (k == 3) = true := by simp [hk3]
                  clear hk4 hk5 hk6 hk3
                  have hl6 := HS1.out.len
                  have HLn := hid (some_len D 1 1 al 1)
                  rw [hl6] at HLn
                  have HN1 := hid HS1.out.bel
                  by_cases hE : (someP D 1 1 al 1).1 = 0
                  · have HTk := hid (take_ok HA1.out.all HS1.out.quad.cell HBo.out.disk (by omega) (HTb.out.stays HN1.out) hE)
                    have HSm : Hid (∀ W, RalAt W b y al → RcAt W y r 1 1 → RefAt W r D → _) := fun W h1 h2 h3 => r8some_ok h1 h2 h3 (by omega) 1 hE
                    generalize someP D 1 1 al 1 = SS at *
                    obtain ⟨eS, D2, al2⟩ := SS
                    simp only at HTk HSm HLn hE
                    clear hE
                    go_wp2_with fail
                    refine HTk.out.mono ?_
                    rintro e W5 ⟨rfl, hd5, ha5, k5, -⟩
                    have HH := hid (HS1.out.code HA1.out k5 hd5 ha5)
                    have HS5 := hid (HSm.out W5 HH.out.ref HH.out.rcell HH.out.rdisk)
                    clear hd5 ha5 k5 HTk HSm HS1 HT1 HB1 HQ HQ3 HBo q0 q1 q2 q3 HI HA1 HN1 hl6
                    go_wp2_with fail
                    refine HS5.out.mono ?_
                    rintro e W6 ⟨v6, rfl, hi6, hr6, ha6, k6⟩
                    obtain ⟨hs9, ha9⟩ := HH.out.done k6 hr6 ha6 HLn.out
                    have HS9 := hid hs9
                    have HA9 := hid ha9
                    have hz : numZ al.next (1 : Int).toNat = [(al.next : Int)] := rfl
                    rw [hz] at hi6
                    obtain ⟨ao, cp, rfl, -, hc6⟩ := hi6
                    obtain ⟨zb, zo, rfl, hz6⟩ := hc6 (by simp)
                    have q9 : W6.cell? ⟨zb, zo, none⟩ = some (.int .i64 (al.next : Int)) := hz6 0 _ rfl
                    have hl1 : [(al.next : Int)].length = 1 := rfl
                    rw [hl1]
                    clear hs9 ha9 hr6 ha6 k6 HS5 HH HLn hc6 hz6 hz hl1
                    have HNx : Hid (∀ W, Below W6.heap.size W6 W → Calls Tryz.prog 21 #[.pointer (some ⟨a, 0, none⟩)] W fun e w' => e = .returned (.int .i64 al2.next) ∧ w' = W) := fun W hb => anext_any (HA9.out.all.stays hb)
                    have HLm : Hid (∀ W, Below W6.heap.size W6 W → Calls Tryz.prog 22 #[.pointer (some ⟨a, 0, none⟩)] W fun e w' => e = .returned (.int .i64 al2.lim) ∧ w' = W) := fun W hb => limit_any (HA9.out.all.stays hb)
                    have c1 : W6.cell? ⟨b, 1, none⟩ = some (.int .i64 al2.next) := HA9.out.ref.c1
                    have c2 : W6.cell? ⟨b, 2, none⟩ = some (.int .i64 al2.lim) := HA9.out.ref.c2
                    go_wp2_with fail
                    go_quiet (first | (go_at_call 21; refine Calls.quiet_of_same (HNx.out _ (below_drawn (Below.refl _ _) _))) | (go_at_call 22; refine Calls.quiet_of_same (HLm.out _ (below_drawn (Below.refl _ _) _))))
                    go_wp2
                    go_roundw
                    case rel => exact ⟨j + 1, D2, E, by omega, by omega, rfl, rfl, by go_num, HS9.out.stays (below_drawn (Below.refl _ _) _), .inr ⟨a, b, al2, rfl, rfl, HA9.out.stays (below_drawn (Below.refl _ _) _)⟩⟩
                    case measure => simp [intOf]; omega
                  · have HTk := hid (take_bad HA1.out.all HS1.out.quad.cell HBo.out.disk (by omega) (HTb.out.stays HN1.out) hE)
                    have HSm : Hid (∀ W, RalAt W b y al → RcAt W y r 1 1 → RefAt W r D → _) := fun W h1 h2 h3 => r8some_bad h1 h2 h3 (by omega) 1 hE
                    have b9 : ((someP D 1 1 al 1).1 == 0) = false := by simpa using hE
                    have b8 : ((someP D 1 1 al 1).1 != 0) = true := by simpa using hE
                    generalize someP D 1 1 al 1 = SS at *
                    obtain ⟨eS, D2, al2⟩ := SS
                    simp only at HTk HSm HLn hE b9 b8
                    clear hE
                    go_wp2_with fail
                    refine HTk.out.mono ?_
                    rintro e W5 ⟨rfl, hd5, ha5, k5⟩
                    have HH := hid (HS1.out.code HA1.out k5 hd5 ha5)
                    have HS5 := hid (HSm.out W5 HH.out.ref HH.out.rcell HH.out.rdisk)
                    clear hd5 ha5 k5 HTk HSm HS1 HT1 HB1 HQ HQ3 HBo q0 q1 q2 q3 HI HA1 HN1 hl6
                    go_wp2_with fail
                    refine HS5.out.mono ?_
                    rintro e W6 ⟨rfl, hr6, ha6, k6⟩
                    obtain ⟨hs9, ha9⟩ := HH.out.done k6 hr6 ha6 HLn.out
                    have HS9 := hid hs9
                    have HA9 := hid ha9
                    clear hs9 ha9 hr6 ha6 k6 HS5 HH HLn
                    have HNx : Hid (∀ W, Below W6.heap.size W6 W → Calls Tryz.prog 21 #[.pointer (some ⟨a, 0, none⟩)] W fun e w' => e = .returned (.int .i64 al2.next) ∧ w' = W) := fun W hb => anext_any (HA9.out.all.stays hb)
                    have HLm : Hid (∀ W, Below W6.heap.size W6 W → Calls Tryz.prog 22 #[.pointer (some ⟨a, 0, none⟩)] W fun e w' => e = .returned (.int .i64 al2.lim) ∧ w' = W) := fun W hb => limit_any (HA9.out.all.stays hb)
                    have c1 : W6.cell? ⟨b, 1, none⟩ = some (.int .i64 al2.next) := HA9.out.ref.c1
                    have c2 : W6.cell? ⟨b, 2, none⟩ = some (.int .i64 al2.lim) := HA9.out.ref.c2
                    go_wp2_with fail
                    go_quiet (first | (go_at_call 21; refine Calls.quiet_of_same (HNx.out _ (below_drawn (Below.refl _ _) _))) | (go_at_call 22; refine Calls.quiet_of_same (HLm.out _ (below_drawn (Below.refl _ _) _))))
                    go_wp2
                    go_roundw
                    case rel => exact ⟨j + 1, D2, E, by omega, by omega, rfl, rfl, by go_num, HS9.out.stays (below_drawn (Below.refl _ _) _), .inr ⟨a, b, al2, rfl, rfl, HA9.out.stays (below_drawn (Below.refl _ _) _)⟩⟩
                    case measure => simp [intOf]; omega
                · as_aux_lemma =>
                  have f3 : (k == 3) = false := by simp [hk3]
                  clear hk4 hk5 hk6 hk3
                  have HN7 : Hid (∀ W, Kp [d, g, a] (wr.alloc (.cells #[.int .i64 k, .int .i64 i, .string ⟨t.toArray⟩, .slice vao vl vcap] 45)) W → W.cell? ⟨wr.heap.size, 1, none⟩ = some (.int .i64 i)) := by
                    intro W hk
                    have h1 := HFs.out
                    have h2 := row_lt HA.out.all.obj
                    have h9 := hk.row HT1.out (by simp only [List.mem_cons, List.not_mem_nil, or_false] at h1 ⊢; omega)
                    rw [cell_of_row _ _ _ _ _ _ h9]
                    rfl
                  have hl6 := HS1.out.len
                  have HLn := hid (some_len D 1 1 al i)
                  rw [hl6] at HLn
                  have HN1 := hid HS1.out.bel
                  by_cases hE : (someP D 1 1 al i).1 = 0
                  · have HTk := hid (some_ok HA1.out.all HS1.out.quad.cell HBo.out.disk (by omega) (HTb.out.stays HN1.out) i hE)
                    have HSm : Hid (∀ W, RalAt W b y al → RcAt W y r 1 1 → RefAt W r D → _) := fun W h1 h2 h3 => r8some_ok h1 h2 h3 (by omega) i hE
                    have HSz : Hid (r.x < (wr.alloc (.cells #[.int .i64 k, .int .i64 i, .string ⟨t.toArray⟩, .slice vao vl vcap] 45)).heap.size ∧ r.gL < (wr.alloc (.cells #[.int .i64 k, .int .i64 i, .string ⟨t.toArray⟩, .slice vao vl vcap] 45)).heap.size ∧ r.gO < (wr.alloc (.cells #[.int .i64 k, .int .i64 i, .string ⟨t.toArray⟩, .slice vao vl vcap] 45)).heap.size ∧ b < (wr.alloc (.cells #[.int .i64 k, .int .i64 i, .string ⟨t.toArray⟩, .slice vao vl vcap] 45)).heap.size) := ⟨row_lt HBo.out.ref.obj, row_lt HBo.out.ref.L, row_lt HBo.out.ref.O, row_lt HA1.out.ref.obj⟩
                    generalize someP D 1 1 al i = SS at *
                    obtain ⟨eS, D2, al2⟩ := SS
                    simp only at HTk HSm HLn hE
                    clear hE
                    go_wp2_with fail
                    refine HTk.out.mono ?_
                    rintro e W5 ⟨nb, kk, hkk, hk1, hk2, rfl, hnm, hng, hd5, ha5, k5, -, -⟩
                    subst hkk
                    have HH := hid (HS1.out.code HA1.out k5 hd5 ha5)
                    have HS5 := hid (HSm.out W5 HH.out.ref HH.out.rcell HH.out.rdisk)
                    have q7 := HN7.out _ k5
                    have HNm := hid hnm
                    have HNg : Hid (nb ∉ [r.x, r.gL, r.gO, b]) := by
                      have h9 := HSz.out
                      show nb ∉ _
                      simp only [List.mem_cons, List.not_mem_nil, or_false]
                      omega
                    rw [Int.toNat_natCast] at HS5
                    clear hd5 ha5 k5 hnm hng HTk HSm HS1 HT1 HB1 HQ HQ3 HBo q0 q1 q2 q3 HI HA1 HN1 hl6 HN7 HSz
                    go_wp2_with fail
                    refine HS5.out.mono ?_
                    rintro e W6 ⟨v6, rfl, hi6, hr6, ha6, k6⟩
                    obtain ⟨hs6, ha6'⟩ := HH.out.done k6 hr6 ha6 HLn.out
                    have HS6 := hid hs6
                    have HA6 := hid ha6'
                    have HIn := hid (ints_any (ks := numZ al.next kk) (by rw [numZ_len]; omega) (HNm.out.kept k6 HNg.out).ints hi6)
                    obtain ⟨ao, cp, rfl, -⟩ := hi6
                    rw [numZ_len] at HIn ⊢
                    clear hs6 ha6' hr6 ha6 k6 HS5 HH HLn HNm HNg
                    go_wp2_with fail
                    refine HIn.out.mono ?_
                    rintro e W7 ⟨rfl, hb7⟩
                    have HS9 := hid (HS6.out.stays hb7)
                    have HA9 := hid (HA6.out.stays hb7)
                    clear hb7 HIn HS6 HA6
                    have HNx : Hid (∀ W, Below W7.heap.size W7 W → Calls Tryz.prog 21 #[.pointer (some ⟨a, 0, none⟩)] W fun e w' => e = .returned (.int .i64 al2.next) ∧ w' = W) := fun W hb => anext_any (HA9.out.all.stays hb)
                    have HLm : Hid (∀ W, Below W7.heap.size W7 W → Calls Tryz.prog 22 #[.pointer (some ⟨a, 0, none⟩)] W fun e w' => e = .returned (.int .i64 al2.lim) ∧ w' = W) := fun W hb => limit_any (HA9.out.all.stays hb)
                    have c1 : W7.cell? ⟨b, 1, none⟩ = some (.int .i64 al2.next) := HA9.out.ref.c1
                    have c2 : W7.cell? ⟨b, 2, none⟩ = some (.int .i64 al2.lim) := HA9.out.ref.c2
                    go_wp2_with fail
                    go_quiet (first | (go_at_call 21; refine Calls.quiet_of_same (HNx.out _ (below_drawn (Below.refl _ _) _))) | (go_at_call 22; refine Calls.quiet_of_same (HLm.out _ (below_drawn (Below.refl _ _) _))))
                    go_wp2
                    go_roundw
                    case rel => exact ⟨j + 1, D2, E, by omega, by omega, rfl, rfl, by go_num, HS9.out.stays (below_drawn (Below.refl _ _) _), .inr ⟨a, b, al2, rfl, rfl, HA9.out.stays (below_drawn (Below.refl _ _) _)⟩⟩
                    case measure => simp [intOf]; omega
                  · have HTk := hid (some_bad HA1.out.all HS1.out.quad.cell HBo.out.disk (by omega) (HTb.out.stays HN1.out) i hE)
                    have HSm : Hid (∀ W, RalAt W b y al → RcAt W y r 1 1 → RefAt W r D → _) := fun W h1 h2 h3 => r8some_bad h1 h2 h3 (by omega) i hE
                    generalize someP D 1 1 al i = SS at *
                    obtain ⟨eS, D2, al2⟩ := SS
                    simp only at HTk HSm HLn hE
                    clear hE
                    go_wp2_with fail
                    refine HTk.out.mono ?_
                    rintro e W5 ⟨rfl, hd5, ha5, k5⟩
                    have HH := hid (HS1.out.code HA1.out k5 hd5 ha5)
                    have HS5 := hid (HSm.out W5 HH.out.ref HH.out.rcell HH.out.rdisk)
                    have q7 := HN7.out _ k5
                    clear hd5 ha5 k5 HTk HSm HS1 HT1 HB1 HQ HQ3 HBo q0 q1 q2 q3 HI HA1 HN1 hl6 HN7
                    go_wp2_with fail
                    refine HS5.out.mono ?_
                    rintro e W6 ⟨rfl, hr6, ha6, k6⟩
                    obtain ⟨hs6, ha6'⟩ := HH.out.done k6 hr6 ha6 HLn.out
                    have HS6 := hid hs6
                    have HA6 := hid ha6'
                    have HIn := hid (ints_any (ks := []) (by simp) (nil_ints W6) (nil_ints W6))
                    clear hs6 ha6' hr6 ha6 k6 HS5 HH HLn
                    go_wp2_with fail
                    refine HIn.out.mono ?_
                    rintro e W7 ⟨rfl, hb7⟩
                    have HS9 := hid (HS6.out.stays hb7)
                    have HA9 := hid (HA6.out.stays hb7)
                    clear hb7 HIn HS6 HA6
                    have HNx : Hid (∀ W, Below W7.heap.size W7 W → Calls Tryz.prog 21 #[.pointer (some ⟨a, 0, none⟩)] W fun e w' => e = .returned (.int .i64 al2.next) ∧ w' = W) := fun W hb => anext_any (HA9.out.all.stays hb)
                    have HLm : Hid (∀ W, Below W7.heap.size W7 W → Calls Tryz.prog 22 #[.pointer (some ⟨a, 0, none⟩)] W fun e w' => e = .returned (.int .i64 al2.lim) ∧ w' = W) := fun W hb => limit_any (HA9.out.all.stays hb)
                    have c1 : W7.cell? ⟨b, 1, none⟩ = some (.int .i64 al2.next) := HA9.out.ref.c1
                    have c2 : W7.cell? ⟨b, 2, none⟩ = some (.int .i64 al2.lim) := HA9.out.ref.c2
                    go_wp2_with fail
                    go_quiet (first | (go_at_call 21; refine Calls.quiet_of_same (HNx.out _ (below_drawn (Below.refl _ _) _))) | (go_at_call 22; refine Calls.quiet_of_same (HLm.out _ (below_drawn (Below.refl _ _) _))))
                    go_wp2
                    go_roundw
                    case rel => exact ⟨j + 1, D2, E, by omega, by omega, rfl, rfl, by go_num, HS9.out.stays (below_drawn (Below.refl _ _) _), .inr ⟨a, b, al2, rfl, rfl, HA9.out.stays (below_drawn (Below.refl _ _) _)⟩⟩
                    case measure => simp [intOf]; omega
      · have e3 : decide ((j : Int) < 40) = false := by simp; omega
        rcases hor with ⟨rfl, rfl⟩ | ⟨a, b, al, rfl, rfl, HA⟩
        · go_wp2
          go_ret
          exact ⟨rfl, HS.out.bel⟩
        · go_wp2
          go_ret
          exact ⟨rfl, HS.out.bel⟩
    · have e1 : decide ((j : Int) < (len : Int)) = false := by simpa using hlt
      have e2 : decide (j < len) = false := by simpa using hlt
      rcases hor with ⟨rfl, rfl⟩ | ⟨a, b, al, rfl, rfl, HA⟩
      · go_wp2
        go_ret
        exact ⟨rfl, HS.out.bel⟩
      · go_wp2
        go_ret
        exact ⟨rfl, HS.out.bel⟩
end Go.Proofs.YtnhnjdldgaaeoaaGreatDoor
