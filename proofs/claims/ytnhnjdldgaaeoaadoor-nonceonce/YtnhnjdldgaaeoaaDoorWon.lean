/-
  NonceOnce answers true: no number is taken twice, whatever crashes where.
-/
import Derived.Test.YtnhnjdldgaaeoaaDoorNac
import Derived.Deep.RegionHeld3
import Derived.Deep.RegionWith
namespace Go.Proofs.YtnhnjdldgaaeoaaDoor
open Go Go.RowKit
set_option maxRecDepth 100000

/-- Beside an error nothing is taken. -/
theorem some_err (D : Dk) (first size : Nat) (al : Al) (n : Int) (h : (someP D first size al n).1 ≠ 0) : (someP D first size al n).2.2 = al := by
  unfold someP at h ⊢
  split
  · rfl
  · rename_i h1
    rw [if_neg h1] at h
    split
    · rfl
    · rename_i h2
      rw [if_neg h2] at h
      split
      · rename_i h3
        rw [if_pos h3] at h
        exact absurd rfl h
      · rename_i h3
        rw [if_neg h3] at h
        split
        · rename_i h4
          rw [if_pos h4] at h
          exact absurd rfl h
        · rfl
theorem OSt.len {D : Dk} {al : Al} {far j : Nat} (h : OSt D al far j) : 4 ≤ D.S.length := by
  rcases h.st with ⟨hd, m, t, k1, k2, k3⟩ | ⟨hd, hk⟩
  · have := k2.room
    omega
  · obtain ⟨k, -, -, -, m, t, -, k2, -⟩ := hk []
    have h1 := k2.room
    have h2 : (crashD D []).S.length = D.S.length := tearAll_len _ _
    omega
/-- The cell, its disk and the allocator in memory, and what stands of them. -/
structure OAt (w0 w : World) (x : Cx) (d g a : Nat) (D : Dk) (al : Al) (far j : Nat) : Prop where
  cell : CellAt w x d 0 1
  disk : DiskAt w d g D
  all : AllocAt w a x.c al
  st : OSt D al far j
  bel : Below w0.heap.size w0 w
  new : w0.heap.size ≤ a
theorem OAt.stays {w0 w w' : World} {x : Cx} {d g a : Nat} {D : Dk} {al : Al} {far j : Nat} (h : OAt w0 w x d g a D al far j) (hb : Below w.heap.size w w') : OAt w0 w' x d g a D al far j :=
  ⟨h.cell.stays hb, h.disk.kept (X := []) (Kp.of hb) (by simp) (by simp), h.all.stays hb, h.st, h.bel.trans (hb.mono h.bel.size), h.new⟩
theorem OAt.more {w0 w : World} {x : Cx} {d g a : Nat} {D : Dk} {al : Al} {far j : Nat} (h : OAt w0 w x d g a D al far j) : OAt w0 w x d g a D al far (j + 1) :=
  ⟨h.cell, h.disk, h.all, h.st.more _ (Nat.le_refl _), h.bel, h.new⟩

set_option maxHeartbeats 8000000 in
theorem once_walk (w : World) (ht : Lay.Tabs w) (la : Option Addr) (len cap : Nat) (hA : ActsAt w la len) : Calls Tryd.prog 3 #[.slice la len cap] w fun e w' => e = .returned (.bool true) ∧ Below w.heap.size w w' := by
  have HN := hid (new_ok w 6 (by omega) (by omega))
  have HTb := hid ht
  have HAc := hid hA
  obtain ⟨hu1, hu2, hu3⟩ := newD_up 6
  have hg0 := Good.new
  obtain ⟨k1, k2⟩ := hg0.kept hu1 (by omega)
  have HK0 : Hid (OSt (newD 6) ⟨0, 0⟩ 0 0) := ⟨Nat.le_refl _, Nat.le_refl _, by show 0 ≤ _; omega, .inl ⟨hu1, hg0⟩⟩
  have HK1 := hid k1
  have HK2 := hid k2
  generalize newD 6 = D0 at *
  clear hg0 k1 k2 hA ht hu2
  go_enter Tryd.func3, Tryd.ntmps3
  go_wp2_with fail
  refine HN.out.mono ?_
  rintro e w1 ⟨d, g, rfl, hd1, hb1, hg1, hg2⟩
  have HB1 := hid hb1
  have HO := hid (open_ok hd1 0 1 (by omega) (by omega) (by omega) hu1)
  have HD1 := hid hd1
  have HG : Hid (w.heap.size ≤ d ∧ w.heap.size ≤ g) := ⟨hg1, hg2⟩
  clear hd1 hb1 hg1 hg2 HN
  go_wp2_with fail
  refine HO.out.mono ?_
  rintro e w2 ⟨x, rfl, hc2, hb2, -⟩
  have HB2 : Hid (Below w.heap.size w w2) := HB1.out.trans (hb2.mono HB1.out.size)
  have hd2 := HD1.out.kept (X := []) (Kp.of hb2) (by simp) (by simp)
  have HO2 := hid (nopen_ok hc2 hd2 (by omega) (HTb.out.stays HB2.out) HK1.out)
  rw [HK2.out] at HO2
  have HC2 := hid hc2
  have HD2 := hid hd2
  clear hc2 hb2 hd2 HO HB1 HD1
  go_wp2_with fail
  refine HO2.out.mono ?_
  rintro e w3 ⟨a, rfl, ha3, hb3, hag⟩
  have HB3 : Hid (Below w.heap.size w w3) := HB2.out.trans (hb3.mono HB2.out.size)
  have HC3 := hid (HC2.out.stays hb3)
  have HD3 := hid (HD2.out.kept (X := []) (Kp.of hb3) (by simp) (by simp))
  have HA3 := hid ha3
  have HGa : Hid (w.heap.size ≤ a) := Nat.le_trans HB2.out.size hag
  clear ha3 hb3 hag HO2 HB2 HC2 HD2
  go_wp2_with fail
  refine (nawake_any _ (HTb.out.stays HB3.out)).mono ?_
  rintro e w4 ⟨rfl, hb4⟩
  have HB4 : Hid (Below w.heap.size w w4) := HB3.out.trans (hb4.mono HB3.out.size)
  have HC4 := hid (HC3.out.stays hb4)
  have HD4 := hid (HD3.out.kept (X := []) (Kp.of hb4) (by simp) (by simp))
  have HA4 := hid (HA3.out.stays hb4)
  clear hb4 HB3 HC3 HD3 HA3 HK1 HK2 hu1 hu3
  have HQ4 : Hid (OAt w w4 x d g a D0 ⟨0, 0⟩ 0 0) := ⟨HC4.out, HD4.out, HA4.out, HK0.out, HB4.out, HGa.out⟩
  clear HC4 HD4 HA4 HK0 HB4 HGa
  go_wp2
  go_loopw [7, 8, 9, 10, 11] (fun va ve vn vf vi w' => ∃ (j a : Nat) (D : Dk) (al : Al) (p far : Nat), j ≤ len ∧ j ≤ 40 ∧ va = .pointer (some ⟨a, 0, none⟩) ∧ ve = .int .i64 0 ∧ vn = .int .i64 p ∧ vf = .int .i64 far ∧ vi = .int .i64 j ∧ p ≤ al.next ∧ far ≤ 1099511628800 ∧ Hid (OAt w w' x d g a D al far j)) (fun _ _ _ _ i _ => 40 - (intOf i).toNat)
  case atStart => exact ⟨0, a, D0, ⟨0, 0⟩, 0, 0, by omega, by omega, rfl, rfl, rfl, rfl, rfl, Nat.le_refl _, by omega, HQ4⟩
  case round =>
    clear HQ4
    obtain ⟨j, a, D, al, p, far, hj, hj40, rfl, rfl, rfl, rfl, rfl, hp, hfar, HQ⟩ := hrel
    by_cases hlt : j < len
    · have e1 : decide ((j : Int) < (len : Int)) = true := by simpa using hlt
      have e2 : decide (j < len) = true := by simpa using hlt
      by_cases h40 : j < 40
      · have e3 : decide ((j : Int) < 40) = true := by simp; omega
        obtain ⟨b, off, k, i, t, v, ks, hab, hc, hi, hI⟩ := HAc.out j hlt
        subst hab
        obtain ⟨q0, q1, q2, q3⟩ := ActsAt.cells hc HQ.out.bel
        clear hc
        obtain ⟨vao, vcap, hv, -⟩ := id hI
        subst hv
        have HI := hid hI
        clear hI
        generalize hvl : ks.length = vl at *
        clear hvl
        have HB1 : Hid (Below wr.heap.size wr (wr.alloc (.cells #[.int .i64 k, .int .i64 i, .string ⟨t.toArray⟩, .slice vao vl vcap] 36))) := below_a1 _ _
        have HQ1 := hid (HQ.out.stays HB1.out)
        have HT1 : Hid ((wr.alloc (.cells #[.int .i64 k, .int .i64 i, .string ⟨t.toArray⟩, .slice vao vl vcap] 36)).heap[wr.heap.size]? = some (.cells #[.int .i64 k, .int .i64 i, .string ⟨t.toArray⟩, .slice vao vl vcap] 36)) := top_row _ _
        have HGd : Hid (∀ y ∈ [d, g], w.heap.size ≤ y) := by
          intro y hy
          simp only [List.mem_cons, List.not_mem_nil, or_false] at hy
          have h1 := HG.out
          omega
        by_cases hk4 : k = 4
        · have f1 : (k == 4) = true := by simp [hk4]
          clear hk4
          have HAr := hid (arm_any HQ1.out.disk i hi)
          go_wp2_with fail
          refine HAr.out.mono ?_
          rintro e w5 ⟨rfl, hd5, k5⟩
          have k6 : Kp [d, g] (wr.alloc (.cells #[.int .i64 k, .int .i64 i, .string ⟨t.toArray⟩, .slice vao vl vcap] 36)) w5 := k5.drop (by simp)
          have HQ5 : Hid (OAt w w5 x d g a (armD D i) al far (j + 1)) := ⟨HQ1.out.cell.next HQ1.out.disk k6, hd5, HQ1.out.all.next HQ1.out.disk k6, (HQ1.out.st.arm i).more _ (Nat.le_refl _), HQ1.out.bel.trans (k6.below HGd.out HQ1.out.bel.size), HQ1.out.new⟩
          clear hd5 k5 k6 HAr HQ1 HT1 HB1 HQ q0 q1 q2 q3
          go_wp2
          go_roundw
          case rel => exact ⟨j + 1, a, armD D i, al, p, far, by omega, by omega, rfl, rfl, rfl, rfl, by go_num, hp, hfar, HQ5⟩
          case measure => simp [intOf]; omega
        · have f1 : (k == 4) = false := by simp [hk4]
          by_cases hk5 : k = 5
          · have f2 : (k == 5) = true := by simp [hk5]
            clear hk4 hk5
            have HCr := hid (crash_any HQ1.out.disk (.slice vao vl vcap) ks (HI.out.kept HQ1.out.bel))
            obtain ⟨kk, g1, g2, g3, g4, g5, g6⟩ := HQ1.out.st.crash ks
            have hle := HQ1.out.st.le
            have HG4 := hid g4
            have HG5 := hid g5
            have HG6 := hid g6
            have HLn := hid g6.len
            clear g4 g5 g6
            have b1 : decide ((kk : Int) < (p : Int)) = false := decide_eq_false (by omega)
            have b2 : decide ((far : Int) < (kk : Int)) = false := decide_eq_false (by omega)
            go_wp2_with fail
            refine HCr.out.mono ?_
            rintro e w5 ⟨rfl, hd5, k5⟩
            have HB5 : Hid (Below w.heap.size w w5) := HQ1.out.bel.trans (k5.below HGd.out HQ1.out.bel.size)
            have HC5 := hid (HQ1.out.cell.next HQ1.out.disk k5)
            have HD5 := hid hd5
            have HO := hid (nopen_ok HC5.out hd5 (by have := HLn.out; omega) (HTb.out.stays HB5.out) HG4.out)
            rw [HG5.out] at HO
            clear hd5 k5 HCr HQ1 HT1 HB1 HQ q0 q1 q2 q3 HG4 HG5
            go_wp2_with fail
            refine HO.out.mono ?_
            rintro e w6 ⟨a6, rfl, ha6, hb6, hag⟩
            have HQ6 : Hid (OAt w w6 x d g a6 (crashD D ks) ⟨kk, kk⟩ far (j + 1)) := ⟨HC5.out.stays hb6, HD5.out.kept (X := []) (Kp.of hb6) (by simp) (by simp), ha6, HG6.out.more _ (Nat.le_refl _), HB5.out.trans (hb6.mono HB5.out.size), Nat.le_trans HB5.out.size hag⟩
            have HNx := hid (anext_any ha6)
            clear ha6 hb6 hag HO HB5 HC5 HD5 HG6 HLn
            go_wp2_with fail
            refine HNx.out.mono ?_
            rintro e W ⟨rfl, hW⟩
            subst W
            go_wp2_with fail
            refine HNx.out.mono ?_
            rintro e W ⟨rfl, hW⟩
            subst W
            go_wp2
            go_roundw
            case rel => exact ⟨j + 1, a6, crashD D ks, ⟨kk, kk⟩, p, far, by omega, by omega, rfl, rfl, rfl, rfl, by go_num, by show p ≤ kk; omega, hfar, HQ6⟩
            case measure => simp [intOf]; omega
          · have f2 : (k == 5) = false := by simp [hk5]
            have HQm := hid HQ1.out.more
            by_cases hk : k < 4 ∧ 0 ≤ k ∧ 1 ≤ i ∧ i ≤ 256
            · have f3 : decide (k < 4) = true := decide_eq_true hk.1
              have f4 : decide (0 ≤ k) = true := decide_eq_true hk.2.1
              have f5 : decide (1 ≤ i) = true := decide_eq_true hk.2.2.1
              have f6 : decide (i ≤ 256) = true := decide_eq_true hk.2.2.2
              obtain ⟨n, rfl⟩ : ∃ n : Nat, i = n := ⟨i.toNat, by omega⟩
              have hn1 : 1 ≤ n := by omega
              have hn2 : n ≤ 256 := by omega
              clear hk hk4 hk5 HQm
              go_wp2_with fail
              generalize wr.alloc (.cells #[.int .i64 k, .int .i64 (n : Int), .string ⟨t.toArray⟩, .slice vao vl vcap] 36) = W1 at *
              have HC1 : Hid (∀ W, Kp [] W1 W → W.cell? ⟨wr.heap.size, 1, none⟩ = some (.int .i64 (n : Int))) := by
                intro W hk
                rw [cell_of_row _ _ _ _ _ _ (hk.row HT1.out (by simp))]
                rfl
              have HNx : Hid (∀ W, Kp [] W1 W → Calls Tryd.prog 13 #[.pointer (some ⟨a, 0, none⟩)] W fun e w' => e = .returned (.int .i64 al.next) ∧ w' = W) := fun W hk => anext_any (HQ1.out.all.kept hk (by simp))
              have hnb : al.next ≤ 1099511627776 := Nat.le_trans HQ1.out.st.le HQ1.out.st.mx
              go_region_held3 (fun W => W.cell? ⟨wr.heap.size, 1, none⟩ = some (.int .i64 (n : Int)))
                (with_reducible first | exact HC1.out _ HKa | exact HC1.out _ (Kp.refl _ _).drew | exact HC1.out _ (Kp.refl _ _))
                (first | (go_at_call 13; refine (HNx.out _ (Kp.refl _ _).drew).mono ?_; rintro e W2 ⟨rfl, hW2⟩; have HKa : Kp [] W1 W2 := hW2 ▸ (Kp.refl _ _).drew; clear hW2))
              obtain ⟨F, hF⟩ : ∃ F : Nat, F = max far (al.next + n + 16) := ⟨_, rfl⟩
              have hmax : max (far : Int) (IntKind.i64.wrap (IntKind.i64.wrap ((al.next : Int) + (n : Int)) + 16)) = (F : Int) := by
                rw [wrapI ((al.next : Int) + (n : Int)) (by omega) (by omega), wrapI ((al.next : Int) + (n : Int) + 16) (by omega) (by omega)]
                omega
              rw [hmax]
              have hF2 : F ≤ 1099511628800 := by omega
              have hb2 : Below W1.heap.size W1 W2 := HKa.below (by simp) (Nat.le_refl _)
              have HQ2 := hid (HQ1.out.stays hb2)
              obtain ⟨hst, hstn⟩ := HQ2.out.st.some (by omega) (n : Int) (by omega) (by omega)
              rw [Int.toNat_natCast, ← hF] at hst
              rw [Int.toNat_natCast] at hstn
              have HSt := hid hst
              have HSn := hid hstn
              have HT2 := hid (HKa.row HT1.out (by simp))
              have HTl := hid HQ2.out.st.len
              have HG3 : Hid (∀ y ∈ [d, g, a], w.heap.size ≤ y) := by
                intro y hy
                simp only [List.mem_cons, List.not_mem_nil, or_false] at hy
                have h1 := HG.out
                have h2 := HQ2.out.new
                omega
              have HFs : Hid (wr.heap.size ∉ [d, g, a]) := by
                have h1 := row_lt HQ.out.disk.obj
                have h2 := row_lt HQ.out.disk.row
                have h3 := row_lt HQ.out.all.obj
                show _ ∉ _
                simp only [List.mem_cons, List.not_mem_nil, or_false]
                omega
              have q5 : W2.cell? ⟨wr.heap.size, 1, none⟩ = some (.int .i64 (n : Int)) := HC1.out _ HKa
              clear hst hstn hb2 HKa HC1 HNx hmax hF HQ1 HT1 HB1 HQ q0 q1 q2 q3 HI
              generalize wr.heap.size = sb at *
              by_cases hE : (someP D 0 1 al (n : Int)).1 = 0
              · have HSo := hid (some_ok HQ2.out.all HQ2.out.cell HQ2.out.disk (by have := HTl.out; omega) (HTb.out.stays HQ2.out.bel) (n : Int) hE)
                have HS2 := hid (HSn.out hE)
                have HSp := hid HQ2.out
                generalize someP D 0 1 al (n : Int) = SS at *
                obtain ⟨eS, D2, al2⟩ := SS
                simp only at HSo HSt HS2 hE
                go_wp2_with fail
                refine HSo.out.mono ?_
                rintro e w5 ⟨b2, k2, hk2, -, -, rfl, hnm, hbg, hd5, ha5, k5, -, hmx⟩
                obtain rfl : k2 = n := by omega
                have HQ5 : Hid (OAt w w5 x d g a D2 al2 F (j + 1)) := ⟨HQ2.out.cell.over HQ2.out.disk HQ2.out.all k5, hd5, ha5, HSt.out, HQ2.out.bel.trans (k5.below HG3.out HQ2.out.bel.size), HQ2.out.new⟩
                have HNm := hid hnm
                have HT5 := hid (k5.row HT2.out HFs.out)
                have q6 : w5.cell? ⟨sb, 1, none⟩ = some (.int .i64 (k2 : Int)) := by rw [cell_of_row _ _ _ _ _ _ HT5.out]; rfl
                have HNx := hid (anext_any ha5)
                have HLm := hid (limit_any ha5)
                have hl2 := HSt.out.le
                have hx2 := HS2.out
                rw [hx2] at HNx hl2
                rw [Int.natCast_add] at HNx
                have b9 : decide ((al2.lim : Int) < (al.next : Int) + (k2 : Int)) = false := decide_eq_false (by omega)
                have HX2 := hid hx2
                have HL2 := hid hl2
                have HNb := hid hnb
                clear hx2 hl2
                clear hnm hd5 ha5 k5 HSo HSt HS2 HSn HSp HQ2 HT2 HT5 q5 hk2 hE HG3
                go_wp2
                go_loopw [9, 15] (fun vn vk w' => ∃ (kk pp : Nat), kk ≤ k2 ∧ vk = .int .i64 kk ∧ vn = .int .i64 pp ∧ pp ≤ al.next + kk ∧ (kk = 0 → pp = p) ∧ (0 < kk → pp = al.next + kk) ∧ w' = w5) (fun _ vk _ => k2 - (intOf vk).toNat)
                case atStart => exact ⟨0, p, by omega, rfl, rfl, by omega, fun _ => rfl, fun h => by omega, rfl⟩
                case round =>
                  obtain ⟨kk, pp, hkk, rfl, rfl, hpp, hp0, hp1, hw⟩ := hrel
                  subst wr
                  by_cases hlt2 : kk < k2
                  · have c1 : decide ((kk : Int) < (k2 : Int)) = true := decide_eq_true (by omega)
                    have c2 : decide (kk < k2) = true := decide_eq_true hlt2
                    have q7 := HNm.out.cell kk hlt2
                    rw [Int.natCast_add] at q7
                    have c3 : decide ((al.next : Int) + (kk : Int) < (pp : Int)) = false := decide_eq_false (by omega)
                    clear hp0 hp1 hpp
                    go_wp2
                    go_roundw
                    case rel => exact ⟨kk + 1, al.next + kk + 1, by omega, by go_num, by go_num, by omega, fun h => by omega, fun _ => by omega, by first | trivial | rfl⟩
                    case measure => simp [intOf]; omega
                  · obtain rfl : kk = k2 := by omega
                    obtain rfl : pp = al.next + kk := hp1 (by omega)
                    rw [Int.natCast_add]
                    clear hp0 hp1 hpp
                    go_wp2_with fail
                    refine HNx.out.mono ?_
                    rintro e W ⟨rfl, hW⟩
                    subst W
                    go_wp2_with fail
                    refine HLm.out.mono ?_
                    rintro e W ⟨rfl, hW⟩
                    subst W
                    go_wp2
                    go_roundw
                    case rel => exact ⟨j + 1, a, D2, al2, al.next + kk, F, by omega, by omega, rfl, rfl, by go_num, rfl, by go_num, by rw [HX2.out]; exact Nat.le_refl _, hF2, HQ5⟩
                    case measure => simp [intOf]; omega
              · have HSo := hid (some_bad HQ2.out.all HQ2.out.cell HQ2.out.disk (by have := HTl.out; omega) (HTb.out.stays HQ2.out.bel) (n : Int) hE)
                have b7 : ((someP D 0 1 al (n : Int)).1 != 0) = true := by simpa using hE
                have HSl := hid HQ2.out
                generalize hSS : someP D 0 1 al (n : Int) = SS at *
                obtain ⟨eS, D2, al2⟩ := SS
                simp only at HSo HSt b7
                have hal : al.next ≤ al2.next := by
                  have h9 := some_err D 0 1 al (n : Int) (by rw [hSS]; exact hE)
                  rw [hSS] at h9
                  simp only at h9
                  rw [h9]
                  omega
                clear hSS
                go_wp2_with fail
                refine HSo.out.mono ?_
                rintro e w5 ⟨rfl, hd5, ha5, k5⟩
                have HQ5 : Hid (OAt w w5 x d g a D2 al2 F (j + 1)) := ⟨HQ2.out.cell.over HQ2.out.disk HQ2.out.all k5, hd5, ha5, HSt.out, HQ2.out.bel.trans (k5.below HG3.out HQ2.out.bel.size), HQ2.out.new⟩
                clear hd5 ha5 k5 HSo HSt HSn HQ2 HSl HT2 q5 hE HG3
                go_wp2
                go_roundw
                case rel => exact ⟨j + 1, a, D2, al2, p, F, by omega, by omega, rfl, rfl, rfl, rfl, by go_num, by omega, hF2, HQ5⟩
                case measure => simp [intOf]; omega
            · have hor : ¬ k < 4 ∨ ¬ 0 ≤ k ∨ ¬ 1 ≤ i ∨ ¬ i ≤ 256 := by omega
              clear hk4 hk5
              rcases (by omega : ¬ k < 4 ∨ (k < 4 ∧ ¬ 0 ≤ k) ∨ (k < 4 ∧ 0 ≤ k ∧ ¬ 1 ≤ i) ∨ (k < 4 ∧ 0 ≤ k ∧ 1 ≤ i ∧ ¬ i ≤ 256)) with h | h | h | h
              · have f3 : decide (k < 4) = false := decide_eq_false h
                clear hk hor h
                go_wp2
                go_roundw
                case rel => exact ⟨j + 1, a, D, al, p, far, by omega, by omega, rfl, rfl, rfl, rfl, by go_num, hp, hfar, HQm⟩
                case measure => simp [intOf]; omega
              · have f3 : decide (k < 4) = true := decide_eq_true h.1
                have f4 : decide (0 ≤ k) = false := decide_eq_false h.2
                clear hk hor h
                go_wp2
                go_roundw
                case rel => exact ⟨j + 1, a, D, al, p, far, by omega, by omega, rfl, rfl, rfl, rfl, by go_num, hp, hfar, HQm⟩
                case measure => simp [intOf]; omega
              · have f3 : decide (k < 4) = true := decide_eq_true h.1
                have f4 : decide (0 ≤ k) = true := decide_eq_true h.2.1
                have f5 : decide (1 ≤ i) = false := decide_eq_false h.2.2
                clear hk hor h
                go_wp2
                go_roundw
                case rel => exact ⟨j + 1, a, D, al, p, far, by omega, by omega, rfl, rfl, rfl, rfl, by go_num, hp, hfar, HQm⟩
                case measure => simp [intOf]; omega
              · have f3 : decide (k < 4) = true := decide_eq_true h.1
                have f4 : decide (0 ≤ k) = true := decide_eq_true h.2.1
                have f5 : decide (1 ≤ i) = true := decide_eq_true h.2.2.1
                have f6 : decide (i ≤ 256) = false := decide_eq_false h.2.2.2
                clear hk hor h
                go_wp2
                go_roundw
                case rel => exact ⟨j + 1, a, D, al, p, far, by omega, by omega, rfl, rfl, rfl, rfl, by go_num, hp, hfar, HQm⟩
                case measure => simp [intOf]; omega
      · have e3 : decide ((j : Int) < 40) = false := by simp; omega
        go_wp2
        go_ret
        exact ⟨rfl, HQ.out.bel⟩
    · have e1 : decide ((j : Int) < (len : Int)) = false := by simpa using hlt
      have e2 : decide (j < len) = false := by simpa using hlt
      go_wp2
      go_ret
      exact ⟨rfl, HQ.out.bel⟩
end Go.Proofs.YtnhnjdldgaaeoaaDoor
