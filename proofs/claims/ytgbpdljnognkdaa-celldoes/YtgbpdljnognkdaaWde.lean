/-
  CellDoes answers true: every call of a cell, on a disk that goes down and crashes, is answered as the reference answers it.
-/
import Derived.Test.YtgbpdljnognkdaaWdb
namespace Go.Proofs.Ytgbpdljnognkdaa
open Go Go.RowKit
set_option maxRecDepth 100000

set_option maxHeartbeats 8000000 in
theorem does_ok (w : World) (a : Option Addr) (len cap : Nat) (ha : ActsAt w a len) (first size : Nat) (hr : first + 2 + 2 * size ≤ 20) (h1 : 1 ≤ size) (h2 : size ≤ 255) : Calls Try.prog 3 #[.int .i64 (first : Int), .int .i64 (size : Int), .slice a len cap] w fun e w' => e = .returned (.bool true) ∧ Below w.heap.size w w' := by
  have H1 := hid (new_ok w 20 (by omega) (by omega))
  have H2 := hid (fun W => rnew_ok W 20 (by omega) (by omega))
  obtain ⟨hu1, hu2, hu3⟩ := newD_up 20
  have HLn0 : Hid ((newD 20).S.length = 20) := hu3
  have HA := hid ha
  generalize newD 20 = D0 at *
  clear hu2 ha
  go_enter Try.func3, Try.ntmps3
  go_wp2_with fail
  refine H1.out.mono ?_
  rintro e w1 ⟨d, g, rfl, hd1, hb1, hg1, hg2⟩
  have HD1 := hid hd1
  have HB1 := hid hb1
  have HG1 := hid hg1
  have HG2 := hid hg2
  clear hd1 hb1 hg1 hg2 H1
  go_wp2_with fail
  refine (H2.out _).mono ?_
  rintro e w2 ⟨r, rfl, hr2, hb2, hx1, hx2, hx3⟩
  have HBo2 : Hid (Both w2 d g r D0) := ⟨HD1.out.kept (X := []) (Kp.of hb2) (by simp) (by simp), hr2⟩
  have HB2 : Hid (Below w.heap.size w w2) := HB1.out.trans (hb2.mono HB1.out.size)
  have HG : Hid (∀ z ∈ allB d g r, w.heap.size ≤ z) := by
    intro z hz
    have h9 := HB1.out.size
    have h8 := HG1.out
    have h7 := HG2.out
    simp only [List.mem_cons, List.not_mem_nil, or_false] at hz
    omega
  clear hr2 hb2 hx1 hx2 hx3 H2 HD1 HB1 HG1 HG2
  have HO := hid (open_ok HBo2.out.disk first size (by omega) h1 h2 hu1)
  go_wp2_with fail
  refine HO.out.mono ?_
  rintro e w3 ⟨x, rfl, hc3, hb3, -⟩
  have HBo3 := hid (HBo2.out.kept hb3)
  have HB3 : Hid (Below w.heap.size w w3) := HB2.out.trans (hb3.mono HB2.out.size)
  have HC3 := hid hc3
  have HO2 := hid (ropen_ok HBo3.out.ref first size (by omega) h1 h2 hu1)
  clear hc3 hb3 HO HBo2 HB2
  go_wp2_with fail
  refine HO2.out.mono ?_
  rintro e w4 ⟨y, rfl, hy4, hb4, -⟩
  have HQ4 : Hid (Quad w4 d g r x y D0 first size) := ⟨HBo3.out.kept hb4, HC3.out.stays hb4, hy4⟩
  have HB4 : Hid (Below w.heap.size w w4) := HB3.out.trans (hb4.mono HB3.out.size)
  have HAw := hid (awake_any w4)
  clear hy4 hb4 HO2 HBo3 HB3 HC3
  go_wp2_with fail
  refine HAw.out.mono ?_
  rintro e w5 ⟨rfl, hb5⟩
  have HB5 : Hid (Below w.heap.size w w5) := HB4.out.trans (hb5.mono HB4.out.size)
  have HQ5 := hid (HQ4.out.stays hb5)
  clear hb5 HAw HB4 HQ4 hu1 hu3
  go_wp2
  go_loopw [15] (fun i w' => ∃ (j : Nat) (D : Dk), j ≤ len ∧ j ≤ 40 ∧ i = .int .i64 j ∧ Hid (Quad w' d g r x y D first size) ∧ Hid (D.S.length = 20) ∧ Hid (Below w.heap.size w w')) (fun i _ => 40 - (intOf i).toNat)
  case atStart => exact ⟨0, D0, by omega, by omega, rfl, HQ5, HLn0, HB5⟩
  case round =>
    clear HQ5 HLn0 HB5
    obtain ⟨j, D, hj, hj40, rfl, HQd, HLn, HB⟩ := hrel
    by_cases hlt : j < len
    · have e1 : decide ((j : Int) < (len : Int)) = true := by simpa using hlt
      have e2 : decide (j < len) = true := by simpa using hlt
      by_cases h40 : j < 40
      · have e3 : decide ((j : Int) < 40) = true := by simp; omega
        obtain ⟨b, off, k, i, t, v, ks, hab, hc, hi, hI⟩ := HA.out j hlt
        subst hab
        have hcw : ∀ c u, [Value.int .i64 k, .int .i64 i, .string ⟨(t : List UInt8).toArray⟩, v][c]? = some u → wr.cell? ⟨b, off + j * 4 + c, none⟩ = some u := by
          intro c u hu
          have h9 := hc c u hu
          have h8 := World.block_lt_of_cell? _ _ h9
          rw [← h9]
          simp only [World.cell?, HB.out.block b h8]
        have q0 : wr.cell? ⟨b, off + j * 4, none⟩ = some (.int .i64 k) := hcw 0 _ rfl
        have q1 := hcw 1 _ rfl
        have q2 := hcw 2 _ rfl
        have q3 := hcw 3 _ rfl
        have HDo := hid (do_any HQd.out (by rw [HLn.out]; exact hr) k i t v ks hi (hI.kept HB.out) (fun hne b hb hx => by
          have h9 := HG.out b hx
          have h8 := ints_old hI hne b hb
          omega))
        have HLn2 : Hid ((actP D first size k i t ks).S.length = 20) := by show _ = _; rw [actP_len]; exact HLn.out
        generalize actP D first size k i t ks = D2 at *
        obtain ⟨vao, vcap, hv, -⟩ := hI
        subst hv
        generalize ks.length = vl at *
        clear hc hcw hi
        go_wp2_with fail
        refine HDo.out.mono ?_
        rintro e w6 ⟨rfl, hq6, k6⟩
        have HQ6 := hid hq6
        have HB6 : Hid (Below w.heap.size w w6) := HB.out.trans (k6.below HG.out HB.out.size)
        have HLo := hid (load_any hq6.cell hq6.both.disk (by rw [HLn2.out]; exact hr))
        have HLo2 : Hid (∀ W, Below w6.heap.size w6 W → Calls Try.prog 15 #[.pointer (some ⟨y, 0, none⟩)] W fun e w' => e = .returned (.tuple #[.string ⟨(loadP D2 first size).1.toArray⟩, .int .i64 (loadP D2 first size).2.1, .int .i64 (loadP D2 first size).2.2]) ∧ Below W.heap.size W w') :=
          fun W hb => rload_any (hq6.ref.stays hb) (hq6.both.ref.below hb) (by rw [HLn2.out]; exact hr)
        generalize loadP D2 first size = LP at *
        obtain ⟨lt, ln, le⟩ := LP
        simp only at HLo HLo2
        clear hq6 k6 HQd HB HDo HLn q0 q1 q2 q3
        go_wp2_with fail
        refine HLo.out.mono ?_
        rintro e w7 ⟨rfl, hb7⟩
        have HB7 : Hid (Below w.heap.size w w7) := HB6.out.trans (hb7.mono HB6.out.size)
        have HQ7 := hid (HQ6.out.stays hb7)
        have HL2 := hid (HLo2.out _ hb7)
        clear hb7 HLo HLo2 HQ6 HB6
        go_wp2_with fail
        refine HL2.out.mono ?_
        rintro e w8 ⟨rfl, hb8⟩
        have HB8 : Hid (Below w.heap.size w w8) := HB7.out.trans (hb8.mono HB7.out.size)
        have HQ8 := hid (HQ7.out.stays hb8)
        have HRm := hid (room_any HQ8.out.cell)
        clear hb8 HL2 HQ7 HB7
        go_wp2_with fail
        refine HRm.out.mono ?_
        rintro e W ⟨rfl, hW⟩
        subst W
        go_wp2
        go_roundw
        case rel => exact ⟨j + 1, D2, by omega, by omega, by go_num, HQ8, HLn2, HB8⟩
        case measure => simp [intOf]; omega
      · have e3 : decide ((j : Int) < 40) = false := by simp; omega
        have HBo := hid HQd.out.both
        have HCr := hid (crash_any HBo.out.disk (.slice none 0 0) [] (nil_ints _))
        have HDL : Hid ((crashD D []).S.length = 20) := by show _ = _; rw [crashD_len]; exact HLn.out
        go_wp2_with fail
        refine HCr.out.mono ?_
        rintro e w7 ⟨rfl, h7, k7⟩
        have HD7 := hid h7
        have HR7 := hid (HBo.out.refKept k7)
        have HB7 : Hid (Below w.heap.size w w7) := HB.out.trans (k7.below (fun z hz => HG.out z (by simp only [List.mem_cons, List.not_mem_nil, or_false] at hz ⊢; omega)) HB.out.size)
        have HNe := hid HBo.out.nes
        clear h7 k7 HCr
        have HCr2 := hid (rcrash_any HR7.out (.slice none 0 0) [] (nil_ints _) (fun h => absurd rfl h))
        go_wp2_with fail
        refine HCr2.out.mono ?_
        rintro e w8 ⟨rfl, h8, k8⟩
        have HBo8 : Hid (Both w8 d g r (crashD D [])) := ⟨HD7.out.kept k8 HNe.out.1 HNe.out.2, h8⟩
        have HB8 : Hid (Below w.heap.size w w8) := HB7.out.trans (k8.below (fun z hz => HG.out z (by simp only [List.mem_cons, List.not_mem_nil, or_false] at hz ⊢; omega)) HB7.out.size)
        clear h8 k8 HCr2 HD7 HR7 HB7 HNe
        have HDn : Hid ((crashD D []).down = false) := show _ = _ from rfl
        generalize crashD D [] = DE at *
        have rc0 := HBo8.out.ref.c0
        rw [HDL.out] at rc0
        go_wp2
        go_loopw [22] (fun i w' => ∃ j : Nat, j ≤ 20 ∧ i = .int .i64 j ∧ w' = w8) (fun i _ => 20 - (intOf i).toNat)
        case atStart => exact ⟨0, by omega, rfl, rfl⟩
        case round =>
          obtain ⟨jj, hjj, rfl, hw⟩ := hrel
          subst wr
          by_cases hl20 : jj < 20
          · have ej : decide ((jj : Int) < 20) = true := by simp; omega
            have HRd := hid (read_any HBo8.out.disk jj)
            have hre : readT DE jj = secB DE.S jj := by
              have hb : hasB DE.S.length (jj : Int) = true := by rw [HDL.out]; unfold hasB; simp; omega
              unfold readT secB
              rw [HDn.out, hb, Int.toNat_natCast]
              rfl
            rw [hre] at HRd
            have rc1 := HBo8.out.ref.sec jj (by rw [HDL.out]; exact hl20)
            generalize secB DE.S jj = ss at *
            generalize readE DE jj = ee at *
            go_wp2_with fail
            refine HRd.out.mono ?_
            rintro e W ⟨rfl, hW⟩
            subst W
            go_wp2
            go_roundw
            case rel => exact ⟨jj + 1, by omega, by go_num, by first | trivial | rfl⟩
            case measure => simp [intOf]; omega
          · have ej : decide ((jj : Int) < 20) = false := by simp; omega
            go_wp2
            go_ret
            exact ⟨rfl, HB8.out⟩
    · have e1 : decide ((j : Int) < (len : Int)) = false := by simpa using hlt
      have e2 : decide (j < len) = false := by simpa using hlt
      have HBo := hid HQd.out.both
      have HCr := hid (crash_any HBo.out.disk (.slice none 0 0) [] (nil_ints _))
      have HDL : Hid ((crashD D []).S.length = 20) := by show _ = _; rw [crashD_len]; exact HLn.out
      go_wp2_with fail
      refine HCr.out.mono ?_
      rintro e w7 ⟨rfl, h7, k7⟩
      have HD7 := hid h7
      have HR7 := hid (HBo.out.refKept k7)
      have HB7 : Hid (Below w.heap.size w w7) := HB.out.trans (k7.below (fun z hz => HG.out z (by simp only [List.mem_cons, List.not_mem_nil, or_false] at hz ⊢; omega)) HB.out.size)
      have HNe := hid HBo.out.nes
      clear h7 k7 HCr
      have HCr2 := hid (rcrash_any HR7.out (.slice none 0 0) [] (nil_ints _) (fun h => absurd rfl h))
      go_wp2_with fail
      refine HCr2.out.mono ?_
      rintro e w8 ⟨rfl, h8, k8⟩
      have HBo8 : Hid (Both w8 d g r (crashD D [])) := ⟨HD7.out.kept k8 HNe.out.1 HNe.out.2, h8⟩
      have HB8 : Hid (Below w.heap.size w w8) := HB7.out.trans (k8.below (fun z hz => HG.out z (by simp only [List.mem_cons, List.not_mem_nil, or_false] at hz ⊢; omega)) HB7.out.size)
      clear h8 k8 HCr2 HD7 HR7 HB7 HNe
      have HDn : Hid ((crashD D []).down = false) := show _ = _ from rfl
      generalize crashD D [] = DE at *
      have rc0 := HBo8.out.ref.c0
      rw [HDL.out] at rc0
      go_wp2
      go_loopw [22] (fun i w' => ∃ j : Nat, j ≤ 20 ∧ i = .int .i64 j ∧ w' = w8) (fun i _ => 20 - (intOf i).toNat)
      case atStart => exact ⟨0, by omega, rfl, rfl⟩
      case round =>
        obtain ⟨jj, hjj, rfl, hw⟩ := hrel
        subst wr
        by_cases hl20 : jj < 20
        · have ej : decide ((jj : Int) < 20) = true := by simp; omega
          have HRd := hid (read_any HBo8.out.disk jj)
          have hre : readT DE jj = secB DE.S jj := by
            have hb : hasB DE.S.length (jj : Int) = true := by rw [HDL.out]; unfold hasB; simp; omega
            unfold readT secB
            rw [HDn.out, hb, Int.toNat_natCast]
            rfl
          rw [hre] at HRd
          have rc1 := HBo8.out.ref.sec jj (by rw [HDL.out]; exact hl20)
          generalize secB DE.S jj = ss at *
          generalize readE DE jj = ee at *
          go_wp2_with fail
          refine HRd.out.mono ?_
          rintro e W ⟨rfl, hW⟩
          subst W
          go_wp2
          go_roundw
          case rel => exact ⟨jj + 1, by omega, by go_num, by first | trivial | rfl⟩
          case measure => simp [intOf]; omega
        · have ej : decide ((jj : Int) < 20) = false := by simp; omega
          go_wp2
          go_ret
          exact ⟨rfl, HB8.out⟩
end Go.Proofs.Ytgbpdljnognkdaa
