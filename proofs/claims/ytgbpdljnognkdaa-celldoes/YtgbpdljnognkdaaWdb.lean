/-
  CellDoes answers true: every call of a cell, on a disk that goes down and crashes, is answered as the reference answers it.
-/
import Derived.Test.YtgbpdljnognkdaaWdo
import Derived.Test.YtgbpdljnognkdaaQop
import Derived.Test.YtgbpdljnognkdaaAwk
namespace Go.Proofs.Ytgbpdljnognkdaa
open Go Go.RowKit
set_option maxRecDepth 100000

/-- The list of acts at a has so many acts that can be read. -/
def ActsAt (W : World) (a : Option Addr) (len : Nat) : Prop := ∀ j, j < len → ∃ b off k i t v ks, a = some ⟨b, off, none⟩ ∧ (∀ c u, [Value.int .i64 k, .int .i64 i, .string ⟨(t : List UInt8).toArray⟩, v][c]? = some u → W.cell? ⟨b, off + j * 4 + c, none⟩ = some u) ∧ i < 9223372036854775808 ∧ IntsAt W v ks
theorem ActsAt.kept {w w' : World} {a : Option Addr} {len : Nat} (h : ActsAt w a len) (hb : Below w.heap.size w w') : ActsAt w' a len := by
  intro j hj
  obtain ⟨b, off, k, i, t, v, ks, ha, hc, hi, hI⟩ := h j hj
  refine ⟨b, off, k, i, t, v, ks, ha, fun c u hu => ?_, hi, hI.kept hb⟩
  have h9 := hc c u hu
  have h8 := World.block_lt_of_cell? _ _ h9
  rw [← h9]
  simp only [World.cell?, hb.block b h8]
theorem ints_old {w : World} {v : Value} {ks : List Int} (h : IntsAt w v ks) (hne : ks ≠ []) (b : Nat) (hb : v.ownBlock = some b) : b < w.heap.size := by
  obtain ⟨ao, cap, rfl, -, e2⟩ := h
  obtain ⟨b', off', rfl, e3⟩ := e2 hne
  simp [Value.ownBlock] at hb
  subst hb
  cases ks with
  | nil => exact absurd rfl hne
  | cons q qs => exact World.block_lt_of_cell? _ _ (e3 0 q rfl)

theorem nil_ints (w : World) : IntsAt w (.slice none 0 0) [] := ⟨none, 0, rfl, Nat.le_refl _, fun h => absurd rfl h⟩

set_option maxHeartbeats 8000000 in
theorem does_bad (w : World) (a : Option Addr) (len cap : Nat) (f s : Int) (hf : f < 9223372036854775808) (hE : openE (newD 20) f s ≠ 0) : Calls Try.prog 3 #[.int .i64 f, .int .i64 s, .slice a len cap] w fun e w' => e = .returned (.bool true) ∧ Below w.heap.size w w' := by
  have H1 := hid (new_ok w 20 (by omega) (by omega))
  have H2 := hid (fun W => rnew_ok W 20 (by omega) (by omega))
  obtain ⟨hu1, hu2, hu3⟩ := newD_up 20
  have HLn : Hid ((newD 20).S.length = 20) := hu3
  have HE := hid hE
  generalize newD 20 = D0 at *
  clear hu1 hu2 hu3
  go_enter Try.func3, Try.ntmps3
  go_wp2_with fail
  refine H1.out.mono ?_
  rintro e w1 ⟨d, g, rfl, hd1, hb1, hg1, hg2⟩
  have HD1 := hid hd1
  have HB1 := hid hb1
  have HG1 := hid hg1
  have HG2 := hid hg2
  clear hd1 hb1 hg1 hg2 H1
  go_wp2_with fail
  refine (H2.out _).mono ?_
  rintro e w2 ⟨r, rfl, hr2, hb2, hx1, hx2, hx3⟩
  have HBo2 : Hid (Both w2 d g r D0) := ⟨HD1.out.kept (X := []) (Kp.of hb2) (by simp) (by simp), hr2⟩
  have HB2 : Hid (Below w.heap.size w w2) := HB1.out.trans (hb2.mono HB1.out.size)
  have HG : Hid (∀ z ∈ allB d g r, w.heap.size ≤ z) := by
    intro z hz
    have h9 := HB1.out.size
    have h8 := HG1.out
    have h7 := HG2.out
    simp only [List.mem_cons, List.not_mem_nil, or_false] at hz
    omega
  clear hr2 hb2 hx1 hx2 hx3 H2 HD1 HB1 HG1 HG2
  have HO := hid (open_bad HBo2.out.disk f s HE.out)
  have HO2 := hid (ropen_bad HBo2.out.ref f s hf HE.out)
  generalize openE D0 f s = eO at *
  go_wp2_with fail
  refine HO.out.mono ?_
  rintro e W ⟨rfl, hW⟩
  subst W
  go_wp2_with fail
  refine HO2.out.mono ?_
  rintro e W ⟨rfl, hW⟩
  subst W
  have HA := hid (awake_any w2)
  clear HO HO2
  go_wp2_with fail
  refine HA.out.mono ?_
  rintro e w3 ⟨rfl, hb3⟩
  have HB3 : Hid (Below w.heap.size w w3) := HB2.out.trans (hb3.mono HB2.out.size)
  have HBo3 := hid (HBo2.out.kept hb3)
  clear hb3 HA HB2 HBo2
  go_wp2
  go_loopw [15] (fun i w' => i = .int .i64 0 ∧ w' = w3) (fun _ _ => 0)
  case atStart => exact ⟨rfl, rfl⟩
  case round =>
    obtain ⟨rfl, hw⟩ := hrel
    subst wr
    by_cases hln : 0 < len
    · have e1 : decide ((0 : Int) < (len : Int)) = true := by simpa using hln
      have HCr := hid (crash_any HBo3.out.disk (.slice none 0 0) [] (nil_ints _))
      have HDL : Hid ((crashD D0 []).S.length = 20) := by show _ = _; rw [crashD_len]; exact HLn.out
      go_wp2_with fail
      refine HCr.out.mono ?_
      rintro e w7 ⟨rfl, h7, k7⟩
      have HD7 := hid h7
      have HR7 := hid (HBo3.out.refKept k7)
      have HB7 : Hid (Below w.heap.size w w7) := HB3.out.trans (k7.below (fun z hz => HG.out z (by simp only [List.mem_cons, List.not_mem_nil, or_false] at hz ⊢; omega)) HB3.out.size)
      have HNe := hid HBo3.out.nes
      clear h7 k7 HCr
      have HCr2 := hid (rcrash_any HR7.out (.slice none 0 0) [] (nil_ints _) (fun h => absurd rfl h))
      go_wp2_with fail
      refine HCr2.out.mono ?_
      rintro e w8 ⟨rfl, h8, k8⟩
      have HBo8 : Hid (Both w8 d g r (crashD D0 [])) := ⟨HD7.out.kept k8 HNe.out.1 HNe.out.2, h8⟩
      have HB8 : Hid (Below w.heap.size w w8) := HB7.out.trans (k8.below (fun z hz => HG.out z (by simp only [List.mem_cons, List.not_mem_nil, or_false] at hz ⊢; omega)) HB7.out.size)
      clear h8 k8 HCr2 HD7 HR7 HB7 HNe
      have HDn : Hid ((crashD D0 []).down = false) := show _ = _ from rfl
      generalize crashD D0 [] = DE at *
      have rc0 := HBo8.out.ref.c0
      rw [HDL.out] at rc0
      go_wp2
      go_loopw [22] (fun i w' => ∃ j : Nat, j ≤ 20 ∧ i = .int .i64 j ∧ w' = w8) (fun i _ => 20 - (intOf i).toNat)
      case atStart => exact ⟨0, by omega, rfl, rfl⟩
      case round =>
        obtain ⟨jj, hjj, rfl, hw⟩ := hrel
        subst wr
        by_cases hl20 : jj < 20
        · have ej : decide ((jj : Int) < 20) = true := by simp; omega
          have HRd := hid (read_any HBo8.out.disk jj)
          have hre : readT DE jj = secB DE.S jj := by
            have hb : hasB DE.S.length (jj : Int) = true := by rw [HDL.out]; unfold hasB; simp; omega
            unfold readT secB
            rw [HDn.out, hb, Int.toNat_natCast]
            rfl
          rw [hre] at HRd
          have rc1 := HBo8.out.ref.sec jj (by rw [HDL.out]; exact hl20)
          generalize secB DE.S jj = ss at *
          generalize readE DE jj = ee at *
          go_wp2_with fail
          refine HRd.out.mono ?_
          rintro e W ⟨rfl, hW⟩
          subst W
          go_wp2
          go_roundw
          case rel => exact ⟨jj + 1, by omega, by go_num, by first | trivial | rfl⟩
          case measure => simp [intOf]; omega
        · have ej : decide ((jj : Int) < 20) = false := by simp; omega
          go_wp2
          go_ret
          exact ⟨rfl, HB8.out⟩
    · have e1 : decide ((0 : Int) < (len : Int)) = false := by simpa using hln
      obtain rfl : len = 0 := by omega
      have HCr := hid (crash_any HBo3.out.disk (.slice none 0 0) [] (nil_ints _))
      have HDL : Hid ((crashD D0 []).S.length = 20) := by show _ = _; rw [crashD_len]; exact HLn.out
      go_wp2_with fail
      refine HCr.out.mono ?_
      rintro e w7 ⟨rfl, h7, k7⟩
      have HD7 := hid h7
      have HR7 := hid (HBo3.out.refKept k7)
      have HB7 : Hid (Below w.heap.size w w7) := HB3.out.trans (k7.below (fun z hz => HG.out z (by simp only [List.mem_cons, List.not_mem_nil, or_false] at hz ⊢; omega)) HB3.out.size)
      have HNe := hid HBo3.out.nes
      clear h7 k7 HCr
      have HCr2 := hid (rcrash_any HR7.out (.slice none 0 0) [] (nil_ints _) (fun h => absurd rfl h))
      go_wp2_with fail
      refine HCr2.out.mono ?_
      rintro e w8 ⟨rfl, h8, k8⟩
      have HBo8 : Hid (Both w8 d g r (crashD D0 [])) := ⟨HD7.out.kept k8 HNe.out.1 HNe.out.2, h8⟩
      have HB8 : Hid (Below w.heap.size w w8) := HB7.out.trans (k8.below (fun z hz => HG.out z (by simp only [List.mem_cons, List.not_mem_nil, or_false] at hz ⊢; omega)) HB7.out.size)
      clear h8 k8 HCr2 HD7 HR7 HB7 HNe
      have HDn : Hid ((crashD D0 []).down = false) := show _ = _ from rfl
      generalize crashD D0 [] = DE at *
      have rc0 := HBo8.out.ref.c0
      rw [HDL.out] at rc0
      go_wp2
      go_loopw [22] (fun i w' => ∃ j : Nat, j ≤ 20 ∧ i = .int .i64 j ∧ w' = w8) (fun i _ => 20 - (intOf i).toNat)
      case atStart => exact ⟨0, by omega, rfl, rfl⟩
      case round =>
        obtain ⟨jj, hjj, rfl, hw⟩ := hrel
        subst wr
        by_cases hl20 : jj < 20
        · have ej : decide ((jj : Int) < 20) = true := by simp; omega
          have HRd := hid (read_any HBo8.out.disk jj)
          have hre : readT DE jj = secB DE.S jj := by
            have hb : hasB DE.S.length (jj : Int) = true := by rw [HDL.out]; unfold hasB; simp; omega
            unfold readT secB
            rw [HDn.out, hb, Int.toNat_natCast]
            rfl
          rw [hre] at HRd
          have rc1 := HBo8.out.ref.sec jj (by rw [HDL.out]; exact hl20)
          generalize secB DE.S jj = ss at *
          generalize readE DE jj = ee at *
          go_wp2_with fail
          refine HRd.out.mono ?_
          rintro e W ⟨rfl, hW⟩
          subst W
          go_wp2
          go_roundw
          case rel => exact ⟨jj + 1, by omega, by go_num, by first | trivial | rfl⟩
          case measure => simp [intOf]; omega
        · have ej : decide ((jj : Int) < 20) = false := by simp; omega
          go_wp2
          go_ret
          exact ⟨rfl, HB8.out⟩
end Go.Proofs.Ytgbpdljnognkdaa
