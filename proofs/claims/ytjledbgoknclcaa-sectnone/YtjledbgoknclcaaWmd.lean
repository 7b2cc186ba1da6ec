/-
  What made answers: both disks behind some calls, alike.
-/
import Derived.Test.YtjledbgoknclcaaWdo
namespace Go.Proofs.Ytjledbgoknclcaa
open Go Go.RowKit
set_option maxRecDepth 100000

/-- The list of acts at a has so many acts that can be read. -/
def ActsAt (W : World) (a : Option Addr) (len : Nat) : Prop := ∀ j, j < len → ∃ b off k i t v ks, a = some ⟨b, off, none⟩ ∧ (∀ c u, [Value.int .i64 k, .int .i64 i, .string ⟨(t : List UInt8).toArray⟩, v][c]? = some u → W.cell? ⟨b, off + j * 4 + c, none⟩ = some u) ∧ i < 9223372036854775808 ∧ IntsAt W v ks
theorem ActsAt.kept {w w' : World} {a : Option Addr} {len : Nat} (h : ActsAt w a len) (hb : Below w.heap.size w w') : ActsAt w' a len := by
  intro j hj
  obtain ⟨b, off, k, i, t, v, ks, ha, hc, hi, hI⟩ := h j hj
  refine ⟨b, off, k, i, t, v, ks, ha, fun c u hu => ?_, hi, hI.kept hb⟩
  have h9 := hc c u hu
  have h8 := World.block_lt_of_cell? _ _ h9
  rw [← h9]
  simp only [World.cell?, hb.block b h8]
theorem ints_old {w : World} {v : Value} {ks : List Int} (h : IntsAt w v ks) (hne : ks ≠ []) (b : Nat) (hb : v.ownBlock = some b) : b < w.heap.size := by
  obtain ⟨ao, cap, rfl, -, e2⟩ := h
  obtain ⟨b', off', rfl, e3⟩ := e2 hne
  simp [Value.ownBlock] at hb
  subst hb
  cases ks with
  | nil => exact absurd rfl hne
  | cons q qs => exact World.block_lt_of_cell? _ _ (e3 0 q rfl)

theorem made_bad (w : World) (n : Int) (h : n < 1 ∨ 512 < n) (l : Value) : Calls Try.prog 8 #[.int .i64 n, l] w fun e w' => e = .returned (.tuple #[.pointer none, .pointer none, .bool true]) ∧ w' = w := by
  have H1 := hid (new_bad w n h)
  have H2 := hid (rnew_bad w n h)
  clear h
  go_enter Try.func8, Try.ntmps8
  go_wp2_with fail
  refine H1.out.mono ?_
  rintro e w1 ⟨rfl, hw1⟩
  subst w1
  go_wp2_with fail
  refine H2.out.mono ?_
  rintro e w1 ⟨rfl, hw1⟩
  subst w1
  go_wp2
  go_loopw [11] (fun i w' => i = .int .i64 0 ∧ w' = w) (fun _ _ => 0)
  case atStart => exact ⟨rfl, rfl⟩
  case round =>
    obtain ⟨rfl, hw⟩ := hrel
    subst wr
    go_wp2
    go_ret3
    exact ⟨rfl, rfl⟩

set_option maxHeartbeats 4000000 in
theorem made_ok (w : World) (n : Nat) (h1 : 1 ≤ n) (h2 : n ≤ 512) (a : Option Addr) (len cap : Nat) (ha : ActsAt w a len) : Calls Try.prog 8 #[.int .i64 (n : Int), .slice a len cap] w fun e w' =>
    ∃ d g r D, e = .returned (.tuple #[.pointer (some ⟨d, 0, none⟩), .pointer (some ⟨r.x, 0, none⟩), .bool true]) ∧ Both w' d g r D ∧ D.S.length = n ∧ Below w.heap.size w w' ∧ ∀ x ∈ allB d g r, w.heap.size ≤ x := by
  have H1 := hid (new_ok w n h1 h2)
  have H2 := hid (fun W => rnew_ok W n h1 h2)
  have HA := hid ha
  clear ha h1
  go_enter Try.func8, Try.ntmps8
  go_wp2_with fail
  refine H1.out.mono ?_
  rintro e w1 ⟨d, g, rfl, hd1, hb1, hg1, hg2⟩
  have HD1 := hid hd1
  have HB1 := hid hb1
  have HG1 := hid hg1
  have HG2 := hid hg2
  clear hd1 hb1 hg1 hg2 H1
  go_wp2_with fail
  refine (H2.out _).mono ?_
  rintro e w2 ⟨r, rfl, hr2, hb2, hx1, hx2, hx3⟩
  have HBo : Hid (Both w2 d g r (newD n)) := ⟨HD1.out.kept (X := []) (Kp.of hb2) (by simp) (by simp), hr2⟩
  have HB2 : Hid (Below w.heap.size w w2) := HB1.out.trans (hb2.mono HB1.out.size)
  have HG : Hid (∀ x ∈ allB d g r, w.heap.size ≤ x) := by
    intro x hx
    have h9 := HB1.out.size
    have h8 := HG1.out
    have h7 := HG2.out
    simp only [List.mem_cons, List.not_mem_nil, or_false] at hx
    omega
  have HL0 : Hid ((newD n).S.length = n) := show _ = _ by simp [newD]
  clear hr2 hb2 hx1 hx2 hx3 H2 HD1 HB1 HG1 HG2
  generalize newD n = D0 at *
  go_wp2
  go_loopw [11] (fun i w' => ∃ (j : Nat) (D : Dk), j ≤ len ∧ j ≤ 60 ∧ i = .int .i64 j ∧ Hid (Both w' d g r D) ∧ Hid (D.S.length = n) ∧ Hid (Below w.heap.size w w')) (fun i _ => 60 - (intOf i).toNat)
  case atStart => exact ⟨0, D0, by omega, by omega, rfl, HBo, HL0, HB2⟩
  case round =>
    clear HBo HL0 HB2
    obtain ⟨j, D, hj, hj60, rfl, HBo, HLn, HBl⟩ := hrel
    by_cases hlt : j < len
    · have d1 : decide ((j : Int) < (len : Int)) = true := by simpa using hlt
      have d2 : decide (j < len) = true := by simpa using hlt
      by_cases h60 : j < 60
      · have d3 : decide ((j : Int) < 60) = true := by simp; omega
        obtain ⟨b, off, k, i, t, v, ks, hab, hc, hi, hI⟩ := HA.out j hlt
        subst hab
        have hcw : ∀ c u, [Value.int .i64 k, .int .i64 i, .string ⟨(t : List UInt8).toArray⟩, v][c]? = some u → wr.cell? ⟨b, off + j * 4 + c, none⟩ = some u := by
          intro c u hu
          have h9 := hc c u hu
          have h8 := World.block_lt_of_cell? _ _ h9
          rw [← h9]
          simp only [World.cell?, HBl.out.block b h8]
        have q0 : wr.cell? ⟨b, off + j * 4, none⟩ = some (.int .i64 k) := hcw 0 _ rfl
        have q1 := hcw 1 _ rfl
        have q2 := hcw 2 _ rfl
        have q3 := hcw 3 _ rfl
        have HDo := hid (do_any HBo.out k i t v ks hi (hI.kept HBl.out) (fun hne b hb hx => by
          have h9 := HG.out b hx
          have h8 := ints_old hI hne b hb
          omega))
        have HLn2 : Hid ((actD D k i t ks).S.length = n) := by show _ = _; rw [actD_len]; exact HLn.out
        generalize actD D k i t ks = D2 at *
        obtain ⟨vao, vcap, hv, -⟩ := hI
        subst hv
        generalize ks.length = vl at *
        clear hc hcw hi
        go_wp2_with fail
        refine HDo.out.mono ?_
        rintro e w3 ⟨rfl, h3, k3⟩
        have HB3 := hid h3
        have HBl3 : Hid (Below w.heap.size w w3) := HBl.out.trans (k3.below HG.out HBl.out.size)
        clear h3 k3 HBo HBl HLn HDo
        go_wp2
        go_roundw
        case rel => exact ⟨j + 1, D2, by omega, by omega, by go_num, HB3, HLn2, HBl3⟩
        case measure => simp [intOf]; omega
      · have d3 : decide ((j : Int) < 60) = false := by simp; omega
        go_wp2
        go_ret3
        exact ⟨d, g, r, D, rfl, HBo.out, HLn.out, HBl.out, HG.out⟩
    · have d1 : decide ((j : Int) < (len : Int)) = false := by simpa using hlt
      have d2 : decide (j < len) = false := by simpa using hlt
      go_wp2
      go_ret3
      exact ⟨d, g, r, D, rfl, HBo.out, HLn.out, HBl.out, HG.out⟩
end Go.Proofs.Ytjledbgoknclcaa
