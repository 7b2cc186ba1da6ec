/-
  What comes at any rate; a save on a disk that nobody armed.
-/
import Derived.Test.YtgbpdljnognkdaaKop
namespace Go.Proofs.Ytgbpdljnognkdaa
open Go Go.RowKit
set_option maxRecDepth 100000

theorem slotS_len (D : Dk) (first size n : Nat) (t : List UInt8) : (slotS D first size n t).length = D.S.length := by
  unfold slotS putS fieldS
  rw [List.length_set, List.length_map, putsS_len]
/-- A save on a disk that is up and not armed. -/
theorem save_calm {D : Dk} {first size n : Nat} {t0 t : List UInt8} (h : CInv D first size n t0) (hd : D.down = false) (ha : D.armed = 0) (ht : t.length ≤ 64 * size) (hn : n + 1 ≤ 1099511627776) :
    ∃ D', saveP D first size t = (0, D') ∧ CInv D' first size (n + 1) t ∧ D'.down = false ∧ D'.armed = 0 ∧ D'.S.length = D.S.length := by
  rcases save_cases h hd ht hn with ⟨a, e, e2⟩ | ⟨D', -, -, e, -⟩
  · exact ⟨_, e, h.saved ht hn a false, rfl, e2 ha, by show ((slotS D first size n t).map setS).length = _; rw [List.length_map, slotS_len]⟩
  · exact absurd ha e
theorem save_big {D : Dk} {first size : Nat} {t : List UInt8} (h : 64 * size < t.length) : saveP D first size t = (4, D) := by
  unfold saveP
  rw [if_pos h]
theorem newD_up (n : Nat) : (newD n).down = false ∧ (newD n).armed = 0 ∧ (newD n).S.length = n := by simp [newD]

set_option maxHeartbeats 2000000 in
theorem awake_any (w : World) : Calls Try.prog 12 #[] w fun e w' => e = .returned (.bool true) ∧ Below w.heap.size w w' := by
  have HN := hid (new_ok w 12 (by omega) (by omega))
  have hI := CInv.new 12 0 5 (by omega) (by omega)
  obtain ⟨hu1, hu2, hu3⟩ := newD_up 12
  obtain ⟨D1, s1, i1, d1, a1, l1⟩ := save_calm hI hu1 hu2 (t := [97]) (by simp) (by omega)
  obtain ⟨D2, s2, i2, d2, a2, l2⟩ := save_calm i1 d1 a1 (t := [98]) (by simp) (by omega)
  have HL := hid (i2.load d2)
  have hl2 : D2.S.length = 12 := by omega
  have hl1 : D1.S.length = 12 := by omega
  have HS1 := hid s1
  have HS2 := hid s2
  generalize newD 12 = D0 at *
  clear hI i1 i2 a1 a2 d1 d2 hu2 s1 s2
  go_enter Try.func12, Try.ntmps12
  go_wp2_with fail
  refine HN.out.mono ?_
  rintro e w1 ⟨d, g, rfl, hd1, hb1, hg1, hg2⟩
  have HB1 := hid hb1
  have HO := hid (open_ok hd1 0 5 (by omega) (by omega) (by omega) hu1)
  have HD1 := hid hd1
  have HG : Hid (∀ y ∈ [d, g], w.heap.size ≤ y) := by
    intro y hy
    simp only [List.mem_cons, List.not_mem_nil, or_false] at hy
    rcases hy with rfl | rfl
    · exact hg1
    · exact hg2
  clear hd1 hb1 hg1 hg2 HN
  go_wp2_with fail
  refine HO.out.mono ?_
  rintro e w2 ⟨x, rfl, hc2, hb2, -⟩
  have HB2 : Hid (Below w.heap.size w w2) := HB1.out.trans (hb2.mono HB1.out.size)
  have hd2 := HD1.out.kept (X := []) (Kp.of hb2) (by simp) (by simp)
  have HA := hid (save_any hc2 hd2 (by omega) [97])
  rw [HS1.out] at HA
  have HC2 := hid hc2
  have HD2 := hid hd2
  clear hc2 hb2 hd2 HO HB1 HD1
  go_wp2_with fail
  refine HA.out.mono ?_
  rintro e w3 ⟨rfl, hd3, k3⟩
  have hc3 := HC2.out.next HD2.out k3
  have HB3 : Hid (Below w.heap.size w w3) := HB2.out.trans (k3.below HG.out HB2.out.size)
  have HA2 := hid (save_any hc3 (D := D1) hd3 (by omega) [98])
  rw [HS2.out] at HA2
  have HC3 := hid hc3
  have HD3 := hid hd3
  clear hc3 hd3 k3 HA HC2 HD2 HB2
  go_wp2_with fail
  refine HA2.out.mono ?_
  rintro e w4 ⟨rfl, hd4, k4⟩
  have hc4 := HC3.out.next HD3.out k4
  have HB4 : Hid (Below w.heap.size w w4) := HB3.out.trans (k4.below HG.out HB3.out.size)
  have HLo := hid (load_any hc4 (D := D2) hd4 (by omega))
  rw [HL.out] at HLo
  have HC4 := hid hc4
  clear hc4 hd4 k4 HA2 HC3 HD3 HB3
  go_wp2_with fail
  refine HLo.out.mono ?_
  rintro e w5 ⟨rfl, hb5⟩
  have HB5 : Hid (Below w.heap.size w w5) := HB4.out.trans (hb5.mono HB4.out.size)
  have HRm := hid (room_any (HC4.out.stays hb5))
  clear hb5 HLo HC4 HB4
  go_wp2_with fail
  refine HRm.out.mono ?_
  rintro e W ⟨rfl, hW⟩
  subst W
  go_wp2
  go_ret
  exact ⟨rfl, HB5.out⟩
end Go.Proofs.Ytgbpdljnognkdaa
