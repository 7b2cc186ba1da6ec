/-
  NonceForeign answers true: a cell with other bytes is no allocator's, and numbers end.
-/
import Derived.Test.YtnhnjdldgaaeoaaDoorNaw
import Derived.Test.YtnhnjdldgaaeoaaDoorNrf
namespace Go.Proofs.YtnhnjdldgaaeoaaDoor
open Go Go.RowKit
set_option maxRecDepth 100000

theorem some_first {D : Dk} {first size : Nat} (hd : D.down = false) (ha : D.armed = 0) {n0 : Nat} {t0 : List UInt8} (h : WInv D first size n0 t0) (hn0 : n0 < 1000) (m : Nat) (n : Int) (h1 : 1 ≤ n) (h2 : n ≤ 256) (hr : m + n.toNat ≤ 1099511627761) :
    (someP D first size ⟨m, m⟩ n).1 = 0 := by
  unfold someP
  rw [if_neg (by omega), if_neg (by simp only; omega), if_neg (by simp only; omega)]
  simp only
  have g3 : limN m n.toNat m ≤ m + n.toNat + 15 := by
    unfold limN
    rw [if_neg (by omega)]
    omega
  generalize limN m n.toNat m = L at *
  have hw := numW_len L (by omega)
  have hz := h.sz
  rcases wsave h hd (t := numW L) (by omega) (by omega) with ⟨D2, s1, s2, s3, s4, s5⟩ | ⟨D', s1, s2, s3, s4, s5⟩
  · rw [s1, if_pos rfl]
  · exact absurd ha s3
theorem some_far {D : Dk} {first size : Nat} (m : Nat) (n : Int) (h1 : 1 ≤ n) (h2 : n ≤ 256) (hr : 1099511627761 < m + n.toNat) : someP D first size ⟨m, m⟩ n = (3, D, ⟨m, m⟩) := by
  unfold someP
  rw [if_neg (by omega), if_pos (by simp only; omega)]
theorem some_arg {D : Dk} {first size : Nat} (al : Al) (n : Int) (h : n < 1 ∨ 256 < n) : someP D first size al n = (2, D, al) := by
  unfold someP
  rw [if_pos h]

set_option maxHeartbeats 8000000 in
theorem foreign_walk (w : World) (ht : Lay.Tabs w) (t : List UInt8) (htl : t.length ≤ 9223372036854775807) (n : Int) (hn0 : -9223372036854775808 ≤ n) : Calls Tryd.prog 5 #[.string ⟨t.toArray⟩, .int .i64 n] w fun e w' => e = .returned (.bool true) ∧ Below w.heap.size w w' := by
  have HN := hid (new_ok w 12 (by omega) (by omega))
  have HTb := hid ht
  obtain ⟨hu1, hu2, hu3⟩ := newD_up 12
  have hI := CInv.new 12 0 4 (by omega) (by omega)
  have hts : (⟨t.toArray⟩ : ByteArray).size = t.length := rfl
  clear ht
  by_cases hbig : 256 < t.length
  · have HSb : Hid (saveP (newD 12) 0 4 t = (4, newD 12)) := save_big (by omega)
    have hb2 : decide ((256 : Int) < (t.length : Int)) = true := decide_eq_true (by omega)
    generalize newD 12 = D0 at *
    clear hI
    go_enter Tryd.func5, Tryd.ntmps5
    go_wp2_with fail
    refine HN.out.mono ?_
    rintro e w1 ⟨d, g, rfl, hd1, hb1, hg1, hg2⟩
    have HB1 := hid hb1
    have HO := hid (open_ok hd1 0 4 (by omega) (by omega) (by omega) hu1)
    have HD1 := hid hd1
    have HG : Hid (∀ y ∈ [d, g], w.heap.size ≤ y) := by
      intro y hy
      simp only [List.mem_cons, List.not_mem_nil, or_false] at hy
      rcases hy with rfl | rfl
      · exact hg1
      · exact hg2
    clear hd1 hb1 hg1 hg2 HN
    go_wp2_with fail
    refine HO.out.mono ?_
    rintro e w2 ⟨x, rfl, hc2, hb2, -⟩
    have HB2 : Hid (Below w.heap.size w w2) := HB1.out.trans (hb2.mono HB1.out.size)
    have HC2 := hid hc2
    have HD2 := hid (HD1.out.kept (X := []) (Kp.of hb2) (by simp) (by simp))
    clear hc2 hb2 HO HB1 HD1
    go_wp2_with fail
    refine (nawake_any _ (HTb.out.stays HB2.out)).mono ?_
    rintro e w3 ⟨rfl, hb3⟩
    have HB3 : Hid (Below w.heap.size w w3) := HB2.out.trans (hb3.mono HB2.out.size)
    have HC3 := hid (HC2.out.stays hb3)
    have HD3 := hid (HD2.out.kept (X := []) (Kp.of hb3) (by simp) (by simp))
    have HSv := hid (save_any HC3.out HD3.out (by omega) t)
    rw [HSb.out] at HSv
    clear hb3 HB2 HC2 HD2
    go_wp2_with fail
    refine HSv.out.mono ?_
    rintro e w4 ⟨rfl, hd4, k4⟩
    have HB4 : Hid (Below w.heap.size w w4) := HB3.out.trans (k4.below HG.out HB3.out.size)
    have HC4 := hid (HC3.out.next HD3.out k4)
    have HD4 := hid hd4
    clear hd4 k4 HSv HB3 HC3 HD3
    go_wp2_with fail
    refine (nawake_any _ (HTb.out.stays HB4.out)).mono ?_
    rintro e w5 ⟨rfl, hb5⟩
    have HB5 : Hid (Below w.heap.size w w5) := HB4.out.trans (hb5.mono HB4.out.size)
    clear hb5
    go_wp2
    go_ret
    exact ⟨rfl, HB5.out⟩
  · obtain ⟨D1, s1, ci, up, calm, ln⟩ := save_calm hI hu1 hu2 (t := t) (by omega) (by omega)
    have HSb : Hid (saveP (newD 12) 0 4 t = (0, D1)) := s1
    have HLo : Hid (loadP D1 0 4 = (t, 1, 0)) := by
      have h9 := ci.load up
      show _ = _
      rw [h9]
      rfl
    have HW1 := hid ci.weak
    have hl1 : D1.S.length = 12 := ln.trans hu3
    have HRd := hid (fun W => refRead_any ⟨t.toArray⟩ (by unfold maxLen; omega) W t rfl)
    have hK : keptE (t, 1, 0) = if (readNum t).1 = 0 ∧ (readNum t).2.2 = t.length ∧ 0 ≤ (readNum t).2.1 ∧ (readNum t).2.1 ≤ 1099511627776 then 0 else 6 := by
      unfold keptE
      rw [if_neg (by simp), if_neg (by simp)]
    have hV : keptN (t, 1, 0) = (readNum t).2.1.toNat := by
      unfold keptN
      rw [if_neg (by simp)]
    have HKE := hid hK
    have HKN := hid hV
    generalize newD 12 = D0 at *
    clear hI s1 ci hK hV ln
    unfold Lay.numTo at HRd
    generalize readNum t = R at *
    obtain ⟨re, rn, rl⟩ := R
    simp only at HRd HKE HKN
    by_cases c1 : re = 0
    · subst c1
      simp only [if_true, Nat.zero_add] at HRd
      by_cases c2 : rl = t.length
      · have b2 : ((rl : Int) == (t.length : Int)) = true := by simp [c2]
        by_cases c3 : rn < 0
        · have b3 : decide (0 ≤ rn) = false := decide_eq_false (by omega)
          rw [if_neg (by omega)] at HKE
          clear c2
          go_enter Tryd.func5, Tryd.ntmps5
          go_wp2_with fail
          refine HN.out.mono ?_
          rintro e w1 ⟨d, g, rfl, hd1, hb1, hg1, hg2⟩
          have HB1 := hid hb1
          have HO := hid (open_ok hd1 0 4 (by omega) (by omega) (by omega) hu1)
          have HD1 := hid hd1
          have HG : Hid (∀ y ∈ [d, g], w.heap.size ≤ y) := by
            intro y hy
            simp only [List.mem_cons, List.not_mem_nil, or_false] at hy
            rcases hy with rfl | rfl
            · exact hg1
            · exact hg2
          clear hd1 hb1 hg1 hg2 HN
          go_wp2_with fail
          refine HO.out.mono ?_
          rintro e w2 ⟨x, rfl, hc2, hb2, -⟩
          have HB2 : Hid (Below w.heap.size w w2) := HB1.out.trans (hb2.mono HB1.out.size)
          have HC2 := hid hc2
          have HD2 := hid (HD1.out.kept (X := []) (Kp.of hb2) (by simp) (by simp))
          clear hc2 hb2 HO HB1 HD1
          go_wp2_with fail
          refine (nawake_any _ (HTb.out.stays HB2.out)).mono ?_
          rintro e w3 ⟨rfl, hb3⟩
          have HB3 : Hid (Below w.heap.size w w3) := HB2.out.trans (hb3.mono HB2.out.size)
          have HC3 := hid (HC2.out.stays hb3)
          have HD3 := hid (HD2.out.kept (X := []) (Kp.of hb3) (by simp) (by simp))
          have HSv := hid (save_any HC3.out HD3.out (by omega) t)
          rw [HSb.out] at HSv
          clear hb3 HB2 HC2 HD2
          go_wp2_with fail
          refine HSv.out.mono ?_
          rintro e w4 ⟨rfl, hd4, k4⟩
          have HB4 : Hid (Below w.heap.size w w4) := HB3.out.trans (k4.below HG.out HB3.out.size)
          have HC4 := hid (HC3.out.next HD3.out k4)
          have HD4 := hid hd4
          clear hd4 k4 HSv HB3 HC3 HD3
          have HOp := hid (nopen_bad HC4.out HD4.out (by omega) (HTb.out.stays HB4.out) (by rw [HLo.out, HKE.out]; decide))
          rw [HLo.out, HKE.out] at HOp
          go_wp2_with fail
          refine HOp.out.mono ?_
          rintro e w5 ⟨rfl, hb5⟩
          have HB5 : Hid (Below w.heap.size w w5) := HB4.out.trans (hb5.mono HB4.out.size)
          clear hb5 HOp HB4 HC4 HD4
          go_wp2_with fail
          refine (HRd.out _).mono ?_
          rintro e W ⟨rfl, hW⟩
          subst W
          go_wp2
          go_ret
          exact ⟨rfl, HB5.out⟩
        · have b3 : decide (0 ≤ rn) = true := decide_eq_true (by omega)
          by_cases c4 : 1099511627776 < rn
          · have b4 : decide (rn ≤ 1099511627776) = false := decide_eq_false (by omega)
            rw [if_neg (by omega)] at HKE
            clear c2
            go_enter Tryd.func5, Tryd.ntmps5
            go_wp2_with fail
            refine HN.out.mono ?_
            rintro e w1 ⟨d, g, rfl, hd1, hb1, hg1, hg2⟩
            have HB1 := hid hb1
            have HO := hid (open_ok hd1 0 4 (by omega) (by omega) (by omega) hu1)
            have HD1 := hid hd1
            have HG : Hid (∀ y ∈ [d, g], w.heap.size ≤ y) := by
              intro y hy
              simp only [List.mem_cons, List.not_mem_nil, or_false] at hy
              rcases hy with rfl | rfl
              · exact hg1
              · exact hg2
            clear hd1 hb1 hg1 hg2 HN
            go_wp2_with fail
            refine HO.out.mono ?_
            rintro e w2 ⟨x, rfl, hc2, hb2, -⟩
            have HB2 : Hid (Below w.heap.size w w2) := HB1.out.trans (hb2.mono HB1.out.size)
            have HC2 := hid hc2
            have HD2 := hid (HD1.out.kept (X := []) (Kp.of hb2) (by simp) (by simp))
            clear hc2 hb2 HO HB1 HD1
            go_wp2_with fail
            refine (nawake_any _ (HTb.out.stays HB2.out)).mono ?_
            rintro e w3 ⟨rfl, hb3⟩
            have HB3 : Hid (Below w.heap.size w w3) := HB2.out.trans (hb3.mono HB2.out.size)
            have HC3 := hid (HC2.out.stays hb3)
            have HD3 := hid (HD2.out.kept (X := []) (Kp.of hb3) (by simp) (by simp))
            have HSv := hid (save_any HC3.out HD3.out (by omega) t)
            rw [HSb.out] at HSv
            clear hb3 HB2 HC2 HD2
            go_wp2_with fail
            refine HSv.out.mono ?_
            rintro e w4 ⟨rfl, hd4, k4⟩
            have HB4 : Hid (Below w.heap.size w w4) := HB3.out.trans (k4.below HG.out HB3.out.size)
            have HC4 := hid (HC3.out.next HD3.out k4)
            have HD4 := hid hd4
            clear hd4 k4 HSv HB3 HC3 HD3
            have HOp := hid (nopen_bad HC4.out HD4.out (by omega) (HTb.out.stays HB4.out) (by rw [HLo.out, HKE.out]; decide))
            rw [HLo.out, HKE.out] at HOp
            go_wp2_with fail
            refine HOp.out.mono ?_
            rintro e w5 ⟨rfl, hb5⟩
            have HB5 : Hid (Below w.heap.size w w5) := HB4.out.trans (hb5.mono HB4.out.size)
            clear hb5 HOp HB4 HC4 HD4
            go_wp2_with fail
            refine (HRd.out _).mono ?_
            rintro e W ⟨rfl, hW⟩
            subst W
            go_wp2
            go_ret
            exact ⟨rfl, HB5.out⟩
          · have b4 : decide (rn ≤ 1099511627776) = true := decide_eq_true (by omega)
            rw [if_pos ⟨rfl, c2, by omega, by omega⟩] at HKE
            clear c2
            obtain ⟨m, rfl⟩ : ∃ m : Nat, rn = m := ⟨rn.toNat, by omega⟩
            rw [Int.toNat_natCast] at HKN
            by_cases g1 : n < 1
            · skip
              have a1 : decide (n < 1) = true := decide_eq_true g1
              go_enter Tryd.func5, Tryd.ntmps5
              go_wp2_with fail
              refine HN.out.mono ?_
              rintro e w1 ⟨d, g, rfl, hd1, hb1, hg1, hg2⟩
              have HB1 := hid hb1
              have HO := hid (open_ok hd1 0 4 (by omega) (by omega) (by omega) hu1)
              have HD1 := hid hd1
              have HG : Hid (∀ y ∈ [d, g], w.heap.size ≤ y) := by
                intro y hy
                simp only [List.mem_cons, List.not_mem_nil, or_false] at hy
                rcases hy with rfl | rfl
                · exact hg1
                · exact hg2
              clear hd1 hb1 hg1 hg2 HN
              go_wp2_with fail
              refine HO.out.mono ?_
              rintro e w2 ⟨x, rfl, hc2, hb2, -⟩
              have HB2 : Hid (Below w.heap.size w w2) := HB1.out.trans (hb2.mono HB1.out.size)
              have HC2 := hid hc2
              have HD2 := hid (HD1.out.kept (X := []) (Kp.of hb2) (by simp) (by simp))
              clear hc2 hb2 HO HB1 HD1
              go_wp2_with fail
              refine (nawake_any _ (HTb.out.stays HB2.out)).mono ?_
              rintro e w3 ⟨rfl, hb3⟩
              have HB3 : Hid (Below w.heap.size w w3) := HB2.out.trans (hb3.mono HB2.out.size)
              have HC3 := hid (HC2.out.stays hb3)
              have HD3 := hid (HD2.out.kept (X := []) (Kp.of hb3) (by simp) (by simp))
              have HSv := hid (save_any HC3.out HD3.out (by omega) t)
              rw [HSb.out] at HSv
              clear hb3 HB2 HC2 HD2
              go_wp2_with fail
              refine HSv.out.mono ?_
              rintro e w4 ⟨rfl, hd4, k4⟩
              have HB4 : Hid (Below w.heap.size w w4) := HB3.out.trans (k4.below HG.out HB3.out.size)
              have HC4 := hid (HC3.out.next HD3.out k4)
              have HD4 := hid hd4
              clear hd4 k4 HSv HB3 HC3 HD3
              have HOp := hid (nopen_ok HC4.out HD4.out (by omega) (HTb.out.stays HB4.out) (by rw [HLo.out]; exact HKE.out))
              rw [HLo.out, HKN.out] at HOp
              go_wp2_with fail
              refine HOp.out.mono ?_
              rintro e w5 ⟨a, rfl, ha5, hb5, hag⟩
              have HB5 : Hid (Below w.heap.size w w5) := HB4.out.trans (hb5.mono HB4.out.size)
              have HC5 := hid (HC4.out.stays hb5)
              have HD5 := hid (HD4.out.kept (X := []) (Kp.of hb5) (by simp) (by simp))
              have HA5 := hid ha5
              have HGa : Hid (∀ y ∈ [d, g, a], w.heap.size ≤ y) := by
                intro y hy
                simp only [List.mem_cons, List.not_mem_nil, or_false] at hy
                rcases hy with rfl | rfl | rfl
                · exact HG.out _ (by simp)
                · exact HG.out _ (by simp)
                · exact Nat.le_trans HB4.out.size hag
              clear ha5 hb5 hag HOp HB4 HC4 HD4
              go_wp2_with fail
              refine (HRd.out _).mono ?_
              rintro e W ⟨rfl, hW⟩
              subst W
              have HSm := hid (some_bad HA5.out HC5.out HD5.out (by omega) (HTb.out.stays HB5.out) n (by rw [some_arg _ _ (.inl g1)]; simp))
              rw [some_arg _ _ (.inl g1)] at HSm
              simp only at HSm
              go_wp2_with fail
              refine HSm.out.mono ?_
              rintro e w6 ⟨rfl, hd6, ha6, k6⟩
              have HB6 : Hid (Below w.heap.size w w6) := HB5.out.trans (k6.below HGa.out HB5.out.size)
              have HNx := hid (anext_any ha6)
              clear hd6 ha6 k6 HSm
              go_wp2_with fail
              refine HNx.out.mono ?_
              rintro e W ⟨rfl, hW⟩
              subst W
              go_wp2
              go_ret
              exact ⟨rfl, HB6.out⟩
            · by_cases g2 : 256 < n
              · skip
                have a1 : decide (n < 1) = false := decide_eq_false g1
                have a2 : decide (256 < n) = true := decide_eq_true g2
                go_enter Tryd.func5, Tryd.ntmps5
                go_wp2_with fail
                refine HN.out.mono ?_
                rintro e w1 ⟨d, g, rfl, hd1, hb1, hg1, hg2⟩
                have HB1 := hid hb1
                have HO := hid (open_ok hd1 0 4 (by omega) (by omega) (by omega) hu1)
                have HD1 := hid hd1
                have HG : Hid (∀ y ∈ [d, g], w.heap.size ≤ y) := by
                  intro y hy
                  simp only [List.mem_cons, List.not_mem_nil, or_false] at hy
                  rcases hy with rfl | rfl
                  · exact hg1
                  · exact hg2
                clear hd1 hb1 hg1 hg2 HN
                go_wp2_with fail
                refine HO.out.mono ?_
                rintro e w2 ⟨x, rfl, hc2, hb2, -⟩
                have HB2 : Hid (Below w.heap.size w w2) := HB1.out.trans (hb2.mono HB1.out.size)
                have HC2 := hid hc2
                have HD2 := hid (HD1.out.kept (X := []) (Kp.of hb2) (by simp) (by simp))
                clear hc2 hb2 HO HB1 HD1
                go_wp2_with fail
                refine (nawake_any _ (HTb.out.stays HB2.out)).mono ?_
                rintro e w3 ⟨rfl, hb3⟩
                have HB3 : Hid (Below w.heap.size w w3) := HB2.out.trans (hb3.mono HB2.out.size)
                have HC3 := hid (HC2.out.stays hb3)
                have HD3 := hid (HD2.out.kept (X := []) (Kp.of hb3) (by simp) (by simp))
                have HSv := hid (save_any HC3.out HD3.out (by omega) t)
                rw [HSb.out] at HSv
                clear hb3 HB2 HC2 HD2
                go_wp2_with fail
                refine HSv.out.mono ?_
                rintro e w4 ⟨rfl, hd4, k4⟩
                have HB4 : Hid (Below w.heap.size w w4) := HB3.out.trans (k4.below HG.out HB3.out.size)
                have HC4 := hid (HC3.out.next HD3.out k4)
                have HD4 := hid hd4
                clear hd4 k4 HSv HB3 HC3 HD3
                have HOp := hid (nopen_ok HC4.out HD4.out (by omega) (HTb.out.stays HB4.out) (by rw [HLo.out]; exact HKE.out))
                rw [HLo.out, HKN.out] at HOp
                go_wp2_with fail
                refine HOp.out.mono ?_
                rintro e w5 ⟨a, rfl, ha5, hb5, hag⟩
                have HB5 : Hid (Below w.heap.size w w5) := HB4.out.trans (hb5.mono HB4.out.size)
                have HC5 := hid (HC4.out.stays hb5)
                have HD5 := hid (HD4.out.kept (X := []) (Kp.of hb5) (by simp) (by simp))
                have HA5 := hid ha5
                have HGa : Hid (∀ y ∈ [d, g, a], w.heap.size ≤ y) := by
                  intro y hy
                  simp only [List.mem_cons, List.not_mem_nil, or_false] at hy
                  rcases hy with rfl | rfl | rfl
                  · exact HG.out _ (by simp)
                  · exact HG.out _ (by simp)
                  · exact Nat.le_trans HB4.out.size hag
                clear ha5 hb5 hag HOp HB4 HC4 HD4
                go_wp2_with fail
                refine (HRd.out _).mono ?_
                rintro e W ⟨rfl, hW⟩
                subst W
                have HSm := hid (some_bad HA5.out HC5.out HD5.out (by omega) (HTb.out.stays HB5.out) n (by rw [some_arg _ _ (.inr g2)]; simp))
                rw [some_arg _ _ (.inr g2)] at HSm
                simp only at HSm
                go_wp2_with fail
                refine HSm.out.mono ?_
                rintro e w6 ⟨rfl, hd6, ha6, k6⟩
                have HB6 : Hid (Below w.heap.size w w6) := HB5.out.trans (k6.below HGa.out HB5.out.size)
                have HNx := hid (anext_any ha6)
                clear hd6 ha6 k6 HSm
                go_wp2_with fail
                refine HNx.out.mono ?_
                rintro e W ⟨rfl, hW⟩
                subst W
                go_wp2
                go_ret
                exact ⟨rfl, HB6.out⟩
              · have a1 : decide (n < 1) = false := decide_eq_false g1
                have a2 : decide (256 < n) = false := decide_eq_false g2
                by_cases g3 : 1099511627761 - n < (m : Int)
                · have a3 : decide (1099511627761 - n < (m : Int)) = true := decide_eq_true g3
                  go_enter Tryd.func5, Tryd.ntmps5
                  go_wp2_with fail
                  refine HN.out.mono ?_
                  rintro e w1 ⟨d, g, rfl, hd1, hb1, hg1, hg2⟩
                  have HB1 := hid hb1
                  have HO := hid (open_ok hd1 0 4 (by omega) (by omega) (by omega) hu1)
                  have HD1 := hid hd1
                  have HG : Hid (∀ y ∈ [d, g], w.heap.size ≤ y) := by
                    intro y hy
                    simp only [List.mem_cons, List.not_mem_nil, or_false] at hy
                    rcases hy with rfl | rfl
                    · exact hg1
                    · exact hg2
                  clear hd1 hb1 hg1 hg2 HN
                  go_wp2_with fail
                  refine HO.out.mono ?_
                  rintro e w2 ⟨x, rfl, hc2, hb2, -⟩
                  have HB2 : Hid (Below w.heap.size w w2) := HB1.out.trans (hb2.mono HB1.out.size)
                  have HC2 := hid hc2
                  have HD2 := hid (HD1.out.kept (X := []) (Kp.of hb2) (by simp) (by simp))
                  clear hc2 hb2 HO HB1 HD1
                  go_wp2_with fail
                  refine (nawake_any _ (HTb.out.stays HB2.out)).mono ?_
                  rintro e w3 ⟨rfl, hb3⟩
                  have HB3 : Hid (Below w.heap.size w w3) := HB2.out.trans (hb3.mono HB2.out.size)
                  have HC3 := hid (HC2.out.stays hb3)
                  have HD3 := hid (HD2.out.kept (X := []) (Kp.of hb3) (by simp) (by simp))
                  have HSv := hid (save_any HC3.out HD3.out (by omega) t)
                  rw [HSb.out] at HSv
                  clear hb3 HB2 HC2 HD2
                  go_wp2_with fail
                  refine HSv.out.mono ?_
                  rintro e w4 ⟨rfl, hd4, k4⟩
                  have HB4 : Hid (Below w.heap.size w w4) := HB3.out.trans (k4.below HG.out HB3.out.size)
                  have HC4 := hid (HC3.out.next HD3.out k4)
                  have HD4 := hid hd4
                  clear hd4 k4 HSv HB3 HC3 HD3
                  have HOp := hid (nopen_ok HC4.out HD4.out (by omega) (HTb.out.stays HB4.out) (by rw [HLo.out]; exact HKE.out))
                  rw [HLo.out, HKN.out] at HOp
                  go_wp2_with fail
                  refine HOp.out.mono ?_
                  rintro e w5 ⟨a, rfl, ha5, hb5, hag⟩
                  have HB5 : Hid (Below w.heap.size w w5) := HB4.out.trans (hb5.mono HB4.out.size)
                  have HC5 := hid (HC4.out.stays hb5)
                  have HD5 := hid (HD4.out.kept (X := []) (Kp.of hb5) (by simp) (by simp))
                  have HA5 := hid ha5
                  have HGa : Hid (∀ y ∈ [d, g, a], w.heap.size ≤ y) := by
                    intro y hy
                    simp only [List.mem_cons, List.not_mem_nil, or_false] at hy
                    rcases hy with rfl | rfl | rfl
                    · exact HG.out _ (by simp)
                    · exact HG.out _ (by simp)
                    · exact Nat.le_trans HB4.out.size hag
                  clear ha5 hb5 hag HOp HB4 HC4 HD4
                  go_wp2_with fail
                  refine (HRd.out _).mono ?_
                  rintro e W ⟨rfl, hW⟩
                  subst W
                  have HSm := hid (some_bad HA5.out HC5.out HD5.out (by omega) (HTb.out.stays HB5.out) n (by rw [some_far m n (by omega) (by omega) (by omega)]; simp))
                  rw [some_far m n (by omega) (by omega) (by omega)] at HSm
                  simp only at HSm
                  go_wp2_with fail
                  refine HSm.out.mono ?_
                  rintro e w6 ⟨rfl, hd6, ha6, k6⟩
                  have HB6 : Hid (Below w.heap.size w w6) := HB5.out.trans (k6.below HGa.out HB5.out.size)
                  clear hd6 ha6 k6 HSm
                  go_wp2
                  go_ret
                  exact ⟨rfl, HB6.out⟩
                · have a3 : decide (1099511627761 - n < (m : Int)) = false := decide_eq_false g3
                  go_enter Tryd.func5, Tryd.ntmps5
                  go_wp2_with fail
                  refine HN.out.mono ?_
                  rintro e w1 ⟨d, g, rfl, hd1, hb1, hg1, hg2⟩
                  have HB1 := hid hb1
                  have HO := hid (open_ok hd1 0 4 (by omega) (by omega) (by omega) hu1)
                  have HD1 := hid hd1
                  have HG : Hid (∀ y ∈ [d, g], w.heap.size ≤ y) := by
                    intro y hy
                    simp only [List.mem_cons, List.not_mem_nil, or_false] at hy
                    rcases hy with rfl | rfl
                    · exact hg1
                    · exact hg2
                  clear hd1 hb1 hg1 hg2 HN
                  go_wp2_with fail
                  refine HO.out.mono ?_
                  rintro e w2 ⟨x, rfl, hc2, hb2, -⟩
                  have HB2 : Hid (Below w.heap.size w w2) := HB1.out.trans (hb2.mono HB1.out.size)
                  have HC2 := hid hc2
                  have HD2 := hid (HD1.out.kept (X := []) (Kp.of hb2) (by simp) (by simp))
                  clear hc2 hb2 HO HB1 HD1
                  go_wp2_with fail
                  refine (nawake_any _ (HTb.out.stays HB2.out)).mono ?_
                  rintro e w3 ⟨rfl, hb3⟩
                  have HB3 : Hid (Below w.heap.size w w3) := HB2.out.trans (hb3.mono HB2.out.size)
                  have HC3 := hid (HC2.out.stays hb3)
                  have HD3 := hid (HD2.out.kept (X := []) (Kp.of hb3) (by simp) (by simp))
                  have HSv := hid (save_any HC3.out HD3.out (by omega) t)
                  rw [HSb.out] at HSv
                  clear hb3 HB2 HC2 HD2
                  go_wp2_with fail
                  refine HSv.out.mono ?_
                  rintro e w4 ⟨rfl, hd4, k4⟩
                  have HB4 : Hid (Below w.heap.size w w4) := HB3.out.trans (k4.below HG.out HB3.out.size)
                  have HC4 := hid (HC3.out.next HD3.out k4)
                  have HD4 := hid hd4
                  clear hd4 k4 HSv HB3 HC3 HD3
                  have HOp := hid (nopen_ok HC4.out HD4.out (by omega) (HTb.out.stays HB4.out) (by rw [HLo.out]; exact HKE.out))
                  rw [HLo.out, HKN.out] at HOp
                  go_wp2_with fail
                  refine HOp.out.mono ?_
                  rintro e w5 ⟨a, rfl, ha5, hb5, hag⟩
                  have HB5 : Hid (Below w.heap.size w w5) := HB4.out.trans (hb5.mono HB4.out.size)
                  have HC5 := hid (HC4.out.stays hb5)
                  have HD5 := hid (HD4.out.kept (X := []) (Kp.of hb5) (by simp) (by simp))
                  have HA5 := hid ha5
                  have HGa : Hid (∀ y ∈ [d, g, a], w.heap.size ≤ y) := by
                    intro y hy
                    simp only [List.mem_cons, List.not_mem_nil, or_false] at hy
                    rcases hy with rfl | rfl | rfl
                    · exact HG.out _ (by simp)
                    · exact HG.out _ (by simp)
                    · exact Nat.le_trans HB4.out.size hag
                  clear ha5 hb5 hag HOp HB4 HC4 HD4
                  go_wp2_with fail
                  refine (HRd.out _).mono ?_
                  rintro e W ⟨rfl, hW⟩
                  subst W
                  have HSm := hid (some_ok HA5.out HC5.out HD5.out (by omega) (HTb.out.stays HB5.out) n (some_first up calm HW1.out (by omega) m n (by omega) (by omega) (by omega)))
                  generalize someP D1 0 4 ⟨m, m⟩ n = SS at *
                  go_wp2_with fail
                  refine HSm.out.mono ?_
                  rintro e w6 ⟨b, k, hk, hk1, hk2, rfl, hnm, hbg, hd6, ha6, k6, -, -⟩
                  have HB6 : Hid (Below w.heap.size w w6) := HB5.out.trans (k6.below HGa.out HB5.out.size)
                  have q1 : w6.cell? ⟨b, 0, none⟩ = some (.int .i64 (m : Int)) := by have := hnm.cell 0 (by omega); simpa using this
                  clear hd6 ha6 k6 HSm hnm hbg
                  subst hk
                  go_wp2
                  go_ret
                  exact ⟨rfl, HB6.out⟩
      · have b2 : ((rl : Int) == (t.length : Int)) = false := by rw [beq_eq_false_iff_ne]; omega
        rw [if_neg (fun h => c2 h.2.1)] at HKE
        go_enter Tryd.func5, Tryd.ntmps5
        go_wp2_with fail
        refine HN.out.mono ?_
        rintro e w1 ⟨d, g, rfl, hd1, hb1, hg1, hg2⟩
        have HB1 := hid hb1
        have HO := hid (open_ok hd1 0 4 (by omega) (by omega) (by omega) hu1)
        have HD1 := hid hd1
        have HG : Hid (∀ y ∈ [d, g], w.heap.size ≤ y) := by
          intro y hy
          simp only [List.mem_cons, List.not_mem_nil, or_false] at hy
          rcases hy with rfl | rfl
          · exact hg1
          · exact hg2
        clear hd1 hb1 hg1 hg2 HN
        go_wp2_with fail
        refine HO.out.mono ?_
        rintro e w2 ⟨x, rfl, hc2, hb2, -⟩
        have HB2 : Hid (Below w.heap.size w w2) := HB1.out.trans (hb2.mono HB1.out.size)
        have HC2 := hid hc2
        have HD2 := hid (HD1.out.kept (X := []) (Kp.of hb2) (by simp) (by simp))
        clear hc2 hb2 HO HB1 HD1
        go_wp2_with fail
        refine (nawake_any _ (HTb.out.stays HB2.out)).mono ?_
        rintro e w3 ⟨rfl, hb3⟩
        have HB3 : Hid (Below w.heap.size w w3) := HB2.out.trans (hb3.mono HB2.out.size)
        have HC3 := hid (HC2.out.stays hb3)
        have HD3 := hid (HD2.out.kept (X := []) (Kp.of hb3) (by simp) (by simp))
        have HSv := hid (save_any HC3.out HD3.out (by omega) t)
        rw [HSb.out] at HSv
        clear hb3 HB2 HC2 HD2
        go_wp2_with fail
        refine HSv.out.mono ?_
        rintro e w4 ⟨rfl, hd4, k4⟩
        have HB4 : Hid (Below w.heap.size w w4) := HB3.out.trans (k4.below HG.out HB3.out.size)
        have HC4 := hid (HC3.out.next HD3.out k4)
        have HD4 := hid hd4
        clear hd4 k4 HSv HB3 HC3 HD3
        have HOp := hid (nopen_bad HC4.out HD4.out (by omega) (HTb.out.stays HB4.out) (by rw [HLo.out, HKE.out]; decide))
        rw [HLo.out, HKE.out] at HOp
        go_wp2_with fail
        refine HOp.out.mono ?_
        rintro e w5 ⟨rfl, hb5⟩
        have HB5 : Hid (Below w.heap.size w w5) := HB4.out.trans (hb5.mono HB4.out.size)
        clear hb5 HOp HB4 HC4 HD4
        go_wp2_with fail
        refine (HRd.out _).mono ?_
        rintro e W ⟨rfl, hW⟩
        subst W
        go_wp2
        go_ret
        exact ⟨rfl, HB5.out⟩
    · have b1 : ((re : Int) == 0) = false := by rw [beq_eq_false_iff_ne]; omega
      rw [if_neg (fun h => c1 h.1)] at HKE
      rw [if_neg c1] at HRd
      go_enter Tryd.func5, Tryd.ntmps5
      go_wp2_with fail
      refine HN.out.mono ?_
      rintro e w1 ⟨d, g, rfl, hd1, hb1, hg1, hg2⟩
      have HB1 := hid hb1
      have HO := hid (open_ok hd1 0 4 (by omega) (by omega) (by omega) hu1)
      have HD1 := hid hd1
      have HG : Hid (∀ y ∈ [d, g], w.heap.size ≤ y) := by
        intro y hy
        simp only [List.mem_cons, List.not_mem_nil, or_false] at hy
        rcases hy with rfl | rfl
        · exact hg1
        · exact hg2
      clear hd1 hb1 hg1 hg2 HN
      go_wp2_with fail
      refine HO.out.mono ?_
      rintro e w2 ⟨x, rfl, hc2, hb2, -⟩
      have HB2 : Hid (Below w.heap.size w w2) := HB1.out.trans (hb2.mono HB1.out.size)
      have HC2 := hid hc2
      have HD2 := hid (HD1.out.kept (X := []) (Kp.of hb2) (by simp) (by simp))
      clear hc2 hb2 HO HB1 HD1
      go_wp2_with fail
      refine (nawake_any _ (HTb.out.stays HB2.out)).mono ?_
      rintro e w3 ⟨rfl, hb3⟩
      have HB3 : Hid (Below w.heap.size w w3) := HB2.out.trans (hb3.mono HB2.out.size)
      have HC3 := hid (HC2.out.stays hb3)
      have HD3 := hid (HD2.out.kept (X := []) (Kp.of hb3) (by simp) (by simp))
      have HSv := hid (save_any HC3.out HD3.out (by omega) t)
      rw [HSb.out] at HSv
      clear hb3 HB2 HC2 HD2
      go_wp2_with fail
      refine HSv.out.mono ?_
      rintro e w4 ⟨rfl, hd4, k4⟩
      have HB4 : Hid (Below w.heap.size w w4) := HB3.out.trans (k4.below HG.out HB3.out.size)
      have HC4 := hid (HC3.out.next HD3.out k4)
      have HD4 := hid hd4
      clear hd4 k4 HSv HB3 HC3 HD3
      have HOp := hid (nopen_bad HC4.out HD4.out (by omega) (HTb.out.stays HB4.out) (by rw [HLo.out, HKE.out]; decide))
      rw [HLo.out, HKE.out] at HOp
      go_wp2_with fail
      refine HOp.out.mono ?_
      rintro e w5 ⟨rfl, hb5⟩
      have HB5 : Hid (Below w.heap.size w w5) := HB4.out.trans (hb5.mono HB4.out.size)
      clear hb5 HOp HB4 HC4 HD4
      go_wp2_with fail
      refine (HRd.out _).mono ?_
      rintro e W ⟨rfl, hW⟩
      subst W
      go_wp2
      go_ret
      exact ⟨rfl, HB5.out⟩
end Go.Proofs.YtnhnjdldgaaeoaaDoor
