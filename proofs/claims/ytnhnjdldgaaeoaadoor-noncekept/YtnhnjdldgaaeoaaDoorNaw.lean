/-
  A disk that nobody armed: what Some does there. What comes at any rate.
-/
import Derived.Test.YtnhnjdldgaaeoaaDoorNso
namespace Go.Proofs.YtnhnjdldgaaeoaaDoor
open Go Go.RowKit
set_option maxRecDepth 100000

theorem some_calm {D : Dk} {al : Al} {j : Nat} (hg : Good D al.lim j) (hd : D.down = false) (ha : D.armed = 0) (hj : j < 1000) (n : Int) (h1 : 1 ≤ n) (h2 : n ≤ 256) (hr : al.next + n.toNat ≤ 1099511627761) :
    ∃ D2, someP D 0 1 al n = (0, D2, ⟨al.next + n.toNat, limN al.next n.toNat al.lim⟩) ∧ D2.down = false ∧ D2.armed = 0 ∧ Good D2 (limN al.next n.toNat al.lim) (j + 1) ∧ D2.S.length = D.S.length := by
  unfold someP
  rw [if_neg (by omega), if_neg (by omega)]
  by_cases hl : al.next + n.toNat ≤ al.lim
  · have e : limN al.next n.toNat al.lim = al.lim := by unfold limN; rw [if_pos hl]
    rw [if_pos hl, e]
    exact ⟨D, rfl, hd, ha, hg.more, rfl⟩
  · rw [if_neg hl]
    have g3 : limN al.next n.toNat al.lim ≤ al.next + n.toNat + 15 := by
      unfold limN
      rw [if_neg hl]
      omega
    generalize limN al.next n.toNat al.lim = L at *
    have hw := numW_len L (by omega)
    obtain ⟨m, t, k1, k2, k3⟩ := hg
    rcases wsave k2 hd (t := numW L) (by omega) (by omega) with ⟨D2, s1, s2, s3, s4, s5⟩ | ⟨D', s1, s2, s3, s4, s5⟩
    · rw [s1, if_pos rfl]
      exact ⟨D2, rfl, s3, s4 ha, ⟨m + 1, numW L, by omega, s2, .inr ⟨by omega, rfl⟩⟩, s5⟩
    · exact absurd ha s3

set_option maxHeartbeats 4000000 in
theorem nawake_any (w : World) (ht : Lay.Tabs w) : Calls Tryd.prog 10 #[] w fun e w' => e = .returned (.bool true) ∧ Below w.heap.size w w' := by
  have HN := hid (new_ok w 6 (by omega) (by omega))
  have HTb := hid ht
  obtain ⟨hu1, hu2, hu3⟩ := newD_up 6
  have hg0 := Good.new
  obtain ⟨k1, k2⟩ := hg0.kept hu1 (by omega)
  obtain ⟨D1, s1, d1, a1, g1, l1⟩ := some_calm (al := ⟨0, 0⟩) hg0 hu1 hu2 (by omega) 1 (by omega) (by omega) (by decide)
  have e16 : limN 0 (1 : Int).toNat 0 = 16 := rfl
  simp only [e16] at s1 g1
  obtain ⟨k3, k4⟩ := g1.kept d1 (by omega)
  obtain ⟨D2, s2, d2, a2, g2, l2⟩ := some_calm (al := ⟨16, 16⟩) g1 d1 a1 (by omega) 1 (by omega) (by omega) (by decide)
  have HS1 := hid s1
  have HS2 := hid s2
  have HK1 := hid k1
  have HK2 := hid k2
  have HK3 := hid k3
  have HK4 := hid k4
  have hl1 : D1.S.length = 6 := l1.trans hu3
  generalize newD 6 = D0 at *
  clear hg0 g1 g2 a1 a2 d1 d2 hu2 s1 s2 k1 k2 k3 k4 ht l1 l2 e16
  go_enter Tryd.func10, Tryd.ntmps10
  go_wp2_with fail
  refine HN.out.mono ?_
  rintro e w1 ⟨d, g, rfl, hd1, hb1, hg1, hg2⟩
  have HB1 := hid hb1
  have HO := hid (open_ok hd1 0 1 (by omega) (by omega) (by omega) hu1)
  have HD1 := hid hd1
  have HG : Hid (w.heap.size ≤ d ∧ w.heap.size ≤ g) := ⟨hg1, hg2⟩
  clear hd1 hb1 hg1 hg2 HN
  go_wp2_with fail
  refine HO.out.mono ?_
  rintro e w2 ⟨x, rfl, hc2, hb2, -⟩
  have HB2 : Hid (Below w.heap.size w w2) := HB1.out.trans (hb2.mono HB1.out.size)
  have hd2 := HD1.out.kept (X := []) (Kp.of hb2) (by simp) (by simp)
  have HO2 := hid (nopen_ok hc2 hd2 (by omega) (HTb.out.stays HB2.out) HK1.out)
  rw [HK2.out] at HO2
  have HC2 := hid hc2
  have HD2 := hid hd2
  clear hc2 hb2 hd2 HO HB1 HD1
  go_wp2_with fail
  refine HO2.out.mono ?_
  rintro e w3 ⟨a, rfl, ha3, hb3, hag⟩
  have HB3 : Hid (Below w.heap.size w w3) := HB2.out.trans (hb3.mono HB2.out.size)
  have HC3 := hid (HC2.out.stays hb3)
  have hd3 := HD2.out.kept (X := []) (Kp.of hb3) (by simp) (by simp)
  have HT := hid (take_ok ha3 HC3.out hd3 (by omega) (HTb.out.stays HB3.out) (by rw [HS1.out]))
  rw [HS1.out] at HT
  simp only at HT
  have HGa : Hid (w.heap.size ≤ a) := Nat.le_trans HB2.out.size hag
  have HD3 := hid hd3
  have HAp := hid (ha3.cell HC3.out)
  have HDp := hid (HC3.out.part hd3)
  clear ha3 hd3 hb3 HO2 HB2 HC2 HD2 hag
  go_wp2_with fail
  refine HT.out.mono ?_
  rintro e w4 ⟨rfl, hd4, ha4, k4, -⟩
  have HG3 : Hid (∀ y ∈ [d, g, a], w.heap.size ≤ y) := by
    intro y hy
    simp only [List.mem_cons, List.not_mem_nil, or_false] at hy
    have h1 := HG.out
    have h2 := HGa.out
    omega
  have HB4 : Hid (Below w.heap.size w w4) := HB3.out.trans (k4.below HG3.out HB3.out.size)
  have HC4 : Hid (CellAt w4 x d 0 1) := by
    have h1 := HAp.out
    have h2 := HDp.out
    simp only [List.mem_cons, List.not_mem_nil, or_false] at h2
    exact HC3.out.kept k4 (by simp; omega) (by simp; omega) (by simp; omega) (by simp; omega)
  have HO4 := hid (nopen_ok HC4.out hd4 (by omega) (HTb.out.stays HB4.out) HK3.out)
  rw [HK4.out] at HO4
  have HD4 := hid hd4
  have HA4 := hid ha4
  clear hd4 ha4 k4 HT HB3 HC3 HD3 HAp HDp
  go_wp2_with fail
  refine HO4.out.mono ?_
  rintro e w5 ⟨b, rfl, hb5a, hb5, hbg⟩
  have HB5 : Hid (Below w.heap.size w w5) := HB4.out.trans (hb5.mono HB4.out.size)
  have HC5 := hid (HC4.out.stays hb5)
  have hd5 := HD4.out.kept (X := []) (Kp.of hb5) (by simp) (by simp)
  have HA5 := hid (HA4.out.stays hb5)
  have HT5 := hid (take_ok hb5a HC5.out hd5 (by omega) (HTb.out.stays HB5.out) (by rw [HS2.out]))
  rw [HS2.out] at HT5
  simp only at HT5
  have HGb : Hid (w.heap.size ≤ b) := Nat.le_trans HB4.out.size hbg
  have HFa : Hid (a ∉ [d, g, b]) := by
    have h1 := HA5.out.far hd5
    have h2 := row_lt HA4.out.obj
    simp only [List.mem_cons, List.not_mem_nil, or_false] at h1
    show a ∉ [d, g, b]
    simp only [List.mem_cons, List.not_mem_nil, or_false]
    omega
  clear hb5a hd5 hb5 hbg HO4 HB4 HC4 HD4 HA4
  go_wp2_with fail
  refine HT5.out.mono ?_
  rintro e w6 ⟨rfl, hd6, ha6, k6, -⟩
  have HB6 : Hid (Below w.heap.size w w6) := HB5.out.trans (k6.below (fun y hy => by simp only [List.mem_cons, List.not_mem_nil, or_false] at hy; have h1 := HG.out; have h2 := HGb.out; omega) HB5.out.size)
  have HA6 := hid (HA5.out.kept k6 HFa.out)
  have HLm := hid (limit_any HA6.out)
  have HNx := hid (anext_any HA6.out)
  clear hd6 ha6 k6 HT5 HB5 HA5 HC5
  go_wp2_with fail
  refine HLm.out.mono ?_
  rintro e W ⟨rfl, hW⟩
  subst W
  go_wp2_with fail
  refine HNx.out.mono ?_
  rintro e W ⟨rfl, hW⟩
  subst W
  go_wp2
  go_ret
  exact ⟨rfl, HB6.out⟩

end Go.Proofs.YtnhnjdldgaaeoaaDoor
