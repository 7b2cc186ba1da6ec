/-
  NonceKept answers true: what is reserved is kept ahead of its use.
-/
import Derived.Test.YtnhnjdldgaaeoaaDoorNac
import Derived.Test.YtnhnjdldgaaeoaaDoorNrf
namespace Go.Proofs.YtnhnjdldgaaeoaaDoor
open Go Go.RowKit
set_option maxRecDepth 100000

/-- What stands behind every call on a disk that nobody armed. -/
structure KSt (D : Dk) (al : Al) (j : Nat) : Prop where
  up : D.down = false
  calm : D.armed = 0
  good : Good D al.lim j
  le : al.next ≤ al.lim
  near : al.lim < al.next + 16
  by16 : al.lim % 16 = 0
  mx : al.lim ≤ 1099511627776
  len : D.S.length = 6
theorem KSt.more {D : Dk} {al : Al} {j : Nat} (h : KSt D al j) : KSt D al (j + 1) := ⟨h.up, h.calm, h.good.more, h.le, h.near, h.by16, h.mx, h.len⟩
theorem KSt.some {D : Dk} {al : Al} {j : Nat} (h : KSt D al j) (hj : j < 1000) (n : Int) : KSt (someP D 0 1 al n).2.1 (someP D 0 1 al n).2.2 (j + 1) := by
  have hle := h.le
  have hnr := h.near
  by_cases h1 : n < 1 ∨ 256 < n
  · have e : someP D 0 1 al n = (2, D, al) := by unfold someP; rw [if_pos h1]
    rw [e]
    exact h.more
  · by_cases h2 : 1099511627761 < al.next + n.toNat
    · have e : someP D 0 1 al n = (3, D, al) := by unfold someP; rw [if_neg h1, if_pos h2]
      rw [e]
      exact h.more
    · obtain ⟨D2, s1, s2, s3, s4, s5⟩ := some_calm h.good h.up h.calm hj n (by omega) (by omega) (by omega)
      rw [s1]
      obtain ⟨g1, g2⟩ := limN_ge al.next n.toNat al.lim
      have g3 := limN_mod al.next n.toNat al.lim h.by16
      have g4 : limN al.next n.toNat al.lim < al.next + n.toNat + 16 := by
        unfold limN
        split <;> omega
      exact ⟨s2, s3, s4, g1, g4, g3, by show limN _ _ _ ≤ _; omega, s5.trans h.len⟩

theorem KSt.load {D : Dk} {al : Al} {j : Nat} (h : KSt D al j) (hn : al.next ≠ 0) : ∃ n : Nat, loadP D 0 1 = (numW al.lim, n, 0) := by
  obtain ⟨n, t, k1, k2, k3⟩ := h.good
  have hle := h.le
  rcases k3 with ⟨e1, e2⟩ | ⟨e1, e2⟩
  · omega
  · refine ⟨n, ?_⟩
    rw [k2.load h.up, ← e2]
    unfold loadR
    rw [if_neg (by omega)]

set_option maxHeartbeats 8000000 in
theorem kept_walk (w : World) (ht : Lay.Tabs w) (la : Option Addr) (len cap : Nat) (hA : ActsAt w la len) : Calls Tryd.prog 4 #[.slice la len cap] w fun e w' => e = .returned (.bool true) ∧ Below w.heap.size w w' := by
  have HN := hid (new_ok w 6 (by omega) (by omega))
  have HTb := hid ht
  have HAc := hid hA
  obtain ⟨hu1, hu2, hu3⟩ := newD_up 6
  have hg0 := Good.new
  obtain ⟨k1, k2⟩ := hg0.kept hu1 (by omega)
  have HK0 : Hid (KSt (newD 6) ⟨0, 0⟩ 0) := ⟨hu1, hu2, hg0, Nat.le_refl _, by show 0 < 0 + 16; omega, rfl, by show 0 ≤ _; omega, hu3⟩
  have HK1 := hid k1
  have HK2 := hid k2
  generalize newD 6 = D0 at *
  clear hg0 k1 k2 hA ht hu2
  go_enter Tryd.func4, Tryd.ntmps4
  go_wp2_with fail
  refine HN.out.mono ?_
  rintro e w1 ⟨d, g, rfl, hd1, hb1, hg1, hg2⟩
  have HB1 := hid hb1
  have HO := hid (open_ok hd1 0 1 (by omega) (by omega) (by omega) hu1)
  have HD1 := hid hd1
  have HG : Hid (w.heap.size ≤ d ∧ w.heap.size ≤ g) := ⟨hg1, hg2⟩
  clear hd1 hb1 hg1 hg2 HN
  go_wp2_with fail
  refine HO.out.mono ?_
  rintro e w2 ⟨x, rfl, hc2, hb2, -⟩
  have HB2 : Hid (Below w.heap.size w w2) := HB1.out.trans (hb2.mono HB1.out.size)
  have hd2 := HD1.out.kept (X := []) (Kp.of hb2) (by simp) (by simp)
  have HO2 := hid (nopen_ok hc2 hd2 (by omega) (HTb.out.stays HB2.out) HK1.out)
  rw [HK2.out] at HO2
  have HC2 := hid hc2
  have HD2 := hid hd2
  clear hc2 hb2 hd2 HO HB1 HD1
  go_wp2_with fail
  refine HO2.out.mono ?_
  rintro e w3 ⟨a, rfl, ha3, hb3, hag⟩
  have HB3 : Hid (Below w.heap.size w w3) := HB2.out.trans (hb3.mono HB2.out.size)
  have HC3 := hid (HC2.out.stays hb3)
  have HD3 := hid (HD2.out.kept (X := []) (Kp.of hb3) (by simp) (by simp))
  have HA3 := hid ha3
  have HG3 : Hid (∀ y ∈ [d, g, a], w.heap.size ≤ y) := by
    intro y hy
    simp only [List.mem_cons, List.not_mem_nil, or_false] at hy
    have h1 := HG.out
    have h2 := HB2.out.size
    omega
  clear ha3 hb3 hag HO2 HB2 HC2 HD2
  go_wp2_with fail
  refine (nawake_any _ (HTb.out.stays HB3.out)).mono ?_
  rintro e w4 ⟨rfl, hb4⟩
  have HB4 : Hid (Below w.heap.size w w4) := HB3.out.trans (hb4.mono HB3.out.size)
  have HC4 := hid (HC3.out.stays hb4)
  have HD4 := hid (HD3.out.kept (X := []) (Kp.of hb4) (by simp) (by simp))
  have HA4 := hid (HA3.out.stays hb4)
  clear hb4 HB3 HC3 HD3 HA3 HK1 HK2 hu1 hu3
  go_wp2
  go_loopw [9] (fun i w' => ∃ (j : Nat) (D : Dk) (al : Al), j ≤ len ∧ j ≤ 30 ∧ i = .int .i64 j ∧ Hid (CellAt w' x d 0 1) ∧ Hid (DiskAt w' d g D) ∧ Hid (AllocAt w' a x.c al) ∧ Hid (KSt D al j) ∧ Hid (Below w.heap.size w w')) (fun i _ => 30 - (intOf i).toNat)
  case atStart => exact ⟨0, D0, ⟨0, 0⟩, by omega, by omega, rfl, HC4, HD4, HA4, HK0, HB4⟩
  case round =>
    clear HC4 HD4 HA4 HK0 HB4
    obtain ⟨j, D, al, hj, hj30, rfl, HC, HD, HA, HK, HB⟩ := hrel
    by_cases hlt : j < len
    · have e1 : decide ((j : Int) < (len : Int)) = true := by simpa using hlt
      have e2 : decide (j < len) = true := by simpa using hlt
      by_cases h30 : j < 30
      · have e3 : decide ((j : Int) < 30) = true := by simp; omega
        obtain ⟨b, off, k, i, t, v, ks, hab, hc, hi, hI⟩ := HAc.out j hlt
        subst hab
        obtain ⟨q0, q1, -, -⟩ := ActsAt.cells hc HB.out
        clear hc hI
        by_cases hk3 : 3 < k
        · have f1 : decide (3 < k) = true := decide_eq_true hk3
          go_wp2
          go_roundw
          case rel => exact ⟨j + 1, D, al, by omega, by omega, by go_num, HC, HD, HA, HK.out.more, HB⟩
          case measure => simp [intOf]; omega
        · have f1 : decide (3 < k) = false := decide_eq_false hk3
          by_cases hk0 : k < 0
          · have f2 : decide (k < 0) = true := decide_eq_true hk0
            go_wp2
            go_roundw
            case rel => exact ⟨j + 1, D, al, by omega, by omega, by go_num, HC, HD, HA, HK.out.more, HB⟩
            case measure => simp [intOf]; omega
          · have f2 : decide (k < 0) = false := decide_eq_false hk0
            have HSo := hid (some_whole HA.out HC.out HD.out (by have := HK.out.len; omega) (HTb.out.stays HB.out) i)
            have HK2 := hid (HK.out.some (by omega) i)
            generalize someP D 0 1 al i = SS at *
            obtain ⟨eS, D2, al2⟩ := SS
            simp only at HSo HK2
            go_wp2_with fail
            refine HSo.out.mono ?_
            rintro e w5 ⟨vv, rfl, hd5, ha5, k5⟩
            have HB5 : Hid (Below w.heap.size w w5) := HB.out.trans (k5.below HG3.out HB.out.size)
            have HC5 := hid (HC.out.over HD.out HA.out k5)
            have HD5 := hid hd5
            have HA5 := hid ha5
            have HNx := hid (anext_any ha5)
            have HLm := hid (fun W (h : AllocAt W a x.c al2) => limit_any h)
            have HNx2 := hid (fun W (h : AllocAt W a x.c al2) => anext_any h)
            clear hd5 ha5 k5 HSo HB HC HD HA HK q0 q1
            go_wp2_with fail
            refine HNx.out.mono ?_
            rintro e W ⟨rfl, hW⟩
            subst W
            by_cases hz : al2.next = 0
            · have f3 : ((al2.next : Int) == 0) = true := by simp [hz]
              clear hz
              go_wp2
              go_roundw
              case rel => exact ⟨j + 1, D2, al2, by omega, by omega, by go_num, HC5, HD5, HA5, HK2, HB5⟩
              case measure => simp [intOf]; omega
            · have f3 : ((al2.next : Int) == 0) = false := by simpa using hz
              obtain ⟨cn, hld⟩ := HK2.out.load hz
              have HLo := hid (load_any HC5.out HD5.out (by have := HK2.out.len; omega))
              rw [hld] at HLo
              have hle := HK2.out.le
              have hnr := HK2.out.near
              have h16 := HK2.out.by16
              have hmx := HK2.out.mx
              have hrn := numW_read al2.lim (by omega)
              have hwl := numW_len al2.lim (by omega)
              have HRd := hid (fun W => refRead_any ⟨(numW al2.lim).toArray⟩ (by show (numW al2.lim).length ≤ _; unfold maxLen; omega) W (numW al2.lim) rfl)
              unfold Lay.numTo at HRd
              rw [hrn] at HRd
              simp only [if_true] at HRd
              simp only at HLo
              have hmod : (al2.lim : Int).tmod 16 = 0 := by rw [Int.tmod_eq_emod_of_nonneg (by omega)]; omega
              generalize numW al2.lim = tx at *
              clear hld hrn
              go_wp2_with fail
              refine HLo.out.mono ?_
              rintro e w6 ⟨rfl, hb6⟩
              have HB6 : Hid (Below w.heap.size w w6) := HB5.out.trans (hb6.mono HB5.out.size)
              have HC6 := hid (HC5.out.stays hb6)
              have HD6 := hid (HD5.out.kept (X := []) (Kp.of hb6) (by simp) (by simp))
              have HA6 := hid (HA5.out.stays hb6)
              clear hb6 HLo HB5 HC5 HD5 HA5
              go_wp2_with fail
              refine (HRd.out _).mono ?_
              rintro e W ⟨rfl, hW⟩
              subst W
              go_wp2_with fail
              refine (HLm.out _ HA6.out).mono ?_
              rintro e W ⟨rfl, hW⟩
              subst W
              go_wp2_with fail
              refine (HNx2.out _ HA6.out).mono ?_
              rintro e W ⟨rfl, hW⟩
              subst W
              go_wp2_with fail
              refine (HNx2.out _ HA6.out).mono ?_
              rintro e W ⟨rfl, hW⟩
              subst W
              go_wp2
              go_roundw
              case rel => exact ⟨j + 1, D2, al2, by omega, by omega, by go_num, HC6, HD6, HA6, HK2, HB6⟩
              case measure => simp [intOf]; omega
      · have e3 : decide ((j : Int) < 30) = false := by simp; omega
        go_wp2
        go_ret
        exact ⟨rfl, HB.out⟩
    · have e1 : decide ((j : Int) < (len : Int)) = false := by simpa using hlt
      have e2 : decide (j < len) = false := by simpa using hlt
      go_wp2
      go_ret
      exact ⟨rfl, HB.out⟩
end Go.Proofs.YtnhnjdldgaaeoaaDoor
