/-
  What the reference of histories (R09) answers: the same as hist.
-/
import Derived.Test.YtfigbgpfkhcpcaaHgo
namespace Go.Proofs.Ytfigbgpfkhcpcaa.Hist
open Go Go.RowKit
set_option maxRecDepth 100000

set_option maxHeartbeats 2000000 in
theorem rcount_any (h : List UInt8) (hl : h.length < 9223372036854775807) (c : Int) (w : World) : Calls Try.prog 25 #[.string ⟨h.toArray⟩, .int .i64 c] w fun e w' => e = .returned (.int .i64 (cnt h c)) ∧ w' = w := by
  have hss : (⟨h.toArray⟩ : ByteArray).size = h.length := rfl
  go_enter Try.func25, Try.ntmps25
  go_wp2
  go_loopw [5, 6] (fun v i w' => ∃ j : Nat, j ≤ h.length ∧ i = .int .i64 j ∧ v = .int .i64 (cnt (h.take j) c) ∧ w' = w) (fun _ i _ => h.length - (intOf i).toNat)
  case atStart => exact ⟨0, by omega, rfl, rfl, rfl⟩
  case round =>
    obtain ⟨j, hj, rfl, rfl, hw⟩ := hrel
    subst wr
    by_cases hlt : j < h.length
    · have d1 : decide ((j : Int) < (h.length : Int)) = true := by simp; omega
      have hq : ((⟨h.toArray⟩ : ByteArray)[j]'(by rw [hss]; exact hlt)).toNat = (h.getD j 0).toNat := getD_byte h j _
      have hs := cnt_step h j hlt c
      have hx : bv (h.getD j 0) = ((h.getD j 0).toNat : Int) := rfl
      have hx2 : (h.getD j 0).toNat < 256 := (h.getD j 0).toNat_lt
      have hcl := Nat.le_trans (cnt_take_le h j c) (cnt_le h c)
      have HS := hid hs
      generalize (h.getD j 0).toNat = x at *
      clear hs
      by_cases he : bv (h.getD j 0) = c
      · have HS' := HS.out
        rw [if_pos he] at HS'
        have HS2 := hid HS'
        have d2 : ((x : Int) == c) = true := by rw [← hx]; simpa using he
        clear HS HS' he hx
        generalize cnt (h.take j) c = m at *
        go_wp2
        exact ⟨⟨j + 1, by omega, by go_num, by rw [HS2.out]; go_num, trivial⟩, by simp [intOf]; omega⟩
      · have HS' := HS.out
        rw [if_neg he] at HS'
        have HS2 := hid HS'
        have d2 : ((x : Int) == c) = false := by rw [← hx]; simpa using he
        clear HS HS' he hx
        generalize cnt (h.take j) c = m at *
        go_wp2
        exact ⟨⟨j + 1, by omega, by go_num, by rw [HS2.out]; rfl, trivial⟩, by simp [intOf]; omega⟩
    · obtain rfl : j = h.length := by omega
      have e := cnt_all h c
      rw [e]
      go_wp2
      go_ret
      exact ⟨rfl, rfl⟩




theorem gt_sub (x : Nat) (n : Int) (b : Bool) (h : decide (n ≤ (x : Int)) = b) : decide (n - 1 < (x : Int)) = b := by
  rw [← h]
  by_cases e : n ≤ (x : Int)
  · rw [decide_eq_true e, decide_eq_true (by omega)]
  · rw [decide_eq_false e, decide_eq_false (by omega)]
set_option maxHeartbeats 2000000 in
theorem rright_any (h : List UInt8) (n : Int) (w : World) : Calls Try.prog 41 #[.string ⟨h.toArray⟩, .int .i64 n] w fun e w' => e = .returned (.bool (rightB h n)) ∧ w' = w := by
  have hss : (⟨h.toArray⟩ : ByteArray).size = h.length := rfl
  by_cases h1 : n < 1
  · rw [right_false1 h n h1]
    have d1 : decide (n < 1) = true := decide_eq_true h1
    go_enter Try.func41, Try.ntmps41
    go_wp2
    go_ret
    exact ⟨rfl, rfl⟩
  by_cases h2 : 256 < n
  · rw [right_false2 h n h2]
    have d1 : decide (n < 1) = false := decide_eq_false h1
    have d2 : decide (256 < n) = true := decide_eq_true h2
    clear h1 h2
    go_enter Try.func41, Try.ntmps41
    go_wp2
    go_ret
    exact ⟨rfl, rfl⟩
  by_cases h3 : 512 < h.length
  · rw [right_false3 h n h3]
    have d1 : decide (n < 1) = false := decide_eq_false h1
    have d2 : decide (256 < n) = false := decide_eq_false h2
    have d3 : decide ((512 : Int) < (h.length : Int)) = true := by simp; omega
    clear h1 h2 h3
    go_enter Try.func41, Try.ntmps41
    go_wp2
    go_ret
    exact ⟨rfl, rfl⟩
  have d1 : decide (n < 1) = false := decide_eq_false h1
  have d2 : decide (256 < n) = false := decide_eq_false h2
  have d3 : decide ((512 : Int) < (h.length : Int)) = false := by simp; omega
  have HR := hid (right_true h n h1 h2 h3)
  have hn1 : 1 ≤ n ∧ n ≤ 256 := by omega
  have h3' : h.length ≤ 512 := by omega
  clear h1 h2 h3
  go_enter Try.func41, Try.ntmps41
  go_wp2
  go_loopw [5] (fun i w' => ∃ j : Nat, j ≤ h.length ∧ i = .int .i64 j ∧ Hid (∀ k, k < j → bv (h.getD k 0) < n) ∧ w' = w) (fun i _ => h.length - (intOf i).toNat)
  case atStart => exact ⟨0, by omega, rfl, fun k hk => absurd hk (Nat.not_lt_zero k), rfl⟩
  case round =>
    obtain ⟨j, hj, rfl, HN, hw⟩ := hrel
    subst wr
    by_cases hlt : j < h.length
    · have e1 : decide ((j : Int) < (h.length : Int)) = true := by simp; omega
      have hq : ((⟨h.toArray⟩ : ByteArray)[j]'(by rw [hss]; exact hlt)).toNat = (h.getD j 0).toNat := getD_byte h j _
      have hx : bv (h.getD j 0) = ((h.getD j 0).toNat : Int) := rfl
      have hx2 : (h.getD j 0).toNat < 256 := (h.getD j 0).toNat_lt
      by_cases he : n ≤ bv (h.getD j 0)
      · have HP := hid (right_false4 h n j hlt he)
        have d4 : decide (n - 1 < ((h.getD j 0).toNat : Int)) = true := gt_sub _ n _ (decide_eq_true (by rw [← hx]; exact he))
        generalize (h.getD j 0).toNat = x at *
        clear he hx HR HN
        go_wp2
        go_ret
        exact ⟨by rw [HP.out]; rfl, rfl⟩
      · have HN' : Hid (∀ k, k < j + 1 → bv (h.getD k 0) < n) := fun k hk => by
          by_cases e : k = j
          · rw [e]; omega
          · exact HN.out k (by omega)
        have d4 : decide (n - 1 < ((h.getD j 0).toNat : Int)) = false := gt_sub _ n _ (decide_eq_false (by rw [← hx]; exact he))
        generalize (h.getD j 0).toNat = x at *
        clear he hx HR HN
        go_wp2
        exact ⟨⟨j + 1, by omega, by go_num, HN'.out, trivial⟩, by simp [intOf]; omega⟩
    · obtain rfl : j = h.length := by omega
      have HP := hid (HR.out HN.out)
      clear HR HN
      go_wp2
      go_ret
      exact ⟨by rw [HP.out]; rfl, rfl⟩

set_option maxHeartbeats 2000000 in
theorem rplace_any (h : List UInt8) (hl : h.length < 9223372036854775807) (c n : Int) (w : World) : Calls Try.prog 26 #[.string ⟨h.toArray⟩, .int .i64 c, .int .i64 n] w fun e w' => e = .returned (.int .i64 (placeI h c n)) ∧ w' = w := by
  have hss : (⟨h.toArray⟩ : ByteArray).size = h.length := rfl
  have HC := hid (fun j => rcount_any (h.take j) (by rw [List.length_take]; omega) c w)
  go_enter Try.func26, Try.ntmps26
  go_wp2
  go_loopw [7] (fun i w' => ∃ j : Nat, j ≤ h.length ∧ i = .int .i64 j ∧ Hid (∀ k, k < j → hit h c n k = false) ∧ w' = w) (fun i _ => h.length - (intOf i).toNat)
  case atStart => exact ⟨0, by omega, rfl, fun k hk => absurd hk (Nat.not_lt_zero k), rfl⟩
  case round =>
    obtain ⟨j, hj, rfl, HN, hw⟩ := hrel
    subst wr
    by_cases hlt : j < h.length
    · have e1 : decide ((j : Int) < (h.length : Int)) = true := by simp; omega
      have hq : ((⟨h.toArray⟩ : ByteArray)[j]'(by rw [hss]; exact hlt)).toNat = (h.getD j 0).toNat := getD_byte h j _
      have hx : bv (h.getD j 0) = ((h.getD j 0).toNat : Int) := rfl
      have hx2 : (h.getD j 0).toNat < 256 := (h.getD j 0).toNat_lt
      have hhit := hit_iff h c n j
      have hext := ext_take h (j + 1)
      have hjj : ((j : Int) + 1) = ((j + 1 : Nat) : Int) := by omega
      have HCj := hid (HC.out (j + 1))
      have hon : Hid (hit h c n j = false → ∀ k, k < j + 1 → hit h c n k = false) := fun hf k hk => by
        by_cases e : k = j
        · rw [e]; exact hf
        · exact HN.out k (by omega)
      by_cases he : bv (h.getD j 0) = c
      · have d1 : (((h.getD j 0).toNat : Int) == c) = true := by rw [← hx]; simpa using he
        by_cases hm : (cnt (h.take (j + 1)) c : Int) = n
        · have d2 : ((cnt (h.take (j + 1)) c : Int) == n) = true := by simpa using hm
          have HP := hid (plc_some hlt (hhit.2 ⟨he, hm⟩) HN.out)
          clear hhit he hm HN hon HC hx
          generalize (h.getD j 0).toNat = x at *
          generalize cnt (h.take (j + 1)) c = m at *
          generalize h.take (j + 1) = t at *
          obtain ⟨j1, hj1⟩ : ∃ j1, j1 = j + 1 := ⟨_, rfl⟩
          rw [← hj1] at hext hjj
          have hj2 : j1 ≤ h.length := by omega
          have HJ1 := hid hj1
          clear hj1
          go_wp2_with fail
          refine HCj.out.mono ?_
          rintro e w1 ⟨rfl, hw1⟩
          subst w1
          go_wp2
          go_ret
          exact ⟨by rw [HP.out]; rfl, rfl⟩
        · have d2 : ((cnt (h.take (j + 1)) c : Int) == n) = false := by simpa using hm
          have HN' := hid (hon.out (Bool.eq_false_iff.2 fun ht => hm (hhit.1 ht).2))
          clear hhit he hm HN hon HC hx
          generalize (h.getD j 0).toNat = x at *
          generalize cnt (h.take (j + 1)) c = m at *
          generalize h.take (j + 1) = t at *
          obtain ⟨j1, hj1⟩ : ∃ j1, j1 = j + 1 := ⟨_, rfl⟩
          rw [← hj1] at hext hjj HN'
          have hj2 : j1 ≤ h.length := by omega
          have HJ1 := hid hj1
          clear hj1
          go_wp2_with fail
          refine HCj.out.mono ?_
          rintro e w1 ⟨rfl, hw1⟩
          subst w1
          go_wp2
          have := HJ1.out
          exact ⟨⟨j1, by omega, rfl, HN'.out, trivial⟩, by simp [intOf]; omega⟩
      · have d1 : (((h.getD j 0).toNat : Int) == c) = false := by rw [← hx]; simpa using he
        have HN' := hid (hon.out (Bool.eq_false_iff.2 fun ht => he (hhit.1 ht).1))
        clear hhit he HN hon HC hx HCj hext hjj
        generalize (h.getD j 0).toNat = x at *
        go_wp2
        exact ⟨⟨j + 1, by omega, by go_num, HN'.out, trivial⟩, by simp [intOf]; omega⟩
    · obtain rfl : j = h.length := by omega
      have HP := hid (plc_none HN.out)
      clear HN HC
      go_wp2
      go_ret
      exact ⟨by rw [HP.out]; rfl, rfl⟩

theorem goes_iff (a b : List UInt8) : goesB a b = true ↔ b <+: a := by unfold goesB; simp
theorem goes_long (a b : List UInt8) (h : a.length < b.length) : goesB a b = false := by
  rw [Bool.eq_false_iff]; intro e
  have := ((goes_iff a b).1 e).length_le
  omega
theorem goes_differ (a b : List UInt8) (j : Nat) (hb : j < b.length) (ha : j < a.length) (h : a.getD j 0 ≠ b.getD j 0) : goesB a b = false := by
  rw [Bool.eq_false_iff]; intro e
  obtain ⟨t, rfl⟩ := (goes_iff a b).1 e
  apply h
  simp [List.getD, List.getElem?_append_left hb]
theorem goes_same (a b : List UInt8) (hl : b.length ≤ a.length) (h : ∀ j, j < b.length → a.getD j 0 = b.getD j 0) : goesB a b = true := by
  rw [goes_iff, List.prefix_iff_eq_take]
  apply List.ext_getElem
  · simp; omega
  · intro i h1 h2
    have e := h i h1
    have h3 : i < a.length := by omega
    simp [List.getD, h1, h3] at e
    simp [e]

set_option maxHeartbeats 2000000 in
theorem rgoes_any (a b : List UInt8) (hal : a.length < 9223372036854775807) (w : World) : Calls Try.prog 24 #[.string ⟨a.toArray⟩, .string ⟨b.toArray⟩] w fun e w' => e = .returned (.bool (goesB a b)) ∧ Below w.heap.size w w' := by
  have hsa : (⟨a.toArray⟩ : ByteArray).size = a.length := rfl
  have hsb : (⟨b.toArray⟩ : ByteArray).size = b.length := rfl
  by_cases h1 : a.length < b.length
  · rw [goes_long a b h1]
    have d1 : decide ((a.length : Int) < (b.length : Int)) = true := by simp; omega
    go_enter Try.func24, Try.ntmps24
    go_wp2
    go_ret
    exact ⟨rfl, Below.refl _ _⟩
  have d1 : decide ((a.length : Int) < (b.length : Int)) = false := by simp; omega
  have hle : b.length ≤ a.length := by omega
  have HG := hid (goes_same a b hle)
  clear h1
  have HB0 := hid (Below.refl w.heap.size w)
  go_enter Try.func24, Try.ntmps24
  go_wp2
  go_loopw [5] (fun i w' => ∃ j : Nat, j ≤ b.length ∧ i = .int .i64 j ∧ Hid (∀ k, k < j → a.getD k 0 = b.getD k 0) ∧ Hid (Below w.heap.size w w')) (fun i _ => b.length - (intOf i).toNat)
  case atStart => exact ⟨0, by omega, rfl, fun k hk => absurd hk (Nat.not_lt_zero k), HB0.out⟩
  case round =>
    obtain ⟨j, hj, rfl, HN, HB⟩ := hrel
    by_cases hlt : j < b.length
    · have e1 : decide ((j : Int) < (b.length : Int)) = true := by simp; omega
      have hlt2 : j < a.length := by omega
      have hqa : ((⟨a.toArray⟩ : ByteArray)[j]'(by rw [hsa]; exact hlt2)).toNat = (a.getD j 0).toNat := getD_byte a j _
      have hqb : ((⟨b.toArray⟩ : ByteArray)[j]'(by rw [hsb]; exact hlt)).toNat = (b.getD j 0).toNat := getD_byte b j _
      by_cases he : a.getD j 0 = b.getD j 0
      · have HN' : Hid (∀ k, k < j + 1 → a.getD k 0 = b.getD k 0) := fun k hk => by
          by_cases e : k = j
          · rw [e]; exact he
          · exact HN.out k (by omega)
        have dx : (((a.getD j 0).toNat : Int) != ((b.getD j 0).toNat : Int)) = false := by rw [he]; simp
        have dy : (((a.getD j 0).toNat : Int) == ((b.getD j 0).toNat : Int)) = true := by rw [he]; simp
        generalize (a.getD j 0).toNat = x at *
        generalize (b.getD j 0).toNat = y at *
        clear he HG HN
        have HBd := hid HB.out.drew
        go_wp2
        go_region
        all_goals (go_wp2; exact ⟨⟨j + 1, by omega, by go_num, HN'.out, HBd.out⟩, by simp [intOf]; omega⟩)
      · have HP := hid (goes_differ a b j hlt hlt2 he)
        have hne : (a.getD j 0).toNat ≠ (b.getD j 0).toNat := fun e => he (UInt8.toNat_inj.1 e)
        generalize (a.getD j 0).toNat = x at *
        generalize (b.getD j 0).toNat = y at *
        have dx : ((x : Int) != (y : Int)) = true := by simp; omega
        have dy : ((x : Int) == (y : Int)) = false := by simp; omega
        clear he hne HG HN
        have HBd := hid HB.out.drew
        go_wp2
        go_region
        all_goals (go_wp2; go_ret; exact ⟨by rw [HP.out]; rfl, HBd.out⟩)
    · obtain rfl : j = b.length := by omega
      have HP := hid (HG.out HN.out)
      clear HG HN
      go_wp2
      go_ret
      exact ⟨by rw [HP.out]; rfl, HB.out⟩

set_option maxHeartbeats 2000000 in
theorem rfit_any (a b : List UInt8) (hal : a.length < 9223372036854775807) (hbl : b.length < 9223372036854775807) (w : World) : Calls Try.prog 30 #[.string ⟨a.toArray⟩, .string ⟨b.toArray⟩] w fun e w' => e = .returned (.bool (fitB a b)) ∧ Below w.heap.size w w' := by
  have HA := hid (rgoes_any a b hal w)
  have HB := hid (fun W => rgoes_any b a hbl W)
  clear hal hbl
  unfold fitB
  generalize goesB b a = s at *
  cases hq : goesB a b with
  | true =>
    rw [hq] at HA
    go_enter Try.func30, Try.ntmps30
    go_wp2_with fail
    refine HA.out.mono ?_
    rintro e w1 ⟨rfl, hw⟩
    have HW := hid hw
    clear hw
    go_wp2
    go_ret
    exact ⟨rfl, HW.out⟩
  | false =>
    rw [hq] at HA
    go_enter Try.func30, Try.ntmps30
    go_wp2_with fail
    refine HA.out.mono ?_
    rintro e w1 ⟨rfl, hw⟩
    have HW := hid hw
    clear hw
    go_wp2_with fail
    refine (HB.out _).mono ?_
    rintro e w2 ⟨rfl, hw⟩
    have HW2 := hid (below_two HW.out hw)
    clear hw
    go_wp2
    go_ret
    exact ⟨rfl, HW2.out⟩

end Go.Proofs.Ytfigbgpfkhcpcaa.Hist
