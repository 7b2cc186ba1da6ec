/-
  Fields of messages in memory: what their cells hold, and what is laid and read of them one by one.
-/
import Derived.Test.YtekfcbedlokidaaGreatDoorH01
import Derived.Test.YtekfcbedlokidaaGreatDoorH02
import Derived.Test.YtekfcbedlokidaaGreatDoorH04
import Derived.Test.YtekfcbedlokidaaGreatDoorH05
import Derived.Test.YtekfcbedlokidaaGreatDoorH06
import Derived.Test.YtekfcbedlokidaaGreatDoorJas
import Derived.Handy
import Derived.Deep.RegionHeld3
import Derived.Test.YtekfcbedlokidaaGreatDoorH03
namespace Go.Proofs.YtekfcbedlokidaaGreatDoor.Ms
open Go Go.RowKit
set_option maxRecDepth 100000
def CvAt (w : World) (cv : Value) : Val → Prop
  | .inl n => cv = nu n
  | .inr (.inl s) => cv = st s
  | .inr (.inr (.inl d)) => cv = .agg (dg d).toArray
  | .inr (.inr (.inr (.inl l))) => IntsAt w cv l
  | .inr (.inr (.inr (.inr l))) => PensAt w cv l
def ValAt (w : World) (g off : Nat) : Val → Prop
  | .inl n => w.cell? ⟨g, off, none⟩ = some (nu n)
  | .inr (.inl s) => w.cell? ⟨g, off, none⟩ = some (st s)
  | .inr (.inr (.inl d)) => ∀ j v, (dg d)[j]? = some v → w.cell? ⟨g, off + j, none⟩ = some v
  | .inr (.inr (.inr (.inl l))) => ∃ v, w.cell? ⟨g, off, none⟩ = some v ∧ IntsAt w v l
  | .inr (.inr (.inr (.inr l))) => ∃ v, w.cell? ⟨g, off, none⟩ = some v ∧ PensAt w v l
abbrev Tb (w : World) : Prop := Lay.Tabs w
theorem textB_txtB (s : List UInt8) : Lay.textB s = txtB s := by unfold Lay.textB txtB; simp
theorem layT_small (s : List UInt8) (h : s.length ≤ 16384) : layT s = txtB s := by unfold layT; rw [if_neg (by omega)]
theorem layT_big (s : List UInt8) (h : 16384 < s.length) : layT s = txtB [] := by unfold layT; rw [if_pos h]
set_option maxHeartbeats 1000000 in
theorem laytext_any (s : List UInt8) (w : World) (ht : Tb w) : Calls Tryz.prog 94 #[st s] w fun e w' => e = .returned (st (layT s)) ∧ Below w.heap.size w w' := by
  have hsz : (⟨s.toArray⟩ : ByteArray).size = s.length := rfl
  by_cases h : s.length ≤ 16384
  · have HT := hid (Lay.text_ok ⟨s.toArray⟩ (by rw [hsz]; exact h) w ht)
    have e1 : Lay.textB (⟨s.toArray⟩ : ByteArray).data.toList = layT s := by rw [layT_small s h, ← textB_txtB]
    rw [e1] at HT
    generalize layT s = r at *
    clear e1 ht h
    go_enter Tryz.func94, Tryz.ntmps94
    go_wp2_with fail
    refine HT.out.mono ?_
    rintro e w1 ⟨rfl, hb⟩
    have HB := hid hb
    clear hb
    go_wp2
    go_ret
    exact ⟨rfl, HB.out⟩
  · have HT := hid (Lay.text_big ⟨s.toArray⟩ (by rw [hsz]; omega) w)
    have HE := hid (Lay.text_ok ⟨#[]⟩ (by decide) w ht)
    have e1 : Lay.textB (⟨#[]⟩ : ByteArray).data.toList = layT s := by rw [layT_big s (by omega), ← textB_txtB]
    rw [e1] at HE
    generalize layT s = r at *
    clear e1 ht h
    go_enter Tryz.func94, Tryz.ntmps94
    go_wp2_with fail
    refine HT.out.mono ?_
    rintro e w1 ⟨rfl, hw⟩
    subst w1
    go_wp2_with fail
    refine HE.out.mono ?_
    rintro e w1 ⟨rfl, hb⟩
    have HB := hid hb
    clear hb
    go_wp2
    go_ret
    exact ⟨rfl, HB.out⟩
theorem dg_map (d : List UInt8) : dg d = d.map Go.Proofs.YtekfcbedlokidaaGreatDoor.cb := rfl
set_option maxHeartbeats 1000000 in
theorem laydig_any (d : List UInt8) (hd : d.length = 32) (w : World) (ht : Tb w) : Calls Tryz.prog 176 #[.agg (dg d).toArray] w fun e w' => e = .returned (st (txtB d)) ∧ Below w.heap.size w w' := by
  have HB0 := hid (below_a1 w (.cells (dg d).toArray 23))
  have r0 := top_obj w (.cells (dg d).toArray 23)
  have S0 := hid (row_seg (off := 0) (A := []) (cs := dg d) (C := []) r0 (by simp) rfl)
  have Z0 : (Tryz.prog.info? 23).map (·.size) = some (dg d).length := by rw [dg_len, hd]; exact sizeDig
  have HY := hid (fun W => bytes_any d hd W)
  have HT := hid (fun W h => laytext_any d W h)
  rw [← dg_map] at HY
  rw [layT_small d (by omega)] at HT
  have HK := hid (fun (W : World) (hb : Below w.heap.size w W) => ht.stays hb)
  generalize txtB d = t at *
  generalize dg d = D at *
  clear hd r0 ht
  go_enter Tryz.func176, Tryz.ntmps176
  go_upto_region 1 with fail
  generalize w.alloc (.cells D.toArray 23) = W0 at *
  go_wp2_with (first | ((with_reducible refine wl_load 23 (.tmp 1) ?_ w.heap.size 0 ?_ ?_ D _ S0.out Tryz.underlying23 ?_ Z0 ?_); exact rfl; exact rfl; exact rfl; exact rfl))
  refine (HY.out _).mono ?_
  rintro e w1 ⟨rfl, hb⟩
  have HB1 := hid (below_two HB0.out hb)
  clear hb
  go_wp2_with fail
  refine (HT.out _ (HK.out _ HB1.out)).mono ?_
  rintro e w2 ⟨rfl, hb⟩
  have HB2 := hid (below_two HB1.out hb)
  clear hb
  go_wp2
  go_ret
  exact ⟨rfl, HB2.out⟩
theorem numsBody_ints (l : List Int) : Lay.numsBody l = intsB l := rfl
set_option maxHeartbeats 1000000 in
theorem numbers_any {w : World} {v : Value} {l : List Int} (hv : IntsAt w v l) (hl : l.length ≤ 512) (hk : ∀ n ∈ l, I64 n) (ht : Tb w) : Calls Tryz.prog 220 #[v] w fun e w' => e = .returned (.tuple #[st (layNs l), nu 0]) ∧ Below w.heap.size w w' := by
  obtain ⟨a, cap, rfl, hc⟩ := hv
  have HL := hid (Lay.list31 a l.length cap l rfl hl (fun z hz => hk z hz) w ht (fun j hj => by
    obtain ⟨b, off, rfl, hcc⟩ := hc (fun e => by rw [e] at hj; exact absurd hj (Nat.not_lt_zero j))
    exact ⟨b, off, rfl, World.block_lt_of_cell? w _ (hcc j hj), hcc j hj⟩))
  have e1 : 40 :: Lay.numsBody l ++ [41] = layNs l := by unfold layNs; rw [if_neg (by omega), numsBody_ints]; rfl
  rw [e1] at HL
  generalize layNs l = r at *
  clear e1 ht hc hk
  go_enter Tryz.func220, Tryz.ntmps220
  go_wp2_with fail
  refine HL.out.mono ?_
  rintro e w1 ⟨rfl, hb⟩
  have HB := hid hb
  clear hb
  go_wp2
  go_ret2
  exact ⟨rfl, HB.out⟩
set_option maxHeartbeats 1000000 in
theorem laynums_any {w : World} {v : Value} {l : List Int} (hv : IntsAt w v l) (hl : l.length ≤ 512) (hk : ∀ n ∈ l, I64 n) (ht : Tb w) : Calls Tryz.prog 180 #[v] w fun e w' => e = .returned (st (layNs l)) ∧ Below w.heap.size w w' := by
  have HN := hid (numbers_any hv hl hk ht)
  obtain ⟨a, cap, rfl, hc⟩ := hv
  generalize layNs l = r at *
  clear ht hc hk
  go_enter Tryz.func180, Tryz.ntmps180
  go_wp2_with fail
  refine HN.out.mono ?_
  rintro e w1 ⟨rfl, hb⟩
  have HB := hid hb
  clear hb
  go_wp2
  go_ret
  exact ⟨rfl, HB.out⟩
end Go.Proofs.YtekfcbedlokidaaGreatDoor.Ms
namespace Go.Proofs.YtekfcbedlokidaaGreatDoor.Lay
open Go.RowKit Go.Joins
set_option maxRecDepth 100000
set_option maxHeartbeats 400000 in
theorem clone_any (s : ByteArray) (w : World) (hlim : s.size ≤ 281474976710656) :
    Calls Tryz.prog 60 #[.string s] w fun e w' => e = .returned (.string s) ∧ Below w.heap.size w w' := by
  go_enter Tryz.func60, Tryz.ntmps60
  go_wp2_with fail
  refine (Tryz.stringslite_Clone s _ hlim).mono ?_
  rintro e w' ⟨rfl, hb⟩
  go_wp2
  go_ret
  exact ⟨rfl, hb⟩
set_option maxHeartbeats 400000 in
theorem rt_bad (s : ByteArray) (p : Nat) (h : p ≤ s.size) (hs : s.size ≤ maxLen) (r : List UInt8) (HR : Hid (s.data.toList.drop p = r)) (n : Nat) (he : eodErr r 58 = n) (hn : n ≠ 0) (w : World) :
    Calls Tryz.prog 115 #[.string s, .int .i64 p] w fun e w' => e = .returned (.tuple #[.string ⟨#[]⟩, .int .i64 0, .int .i64 n]) ∧ w' = w := by
  have HS : Hid (s.size ≤ maxLen) := hs
  unfold maxLen at hs
  have HE : Hid (eodErr r 58 = n) := he
  have hnb : ((n : Int) != 0) = true := by rw [bne_iff_ne]; omega
  clear he
  go_enter Tryz.func115, Tryz.ntmps115
  go_wp2_with fail
  refine (place_yes s p (by omega) _).mono ?_
  rintro e w' ⟨rfl, hw⟩
  subst hw
  go_wp2_with fail
  refine (eod_bad s _ p (by omega) (by omega) 58 HS.out _ r HR n HE.out hn).mono ?_
  rintro e w' ⟨rfl, hw⟩
  subst hw
  go_wp2
  go_ret3
  exact ⟨rfl, rfl⟩
set_option maxHeartbeats 400000 in
theorem rt_range (s : ByteArray) (p : Nat) (hs : s.size ≤ 281474976710656) (r : List UInt8) (HR : Hid (s.data.toList.drop p = r)) (he : eodErr r 58 = 0) (h1 : p ≤ s.size)
    (l : List UInt8) (hlt : (s.data.toList.drop p).take (digRun r) = l) (hl : Lib.atoiAll l = .range) (w : World) (ht : Tabs w) :
    Calls Tryz.prog 115 #[.string s, .int .i64 p] w fun e w' => e = .returned (.tuple #[.string ⟨#[]⟩, .int .i64 0, .int .i64 4]) ∧ Below w.heap.size w w' := by
  have HS : Hid (s.size ≤ maxLen) := by show s.size ≤ 9223372036854775807; omega
  have HE : Hid (eodErr r 58 = 0) := he
  have HL : Hid ((s.data.toList.drop p).take (digRun r) = l) := hlt
  have hdl := digRun_le r
  have hrl : r.length = s.size - p := by rw [← HR.out]; simp
  have hde : p + digRun r ≤ s.size := by omega
  have HLL : Hid (Lib.atoiAll l = .range) := hl
  clear he hlt hl hrl
  go_enter Tryz.func115, Tryz.ntmps115
  go_wp2_with fail
  refine (place_yes s p (by omega) _).mono ?_
  rintro e w' ⟨rfl, hw⟩
  subst hw
  go_wp2_with fail
  refine (eod_ok s _ p (by omega) (by omega) 58 HS.out _ r HR HE.out).mono ?_
  rintro e w' ⟨rfl, hw⟩
  subst hw
  go_wp2_with fail
  refine (atoi_at (s.extract p (p + digRun r)) l (by rw [Lib.extract_data, show p + digRun r - p = digRun r by omega]; exact HL.out) (Nat.le_trans (extract_size _ _ _) hs) (Or.inr HLL.out) _ ht).mono ?_
  rintro e w2 ⟨(⟨v, hv, rfl⟩ | ⟨hr, v, tt, pp, rfl⟩), hb⟩
  · rw [HLL.out] at hv; cases hv
  · clear hr HLL
    go_wp2
    go_ret3
    exact ⟨rfl, hb⟩
theorem size_of (s : ByteArray) : s.data.toList.length = s.size := by rw [Array.length_toList]; rfl
theorem rest_size (s : ByteArray) (a : Nat) (_h : a ≤ s.size) : (s.extract a s.size).size = s.size - a := by
  have h := congrArg List.length (Lib.extract_data s a s.size)
  rw [List.length_take, List.length_drop, size_of, size_of] at h
  omega
set_option maxHeartbeats 400000 in
theorem rt_num (s : ByteArray) (p : Nat) (hs : s.size ≤ 281474976710656) (r : List UInt8) (HR : Hid (s.data.toList.drop p = r)) (he : eodErr r 58 = 0) (h1 : p ≤ s.size) (hk1 : digRun r < r.length)
    (l : List UInt8) (hlt : (s.data.toList.drop p).take (digRun r) = l) (m : Nat) (hm : m ≤ 9223372036854775807) (hl : Lib.atoiAll l = .ok (m : Int)) (w : World) (ht : Tabs w) :
    Calls Tryz.prog 115 #[.string s, .int .i64 p] w fun e w' =>
      ((16384 < m ∧ e = .returned (.tuple #[.string ⟨#[]⟩, .int .i64 0, .int .i64 4])) ∨ (m ≤ 16384 ∧ s.size - (p + digRun r + 1) < m ∧ e = .returned (.tuple #[.string ⟨#[]⟩, .int .i64 0, .int .i64 5])) ∨
       (m ≤ 16384 ∧ m ≤ s.size - (p + digRun r + 1) ∧ e = .returned (.tuple #[.string ⟨((s.data.toList.drop (p + digRun r + 1)).take m).toArray⟩, .int .i64 ((p + (digRun r + 1 + m) : Nat) : Int), .int .i64 0]))) ∧ Below w.heap.size w w' := by
  have HS : Hid (s.size ≤ maxLen) := by show s.size ≤ 9223372036854775807; omega
  have HE : Hid (eodErr r 58 = 0) := he
  have HL : Hid ((s.data.toList.drop p).take (digRun r) = l) := hlt
  have hrl : r.length = s.size - p := by rw [← HR.out]; simp
  have hde : p + digRun r + 1 ≤ s.size := by omega
  have HLL : Hid (Lib.atoiAll l = .ok (m : Int)) := hl
  have hrs := rest_size s (p + digRun r + 1) hde
  clear he hlt hl hrl
  go_enter Tryz.func115, Tryz.ntmps115
  go_wp2_with fail
  refine (place_yes s p (by omega) _).mono ?_
  rintro e w' ⟨rfl, hw⟩
  subst hw
  go_wp2_with fail
  refine (eod_ok s _ p (by omega) (by omega) 58 HS.out _ r HR HE.out).mono ?_
  rintro e w' ⟨rfl, hw⟩
  subst hw
  go_wp2_with fail
  refine (atoi_at (s.extract p (p + digRun r)) l (by rw [Lib.extract_data, show p + digRun r - p = digRun r by omega]; exact HL.out) (Nat.le_trans (extract_size _ _ _) hs) (Or.inl ⟨_, HLL.out⟩) _ ht).mono ?_
  rintro e w2 ⟨(⟨v, hv, rfl⟩ | ⟨hr, v, tt, pp, rfl⟩), hb⟩
  · rw [HLL.out] at hv
    obtain rfl : (m : Int) = v := by injection hv
    clear hv HLL
    have HB : Hid (Below w'.heap.size w' w2) := hb
    clear hb
    by_cases hbig : 16384 < m
    · have hb2 : decide (16384 < (m : Int)) = true := by simp; omega
      go_wp2
      go_ret3
      exact ⟨.inl ⟨hbig, rfl⟩, HB.out⟩
    · have hb2 : decide (16384 < (m : Int)) = false := by simp; omega
      by_cases hsh : s.size - (p + digRun r + 1) < m
      · have hb3 : decide (((s.size - (p + digRun r + 1) : Nat) : Int) < (m : Int)) = true := by simp; omega
        go_wp2
        go_ret3
        exact ⟨.inr (.inl ⟨by omega, hsh, rfl⟩), HB.out⟩
      · have hb3 : decide (((s.size - (p + digRun r + 1) : Nat) : Int) < (m : Int)) = false := by simp; omega
        have HX : Hid ((s.extract (p + digRun r + 1) s.size).extract 0 m = ⟨((s.data.toList.drop (p + digRun r + 1)).take m).toArray⟩) := by
          show _ = _
          rw [← bytes_eta ((s.extract (p + digRun r + 1) s.size).extract 0 m), Lib.extract_data, Lib.extract_data, List.drop_zero, Nat.sub_zero, List.take_take, Nat.min_eq_left (by omega)]
        go_wp2_with fail
        refine (clone_any _ _ (Nat.le_trans (extract_size _ _ _) (Nat.le_trans (extract_size _ _ _) hs))).mono ?_
        rintro e w3 ⟨rfl, hb4⟩
        have HB3 : Hid (Below w'.heap.size w' w3) := below_two HB.out hb4
        clear hb4 HB
        go_wp2
        go_ret3
        refine ⟨.inr (.inr ⟨by omega, by omega, ?_⟩), HB3.out⟩
        rw [← HX.out]
        simp; omega
  · rw [HLL.out] at hr; cases hr
def txtTo (p : Nat) (r : List UInt8) : Nat := if (readTxt r).1 = 0 then p + (readTxt r).2.2 else 0
theorem readText_any (s : ByteArray) (p : Nat) (h : p ≤ s.size) (hs : s.size ≤ 281474976710656) (w : World) (ht : Tabs w) (r : List UInt8) (hr : s.data.toList.drop p = r) :
    Calls Tryz.prog 115 #[.string s, .int .i64 p] w fun e w' => e = .returned (.tuple #[.string ⟨(readTxt r).2.1.toArray⟩, .int .i64 (txtTo p r), .int .i64 (readTxt r).1]) ∧ Below w.heap.size w w' := by
  have hlen : r.length = s.size - p := by rw [← hr]; simp
  have hsm : s.size ≤ maxLen := by show s.size ≤ 9223372036854775807; omega
  by_cases he : eodErr r 58 = 0
  · obtain ⟨k0, k1, -, k3⟩ := eodz he
    have hne : r.take (digRun r) ≠ [] := take_ne k0 (by omega)
    have e0 : readTxt r = txtOf (Lib.atoiAll (r.take (digRun r))) (digRun r) r := by unfold readTxt; rw [he, if_neg (by simp)]
    rcases atoi_digits (r.take (digRun r)) (digRun_all r) hne with ⟨v, hv⟩ | hv
    · obtain ⟨v0, v1, -⟩ := atoi_once (r.take (digRun r)) (digRun_all r) hne (fun h1 => by rw [getD_take0 k0]; exact k3 (by rw [List.length_take] at h1; omega)) v hv
      obtain ⟨m, rfl⟩ : ∃ m : Nat, v = m := ⟨v.toNat, by omega⟩
      refine (rt_num s p hs r hr he h k1 (r.take (digRun r)) (by rw [hr]) m (by omega) hv w ht).mono ?_
      rw [hv] at e0
      simp only [txtOf, Int.toNat_natCast] at e0
      rintro e w' ⟨(⟨c1, rfl⟩ | ⟨c1, c2, rfl⟩ | ⟨c1, c2, rfl⟩), hb⟩
      · rw [if_pos (by omega)] at e0
        rw [show txtTo p r = 0 by unfold txtTo; rw [e0]; rfl, e0]
        exact ⟨rfl, hb⟩
      · rw [if_neg (by omega), if_pos (by omega)] at e0
        rw [show txtTo p r = 0 by unfold txtTo; rw [e0]; rfl, e0]
        exact ⟨rfl, hb⟩
      · rw [if_neg (by omega), if_neg (by omega)] at e0
        have e1 : s.data.toList.drop (p + digRun r + 1) = r.drop (digRun r + 1) := by rw [← hr, List.drop_drop]; congr 1
        rw [show txtTo p r = p + (digRun r + 1 + m) by unfold txtTo; rw [e0]; rfl, e0, e1]
        exact ⟨rfl, hb⟩
    · refine (rt_range s p hs r hr he h (r.take (digRun r)) (by rw [hr]) hv w ht).mono ?_
      rw [hv] at e0
      simp only [txtOf] at e0
      rintro e w' ⟨rfl, hb⟩
      rw [show txtTo p r = 0 by unfold txtTo; rw [e0]; rfl, e0]
      exact ⟨rfl, hb⟩
  · have e0 : readTxt r = (eodErr r 58, [], 0) := by unfold readTxt; rw [if_pos he]
    refine (rt_bad s p h hsm r hr _ rfl he w).mono ?_
    rintro e w' ⟨rfl, rfl⟩
    rw [show txtTo p r = 0 by unfold txtTo; rw [e0, if_neg he], e0]
    exact ⟨rfl, Below.refl _ _⟩
end Go.Proofs.YtekfcbedlokidaaGreatDoor.Lay
namespace Go.Proofs.YtekfcbedlokidaaGreatDoor.Ms
open Go Go.RowKit
set_option maxRecDepth 100000
theorem zeroDig : (Tryz.prog.info? 23).map (·.zero) = some (some (.agg (dg zeroD).toArray)) := by kernel_rfl
end Go.Proofs.YtekfcbedlokidaaGreatDoor.Ms
