/-
  What the law SumPieces answers at any list of strings.
-/
import Derived.Test.YtcfkhahehdpjbaaDoorWapart
namespace Go.Proofs.YtcfkhahehdpjbaaDoor
open Go Go.RowKit
set_option maxRecDepth 100000

def TextsAt (w : World) (a : Option Addr) (len : Nat) (Xs : List ByteArray) : Prop :=
  Xs.length = len ∧ ∀ (j : Nat), j < len → ∃ b off, a = some ⟨b, off, none⟩ ∧ b < w.heap.size ∧ w.cell? ⟨b, off + j, none⟩ = some (.string (Xs.getD j ByteArray.empty))
theorem TextsAt.stays {w w' : World} {a : Option Addr} {len : Nat} {Xs : List ByteArray} (h : TextsAt w a len Xs) (hb : Below w.heap.size w w') : TextsAt w' a len Xs := by
  refine ⟨h.1, fun j hj => ?_⟩
  obtain ⟨b, off, ha, hlt, hc⟩ := h.2 j hj
  exact ⟨b, off, ha, Nat.lt_of_lt_of_le hlt hb.size, (hb.cell (p := ⟨b, off + j, none⟩) hlt).trans hc⟩

set_option maxHeartbeats 4000000 in
theorem sumPieces_any (a : Option Addr) (len cap : Nat) (Xs : List ByteArray) (w : World) (hK : Ktab w) (hX : TextsAt w a len Xs) : Calls Tryd.prog 5 #[.slice a len cap] w fun e w' => e = .returned (.bool true) ∧ Below w.heap.size w w' := by
  have HK : Hid (Ktab w) := hK
  have HX : Hid (TextsAt w a len Xs) := hX
  have hp : Hid (0 < w.heap.size) := hK.pos
  clear hK hX
  go_enter Tryd.func5, Tryd.ntmps5
  go_wp2_with (first | (go_at_call 12; refine (new_any _).mono ?_))
  rintro e w1 ⟨rfl, hw1⟩
  have HH1 : Hid (Has w1 w.heap.size []) := by show Has _ _ _; rw [hw1]; exact new_has w
  have HB1 : Hid (Below w.heap.size w w1) := by show Below _ _ _; rw [hw1]; exact below_a1 w _
  clear hw1
  go_wp2_with (first | (go_at_call 9; refine (awake_any _ (HK.out.stays HB1.out hp.out)).mono ?_))
  rintro e w2 ⟨rfl, hb2⟩
  have HH2 : Hid (Has w2 w.heap.size []) := HH1.out.kept hb2
  have HB2 : Hid (Below w.heap.size w w2) := HB1.out.trans (hb2.mono HB1.out.size)
  clear hb2 HH1 HB1
  go_wp2
  go_loopw [4, 5] (fun v i w' => ∃ (A : List UInt8) (k : Nat), v = .string ⟨A.toArray⟩ ∧ i = .int .i64 k ∧ k ≤ 20 ∧ A.length < 4000 ∧ Hid (Has w' w.heap.size A) ∧ Hid (Below w.heap.size w w')) (fun _ i _ => 20 - (intOf i).toNat)
  case atStart => exact ⟨[], 0, rfl, rfl, by omega, by simp, HH2, HB2⟩
  case round =>
    clear HH2 HB2
    obtain ⟨A, k, rfl, rfl, hk, hA, HH, HB⟩ := hrel
    have hs0 : (⟨A.toArray⟩ : ByteArray).size = A.length := rfl
    have HKr : Hid (Ktab wr) := HK.out.stays HB.out hp.out
    by_cases hall : k < len ∧ k < 20 ∧ A.length < 2000
    · obtain ⟨h1, h2, h3⟩ := hall
      obtain ⟨b, off, ha, hbl, hc⟩ := (HX.out.stays HB.out).2 k h1
      subst ha
      obtain ⟨l, hl⟩ : ∃ l, l = (Xs.getD k ByteArray.empty).data.toList := ⟨_, rfl⟩
      have hsl : Xs.getD k ByteArray.empty = ⟨l.toArray⟩ := by rw [hl, Array.toArray_toList]
      rw [hsl] at hc
      have HF := hid (few_any l)
      have hlx : (l.take 2000).length ≤ 2000 := by rw [List.length_take]; omega
      generalize l.take 2000 = x at *
      obtain ⟨A', hA'⟩ : ∃ A', A' = A ++ x := ⟨_, rfl⟩
      have hAl : Hid (A'.length < 4000) := by show _ < _; rw [hA', List.length_append]; omega
      have happ : (⟨A.toArray⟩ : ByteArray) ++ (⟨x.toArray⟩ : ByteArray) = ⟨A'.toArray⟩ := by rw [hA']; exact ByteArray.mk_append_mk A x
      have HADD : Hid (Calls Tryd.prog 13 #[.pointer (some ⟨w.heap.size, 0, none⟩), .string ⟨x.toArray⟩] wr fun e w' => e = .returned (.bool true) ∧ Has w' w.heap.size A' ∧ Touch w.heap.size wr w') := by
        show Calls _ _ _ _ _
        rw [hA']
        exact add_any w.heap.size A x (by omega) wr HH.out HKr.out hp.out
      have hs1 : (⟨A'.toArray⟩ : ByteArray).size = A'.length := rfl
      have HM : Hid (∀ (p : Nat) (W : World), Has W p A' → Ktab W → Calls Tryd.prog 15 #[.pointer (some ⟨p, 0, none⟩)] W fun e w' => e = .returned (.agg ((sha A').map cb).toArray) ∧ Below W.heap.size W w') := fun p W h k => sumM_any p _ (by have := hAl.out; omega) W h k
      have HE := same25 A'
      generalize ((sha A').map cb).toArray = X at *
      have hsx : (⟨x.toArray⟩ : ByteArray).size = x.length := rfl
      have hbx : (x.length : Int) ≤ 2000 := by omega
      have hbA : (A.length : Int) < 2000 := by omega
      clear hl hsl hA'
      go_wp2_with (first | (go_at_call 8; refine (HF.out _).mono ?_; rintro e W ⟨rfl, rfl⟩) | (go_at_call 13; refine Calls.mono HADD.out ?_))
      rintro e w3 ⟨rfl, hh3, ht3⟩
      have HH3 : Hid (Has w3 w.heap.size A') := hh3
      have HB3 : Hid (Below w.heap.size w w3) := HB.out.trans (ht3.below (Nat.le_refl _) HB.out.size)
      clear hh3 ht3 HADD HF HH HB HKr
      go_wp2_with (first | (go_at_call 14; refine (len_any _ A' _ HH3.out).mono ?_; rintro e W ⟨rfl, rfl⟩) | (go_at_call 15; refine (HM.out _ _ HH3.out (HK.out.stays HB3.out hp.out)).mono ?_))
      rintro e w4 ⟨rfl, hb4⟩
      have HH4 : Hid (Has w4 w.heap.size A') := HH3.out.kept hb4
      have HB4 : Hid (Below w.heap.size w w4) := HB3.out.trans (hb4.mono HB3.out.size)
      clear hb4 HH3 HB3
      go_wp2_with (first | (go_at_call 15; refine (HM.out _ _ HH4.out (HK.out.stays HB4.out hp.out)).mono ?_))
      rintro e w5 ⟨rfl, hb5⟩
      have HH5 : Hid (Has w5 w.heap.size A') := HH4.out.kept hb5
      have HB5 : Hid (Below w.heap.size w w5) := HB4.out.trans (hb5.mono HB4.out.size)
      clear hb5 HH4 HB4
      go_wp2
      go_roundw
      case rel => exact ⟨A', k + 1, rfl, by go_num, by omega, hAl.out, HH5, HB5⟩
      case measure => simp [intOf]; omega
    · have HM : Hid (∀ (p : Nat) (W : World), Has W p A → Ktab W → Calls Tryd.prog 15 #[.pointer (some ⟨p, 0, none⟩)] W fun e w' => e = .returned (.agg ((sha A).map cb).toArray) ∧ Below W.heap.size W w') := fun p W h k => sumM_any p _ (by omega) W h k
      have HS : Hid (∀ W, Ktab W → Calls Tryd.prog 10 #[.string ⟨A.toArray⟩] W fun e w' => e = .returned (.agg ((sha A).map cb).toArray) ∧ Below W.heap.size W w') := fun W k => sum_any A (by omega) W k
      have HR : Hid (∀ W, Calls Tryd.prog 11 #[.string ⟨A.toArray⟩] W fun e w' => e = .returned (.agg ((sha A).map cb).toArray) ∧ Below W.heap.size W w') := fun W => rsum_any A (by omega) W
      have HE := same25 A
      generalize ((sha A).map cb).toArray = X at *
      have hcs : (¬ k < len) ∨ (k < len ∧ ¬ k < 20) ∨ (k < len ∧ k < 20 ∧ ¬ A.length < 2000) := by omega
      clear hall
      rcases hcs with h1 | ⟨h1, h2⟩ | ⟨h1, h2, h3⟩
      · go_wp2_with (first | (go_at_call 15; refine (HM.out _ _ HH.out HKr.out).mono ?_))
        rintro e w3 ⟨rfl, hb3⟩
        have HH3 : Hid (Has w3 w.heap.size A) := HH.out.kept hb3
        have HB3 : Hid (Below w.heap.size w w3) := HB.out.trans (hb3.mono HB.out.size)
        clear hb3 HH HB HKr
        go_wp2_with (first | (go_at_call 11; refine (HR.out _).mono ?_))
        rintro e w4 ⟨rfl, hb4⟩
        have HH4 : Hid (Has w4 w.heap.size A) := HH3.out.kept hb4
        have HB4 : Hid (Below w.heap.size w w4) := HB3.out.trans (hb4.mono HB3.out.size)
        clear hb4 HH3 HB3
        go_wp2_with (first | (go_at_call 10; refine (HS.out _ (HK.out.stays HB4.out hp.out)).mono ?_))
        rintro e w5 ⟨rfl, hb5⟩
        have HH5 : Hid (Has w5 w.heap.size A) := HH4.out.kept hb5
        have HB5 : Hid (Below w.heap.size w w5) := HB4.out.trans (hb5.mono HB4.out.size)
        clear hb5 HH4 HB4
        go_wp2_with (first | (go_at_call 15; refine (HM.out _ _ HH5.out (HK.out.stays HB5.out hp.out)).mono ?_))
        rintro e w6 ⟨rfl, hb6⟩
        have HB6 : Hid (Below w.heap.size w w6) := HB5.out.trans (hb6.mono HB5.out.size)
        clear hb6 HH5 HB5
        go_wp2
        go_ret
        exact ⟨rfl, HB6.out⟩
      · have d2 : decide ((k : Int) < 20) = false := by simp; omega
        clear h2
        go_wp2_with (first | (go_at_call 15; refine (HM.out _ _ HH.out HKr.out).mono ?_))
        rintro e w3 ⟨rfl, hb3⟩
        have HH3 : Hid (Has w3 w.heap.size A) := HH.out.kept hb3
        have HB3 : Hid (Below w.heap.size w w3) := HB.out.trans (hb3.mono HB.out.size)
        clear hb3 HH HB HKr
        go_wp2_with (first | (go_at_call 11; refine (HR.out _).mono ?_))
        rintro e w4 ⟨rfl, hb4⟩
        have HH4 : Hid (Has w4 w.heap.size A) := HH3.out.kept hb4
        have HB4 : Hid (Below w.heap.size w w4) := HB3.out.trans (hb4.mono HB3.out.size)
        clear hb4 HH3 HB3
        go_wp2_with (first | (go_at_call 10; refine (HS.out _ (HK.out.stays HB4.out hp.out)).mono ?_))
        rintro e w5 ⟨rfl, hb5⟩
        have HH5 : Hid (Has w5 w.heap.size A) := HH4.out.kept hb5
        have HB5 : Hid (Below w.heap.size w w5) := HB4.out.trans (hb5.mono HB4.out.size)
        clear hb5 HH4 HB4
        go_wp2_with (first | (go_at_call 15; refine (HM.out _ _ HH5.out (HK.out.stays HB5.out hp.out)).mono ?_))
        rintro e w6 ⟨rfl, hb6⟩
        have HB6 : Hid (Below w.heap.size w w6) := HB5.out.trans (hb6.mono HB5.out.size)
        clear hb6 HH5 HB5
        go_wp2
        go_ret
        exact ⟨rfl, HB6.out⟩
      · have d3 : decide ((A.length : Int) < 2000) = false := by simp; omega
        clear h3
        go_wp2_with (first | (go_at_call 15; refine (HM.out _ _ HH.out HKr.out).mono ?_))
        rintro e w3 ⟨rfl, hb3⟩
        have HH3 : Hid (Has w3 w.heap.size A) := HH.out.kept hb3
        have HB3 : Hid (Below w.heap.size w w3) := HB.out.trans (hb3.mono HB.out.size)
        clear hb3 HH HB HKr
        go_wp2_with (first | (go_at_call 11; refine (HR.out _).mono ?_))
        rintro e w4 ⟨rfl, hb4⟩
        have HH4 : Hid (Has w4 w.heap.size A) := HH3.out.kept hb4
        have HB4 : Hid (Below w.heap.size w w4) := HB3.out.trans (hb4.mono HB3.out.size)
        clear hb4 HH3 HB3
        go_wp2_with (first | (go_at_call 10; refine (HS.out _ (HK.out.stays HB4.out hp.out)).mono ?_))
        rintro e w5 ⟨rfl, hb5⟩
        have HH5 : Hid (Has w5 w.heap.size A) := HH4.out.kept hb5
        have HB5 : Hid (Below w.heap.size w w5) := HB4.out.trans (hb5.mono HB4.out.size)
        clear hb5 HH4 HB4
        go_wp2_with (first | (go_at_call 15; refine (HM.out _ _ HH5.out (HK.out.stays HB5.out hp.out)).mono ?_))
        rintro e w6 ⟨rfl, hb6⟩
        have HB6 : Hid (Below w.heap.size w w6) := HB5.out.trans (hb6.mono HB5.out.size)
        clear hb6 HH5 HB5
        go_wp2
        go_ret
        exact ⟨rfl, HB6.out⟩

end Go.Proofs.YtcfkhahehdpjbaaDoor
