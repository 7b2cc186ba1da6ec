/-
  What Write does.
-/
import Derived.Test.YtnhnjdldgaaeoaaGreatDoorDnw
namespace Go.Proofs.YtnhnjdldgaaeoaaGreatDoor
open Go Go.RowKit
set_option maxRecDepth 100000

section
variable {w w' : World} {d g : Nat} {D : Dk}

def putS (S : List Sec) (k : Nat) (t : List UInt8) : List Sec := S.set k (wrS (S.getD k sec0) t)
def writeE (D : Dk) (i : Int) (t : List UInt8) : Int := if D.down then 12 else if hasB D.S.length i then (if t.length ≤ 64 then eDown (countD D).down else 4) else 3
def writeD (D : Dk) (i : Int) (t : List UInt8) : Dk := if D.down then D else if hasB D.S.length i then (if t.length ≤ 64 then countD ⟨putS D.S i.toNat t, D.armed, D.down⟩ else D) else D
theorem countD_down (D : Dk) (S : List Sec) : (countD ⟨S, D.armed, D.down⟩).down = (countD D).down := by unfold countD; split <;> rfl

theorem row_at (S : List Sec) (k : Nat) (hk : k < S.length) : flatS S = flatS (S.take k) ++ secC S[k] ++ flatS (S.drop (k + 1)) := by
  conv => lhs; rw [set_split hk, flatS_mid]
theorem row_off {S : List Sec} (h : AllOk S) (k : Nat) (hk : k ≤ S.length) : k * 129 = (flatS (S.take k)).length := by
  rw [flatS_len (fun s hs => h s (List.mem_of_mem_take hs)), List.length_take, Nat.min_eq_left hk]; omega
theorem row_set (S : List Sec) (k : Nat) (hk : k < S.length) (x : Sec) : flatS (S.take k) ++ secC x ++ flatS (S.drop (k + 1)) = flatS (S.set k x) := by
  rw [set_as hk, flatS_mid]

theorem write_any (h : DiskAt w d g D) (i : Int) (t : List UInt8) : Calls Tryz.prog 56 #[.pointer (some ⟨d, 0, none⟩), .int .i64 i, .string ⟨t.toArray⟩] w fun e w' =>
    e = .returned (.int .i64 (writeE D i t)) ∧ DiskAt w' d g (writeD D i t) ∧ Kp [d, g] w w' := by
  have H := hid h
  have h0 := h.c0
  have HW := hid (wrong_any h)
  have HH := hid (has_any h i)
  have hts : (⟨t.toArray⟩ : ByteArray).size = t.length := rfl
  unfold writeE writeD
  cases hd : D.down with
  | true =>
    rw [hd] at HW
    clear h
    simp only [if_true]
    go_enter Tryz.func56, Tryz.ntmps56
    go_wp2_with (go_at_call 31; refine HW.out.mono ?_)
    rintro e w1 ⟨rfl, rfl⟩
    simp only [eDown, if_true]
    go_wp2
    go_ret
    exact ⟨rfl, H.out, Kp.refl _ _⟩
  | false =>
    rw [hd] at HW
    simp only [Bool.false_eq_true, if_false]
    cases hb : hasB D.S.length i with
    | false =>
      rw [hb] at HH
      clear h
      simp only [Bool.false_eq_true, if_false]
      go_enter Tryz.func56, Tryz.ntmps56
      go_wp2_with (go_at_call 31; refine HW.out.mono ?_)
      rintro e w1 ⟨rfl, rfl⟩
      simp only [eDown, Bool.false_eq_true, if_false]
      go_wp2_with (go_at_call 63; refine HH.out.mono ?_)
      rintro e w2 ⟨rfl, rfl⟩
      go_wp2
      go_ret
      exact ⟨rfl, H.out, Kp.refl _ _⟩
    | true =>
      rw [hb] at HH
      simp only [if_true]
      by_cases ht : t.length ≤ 64
      · simp only [if_pos ht]
        have d64 : decide ((64 : Int) < (t.length : Int)) = false := by simp; omega
        unfold hasB at hb
        simp only [Bool.and_eq_true, decide_eq_true_eq] at hb
        obtain ⟨k, rfl⟩ : ∃ k : Nat, i = k := ⟨i.toNat, by omega⟩
        have hk : k < D.S.length := by omega
        simp only [Int.toNat_natCast]
        have hs := h.ok _ (List.getElem_mem hk)
        have eG : putS D.S k t = D.S.set k (wrS D.S[k] t) := by unfold putS; simp [List.getD, hk]
        rw [eG]
        have HF := hid (fill_any w g (k * 129) (flatS (D.S.take k)) (flatS (D.S.drop (k + 1))) D.S[k] t hs ht (row_off h.ok k (by omega)) (by rw [← row_at]; exact h.row))
        have hn : Hid (DiskAt (w.setRow g (flatS (D.S.set k (wrS D.S[k] t))).toArray) d g ⟨D.S.set k (wrS D.S[k] t), D.armed, false⟩) := by
          refine ⟨?_, setRow_heap _ _ _ _ _ _ h.row, h.ok.set k (wrS_ok hs t ht), by simpa using h.len, h.arm⟩
          have := (setRow_other w g d (flatS (D.S.set k (wrS D.S[k] t))).toArray (Ne.symm h.ne)).trans h.obj
          rw [hd] at this
          simpa using this
        have HC := hid (count_any hn.out rfl)
        have HD : Hid ((countD ⟨D.S.set k (wrS D.S[k] t), D.armed, false⟩).down = (countD D).down) := by have := countD_down D (D.S.set k (wrS D.S[k] t)); rw [hd] at this; exact this
        rw [row_set _ _ hk] at HF
        rw [HD.out] at HC
        have d1 : decide ((k : Int) < (D.S.length : Int)) = true := by simpa using hk
        clear h hb eG hs hn HD
        generalize D.S.set k (wrS D.S[k] t) = S2 at *
        generalize eDown (countD D).down = eD at *
        generalize D.S.length = n at *
        go_enter Tryz.func56, Tryz.ntmps56
        go_wp2_with (go_at_call 31; refine HW.out.mono ?_)
        rintro e w1 ⟨rfl, rfl⟩
        simp only [eDown, Bool.false_eq_true, if_false]
        go_wp2_with (go_at_call 63; refine HH.out.mono ?_)
        rintro e w2 ⟨rfl, rfl⟩
        go_wp2_with (go_at_call 71; refine HF.out.mono ?_)
        rintro e w3 ⟨rfl, rfl⟩
        go_wp2_with (go_at_call 70; refine HC.out.mono ?_)
        rintro e w4 ⟨rfl, h4, h5⟩
        have H4 := hid h4
        have H5 := hid h5
        clear h4 h5
        go_wp2
        go_ret
        exact ⟨rfl, H4.out, ((Kp.refl _ _).setRow g _ (by simp)).trans (H5.out.drop (by simp))⟩
      · simp only [if_neg ht]
        have d64 : decide ((64 : Int) < (t.length : Int)) = true := by simp; omega
        clear h
        go_enter Tryz.func56, Tryz.ntmps56
        go_wp2_with (go_at_call 31; refine HW.out.mono ?_)
        rintro e w1 ⟨rfl, rfl⟩
        simp only [eDown, Bool.false_eq_true, if_false]
        go_wp2_with (go_at_call 63; refine HH.out.mono ?_)
        rintro e w2 ⟨rfl, rfl⟩
        go_wp2
        go_ret
        exact ⟨rfl, H.out, Kp.refl _ _⟩
theorem write_nil (w : World) (i : Int) (s : ByteArray) : Calls Tryz.prog 56 #[.pointer none, .int .i64 i, .string s] w fun e w' => e = .returned (.int .i64 1) ∧ w' = w := by
  go_enter Tryz.func56, Tryz.ntmps56
  go_wp2
  go_ret
  exact ⟨rfl, rfl⟩
end
end Go.Proofs.YtnhnjdldgaaeoaaGreatDoor
