/-
  What New, Arm, Read and Write do.
-/
import Derived.Test.YtnhnjdldgaaeoaaGreatDoorDsk
import Derived.Laws.MakeOwn
namespace Go.Proofs.YtnhnjdldgaaeoaaGreatDoor
open Go Go.RowKit
set_option maxRecDepth 100000

section
variable {w w' : World} {d g : Nat} {D : Dk}

def armE (D : Dk) (n : Int) : Int := if D.down then 12 else if n < 1 then 2 else 0
def armD (D : Dk) (n : Int) : Dk := if D.down then D else if n < 1 then D else ⟨D.S, n.toNat, D.down⟩
theorem arm_any (h : DiskAt w d g D) (n : Int) (hn : n < 9223372036854775808) : Calls Tryz.prog 11 #[.pointer (some ⟨d, 0, none⟩), .int .i64 n] w fun e w' => e = .returned (.int .i64 (armE D n)) ∧ DiskAt w' d g (armD D n) ∧ Kp [d] w w' := by
  have H := hid h
  have h1 := h.c1
  have hz1 := h.fz 1
  have h2 := h.c2
  clear h
  unfold armE armD
  cases hd : D.down with
  | true =>
    rw [hd] at h2
    simp only [if_true]
    go_enter Tryz.func11, Tryz.ntmps11
    go_wp2
    go_ret
    exact ⟨rfl, H.out, Kp.refl _ w⟩
  | false =>
    rw [hd] at h2
    simp only [Bool.false_eq_true, if_false]
    by_cases hn1 : n < 1
    · have d1 : decide (n < 1) = true := by simpa using hn1
      simp only [if_pos hn1]
      go_enter Tryz.func11, Tryz.ntmps11
      go_wp2
      go_ret
      exact ⟨rfl, H.out, Kp.refl _ w⟩
    · have d1 : decide (n < 1) = false := by simpa using hn1
      simp only [if_neg hn1]
      obtain ⟨a, rfl⟩ : ∃ a : Nat, n = a := ⟨n.toNat, by omega⟩
      have HP := hid (H.out.put1 a)
      have HT := hid (H.out.turned a D.down (by omega))
      have hD : Hid (D.down = false) := hd
      go_enter Tryz.func11, Tryz.ntmps11
      go_wp2
      go_ret
      refine ⟨rfl, ?_, (Kp.refl _ w).setCell _ _ (by simp)⟩
      rw [HP.out, ← hD.out]
      exact HT.out
theorem arm_nil (w : World) (n : Int) : Calls Tryz.prog 11 #[.pointer none, .int .i64 n] w fun e w' => e = .returned (.int .i64 1) ∧ w' = w := by
  go_enter Tryz.func11, Tryz.ntmps11
  go_wp2
  go_ret
  exact ⟨rfl, rfl⟩

def readE (D : Dk) (i : Int) : Int := if D.down then 12 else if hasB D.S.length i then 0 else 3
def readT (D : Dk) (i : Int) : List UInt8 := if D.down then [] else if hasB D.S.length i then (D.S.getD i.toNat sec0).now else []

theorem conv_seg {w : World} {g off : Nat} (l : List UInt8) (hc : ∀ j v, (l.map cb)[j]? = some v → w.cell? ⟨g, off + j, none⟩ = some v) : (convert 97 9 (.slice (some ⟨g, off, none⟩) l.length l.length)).run Tryz.prog w = .ok (.string ⟨l.toArray⟩) w := by
  refine run_convert_bytes_back w 97 9 5 ⟨g, off, none⟩ l.length l Tryz.underlying97 Tryz.underlying5 Tryz.underlying9 (fun j hj => ?_)
  rw [add_none, hc j _ (by rw [cb_at l j hj])]
  simp [bv, List.getD, hj]

theorem read_any (h : DiskAt w d g D) (i : Int) : Calls Tryz.prog 46 #[.pointer (some ⟨d, 0, none⟩), .int .i64 i] w fun e w' => e = .returned (.tuple #[.string ⟨(readT D i).toArray⟩, .int .i64 (readE D i)]) ∧ w' = w := by
  have H := hid h
  have h0 := h.c0
  have h2 := h.c2
  have HW := hid (wrong_any h)
  have HH := hid (has_any h i)
  unfold readE readT
  cases hd : D.down with
  | true =>
    rw [hd] at h2 HW
    clear h
    simp only [if_true]
    go_enter Tryz.func46, Tryz.ntmps46
    go_wp2_with (go_at_call 31; refine HW.out.mono ?_)
    rintro e w1 ⟨rfl, rfl⟩
    simp only [eDown, if_true]
    go_wp2
    go_ret2
    exact ⟨rfl, rfl⟩
  | false =>
    rw [hd] at h2 HW
    simp only [Bool.false_eq_true, if_false]
    cases hb : hasB D.S.length i with
    | false =>
      rw [hb] at HH
      clear h
      simp only [Bool.false_eq_true, if_false]
      go_enter Tryz.func46, Tryz.ntmps46
      go_wp2_with (go_at_call 31; refine HW.out.mono ?_)
      rintro e w1 ⟨rfl, rfl⟩
      simp only [eDown, Bool.false_eq_true, if_false]
      go_wp2_with (go_at_call 63; refine HH.out.mono ?_)
      rintro e w2 ⟨rfl, rfl⟩
      go_wp2
      go_ret2
      exact ⟨rfl, rfl⟩
    | true =>
      rw [hb] at HH
      unfold hasB at hb
      simp only [Bool.and_eq_true, decide_eq_true_eq] at hb
      obtain ⟨k, rfl⟩ : ∃ k : Nat, i = k := ⟨i.toNat, by omega⟩
      have hk : k < D.S.length := by omega
      simp only [if_true, Int.toNat_natCast]
      have hs := h.ok _ (List.getElem_mem hk)
      have eG : D.S.getD k sec0 = D.S[k] := by simp [List.getD, hk]
      rw [eG]
      have hrow : Hid (∀ j v, (D.S[k].now.map cb)[j]? = some v → w.cell? ⟨g, k * 129 + j, none⟩ = some v) :=
        row_cells h.row (flatS (D.S.take k)) (D.S[k].now.map cb) ((oldB D.S[k]).map cb ++ [.bool D.S[k].old.isSome] ++ flatS (D.S.drop (k + 1))) (by
          conv => lhs; rw [set_split hk, flatS_mid]
          simp [secC]) (by rw [flatS_len (fun s hs => h.ok s (List.mem_of_mem_take hs)), List.length_take, Nat.min_eq_left (by omega)]; omega)
      have hcv := conv_seg _ hrow.out
      have hl := hs.1
      rw [hl] at hcv
      have d1 : decide ((k : Int) < (D.S.length : Int)) = true := by simpa using hk
      have hle := h.len.2
      clear h hb eG hs hl
      generalize D.S[k].now = nw at *
      generalize D.S.length = n at *
      go_enter Tryz.func46, Tryz.ntmps46
      go_wp2_with (go_at_call 31; refine HW.out.mono ?_)
      rintro e w1 ⟨rfl, rfl⟩
      simp only [eDown, Bool.false_eq_true, if_false]
      go_wp2_with (go_at_call 63; refine HH.out.mono ?_)
      rintro e w2 ⟨rfl, rfl⟩
      go_wp2
      go_ret2
      exact ⟨rfl, rfl⟩
theorem read_nil (w : World) (i : Int) : Calls Tryz.prog 46 #[.pointer none, .int .i64 i] w fun e w' => e = .returned (.tuple #[.string ⟨#[]⟩, .int .i64 1]) ∧ w' = w := by
  go_enter Tryz.func46, Tryz.ntmps46
  go_wp2
  go_ret2
  exact ⟨rfl, rfl⟩
end
end Go.Proofs.YtnhnjdldgaaeoaaGreatDoor
