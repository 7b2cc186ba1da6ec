/-
  What Loose tells.
-/
import Derived.Test.YtjledbgoknclcaaDsy
namespace Go.Proofs.Ytjledbgoknclcaa
open Go Go.RowKit
set_option maxRecDepth 100000

section
variable {w w' : World} {d g : Nat} {D : Dk}

def looseN (S : List Sec) : List Nat := loIdx 0 S
theorem loose_step (S : List Sec) (k : Nat) (hk : k < S.length) : loIdx 0 (S.take (k + 1)) = loIdx 0 (S.take k) ++ (match S[k].old with | none => [] | some _ => [k]) := by
  rw [List.take_succ_eq_append_getElem hk, loIdx_snoc]
  simp only [List.length_take, Nat.zero_add, Nat.min_eq_left (Nat.le_of_lt hk)]
  cases S[k].old <;> rfl
theorem loose_take_len (S : List Sec) (k : Nat) : (loIdx 0 (S.take k)).length ≤ k := Nat.le_trans (loIdx_len 0 _) (by simp; omega)

set_option maxHeartbeats 2000000 in
theorem loose_any (h : DiskAt w d g D) : Calls Try.prog 15 #[.pointer (some ⟨d, 0, none⟩)] w fun e w' => ∃ v, e = .returned v ∧ w'.ownsRow w.heap.size 3 1 v (looseN D.S).length (icells (looseN D.S)) ∧ Below w.heap.size w w' := by
  have H := hid h
  have HS := hid (sectors_any h)
  have h0 := h.c0
  have hn512 := h.len.2
  obtain ⟨S, a, b⟩ := D
  simp only at *
  clear h
  have hr0 : Hid (w.ownsRow w.heap.size 3 1 (.slice none 0 0) (loIdx 0 (S.take 0)).length (icells (loIdx 0 (S.take 0)))) := World.ownsRow_nil w _ _ _
  generalize hn : S.length = n at *
  have HN := hid hn
  clear hn
  go_enter Try.func15, Try.ntmps15
  go_wp2_with (go_at_call 13; refine HS.out.mono ?_; rintro e w1 ⟨rfl, hw1⟩; subst w1)
  go_loopw [3, 7] (fun v i w' => ∃ k : Nat, k ≤ n ∧ i = .int .i64 k ∧ Hid (w'.ownsRow w.heap.size 3 1 v (loIdx 0 (S.take k)).length (icells (loIdx 0 (S.take k)))) ∧ Hid (Below w.heap.size w w')) (fun _ i _ => n - (intOf i).toNat)
  case atStart => exact ⟨0, by omega, rfl, hr0, Below.refl _ _⟩
  case round =>
    clear hr0
    obtain ⟨k, hk, rfl, HR, HB⟩ := hrel
    have hD : Hid (DiskAt wr d g ⟨S, a, b⟩) := H.out.kept (X := []) (Kp.of HB.out) (by simp) (by simp)
    have hc0 : wr.cell? ⟨d, 0, none⟩ = some (.slice (some ⟨g, 0, none⟩) n n) := by have := hD.out.c0; rw [← HN.out]; exact this
    by_cases hlt : k < n
    · have d1 : decide ((k : Int) < (n : Int)) = true := by simpa using hlt
      have hkS : k < S.length := by rw [HN.out]; exact hlt
      have hsk := H.out.ok _ (List.getElem_mem hkS)
      have hrow := hD.out.row
      have hoff := row_off hD.out.ok k (by show k ≤ S.length; omega)
      simp only at hrow hoff
      rw [row_at S k hkS] at hrow
      have hcl : wr.cell? ⟨g, k * 129 + 128, none⟩ = some (.bool S[k].old.isSome) := by
        have h1 := hsk.1
        have h2 := hsk.2
        have h := row_cells hrow (flatS (S.take k) ++ (S[k].now.map cb ++ (oldB S[k]).map cb)) [.bool S[k].old.isSome] (flatS (S.drop (k + 1))) (by simp [secC]) (show k * 129 + 128 = _ by rw [List.length_append, ← hoff]; simp [h1, h2]) 0 _ rfl
        simpa using h
      have hst := loose_step S k hkS
      have hll := hid (loose_take_len S k)
      clear hrow hoff hsk
      cases hold : S[k].old with
      | none =>
        rw [hold] at hcl hst
        simp only [Option.isSome_none] at hcl
        simp only [List.append_nil] at hst
        have HR2 : Hid (wr.ownsRow w.heap.size 3 1 u3 (loIdx 0 (S.take (k + 1))).length (icells (loIdx 0 (S.take (k + 1))))) := by show World.ownsRow _ _ _ _ _ _ _; rw [hst]; exact HR.out
        clear hold hst HR
        go_wp2
        go_roundw
        case rel => exact ⟨k + 1, by omega, by go_num, HR2, HB⟩
        case measure => simp [intOf]; omega
      | some o =>
        rw [hold] at hcl hst
        simp only [Option.isSome_some] at hcl
        have HST : Hid (loIdx 0 (S.take (k + 1)) = loIdx 0 (S.take k) ++ [k]) := hst
        have hsz : w.heap.size ≤ wr.heap.size := HB.out.size
        clear hold hst
        generalize loIdx 0 (S.take k) = L at *
        go_wp2_with (first | (at_builtin; (refine wpList_push (W := wr) rfl (.tmp 18) (.tmp 20) 36 3 rfl _ 8 Try.underlying36 info3 rfl (by omega) w.heap.size u3 (.int .i64 k) L.length (icells L) rfl rfl HR.out rfl ?c1 hsz ?_)))
        case c1 => have := hll.out; omega
        intro v3 w3 hr3 hg3 _
        have HB3 : Hid (Below w.heap.size w w3) := (HB.out.alloc hsz _).grown hg3 (by simp; omega) (own_ge HR.out)
        have HR3 : Hid (w3.ownsRow w.heap.size 3 1 v3 (loIdx 0 (S.take (k + 1))).length (icells (loIdx 0 (S.take (k + 1))))) := by
          show World.ownsRow _ _ _ _ _ _ _
          rw [HST.out]
          simpa [icells] using hr3
        clear hr3 hg3 HR HB HST
        go_wp2
        go_roundw
        case rel => exact ⟨k + 1, by omega, by go_num, HR3, HB3⟩
        case measure => simp [intOf]; omega
    · obtain rfl : k = n := by omega
      have HR2 : Hid (wr.ownsRow w.heap.size 3 1 u3 (looseN S).length (icells (looseN S))) := by
        have := HR.out
        rw [← HN.out, List.take_length] at this
        exact this
      clear HR
      go_wp2
      go_ret
      exact ⟨_, rfl, HR2.out, HB.out⟩
theorem loose_nil (w : World) : Calls Try.prog 15 #[.pointer none] w fun e w' => e = .returned (.slice none 0 0) ∧ w' = w := by
  go_enter Try.func15, Try.ntmps15
  go_wp2
  go_loopw [3, 7] (fun v i w' => v = .slice none 0 0 ∧ i = .int .i64 0 ∧ w' = w) (fun _ _ _ => 0)
  case atStart => exact ⟨rfl, rfl, rfl⟩
  case round =>
    obtain ⟨rfl, rfl, hw⟩ := hrel
    subst wr
    go_wp2
    go_ret
    exact ⟨rfl, rfl⟩
end
end Go.Proofs.Ytjledbgoknclcaa
