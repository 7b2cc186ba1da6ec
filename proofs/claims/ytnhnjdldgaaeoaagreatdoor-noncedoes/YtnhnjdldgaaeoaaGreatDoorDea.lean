/-
  What eachLoose does with settle, and with a crash's tear.
-/
import Derived.Test.YtnhnjdldgaaeoaaGreatDoorDwr
namespace Go.Proofs.YtnhnjdldgaaeoaaGreatDoor
open Go Go.RowKit
set_option maxRecDepth 100000

section
variable {w w' : World} {d g : Nat} {D : Dk}

def setTo (S : List Sec) (k : Nat) : List Sec := (S.take k).map setS ++ S.drop k
theorem setTo_zero (S : List Sec) : setTo S 0 = S := by simp [setTo]
theorem setTo_end (S : List Sec) : setTo S S.length = S.map setS := by simp [setTo]
theorem setTo_split (S : List Sec) (k : Nat) (hk : k < S.length) : setTo S k = (S.take k).map setS ++ S[k] :: S.drop (k + 1) := by
  unfold setTo; rw [List.getElem_cons_drop]
theorem setTo_step (S : List Sec) (k : Nat) (hk : k < S.length) : setTo S (k + 1) = (S.take k).map setS ++ setS S[k] :: S.drop (k + 1) := by
  unfold setTo; rw [List.take_succ_eq_append_getElem hk]; simp only [List.map_append, List.map_cons, List.map_nil, List.append_assoc, List.singleton_append]
theorem setS_none {s : Sec} (h : s.old = none) : setS s = s := by cases s; simp_all [setS]
theorem ok_setS {S : List Sec} (h : AllOk S) : AllOk (S.map setS) := by
  intro s hs
  obtain ⟨x, hx, rfl⟩ := List.mem_map.1 hs
  exact setS_ok (h x hx)
theorem ok_take {S : List Sec} (h : AllOk S) (k : Nat) : AllOk (S.take k) := fun s hs => h s (List.mem_of_mem_take hs)

set_option maxHeartbeats 2000000 in
theorem each_settle (h : DiskAt w d g D) : Calls Tryz.prog 32 #[.pointer (some ⟨d, 0, none⟩), .func (.func 53) #[] #[]] w fun e w' =>
    e = .returned (.tuple #[]) ∧ DiskAt w' d g ⟨D.S.map setS, D.armed, D.down⟩ ∧ Kp [g] w w' := by
  have H := hid h
  have h0 := h.c0
  have hn512 := h.len.2
  have hne := h.ne
  obtain ⟨S, a, b⟩ := D
  simp only at *
  clear h
  have hr0 : Hid (w.heap[g]? = some (.cells (flatS (setTo S 0)).toArray 107)) := by show _ = _; rw [setTo_zero]; exact H.out.row
  generalize hn : S.length = n at *
  have HN := hid hn
  clear hn
  go_enter Tryz.func32, Tryz.ntmps32
  go_wp2
  go_loopw [10] (fun i w' => ∃ k : Nat, k ≤ n ∧ i = .int .i64 k ∧ Hid (w'.heap[g]? = some (.cells (flatS (setTo S k)).toArray 107)) ∧ Hid (Kp [g] w w')) (fun i _ => n - (intOf i).toNat)
  case atStart => exact ⟨0, by omega, rfl, hr0, Kp.refl _ _⟩
  case round =>
    obtain ⟨k, hk, rfl, HR, HK⟩ := hrel
    have hc0 : wr.cell? ⟨d, 0, none⟩ = some (.slice (some ⟨g, 0, none⟩) n n) := by
      rw [cell_of_row _ _ _ _ _ _ (HK.out.row H.out.obj (by simpa using Ne.symm hne))]
      show some (Value.slice (some ⟨g, 0, none⟩) S.length S.length) = _
      rw [HN.out]
    by_cases hlt : k < n
    · have d1 : decide ((k : Int) < (n : Int)) = true := by simpa using hlt
      have hkS : k < S.length := by rw [HN.out]; exact hlt
      have hsk := H.out.ok _ (List.getElem_mem hkS)
      have hoff : k * 129 = (flatS ((S.take k).map setS)).length := by
        rw [flatS_len (ok_setS (ok_take H.out.ok k))]; simp; omega
      rw [setTo_split S k hkS, flatS_mid] at HR
      have hcl : wr.cell? ⟨g, k * 129 + 128, none⟩ = some (.bool S[k].old.isSome) := by
        have h1 := hsk.1
        have h2 := hsk.2
        have h := row_cells HR.out (flatS ((S.take k).map setS) ++ (S[k].now.map cb ++ (oldB S[k]).map cb)) [.bool S[k].old.isSome] (flatS (S.drop (k + 1))) (by simp [secC]) (show k * 129 + 128 = _ by rw [List.length_append, ← hoff]; simp [h1, h2]) 0 _ rfl
        simpa using h
      have HS := hid (settle_any wr g (k * 129) _ _ S[k] hsk hoff HR.out)
      rw [← flatS_mid, ← setTo_step S k hkS] at HS
      cases hold : S[k].old with
      | none =>
        rw [hold] at hcl
        simp only [Option.isSome_none] at hcl
        have HR2 : Hid (wr.heap[g]? = some (.cells (flatS (setTo S (k + 1))).toArray 107)) := by
          show _ = _
          rw [setTo_step S k hkS, setS_none hold, flatS_mid]; exact HR.out
        clear HS HR hold hsk hoff
        go_wp2
        go_roundw
        case rel => exact ⟨k + 1, by omega, by go_num, HR2, HK⟩
        case measure => simp [intOf]; omega
      | some o =>
        rw [hold] at hcl
        simp only [Option.isSome_some] at hcl
        have HR2 : Hid ((wr.setRow g (flatS (setTo S (k + 1))).toArray).heap[g]? = some (.cells (flatS (setTo S (k + 1))).toArray 107)) := setRow_heap _ _ _ _ _ _ HR.out
        clear HR hold hsk hoff
        go_wp2_with (go_at_call 53; refine HS.out.mono ?_)
        rintro e w3 ⟨rfl, rfl⟩
        go_wp2
        go_roundw
        case rel => exact ⟨k + 1, by omega, by go_num, HR2, HK.out.setRow g _ (by simp)⟩
        case measure => simp [intOf]; omega
    · obtain rfl : k = n := by omega
      have hE : Hid (DiskAt wr d g ⟨S.map setS, a, b⟩) := by
        have h9 := HN.out
        refine ⟨?_, ?_, ok_setS H.out.ok, ?_, H.out.arm⟩
        · have := HK.out.row H.out.obj (by simpa using Ne.symm hne)
          simpa using this
        · have := HR.out; rw [← h9, setTo_end] at this; exact this
        · have := H.out.len; simpa using this
      go_wp2
      go_end0
      exact ⟨rfl, hE.out, HK.out⟩
end
end Go.Proofs.YtnhnjdldgaaeoaaGreatDoor
