/-
  What eachLoose does with a crash's tear; Sync and Crash.
-/
import Derived.Test.YtnhnjdldgaaeoaaGreatDoorDea
namespace Go.Proofs.YtnhnjdldgaaeoaaGreatDoor
open Go Go.RowKit
set_option maxRecDepth 100000

section
variable {w w' : World} {d g : Nat} {D : Dk}

theorem flat_noint (S : List Sec) (x : Int) : Value.int .i64 x ∉ flatS S := by
  intro h
  unfold flatS at h
  obtain ⟨s, -, hs⟩ := List.mem_flatMap.1 h
  exact sec_noint s x hs
theorem tear_at (S : List Sec) (k : Nat) (hk : k < S.length) (ks : List Int) : tearAll (S.drop k) ks = (match S[k].old with | none => S[k] :: tearAll (S.drop (k + 1)) ks | some _ => tornS S[k] (nextK ks) :: tearAll (S.drop (k + 1)) ks.tail) := by
  rw [← List.getElem_cons_drop hk, tearAll]
  cases S[k].old <;> rfl

set_option maxHeartbeats 2000000 in
theorem each_tear (h : DiskAt w d g D) (c : Nat) (v : Value) (ks : List Int) (hc : w.heap[c]? = some (.cells #[v] 81)) (hk : IntsAt w v ks) :
    Calls Tryz.prog 32 #[.pointer (some ⟨d, 0, none⟩), .func (.func 33) #[.pointer (some ⟨c, 0, none⟩)] #[]] w fun e w' =>
    e = .returned (.tuple #[]) ∧ DiskAt w' d g ⟨tearAll D.S ks, D.armed, D.down⟩ ∧ Kp [g, c] w w' := by
  have H := hid h
  have h0 := h.c0
  have hn512 := h.len.2
  have hne := h.ne
  have hgc : g ≠ c := by rintro rfl; have := h.row.symm.trans hc; simp at this
  have hdc : d ≠ c := by rintro rfl; have := h.obj.symm.trans hc; simp at this
  obtain ⟨S, a, b⟩ := D
  simp only at *
  clear h
  have hr0 : Hid (w.heap[g]? = some (.cells (flatS ([] ++ S.drop 0)).toArray 107)) := by show _ = _; simpa using H.out.row
  have hv0 := hid hc
  have hk0 := hid hk
  have HE1 := hid hne
  have HE2 := hid hgc
  have HE3 := hid hdc
  clear hne hgc hdc
  generalize hn : S.length = n at *
  have HN := hid hn
  clear hn hc hk
  go_enter Tryz.func32, Tryz.ntmps32
  go_wp2
  go_loopw [10] (fun i w' => ∃ k : Nat, k ≤ n ∧ i = .int .i64 k ∧ Hid (∃ S1 ks' v', S1.length = k ∧ AllOk S1 ∧ w'.heap[g]? = some (.cells (flatS (S1 ++ S.drop k)).toArray 107) ∧ w'.heap[c]? = some (.cells #[v'] 81) ∧ IntsAt w' v' ks' ∧ S1 ++ tearAll (S.drop k) ks' = tearAll S ks) ∧ Hid (Kp [g, c] w w')) (fun i _ => n - (intOf i).toNat)
  case atStart => exact ⟨0, by omega, rfl, ⟨[], ks, v, rfl, fun s hs => by simp at hs, hr0.out, hv0.out, hk0.out, by simp⟩, Kp.refl _ _⟩
  case round =>
    obtain ⟨k, hk, rfl, HR, HK⟩ := hrel
    obtain ⟨S1, ks', v', hS1, hok1, hrow, hcv, hint, heq⟩ := HR.out
    have hc0 : wr.cell? ⟨d, 0, none⟩ = some (.slice (some ⟨g, 0, none⟩) n n) := by
      rw [cell_of_row _ _ _ _ _ _ (HK.out.row H.out.obj (by simp; exact ⟨Ne.symm HE1.out, HE3.out⟩))]
      show some (Value.slice (some ⟨g, 0, none⟩) S.length S.length) = _
      rw [HN.out]
    by_cases hlt : k < n
    · have d1 : decide ((k : Int) < (n : Int)) = true := by simpa using hlt
      have hkS : k < S.length := by rw [HN.out]; exact hlt
      have hsk := H.out.ok _ (List.getElem_mem hkS)
      have hoff : k * 129 = (flatS S1).length := by
        rw [flatS_len hok1, hS1]; omega
      have hsp : S1 ++ S.drop k = S1 ++ S[k] :: S.drop (k + 1) := by rw [List.getElem_cons_drop]
      have hni := flat_noint (S1 ++ S.drop k)
      rw [hsp, flatS_mid] at hrow hni
      rw [tear_at S k hkS] at heq
      have hcl : wr.cell? ⟨g, k * 129 + 128, none⟩ = some (.bool S[k].old.isSome) := by
        have h1 := hsk.1
        have h2 := hsk.2
        have h := row_cells hrow (flatS S1 ++ (S[k].now.map cb ++ (oldB S[k]).map cb)) [.bool S[k].old.isSome] (flatS (S.drop (k + 1))) (by simp [secC]) (show k * 129 + 128 = _ by rw [List.length_append, ← hoff]; simp [h1, h2]) 0 _ rfl
        simpa using h
      have HT := hid (tear_any hsk hoff HE2.out hrow hcv hint hni)
      rw [← flatS_mid] at HT
      cases hold : S[k].old with
      | none =>
        rw [hold] at hcl heq
        simp only [Option.isSome_none] at hcl
        have HR2 : Hid (∃ S1 ks' v', S1.length = k + 1 ∧ AllOk S1 ∧ wr.heap[g]? = some (.cells (flatS (S1 ++ S.drop (k + 1))).toArray 107) ∧ wr.heap[c]? = some (.cells #[v'] 81) ∧ IntsAt wr v' ks' ∧ S1 ++ tearAll (S.drop (k + 1)) ks' = tearAll S ks) := by
          refine ⟨S1 ++ [S[k]], ks', v', by simp [hS1], ?_, ?_, hcv, hint, ?_⟩
          · intro s hs
            rcases List.mem_append.1 hs with e | e
            · exact hok1 s e
            · simp at e; exact e ▸ hsk
          · rw [List.append_assoc, List.singleton_append, flatS_mid]; exact hrow
          · rw [List.append_assoc, List.singleton_append]; exact heq
        clear HT HR hold hsk hoff hrow hcv hint heq hni hsp hok1 hS1
        go_wp2
        go_roundw
        case rel => exact ⟨k + 1, by omega, by go_num, HR2, HK⟩
        case measure => simp [intOf]; omega
      | some o =>
        rw [hold] at hcl heq
        simp only [Option.isSome_some] at hcl
        have hokT := hid (tornS_ok hsk (nextK ks') (nextK_le ks'))
        have HOK := hid hok1
        have HEQ := hid heq
        have HS1 := hid hS1
        clear HR hold hsk hoff hrow hcv hint heq hni hsp hok1 hS1
        go_wp2_with (go_at_call 33; refine HT.out.mono ?_; rintro e w3 ⟨rfl, h3, h4, v3, h5, h6⟩)
        have HR2 : Hid (∃ S1 ks' v', S1.length = k + 1 ∧ AllOk S1 ∧ w3.heap[g]? = some (.cells (flatS (S1 ++ S.drop (k + 1))).toArray 107) ∧ w3.heap[c]? = some (.cells #[v'] 81) ∧ IntsAt w3 v' ks' ∧ S1 ++ tearAll (S.drop (k + 1)) ks' = tearAll S ks) := by
          refine ⟨S1 ++ [tornS S[k] (nextK ks')], ks'.tail, v3, by simp [HS1.out], ?_, ?_, h5, h6, ?_⟩
          · intro s hs
            rcases List.mem_append.1 hs with e | e
            · exact HOK.out s e
            · simp at e; exact e ▸ hokT.out
          · rw [List.append_assoc, List.singleton_append]; exact h3
          · rw [List.append_assoc, List.singleton_append]; exact HEQ.out
        have HK2 : Hid (Kp [g, c] w w3) := HK.out.trans h4
        clear h3 h4 h5 h6 HT HK
        go_wp2
        go_roundw
        case rel => exact ⟨k + 1, by omega, by go_num, HR2, HK2⟩
        case measure => simp [intOf]; omega
    · obtain rfl : k = n := by omega
      have hE : Hid (DiskAt wr d g ⟨tearAll S ks, a, b⟩) := by
        have h9 := HN.out
        have h8 : tearAll S ks = S1 := by rw [← heq, ← h9]; simp [tearAll]
        refine ⟨?_, ?_, tearAll_ok H.out.ok ks, ?_, H.out.arm⟩
        · have := HK.out.row H.out.obj (by simp; exact ⟨Ne.symm HE1.out, HE3.out⟩)
          simpa [tearAll_len] using this
        · rw [← h9] at hrow
          show _ = some (Obj.cells (flatS (tearAll S ks)).toArray 107 (0, 0))
          rw [h8]
          simpa using hrow
        · have := H.out.len; simpa [tearAll_len] using this
      clear HR hrow hcv hint heq hok1 hS1
      go_wp2
      go_end0
      exact ⟨rfl, hE.out, HK.out⟩
end
end Go.Proofs.YtnhnjdldgaaeoaaGreatDoor
