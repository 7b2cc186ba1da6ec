/-
  What the reference's Sync and Loose do.
-/
import Derived.Test.YtnhnjdldgaaeoaaGreatDoorRwr
namespace Go.Proofs.YtnhnjdldgaaeoaaGreatDoor
open Go Go.RowKit
set_option maxRecDepth 100000

section
variable {w w' : World} {r : Rx} {D : Dk}
theorem set_mid {α : Type} (l r : List α) (x y : α) : (l ++ x :: r).set l.length y = l ++ y :: r := by simp
theorem setTo_len (S : List Sec) (k : Nat) : (setTo S k).length = S.length := by simp [setTo]; omega
theorem setTo_at (S : List Sec) (k : Nat) (hk : k < S.length) : (setTo S k)[k]'(by rw [setTo_len]; exact hk) = S[k] := by
  unfold setTo
  rw [List.getElem_append_right (by simp; omega)]
  simp [Nat.min_eq_left (Nat.le_of_lt hk)]
theorem setTo_put (S : List Sec) (k : Nat) (hk : k < S.length) : (setTo S k).set k ⟨((setTo S k)[k]'(by rw [setTo_len]; exact hk)).now, none⟩ = setTo S (k + 1) := by
  rw [setTo_at S k hk, setTo_step S k hk, setTo_split S k hk]
  have e : k = ((S.take k).map setS).length := by simp; omega
  have h := set_mid ((S.take k).map setS) (S.drop (k + 1)) S[k] ⟨S[k].now, none⟩
  rw [← e] at h
  exact h

set_option maxHeartbeats 2000000 in
theorem rsync_any (h : RefAt w r D) : Calls Tryz.prog 40 #[.pointer (some ⟨r.x, 0, none⟩)] w fun e w' => e = .returned (.int .i64 (syncE D)) ∧ RefAt w' r (syncD D) ∧ Kp [r.x, r.gL, r.gO] w w' := by
  have H := hid h
  have h3 := h.c3
  unfold syncE syncD
  cases hd : D.down with
  | true =>
    rw [hd] at h3
    clear h
    simp only [if_true]
    go_enter Tryz.func40, Tryz.ntmps40
    go_wp2
    go_ret
    exact ⟨rfl, H.out, Kp.refl _ _⟩
  | false =>
    rw [hd] at h3
    have HC := hid (goes_any h hd)
    have hn512 := h.len.2
    clear h
    simp only [Bool.false_eq_true, if_false]
    have hS : Hid ((countD D).S = D.S) := countD_S D
    cases hc : (countD D).down with
    | true =>
      rw [hc] at HC
      simp only [if_true]
      go_enter Tryz.func40, Tryz.ntmps40
      go_wp2_with (go_at_call 59; refine HC.out.mono ?_; rintro e w2 ⟨rfl, h2, h3⟩; have H2 := hid h2; have H3 := hid h3; clear h2 h3)
      go_ret
      exact ⟨rfl, H2.out, H3.out.drop (by simp)⟩
    | false =>
      rw [hc] at HC
      simp only [Bool.false_eq_true, if_false, eDown]
      have hcd := hid hc
      obtain ⟨S, hSe⟩ : ∃ S, S = D.S := ⟨_, rfl⟩
      obtain ⟨a, hae⟩ : ∃ a, a = (countD D).armed := ⟨_, rfl⟩
      have HCD : Hid (countD D = ⟨S, a, false⟩) := by
        show _ = _
        rw [hSe, hae, ← hS.out, ← hcd.out]
      rw [HCD.out] at HC
      rw [← hSe, ← hae]
      rw [← hSe] at hn512
      clear hS hcd hc hSe hae HCD
      obtain ⟨n, hn⟩ : ∃ n, n = S.length := ⟨_, rfl⟩
      have HN := hid hn
      rw [← hn] at hn512
      clear hn
      go_enter Tryz.func40, Tryz.ntmps40
      go_wp2_with (go_at_call 59; refine HC.out.mono ?_; rintro e w2 ⟨rfl, h2, h3⟩; have H2 : Hid (RefAt w2 r ⟨setTo S 0, a, false⟩) := (by show RefAt _ _ _; rw [setTo_zero]; exact h2); have H3 : Hid (Kp [r.x, r.gL, r.gO] w w2) := h3.drop (by simp); clear h2 h3)
      go_loopw [3] (fun i w' => ∃ k : Nat, k ≤ n ∧ i = .int .i64 k ∧ Hid (RefAt w' r ⟨setTo S k, a, false⟩) ∧ Hid (Kp [r.x, r.gL, r.gO] w w')) (fun i _ => n - (intOf i).toNat)
      case atStart => exact ⟨0, by omega, rfl, H2, H3⟩
      case round =>
        clear H2 H3 HC
        obtain ⟨k, hk, rfl, HR, HK⟩ := hrel
        have hc1 := HR.out.c1
        simp only [setTo_len] at hc1
        rw [← HN.out] at hc1
        by_cases hlt : k < n
        · have d1 : decide ((k : Int) < (n : Int)) = true := by simpa using hlt
          have hkS : k < S.length := by rw [← HN.out]; exact hlt
          have hkT : k < (setTo S k).length := by rw [setTo_len]; exact hkS
          have ho := HR.out.old k hkT
          have hfz := HR.out.fzO k
          have HR2 : Hid (RefAt (wr.setCell ⟨r.gO, k, none⟩ (.string ⟨#[]⟩)) r ⟨setTo S (k + 1), a, false⟩) := by
            have h9 := HR.out.setO k hkT [] none rfl zer_len
            simp only at h9
            rw [setTo_put S k hkS] at h9
            exact h9
          have HK2 : Hid (Kp [r.x, r.gL, r.gO] w (wr.setCell ⟨r.gO, k, none⟩ (.string ⟨#[]⟩))) := HK.out.setCell _ _ (by simp)
          clear HR HK
          go_wp2
          go_roundw
          case rel => exact ⟨k + 1, by omega, by go_num, HR2, HK2⟩
          case measure => simp [intOf]; omega
        · obtain rfl : k = n := by omega
          have HE : Hid (RefAt wr r ⟨S.map setS, a, false⟩) := by
            have h9 := HR.out
            rw [HN.out, setTo_end] at h9
            exact h9
          clear HR
          go_wp2
          go_ret
          exact ⟨rfl, HE.out, HK.out⟩

theorem oldT_empty {s : Sec} (h : SecOk s) : (oldT s).isEmpty = !s.old.isSome := by
  obtain ⟨n, o⟩ := s
  cases o with
  | none => rfl
  | some o =>
    have h2 : o.length = 64 := h.2
    cases o with
    | nil => simp at h2
    | cons a b => rfl

set_option maxHeartbeats 2000000 in
theorem rloose_any (h : RefAt w r D) : Calls Tryz.prog 34 #[.pointer (some ⟨r.x, 0, none⟩)] w fun e w' => ∃ v, e = .returned v ∧ w'.ownsRow w.heap.size 3 1 v (looseN D.S).length (icells (looseN D.S)) ∧ Below w.heap.size w w' := by
  have H := hid h
  have h0 := h.c1
  have hn512 := h.len.2
  obtain ⟨S, a, b⟩ := D
  simp only at *
  clear h
  have hr0 : Hid (w.ownsRow w.heap.size 3 1 (.slice none 0 0) (loIdx 0 (S.take 0)).length (icells (loIdx 0 (S.take 0)))) := World.ownsRow_nil w _ _ _
  generalize hn : S.length = n at *
  have HN := hid hn
  clear hn
  go_enter Tryz.func34, Tryz.ntmps34
  go_wp2
  go_loopw [3, 4] (fun v i w' => ∃ k : Nat, k ≤ n ∧ i = .int .i64 k ∧ Hid (w'.ownsRow w.heap.size 3 1 v (loIdx 0 (S.take k)).length (icells (loIdx 0 (S.take k)))) ∧ Hid (Below w.heap.size w w')) (fun _ i _ => n - (intOf i).toNat)
  case atStart => exact ⟨0, by omega, rfl, hr0, Below.refl _ _⟩
  case round =>
    clear hr0
    obtain ⟨k, hk, rfl, HR, HB⟩ := hrel
    have hD : Hid (RefAt wr r ⟨S, a, b⟩) := H.out.below HB.out
    have hc0 : wr.cell? ⟨r.x, 1, none⟩ = some (.slice (some ⟨r.gO, 0, none⟩) n r.cO) := by have := hD.out.c1; rw [← HN.out]; exact this
    by_cases hlt : k < n
    · have d1 : decide ((k : Int) < (n : Int)) = true := by simpa using hlt
      have hkS : k < S.length := by rw [HN.out]; exact hlt
      have hsk := H.out.ok _ (List.getElem_mem hkS)
      have hcl : wr.cell? ⟨r.gO, k, none⟩ = some (.string ⟨(oldT S[k]).toArray⟩) := hD.out.old k hkS
      have hem := oldT_empty hsk
      have hst := loose_step S k hkS
      have hll := hid (loose_take_len S k)
      clear hsk
      cases hold : S[k].old with
      | none =>
        rw [hold] at hst hem
        simp only [List.append_nil] at hst
        simp only [Option.isSome_none, Bool.not_false] at hem
        have HR2 : Hid (wr.ownsRow w.heap.size 3 1 u3 (loIdx 0 (S.take (k + 1))).length (icells (loIdx 0 (S.take (k + 1))))) := by show World.ownsRow _ _ _ _ _ _ _; rw [hst]; exact HR.out
        clear hold hst HR
        generalize oldT S[k] = o at *
        go_wp2
        go_roundw
        case rel => exact ⟨k + 1, by omega, by go_num, HR2, HB⟩
        case measure => simp [intOf]; omega
      | some o' =>
        rw [hold] at hst hem
        simp only [Option.isSome_some, Bool.not_true] at hem
        have HST : Hid (loIdx 0 (S.take (k + 1)) = loIdx 0 (S.take k) ++ [k]) := hst
        have hsz : w.heap.size ≤ wr.heap.size := HB.out.size
        clear hold hst
        generalize loIdx 0 (S.take k) = L at *
        generalize oldT S[k] = o at *
        go_wp2_with (first | (at_builtin; refine wpList_push (W := wr) rfl (.tmp 22) (.tmp 24) 43 3 rfl _ 8 Tryz.underlying43 info3 rfl (by omega) w.heap.size u3 (.int .i64 k) L.length (icells L) rfl rfl HR.out rfl ?c1 hsz ?_))
        case c1 => have := hll.out; omega
        intro v3 w3 hr3 hg3 _
        have HB3 : Hid (Below w.heap.size w w3) := (HB.out.alloc hsz _).grown hg3 (by simp; omega) (own_ge HR.out)
        have HR3 : Hid (w3.ownsRow w.heap.size 3 1 v3 (loIdx 0 (S.take (k + 1))).length (icells (loIdx 0 (S.take (k + 1))))) := by
          show World.ownsRow _ _ _ _ _ _ _
          rw [HST.out]
          simpa [icells] using hr3
        clear hr3 hg3 HR HB HST
        go_wp2
        go_roundw
        case rel => exact ⟨k + 1, by omega, by go_num, HR3, HB3⟩
        case measure => simp [intOf]; omega
    · obtain rfl : k = n := by omega
      have HR2 : Hid (wr.ownsRow w.heap.size 3 1 u3 (looseN S).length (icells (looseN S))) := by
        have := HR.out
        rw [← HN.out, List.take_length] at this
        exact this
      clear HR
      go_wp2
      go_ret
      exact ⟨_, rfl, HR2.out, HB.out⟩
end
end Go.Proofs.YtnhnjdldgaaeoaaGreatDoor
