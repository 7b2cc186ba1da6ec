/-
  A crash's numbers; what next and tear do.
-/
import Derived.Test.YtnhnjdldgaaeoaaGreatDoorSeg
import Derived.Test.YtnhnjdldgaaeoaaGreatDoorFrm
import Derived.RegionTactic
import Derived.ChangeAlike
import Derived.Laws.IdiomCopy
namespace Go.Proofs.YtnhnjdldgaaeoaaGreatDoor
open Go Go.RowKit
set_option maxRecDepth 100000

/-- The slice v holds just these numbers. -/
def IntsAt (w : World) (v : Value) (ks : List Int) : Prop :=
  ∃ ao cap, v = .slice ao ks.length cap ∧ ks.length ≤ cap ∧ (ks ≠ [] → ∃ b off, ao = some ⟨b, off, none⟩ ∧ ∀ j x, ks[j]? = some x → w.cell? ⟨b, off + j, none⟩ = some (.int .i64 x))

theorem IntsAt.of_blocks {w w' : World} {v : Value} {ks : List Int} (h : IntsAt w v ks) (hw : ∀ b, (∃ off x, w.cell? ⟨b, off, none⟩ = some (Value.int .i64 x)) → w'.heap[b]? = w.heap[b]?) : IntsAt w' v ks := by
  obtain ⟨ao, cap, hv, hl, hk⟩ := h
  refine ⟨ao, cap, hv, hl, fun hne => ?_⟩
  obtain ⟨b, off, hao, hc⟩ := hk hne
  refine ⟨b, off, hao, fun j x hj => ?_⟩
  have h0 := hc j x hj
  have hb := hw b ⟨_, _, h0⟩
  rw [← h0]
  simp only [World.cell?, hb]

theorem next_any {w : World} {c : Nat} {v : Value} {ks : List Int} (hc : w.heap[c]? = some (.cells #[v] 81)) (hk : IntsAt w v ks) :
    Calls Tryz.prog 52 #[.pointer (some ⟨c, 0, none⟩)] w fun e w' => e = .returned (.int .i64 (nextK ks : Int)) ∧ ∃ v', w' = w.setRow c #[v'] ∧ IntsAt w' v' ks.tail := by
  have hld : w.cell? ⟨c, 0, none⟩ = some v := by rw [cell_of_row _ _ _ _ _ _ hc]; rfl
  have hfz : w.frozen? ⟨c, 0, none⟩ = false := by simp [World.frozen?, hc]
  have HC := hid hc
  clear hc
  cases ks with
  | nil =>
    obtain ⟨ao, cap, rfl, hl, hk⟩ := hk
    have hln : (([] : List Int).length : Int) = 0 := rfl
    go_enter Tryz.func52, Tryz.ntmps52
    go_wp2
    go_ret
    exact ⟨rfl, _, (setRow_self w c _ 81 (0, 0) HC.out).symm, ao, cap, rfl, hl, fun h => absurd rfl h⟩
  | cons n r =>
    obtain ⟨ao, cap, rfl, hl, hk⟩ := hk
    obtain ⟨b, off, rfl, hcl⟩ := hk (by simp)
    have h0 : w.cell? ⟨b, off, none⟩ = some (.int .i64 n) := hcl 0 n rfl
    have HCL := hid hcl
    have hlen : (n :: r).length = r.length + 1 := rfl
    rw [hlen] at *
    clear hcl
    have HW : Hid (∀ v', w.setCell ⟨c, 0, none⟩ v' = w.setRow c #[v']) := fun v' => setCell_eq_setRow w c 0 _ 81 (0, 0) v' HC.out
    have HI : Hid (∀ ao' cap', r.length ≤ cap' → (r ≠ [] → ao' = some ⟨b, off + 1, none⟩) → IntsAt (w.setRow c #[.slice ao' r.length cap']) (.slice ao' r.length cap') r) := by
      intro ao' cap' h1 h2
      refine ⟨ao', cap', rfl, h1, fun hne => ⟨b, off + 1, h2 hne, fun j x hj => ?_⟩⟩
      have h3 : w.cell? ⟨b, off + (j + 1), none⟩ = some (.int .i64 x) := HCL.out (j + 1) x hj
      have hbc : b ≠ c := by
        rintro rfl
        rw [cell_of_row _ _ _ _ _ _ HC.out] at h3
        have h4 : ∀ (k : Nat), (#[Value.slice (some ⟨b, off, none⟩) (r.length + 1) cap] : Array Value)[k]? ≠ some (Value.int .i64 x) := by
          intro k hk
          have := (Array.getElem?_eq_some_iff.1 hk)
          obtain ⟨hlt, he⟩ := this
          have : k = 0 := by simp at hlt; omega
          subst this
          simp at he
        exact h4 _ h3
      rw [show off + 1 + j = off + (j + 1) by omega, ← h3]
      simp only [World.cell?]
      rw [setRow_other _ _ _ _ hbc]
    have hl' : r.length + 1 ≤ cap := hl
    by_cases hneg : n < 0
    · have hK : Hid ((nextK (n :: r) : Int) = 0) := by show _ = _; simp [nextK, hneg]
      rw [hK.out]
      have dn : decide (n < 0) = true := by simpa using hneg
      by_cases hc1 : cap = 1
      · have hr0 : Hid (r = []) := by show _ = _; apply List.eq_nil_of_length_eq_zero; omega
        go_enter Tryz.func52, Tryz.ntmps52
        go_wp2
        go_ret
        exact ⟨rfl, _, HW.out _, by rw [HW.out]; exact HI.out _ _ (by omega) (fun h => absurd hr0.out h)⟩
      · go_enter Tryz.func52, Tryz.ntmps52
        go_wp2
        go_ret
        exact ⟨rfl, _, HW.out _, by rw [HW.out]; exact HI.out _ _ (by omega) (fun _ => rfl)⟩
    · have hK : Hid ((nextK (n :: r) : Int) = n % 65) := by
        show _ = _
        have := Int.emod_nonneg n (show (65 : Int) ≠ 0 by decide)
        simp only [nextK, hneg, if_false]
        omega
      rw [hK.out]
      have dn : decide (n < 0) = false := by simpa using hneg
      by_cases hc1 : cap = 1
      · have hr0 : Hid (r = []) := by show _ = _; apply List.eq_nil_of_length_eq_zero; omega
        go_enter Tryz.func52, Tryz.ntmps52
        go_wp2
        go_ret
        exact ⟨rfl, _, HW.out _, by rw [HW.out]; exact HI.out _ _ (by omega) (fun h => absurd hr0.out h)⟩
      · go_enter Tryz.func52, Tryz.ntmps52
        go_wp2
        go_ret
        exact ⟨rfl, _, HW.out _, by rw [HW.out]; exact HI.out _ _ (by omega) (fun _ => rfl)⟩

/-- No cell of a sector is a number of the kind int. -/
theorem sec_noint (s : Sec) (x : Int) : Value.int .i64 x ∉ secC s := by
  intro h
  unfold secC at h
  rcases List.mem_append.1 h with h | h
  · rcases List.mem_append.1 h with h | h
    · simp [cb] at h
    · simp [cb] at h
  · simp at h

theorem tear_any {w : World} {c g off : Nat} {A C : List Value} {s : Sec} {v : Value} {ks : List Int} (hs : SecOk s) (ho : off = A.length) (hgc : g ≠ c) (hr : w.heap[g]? = some (.cells (A ++ secC s ++ C).toArray 107))
    (hc : w.heap[c]? = some (.cells #[v] 81)) (hk : IntsAt w v ks) (hni : ∀ x : Int, Value.int .i64 x ∉ A ++ secC s ++ C) :
    Calls Tryz.prog 33 #[.pointer (some ⟨c, 0, none⟩), .pointer (some ⟨g, off, none⟩)] w fun e w' => e = .returned (.tuple #[]) ∧ w'.heap[g]? = some (.cells (A ++ secC (tornS s (nextK ks)) ++ C).toArray 107) ∧ Kp [g, c] w w' ∧ ∃ v', w'.heap[c]? = some (.cells #[v'] 81) ∧ IntsAt w' v' ks.tail := by
  have HN := hid (next_any hc hk)
  have hkl := nextK_le ks
  have hni' : Hid (∀ {x : Int}, Value.int .i64 x ∉ A ++ secC s ++ C) := fun {x} => hni x
  obtain ⟨h1, h2⟩ := hs
  have eT : A ++ secC (tornS s (nextK ks)) ++ C = A ++ secC (setS ⟨s.now.take (nextK ks) ++ (oldB s).drop (nextK ks), s.old⟩) ++ C := rfl
  rw [eT]
  have HS : Hid (∀ W : World, W.heap[g]? = some (.cells (A ++ secC ⟨s.now.take (nextK ks) ++ (oldB s).drop (nextK ks), s.old⟩ ++ C).toArray 107) → Calls Tryz.prog 53 #[.pointer (some ⟨g, off, none⟩)] W fun e w' => e = .returned (.tuple #[]) ∧ w' = W.setRow g (A ++ secC (setS ⟨s.now.take (nextK ks) ++ (oldB s).drop (nextK ks), s.old⟩) ++ C).toArray) :=
    fun W hW => settle_any W g off A C _ ⟨by simp [h1, h2]; omega, h2⟩ ho hW
  obtain ⟨R0, q0⟩ : ∃ R, R = (A ++ secC s ++ C).toArray := ⟨_, rfl⟩
  obtain ⟨R1, q1⟩ : ∃ R, R = (A ++ secC ⟨s.now.take (nextK ks) ++ (oldB s).drop (nextK ks), s.old⟩ ++ C).toArray := ⟨_, rfl⟩
  obtain ⟨R2, q2⟩ : ∃ R, R = (A ++ secC (setS ⟨s.now.take (nextK ks) ++ (oldB s).drop (nextK ks), s.old⟩) ++ C).toArray := ⟨_, rfl⟩
  rw [← q1, ← q2] at HS
  rw [← q2]
  have hr0 : Hid (w.heap[g]? = some (.cells R0 107)) := by show _ = _; rw [q0]; exact hr
  have hld : (∀ x : Int, Value.int .i64 x ∉ A ++ secC s ++ C) := hni
  generalize hK : nextK ks = k at *
  have eN : s.now.map cb = (s.now.take k).map cb ++ (s.now.drop k).map cb := by rw [← List.map_append, List.take_append_drop]
  have eO : (oldB s).map cb = ((oldB s).take k).map cb ++ ((oldB s).drop k).map cb := by rw [← List.map_append, List.take_append_drop]
  have T := row_to (off + k) (A ++ (s.now.take k).map cb) ((s.now.drop k).map cb) (((oldB s).drop k).map cb) ((oldB s).map cb ++ [.bool s.old.isSome] ++ C) R0 R1 (by rw [q0]; simp only [secC, eN, List.append_assoc]) (by rw [q1]; simp only [secC, oldB, List.map_append, List.append_assoc]) (by simp [h1, ho]; omega) (by simp [h1, h2]) _ rfl
  have hcl : ∀ W : World, W.heap[g]? = some (.cells R0 107) → ∀ j x, (((oldB s).drop k).map cb)[j]? = some x → W.cell? ⟨g, off + 64 + k + j, none⟩ = some x := fun W hW =>
    row_cells hW (A ++ s.now.map cb ++ ((oldB s).take k).map cb) (((oldB s).drop k).map cb) ([.bool s.old.isSome] ++ C) (by rw [q0]; simp only [secC, eO, List.append_assoc]) (by simp [h1, h2, ho]; omega)
  have hz : (((oldB s).drop k).map cb).length = 64 - k := by simp [h2]
  have H1 : ∀ v ∈ ((oldB s).drop k).map cb, v.oneCell' = true := one_cb _
  have hlt : k < 65 := by omega
  have hki : (k : Int) ≤ 64 := by omega
  have HINT : Hid (∀ (v' : Value) (w' : World), IntsAt (w.setRow c #[v']) v' ks.tail → (∀ b, b ≠ g → w'.heap[b]? = (w.setRow c #[v']).heap[b]?) → IntsAt w' v' ks.tail) := by
    intro v' w' h hw'
    refine h.of_blocks fun b ⟨o', x, hx⟩ => hw' b ?_
    rintro rfl
    have hrb : (w.setRow c #[v']).heap[b]? = some (.cells R0 107) := (setRow_other _ _ _ _ hgc).trans hr0.out
    rw [cell_of_row _ _ _ _ _ _ hrb, q0, List.getElem?_toArray] at hx
    exact hld x (List.mem_of_getElem? hx)
  have HCC : Hid (∀ v' : Value, (w.setRow c #[v']).heap[c]? = some (.cells #[v'] 81)) := fun v' => setRow_heap _ _ _ _ _ _ hc
  have HR0 : Hid (∀ v' : Value, (w.setRow c #[v']).heap[g]? = some (.cells R0 107)) := fun v' => (setRow_other _ _ _ _ hgc).trans hr0.out
  clear hr hc hk hni hni' hld eT eN eO h1 h2 ho
  generalize ((oldB s).drop k).map cb = X at *
  by_cases h64 : k = 64
  · subst h64
    have hX : X = [] := List.eq_nil_of_length_eq_zero (by omega)
    have hR : Hid (R0 = R1) := by
      show _ = _
      rw [← T.2, hX]
      simp
    clear T hcl q0 q1 q2
    have HCOPY : ∀ W : World, (Builtin.copy_ #[97, 97] 3 #[.slice (some ⟨g, off, none⟩) 0 0, .slice (some ⟨g, off + 64, none⟩) 0 0]).run Tryz.prog W = .ok (goInt 0) W := fun W =>
      run_copy_none W 97 97 3 5 _ _ _ _ _ _ Tryz.underlying97 size5 rfl
    have HC2 := hid HCOPY
    clear HCOPY
    go_enter Tryz.func33, Tryz.ntmps33
    go_wp2_with (go_at_call 52; refine HN.out.mono ?_)
    rintro e w1 ⟨rfl, v', rfl, hI⟩
    have hI' := hid hI
    have HCP := HC2.out (w.setRow c #[v']).drew
    clear hI HN
    go_wp2_with fail
    go_region
    go_wp2_with (go_at_call 53; refine (HS.out _ (by rw [← hR.out]; exact HR0.out v')).mono ?_)
    rintro e w2 ⟨rfl, rfl⟩
    go_wp2
    go_end0
    have hx : (((w.setRow c #[v']).drew).setRow g R2).heap[g]? = some (.cells R2 107) := setRow_heap ((w.setRow c #[v']).drew) g R0 R2 107 (0, 0) (HR0.out v')
    have hy : ∀ b, b ≠ g → (((w.setRow c #[v']).drew).setRow g R2).heap[b]? = (w.setRow c #[v']).heap[b]? := fun b hb => (setRow_other _ _ _ _ hb).trans rfl
    refine ⟨rfl, hx, ?_, v', (hy c (Ne.symm hgc)).trans (HCC.out v'), HINT.out v' _ hI'.out hy⟩
    exact (((Kp.refl _ w).setRow c _ (by simp)).drew).setRow g _ (by simp)
  · have hk1 : k < 64 := by omega
    have HCOPY : ∀ W : World, W.heap[g]? = some (.cells R0 107) → (Builtin.copy_ #[97, 97] 3 #[.slice (some ⟨g, off + k, none⟩) (64 - k) (64 - k), .slice (some ⟨g, off + 64 + k, none⟩) (64 - k) (64 - k)]).run Tryz.prog W = .ok (goInt X.length) (W.setRow g R1) := by
      intro W hW
      have h := run_copy_row (P := Tryz.prog) W 97 97 3 5 g (off + k) (64 - k) (64 - k) ⟨g, off + 64 + k, none⟩ (64 - k) (64 - k) R0 107 X Tryz.underlying97 size5 hW (by rw [hz]; exact (Nat.min_self _).symm) (fun j x hj => by rw [add_none]; exact hcl W hW j x hj) T.1 H1
      rw [T.2] at h
      exact h
    have HC2 := hid HCOPY
    clear HCOPY T hcl q0 q1 q2
    go_enter Tryz.func33, Tryz.ntmps33
    go_wp2_with (go_at_call 52; refine HN.out.mono ?_)
    rintro e w1 ⟨rfl, v', rfl, hI⟩
    have hI' := hid hI
    have HCP := HC2.out (w.setRow c #[v']).drew (HR0.out v')
    clear hI HN
    go_wp2_with fail
    go_region
    go_wp2_with (go_at_call 53; refine (HS.out _ (by first | exact setRow_heap ((w.setRow c #[v']).drew) g R0 R1 107 (0, 0) (HR0.out v') | exact setRow_heap (w.setRow c #[v']) g R0 R1 107 (0, 0) (HR0.out v'))).mono ?_)
    rintro e w2 ⟨rfl, rfl⟩
    go_wp2
    go_end0
    have hx : ((((w.setRow c #[v']).drew).setRow g R1).setRow g R2).heap[g]? = some (.cells R2 107) := setRow_heap _ _ _ _ _ _ (setRow_heap ((w.setRow c #[v']).drew) g R0 R1 107 (0, 0) (HR0.out v'))
    have hy : ∀ b, b ≠ g → ((((w.setRow c #[v']).drew).setRow g R1).setRow g R2).heap[b]? = (w.setRow c #[v']).heap[b]? := fun b hb => ((setRow_other _ _ _ _ hb).trans (setRow_other _ _ _ _ hb)).trans rfl
    refine ⟨rfl, hx, ?_, v', (hy c (Ne.symm hgc)).trans (HCC.out v'), HINT.out v' _ hI'.out hy⟩
    exact ((((Kp.refl _ w).setRow c _ (by simp)).drew).setRow g _ (by simp)).setRow g _ (by simp)
end Go.Proofs.YtnhnjdldgaaeoaaGreatDoor
