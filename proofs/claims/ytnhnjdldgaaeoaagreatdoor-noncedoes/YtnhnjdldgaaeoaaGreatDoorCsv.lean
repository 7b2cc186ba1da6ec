/-
  A save: it is done, or the disk goes down, and behind the crash the text is the old one or the new one, whole. No program plays a part.
-/
import Derived.Test.YtnhnjdldgaaeoaaGreatDoorCin
namespace Go.Proofs.YtnhnjdldgaaeoaaGreatDoor
open Go
set_option maxRecDepth 100000

theorem CInv.same {D D2 : Dk} {first size n : Nat} {t : List UInt8} (h : CInv D first size n t) (hd : D2.down = false) (hs : ∀ i, first ≤ i → i < first + 2 → (sayN size (secB D2.S i)).1 = (sayN size (secB D.S i)).1 ∨ (1 ≤ n ∧ i = first + n % 2 ∧ (sayN size (secB D2.S i)).1 = 0))
    (hc : 1 ≤ n → secB D2.S (first + (n - 1) % 2) = secB D.S (first + (n - 1) % 2)) (hf : 1 ≤ n → ∀ i, first + 2 + (n - 1) % 2 * size ≤ i → i < first + 2 + (n - 1) % 2 * size + size → secB D2.S i = secB D.S i) : loadP D2 first size = loadR n t := by
  unfold loadR
  by_cases hn : n = 0
  · rw [if_pos hn]
    obtain ⟨h1, h2⟩ := h.zero hn
    have e1 : (sayN size (secB D2.S first)).1 = 0 := by
      rcases hs first (by omega) (by omega) with e | ⟨e, -⟩
      · rw [e, h1, say_zero]
      · omega
    have e2 : (sayN size (secB D2.S (first + 1))).1 = 0 := by
      rcases hs (first + 1) (by omega) (by omega) with e | ⟨e, -⟩
      · rw [e, h2, say_zero]
      · omega
    exact load_none hd e1 e2
  · rw [if_neg hn]
    refine load_is hd (by omega) h.sz.2 h.cnt h.long ((hc (by omega)).trans (h.cur (by omega))) ?_ ?_
    · rcases hs (first + n % 2) (by omega) (by omega) with e | ⟨_, _, e⟩
      · rw [e]; exact h.othN (by omega)
      · rw [e]; omega
    · rw [catP_congr (hf (by omega))]; exact h.txt (by omega)

theorem fill_slot (n len : Nat) : fillB (slotB n len) = slotB n len := by
  unfold fillB
  rw [slotB_len]
  simp

section
variable {D : Dk} {first size n : Nat} {t0 t : List UInt8}

/-- The sectors behind the text's writes. -/
def fieldS (D : Dk) (first size n : Nat) (t : List UInt8) (j : Nat) : List Sec := putsS D.S (first + 2 + n % 2 * size) ((chunks t).take j)
theorem field_far (D : Dk) (first size n : Nat) (t : List UInt8) (ht : t.length ≤ 64 * size) (j i : Nat) (hi : i < first + 2 + n % 2 * size ∨ first + 2 + n % 2 * size + size ≤ i) : (fieldS D first size n t j).getD i sec0 = D.S.getD i sec0 := by
  have hl := chunks_len t
  refine putsS_far _ _ _ _ ?_
  rw [List.length_take]
  omega
theorem mod_mul_le (n size : Nat) : n % 2 * size ≤ size := by
  rcases (by omega : n % 2 = 0 ∨ n % 2 = 1) with e | e <;> simp [e]
/-- A crash behind some of the text's writes. -/
theorem down_field (h : CInv D first size n t0) (ht : t.length ≤ 64 * size) (j : Nat) (ks : List Int) (a : Nat) (b : Bool) : loadP (crashD ⟨fieldS D first size n t j, a, b⟩ ks) first size = loadR n t0 := by
  have hm := mod_mul_le n size
  have key : ∀ i, first ≤ i → i < first + 2 + 2 * size → (i < first + 2 + n % 2 * size ∨ first + 2 + n % 2 * size + size ≤ i) → secB (tearAll (fieldS D first size n t j) ks) i = secB D.S i := by
    intro i h1 h2 h3
    have e := field_far D first size n t ht j i h3
    unfold secB
    rw [getD_tear _ _ _ (by rw [e]; exact h.safe i h1 h2), e]
  refine h.same rfl (fun i h1 h2 => .inl ?_) (fun hn => ?_) (fun hn i h1 h2 => ?_)
  · show (sayN size (secB (tearAll (fieldS D first size n t j) ks) i)).1 = _
    rw [key i h1 (by omega) (.inl (by omega))]
  · exact key _ (by omega) (by have := h.sz; omega) (.inl (by omega))
  · rcases (by omega : n % 2 = 0 ∧ (n - 1) % 2 = 1 ∨ n % 2 = 1 ∧ (n - 1) % 2 = 0) with ⟨e1, e2⟩ | ⟨e1, e2⟩
    · rw [e2] at h1 h2
      exact key i (by omega) (by omega) (.inr (by rw [e1]; omega))
    · rw [e2] at h1 h2
      exact key i (by omega) (by omega) (.inl (by rw [e1]; omega))
/-- The sectors behind the slot's write. -/
def slotS (D : Dk) (first size n : Nat) (t : List UInt8) : List Sec := putS ((fieldS D first size n t (chunks t).length).map setS) (first + n % 2) (slotB (n + 1) t.length)
theorem slot_far (i : Nat) (hi : i ≠ first + n % 2) : (slotS D first size n t).getD i sec0 = setS ((fieldS D first size n t (chunks t).length).getD i sec0) := by
  unfold slotS
  rw [getD_put, if_neg (by omega), getD_setS]
theorem slot_at (h : CInv D first size n t0) (ht : t.length ≤ 64 * size) : (slotS D first size n t).getD (first + n % 2) sec0 = ⟨slotB (n + 1) t.length, some (secB D.S (first + n % 2))⟩ := by
  have hr := h.room
  have hz := h.sz
  have hm := mod_mul_le n size
  unfold slotS
  rw [getD_put, if_pos ⟨rfl, by rw [List.length_map, fieldS, putsS_len]; omega⟩, getD_setS, field_far D first size n t ht _ _ (.inl (by omega))]
  unfold wrS setS
  rw [fill_slot]
  rfl
theorem field_text (h : CInv D first size n t0) (ht : t.length ≤ 64 * size) (i : Nat) (hi : i < (chunks t).length) : secB (fieldS D first size n t (chunks t).length) (first + 2 + n % 2 * size + i) = fillB ((chunks t).getD i []) := by
  have hr := h.room
  have hm := mod_mul_le n size
  have hl := chunks_len t
  unfold fieldS
  rw [List.take_length]
  exact putsS_at _ _ _ i hi (by omega)
theorem field_ok (h : CInv D first size n t0) (j : Nat) : AllOk (fieldS D first size n t j) := putsS_ok h.ok _ _ (fun c hc => chunks_le t c (List.mem_of_mem_take hc))
theorem slot_ok (h : CInv D first size n t0) : AllOk (slotS D first size n t) := by
  unfold slotS putS
  refine (ok_setS (field_ok h _)).set _ (wrS_ok ?_ _ (by rw [slotB_len]; omega))
  rw [getD_setS]
  refine setS_ok ?_
  by_cases hi : first + n % 2 < (fieldS D first size n t (chunks t).length).length
  · have e : (fieldS D first size n t (chunks t).length).getD (first + n % 2) sec0 = (fieldS D first size n t (chunks t).length)[first + n % 2] := by simp [List.getD, hi]
    rw [e]; exact field_ok h _ _ (List.getElem_mem hi)
  · have e : (fieldS D first size n t (chunks t).length).getD (first + n % 2) sec0 = sec0 := by simp [List.getD, List.getElem?_eq_none (by omega : (fieldS D first size n t (chunks t).length).length ≤ first + n % 2)]
    rw [e]; exact sec0_ok
/-- The slot is there, whole, and the field has the text. -/
theorem new_there (h : CInv D first size n t0) (ht : t.length ≤ 64 * size) (hn : n + 1 ≤ 1099511627776) {D2 : Dk} (hd : D2.down = false) (hok : AllOk D2.S) (hs : secB D2.S (first + n % 2) = slotB (n + 1) t.length)
    (hf : ∀ i, i ≠ first + n % 2 → secB D2.S i = secB (fieldS D first size n t (chunks t).length) i) : loadP D2 first size = (t, n + 1, 0) := by
  have hm := mod_mul_le n size
  refine load_is hd (by omega) h.sz.2 hn ht (by rw [Nat.add_sub_cancel]; exact hs) ?_ ?_
  · rw [hf _ (by omega)]
    unfold secB
    rw [field_far D first size n t ht _ _ (.inl (by omega))]
    show (sayN size (secB D.S (first + (n + 1) % 2))).1 < n + 1
    by_cases h0 : n = 0
    · obtain ⟨-, h2⟩ := h.zero h0
      subst h0
      rw [show (0 + 1) % 2 = 1 from rfl, h2, say_zero]
      show 0 < 0 + 1
      omega
    · have e : (n + 1) % 2 = (n - 1) % 2 := by omega
      rw [e, h.cur (by omega), say_slot size n t0.length (by omega) h.cnt h.long h.sz.2]
      show n < n + 1
      omega
  · rw [Nat.add_sub_cancel]
    refine cat_text (fun i hi => sec_len hok _) (fun i hi => ?_) ht
    rw [hf _ (by omega)]
    exact field_text h ht i hi
/-- A crash behind the slot's write. -/
theorem down_slot (h : CInv D first size n t0) (ht : t.length ≤ 64 * size) (hn : n + 1 ≤ 1099511627776) (ks : List Int) (a : Nat) (b : Bool) :
    loadP (crashD ⟨slotS D first size n t, a, b⟩ ks) first size = loadR n t0 ∨ loadP (crashD ⟨slotS D first size n t, a, b⟩ ks) first size = (t, n + 1, 0) := by
  have hm := mod_mul_le n size
  have hz := h.sz
  have hat := slot_at h ht
  have hfar : ∀ i, i ≠ first + n % 2 → secB (tearAll (slotS D first size n t) ks) i = secB (fieldS D first size n t (chunks t).length) i := by
    intro i hi
    have e := slot_far (D := D) (size := size) (t := t) i hi
    unfold secB
    rw [getD_tear _ _ _ (by rw [e]; rfl), e]
    rfl
  have hfar2 : ∀ i, i ≠ first + n % 2 → (i < first + 2 + n % 2 * size ∨ first + 2 + n % 2 * size + size ≤ i) → secB (tearAll (slotS D first size n t) ks) i = secB D.S i := by
    intro i hi h3
    rw [hfar i hi]
    unfold secB
    rw [field_far D first size n t ht _ _ h3]
  obtain ⟨kk, hkk, htn⟩ := getD_torn (slotS D first size n t) ks (first + n % 2) _ (by rw [hat])
  have hnow : secB (slotS D first size n t) (first + n % 2) = slotB (n + 1) t.length := by unfold secB; rw [hat]
  rw [hnow] at htn
  have ho : (secB D.S (first + n % 2) = zer ∧ (n + 1) % 256 ≠ 0) ∨ ∃ m ml, secB D.S (first + n % 2) = slotB m ml ∧ m % 256 ≠ (n + 1) % 256 := by
    by_cases h0 : n = 0
    · left
      obtain ⟨h1, -⟩ := h.zero h0
      subst h0
      exact ⟨h1, by decide⟩
    · rcases h.oth (by omega) with ⟨e, e2⟩ | ⟨e, ml, -, e3⟩
      · left; exact ⟨e2, by omega⟩
      · right; exact ⟨n - 1, ml, e3, by omega⟩
  have hsame : ((sayN size (secB (tearAll (slotS D first size n t) ks) (first + n % 2))).1 = (sayN size (secB D.S (first + n % 2))).1 ∨ (sayN size (secB (tearAll (slotS D first size n t) ks) (first + n % 2))).1 = 0) → loadP (crashD ⟨slotS D first size n t, a, b⟩ ks) first size = loadR n t0 := by
    intro hc
    refine h.same rfl (fun i h1 h2 => ?_) (fun hn1 => ?_) (fun hn1 i h1 h2 => ?_)
    · show (sayN size (secB (tearAll (slotS D first size n t) ks) i)).1 = _ ∨ _
      by_cases hi : i = first + n % 2
      · subst hi
        rcases hc with e | e
        · exact .inl e
        · by_cases h0 : n = 0
          · left
            obtain ⟨h3, -⟩ := h.zero h0
            subst h0
            rw [e, show first + 0 % 2 = first from rfl, h3, say_zero]
          · exact .inr ⟨by omega, rfl, e⟩
      · left
        rw [hfar2 i hi (.inl (by omega))]
    · exact hfar2 _ (by omega) (.inl (by omega))
    · rcases (by omega : n % 2 = 0 ∧ (n - 1) % 2 = 1 ∨ n % 2 = 1 ∧ (n - 1) % 2 = 0) with ⟨e1, e2⟩ | ⟨e1, e2⟩
      · rw [e2] at h1 h2
        exact hfar2 i (by omega) (.inr (by rw [e1]; omega))
      · rw [e2] at h1 h2
        exact hfar2 i (by omega) (.inl (by rw [e1]; omega))
  rcases torn_slot size (n + 1) t.length kk _ hkk ho with e | e | e
  · right
    exact new_there h ht hn rfl (tearAll_ok (slot_ok h) ks) (htn.trans e) hfar
  · left
    exact hsame (.inl (by rw [htn, e]))
  · left
    exact hsame (.inr (by rw [htn]; exact e))
/-- Behind the second Sync. -/
theorem CInv.saved (h : CInv D first size n t0) (ht : t.length ≤ 64 * size) (hn : n + 1 ≤ 1099511627776) (a : Nat) (b : Bool) : CInv ⟨(slotS D first size n t).map setS, a, b⟩ first size (n + 1) t := by
  have hm := mod_mul_le n size
  have hr := h.room
  have hz := h.sz
  have hnow : secB ((slotS D first size n t).map setS) (first + n % 2) = slotB (n + 1) t.length := by rw [secB_setS]; unfold secB; rw [slot_at h ht]
  have hfar : ∀ i, i ≠ first + n % 2 → secB ((slotS D first size n t).map setS) i = secB (fieldS D first size n t (chunks t).length) i := by
    intro i hi
    rw [secB_setS]
    unfold secB
    rw [slot_far i hi]
    rfl
  have hfar2 : ∀ i, i ≠ first + n % 2 → i < first + 2 → secB ((slotS D first size n t).map setS) i = secB D.S i := by
    intro i hi h3
    rw [hfar i hi]
    unfold secB
    rw [field_far D first size n t ht _ _ (.inl (by omega))]
  refine ⟨ok_setS (slot_ok h), ?_, hz, fun i _ _ => ?_, hn, ht, fun h0 => by omega, fun _ => ?_, fun _ => ?_, fun _ => ?_⟩
  · show first + 2 + 2 * size ≤ ((slotS D first size n t).map setS).length
    rw [List.length_map]
    unfold slotS putS fieldS
    rw [List.length_set, List.length_map, putsS_len]
    exact hr
  · show (((slotS D first size n t).map setS).getD i sec0).old = none
    rw [getD_setS]; rfl
  · rw [Nat.add_sub_cancel]; exact hnow
  · by_cases h0 : n = 0
    · left
      obtain ⟨-, h2⟩ := h.zero h0
      subst h0
      exact ⟨rfl, (hfar2 _ (by omega) (by omega)).trans h2⟩
    · right
      have e : (n + 1) % 2 = (n - 1) % 2 := by omega
      refine ⟨by omega, t0.length, h.long, ?_⟩
      rw [e, Nat.add_sub_cancel]
      exact (hfar2 _ (by omega) (by omega)).trans (h.cur (by omega))
  · rw [Nat.add_sub_cancel]
    refine cat_text (fun i hi => sec_len (ok_setS (slot_ok h)) _) (fun i hi => ?_) ht
    rw [hfar _ (by omega)]
    exact field_text h ht i hi

/-- What a save comes to. -/
theorem save_cases (h : CInv D first size n t0) (hd : D.down = false) (ht : t.length ≤ 64 * size) (hn : n + 1 ≤ 1099511627776) :
    (∃ a, saveP D first size t = (0, ⟨(slotS D first size n t).map setS, a, false⟩) ∧ (D.armed = 0 → a = 0)) ∨
    (∃ D', saveP D first size t = (12, D') ∧ D'.down = true ∧ D.armed ≠ 0 ∧ AllOk D'.S ∧ D'.S.length = D.S.length ∧ ∀ ks, loadP (crashD D' ks) first size = loadR n t0 ∨ loadP (crashD D' ks) first size = (t, n + 1, 0)) := by
  obtain ⟨e1, e2⟩ := h.slotN
  have hr := h.room
  have hm := mod_mul_le n size
  have hcl := chunks_len t
  obtain ⟨⟨j, hj, g1, g2⟩, g3⟩ := puts_is D (first + 2 + n % 2 * size) (chunks t) hd (by omega) (chunks_le t)
  have hsv : saveP D first size t = (if (putsL D (first + 2 + n % 2 * size) (chunks t)).1 = 0 then
    (if syncE (putsL D (first + 2 + n % 2 * size) (chunks t)).2 = 0 then saveEnd (syncD (putsL D (first + 2 + n % 2 * size) (chunks t)).2) (first + n % 2) (n + 1) t.length
     else (syncE (putsL D (first + 2 + n % 2 * size) (chunks t)).2, syncD (putsL D (first + 2 + n % 2 * size) (chunks t)).2))
    else putsL D (first + 2 + n % 2 * size) (chunks t)) := by
    unfold saveP
    rw [if_neg (by omega), hd, if_neg (by decide), e1, e2, if_neg (by omega)]
  rw [hsv]
  clear hsv
  rcases hp : putsL D (first + 2 + n % 2 * size) (chunks t) with ⟨e, D1⟩
  rw [hp] at g1 g2 g3
  simp only at g1 g2 g3 ⊢
  have hfl : ∀ i, (fieldS D first size n t i).length = D.S.length := fun i => putsS_len _ _ _
  have hsl : (slotS D first size n t).length = D.S.length := by unfold slotS putS; rw [List.length_set, List.length_map, hfl]
  rcases g2 with ⟨rfl, hjl, hd1⟩ | ⟨rfl, hd1, ha⟩
  · rw [if_pos rfl]
    have hS1 : D1.S = fieldS D first size n t (chunks t).length := by rw [g1, hjl]; rfl
    rcases sync_is D1 hd1 with ⟨s1, s2, s3⟩ | ⟨s1, s2, s3, s4⟩
    · rw [if_pos s1]
      have hS2 : (syncD D1).S = (fieldS D first size n t (chunks t).length).map setS := by rw [s2, hS1]
      obtain ⟨w1, w2, w3⟩ := write_is (syncD D1) (first + n % 2) (slotB (n + 1) t.length) s3 (by rw [hS2, List.length_map, hfl]; omega) (by rw [slotB_len]; omega)
      have hS3 : (writeD (syncD D1) ((first + n % 2 : Nat) : Int) (slotB (n + 1) t.length)).S = slotS D first size n t := by rw [w1, hS2]; rfl
      unfold saveEnd
      rcases w2 with ⟨w4, w5⟩ | ⟨w4, w5, w6⟩
      · rw [if_pos w4]
        rcases sync_is _ w5 with ⟨x1, x2, x3⟩ | ⟨x1, x2, x3, x4⟩
        · left
          refine ⟨(syncD (writeD (syncD D1) ((first + n % 2 : Nat) : Int) (slotB (n + 1) t.length))).armed, ?_, fun h0 => sync_armed _ (w3 (sync_armed _ (g3 h0)))⟩
          rw [x1, ← hS3, ← x2, ← x3]
        · right
          refine ⟨_, by rw [x1], x3, fun h0 => x4 (w3 (sync_armed _ (g3 h0))), by rw [x2, hS3]; exact slot_ok h, by rw [x2, hS3, hsl], fun ks => ?_⟩
          have h9 := down_slot h ht hn ks (syncD (writeD (syncD D1) ((first + n % 2 : Nat) : Int) (slotB (n + 1) t.length))).armed (syncD (writeD (syncD D1) ((first + n % 2 : Nat) : Int) (slotB (n + 1) t.length))).down
          rw [← hS3, ← x2] at h9
          exact h9
      · right
        rw [if_neg (by rw [w4]; decide)]
        refine ⟨_, by rw [w4], w5, fun h0 => w6 (sync_armed _ (g3 h0)), by rw [hS3]; exact slot_ok h, by rw [hS3, hsl], fun ks => ?_⟩
        have h9 := down_slot h ht hn ks (writeD (syncD D1) ((first + n % 2 : Nat) : Int) (slotB (n + 1) t.length)).armed (writeD (syncD D1) ((first + n % 2 : Nat) : Int) (slotB (n + 1) t.length)).down
        rw [← hS3] at h9
        exact h9
    · right
      rw [if_neg (by rw [s1]; decide)]
      refine ⟨_, by rw [s1], s3, fun h0 => s4 (g3 h0), by rw [s2, hS1]; exact field_ok h _, by rw [s2, hS1, hfl], fun ks => .inl ?_⟩
      have h9 := down_field h ht (chunks t).length ks (syncD D1).armed (syncD D1).down
      rw [← hS1, ← s2] at h9
      exact h9
  · right
    rw [if_neg (by decide)]
    refine ⟨D1, rfl, hd1, ha, by rw [g1]; exact field_ok h j, by rw [g1]; exact hfl j, fun ks => .inl ?_⟩
    have h9 := down_field h ht j ks D1.armed D1.down
    have e9 : fieldS D first size n t j = D1.S := g1.symm
    rw [e9] at h9
    exact h9
theorem CInv.new (N first size : Nat) (hr : first + 2 + 2 * size ≤ N) (hz : 1 ≤ size ∧ size ≤ 255) : CInv (newD N) first size 0 [] := by
  have hs : ∀ i, (newD N).S.getD i sec0 = sec0 := by
    intro i
    unfold newD
    simp only [List.getD, List.getElem?_replicate]
    by_cases h : i < N <;> simp [h]
  refine ⟨fun s hs => by rw [(List.mem_replicate.1 hs).2]; exact sec0_ok, by simpa [newD] using hr, hz, fun i _ _ => by rw [hs]; rfl, by omega, by simp, fun _ => ?_, fun h => by omega, fun h => by omega, fun h => by omega⟩
  unfold secB
  rw [hs, hs]
  exact ⟨rfl, rfl⟩
end
end Go.Proofs.YtnhnjdldgaaeoaaGreatDoor
