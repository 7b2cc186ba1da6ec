/-
  A cell whose other slot may be torn: what it has behind saves and crashes, in any number. No program plays a part.
-/
import Derived.Test.YtnhnjdldgaaeoaaDoorCcr
namespace Go.Proofs.YtnhnjdldgaaeoaaDoor
open Go
set_option maxRecDepth 100000

/-- The slot that is written next: its last number is the one ahead of the cell's, or it is torn: its first number is the next one, its last one is not. -/
def Jnk (s : List UInt8) (n : Nat) : Prop := s.length = 64 ∧ (s.drop 56 = eightB (n - 1) ∨ (s.take 8 = eightB (n + 1) ∧ s.drop 56 ≠ eightB (n + 1)))

theorem jnk_say {s : List UInt8} {n : Nat} (size : Nat) (h : Jnk s n) (hn : n ≤ 1099511627776) : (sayN size s).1 ≤ n - 1 := by
  obtain ⟨hl, h | ⟨h1, h2⟩⟩ := h
  · unfold sayN
    split
    · rename_i e
      show (numI (s.take 8)).toNat ≤ n - 1
      rw [e.1, h, num_eight _ (by omega)]
      omega
    · show 0 ≤ n - 1
      omega
  · rw [say_none (by rw [h1]; exact Ne.symm h2)]
    show 0 ≤ n - 1
    omega
theorem jnk_torn {o : List UInt8} {n : Nat} (len k : Nat) (hk : k ≤ 64) (h : Jnk o n) : (slotB (n + 1) len).take k ++ o.drop k = slotB (n + 1) len ∨ Jnk ((slotB (n + 1) len).take k ++ o.drop k) n := by
  have hsl := slotB_len (n + 1) len
  have h0 := h
  obtain ⟨hl, h⟩ := h
  have hlen : ((slotB (n + 1) len).take k ++ o.drop k).length = 64 := by simp [hsl, hl]; omega
  by_cases h56 : k ≤ 56
  · have hd : ((slotB (n + 1) len).take k ++ o.drop k).drop 56 = o.drop 56 := by
      rw [List.drop_append, List.drop_eq_nil_of_le (by simp; omega), List.nil_append, List.drop_drop]
      congr 1
      simp [hsl]; omega
    right
    rcases h with h | ⟨h1, h2⟩
    · exact ⟨hlen, .inl (by rw [hd, h])⟩
    · by_cases h8 : 8 ≤ k
      · refine ⟨hlen, .inr ⟨?_, by rw [hd]; exact h2⟩⟩
        rw [List.take_append_of_le_length (by simp [hsl]; omega), List.take_take, Nat.min_eq_left h8, slot_first]
      · have e : (slotB (n + 1) len).take k = o.take k := by
          have e1 : (slotB (n + 1) len).take k = ((slotB (n + 1) len).take 8).take k := by rw [List.take_take, Nat.min_eq_left (by omega)]
          rw [e1, slot_first, ← h1, List.take_take, Nat.min_eq_left (by omega)]
        rw [e, List.take_append_drop]
        exact h0
  · have ht : ((slotB (n + 1) len).take k ++ o.drop k).take 56 = (slotB (n + 1) len).take 56 := by
      rw [List.take_append_of_le_length (by simp [hsl]; omega), List.take_take, Nat.min_eq_left (by omega)]
    by_cases hla : ((slotB (n + 1) len).take k ++ o.drop k).drop 56 = eightB (n + 1)
    · left
      rw [← List.take_append_drop 56 ((slotB (n + 1) len).take k ++ o.drop k), ht, hla, ← slot_last (n + 1) len, List.take_append_drop]
    · right
      refine ⟨hlen, .inr ⟨?_, hla⟩⟩
      rw [List.take_append_of_le_length (by simp [hsl]; omega), List.take_take, Nat.min_eq_left (by omega), slot_first]

structure WInv (D : Dk) (first size n : Nat) (t : List UInt8) : Prop where
  ok : AllOk D.S
  room : first + 2 + 2 * size ≤ D.S.length
  sz : 1 ≤ size ∧ size ≤ 255
  safe : ∀ i, first ≤ i → i < first + 2 + 2 * size → (D.S.getD i sec0).old = none
  cnt : n ≤ 1099511627776
  long : t.length ≤ 64 * size
  jnk : Jnk (secB D.S (first + n % 2)) n
  zero : n = 0 → secB D.S (first + 1) = zer
  cur : 1 ≤ n → secB D.S (first + (n - 1) % 2) = slotB n t.length
  txt : 1 ≤ n → (catP D.S (first + 2 + (n - 1) % 2 * size) size).take t.length = t

section
variable {D D2 : Dk} {first size n : Nat} {t0 t : List UInt8}
theorem WInv.load (h : WInv D first size n t) (hd : D.down = false) : loadP D first size = loadR n t := by
  have hj := jnk_say size h.jnk h.cnt
  unfold loadR
  by_cases hn : n = 0
  · rw [if_pos hn]
    have h2 := h.zero hn
    subst hn
    have e : first + 0 % 2 = first := rfl
    rw [e] at hj
    exact load_none hd (by omega) (by rw [h2, say_zero])
  · rw [if_neg hn]
    exact load_is hd (by omega) h.sz.2 h.cnt h.long (h.cur (by omega)) (by omega) (h.txt (by omega))
theorem WInv.slotN (h : WInv D first size n t) : slotN D first size = n + 1 ∧ slotTo D first size = n % 2 := by
  have hc := h.cnt
  have hj := jnk_say size h.jnk h.cnt
  unfold Go.Proofs.YtnhnjdldgaaeoaaDoor.slotN slotTo
  by_cases hn : n = 0
  · have h2 := h.zero hn
    subst hn
    have e : first + 0 % 2 = first := rfl
    rw [e] at hj
    rw [h2, say_zero]
    have e0 : (sayN size (secB D.S first)).1 = 0 := by omega
    rw [e0]
    exact ⟨rfl, rfl⟩
  · have hs := say_slot size n t.length (by omega) hc h.long h.sz.2
    have hcur := h.cur (by omega)
    by_cases hp : n % 2 = 1
    · have e : (n - 1) % 2 = 0 := by omega
      rw [e, Nat.add_zero] at hcur
      rw [hp] at hj
      rw [hcur, hs, hp]
      simp only
      exact ⟨by omega, by rw [if_pos (by omega)]⟩
    · have e : (n - 1) % 2 = 1 := by omega
      have e2 : n % 2 = 0 := by omega
      rw [e] at hcur
      rw [e2, Nat.add_zero] at hj
      rw [hcur, hs, e2]
      simp only
      exact ⟨by omega, by rw [if_neg (by omega)]⟩
/-- What keeps the cell's text: its slot and its field; the other slot may be torn. -/
theorem WInv.keep (h : WInv D first size n t) (hok : AllOk D2.S) (hl : D2.S.length = D.S.length) (hsafe : ∀ i, first ≤ i → i < first + 2 + 2 * size → (D2.S.getD i sec0).old = none)
    (hj : Jnk (secB D2.S (first + n % 2)) n) (hc : ∀ i, first ≤ i → i < first + 2 → i ≠ first + n % 2 → secB D2.S i = secB D.S i)
    (hf : 1 ≤ n → ∀ i, first + 2 + (n - 1) % 2 * size ≤ i → i < first + 2 + (n - 1) % 2 * size + size → secB D2.S i = secB D.S i) : WInv D2 first size n t := by
  refine ⟨hok, by rw [hl]; exact h.room, h.sz, hsafe, h.cnt, h.long, hj, fun h0 => ?_, fun h1 => ?_, fun h1 => ?_⟩
  · rw [hc _ (by omega) (by omega) (by omega)]; exact h.zero h0
  · rw [hc _ (by omega) (by omega) (by omega)]; exact h.cur h1
  · rw [catP_congr (R := D.S) (hf h1)]; exact h.txt h1
theorem WInv.congr (h : WInv D first size n t) (hok : AllOk D2.S) (hl : D2.S.length = D.S.length)
    (hs : ∀ i, first ≤ i → i < first + 2 + 2 * size → D2.S.getD i sec0 = D.S.getD i sec0) : WInv D2 first size n t := by
  have hb : ∀ i, first ≤ i → i < first + 2 + 2 * size → secB D2.S i = secB D.S i := fun i h1 h2 => by unfold secB; rw [hs i h1 h2]
  have hm := mod_mul_le (n - 1) size
  refine h.keep hok hl (fun i h1 h2 => by rw [hs i h1 h2]; exact h.safe i h1 h2) ?_ (fun i h1 h2 _ => hb i h1 (by omega)) (fun _ i h1 h2 => hb i (by omega) (by omega))
  have hz := h.sz
  rw [hb _ (by omega) (by omega)]
  exact h.jnk
theorem WInv.crash (h : WInv D first size n t) (ks : List Int) : WInv (crashD D ks) first size n t :=
  h.congr (tearAll_ok h.ok ks) (tearAll_len _ _) (fun i h1 h2 => getD_tear _ _ _ (h.safe i h1 h2))
theorem torn_safe (S : List Sec) (ks : List Int) (i : Nat) : ((tearAll S ks).getD i sec0).old = none := by
  by_cases hi : i < S.length
  · have h5 : i < (tearAll S ks).length := by rw [tearAll_len]; exact hi
    have e : (tearAll S ks).getD i sec0 = (tearAll S ks)[i] := by simp [List.getD, h5]
    rw [e]
    rcases tear_get S ks i hi with ⟨h1, h2⟩ | ⟨o, kk, -, -, h2⟩
    · rw [h2]; exact h1
    · rw [h2]; rfl
  · rw [List.getD, List.getElem?_eq_none (by rw [tearAll_len]; omega : (tearAll S ks).length ≤ i)]
    rfl
theorem wfield_ok (h : WInv D first size n t0) (j : Nat) : AllOk (fieldS D first size n t j) := putsS_ok h.ok _ _ (fun c hc => chunks_le t c (List.mem_of_mem_take hc))
theorem wslot_ok (h : WInv D first size n t0) : AllOk (slotS D first size n t) := by
  unfold slotS putS
  refine (ok_setS (wfield_ok h _)).set _ (wrS_ok ?_ _ (by rw [slotB_len]; omega))
  rw [getD_setS]
  refine setS_ok ?_
  by_cases hi : first + n % 2 < (fieldS D first size n t (chunks t).length).length
  · have e : (fieldS D first size n t (chunks t).length).getD (first + n % 2) sec0 = (fieldS D first size n t (chunks t).length)[first + n % 2] := by simp [List.getD, hi]
    rw [e]; exact wfield_ok h _ _ (List.getElem_mem hi)
  · have e : (fieldS D first size n t (chunks t).length).getD (first + n % 2) sec0 = sec0 := by simp [List.getD, List.getElem?_eq_none (by omega : (fieldS D first size n t (chunks t).length).length ≤ first + n % 2)]
    rw [e]; exact sec0_ok
theorem wslot_at (h : WInv D first size n t0) (ht : t.length ≤ 64 * size) : (slotS D first size n t).getD (first + n % 2) sec0 = ⟨slotB (n + 1) t.length, some (secB D.S (first + n % 2))⟩ := by
  have hr := h.room
  have hz := h.sz
  have hm := mod_mul_le n size
  unfold slotS
  rw [getD_put, if_pos ⟨rfl, by rw [List.length_map, fieldS, putsS_len]; omega⟩, getD_setS, field_far D first size n t ht _ _ (.inl (by omega))]
  unfold wrS setS
  rw [fill_slot]
  rfl
theorem wfield_text (h : WInv D first size n t0) (ht : t.length ≤ 64 * size) (i : Nat) (hi : i < (chunks t).length) : secB (fieldS D first size n t (chunks t).length) (first + 2 + n % 2 * size + i) = fillB ((chunks t).getD i []) := by
  have hr := h.room
  have hm := mod_mul_le n size
  have hl := chunks_len t
  unfold fieldS
  rw [List.take_length]
  exact putsS_at _ _ _ i hi (by omega)
theorem fieldS_len (j : Nat) : (fieldS D first size n t j).length = D.S.length := putsS_len _ _ _
theorem slotS_len' : (slotS D first size n t).length = D.S.length := by unfold slotS putS; rw [List.length_set, List.length_map, fieldS_len]
/-- A crash behind some of the text's writes. -/
theorem wdown_field (h : WInv D first size n t0) (ht : t.length ≤ 64 * size) (j : Nat) (ks : List Int) (a : Nat) (b : Bool) : WInv (crashD ⟨fieldS D first size n t j, a, b⟩ ks) first size n t0 := by
  have hm := mod_mul_le n size
  have hz := h.sz
  have key : ∀ i, first ≤ i → i < first + 2 + 2 * size → (i < first + 2 + n % 2 * size ∨ first + 2 + n % 2 * size + size ≤ i) → secB (tearAll (fieldS D first size n t j) ks) i = secB D.S i := by
    intro i h1 h2 h3
    have e := field_far D first size n t ht j i h3
    unfold secB
    rw [getD_tear _ _ _ (by rw [e]; exact h.safe i h1 h2), e]
  refine h.keep (tearAll_ok (wfield_ok h j) ks) ((tearAll_len _ _).trans (fieldS_len j)) (fun i _ _ => torn_safe _ _ _) ?_ (fun i h1 h2 _ => key i h1 (by omega) (.inl (by omega))) (fun hn i h1 h2 => ?_)
  · show Jnk (secB (tearAll (fieldS D first size n t j) ks) (first + n % 2)) n
    rw [key _ (by omega) (by omega) (.inl (by omega))]
    exact h.jnk
  · rcases (by omega : n % 2 = 0 ∧ (n - 1) % 2 = 1 ∨ n % 2 = 1 ∧ (n - 1) % 2 = 0) with ⟨e1, e2⟩ | ⟨e1, e2⟩
    · rw [e2] at h1 h2
      exact key i (by omega) (by omega) (.inr (by rw [e1]; omega))
    · rw [e2] at h1 h2
      exact key i (by omega) (by omega) (.inl (by rw [e1]; omega))
/-- The slot is there, whole, and the field has the text. -/
theorem wnew_there (h : WInv D first size n t0) (ht : t.length ≤ 64 * size) (hn : n + 1 ≤ 1099511627776) (hok : AllOk D2.S) (hl : D2.S.length = D.S.length) (hsafe : ∀ i, first ≤ i → i < first + 2 + 2 * size → (D2.S.getD i sec0).old = none)
    (hs : secB D2.S (first + n % 2) = slotB (n + 1) t.length) (hf : ∀ i, i ≠ first + n % 2 → secB D2.S i = secB (fieldS D first size n t (chunks t).length) i) : WInv D2 first size (n + 1) t := by
  have hm := mod_mul_le n size
  refine ⟨hok, by rw [hl]; exact h.room, h.sz, hsafe, hn, ht, ?_, fun h0 => by omega, fun _ => by rw [Nat.add_sub_cancel]; exact hs, fun _ => ?_⟩
  · have e9 : secB D2.S (first + (n + 1) % 2) = secB D.S (first + (n + 1) % 2) := by
      rw [hf _ (by omega)]
      unfold secB
      rw [field_far D first size n t ht _ _ (.inl (by omega))]
    rw [e9]
    by_cases h0 : n = 0
    · have h2 := h.zero h0
      subst h0
      rw [show (0 + 1) % 2 = 1 from rfl, h2]
      exact ⟨zer_len, .inl rfl⟩
    · have e : (n + 1) % 2 = (n - 1) % 2 := by omega
      rw [e, h.cur (by omega)]
      exact ⟨slotB_len _ _, .inl (by rw [slot_last, Nat.add_sub_cancel])⟩
  · rw [Nat.add_sub_cancel]
    refine cat_text (fun i hi => sec_len hok _) (fun i hi => ?_) ht
    rw [hf _ (by omega)]
    exact wfield_text h ht i hi
/-- A crash behind the slot's write. -/
theorem wdown_slot (h : WInv D first size n t0) (ht : t.length ≤ 64 * size) (hn : n + 1 ≤ 1099511627776) (ks : List Int) (a : Nat) (b : Bool) :
    WInv (crashD ⟨slotS D first size n t, a, b⟩ ks) first size n t0 ∨ WInv (crashD ⟨slotS D first size n t, a, b⟩ ks) first size (n + 1) t := by
  have hm := mod_mul_le n size
  have hz := h.sz
  have hat := wslot_at h ht
  have hfar : ∀ i, i ≠ first + n % 2 → secB (tearAll (slotS D first size n t) ks) i = secB (fieldS D first size n t (chunks t).length) i := by
    intro i hi
    have e := slot_far (D := D) (size := size) (t := t) i hi
    unfold secB
    rw [getD_tear _ _ _ (by rw [e]; rfl), e]
    rfl
  have hfar2 : ∀ i, i ≠ first + n % 2 → (i < first + 2 + n % 2 * size ∨ first + 2 + n % 2 * size + size ≤ i) → secB (tearAll (slotS D first size n t) ks) i = secB D.S i := by
    intro i hi h3
    rw [hfar i hi]
    unfold secB
    rw [field_far D first size n t ht _ _ h3]
  obtain ⟨kk, hkk, htn⟩ := getD_torn (slotS D first size n t) ks (first + n % 2) _ (by rw [hat])
  have hnow : secB (slotS D first size n t) (first + n % 2) = slotB (n + 1) t.length := by unfold secB; rw [hat]
  rw [hnow] at htn
  rcases jnk_torn t.length kk hkk h.jnk with e | e
  · right
    exact wnew_there h ht hn (tearAll_ok (wslot_ok h) ks) ((tearAll_len _ _).trans slotS_len') (fun i _ _ => torn_safe _ _ _) (htn.trans e) hfar
  · left
    refine h.keep (tearAll_ok (wslot_ok h) ks) ((tearAll_len _ _).trans slotS_len') (fun i _ _ => torn_safe _ _ _) ?_ (fun i h1 h2 h3 => hfar2 i h3 (.inl (by omega))) (fun hn1 i h1 h2 => ?_)
    · show Jnk (secB (tearAll (slotS D first size n t) ks) (first + n % 2)) n
      rw [htn]
      exact e
    · rcases (by omega : n % 2 = 0 ∧ (n - 1) % 2 = 1 ∨ n % 2 = 1 ∧ (n - 1) % 2 = 0) with ⟨e1, e2⟩ | ⟨e1, e2⟩
      · rw [e2] at h1 h2
        exact hfar2 i (by omega) (.inr (by rw [e1]; omega))
      · rw [e2] at h1 h2
        exact hfar2 i (by omega) (.inl (by rw [e1]; omega))
/-- Behind the second Sync. -/
theorem WInv.saved (h : WInv D first size n t0) (ht : t.length ≤ 64 * size) (hn : n + 1 ≤ 1099511627776) (a : Nat) (b : Bool) : WInv ⟨(slotS D first size n t).map setS, a, b⟩ first size (n + 1) t := by
  refine wnew_there h ht hn (ok_setS (wslot_ok h)) ((List.length_map _).trans slotS_len') (fun i _ _ => ?_) ?_ (fun i hi => ?_)
  · show (((slotS D first size n t).map setS).getD i sec0).old = none
    rw [getD_setS]; rfl
  · show secB ((slotS D first size n t).map setS) (first + n % 2) = _
    rw [secB_setS]; unfold secB; rw [wslot_at h ht]
  · show secB ((slotS D first size n t).map setS) i = _
    rw [secB_setS]
    unfold secB
    rw [slot_far i hi]
    rfl
/-- What a save comes to: it is done, or the disk goes down, and behind any crash the cell has the old text or the new one, and is a cell again. -/
theorem wsave (h : WInv D first size n t0) (hd : D.down = false) (ht : t.length ≤ 64 * size) (hn : n + 1 ≤ 1099511627776) :
    (∃ D2, saveP D first size t = (0, D2) ∧ WInv D2 first size (n + 1) t ∧ D2.down = false ∧ (D.armed = 0 → D2.armed = 0) ∧ D2.S.length = D.S.length) ∨
    (∃ D', saveP D first size t = (12, D') ∧ D'.down = true ∧ D.armed ≠ 0 ∧ D'.S.length = D.S.length ∧ ∀ ks, WInv (crashD D' ks) first size n t0 ∨ WInv (crashD D' ks) first size (n + 1) t) := by
  obtain ⟨e1, e2⟩ := h.slotN
  have hr := h.room
  have hm := mod_mul_le n size
  have hcl := chunks_len t
  obtain ⟨⟨j, hj, g1, g2⟩, g3⟩ := puts_is D (first + 2 + n % 2 * size) (chunks t) hd (by omega) (chunks_le t)
  have hsv : saveP D first size t = (if (putsL D (first + 2 + n % 2 * size) (chunks t)).1 = 0 then
    (if syncE (putsL D (first + 2 + n % 2 * size) (chunks t)).2 = 0 then saveEnd (syncD (putsL D (first + 2 + n % 2 * size) (chunks t)).2) (first + n % 2) (n + 1) t.length
     else (syncE (putsL D (first + 2 + n % 2 * size) (chunks t)).2, syncD (putsL D (first + 2 + n % 2 * size) (chunks t)).2))
    else putsL D (first + 2 + n % 2 * size) (chunks t)) := by
    unfold saveP
    rw [if_neg (by omega), hd, if_neg (by decide), e1, e2, if_neg (by omega)]
  rw [hsv]
  clear hsv
  rcases hp : putsL D (first + 2 + n % 2 * size) (chunks t) with ⟨e, D1⟩
  rw [hp] at g1 g2 g3
  simp only at g1 g2 g3 ⊢
  have hfl : ∀ i, (fieldS D first size n t i).length = D.S.length := fun i => putsS_len _ _ _
  have hsl : (slotS D first size n t).length = D.S.length := slotS_len'
  rcases g2 with ⟨rfl, hjl, hd1⟩ | ⟨rfl, hd1, ha⟩
  · rw [if_pos rfl]
    have hS1 : D1.S = fieldS D first size n t (chunks t).length := by rw [g1, hjl]; rfl
    rcases sync_is D1 hd1 with ⟨s1, s2, s3⟩ | ⟨s1, s2, s3, s4⟩
    · rw [if_pos s1]
      have hS2 : (syncD D1).S = (fieldS D first size n t (chunks t).length).map setS := by rw [s2, hS1]
      obtain ⟨w1, w2, w3⟩ := write_is (syncD D1) (first + n % 2) (slotB (n + 1) t.length) s3 (by rw [hS2, List.length_map, hfl]; omega) (by rw [slotB_len]; omega)
      have hS3 : (writeD (syncD D1) ((first + n % 2 : Nat) : Int) (slotB (n + 1) t.length)).S = slotS D first size n t := by rw [w1, hS2]; rfl
      unfold saveEnd
      rcases w2 with ⟨w4, w5⟩ | ⟨w4, w5, w6⟩
      · rw [if_pos w4]
        rcases sync_is _ w5 with ⟨x1, x2, x3⟩ | ⟨x1, x2, x3, x4⟩
        · left
          refine ⟨_, by rw [x1], ?_, x3, fun h0 => sync_armed _ (w3 (sync_armed _ (g3 h0))), by rw [x2, hS3, List.length_map, hsl]⟩
          have h9 := h.saved ht hn (syncD (writeD (syncD D1) ((first + n % 2 : Nat) : Int) (slotB (n + 1) t.length))).armed (syncD (writeD (syncD D1) ((first + n % 2 : Nat) : Int) (slotB (n + 1) t.length))).down
          rw [← hS3, ← x2] at h9
          exact h9
        · right
          refine ⟨_, by rw [x1], x3, fun h0 => x4 (w3 (sync_armed _ (g3 h0))), by rw [x2, hS3, hsl], fun ks => ?_⟩
          have h9 := wdown_slot h ht hn ks (syncD (writeD (syncD D1) ((first + n % 2 : Nat) : Int) (slotB (n + 1) t.length))).armed (syncD (writeD (syncD D1) ((first + n % 2 : Nat) : Int) (slotB (n + 1) t.length))).down
          rw [← hS3, ← x2] at h9
          exact h9
      · right
        rw [if_neg (by rw [w4]; decide)]
        refine ⟨_, by rw [w4], w5, fun h0 => w6 (sync_armed _ (g3 h0)), by rw [hS3, hsl], fun ks => ?_⟩
        have h9 := wdown_slot h ht hn ks (writeD (syncD D1) ((first + n % 2 : Nat) : Int) (slotB (n + 1) t.length)).armed (writeD (syncD D1) ((first + n % 2 : Nat) : Int) (slotB (n + 1) t.length)).down
        rw [← hS3] at h9
        exact h9
    · right
      rw [if_neg (by rw [s1]; decide)]
      refine ⟨_, by rw [s1], s3, fun h0 => s4 (g3 h0), by rw [s2, hS1, hfl], fun ks => .inl ?_⟩
      have h9 := wdown_field h ht (chunks t).length ks (syncD D1).armed (syncD D1).down
      rw [← hS1, ← s2] at h9
      exact h9
  · right
    rw [if_neg (by decide)]
    refine ⟨D1, rfl, hd1, ha, by rw [g1]; exact hfl j, fun ks => .inl ?_⟩
    have h9 := wdown_field h ht j ks D1.armed D1.down
    have e9 : fieldS D first size n t j = D1.S := g1.symm
    rw [e9] at h9
    exact h9
theorem CInv.weak (h : CInv D first size n t) : WInv D first size n t := by
  refine ⟨h.ok, h.room, h.sz, h.safe, h.cnt, h.long, ?_, fun h0 => (h.zero h0).2, h.cur, h.txt⟩
  by_cases h0 : n = 0
  · have h1 := (h.zero h0).1
    subst h0
    rw [show first + 0 % 2 = first from rfl, h1]
    exact ⟨zer_len, .inl rfl⟩
  · rcases h.oth (by omega) with ⟨e, e2⟩ | ⟨e, ml, -, e3⟩
    · rw [e2]
      subst e
      exact ⟨zer_len, .inl rfl⟩
    · rw [e3]
      exact ⟨slotB_len _ _, .inl (slot_last _ _)⟩
end
end Go.Proofs.YtnhnjdldgaaeoaaDoor
