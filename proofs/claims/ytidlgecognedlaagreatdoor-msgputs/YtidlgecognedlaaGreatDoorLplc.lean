/-
  Plain facts on bytes: lists of items; what was laid is read as it was, what is read is laid as the very bytes.
-/
import Derived.Test.YtidlgecognedlaaGreatDoorLplb
namespace Go.Proofs.YtidlgecognedlaaGreatDoor.Lay
open Go

/-- Does a closing bracket stand ahead? -/
def closeB (r : List UInt8) : Bool := r.getD 0 0 == 41

/-- The items up to the closing bracket: the error, the items, how many bytes. -/
def readItems {α : Type} (f : List UInt8 → Nat × α × Nat) : Nat → Nat → List UInt8 → Nat × List α × Nat
  | 0, _, _ => (5, [], 0)
  | n + 1, cnt, r =>
    if closeB r = true then (0, [], 1)
    else if cnt = 512 then (4, [], 0)
    else if (f r).1 ≠ 0 then ((f r).1, [], 0)
    else if (readItems f n (cnt + 1) (r.drop (f r).2.2)).1 ≠ 0 then ((readItems f n (cnt + 1) (r.drop (f r).2.2)).1, [], 0)
    else (0, (f r).2.1 :: (readItems f n (cnt + 1) (r.drop (f r).2.2)).2.1, (f r).2.2 + (readItems f n (cnt + 1) (r.drop (f r).2.2)).2.2)

/-- What is left is read behind what was: the error, all items, the place. -/
def cont {α : Type} (xs : List α) (q : Nat) (x : Nat × List α × Nat) : Nat × List α × Nat := if x.1 ≠ 0 then (x.1, [], 0) else (0, xs ++ x.2.1, q + x.2.2)

/-- A list at a place: the error, the items, the place behind it. -/
def listRes {α : Type} (f : List UInt8 → Nat × α × Nat) (p : Nat) (r : List UInt8) : Nat × List α × Nat :=
  if r = [] then (5, [], 0) else if r.getD 0 0 ≠ 40 then (6, [], 0) else cont [] (p + 1) (readItems f r.length 0 (r.drop 1))

theorem triple {β γ : Type} (x : Nat × β × γ) (h : x.1 = 0) : x = (0, x.2.1, x.2.2) := by
  obtain ⟨a, b, c⟩ := x
  simp only at h
  subst h
  rfl

section
variable {α : Type} (f : List UInt8 → Nat × α × Nat)

theorem cont_close (xs : List α) (q n cnt : Nat) (r : List UInt8) (h : closeB r = true) : cont xs q (readItems f (n + 1) cnt r) = (0, xs, q + 1) := by
  simp [cont, readItems, h]
theorem cont_full (xs : List α) (q n cnt : Nat) (r : List UInt8) (h : closeB r = false) (hc : cnt = 512) : cont xs q (readItems f (n + 1) cnt r) = (4, [], 0) := by
  simp [cont, readItems, h, hc]
theorem cont_err (xs : List α) (q n cnt : Nat) (r : List UInt8) (h : closeB r = false) (hc : cnt ≠ 512) (he : (f r).1 ≠ 0) : cont xs q (readItems f (n + 1) cnt r) = ((f r).1, [], 0) := by
  simp [cont, readItems, h, hc, he]
theorem cont_item (xs : List α) (q n cnt : Nat) (r : List UInt8) (h : closeB r = false) (hc : cnt ≠ 512) (he : (f r).1 = 0) :
    cont xs q (readItems f (n + 1) cnt r) = cont (xs ++ [(f r).2.1]) (q + (f r).2.2) (readItems f n (cnt + 1) (r.drop (f r).2.2)) := by
  by_cases h2 : (readItems f n (cnt + 1) (r.drop (f r).2.2)).1 = 0
  · simp [cont, readItems, h, hc, he, h2, Nat.add_assoc]
  · simp [cont, readItems, h, hc, he, h2]

variable (item : α → List UInt8) (ok : α → Prop)

def bodyOf (xs : List α) : List UInt8 := (xs.map item).flatten

theorem items_back (hf : ∀ x, ok x → ∀ rest, f (item x ++ rest) = (0, x, (item x).length)) (hi : ∀ x, ok x → closeB (item x) = false ∧ item x ≠ []) :
    ∀ (xs : List α) (n cnt : Nat), (∀ x ∈ xs, ok x) → xs.length < n → cnt + xs.length ≤ 512 → ∀ rest, readItems f n cnt (bodyOf item xs ++ 41 :: rest) = (0, xs, (bodyOf item xs).length + 1)
  | [], n, cnt, _, hn, _, rest => by
    obtain ⟨m, rfl⟩ : ∃ m, n = m + 1 := ⟨n - 1, by simp at hn; omega⟩
    simp [readItems, bodyOf, closeB]
  | x :: xs, n, cnt, hok, hn, hc, rest => by
    obtain ⟨m, rfl⟩ : ∃ m, n = m + 1 := ⟨n - 1, by simp at hn; omega⟩
    have hx := hok x (by simp)
    have hib := items_back hf hi xs m (cnt + 1) (fun y hy => hok y (by simp [hy])) (by simp at hn; omega) (by simp at hc; omega) rest
    have e : bodyOf item (x :: xs) ++ 41 :: rest = item x ++ (bodyOf item xs ++ 41 :: rest) := by simp [bodyOf]
    have hcl : closeB (item x ++ (bodyOf item xs ++ 41 :: rest)) = false := by
      obtain ⟨h1, h2⟩ := hi x hx
      cases hl : item x with
      | nil => exact absurd hl h2
      | cons c l => rw [hl] at h1; simpa [closeB] using h1
    have hf' := hf x hx (bodyOf item xs ++ 41 :: rest)
    have hdr : (item x ++ (bodyOf item xs ++ 41 :: rest)).drop (item x).length = bodyOf item xs ++ 41 :: rest := List.drop_left' rfl
    rw [e]
    simp only [readItems]
    rw [hcl, if_neg (by simp), if_neg (by simp at hc; omega), hf', if_neg (by simp), hdr, hib, if_neg (by simp)]
    simp [bodyOf]; omega

theorem list_back (hf : ∀ x, ok x → ∀ rest, f (item x ++ rest) = (0, x, (item x).length)) (hi : ∀ x, ok x → closeB (item x) = false ∧ item x ≠ [])
    (xs : List α) (hok : ∀ x ∈ xs, ok x) (hc : xs.length ≤ 512) (p : Nat) (rest : List UInt8) : listRes f p (40 :: bodyOf item xs ++ 41 :: rest) = (0, xs, p + ((bodyOf item xs).length + 2)) := by
  have hlen : ∀ ys : List α, (∀ y ∈ ys, ok y) → ys.length ≤ (bodyOf item ys).length := by
    intro ys
    induction ys with
    | nil => intro _; simp
    | cons y ys ih =>
      intro h
      have h1 := ih (fun z hz => h z (by simp [hz]))
      have h2 := (hi y (h y (by simp))).2
      have h3 : 0 < (item y).length := List.length_pos_iff.2 h2
      simp only [bodyOf, List.map_cons, List.flatten_cons, List.length_append, List.length_cons] at *
      omega
  have hl := hlen xs hok
  have hb := items_back f item ok hf hi xs (40 :: bodyOf item xs ++ 41 :: rest).length 0 hok (by simp; omega) (by omega) rest
  unfold listRes
  rw [if_neg (by simp), if_neg (by simp), show (40 :: bodyOf item xs ++ 41 :: rest).drop 1 = bodyOf item xs ++ 41 :: rest from rfl, hb]
  simp [cont]; omega

theorem items_once (hf : ∀ r x c, f r = (0, x, c) → r.take c = item x ∧ c ≤ r.length ∧ ok x) :
    ∀ (n cnt : Nat) (r : List UInt8) (xs : List α) (c : Nat), cnt ≤ 512 → readItems f n cnt r = (0, xs, c) → r.take c = bodyOf item xs ++ [41] ∧ c ≤ r.length ∧ cnt + xs.length ≤ 512 ∧ ∀ x ∈ xs, ok x
  | 0, cnt, r, xs, c, _, h => by simp [readItems] at h
  | n + 1, cnt, r, xs, c, hcnt, h => by
    simp only [readItems] at h
    split at h
    · rename_i hcl
      simp only [Prod.mk.injEq, true_and] at h
      obtain ⟨rfl, rfl⟩ := h
      cases r with
      | nil => simp [closeB] at hcl
      | cons b r => simp [closeB] at hcl; subst hcl; simp [bodyOf, hcnt]
    · split at h
      · simp at h
      · rename_i hc5
        split at h
        · rename_i he; simp only [Prod.mk.injEq] at h; exact absurd h.1 he
        · rename_i he
          have he : (f r).1 = 0 := by omega
          split at h
          · rename_i h2; simp only [Prod.mk.injEq] at h; exact absurd h.1 h2
          · rename_i h2
            have h2 : (readItems f n (cnt + 1) (r.drop (f r).2.2)).1 = 0 := by omega
            simp only [Prod.mk.injEq, true_and] at h
            obtain ⟨rfl, rfl⟩ := h
            obtain ⟨i1, i2, i3⟩ := hf r (f r).2.1 (f r).2.2 (triple _ he)
            obtain ⟨j1, j2, j3, j4⟩ := items_once hf n (cnt + 1) (r.drop (f r).2.2) (readItems f n (cnt + 1) (r.drop (f r).2.2)).2.1 (readItems f n (cnt + 1) (r.drop (f r).2.2)).2.2 (by omega) (triple _ h2)
            rw [List.length_drop] at j2
            refine ⟨?_, by omega, by rw [List.length_cons]; omega, ?_⟩
            · rw [List.take_add, i1, j1]; simp [bodyOf]
            · intro x hx
              rcases List.mem_cons.1 hx with rfl | hx
              · exact i3
              · exact j4 x hx

theorem list_once (hf : ∀ r x c, f r = (0, x, c) → r.take c = item x ∧ c ≤ r.length ∧ ok x) (p : Nat) (r : List UInt8) (xs : List α) (to : Nat) (h : listRes f p r = (0, xs, to)) :
    ∃ c, to = p + c ∧ r.take c = 40 :: bodyOf item xs ++ [41] ∧ c ≤ r.length ∧ xs.length ≤ 512 ∧ ∀ x ∈ xs, ok x := by
  unfold listRes at h
  split at h
  · simp at h
  · split at h
    · simp at h
    · rename_i h0 h4
      unfold cont at h
      split at h
      · rename_i h1; simp only [Prod.mk.injEq] at h; exact absurd h.1 h1
      · rename_i h1
        have h1 : (readItems f r.length 0 (r.drop 1)).1 = 0 := by omega
        simp only [Prod.mk.injEq, true_and, List.nil_append] at h
        obtain ⟨rfl, rfl⟩ := h
        obtain ⟨j1, j2, j3, j4⟩ := items_once f item ok hf r.length 0 (r.drop 1) (readItems f r.length 0 (r.drop 1)).2.1 (readItems f r.length 0 (r.drop 1)).2.2 (by omega) (triple _ h1)
        cases r with
        | nil => exact absurd rfl h0
        | cons b r =>
          have hb : b = 40 := by
            rcases Decidable.em (b = 40) with h | h
            · exact h
            · exact absurd (by simpa using h) h4
          subst hb
          rw [List.length_drop, List.length_cons] at j2
          refine ⟨1 + (readItems f (40 :: r).length 0 ((40 :: r).drop 1)).2.2, by omega, ?_, by rw [List.length_cons]; omega, by omega, j4⟩
          rw [Nat.add_comm 1, List.take_succ_cons]
          exact congrArg (fun l => 40 :: l) j1

theorem list_err (p : Nat) (r : List UInt8) (h : (listRes f p r).1 ≠ 0) : (listRes f p r).2 = ([], 0) := by
  unfold listRes at h ⊢
  split
  · rfl
  · split
    · rfl
    · unfold cont at h ⊢
      split
      · rfl
      · rename_i h0 h4 h1
        rw [if_neg h0, if_neg h4, if_neg h1] at h
        exact absurd rfl h
end

end Go.Proofs.YtidlgecognedlaaGreatDoor.Lay
