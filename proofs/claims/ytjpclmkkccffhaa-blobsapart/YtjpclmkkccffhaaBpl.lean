/-
  Blobs as plain data, and what a store of them is asked and answers. No program plays a part.
-/
import Derived.WalkKit
namespace Go.Proofs.Ytjpclmkkccffhaa.Bl
open Go
set_option maxRecDepth 100000

/-- A byte as the model's number, and as a cell. -/
def bv (c : UInt8) : Int := (c.toNat : Int)
abbrev cb (c : UInt8) : Value := .int .u8 (bv c)
def dg (d : List UInt8) : List Value := d.map cb
abbrev st (s : List UInt8) : Value := .string ⟨s.toArray⟩
abbrev nu (n : Int) : Value := .int .i64 n
abbrev ptr (g off : Nat) : Value := .pointer (some ⟨g, off, none⟩)
structure Blo where
  owner : Int
  number : Int
  cipher : List UInt8
  tag : List UInt8
abbrev Blo.Wf (x : Blo) : Prop := x.tag.length = 32
def bloC (x : Blo) : List Value := [nu x.owner, nu x.number, st x.cipher] ++ dg x.tag
theorem dg_len (d : List UInt8) : (dg d).length = d.length := by simp [dg]
theorem bloC_len {x : Blo} (h : x.Wf) : (bloC x).length = 35 := by simp [bloC, dg_len, h]
def sameB (a b : Blo) : Bool := a.owner == b.owner && (a.number == b.number && (a.cipher == b.cipher && a.tag == b.tag))
theorem sameB_iff (a b : Blo) : sameB a b = true ↔ a = b := by
  cases a
  cases b
  simp [sameB]
theorem sameB_self (a : Blo) : sameB a a = true := (sameB_iff a a).2 rfl
theorem sameB_ne {a b : Blo} (h : a ≠ b) : sameB a b = false := by
  cases e : sameB a b
  · rfl
  · exact absurd ((sameB_iff a b).1 e) h
theorem sameB_comm (a b : Blo) : sameB a b = sameB b a := by
  by_cases h : a = b
  · subst h; rfl
  · rw [sameB_ne h, sameB_ne (fun e => h e.symm)]

/-- The blob of an owner and a number. -/
def hitB (o n : Int) (b : Blo) : Bool := b.owner == o && b.number == n
theorem hitB_iff (o n : Int) (b : Blo) : hitB o n b = true ↔ b.owner = o ∧ b.number = n := by simp [hitB]
def ownL (L : List Blo) (o : Int) : List Blo := L.filter fun b => b.owner == o
def cntO (L : List Blo) (o : Int) : Nat := (ownL L o).length
def bytO (L : List Blo) (o : Int) : Nat := ((ownL L o).map fun b => b.cipher.length).sum
def numsO (L : List Blo) (o : Int) : List Int := (ownL L o).map fun b => b.number
def mayB (b : Blo) : Bool := decide (0 ≤ b.owner) && decide (b.owner < 8) && (decide (0 ≤ b.number) && decide (b.number ≤ 1099511627776)) && decide (b.cipher.length ≤ 4096)
theorem mayB_iff (b : Blo) : mayB b = true ↔ (0 ≤ b.owner ∧ b.owner < 8) ∧ (0 ≤ b.number ∧ b.number ≤ 1099511627776) ∧ b.cipher.length ≤ 4096 := by
  simp [mayB, and_assoc]
def roomB (L : List Blo) (b : Blo) : Bool := decide (cntO L b.owner < 256) && decide (bytO L b.owner + b.cipher.length ≤ 32768)
theorem roomB_iff (L : List Blo) (b : Blo) : roomB L b = true ↔ cntO L b.owner < 256 ∧ bytO L b.owner + b.cipher.length ≤ 32768 := by simp [roomB]
/-- What Put answers, and what is there behind it. -/
def putE (L : List Blo) (b : Blo) : Int :=
  if mayB b then (match L.find? (hitB b.owner b.number) with | some x => if sameB x b then 0 else 10 | none => if roomB L b then 0 else 11) else 2
def putD (L : List Blo) (b : Blo) : List Blo :=
  if mayB b then (match L.find? (hitB b.owner b.number) with | some _ => L | none => if roomB L b then L ++ [b] else L) else L
def dropD (L : List Blo) (o n : Int) : List Blo := L.eraseP (hitB o n)
def pruneD (L : List Blo) (o : Int) : List Int → List Blo
  | [] => L
  | n :: ns => pruneD (dropD L o n) o ns
def pruneN (L : List Blo) (o : Int) : List Int → Nat
  | [] => 0
  | n :: ns => (if L.any (hitB o n) then 1 else 0) + pruneN (dropD L o n) o ns
theorem drop_none {L : List Blo} {o n : Int} (h : L.any (hitB o n) = false) : dropD L o n = L := by
  unfold dropD
  refine List.eraseP_of_forall_not (fun b hb => ?_)
  have := List.any_eq_false.1 h b hb
  simpa using this
theorem drop_len {L : List Blo} {o n : Int} : (dropD L o n).length + (if L.any (hitB o n) then 1 else 0) = L.length := by
  unfold dropD
  by_cases h : L.any (hitB o n) = true
  · rw [if_pos h, List.length_eraseP, if_pos h]
    have : 0 < L.length := by
      cases L
      · simp at h
      · simp
    omega
  · rw [if_neg h, List.length_eraseP, if_neg h]; rfl
theorem prune_len (o : Int) : ∀ (ns : List Int) (L : List Blo), (pruneD L o ns).length + pruneN L o ns = L.length
  | [], L => by simp [pruneD, pruneN]
  | n :: ns, L => by
    have h1 := prune_len o ns (dropD L o n)
    have h2 := drop_len (L := L) (o := o) (n := n)
    simp only [pruneD, pruneN]
    omega
theorem prune_take (o : Int) : ∀ (ns : List Int) (k : Nat), k < ns.length → ∀ L, pruneD L o (ns.take (k + 1)) = dropD (pruneD L o (ns.take k)) o (ns.getD k 0)
  | [], _, h => by simp at h
  | n :: ns, 0, _ => fun L => by simp [pruneD]
  | n :: ns, k + 1, h => fun L => by
    have := prune_take o ns k (by simpa using h) (dropD L o n)
    simpa [pruneD] using this
theorem pruneN_take (o : Int) : ∀ (ns : List Int) (k : Nat), k < ns.length → ∀ L, pruneN L o (ns.take (k + 1)) = pruneN L o (ns.take k) + (if (pruneD L o (ns.take k)).any (hitB o (ns.getD k 0)) then 1 else 0)
  | [], _, h => by simp at h
  | n :: ns, 0, _ => fun L => by simp [pruneD, pruneN]
  | n :: ns, k + 1, h => fun L => by
    have := pruneN_take o ns k (by simpa using h) (dropD L o n)
    simp only [List.take_succ_cons, pruneD, pruneN, List.getD_cons_succ]
    rw [this]
    omega

/-! ### What holds of every store -/
structure Inv (L : List Blo) : Prop where
  ok : ∀ b ∈ L, mayB b = true ∧ b.Wf
  apart : L.Pairwise fun a b => ¬ (a.owner = b.owner ∧ a.number = b.number)
  cnt : ∀ o, cntO L o ≤ 256
  byt : ∀ o, bytO L o ≤ 32768
theorem inv_nil : Inv [] := ⟨by simp, List.Pairwise.nil, fun o => by simp [cntO, ownL], fun o => by simp [bytO, ownL]⟩
theorem own_app (L M : List Blo) (o : Int) : ownL (L ++ M) o = ownL L o ++ ownL M o := by simp [ownL]
theorem find_none {L : List Blo} {o n : Int} (h : L.find? (hitB o n) = none) : ∀ b ∈ L, ¬ (b.owner = o ∧ b.number = n) := by
  intro b hb e
  have := List.find?_eq_none.1 h b hb
  exact this ((hitB_iff o n b).2 e)
theorem find_some {L : List Blo} {o n : Int} {x : Blo} (h : L.find? (hitB o n) = some x) : x ∈ L ∧ x.owner = o ∧ x.number = n := ⟨List.mem_of_find?_eq_some h, (hitB_iff o n x).1 (List.find?_some h)⟩
theorem any_find (L : List Blo) (o n : Int) : L.any (hitB o n) = (L.find? (hitB o n)).isSome := by
  induction L with
  | nil => rfl
  | cons b L ih =>
    rw [List.any_cons, List.find?_cons, ih]
    cases hitB o n b <;> simp
theorem sum_sub : ∀ {l₁ l₂ : List Nat}, l₁.Sublist l₂ → l₁.sum ≤ l₂.sum
  | _, _, .slnil => Nat.le_refl _
  | _, _, .cons _ h => by have := sum_sub h; simp; omega
  | _, _, .cons_cons _ h => by have := sum_sub h; simp; omega
theorem Inv.sub {L M : List Blo} (h : Inv L) (hs : M.Sublist L) : Inv M := by
  refine ⟨fun b hb => h.ok b (hs.subset hb), h.apart.sublist hs, fun o => Nat.le_trans ?_ (h.cnt o), fun o => Nat.le_trans ?_ (h.byt o)⟩
  · exact (hs.filter _).length_le
  · exact sum_sub ((hs.filter _).map _)
theorem drop_sub (L : List Blo) (o n : Int) : (dropD L o n).Sublist L := List.eraseP_sublist
theorem prune_sub (o : Int) : ∀ (ns : List Int) (L : List Blo), (pruneD L o ns).Sublist L
  | [], L => List.Sublist.refl L
  | n :: ns, L => (prune_sub o ns (dropD L o n)).trans (drop_sub L o n)
theorem Inv.drop {L : List Blo} (h : Inv L) (o n : Int) : Inv (dropD L o n) := h.sub (drop_sub L o n)
theorem Inv.prune {L : List Blo} (h : Inv L) (o : Int) (ns : List Int) : Inv (pruneD L o ns) := h.sub (prune_sub o ns L)
theorem own_one (b : Blo) (o : Int) : ownL [b] o = if b.owner = o then [b] else [] := by
  by_cases h : b.owner = o <;> simp [ownL, h]
theorem Inv.app {L : List Blo} (h : Inv L) {b : Blo} (hm : mayB b = true) (hw : b.Wf) (hf : L.find? (hitB b.owner b.number) = none) (hr : roomB L b = true) : Inv (L ++ [b]) := by
  have hr' := (roomB_iff L b).1 hr
  refine ⟨fun x hx => ?_, ?_, fun o => ?_, fun o => ?_⟩
  · rcases List.mem_append.1 hx with hx | hx
    · exact h.ok x hx
    · rw [List.mem_singleton.1 hx]; exact ⟨hm, hw⟩
  · rw [List.pairwise_append]
    refine ⟨h.apart, by simp, fun x hx y hy => ?_⟩
    rw [List.mem_singleton.1 hy]
    exact find_none hf x hx
  · have := h.cnt o
    unfold cntO at this hr' ⊢
    rw [own_app, own_one]
    by_cases e : b.owner = o
    · subst e; simp; omega
    · simp [e]; omega
  · have := h.byt o
    unfold bytO at this hr' ⊢
    rw [own_app, own_one]
    by_cases e : b.owner = o
    · subst e; simp at hr' ⊢; omega
    · simp [e]; simpa using this
theorem Inv.put {L : List Blo} (h : Inv L) {b : Blo} (hw : b.Wf) : Inv (putD L b) := by
  unfold putD
  split
  · rename_i hm
    split
    · exact h
    · rename_i hf
      split
      · rename_i hr
        exact h.app hm hw hf hr
      · exact h
  · exact h
theorem own_len : ∀ (L : List Blo), (∀ b ∈ L, 0 ≤ b.owner ∧ b.owner < 8) → L.length = cntO L 0 + cntO L 1 + cntO L 2 + cntO L 3 + cntO L 4 + cntO L 5 + cntO L 6 + cntO L 7
  | [], _ => by simp [cntO, ownL]
  | b :: L, h => by
    have ih := own_len L (fun x hx => h x (by simp [hx]))
    have hb := h b (by simp)
    have hc : ∀ o, cntO (b :: L) o = (if b.owner = o then 1 else 0) + cntO L o := by
      intro o
      unfold cntO
      rw [show b :: L = [b] ++ L from rfl, own_app, own_one]
      by_cases e : b.owner = o
      · simp [e]; omega
      · simp [e]
    rw [List.length_cons, ih, hc, hc, hc, hc, hc, hc, hc, hc]
    have h8 : b.owner = 0 ∨ b.owner = 1 ∨ b.owner = 2 ∨ b.owner = 3 ∨ b.owner = 4 ∨ b.owner = 5 ∨ b.owner = 6 ∨ b.owner = 7 := by omega
    rcases h8 with e | e | e | e | e | e | e | e <;> rw [e] <;> simp <;> omega
theorem Inv.len {L : List Blo} (h : Inv L) : L.length ≤ 2048 := by
  have h0 := own_len L (fun b hb => ((mayB_iff b).1 (h.ok b hb).1).1)
  have h1 := h.cnt 0
  have h2 := h.cnt 1
  have h3 := h.cnt 2
  have h4 := h.cnt 3
  have h5 := h.cnt 4
  have h6 := h.cnt 5
  have h7 := h.cnt 6
  have h8 := h.cnt 7
  omega
/-- What is done to one owner's leaves another one's. -/
theorem own_put {L : List Blo} {b : Blo} {o : Int} (h : b.owner ≠ o) : ownL (putD L b) o = ownL L o := by
  unfold putD
  split
  · split
    · rfl
    · split
      · rw [own_app, own_one, if_neg h, List.append_nil]
      · rfl
  · rfl
theorem own_drop {L : List Blo} {o p n : Int} (h : o ≠ p) : ownL (dropD L o n) p = ownL L p := by
  unfold dropD ownL
  induction L with
  | nil => rfl
  | cons b L ih =>
    rw [List.eraseP_cons]
    by_cases e : hitB o n b = true
    · have hb := (hitB_iff o n b).1 e
      rw [e]
      have : (b.owner == p) = false := by rw [hb.1]; simpa using h
      simp [this]
    · have e' : hitB o n b = false := by simpa using e
      rw [e']
      simp only [cond_false]
      rw [List.filter_cons, List.filter_cons, ih]
theorem own_prune {o p : Int} (h : o ≠ p) : ∀ (ns : List Int) (L : List Blo), ownL (pruneD L o ns) p = ownL L p
  | [], L => rfl
  | n :: ns, L => by rw [pruneD, own_prune h ns, own_drop h]

/-! ### Numbers, rising -/
def insO (out : List Int) (x : Int) : List Int := out.takeWhile (fun y => decide (y < x)) ++ ([x] ++ out.dropWhile (fun y => decide (y < x)))
theorem ins_perm (out : List Int) (x : Int) : (insO out x).Perm (x :: out) := by
  unfold insO
  have := List.takeWhile_append_dropWhile (p := fun y => decide (y < x)) (l := out)
  refine List.Perm.trans List.perm_middle ?_
  show (x :: (List.takeWhile (fun y => decide (y < x)) out ++ List.dropWhile (fun y => decide (y < x)) out)).Perm (x :: out)
  rw [this]
theorem ins_sorted (x : Int) : ∀ out : List Int, out.Pairwise (· ≤ ·) → (insO out x).Pairwise (· ≤ ·)
  | [], _ => by simp [insO]
  | y :: out, h => by
    rw [List.pairwise_cons] at h
    unfold insO
    by_cases hy : y < x
    · have ih := ins_sorted x out h.2
      unfold insO at ih
      simp only [List.takeWhile_cons, List.dropWhile_cons, hy, decide_true, if_true, List.cons_append]
      rw [List.pairwise_cons]
      refine ⟨fun z hz => ?_, ih⟩
      have hz' := (ins_perm out x).mem_iff.1 hz
      rcases List.mem_cons.1 hz' with rfl | hz'
      · omega
      · exact h.1 z hz'
    · simp only [List.takeWhile_cons, List.dropWhile_cons, hy, decide_false, if_false, List.nil_append, Bool.false_eq_true, List.singleton_append]
      rw [List.pairwise_cons, List.pairwise_cons]
      refine ⟨fun z hz => ?_, h⟩
      rcases List.mem_cons.1 hz with rfl | hz
      · omega
      · have := h.1 z hz
        omega
def insAll : List Int → List Int → List Int
  | out, [] => out
  | out, x :: xs => insAll (insO out x) xs
theorem insAll_perm : ∀ (xs out : List Int), (insAll out xs).Perm (out ++ xs)
  | [], out => by simp [insAll]
  | x :: xs, out => by
    refine (insAll_perm xs (insO out x)).trans ?_
    refine ((ins_perm out x).append_right xs).trans ?_
    simpa using (List.perm_middle (a := x) (l₁ := out) (l₂ := xs)).symm
theorem insAll_sorted : ∀ (xs out : List Int), out.Pairwise (· ≤ ·) → (insAll out xs).Pairwise (· ≤ ·)
  | [], _, h => h
  | x :: xs, out, h => insAll_sorted xs _ (ins_sorted x out h)
theorem insAll_app : ∀ (xs ys out : List Int), insAll out (xs ++ ys) = insAll (insAll out xs) ys
  | [], _, _ => rfl
  | x :: xs, ys, out => by
    show insAll (insO out x) (xs ++ ys) = _
    rw [insAll_app xs ys]
    rfl
def sortO (L : List Blo) (o : Int) : List Int := insAll [] (numsO L o)
theorem sort_is {xs ys : List Int} (h : xs.Perm ys) : xs.mergeSort (fun x y => decide (x ≤ y)) = insAll [] ys := by
  refine List.Perm.eq_of_pairwise (le := fun a b : Int => a ≤ b) ?_ ?_ ?_ ?_
  · intro a b _ _ h1 h2; omega
  · have := List.pairwise_mergeSort (le := fun x y : Int => decide (x ≤ y)) (by intro a b c h1 h2; simp at *; omega) (by intro a b; simp; omega) xs
    exact this.imp (by intro a b h; simpa using h)
  · exact insAll_sorted ys [] List.Pairwise.nil
  · exact ((List.mergeSort_perm xs _).trans h).trans (by simpa using (insAll_perm ys []).symm)
theorem sortO_len (L : List Blo) (o : Int) : (sortO L o).length = cntO L o := by
  have := (insAll_perm (numsO L o) []).length_eq
  simpa [sortO, numsO, cntO] using this
end Go.Proofs.Ytjpclmkkccffhaa.Bl
