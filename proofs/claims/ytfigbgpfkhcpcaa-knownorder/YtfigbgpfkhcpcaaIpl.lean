/-
  What is known of all views, as plain data: of a list of lines that were learned, the longest view, each client's word and own, the counts. No program plays a part. A line is From (fro), By (byc), View (view), Tag (tag).
-/
import Derived.Test.YtfigbgpfkhcpcaaIbs
import Derived.Test.YtfigbgpfkhcpcaaHpg
namespace Go.Proofs.Ytfigbgpfkhcpcaa.Kn
open Go
set_option maxRecDepth 100000

theorem snoc_ind {α : Type} {P : List α → Prop} (h0 : P []) (hs : ∀ L x, P L → P (L ++ [x])) (L : List α) : P L := by
  have h : ∀ R : List α, P R.reverse := by
    intro R
    induction R with
    | nil => exact h0
    | cons x R ih => rw [List.reverse_cons]; exact hs _ _ ih
  have := h L.reverse
  rwa [List.reverse_reverse] at this
def noLn : Ln := ⟨0, -1, [], List.replicate 32 0⟩
theorem noLn_wf : noLn.Wf := rfl
def endsB (v : List UInt8) (c : Int) : Bool := decide (0 < v.length) && (bv (v.getD (v.length - 1) 0) == c)
def okB (n : Int) (x : Ln) : Bool := (decide (0 ≤ x.fro) && decide (x.fro < n)) && (decide (0 ≤ x.byc) && decide (x.byc < n)) && Hist.rightB x.view n && endsB x.view x.byc
def topF (out x : Ln) : Ln := if out.view.length < x.view.length then x else out
def topL (L : List Ln) : Ln := L.foldl topF noLn
def longL (L : List Ln) : List UInt8 := (topL L).view
def wlF (i : Int) (m : Nat) (x : Ln) : Nat := if x.fro = i then max m x.view.length else m
def olF (i : Int) (m : Nat) (x : Ln) : Nat := if x.fro = i ∧ x.byc = i then max m x.view.length else m
def wl (L : List Ln) (i : Int) : Nat := L.foldl (wlF i) 0
def ol (L : List Ln) (i : Int) : Nat := L.foldl (olF i) 0
def learnE (n : Int) (L : List Ln) (x : Ln) : Int := if okB n x then (if Hist.fitB x.view (longL L) then 0 else 8) else 2
def learnL (n : Int) (L : List Ln) (x : Ln) : List Ln := if okB n x && Hist.fitB x.view (longL L) then L ++ [x] else L
def allL (n : Int) (M : List Ln) : List Ln := M.foldl (learnL n) []
def fewL (M : List Ln) : List Ln := (M.take 25).filter fun x => decide (x.view.length < 600)
def word (L : List Ln) (i : Int) : List UInt8 := (longL L).take (wl L i)
def ownv (L : List Ln) (i : Int) : List UInt8 := (longL L).take (ol L i)
def rwF (i : Int) (out : List UInt8) (x : Ln) : List UInt8 := if x.fro = i ∧ out.length < x.view.length then x.view else out
def roF (i : Int) (out : List UInt8) (x : Ln) : List UInt8 := if (x.fro = i ∧ x.byc = i) ∧ out.length < x.view.length then x.view else out
def rwd (L : List Ln) (i : Int) : List UInt8 := L.foldl (rwF i) []
def rod (L : List Ln) (i : Int) : List UInt8 := L.foldl (roF i) []
def stL (n : Nat) (me : Int) (L : List Ln) : List Int := (List.range n).map fun (i : Nat) => (Hist.cnt (word L (i : Int)) me : Int)
def owL (n : Nat) (me : Int) (L : List Ln) : List Int := (List.range n).map fun (i : Nat) => (Hist.cnt (ownv L (i : Int)) me : Int)
def minL (l : List Int) : Int := match l with | [] => 0 | x :: xs => xs.foldl min x
def cutN (n : Nat) (me : Int) (L : List Ln) : Int := minL (stL n me L)
def seenN (n me : Nat) (L : List Ln) : Int := minL ((owL n (me : Int) L).eraseIdx me)

theorem top_snoc (L : List Ln) (x : Ln) : topL (L ++ [x]) = topF (topL L) x := by simp [topL]
theorem wl_snoc (L : List Ln) (x : Ln) (i : Int) : wl (L ++ [x]) i = wlF i (wl L i) x := by simp [wl]
theorem ol_snoc (L : List Ln) (x : Ln) (i : Int) : ol (L ++ [x]) i = olF i (ol L i) x := by simp [ol]
theorem rwd_snoc (L : List Ln) (x : Ln) (i : Int) : rwd (L ++ [x]) i = rwF i (rwd L i) x := by simp [rwd]
theorem rod_snoc (L : List Ln) (x : Ln) (i : Int) : rod (L ++ [x]) i = roF i (rod L i) x := by simp [rod]
theorem all_snoc (n : Int) (L : List Ln) (x : Ln) : allL n (L ++ [x]) = learnL n (allL n L) x := by simp [allL]
theorem top_mem (L : List Ln) : topL L = noLn ∨ topL L ∈ L := by
  refine snoc_ind (P := fun L => topL L = noLn ∨ topL L ∈ L) (.inl rfl) (fun L x ih => ?_) L
  rw [top_snoc]
  unfold topF
  split
  · exact .inr (by simp)
  · rcases ih with h | h
    · exact .inl h
    · exact .inr (by simp [h])
theorem long_ge (L : List Ln) : ∀ x ∈ L, x.view.length ≤ (longL L).length := by
  refine snoc_ind (P := fun L => ∀ x ∈ L, x.view.length ≤ (longL L).length) (fun x hx => by cases hx) (fun L y ih x hx => ?_) L
  unfold longL at ih ⊢
  rw [top_snoc]
  unfold topF
  rcases List.mem_append.1 hx with h | h
  · have := ih x h
    split <;> omega
  · obtain rfl : x = y := by simpa using h
    split <;> omega
theorem wl_le {T : Nat} {L : List Ln} (h : ∀ x ∈ L, x.view.length ≤ T) (i : Int) : wl L i ≤ T := by
  revert h
  refine snoc_ind (P := fun L => (∀ x ∈ L, x.view.length ≤ T) → wl L i ≤ T) (fun _ => Nat.zero_le _) (fun L y ih h => ?_) L
  rw [wl_snoc]
  have h1 := ih (fun x hx => h x (by simp [hx]))
  have h2 := h y (by simp)
  unfold wlF
  split <;> omega
theorem wl_long (L : List Ln) (i : Int) : wl L i ≤ (longL L).length := wl_le (long_ge L) i
theorem ol_wl (L : List Ln) (i : Int) : ol L i ≤ wl L i := by
  refine snoc_ind (P := fun L => ol L i ≤ wl L i) (Nat.le_refl _) (fun L y ih => ?_) L
  rw [wl_snoc, ol_snoc]
  unfold wlF olF
  by_cases h1 : y.fro = i <;> by_cases h2 : y.byc = i <;> simp [h1, h2] <;> omega
theorem ol_long (L : List Ln) (i : Int) : ol L i ≤ (longL L).length := Nat.le_trans (ol_wl L i) (wl_long L i)
theorem wl_ge (L : List Ln) (i : Int) : ∀ x ∈ L, x.fro = i → x.view.length ≤ wl L i := by
  refine snoc_ind (P := fun L => ∀ x ∈ L, x.fro = i → x.view.length ≤ wl L i) (fun x hx => by cases hx) (fun L y ih x hx hf => ?_) L
  rw [wl_snoc]
  unfold wlF
  rcases List.mem_append.1 hx with h | h
  · have := ih x h hf
    split <;> omega
  · obtain rfl : x = y := by simpa using h
    rw [if_pos hf]
    omega
theorem ol_ge (L : List Ln) (i : Int) : ∀ x ∈ L, x.fro = i → x.byc = i → x.view.length ≤ ol L i := by
  refine snoc_ind (P := fun L => ∀ x ∈ L, x.fro = i → x.byc = i → x.view.length ≤ ol L i) (fun x hx => by cases hx) (fun L y ih x hx hf hb => ?_) L
  rw [ol_snoc]
  unfold olF
  rcases List.mem_append.1 hx with h | h
  · have := ih x h hf hb
    split <;> omega
  · obtain rfl : x = y := by simpa using h
    rw [if_pos ⟨hf, hb⟩]
    omega
theorem wl_sub {R L : List Ln} (h : ∀ x ∈ R, x ∈ L) (i : Int) : wl R i ≤ wl L i := by
  revert h
  refine snoc_ind (P := fun R => (∀ x ∈ R, x ∈ L) → wl R i ≤ wl L i) (fun _ => Nat.zero_le _) (fun R y ih h => ?_) R
  rw [wl_snoc]
  have h1 := ih (fun x hx => h x (by simp [hx]))
  unfold wlF
  split
  · rename_i e
    have := wl_ge L i y (h y (by simp)) e
    omega
  · exact h1
theorem ol_sub {R L : List Ln} (h : ∀ x ∈ R, x ∈ L) (i : Int) : ol R i ≤ ol L i := by
  revert h
  refine snoc_ind (P := fun R => (∀ x ∈ R, x ∈ L) → ol R i ≤ ol L i) (fun _ => Nat.zero_le _) (fun R y ih h => ?_) R
  rw [ol_snoc]
  have h1 := ih (fun x hx => h x (by simp [hx]))
  unfold olF
  split
  · rename_i e
    have := ol_ge L i y (h y (by simp)) e.1 e.2
    omega
  · exact h1
theorem pre_take {x T : List UInt8} (h : x <+: T) : x = T.take x.length := List.prefix_iff_eq_take.1 h
theorem rwd_take {T : List UInt8} {M : List Ln} (h : ∀ x ∈ M, x.view <+: T) (i : Int) : rwd M i = T.take (wl M i) := by
  revert h
  refine snoc_ind (P := fun M => (∀ x ∈ M, x.view <+: T) → rwd M i = T.take (wl M i)) (fun _ => by simp [rwd, wl]) (fun M y ih h => ?_) M
  have h1 := ih (fun x hx => h x (by simp [hx]))
  have h2 := h y (by simp)
  have h3 : wl M i ≤ T.length := wl_le (fun x hx => (h x (by simp [hx])).length_le) i
  rw [rwd_snoc, wl_snoc, h1]
  unfold rwF wlF
  have hl : (T.take (wl M i)).length = wl M i := by rw [List.length_take]; omega
  rw [hl]
  by_cases hf : y.fro = i
  · rw [if_pos hf]
    by_cases hy : wl M i < y.view.length
    · rw [if_pos ⟨hf, hy⟩, Nat.max_eq_right (by omega)]
      exact pre_take h2
    · rw [if_neg (fun e => hy e.2), Nat.max_eq_left (by omega)]
  · rw [if_neg hf, if_neg (fun e => hf e.1)]
theorem rod_take {T : List UInt8} {M : List Ln} (h : ∀ x ∈ M, x.view <+: T) (i : Int) : rod M i = T.take (ol M i) := by
  revert h
  refine snoc_ind (P := fun M => (∀ x ∈ M, x.view <+: T) → rod M i = T.take (ol M i)) (fun _ => by simp [rod, ol]) (fun M y ih h => ?_) M
  have h1 := ih (fun x hx => h x (by simp [hx]))
  have h2 := h y (by simp)
  have h3 : ol M i ≤ T.length := Nat.le_trans (ol_wl M i) (wl_le (fun x hx => (h x (by simp [hx])).length_le) i)
  rw [rod_snoc, ol_snoc, h1]
  unfold roF olF
  have hl : (T.take (ol M i)).length = ol M i := by rw [List.length_take]; omega
  rw [hl]
  by_cases hf : y.fro = i ∧ y.byc = i
  · rw [if_pos hf]
    by_cases hy : ol M i < y.view.length
    · rw [if_pos ⟨hf, hy⟩, Nat.max_eq_right (by omega)]
      exact pre_take h2
    · rw [if_neg (fun e => hy e.2), Nat.max_eq_left (by omega)]
  · rw [if_neg hf, if_neg (fun e => hf e.1)]

/-- What holds of all lines that were learned: each may be, and is a beginning of the longest view. -/
structure PI (n : Int) (L : List Ln) : Prop where
  ok : ∀ x ∈ L, okB n x = true
  wf : ∀ x ∈ L, x.Wf
  pre : ∀ x ∈ L, x.view <+: longL L
theorem PI.nil (n : Int) : PI n [] := ⟨fun _ hx => (by cases hx), fun _ hx => (by cases hx), fun _ hx => (by cases hx)⟩
theorem okB_iff (n : Int) (x : Ln) : okB n x = true ↔ (0 ≤ x.fro ∧ x.fro < n) ∧ (0 ≤ x.byc ∧ x.byc < n) ∧ Hist.rightB x.view n = true ∧ endsB x.view x.byc = true := by simp [okB, and_assoc]
theorem right_len {v : List UInt8} {n : Int} (h : Hist.rightB v n = true) : v.length ≤ 512 := by
  unfold Hist.rightB at h
  simp only [Bool.and_eq_true, decide_eq_true_eq] at h
  exact h.1.2
theorem PI.tag {n : Int} {L : List Ln} (h : PI n L) : (topL L).tag.length = 32 := by
  rcases top_mem L with e | e
  · rw [e]; rfl
  · exact h.wf _ e
theorem PI.long {n : Int} {L : List Ln} (h : PI n L) : (longL L).length ≤ 512 := by
  unfold longL
  rcases top_mem L with e | e
  · rw [e]; exact Nat.zero_le _
  · exact right_len ((okB_iff _ _).1 (h.ok _ e)).2.2.1
theorem PI.by8 {n : Int} {L : List Ln} (h : PI n L) (hn : n ≤ 8) : -1 ≤ (topL L).byc ∧ (topL L).byc < 8 := by
  rcases top_mem L with e | e
  · rw [e]; decide
  · have := ((okB_iff _ _).1 (h.ok _ e)).2.1
    omega
theorem PI.word {n : Int} {L : List Ln} (h : PI n L) (i : Int) : rwd L i = word L i := rwd_take h.pre i
theorem PI.own {n : Int} {L : List Ln} (h : PI n L) (i : Int) : rod L i = ownv L i := rod_take h.pre i
theorem long_snoc (L : List Ln) (x : Ln) : longL (L ++ [x]) = if (longL L).length < x.view.length then x.view else longL L := by
  unfold longL
  rw [top_snoc]
  unfold topF
  split <;> rfl
theorem fit_longer {a b : List UInt8} (h : Hist.fitB a b = true) (hl : b.length < a.length) : b <+: a := by
  rcases (Hist.fit_pre _ _).1 h with e | e
  · exact e
  · have := e.length_le; omega
theorem fit_shorter {a b : List UInt8} (h : Hist.fitB a b = true) (hl : a.length ≤ b.length) : a <+: b := by
  rcases (Hist.fit_pre _ _).1 h with e | e
  · have e2 : b = a := e.eq_of_length (by have := e.length_le; omega)
    rw [e2]
    exact List.prefix_refl _
  · exact e
theorem PI.more {n : Int} {L : List Ln} (h : PI n L) {x : Ln} (hw : x.Wf) (ho : okB n x = true) (hf : Hist.fitB x.view (longL L) = true) : PI n (L ++ [x]) ∧ longL L <+: longL (L ++ [x]) := by
  rw [long_snoc]
  by_cases hl : (longL L).length < x.view.length
  · have h2 := fit_longer hf hl
    rw [if_pos hl]
    refine ⟨⟨fun y hy => ?_, fun y hy => ?_, fun y hy => ?_⟩, h2⟩
    · rcases List.mem_append.1 hy with e | e
      · exact h.ok y e
      · obtain rfl : y = x := by simpa using e
        exact ho
    · rcases List.mem_append.1 hy with e | e
      · exact h.wf y e
      · obtain rfl : y = x := by simpa using e
        exact hw
    · rw [long_snoc, if_pos hl]
      rcases List.mem_append.1 hy with e | e
      · exact (h.pre y e).trans h2
      · obtain rfl : y = x := by simpa using e
        exact List.prefix_refl _
  · have h2 := fit_shorter hf (by omega)
    rw [if_neg hl]
    refine ⟨⟨fun y hy => ?_, fun y hy => ?_, fun y hy => ?_⟩, List.prefix_refl _⟩
    · rcases List.mem_append.1 hy with e | e
      · exact h.ok y e
      · obtain rfl : y = x := by simpa using e
        exact ho
    · rcases List.mem_append.1 hy with e | e
      · exact h.wf y e
      · obtain rfl : y = x := by simpa using e
        exact hw
    · rw [long_snoc, if_neg hl]
      rcases List.mem_append.1 hy with e | e
      · exact h.pre y e
      · obtain rfl : y = x := by simpa using e
        exact h2
theorem learn_cases (n : Int) (L : List Ln) (x : Ln) : (okB n x = false ∧ learnE n L x = 2 ∧ learnL n L x = L) ∨ (okB n x = true ∧ Hist.fitB x.view (longL L) = false ∧ learnE n L x = 8 ∧ learnL n L x = L) ∨ (okB n x = true ∧ Hist.fitB x.view (longL L) = true ∧ learnE n L x = 0 ∧ learnL n L x = L ++ [x]) := by
  unfold learnE learnL
  cases h1 : okB n x
  · exact .inl ⟨rfl, rfl, rfl⟩
  · cases h2 : Hist.fitB x.view (longL L)
    · exact .inr (.inl ⟨rfl, rfl, rfl, rfl⟩)
    · exact .inr (.inr ⟨rfl, rfl, rfl, rfl⟩)
theorem PI.learn {n : Int} {L : List Ln} (h : PI n L) {x : Ln} (hw : x.Wf) : PI n (learnL n L x) ∧ longL L <+: longL (learnL n L x) := by
  rcases learn_cases n L x with ⟨-, -, e⟩ | ⟨-, -, -, e⟩ | ⟨h1, h2, -, e⟩
  · rw [e]; exact ⟨h, List.prefix_refl _⟩
  · rw [e]; exact ⟨h, List.prefix_refl _⟩
  · rw [e]; exact h.more hw h1 h2
theorem all_pi (n : Int) (M : List Ln) (hM : ∀ x ∈ M, x.Wf) : PI n (allL n M) := by
  revert hM
  refine snoc_ind (P := fun M => (∀ x ∈ M, x.Wf) → PI n (allL n M)) (fun _ => PI.nil n) (fun M x ih hM => ?_) M
  rw [all_snoc]
  exact ((ih (fun y hy => hM y (by simp [hy]))).learn (hM x (by simp))).1
theorem all_take (n : Int) (M : List Ln) (k : Nat) (hk : k < M.length) : allL n (M.take (k + 1)) = learnL n (allL n (M.take k)) M[k] := by
  rw [List.take_succ_eq_append_getElem hk, all_snoc]
theorem all_sub (n : Int) (M : List Ln) : ∀ x ∈ allL n M, x ∈ M := by
  refine snoc_ind (P := fun M => ∀ x ∈ allL n M, x ∈ M) (fun x hx => by cases hx) (fun M y ih x hx => ?_) M
  rw [all_snoc] at hx
  rcases learn_cases n (allL n M) y with ⟨-, -, e⟩ | ⟨-, -, -, e⟩ | ⟨-, -, -, e⟩
  · rw [e] at hx
    simp [ih x hx]
  · rw [e] at hx
    simp [ih x hx]
  · rw [e] at hx
    rcases List.mem_append.1 hx with h | h
    · simp [ih x h]
    · have : x = y := by simpa using h
      simp [this]
theorem all_len (n : Int) (M : List Ln) : (allL n M).length ≤ M.length := by
  refine snoc_ind (P := fun M => (allL n M).length ≤ M.length) (Nat.le_refl _) (fun M y ih => ?_) M
  rw [all_snoc]
  rcases learn_cases n (allL n M) y with ⟨-, -, e⟩ | ⟨-, -, -, e⟩ | ⟨-, -, -, e⟩ <;> rw [e] <;> simp <;> omega
theorem few_mem (M : List Ln) : ∀ x ∈ fewL M, x ∈ M := fun _ hx => List.mem_of_mem_take (List.mem_filter.1 hx).1
theorem few_len (M : List Ln) : (fewL M).length ≤ 25 := by
  unfold fewL
  refine Nat.le_trans (List.length_filter_le _ _) ?_
  rw [List.length_take]
  omega
theorem few_short (M : List Ln) : ∀ x ∈ fewL M, x.view.length < 600 := fun x hx => by simpa using (List.mem_filter.1 hx).2
theorem few_take (M : List Ln) (k : Nat) (hk : k < M.length) : (M.take (k + 1)).filter (fun x => decide (x.view.length < 600)) = (M.take k).filter (fun x => decide (x.view.length < 600)) ++ (if M[k].view.length < 600 then [M[k]] else []) := by
  rw [List.take_succ_eq_append_getElem hk, List.filter_append]
  congr 1
  by_cases h : M[k].view.length < 600 <;> simp [h]

/-! ### Counts, the least, what grows -/
theorem cnt_pre {a b : List UInt8} (h : a <+: b) (c : Int) : Hist.cnt a c ≤ Hist.cnt b c := by
  obtain ⟨t, rfl⟩ := h
  rw [Hist.cnt_append]
  omega
theorem take_pre {T T' : List UInt8} (h : T <+: T') {a b : Nat} (hab : a ≤ b) (ha : a ≤ T.length) : T.take a <+: T'.take b := by
  obtain ⟨t, rfl⟩ := h
  rw [List.prefix_take_iff]
  refine ⟨?_, by rw [List.length_take]; omega⟩
  exact (List.take_prefix a T).trans (List.prefix_append T t)
theorem wl_grow (L : List Ln) (x : Ln) (i : Int) : wl L i ≤ wl (L ++ [x]) i := by
  rw [wl_snoc]; unfold wlF; split <;> omega
theorem ol_grow (L : List Ln) (x : Ln) (i : Int) : ol L i ≤ ol (L ++ [x]) i := by
  rw [ol_snoc]; unfold olF; split <;> omega
theorem word_grow {n : Int} {L : List Ln} (h : PI n L) {x : Ln} (hw : x.Wf) (i : Int) : word L i <+: word (learnL n L x) i := by
  have h2 := (h.learn hw).2
  refine take_pre h2 ?_ (wl_long L i)
  rcases learn_cases n L x with ⟨-, -, e⟩ | ⟨-, -, -, e⟩ | ⟨-, -, -, e⟩ <;> rw [e]
  · exact Nat.le_refl _
  · exact Nat.le_refl _
  · exact wl_grow L x i
theorem own_grow {n : Int} {L : List Ln} (h : PI n L) {x : Ln} (hw : x.Wf) (i : Int) : ownv L i <+: ownv (learnL n L x) i := by
  have h2 := (h.learn hw).2
  refine take_pre h2 ?_ (ol_long L i)
  rcases learn_cases n L x with ⟨-, -, e⟩ | ⟨-, -, -, e⟩ | ⟨-, -, -, e⟩ <;> rw [e]
  · exact Nat.le_refl _
  · exact Nat.le_refl _
  · exact ol_grow L x i
theorem own_word (L : List Ln) (i : Int) : ownv L i <+: word L i := take_pre (List.prefix_refl _) (ol_wl L i) (ol_long L i)
theorem word_long (L : List Ln) (i : Int) : word L i <+: longL L := List.take_prefix _ _
theorem st_len (n : Nat) (me : Int) (L : List Ln) : (stL n me L).length = n := by simp [stL]
theorem ow_len (n : Nat) (me : Int) (L : List Ln) : (owL n me L).length = n := by simp [owL]
theorem st_at (n : Nat) (me : Int) (L : List Ln) {i : Nat} (hi : i < n) : (stL n me L).getD i 0 = (Hist.cnt (word L (i : Int)) me : Int) := by simp [stL, List.getD, hi]
theorem ow_at (n : Nat) (me : Int) (L : List Ln) {i : Nat} (hi : i < n) : (owL n me L).getD i 0 = (Hist.cnt (ownv L (i : Int)) me : Int) := by simp [owL, List.getD, hi]
theorem fold_min_mono : ∀ (l m : List Int) (a b : Int), l.length = m.length → a ≤ b → (∀ i, l.getD i 0 ≤ m.getD i 0) → l.foldl min a ≤ m.foldl min b
  | [], [], a, b, _, h, _ => h
  | x :: l, y :: m, a, b, hl, h, hi => by
    rw [List.foldl_cons, List.foldl_cons]
    have h0 : x ≤ y := hi 0
    refine fold_min_mono l m _ _ (by simpa using hl) (by omega) (fun i => hi (i + 1))
theorem min_mono {l m : List Int} (hl : l.length = m.length) (hi : ∀ i, l.getD i 0 ≤ m.getD i 0) : minL l ≤ minL m := by
  match l, m, hl, hi with
  | [], [], _, _ => exact Int.le_refl _
  | x :: l, y :: m, hl, hi => exact fold_min_mono l m x y (by simpa using hl) (hi 0) (fun i => hi (i + 1))
theorem st_mono {n : Nat} {m : Int} {L : List Ln} (h : PI m L) {x : Ln} (hw : x.Wf) (me : Int) (i : Nat) : (stL n me L).getD i 0 ≤ (stL n me (learnL m L x)).getD i 0 := by
  by_cases hi : i < n
  · rw [st_at n me L hi, st_at n me _ hi]
    have := cnt_pre (word_grow h hw (i : Int)) me
    omega
  · have e : ∀ M, (stL n me M).getD i 0 = 0 := fun M => by simp [stL, List.getD, hi]
    rw [e, e]
    exact Int.le_refl _
theorem ow_mono {n : Nat} {m : Int} {L : List Ln} (h : PI m L) {x : Ln} (hw : x.Wf) (me : Int) (i : Nat) : (owL n me L).getD i 0 ≤ (owL n me (learnL m L x)).getD i 0 := by
  by_cases hi : i < n
  · rw [ow_at n me L hi, ow_at n me _ hi]
    have := cnt_pre (own_grow h hw (i : Int)) me
    omega
  · have e : ∀ M, (owL n me M).getD i 0 = 0 := fun M => by simp [owL, List.getD, hi]
    rw [e, e]
    exact Int.le_refl _
theorem cut_mono {n : Nat} {m : Int} {L : List Ln} (h : PI m L) {x : Ln} (hw : x.Wf) (me : Int) : cutN n me L ≤ cutN n me (learnL m L x) :=
  min_mono (by rw [st_len, st_len]) (st_mono h hw me)
theorem erase_getD (l : List Int) (k i : Nat) : (l.eraseIdx k).getD i 0 = if i < k then l.getD i 0 else l.getD (i + 1) 0 := by
  simp only [List.getD, List.getElem?_eraseIdx]
  split <;> rfl
theorem seen_mono {n me : Nat} {m : Int} {L : List Ln} (h : PI m L) {x : Ln} (hw : x.Wf) : seenN n me L ≤ seenN n me (learnL m L x) := by
  refine min_mono (by rw [List.length_eraseIdx, List.length_eraseIdx, ow_len, ow_len]) (fun i => ?_)
  rw [erase_getD, erase_getD]
  split
  · exact ow_mono h hw _ i
  · exact ow_mono h hw _ (i + 1)
theorem cnt_512 {n : Int} {L : List Ln} (h : PI n L) (k : Nat) (me : Int) : Hist.cnt ((longL L).take k) me ≤ 512 := by
  have h1 := Hist.cnt_le ((longL L).take k) me
  have h2 := h.long
  rw [List.length_take] at h1
  omega
/-- The reference's way to the least of the others' counts. -/
def seenR (n me : Nat) (c : Nat → Int) : Int := (List.range n).foldl (fun m i => if i = me then m else min m (c i)) 9999
theorem seen_ref {n me : Nat} (hn : 2 ≤ n) (hn8 : n ≤ 8) (hme : me < n) (c : Nat → Int) (hc : ∀ i, c i ≤ 512) : seenR n me c = minL (((List.range n).map c).eraseIdx me) := by
  have h0 := hc 0
  have h1 := hc 1
  have h9 : n = 2 ∨ n = 3 ∨ n = 4 ∨ n = 5 ∨ n = 6 ∨ n = 7 ∨ n = 8 := by omega
  have h8 : me = 0 ∨ me = 1 ∨ me = 2 ∨ me = 3 ∨ me = 4 ∨ me = 5 ∨ me = 6 ∨ me = 7 := by omega
  clear hc
  rcases h9 with rfl | rfl | rfl | rfl | rfl | rfl | rfl <;> rcases h8 with rfl | rfl | rfl | rfl | rfl | rfl | rfl | rfl <;>
    first | omega | (simp [seenR, minL, List.range_succ, List.eraseIdx]; omega)
theorem seen_is {n me : Nat} (hn : 2 ≤ n) (hn8 : n ≤ 8) (hme : me < n) {m : Int} {L : List Ln} (h : PI m L) : seenR n me (fun i => (Hist.cnt (ownv L (i : Int)) (me : Int) : Int)) = seenN n me L :=
  seen_ref hn hn8 hme _ (fun i => by have := cnt_512 h (ol L (i : Int)) (me : Int); unfold ownv; omega)

/-! ### Two that do not fit; another order -/
theorem PI.both {n : Int} {L : List Ln} (h : PI n L) {a b : Ln} (ha : a ∈ L) (hb : b ∈ L) : Hist.fitB a.view b.view = true := Hist.fit_both (h.pre a ha) (h.pre b hb)
theorem forks_plain {n : Int} {L : List Ln} (h : PI n L) {a b : Ln} (haw : a.Wf) (hbw : b.Wf) (h1 : learnE n L a = 0) (h2 : learnE n (learnL n L a) b = 0) : Hist.fitB a.view b.view = true := by
  rcases learn_cases n L a with ⟨-, e, -⟩ | ⟨-, -, e, -⟩ | ⟨o1, f1, -, e1⟩
  · rw [e] at h1; cases h1
  · rw [e] at h1; cases h1
  · rw [e1] at h2
    rcases learn_cases n (L ++ [a]) b with ⟨-, e, -⟩ | ⟨-, -, e, -⟩ | ⟨o2, f2, -, -⟩
    · rw [e] at h2; cases h2
    · rw [e] at h2; cases h2
    · exact ((h.more haw o1 f1).1.more hbw o2 f2).1.both (a := a) (b := b) (by simp) (by simp)
theorem long_in {n : Int} {L R : List Ln} (h : PI n L) (hs : ∀ x ∈ R, x ∈ L) : longL R <+: longL L := by
  show (topL R).view <+: _
  rcases top_mem R with e | e
  · rw [e]; exact List.nil_prefix
  · exact h.pre _ (hs _ e)
/-- What fits goes in whatever order. -/
theorem again_ok {n : Int} {L R : List Ln} (h : PI n L) (hs : ∀ x ∈ R, x ∈ L) {x : Ln} (hx : x ∈ L) : learnE n R x = 0 ∧ learnL n R x = R ++ [x] := by
  have hf : Hist.fitB x.view (longL R) = true := Hist.fit_both (h.pre x hx) (long_in h hs)
  rcases learn_cases n R x with ⟨e, -⟩ | ⟨-, e, -⟩ | ⟨-, -, e1, e2⟩
  · rw [h.ok x hx] at e; cases e
  · rw [hf] at e; cases e
  · exact ⟨e1, e2⟩
theorem pi_sub {n : Int} {L R : List Ln} (h : PI n L) (hs : ∀ x ∈ R, x ∈ L) : PI n R := by
  refine ⟨fun x hx => h.ok x (hs x hx), fun x hx => h.wf x (hs x hx), fun x hx => ?_⟩
  have h1 := h.pre x (hs x hx)
  have h2 := long_in h hs
  rcases List.prefix_or_prefix_of_prefix h1 h2 with e | e
  · exact e
  · have e2 : longL R = x.view := e.eq_of_length (by have := e.length_le; have := long_ge R x hx; omega)
    rw [e2]
    exact List.prefix_refl _
structure SameL (L R : List Ln) : Prop where
  long : longL R = longL L
  w : ∀ i, wl R i = wl L i
  o : ∀ i, ol R i = ol L i
theorem same_of {n : Int} {L R : List Ln} (h : PI n L) (hs : ∀ x ∈ R, x ∈ L) (hr : ∀ x ∈ L, x ∈ R) : SameL L R := by
  refine ⟨?_, fun i => Nat.le_antisymm (wl_sub hs i) (wl_sub hr i), fun i => Nat.le_antisymm (ol_sub hs i) (ol_sub hr i)⟩
  have h1 := long_in h hs
  refine h1.eq_of_length ?_
  have h2 := h1.length_le
  have h3 : (longL L).length ≤ (longL R).length := by
    show (topL L).view.length ≤ _
    rcases top_mem L with e | e
    · rw [e]; exact Nat.zero_le _
    · exact long_ge R _ (hr _ e)
  omega
theorem SameL.word {L R : List Ln} (h : SameL L R) (i : Int) : word R i = word L i := by unfold Kn.word; rw [h.long, h.w]
theorem SameL.own {L R : List Ln} (h : SameL L R) (i : Int) : ownv R i = ownv L i := by unfold ownv; rw [h.long, h.o]
theorem SameL.st {L R : List Ln} (h : SameL L R) (n : Nat) (me : Int) : stL n me R = stL n me L := by
  unfold stL
  congr 1
  funext i
  rw [h.word]
theorem SameL.cut {L R : List Ln} (h : SameL L R) (n : Nat) (me : Int) : cutN n me R = cutN n me L := by unfold cutN; rw [h.st]
theorem SameL.seen {L R : List Ln} (h : SameL L R) (n me : Nat) : seenN n me R = seenN n me L := by
  unfold seenN owL
  congr 2
  congr 1
  funext i
  rw [h.own]
/-- The lines from the s-th on, then the ones ahead of it. -/
def rotL (L : List Ln) (s : Nat) : List Ln := L.drop (s % L.length) ++ L.take (s % L.length)
theorem rot_len (L : List Ln) (s : Nat) : (rotL L s).length = L.length := by
  unfold rotL
  rw [List.length_append, List.length_drop, List.length_take]
  rcases Nat.eq_zero_or_pos L.length with e | e
  · omega
  · have := Nat.mod_lt s e
    omega
theorem rot_mem (L : List Ln) (s : Nat) (x : Ln) : x ∈ rotL L s ↔ x ∈ L := by
  unfold rotL
  rw [List.mem_append]
  constructor
  · rintro (h | h)
    · exact List.mem_of_mem_drop h
    · exact List.mem_of_mem_take h
  · intro h
    rw [← List.take_append_drop (s % L.length) L, List.mem_append] at h
    exact h.symm
theorem rot_at (L : List Ln) (s i : Nat) (hi : i < L.length) : (rotL L s)[i]? = L[(i + s) % L.length]? := by
  have hp : 0 < L.length := by omega
  have hm := Nat.mod_lt s hp
  have e : (i + s) % L.length = (i + s % L.length) % L.length := by rw [Nat.add_mod_mod]
  rw [e]
  unfold rotL
  generalize s % L.length = t at *
  by_cases h : i < L.length - t
  · rw [List.getElem?_append_left (by rw [List.length_drop]; exact h), List.getElem?_drop, Nat.mod_eq_of_lt (by omega), Nat.add_comm]
  · rw [List.getElem?_append_right (by rw [List.length_drop]; omega), List.length_drop, Nat.mod_eq_sub_mod (by omega), Nat.mod_eq_of_lt (by omega), List.getElem?_take_of_lt (by omega)]
    congr 1
    omega
end Go.Proofs.Ytfigbgpfkhcpcaa.Kn
