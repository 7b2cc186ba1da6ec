/-
  Single operations and rows of numbers, for every program: texts cut, the greater of two, lists of zeros made, numbers laid one by one.
-/
import Derived.Test.YtfigbgpfkhcpcaaImm
import Derived.Laws.Strings3
namespace Go.Proofs.Ytfigbgpfkhcpcaa.Kn
open Go Go.RowKit
set_option maxRecDepth 100000

section
variable {P : Program} {o : Oper} {a : Act} {w : World} {Q : Exit → Act → World → Prop} {K : Act → World → Prop}
theorem op_sliceS (x y : Tmp) (t : TypeId) (ho : o.op = .slice t (.tmp x) none (some (.tmp y)) none) (ht : P.underlying t = some .string) (T : List UInt8) (k : Nat) (hk : k ≤ T.length) (hx : a.tmps.getD x undef = st T) (hy : a.tmps.getD y undef = nu k) (h : K (a.put o.dst (st (T.take k))) w) : o.wp P a w K Q := by
  have ex : a.eval (.tmp x) = st T := hx
  have ey : a.eval (.tmp y) = nu k := hy
  have e := Hist.ext_take T k
  have hsz : (⟨T.toArray⟩ : ByteArray).size = T.length := rfl
  have hr : (Instr.slice t (st T) none (some (nu k)) none).run P w = .ok (st (T.take k)) w := by
    have h0 := run_slice_string_to_if (P := P) (w := w) t ⟨T.toArray⟩ .i64 (k : Int) ht
    rw [h0]
    simp [hsz, hk, e]
  unfold Oper.wp execOp
  simp [ho, ex, ey, Instr.sliceAt, run_underlying ht, hr]
  exact h
theorem op_max (x y : Tmp) (m n : Int) (ho : o.op = .call { callee := .builtin .max, args := #[.tmp x, .tmp y], argTypes := #[3, 3] }) (hx : a.tmps.getD x undef = nu m) (hy : a.tmps.getD y undef = nu n) (h : K (a.put o.dst (nu (max m n))) w) : o.wp P a w K Q := by
  have ex : a.eval (.tmp x) = nu m := hx
  have ey : a.eval (.tmp y) = nu n := hy
  have hr : ∀ t, (Builtin.max_ #[3, 3] t #[nu m, nu n]).run P w = .ok (nu (max m n)) w := fun t => by
    by_cases e : m < n
    · rw [Int.max_eq_right (by omega)]
      simp [Builtin.max_, Builtin.max2, e]
    · rw [Int.max_eq_left (by omega)]
      simp [Builtin.max_, Builtin.max2, e]
  unfold Oper.wp execOp
  simp [ho, resolve, invoke, builtin, ex, ey, hr, Result.andThen]
  exact h
theorem op_min (x y : Tmp) (m n : Int) (ho : o.op = .call { callee := .builtin .min, args := #[.tmp x, .tmp y], argTypes := #[3, 3] }) (hx : a.tmps.getD x undef = nu m) (hy : a.tmps.getD y undef = nu n) (h : K (a.put o.dst (nu (min m n))) w) : o.wp P a w K Q := by
  have ex : a.eval (.tmp x) = nu m := hx
  have ey : a.eval (.tmp y) = nu n := hy
  have hr : ∀ t, (Builtin.min_ #[3, 3] t #[nu m, nu n]).run P w = .ok (nu (min m n)) w := fun t => by
    by_cases e : n < m
    · rw [Int.min_eq_right (by omega)]
      simp [Builtin.min_, Builtin.min2, e]
      try omega
    · rw [Int.min_eq_left (by omega)]
      simp [Builtin.min_, Builtin.min2, e]
      try omega
  unfold Oper.wp execOp
  simp [ho, resolve, invoke, builtin, ex, ey, hr, Result.andThen]
  exact h
end
theorem made_ints (n : Nat) : madeCells (Value.int .i64 0).cells (n * 1) = (List.replicate n (nu 0)).toArray := by
  apply Array.ext_getElem?
  intro i
  by_cases hi : i < n
  · rw [Array.getElem?_eq_getElem (by rw [size_madeCells]; omega), List.getElem?_toArray, List.getElem?_replicate, if_pos hi]
    simp [madeCells, Value.cells, Nat.mod_one]
  · rw [Array.getElem?_eq_none (by rw [size_madeCells]; omega), List.getElem?_toArray, List.getElem?_eq_none (by simp; omega)]
theorem make_ints (n : Nat) (hn : n ≤ 8) (W : World) : (Instr.makeSlice 39 (.int .i64 (n : Int)) (.int .i64 (n : Int))).run Try.prog W = .ok (.slice (some ⟨W.heap.size, 0, none⟩) n n) (W.alloc (.cells (List.replicate n (nu 0)).toArray 3)) := by
  obtain ⟨i, hi, hz0, hz1, hz2⟩ := info_parts info3
  have h := run_makeSlice (P := Try.prog) W 39 3 i _ Try.underlying39 hi hz0 .i64 .i64 n n (by omega) (by omega) (by rw [hz1, Int.toNat_natCast]; omega) (by rw [hz2]; omega) (by omega)
  rw [hz1] at h
  simp only [Int.toNat_natCast] at h
  rw [made_ints] at h
  exact h
theorem wl_make {ops : Array Oper} {rest : List Oper} {o : Oper} {a : Act} {w : World} {Q : Exit → Act → World → Prop} (x : Operand) (ho : o.op = .makeSlice 39 x x) (hw : Region.wanted o (yielded ops a.tmps) = true) (n : Nat) (hn : n ≤ 8) (Z : Array Value) (hZ : (List.replicate n (nu 0)).toArray = Z) (hx : a.eval x = nu n)
    (h : wpList Try.prog ops Q rest (a.put o.dst (.slice (some ⟨w.heap.size, 0, none⟩) n n)) (w.alloc (.cells Z 3))) : wpList Try.prog ops Q (o :: rest) a w := by
  refine BigFrame.wpList_want hw fun K hK => ?_
  have h' := hK _ _ h
  unfold Oper.wp execOp
  simp only [ho, hx, Sem.run_bind, make_ints n hn w, Result.andThen_ok, Sem.run_pure, hZ]
  exact h'
/-- Numbers laid one by one. -/
def tc (c : Nat → Int) (n k : Nat) : List Int := (List.range n).map fun j => if j < k then c j else 0
theorem tc_len (c : Nat → Int) (n k : Nat) : (tc c n k).length = n := by simp [tc]
theorem tc_full (c : Nat → Int) (n : Nat) : tc c n n = (List.range n).map c := by
  unfold tc
  apply List.map_congr_left
  intro j hj
  rw [if_pos (List.mem_range.1 hj)]
theorem tc_zero (c : Nat → Int) (n : Nat) : ic (tc c n 0) = List.replicate n (nu 0) := by
  unfold ic tc
  rw [List.map_map]
  apply List.ext_getElem
  · simp
  · intro i h1 h2
    simp
theorem tc_set (c : Nat → Int) (n k : Nat) (hk : k < n) : ic (tc c n k) = (ic (tc c n k)).take k ++ ([nu 0] ++ (ic (tc c n k)).drop (k + 1)) ∧ ic (tc c n (k + 1)) = (ic (tc c n k)).take k ++ ([nu (c k)] ++ (ic (tc c n k)).drop (k + 1)) := by
  have hl : ∀ m, (ic (tc c n m)).length = n := fun m => by simp [ic, tc_len]
  have hat : ∀ m i, i < n → (ic (tc c n m))[i]? = some (nu (if i < m then c i else 0)) := fun m i hi => by simp [ic, tc, hi]
  have e : ∀ (v : Value) (M : List Value), M.length = n → (∀ i, i < n → i ≠ k → M[i]? = (ic (tc c n k))[i]?) → M[k]? = some v → M = (ic (tc c n k)).take k ++ ([v] ++ (ic (tc c n k)).drop (k + 1)) := by
    intro v M hM h1 h2
    apply List.ext_getElem?
    intro i
    by_cases hi : i < n
    · rcases Nat.lt_trichotomy i k with h | h | h
      · rw [h1 i hi (by omega), List.getElem?_append_left (by rw [List.length_take, hl]; omega), List.getElem?_take_of_lt h]
      · subst h
        rw [h2, List.getElem?_append_right (by rw [List.length_take, hl]; omega), List.length_take, hl, show i - min i n = 0 by omega]
        rfl
      · rw [h1 i hi (by omega), List.getElem?_append_right (by rw [List.length_take, hl]; omega), List.length_take, hl, List.getElem?_append_right (by simp; omega), List.getElem?_drop]
        congr 1
        simp
        omega
    · rw [List.getElem?_eq_none (by omega), List.getElem?_eq_none (by simp [hl]; omega)]
  refine ⟨e _ _ (hl k) (fun _ _ _ => rfl) (by rw [hat k k hk, if_neg (by omega)]), e _ _ (hl (k + 1)) (fun i hi hne => ?_) (by rw [hat (k + 1) k hk, if_pos (by omega)])⟩
  rw [hat (k + 1) i hi, hat k i hi]
  by_cases h : i < k
  · rw [if_pos h, if_pos (by omega)]
  · rw [if_neg h, if_neg (by omega)]
end Go.Proofs.Ytfigbgpfkhcpcaa.Kn
