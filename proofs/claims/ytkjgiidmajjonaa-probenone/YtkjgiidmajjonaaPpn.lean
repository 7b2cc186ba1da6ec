/-
  Lists of acts that came in, opened for a walk.
-/
import Derived.Test.YtkjgiidmajjonaaWpp
import Derived.Test.YtkjgiidmajjonaaRows
import Derived.ProofKit
import Derived.OpenShut
import Derived.Deep.Slices
namespace Go.Proofs.Ytkjgiidmajjonaa
theorem own : ownKnob Try.prog.godebug = none := by kernel_rfl
theorem laidOut : laidOutB Try.prog = true := by kernel_rfl
end Go.Proofs.Ytkjgiidmajjonaa
namespace Go.Proofs.Ytkjgiidmajjonaa.Kn
open Go Go.ChangeShapes Go.WideShapes Go.ChangeAt Go.WideMaps Go.WideElems Go.RowKit
set_option maxRecDepth 100000

theorem cells_ac : Try.prog.cellsOf 32 = 2 := by kernel_rfl
theorem cells_int : Try.prog.cellsOf 3 = 1 := by kernel_rfl
theorem stp (cs : List Value) (a b c : Nat) (h : a + b = c) : cs.drop a = (cs.drop a).take b ++ cs.drop c := by subst h; rw [← List.drop_drop]; exact (List.take_append_drop b _).symm
theorem idx_some {α : Type} {xs : List α} {n : Nat} (i : Nat) (h : xs.length = n) (hi : i < n) : ∃ y, xs[i]? = some y := ⟨xs[i], List.getElem?_eq_getElem (by omega)⟩
theorem bounds_i64' {n : Int} (h : (Lit.int .i64 n).wf = true) : I64 n := by
  have := bounds_i64 h
  unfold I64
  omega
section
variable {H : Type} {enc : TypeId × Value → H} {W : World} {held : Bool} {fuel : Nat} {cs : List Value} {x : DataW H × List MemPlace}
theorem int_c (h : DataW.trod enc Try.prog W 0 (fun _ => true) held fuel 3 cs = some x) : ∃ n, cs = [nu n] ∧ I64 n := by
  obtain ⟨n, e, -, hw⟩ := DataW.trod_int Try.underlying3 h
  exact ⟨n, e, bounds_i64' hw⟩
theorem ac_c (h : DataW.trod enc Try.prog W 0 (fun _ => true) held fuel 32 cs = some x) : ∃ y : Int × Int, cs = [nu y.1, nu y.2] := by
  obtain ⟨xs, n, _, _, hl, hlen, hfs⟩ := DataW.trod_struct Try.underlying32 h
  rw [cells_ac] at hl
  have hxl : xs.length = 2 := hlen
  have g0 : DataW.trod enc Try.prog W 0 (fun _ => true) held n 3 ((cs.drop 0).take (Try.prog.cellsOf 3)) = xs[0]? := hfs 0 _ rfl
  rw [cells_int] at g0
  obtain ⟨y0, hy0⟩ := idx_some 0 hxl (by decide)
  rw [hy0] at g0
  obtain ⟨a0, e0, -⟩ := int_c g0
  have g1 : DataW.trod enc Try.prog W 0 (fun _ => true) held n 3 ((cs.drop 1).take (Try.prog.cellsOf 3)) = xs[1]? := hfs 1 _ rfl
  rw [cells_int] at g1
  obtain ⟨y1, hy1⟩ := idx_some 1 hxl (by decide)
  rw [hy1] at g1
  obtain ⟨a1, e1, -⟩ := int_c g1
  have hcs : cs = [nu a0] ++ ([nu a1] ++ []) := (stp cs 0 1 1 rfl).trans (congr (congrArg HAppend.hAppend e0) ((stp cs 1 1 2 rfl).trans (congr (congrArg HAppend.hAppend e1) (List.drop_eq_nil_of_le (by omega)))))
  exact ⟨(a0, a1), hcs⟩
theorem list_ofL {Q : Nat → Int × Int → Prop} : ∀ n, (∀ j, j < n → ∃ a, Q j a) → ∃ l : List (Int × Int), l.length = n ∧ ∀ j, (hj : j < l.length) → Q j l[j]
  | 0, _ => ⟨[], rfl, fun j hj => absurd hj (Nat.not_lt_zero j)⟩
  | n + 1, h => by
    obtain ⟨l, hl, hq⟩ := list_ofL n (fun j hj => h j (by omega))
    obtain ⟨a, ha⟩ := h n (by omega)
    refine ⟨l ++ [a], by simp [hl], fun j hj => ?_⟩
    by_cases e : j < l.length
    · rw [List.getElem_append_left e]
      exact hq j e
    · obtain rfl : j = n := by simp [hl] at hj; omega
      rw [List.getElem_append_right (by omega)]
      simpa [hl] using ha
theorem acs_c (h : DataW.trod enc Try.prog W 0 (fun _ => true) true fuel 22 cs = some x) : ∃ a M cap, cs = [.slice a (List.length M) cap] ∧ AcsAt W a M := by
  rcases Go.Deep.open_slice Try.underlying22 h with ⟨hcs, hx⟩ | ⟨a', len', cap', m, n, Df, Pf, hcs, hb, hl, hm, hmm, hx, hat⟩
  · exact ⟨none, [], 0, by simpa using hcs, fun j hj => absurd hj (Nat.not_lt_zero j)⟩
  · simp only [if_true] at hmm
    subst hmm
    obtain ⟨M, hal, hac⟩ := list_ofL (Q := fun j c => ∃ b off, (some a' : Option Addr) = some ⟨b, off, none⟩ ∧ W.cell? ⟨b, off + j * 2, none⟩ = some (nu c.1) ∧ W.cell? ⟨b, off + j * 2 + 1, none⟩ = some (nu c.2)) len' (fun j hj => by
      obtain ⟨cs', hcs', ht⟩ := hat j (by omega)
      rw [cells_ac] at hcs'
      obtain ⟨c, rfl⟩ := ac_c ht
      have hcell := (World.cells?_some hcs').2.2
      obtain ⟨b, off, spot⟩ := a'
      have hspot : spot = none := by
        obtain ⟨cs0, hcs0, ht0⟩ := hat 0 (by omega)
        rw [cells_ac] at hcs0
        obtain ⟨c0, rfl⟩ := ac_c ht0
        have h0 := (World.cells?_some hcs0).2.2 0 (by omega)
        have h1 : [nu c0.1, nu c0.2][0]? = some (nu c0.1) := rfl
        rw [h1] at h0
        simpa [Addr.add] using World.cell?_spot h0
      subst hspot
      refine ⟨c, b, off, rfl, ?_, ?_⟩
      · have h0 := hcell 0 (by omega)
        rw [Go.WideShapes.add_plain, Go.WideShapes.add_plain] at h0
        exact h0
      · have h0 := hcell 1 (by omega)
        rw [Go.WideShapes.add_plain, Go.WideShapes.add_plain] at h0
        exact h0)
    exact ⟨some a', M, _, by rw [hal]; exact hcs, fun j hj => hac j hj⟩
end
section
variable {H : Type} {enc : TypeId × Value → H} {W : World} {base : Nat} {v : Value} {d : DataW H} {p : List MemPlace}
theorem open_acs (hv : Value.okWide Try.prog W .any base 22 v)
    (h : DataW.Trod enc Try.prog W 0 (fun _ => true) true 22 v d p) : ∃ a M cap, v = .slice a (List.length M) cap ∧ AcsAt W a M := by
  obtain ⟨a, len, cap, rfl⟩ := okWide_slice Try.underlying22 hv
  obtain ⟨fuel, hf⟩ := h
  obtain ⟨a', M, cap', hc, hM⟩ := acs_c hf
  simp [Value.cells] at hc
  obtain ⟨rfl, rfl, rfl⟩ := hc
  exact ⟨_, M, _, rfl, hM⟩
end
end Go.Proofs.Ytkjgiidmajjonaa.Kn
