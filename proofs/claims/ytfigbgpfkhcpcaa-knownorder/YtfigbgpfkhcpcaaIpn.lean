/-
  Lines, and lists of lines that came in, opened for a walk.
-/
import Derived.Test.YtfigbgpfkhcpcaaIwk
import Derived.Test.YtfigbgpfkhcpcaaRows
import Derived.ProofKit
import Derived.OpenShut
import Derived.Deep.Slices
namespace Go.Proofs.Ytfigbgpfkhcpcaa
theorem own : ownKnob Try.prog.godebug = none := by kernel_rfl
theorem laidOut : laidOutB Try.prog = true := by kernel_rfl
end Go.Proofs.Ytfigbgpfkhcpcaa
namespace Go.Proofs.Ytfigbgpfkhcpcaa.Kn
open Go Go.ChangeShapes Go.WideShapes Go.ChangeAt Go.WideMaps Go.WideElems Go.RowKit
set_option maxRecDepth 100000

theorem cells_ln : Try.prog.cellsOf 36 = 35 := by kernel_rfl
theorem cells_lns : Try.prog.cellsOf 22 = 1 := by kernel_rfl
theorem cells_four : Try.prog.cellsOf 24 = 4 := by kernel_rfl
theorem cells_dig : Try.prog.cellsOf 32 = 32 := by kernel_rfl
theorem cells_byt : Try.prog.cellsOf 5 = 1 := by kernel_rfl
theorem cells_int : Try.prog.cellsOf 3 = 1 := by kernel_rfl
theorem cells_str : Try.prog.cellsOf 9 = 1 := by kernel_rfl
theorem bytes_list : ∀ (cs : List Value), (∀ i, i < cs.length → ∃ n : Int, cs[i]? = some (.int .u8 n) ∧ 0 ≤ n ∧ n ≤ 255) → ∃ l : List UInt8, l.length = cs.length ∧ cs = dg l
  | [], _ => ⟨[], rfl, rfl⟩
  | c :: cs, h => by
    obtain ⟨n, hn, h0, h1⟩ := h 0 (by simp)
    obtain ⟨l, hl, hcs⟩ := bytes_list cs (fun i hi => by
      obtain ⟨m, hm, h2⟩ := h (i + 1) (by simpa using hi)
      exact ⟨m, by simpa using hm, h2⟩)
    refine ⟨UInt8.ofNat n.toNat :: l, by simp [hl], ?_⟩
    have hc : c = .int .u8 n := by simpa using hn
    have e : dg (UInt8.ofNat n.toNat :: l) = cb (UInt8.ofNat n.toNat) :: dg l := rfl
    rw [e, ← hcs, hc]
    congr 1
    unfold cb bv
    congr 1
    rw [UInt8.toNat_ofNat']
    omega
theorem stp (cs : List Value) (a b c : Nat) (h : a + b = c) : cs.drop a = (cs.drop a).take b ++ cs.drop c := by subst h; rw [← List.drop_drop]; exact (List.take_append_drop b _).symm
theorem idx_some {α : Type} {xs : List α} {n : Nat} (i : Nat) (h : xs.length = n) (hi : i < n) : ∃ y, xs[i]? = some y := ⟨xs[i], List.getElem?_eq_getElem (by omega)⟩
theorem bounds_i64' {n : Int} (h : (Lit.int .i64 n).wf = true) : I64 n := by
  have := bounds_i64 h
  unfold I64
  omega
section
variable {H : Type} {enc : TypeId × Value → H} {W : World} {held : Bool} {fuel : Nat} {cs : List Value} {x : DataW H × List MemPlace}
theorem int_c (h : DataW.trod enc Try.prog W 0 (fun _ => true) held fuel 3 cs = some x) : ∃ n, cs = [nu n] ∧ I64 n := by
  obtain ⟨n, e, -, hw⟩ := DataW.trod_int Try.underlying3 h
  exact ⟨n, e, bounds_i64' hw⟩
theorem str_c (h : DataW.trod enc Try.prog W 0 (fun _ => true) held fuel 9 cs = some x) : ∃ s : List UInt8, cs = [st s] := by
  obtain ⟨A, e, -, -⟩ := DataW.trod_string Try.underlying9 h
  exact ⟨A.data.toList, by rw [e]⟩
theorem dig_c (h : DataW.trod enc Try.prog W 0 (fun _ => true) held fuel 32 cs = some x) : ∃ l : List UInt8, cs = dg l ∧ l.length = 32 := by
  obtain ⟨xs, m, _, hx, hlen, hxl, hat⟩ := DataW.trod_array Try.underlying32 h
  rw [cells_dig] at hlen
  rw [cells_byt] at hat
  obtain ⟨l, hl, hcs⟩ := bytes_list cs (fun i hi => by
    have h1 := hat i (by omega)
    cases hq : xs[i]? with
    | none => rw [List.getElem?_eq_none_iff] at hq; omega
    | some x =>
      rw [hq] at h1
      obtain ⟨n, hn, -, hw⟩ := DataW.trod_int Try.underlying5 h1
      have h2 : cs[i]? = some (.int .u8 n) := by
        have := congrArg (·[0]?) hn
        simpa [List.getElem?_take, List.getElem?_drop] using this
      exact ⟨n, h2, bounds_u8 hw⟩)
  exact ⟨l, hcs, by omega⟩
theorem ln_c (h : DataW.trod enc Try.prog W 0 (fun _ => true) held fuel 36 cs = some x) : ∃ y : Ln, cs = lnC y ∧ y.Wf := by
  obtain ⟨xs, n, _, _, hl, hlen, hfs⟩ := DataW.trod_struct Try.underlying36 h
  rw [cells_ln] at hl
  have hxl : xs.length = 4 := hlen
  have g0 : DataW.trod enc Try.prog W 0 (fun _ => true) held n 3 ((cs.drop 0).take (Try.prog.cellsOf 3)) = xs[0]? := hfs 0 _ rfl
  rw [cells_int] at g0
  obtain ⟨y0, hy0⟩ := idx_some 0 hxl (by decide)
  rw [hy0] at g0
  obtain ⟨a0, e0, -⟩ := int_c g0
  have g1 : DataW.trod enc Try.prog W 0 (fun _ => true) held n 3 ((cs.drop 1).take (Try.prog.cellsOf 3)) = xs[1]? := hfs 1 _ rfl
  rw [cells_int] at g1
  obtain ⟨y1, hy1⟩ := idx_some 1 hxl (by decide)
  rw [hy1] at g1
  obtain ⟨a1, e1, -⟩ := int_c g1
  have g2 : DataW.trod enc Try.prog W 0 (fun _ => true) held n 9 ((cs.drop 2).take (Try.prog.cellsOf 9)) = xs[2]? := hfs 2 _ rfl
  rw [cells_str] at g2
  obtain ⟨y2, hy2⟩ := idx_some 2 hxl (by decide)
  rw [hy2] at g2
  obtain ⟨a2, e2⟩ := str_c g2
  have g3 : DataW.trod enc Try.prog W 0 (fun _ => true) held n 32 ((cs.drop 3).take (Try.prog.cellsOf 32)) = xs[3]? := hfs 3 _ rfl
  rw [cells_dig] at g3
  obtain ⟨y3, hy3⟩ := idx_some 3 hxl (by decide)
  rw [hy3] at g3
  obtain ⟨a3, e3, b3⟩ := dig_c g3
  have hcs : cs = [nu a0] ++ ([nu a1] ++ ([st a2] ++ (dg a3 ++ []))) := (stp cs 0 1 1 rfl).trans (congr (congrArg HAppend.hAppend e0) ((stp cs 1 1 2 rfl).trans (congr (congrArg HAppend.hAppend e1) ((stp cs 2 1 3 rfl).trans (congr (congrArg HAppend.hAppend e2) ((stp cs 3 32 35 rfl).trans (congr (congrArg HAppend.hAppend e3) (List.drop_eq_nil_of_le (by omega)))))))))
  refine ⟨⟨a0, a1, a2, a3⟩, ?_, b3⟩
  rw [hcs]; simp [lnC]
theorem list_ofL {Q : Nat → Ln → Prop} : ∀ n, (∀ j, j < n → ∃ a, Q j a) → ∃ l : List Ln, l.length = n ∧ ∀ j, (hj : j < l.length) → Q j l[j]
  | 0, _ => ⟨[], rfl, fun j hj => absurd hj (Nat.not_lt_zero j)⟩
  | n + 1, h => by
    obtain ⟨l, hl, hq⟩ := list_ofL n (fun j hj => h j (by omega))
    obtain ⟨a, ha⟩ := h n (by omega)
    refine ⟨l ++ [a], by simp [hl], fun j hj => ?_⟩
    by_cases e : j < l.length
    · rw [List.getElem_append_left e]
      exact hq j e
    · obtain rfl : j = n := by simp [hl] at hj; omega
      rw [List.getElem_append_right (by omega)]
      simpa [hl] using ha
theorem lns_c (h : DataW.trod enc Try.prog W 0 (fun _ => true) true fuel 22 cs = some x) : ∃ a M cap, cs = [.slice a (List.length M) cap] ∧ LinesAt W a M := by
  rcases Go.Deep.open_slice Try.underlying22 h with ⟨hcs, hx⟩ | ⟨a', len', cap', m, n, Df, Pf, hcs, hb, hl, hm, hmm, hx, hat⟩
  · exact ⟨none, [], 0, by simpa using hcs, fun x hx => (by cases hx), fun j hj => absurd hj (Nat.not_lt_zero j)⟩
  · simp only [if_true] at hmm
    subst hmm
    obtain ⟨M, hal, hac⟩ := list_ofL (Q := fun j c => c.Wf ∧ ∃ b off, (some a' : Option Addr) = some ⟨b, off, none⟩ ∧ ∀ i y, (lnC c)[i]? = some y → W.cell? ⟨b, off + j * 35 + i, none⟩ = some y) len' (fun j hj => by
      obtain ⟨cs', hcs', ht⟩ := hat j (by omega)
      rw [cells_ln] at hcs'
      obtain ⟨c, rfl, hok⟩ := ln_c ht
      have hcell := (World.cells?_some hcs').2.2
      obtain ⟨b, off, spot⟩ := a'
      have hspot : spot = none := by
        obtain ⟨cs0, hcs0, ht0⟩ := hat 0 (by omega)
        rw [cells_ln] at hcs0
        obtain ⟨c0, rfl, -⟩ := ln_c ht0
        have h0 := (World.cells?_some hcs0).2.2 0 (by omega)
        have h1 : (lnC c0)[0]? = some (nu c0.fro) := rfl
        rw [h1] at h0
        simpa [Addr.add] using World.cell?_spot h0
      subst hspot
      refine ⟨c, hok, b, off, rfl, fun q y hy => ?_⟩
      have hc35 : q < 35 := by have := (List.getElem?_eq_some_iff.1 hy).1; rwa [lnC_len hok] at this
      have h0 := hcell q hc35
      rw [hy, Go.WideShapes.add_plain, Go.WideShapes.add_plain] at h0
      exact h0)
    refine ⟨some a', M, _, by rw [hal]; exact hcs, fun x hx => ?_, fun j hj => (hac j hj).2⟩
    obtain ⟨j, hj, rfl⟩ := List.getElem_of_mem hx
    exact (hac j hj).1
theorem four_c (h : DataW.trod enc Try.prog W 0 (fun _ => true) true fuel 24 cs = some x) : ∃ n me other a M cap, cs = [nu n, nu me, .slice a (List.length M) cap, nu other] ∧ LinesAt W a M := by
  obtain ⟨xs, n, _, _, hl, hlen, hfs⟩ := DataW.trod_struct Try.underlying24 h
  rw [cells_four] at hl
  have hxl : xs.length = 4 := hlen
  have g0 : DataW.trod enc Try.prog W 0 (fun _ => true) true n 3 ((cs.drop 0).take (Try.prog.cellsOf 3)) = xs[0]? := hfs 0 _ rfl
  rw [cells_int] at g0
  obtain ⟨y0, hy0⟩ := idx_some 0 hxl (by decide)
  rw [hy0] at g0
  obtain ⟨a0, e0, -⟩ := int_c g0
  have g1 : DataW.trod enc Try.prog W 0 (fun _ => true) true n 3 ((cs.drop 1).take (Try.prog.cellsOf 3)) = xs[1]? := hfs 1 _ rfl
  rw [cells_int] at g1
  obtain ⟨y1, hy1⟩ := idx_some 1 hxl (by decide)
  rw [hy1] at g1
  obtain ⟨a1, e1, -⟩ := int_c g1
  have g2 : DataW.trod enc Try.prog W 0 (fun _ => true) true n 22 ((cs.drop 2).take (Try.prog.cellsOf 22)) = xs[2]? := hfs 2 _ rfl
  rw [cells_lns] at g2
  obtain ⟨y2, hy2⟩ := idx_some 2 hxl (by decide)
  rw [hy2] at g2
  obtain ⟨a, M, cap, e2, hM⟩ := lns_c g2
  have g3 : DataW.trod enc Try.prog W 0 (fun _ => true) true n 3 ((cs.drop 3).take (Try.prog.cellsOf 3)) = xs[3]? := hfs 3 _ rfl
  rw [cells_int] at g3
  obtain ⟨y3, hy3⟩ := idx_some 3 hxl (by decide)
  rw [hy3] at g3
  obtain ⟨a3, e3, -⟩ := int_c g3
  have hcs : cs = [nu a0] ++ ([nu a1] ++ ([.slice a M.length cap] ++ ([nu a3] ++ []))) := (stp cs 0 1 1 rfl).trans (congr (congrArg HAppend.hAppend e0) ((stp cs 1 1 2 rfl).trans (congr (congrArg HAppend.hAppend e1) ((stp cs 2 1 3 rfl).trans (congr (congrArg HAppend.hAppend e2) ((stp cs 3 1 4 rfl).trans (congr (congrArg HAppend.hAppend e3) (List.drop_eq_nil_of_le (by omega)))))))))
  exact ⟨a0, a1, a3, a, M, cap, by rw [hcs]; rfl, hM⟩
end
theorem agg_of {v : Value} {l : List Value} (h : v.cells.toList = l) (hl : 1 < l.length) : v = .agg l.toArray := by
  cases v with
  | agg cs => simp only [Value.cells] at h; rw [← h, Array.toArray_toList]
  | _ => simp [Value.cells] at h; subst h; simp at hl
section
variable {H : Type} {enc : TypeId × Value → H} {W : World} {base : Nat} {v : Value} {d : DataW H} {p : List MemPlace}
theorem open_line (h : DataW.Trod enc Try.prog W 0 (fun _ => true) true 36 v d p) : ∃ y : Ln, v = .agg (lnC y).toArray ∧ y.Wf := by
  obtain ⟨fuel, hf⟩ := h
  obtain ⟨y, hc, h1⟩ := ln_c hf
  exact ⟨y, agg_of hc (by rw [lnC_len h1]; decide), h1⟩
theorem open_four (h : DataW.Trod enc Try.prog W 0 (fun _ => true) true 24 v d p) : ∃ n me other a M cap, v = .agg #[nu n, nu me, .slice a (List.length M) cap, nu other] ∧ LinesAt W a M := by
  obtain ⟨fuel, hf⟩ := h
  obtain ⟨n, me, other, a, M, cap, hc, hM⟩ := four_c hf
  exact ⟨n, me, other, a, M, cap, agg_of hc (by simp), hM⟩
theorem open_lines (hv : Value.okWide Try.prog W .any base 22 v)
    (h : DataW.Trod enc Try.prog W 0 (fun _ => true) true 22 v d p) : ∃ a M cap, v = .slice a (List.length M) cap ∧ LinesAt W a M := by
  obtain ⟨a, len, cap, rfl⟩ := okWide_slice Try.underlying22 hv
  obtain ⟨fuel, hf⟩ := h
  obtain ⟨a', M, cap', hc, hM⟩ := lns_c hf
  simp [Value.cells] at hc
  obtain ⟨rfl, rfl, rfl⟩ := hc
  exact ⟨_, M, _, rfl, hM⟩
end
end Go.Proofs.Ytfigbgpfkhcpcaa.Kn
