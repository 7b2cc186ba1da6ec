/-
  Blobs, calls and lists of calls that came in, opened for a walk.
-/
import Derived.Test.YtjpclmkkccffhaaBmd
import Derived.Test.YtjpclmkkccffhaaRows
import Derived.ProofKit
import Derived.OpenShut
import Derived.Deep.Slices
namespace Go.Proofs.Ytjpclmkkccffhaa
theorem own : ownKnob Try.prog.godebug = none := by kernel_rfl
theorem laidOut : laidOutB Try.prog = true := by kernel_rfl
end Go.Proofs.Ytjpclmkkccffhaa
namespace Go.Proofs.Ytjpclmkkccffhaa.Bl
open Go Go.ChangeShapes Go.WideShapes Go.ChangeAt Go.WideMaps Go.WideElems Go.RowKit
set_option maxRecDepth 100000

theorem cells_dig : Try.prog.cellsOf 31 = 32 := by kernel_rfl
theorem cells_byt : Try.prog.cellsOf 5 = 1 := by kernel_rfl
theorem cells_int : Try.prog.cellsOf 3 = 1 := by kernel_rfl
theorem cells_str : Try.prog.cellsOf 9 = 1 := by kernel_rfl
theorem cells_blo : Try.prog.cellsOf 33 = 35 := by kernel_rfl
theorem cells_ints : Try.prog.cellsOf 39 = 1 := by kernel_rfl
theorem cells_act : Try.prog.cellsOf 42 = 39 := by kernel_rfl
theorem bytes_list : ∀ (cs : List Value), (∀ i, i < cs.length → ∃ n : Int, cs[i]? = some (.int .u8 n) ∧ 0 ≤ n ∧ n ≤ 255) → ∃ l : List UInt8, l.length = cs.length ∧ cs = dg l
  | [], _ => ⟨[], rfl, rfl⟩
  | c :: cs, h => by
    obtain ⟨n, hn, h0, h1⟩ := h 0 (by simp)
    obtain ⟨l, hl, hcs⟩ := bytes_list cs (fun i hi => by
      obtain ⟨m, hm, h2⟩ := h (i + 1) (by simpa using hi)
      exact ⟨m, by simpa using hm, h2⟩)
    refine ⟨UInt8.ofNat n.toNat :: l, by simp [hl], ?_⟩
    have hc : c = .int .u8 n := by simpa using hn
    have e : dg (UInt8.ofNat n.toNat :: l) = cb (UInt8.ofNat n.toNat) :: dg l := rfl
    rw [e, ← hcs, hc]
    congr 1
    unfold cb bv
    congr 1
    rw [UInt8.toNat_ofNat']
    omega
theorem stp (cs : List Value) (a b c : Nat) (h : a + b = c) : cs.drop a = (cs.drop a).take b ++ cs.drop c := by subst h; rw [← List.drop_drop]; exact (List.take_append_drop b _).symm
theorem idx_some {α : Type} {xs : List α} {n : Nat} (i : Nat) (h : xs.length = n) (hi : i < n) : ∃ y, xs[i]? = some y := ⟨xs[i], List.getElem?_eq_getElem (by omega)⟩
theorem bounds_i64' {n : Int} (h : (Lit.int .i64 n).wf = true) : I64 n := by
  have := bounds_i64 h
  unfold I64
  omega
section
variable {H : Type} {enc : TypeId × Value → H} {W : World} {held : Bool} {fuel : Nat} {cs : List Value} {x : DataW H × List MemPlace}
theorem int_c (h : DataW.trod enc Try.prog W 0 (fun _ => true) held fuel 3 cs = some x) : ∃ n, cs = [nu n] ∧ I64 n := by
  obtain ⟨n, e, -, hw⟩ := DataW.trod_int Try.underlying3 h
  exact ⟨n, e, bounds_i64' hw⟩
theorem str_c (h : DataW.trod enc Try.prog W 0 (fun _ => true) held fuel 9 cs = some x) : ∃ s : List UInt8, cs = [st s] := by
  obtain ⟨A, e, -, -⟩ := DataW.trod_string Try.underlying9 h
  exact ⟨A.data.toList, by rw [e]⟩
theorem dig_c (h : DataW.trod enc Try.prog W 0 (fun _ => true) held fuel 31 cs = some x) : ∃ l : List UInt8, cs = dg l ∧ l.length = 32 := by
  obtain ⟨xs, m, _, hx, hlen, hxl, hat⟩ := DataW.trod_array Try.underlying31 h
  rw [cells_dig] at hlen
  rw [cells_byt] at hat
  obtain ⟨l, hl, hcs⟩ := bytes_list cs (fun i hi => by
    have h1 := hat i (by omega)
    cases hq : xs[i]? with
    | none => rw [List.getElem?_eq_none_iff] at hq; omega
    | some x =>
      rw [hq] at h1
      obtain ⟨n, hn, -, hw⟩ := DataW.trod_int Try.underlying5 h1
      have h2 : cs[i]? = some (.int .u8 n) := by
        have := congrArg (·[0]?) hn
        simpa [List.getElem?_take, List.getElem?_drop] using this
      exact ⟨n, h2, bounds_u8 hw⟩)
  exact ⟨l, hcs, by omega⟩
theorem ints_c (h : DataW.trod enc Try.prog W 0 (fun _ => true) held fuel 39 cs = some x) : ∃ v ks, cs = [v] ∧ IntsC W v ks ∧ (∀ n ∈ ks, I64 n) := by
  rcases open_ints Try.underlying39 Try.underlying3 cells_int h with ⟨rfl, -⟩ | ⟨a, len, cap, zs, rfl, _, hl, hcm, hz, hk, hcell, hwf⟩
  · exact ⟨_, [], rfl, ⟨IntsAt.nil W, none, 0, rfl, Nat.le_refl _⟩, (fun n hn => by cases hn)⟩
  · simp only [if_true] at hz
    have hlen : (zs.take len).length = len := by rw [List.length_take]; omega
    refine ⟨_, zs.take len, rfl, ⟨⟨some a, cap, by rw [hlen], fun hne => ?_⟩, some a, cap, by rw [hlen], by rw [hlen]; exact hl⟩, fun n hn => bounds_i64' (hwf n (List.mem_of_mem_take hn))⟩
    · have hpos : 0 < len := by
        rcases Nat.eq_zero_or_pos len with e | e
        · subst e; simp at hne
        · exact e
      obtain ⟨b, off, spot⟩ := a
      have hspot : spot = none := by simpa [Addr.add] using World.cell?_spot (hcell 0 (by omega))
      subst hspot
      refine ⟨b, off, rfl, fun j hj => ?_⟩
      rw [hlen] at hj
      have h9 := hcell j (by omega)
      rw [Go.WideShapes.add_plain] at h9
      rw [h9]
      have e : (zs.take len).getD j 0 = zs.getD j 0 := by simp [List.getD, hj]
      rw [e]
theorem blo_c (h : DataW.trod enc Try.prog W 0 (fun _ => true) held fuel 33 cs = some x) : ∃ y : Blo, cs = bloC y ∧ y.Wf ∧ (I64 y.owner ∧ I64 y.number) := by
  obtain ⟨xs, n, _, _, hl, hlen, hfs⟩ := DataW.trod_struct Try.underlying33 h
  rw [cells_blo] at hl
  have hxl : xs.length = 4 := hlen
  have g0 : DataW.trod enc Try.prog W 0 (fun _ => true) held n 3 ((cs.drop 0).take (Try.prog.cellsOf 3)) = xs[0]? := hfs 0 _ rfl
  rw [cells_int] at g0
  obtain ⟨y0, hy0⟩ := idx_some 0 hxl (by decide)
  rw [hy0] at g0
  obtain ⟨a0, e0, b0⟩ := int_c g0
  have g1 : DataW.trod enc Try.prog W 0 (fun _ => true) held n 3 ((cs.drop 1).take (Try.prog.cellsOf 3)) = xs[1]? := hfs 1 _ rfl
  rw [cells_int] at g1
  obtain ⟨y1, hy1⟩ := idx_some 1 hxl (by decide)
  rw [hy1] at g1
  obtain ⟨a1, e1, b1⟩ := int_c g1
  have g2 : DataW.trod enc Try.prog W 0 (fun _ => true) held n 9 ((cs.drop 2).take (Try.prog.cellsOf 9)) = xs[2]? := hfs 2 _ rfl
  rw [cells_str] at g2
  obtain ⟨y2, hy2⟩ := idx_some 2 hxl (by decide)
  rw [hy2] at g2
  obtain ⟨a2, e2⟩ := str_c g2
  have g3 : DataW.trod enc Try.prog W 0 (fun _ => true) held n 31 ((cs.drop 3).take (Try.prog.cellsOf 31)) = xs[3]? := hfs 3 _ rfl
  rw [cells_dig] at g3
  obtain ⟨y3, hy3⟩ := idx_some 3 hxl (by decide)
  rw [hy3] at g3
  obtain ⟨a3, e3, b3⟩ := dig_c g3
  have hcs : cs = [nu a0] ++ ([nu a1] ++ ([st a2] ++ (dg a3 ++ []))) := (stp cs 0 1 1 rfl).trans (congr (congrArg HAppend.hAppend e0) ((stp cs 1 1 2 rfl).trans (congr (congrArg HAppend.hAppend e1) ((stp cs 2 1 3 rfl).trans (congr (congrArg HAppend.hAppend e2) ((stp cs 3 32 35 rfl).trans (congr (congrArg HAppend.hAppend e3) (List.drop_eq_nil_of_le (by omega)))))))))
  refine ⟨⟨a0, a1, a2, a3⟩, ?_, b3, b0, b1⟩
  rw [hcs]; simp [bloC]
theorem act_c (h : DataW.trod enc Try.prog W 0 (fun _ => true) held fuel 42 cs = some x) : ∃ (a : Ac) (v : Value), cs = acC a v ∧ a.Ok ∧ IntsC W v a.l := by
  obtain ⟨xs, n, _, _, hl, hlen, hfs⟩ := DataW.trod_struct Try.underlying42 h
  rw [cells_act] at hl
  have hxl : xs.length = 5 := hlen
  have g0 : DataW.trod enc Try.prog W 0 (fun _ => true) held n 3 ((cs.drop 0).take (Try.prog.cellsOf 3)) = xs[0]? := hfs 0 _ rfl
  rw [cells_int] at g0
  obtain ⟨y0, hy0⟩ := idx_some 0 hxl (by decide)
  rw [hy0] at g0
  obtain ⟨a0, e0, b0⟩ := int_c g0
  have g1 : DataW.trod enc Try.prog W 0 (fun _ => true) held n 3 ((cs.drop 1).take (Try.prog.cellsOf 3)) = xs[1]? := hfs 1 _ rfl
  rw [cells_int] at g1
  obtain ⟨y1, hy1⟩ := idx_some 1 hxl (by decide)
  rw [hy1] at g1
  obtain ⟨a1, e1, b1⟩ := int_c g1
  have g2 : DataW.trod enc Try.prog W 0 (fun _ => true) held n 3 ((cs.drop 2).take (Try.prog.cellsOf 3)) = xs[2]? := hfs 2 _ rfl
  rw [cells_int] at g2
  obtain ⟨y2, hy2⟩ := idx_some 2 hxl (by decide)
  rw [hy2] at g2
  obtain ⟨a2, e2, b2⟩ := int_c g2
  have g3 : DataW.trod enc Try.prog W 0 (fun _ => true) held n 33 ((cs.drop 3).take (Try.prog.cellsOf 33)) = xs[3]? := hfs 3 _ rfl
  rw [cells_blo] at g3
  obtain ⟨y3, hy3⟩ := idx_some 3 hxl (by decide)
  rw [hy3] at g3
  obtain ⟨a3, e3, b3, -⟩ := blo_c g3
  have g4 : DataW.trod enc Try.prog W 0 (fun _ => true) held n 39 ((cs.drop 38).take (Try.prog.cellsOf 39)) = xs[4]? := hfs 4 _ rfl
  rw [cells_ints] at g4
  obtain ⟨y4, hy4⟩ := idx_some 4 hxl (by decide)
  rw [hy4] at g4
  obtain ⟨v, ks, e4, hI, b4⟩ := ints_c g4
  have hcs : cs = [nu a0] ++ ([nu a1] ++ ([nu a2] ++ (bloC a3 ++ ([v] ++ [])))) := (stp cs 0 1 1 rfl).trans (congr (congrArg HAppend.hAppend e0) ((stp cs 1 1 2 rfl).trans (congr (congrArg HAppend.hAppend e1) ((stp cs 2 1 3 rfl).trans (congr (congrArg HAppend.hAppend e2) ((stp cs 3 35 38 rfl).trans (congr (congrArg HAppend.hAppend e3) ((stp cs 38 1 39 rfl).trans (congr (congrArg HAppend.hAppend e4) (List.drop_eq_nil_of_le (by omega)))))))))))
  refine ⟨⟨a0, a1, a2, a3, ks⟩, v, ?_, ⟨b3, b1, b2, b4⟩, hI⟩
  rw [hcs]; simp [acC]
end
theorem agg_of {v : Value} {l : List Value} (h : v.cells.toList = l) (hl : 1 < l.length) : v = .agg l.toArray := by
  cases v with
  | agg cs => simp only [Value.cells] at h; rw [← h, Array.toArray_toList]
  | _ => simp [Value.cells] at h; subst h; simp at hl
section
variable {H : Type} {enc : TypeId × Value → H} {W : World} {base : Nat} {v : Value} {d : DataW H} {p : List MemPlace}
theorem open_blob (h : DataW.Trod enc Try.prog W 0 (fun _ => true) true 33 v d p) : ∃ y : Blo, v = .agg (bloC y).toArray ∧ y.Wf := by
  obtain ⟨fuel, hf⟩ := h
  obtain ⟨y, hc, h1, -⟩ := blo_c hf
  exact ⟨y, agg_of hc (by rw [bloC_len h1]; decide), h1⟩
theorem open_act (h : DataW.Trod enc Try.prog W 0 (fun _ => true) true 42 v d p) : ∃ (a : Ac) (u : Value), v = .agg (acC a u).toArray ∧ a.Ok ∧ IntsC W u a.l := by
  obtain ⟨fuel, hf⟩ := h
  obtain ⟨a, u, hc, h1, h2⟩ := act_c hf
  exact ⟨a, u, agg_of hc (by rw [acC_len h1.wf]; decide), h1, h2⟩
theorem list_of {Q : Nat → Ac → Prop} : ∀ n, (∀ j, j < n → ∃ a, Q j a) → ∃ l : List Ac, l.length = n ∧ ∀ j, j < n → Q j (l.getD j noAc)
  | 0, _ => ⟨[], rfl, fun j hj => absurd hj (Nat.not_lt_zero j)⟩
  | n + 1, h => by
    obtain ⟨l, hl, hq⟩ := list_of n (fun j hj => h j (by omega))
    obtain ⟨a, ha⟩ := h n (by omega)
    refine ⟨l ++ [a], by simp [hl], fun j hj => ?_⟩
    by_cases e : j < n
    · have e2 : (l ++ [a]).getD j noAc = l.getD j noAc := by simp [List.getD, List.getElem?_append_left (show j < l.length by omega)]
      rw [e2]
      exact hq j e
    · obtain rfl : j = n := by omega
      have : (l ++ [a]).getD j noAc = a := by simp [List.getD, hl]
      rw [this]
      exact ha
theorem open_acts (hv : Value.okWide Try.prog W .any base 22 v)
    (h : DataW.Trod enc Try.prog W 0 (fun _ => true) true 22 v d p) : ∃ a acs cap, v = .slice a (List.length acs) cap ∧ ActsAt W a acs := by
  obtain ⟨a, len, cap, rfl⟩ := okWide_slice Try.underlying22 hv
  obtain ⟨fuel, hf⟩ := h
  rcases Go.Deep.open_slice Try.underlying22 hf with ⟨hcs, hx⟩ | ⟨a', len', cap', m, n, Df, Pf, hcs, hb, hl, hm, hmm, hx, hat⟩
  · simp [Value.cells] at hcs
    obtain ⟨rfl, rfl, rfl⟩ := hcs
    exact ⟨none, [], 0, rfl, fun j hj => absurd hj (Nat.not_lt_zero j)⟩
  · simp [Value.cells] at hcs
    obtain ⟨rfl, rfl, rfl⟩ := hcs
    simp only [if_true] at hmm
    subst hmm
    obtain ⟨acs, hal, hac⟩ := list_of (Q := fun j c => ∃ b off, (some a' : Option Addr) = some ⟨b, off, none⟩ ∧ ActAt W b (off + j * 39) c) len (fun j hj => by
      obtain ⟨cs, hcs, ht⟩ := hat j (by omega)
      rw [cells_act] at hcs
      obtain ⟨c, u, rfl, hok, hI⟩ := act_c ht
      have hcell := (World.cells?_some hcs).2.2
      obtain ⟨b, off, spot⟩ := a'
      have hspot : spot = none := by
        obtain ⟨cs0, hcs0, ht0⟩ := hat 0 (by omega)
        rw [cells_act] at hcs0
        obtain ⟨c0, u0, rfl, -, -⟩ := act_c ht0
        have h0 := (World.cells?_some hcs0).2.2 0 (by omega)
        have h1 : (acC c0 u0)[0]? = some (nu c0.kind) := rfl
        rw [h1] at h0
        simpa [Addr.add] using World.cell?_spot h0
      subst hspot
      refine ⟨c, b, off, rfl, u, fun q y hy => ?_, hok, hI⟩
      have hc39 : q < 39 := by have := (List.getElem?_eq_some_iff.1 hy).1; rwa [acC_len hok.wf] at this
      have h0 := hcell q hc39
      rw [hy, Go.WideShapes.add_plain, Go.WideShapes.add_plain] at h0
      exact h0)
    exact ⟨some a', acs, _, by rw [hal], fun j hj => hac j (by omega)⟩
end
end Go.Proofs.Ytjpclmkkccffhaa.Bl
