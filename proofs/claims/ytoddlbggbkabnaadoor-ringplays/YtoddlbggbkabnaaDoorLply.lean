/-
  What the laid variables give the walks, and a start in which they lie so.
-/
import Derived.Test.YtoddlbggbkabnaaDoorRows
import Derived.Test.YtoddlbggbkabnaaDoorTbk
import Derived.Test.YtoddlbggbkabnaaDoorLnum
import Derived.ProofKit
import Derived.LaidMore
import Derived.OpenShut
import Derived.Stop.Joined
import Derived.Stop.LaidErr
import Derived.Lib.LaidTab
import Derived.Test.YtoddlbggbkabnaaDoorMtag
import Derived.Test.YtoddlbggbkabnaaDoorMpl
import Derived.Test.YtoddlbggbkabnaaDoorWnone
import Derived.Test.YtoddlbggbkabnaaDoorWpl
import Derived.Deep.Slices
import Derived.SizedLaws
import Derived.Test.YtoddlbggbkabnaaDoorCards
import Derived.Test.YtoddlbggbkabnaaDoorTie
import Derived.SevenTiedAt
import Derived.Test.YtoddlbggbkabnaaDoorWplay
namespace Go.Proofs.YtoddlbggbkabnaaDoor
open Go.ChangeShapes Go.WideShapes Go.ChangeAt Go.WideMaps Go.WideElems Go.RowKit

def laidAll : List (String × DataW Unit) := [("math/bits.deBruijn32tab", Rows.laid_math_bits_deBruijn32tab), ("math/bits.deBruijn64tab", Rows.laid_math_bits_deBruijn64tab), ("affidavit/sum.constants", Rows.laid_affidavit_sum_constants), ("internal/strconv.uint64pow10", Rows.laid_internal_strconv_uint64pow10)]

theorem own : ownKnob Tryd.prog.godebug = none := by kernel_rfl
theorem door_met (os : Os) (args : Array Value) : laidMetH Tryd.prog laidAll ((World.doorLaid Tryd.prog 29 os).forCall (fun _ _ => 0) ⟨#[], args, []⟩).memory :=
  laidMetH_of_parts3 (fuel := 8) (laidMet_of_run' 8 (by kernel_rfl) (by kernel_rfl)) (by kernel_rfl) (by kernel_rfl)
theorem gTab : Tryd.prog.globalNamed "affidavit/sum.constants" = some 0 := by kernel_rfl
theorem tTab : (Tryd.prog.globals[0]?).map (·.type) = some 100 := by kernel_rfl
theorem tTab_e : Tryd.prog.cellsOf 84 = 1 := by kernel_rfl
theorem tTab_t : Tryd.prog.cellsOf 100 = 64 := by kernel_rfl
theorem tabData1 : (Rows.laid_affidavit_sum_constants : DataW Unit) = Lib.tabData .u32 (kks.map wv) := by kernel_rfl
theorem ktab_of_laid {W : World} (h : laidMetH Tryd.prog laidAll W) : Ktab W := by
  rw [MakeChecks.laidMetH_plain _ _ _ (by kernel_rfl)] at h
  have h2 := h.tail.tail
  rw [tabData1] at h2
  have h1 := Lib.tabIs_of_head gTab tTab Tryd.underlying100 Tryd.underlying84 tTab_e tTab_t h2
  unfold Lib.TabIs World.var? at h1
  rw [gTab] at h1
  simp only [Option.bind_some] at h1
  cases hh : W.heap[0]? with
  | none => rw [hh] at h1; simp at h1
  | some o =>
    rw [hh] at h1
    cases o with
    | cells cs t fr =>
      simp only [Option.some.injEq] at h1
      subst h1
      refine ⟨t, fr, ?_⟩
      rw [hh, List.map_map]
      rfl
    | _ => simp at h1
theorem tPow : (Tryd.prog.globals[1]?).map (·.type) = some 111 := by kernel_rfl
theorem tPow_e : Tryd.prog.cellsOf 95 = 1 := by kernel_rfl
theorem tPow_t : Tryd.prog.cellsOf 111 = 20 := by kernel_rfl
theorem powData : (Rows.laid_internal_strconv_uint64pow10 : DataW Unit) = Lib.tabData .u64 Lib.pow10Tab := by kernel_rfl
theorem tabs_of_laid {W : World} (h : laidMetH Tryd.prog laidAll W) : Lay.Tabs W := by
  rw [MakeChecks.laidMetH_plain _ _ _ (by kernel_rfl)] at h
  have h2 := h.tail.tail.tail
  rw [powData] at h2
  exact Lib.tabIs_of_head Lay.gPow tPow Tryd.underlying111 Tryd.underlying95 tPow_e tPow_t h2

end Go.Proofs.YtoddlbggbkabnaaDoor

/-
  Lists that came in, opened for a walk.
-/
namespace Go.Proofs.YtoddlbggbkabnaaDoor
open Go.ChangeShapes Go.WideShapes Go.ChangeAt Go.WideMaps Go.WideElems Go.RowKit
open Go.ChangeMaps (open_string shut_string)
set_option maxRecDepth 100000

theorem laidOut : laidOutB Tryd.prog = true := by kernel_rfl
theorem cells9 : Tryd.prog.cellsOf 9 = 1 := by kernel_rfl

theorem take_getD {α : Type} (l : List α) (n j : Nat) (d : α) (h : j < n) : (l.take n).getD j d = l.getD j d := by simp [List.getD, h]

theorem plain_cell {w : World} {a : Addr} {v : Value} (h : w.cell? a = some v) : ∃ b off, a = ⟨b, off, none⟩ ∧ b < w.heap.size := by
  obtain ⟨b, off, spot⟩ := a
  have hspot : spot = none := World.cell?_spot h
  subst hspot
  exact ⟨b, off, rfl, block_lt_of_cell h⟩

theorem textsAt_of {H : Type} {enc : TypeId × Value → H} {W : World} {a : Option Addr} {len cap : Nat} {d : DataW H} {p : List MemPlace}
    (h : DataW.Trod enc Tryd.prog W 0 (fun _ => true) true 71 (.slice a len cap) d p) : ∃ Xs, TextsAt W a len Xs := by
  obtain ⟨fuel, hf⟩ := h
  rcases open_strings Tryd.underlying71 Tryd.underlying9 cells9 hf with ⟨hcs, hx⟩ | ⟨a', len', cap', zs, hcs, _, hl, hm, hz, hx, hcell, hwz⟩
  · simp [Value.cells] at hcs
    obtain ⟨rfl, rfl, rfl⟩ := hcs
    exact ⟨[], rfl, fun j hj => by omega⟩
  · simp [Value.cells] at hcs
    obtain ⟨rfl, rfl, rfl⟩ := hcs
    simp only [if_true] at hz
    refine ⟨zs.take len, by rw [List.length_take]; omega, fun j hj => ?_⟩
    have hc := hcell j (by omega)
    obtain ⟨b, off, spot⟩ := a'
    have hspot : spot = none := by simpa [Addr.add] using World.cell?_spot (hcell 0 (by omega))
    subst hspot
    rw [Go.WideShapes.add_plain] at hc
    refine ⟨b, off, rfl, block_lt_of_cell hc, ?_⟩
    rw [hc, take_getD _ _ _ _ hj]

end Go.Proofs.YtoddlbggbkabnaaDoor

/-
  A digest that came in, opened for a walk.
-/
namespace Go.Proofs.YtoddlbggbkabnaaDoor
open Go.ChangeShapes Go.WideShapes Go.ChangeAt Go.WideMaps Go.WideElems Go.RowKit

theorem cells25 : Tryd.prog.cellsOf 34 = 32 := by kernel_rfl
theorem cells5 : Tryd.prog.cellsOf 5 = 1 := by kernel_rfl

theorem bytes_list : ∀ (cs : List Value), (∀ i, i < cs.length → ∃ n : Int, cs[i]? = some (.int .u8 n) ∧ 0 ≤ n ∧ n ≤ 255) → ∃ l : List UInt8, l.length = cs.length ∧ cs = l.map cb
  | [], _ => ⟨[], rfl, rfl⟩
  | c :: cs, h => by
    obtain ⟨n, hn, h0, h1⟩ := h 0 (by simp)
    obtain ⟨l, hl, hcs⟩ := bytes_list cs (fun i hi => by
      obtain ⟨m, hm, h2⟩ := h (i + 1) (by simpa using hi)
      exact ⟨m, by simpa using hm, h2⟩)
    refine ⟨UInt8.ofNat n.toNat :: l, by simp [hl], ?_⟩
    have hc : c = .int .u8 n := by simpa using hn
    rw [List.map_cons, ← hcs, hc]
    congr 1
    unfold cb
    rw [bv_ofNat]
    congr 1
    omega

theorem open_digest {H : Type} {enc : TypeId × Value → H} {W : World} {v : Value} {d : DataW H} {p : List MemPlace}
    (h : DataW.Trod enc Tryd.prog W 0 (fun _ => true) true 34 v d p) : ∃ l : List UInt8, l.length = 32 ∧ v = .agg (l.map cb).toArray := by
  obtain ⟨fuel, hf⟩ := h
  obtain ⟨xs, m, rfl, hx, hlen, hxl, hat⟩ := DataW.trod_array Tryd.underlying34 hf
  rw [cells25] at hlen
  rw [cells5] at hat
  obtain ⟨l, hl, hcs⟩ := bytes_list v.cells.toList (fun i hi => by
    have h1 := hat i (by omega)
    cases hq : xs[i]? with
    | none => rw [List.getElem?_eq_none_iff] at hq; omega
    | some x =>
      rw [hq] at h1
      obtain ⟨n, hn, -, hw⟩ := DataW.trod_int Tryd.underlying5 h1
      have h2 : v.cells.toList[i]? = some (.int .u8 n) := by
        have := congrArg (·[0]?) hn
        simpa [List.getElem?_take, List.getElem?_drop] using this
      exact ⟨n, h2, bounds_u8 hw⟩)
  refine ⟨l, by omega, ?_⟩
  cases v with
  | agg cs => simp only [Value.cells] at hcs; rw [← hcs, Array.toArray_toList]
  | _ => simp [Value.cells] at hlen

end Go.Proofs.YtoddlbggbkabnaaDoor

/-
  Lines and acts that came in, opened for a walk.
-/
namespace Go.Proofs.YtoddlbggbkabnaaDoor
open Go.ChangeShapes Go.WideShapes Go.ChangeAt Go.WideMaps Go.WideElems Go.RowKit
set_option maxRecDepth 100000

theorem cells3 : Tryd.prog.cellsOf 3 = 1 := by kernel_rfl
theorem cells32 : Tryd.prog.cellsOf 32 = 3 := by kernel_rfl
theorem cells36 : Tryd.prog.cellsOf 36 = 36 := by kernel_rfl

section
variable {H : Type} {enc : TypeId × Value → H} {W : World} {base : Nat} {sp : Nat → Bool} {held : Bool} {fuel : Nat} {cs : List Value} {x : DataW H × List MemPlace}

def InI64 (n : Int) : Prop := -9223372036854775808 ≤ n ∧ n ≤ 9223372036854775807
theorem list3 {α : Type} {l : List α} (h : l.length = 3) : ∃ c0 c1 c2, l = [c0, c1, c2] := by
  match l, h with
  | [c0, c1, c2], _ => exact ⟨c0, c1, c2, rfl⟩

theorem line_cells (h : DataW.trod enc Tryd.prog W base sp held fuel 32 cs = some x) : ∃ (c d : Int) (t : List UInt8), cs = [.int .i64 c, .int .i64 d, .string ⟨t.toArray⟩] ∧ InI64 c ∧ InI64 d ∧ t.length ≤ maxLen := by
  obtain ⟨xs, n, _, _, hl, hlen, hfs⟩ := DataW.trod_struct Tryd.underlying32 h
  rw [cells32] at hl
  obtain ⟨c0, c1, c2, rfl⟩ := list3 hl
  obtain ⟨y0, y1, y2, rfl⟩ := list3 (show xs.length = 3 from hlen)
  have g0 : DataW.trod enc Tryd.prog W base sp held n 3 [c0] = some y0 := by simpa [cells3] using hfs 0 _ rfl
  have g1 : DataW.trod enc Tryd.prog W base sp held n 3 [c1] = some y1 := by simpa [cells3] using hfs 1 _ rfl
  have g2 : DataW.trod enc Tryd.prog W base sp held n 9 [c2] = some y2 := by simpa [cells9] using hfs 2 _ rfl
  obtain ⟨c, e0, -, w0⟩ := DataW.trod_int Tryd.underlying3 g0
  obtain ⟨d, e1, -, w1⟩ := DataW.trod_int Tryd.underlying3 g1
  obtain ⟨A, e2, -, hA⟩ := DataW.trod_string Tryd.underlying9 g2
  simp only [List.cons.injEq, and_true] at e0 e1 e2
  subst e0 e1 e2
  exact ⟨c, d, A.data.toList, by simp, bounds_i64 w0, bounds_i64 w1, by simpa using hA⟩

theorem digest_cells (h : DataW.trod enc Tryd.prog W base sp held fuel 34 cs = some x) : ∃ D : List UInt8, D.length = 32 ∧ cs = D.map cb := by
  obtain ⟨xs, m, rfl, hx, hlen, hxl, hat⟩ := DataW.trod_array Tryd.underlying34 h
  rw [cells25] at hlen
  rw [cells5] at hat
  obtain ⟨l, hl, hcs⟩ := bytes_list cs (fun i hi => by
    have h1 := hat i (by omega)
    cases hq : xs[i]? with
    | none => rw [List.getElem?_eq_none_iff] at hq; omega
    | some x =>
      rw [hq] at h1
      obtain ⟨n, hn, -, hw⟩ := DataW.trod_int Tryd.underlying5 h1
      have h2 : cs[i]? = some (.int .u8 n) := by
        have := congrArg (·[0]?) hn
        simpa [List.getElem?_take, List.getElem?_drop] using this
      exact ⟨n, h2, bounds_u8 hw⟩)
  exact ⟨l, by omega, hcs⟩

theorem act_cells (h : DataW.trod enc Tryd.prog W base sp held fuel 36 cs = some x) : ∃ (k c d : Int) (t D : List UInt8), cs = actL k c d t D ∧ InI64 k ∧ InI64 c ∧ InI64 d ∧ t.length ≤ maxLen ∧ D.length = 32 := by
  obtain ⟨xs, n, _, _, hl, hlen, hfs⟩ := DataW.trod_struct Tryd.underlying36 h
  rw [cells36] at hl
  obtain ⟨y0, y1, y2, rfl⟩ := list3 (show xs.length = 3 from hlen)
  have g0 : DataW.trod enc Tryd.prog W base sp held n 3 (cs.take 1) = some y0 := by simpa [cells3] using hfs 0 _ rfl
  have g1 : DataW.trod enc Tryd.prog W base sp held n 32 ((cs.drop 1).take 3) = some y1 := by simpa [cells32] using hfs 1 _ rfl
  have g2 : DataW.trod enc Tryd.prog W base sp held n 34 ((cs.drop 4).take 32) = some y2 := by simpa [cells25] using hfs 2 _ rfl
  obtain ⟨k, e0, -, w0⟩ := DataW.trod_int Tryd.underlying3 g0
  obtain ⟨c, d, t, e1, hc, hd, ht⟩ := line_cells g1
  obtain ⟨D, hD, e2⟩ := digest_cells g2
  refine ⟨k, c, d, t, D, ?_, bounds_i64 w0, hc, hd, ht, hD⟩
  have s1 : cs = cs.take 1 ++ ((cs.drop 1).take 3 ++ (cs.drop 4).take 32) := by
    have a1 : (cs.drop 4).take 32 = cs.drop 4 := List.take_of_length_le (by rw [List.length_drop]; omega)
    rw [a1, show cs.drop 4 = (cs.drop 1).drop 3 by rw [List.drop_drop], List.take_append_drop, List.take_append_drop]
  rw [s1, e0, e1, e2]
  rfl

end

theorem open_line {H : Type} {enc : TypeId × Value → H} {W : World} {base : Nat} {v : Value} {d : DataW H} {p : List MemPlace} (hv : Value.okWide Tryd.prog W .any base 32 v)
    (h : DataW.Trod enc Tryd.prog W 0 (fun _ => true) true 32 v d p) : ∃ (c e : Int) (t : List UInt8), v = .agg #[.int .i64 c, .int .i64 e, .string ⟨t.toArray⟩] ∧ InI64 c ∧ InI64 e ∧ t.length ≤ maxLen := by
  obtain ⟨cs, rfl, hsz⟩ := okWide_struct Tryd.underlying32 hv
  obtain ⟨fuel, hf⟩ := h
  obtain ⟨c, e, t, hcs, h1⟩ := line_cells hf
  refine ⟨c, e, t, ?_, h1⟩
  simp only [Value.cells] at hcs
  rw [← Array.toArray_toList (xs := cs), hcs]
theorem open_act {H : Type} {enc : TypeId × Value → H} {W : World} {base : Nat} {v : Value} {d : DataW H} {p : List MemPlace} (hv : Value.okWide Tryd.prog W .any base 36 v)
    (h : DataW.Trod enc Tryd.prog W 0 (fun _ => true) true 36 v d p) : ∃ (k c e : Int) (t D : List UInt8), v = .agg (actL k c e t D).toArray ∧ InI64 k ∧ InI64 c ∧ InI64 e ∧ t.length ≤ maxLen ∧ D.length = 32 := by
  obtain ⟨cs, rfl, hsz⟩ := okWide_struct Tryd.underlying36 hv
  obtain ⟨fuel, hf⟩ := h
  obtain ⟨k, c, e, t, D, hcs, h1⟩ := act_cells hf
  refine ⟨k, c, e, t, D, ?_, h1⟩
  simp only [Value.cells] at hcs
  rw [← Array.toArray_toList (xs := cs), hcs]

end Go.Proofs.YtoddlbggbkabnaaDoor

/-
  A list of acts that came in, opened for a walk: no text in it is longer than a text that comes in may be.
-/
namespace Go.Proofs.YtoddlbggbkabnaaDoor
open Go.ChangeShapes Go.WideShapes Go.ChangeAt Go.WideMaps Go.WideElems Go.RowKit
set_option maxRecDepth 100000

theorem weights_mem {H : Type} {P : Program} {e : TypeId} {d : DataW H} {l : List (DataW H)} (h : d ∈ l) {n : Nat} (hn : n ∈ d.weights P e) : n ∈ DataW.weightsAll P e l := by
  induction l with
  | nil => cases h
  | cons x r ih =>
    simp only [DataW.weightsAll, List.mem_append]
    rcases List.mem_cons.1 h with rfl | e
    · exact .inl hn
    · exact .inr (ih e)

theorem weights_mem_32 {H : Type} (y0 y1 : DataW H) (t : List UInt8) : t.length ∈ (DataW.agg [y0, y1, .lit (.string t)]).weights Tryd.prog 32 := by
  unfold DataW.weights
  rw [Tryd.underlying32]
  simp [DataW.weightsEach, DataW.weights]
theorem weights_mem_36 {H : Type} (y0 y2 : DataW H) {y1 : DataW H} {n : Nat} (h : n ∈ y1.weights Tryd.prog 32) : n ∈ (DataW.agg [y0, y1, y2]).weights Tryd.prog 36 := by
  have e : (DataW.agg [y0, y1, y2]).weights Tryd.prog 36 = y0.weights Tryd.prog 3 ++ (y1.weights Tryd.prog 32 ++ (y2.weights Tryd.prog 34 ++ [])) := by
    rw [DataW.weights, Tryd.underlying36]
    rfl
  rw [e]
  exact List.mem_append_right _ (List.mem_append_left _ h)

section
variable {H : Type} {enc : TypeId × Value → H} {W : World} {base : Nat} {sp : Nat → Bool} {held : Bool} {fuel : Nat} {cs : List Value} {x : DataW H × List MemPlace}

theorem line_text (h : DataW.trod enc Tryd.prog W base sp held fuel 32 cs = some x) {c d : Value} {t : List UInt8} (hcs : cs = [c, d, .string ⟨t.toArray⟩]) : t.length ∈ x.1.weights Tryd.prog 32 := by
  subst hcs
  obtain ⟨xs, n, _, hx, hl, hlen, hfs⟩ := DataW.trod_struct Tryd.underlying32 h
  obtain ⟨y0, y1, y2, rfl⟩ := list3 (show xs.length = 3 from hlen)
  have g2 : DataW.trod enc Tryd.prog W base sp held n 9 [.string ⟨t.toArray⟩] = some y2 := by simpa [cells9] using hfs 2 _ rfl
  obtain ⟨A, e2, hy, -⟩ := DataW.trod_string Tryd.underlying9 g2
  simp only [List.cons.injEq, and_true, Value.string.injEq] at e2
  subst e2
  subst hx
  rw [hy]
  exact weights_mem_32 y0.1 y1.1 t

theorem act_text (h : DataW.trod enc Tryd.prog W base sp held fuel 36 cs = some x) {k c d : Int} {t D : List UInt8} (hcs : cs = actL k c d t D) : t.length ∈ x.1.weights Tryd.prog 36 := by
  obtain ⟨xs, n, _, hx, hl, hlen, hfs⟩ := DataW.trod_struct Tryd.underlying36 h
  obtain ⟨y0, y1, y2, rfl⟩ := list3 (show xs.length = 3 from hlen)
  have g1 : DataW.trod enc Tryd.prog W base sp held n 32 ((cs.drop 1).take 3) = some y1 := by simpa [cells32] using hfs 1 _ rfl
  have h1 := line_text g1 (c := .int .i64 c) (d := .int .i64 d) (t := t) (by rw [hcs]; rfl)
  subst hx
  exact weights_mem_36 y0.1 y2.1 h1

end

theorem acts_of {H : Type} {enc : TypeId × Value → H} {W : World} {a : Option Addr} {len cap : Nat} {d : DataW H} {p : List MemPlace}
    (h : DataW.Trod enc Tryd.prog W 0 (fun _ => true) true 22 (.slice a len cap) d p) (hd : ∀ n ∈ d.weights Tryd.prog 22, n ≤ reachBytes) : ActsAt W a len := by
  obtain ⟨fuel, hf⟩ := h
  rcases Go.Deep.open_slice Tryd.underlying22 hf with ⟨hcs, hx⟩ | ⟨a', len', cap', m, n, Df, Pf, hcs, hb, hl, hm, hmm, hx, hat⟩
  · simp [Value.cells] at hcs
    obtain ⟨rfl, rfl, rfl⟩ := hcs
    exact fun j hj => by omega
  · simp [Value.cells] at hcs
    obtain ⟨rfl, rfl, rfl⟩ := hcs
    simp only [if_true] at hmm
    subst hmm
    obtain ⟨hd1, -⟩ := Prod.mk.injEq .. ▸ hx
    intro j hj
    obtain ⟨cs, hcs, ht⟩ := hat j (by omega)
    rw [cells36] at hcs
    obtain ⟨k, c, e, t, D, rfl, hk, hc, he, htl, hD⟩ := act_cells ht
    have htb : t.length ∈ (Df j).weights Tryd.prog 36 := act_text ht rfl
    have hle : t.length ≤ reachBytes := hd _ (by
      rw [hd1]
      unfold DataW.weights
      rw [Tryd.underlying22]
      exact List.mem_cons_of_mem _ (List.mem_append_left _ (weights_mem (List.mem_map.2 ⟨j, List.mem_range.2 hj, rfl⟩) htb)))
    have hle2 : t.length ≤ 140737488351232 := hle
    have hcell := (World.cells?_some hcs).2.2
    obtain ⟨b, off, spot⟩ := a'
    have hspot : spot = none := by
      obtain ⟨cs0, hcs0, ht0⟩ := hat 0 (by omega)
      rw [cells36] at hcs0
      obtain ⟨k0, c0, e0, t0, D0, rfl, -⟩ := act_cells ht0
      have h0 := (World.cells?_some hcs0).2.2 0 (by omega)
      have h1 : (actL k0 c0 e0 t0 D0)[0]? = some (.int .i64 k0) := rfl
      rw [h1] at h0
      simpa [Addr.add] using World.cell?_spot h0
    subst hspot
    have hc' : ∀ i v, (actL k c e t D)[i]? = some v → W.cell? ⟨b, off + j * 36 + i, none⟩ = some v := fun i v hv => by
      have hi : i < 36 := by
        have := (List.getElem?_eq_some_iff.1 hv).1
        rw [actL_len k c e t D hD] at this
        exact this
      have h0 := hcell i hi
      rw [hv, Go.WideShapes.add_plain, Go.WideShapes.add_plain] at h0
      exact h0
    exact ⟨b, off, k, c, e, t, D, rfl, block_lt_of_cell (hc' 0 _ rfl), ⟨hc, he, by omega, hD⟩, hc'⟩

end Go.Proofs.YtoddlbggbkabnaaDoor

/-
  What the law RingPlays answers where there may be no such ring.
-/
namespace Go.Proofs.YtoddlbggbkabnaaDoor
open Go Go.RowKit
set_option maxRecDepth 100000

set_option maxHeartbeats 2000000 in
theorem ringPlays_bad (s : List UInt8) (n : Int) (hc : n < 2 ∨ 8 < n ∨ 64 < s.length) (a : Option Addr) (len cap : Nat) (w : World) (hK : Ktab w) (hT : Lay.Tabs w) :
    Calls Tryd.prog 3 #[.string ⟨s.toArray⟩, .int .i64 n, .slice a len cap] w fun e w' => e = .returned (.bool true) ∧ Below w.heap.size w w' := by
  have HA := hid (awake_any w hK hT)
  have HNW := hid (new_bad s n hc w)
  have HRN := hid (rnew_bad s n hc w)
  have hl : (decide ((0 : Int) < (len : Int)) = true ∧ decide (0 < len) = true) ∨ (decide ((0 : Int) < (len : Int)) = false ∧ decide (0 < len) = false) := by
    simp only [decide_eq_true_eq, decide_eq_false_iff_not]; omega
  clear hc hK hT
  go_enter Tryd.func3, Tryd.ntmps3
  go_wp2_with (first | (go_at_call 8; refine Calls.mono HNW.out ?_; rintro e W ⟨rfl, rfl⟩) | (go_at_call 9; refine Calls.mono HRN.out ?_; rintro e W ⟨rfl, rfl⟩) | (go_at_call 10; refine Calls.mono HA.out ?_))
  rintro e w3 ⟨rfl, hb3⟩
  have HB := hid hb3
  clear hb3 HA HNW HRN
  go_wp2
  go_loopw [11] (fun i w' => i = .int .i64 0 ∧ w' = w3) (fun _ _ => 0)
  case atStart => exact ⟨rfl, rfl⟩
  case round =>
    obtain ⟨rfl, rfl⟩ := hrel
    rcases hl with ⟨l1, l2⟩ | ⟨l1, l2⟩
    · go_wp2
      go_ret
      exact ⟨rfl, HB.out⟩
    · go_wp2
      go_ret
      exact ⟨rfl, HB.out⟩

end Go.Proofs.YtoddlbggbkabnaaDoor

/-
  RingPlays answers true at every input. The package variables that are listed hold what the program's text lays (the card ties them).
-/
namespace Go.Proofs.YtoddlbggbkabnaaDoor
open Go.ChangeShapes Go.WideShapes Go.ChangeAt Go.WideMaps Go.WideElems Go.RowKit
open Go.ChangeMaps (open_string shut_string)
set_option maxRecDepth 100000

def PlaysAll : Prop := ∀ (s : List UInt8) (n : Int), InI64 n → ∀ (a : Option Addr) (len cap : Nat) (w : World), ActsAt w a len → Ktab w → Lay.Tabs w →
    Calls Tryd.prog 3 #[.string ⟨s.toArray⟩, .int .i64 n, .slice a len cap] w fun e w' => e = .returned (.bool true) ∧ Below w.heap.size w w'

theorem ringPlays_lifted (HP : PlaysAll) (os : Os) (started : os.Started) (H : Type) (enc : TypeId × Value → H) :
    ReturnsInHanded {} Tryd.checked os 3 .any (fun w args => (Rows.ringPlaysSpec.pre enc Tryd.prog Tryd.f3 [] false w args ∧ laidMetH Tryd.prog laidAll w) ∧ sizedMet enc Tryd.prog Tryd.f3 (OpenSpec.ofChange Rows.ringPlaysSpec) false w args)
      (Rows.ringPlaysSpec.post enc Tryd.prog Tryd.f3 false true false false) := by
  refine returnsInHanded_of_change_and (C := Tryd.checked) (X := fun w _ => laidMetH Tryd.prog laidAll w) (fun _ _ _ hh h => h.of_heap hh) own started (by kernel_rfl) Tryd.func3
    (ChangeSpec.witness_shaped (enc := enc) (C := Tryd.checked) (os := os) (X := fun w _ => laidMetH Tryd.prog laidAll w) false (World.doorLaid Tryd.prog 29 os) #[.string ⟨#[]⟩, .int .i64 0, .slice none 0 0] 8 rfl (World.shaped_of_RefB (by kernel_rfl) (by kernel_rfl)) (by kernel_rfl) (by kernel_rfl) (by kernel_rfl) (door_met os _)) ?_
  intro W base args ds gs before hval0 hW _ hsz hL _
  have hval : ∀ (j : Nat) t v, Tryd.f3.params[j]? = some t → args[j]? = some v → Value.okWide Tryd.prog W .any base t v := hval0
  have hW' := hW
  obtain ⟨p, q, hA0, hV, rfl, hfz, hnd⟩ := hW
  have hA : DataW.TrodAll enc Tryd.prog W 0 (fun _ => true) true Tryd.f3.params.toList args.toList ds p := hA0
  rw [Tryd.params3] at hA hval hsz
  obtain ⟨v0, vs0, d0, ds0, p0, q0, hargs, rfl, rfl, h0, r0⟩ := trodAll_cons hA
  obtain ⟨v1, vs1, d1, ds1, p1, q1, rfl, rfl, rfl, h1, r1⟩ := trodAll_cons r0
  obtain ⟨v2, vs2, d2, ds2, p2, q2, rfl, rfl, rfl, h2, r2⟩ := trodAll_cons r1
  obtain ⟨rfl, rfl, rfl⟩ := trodAll_nil r2
  obtain rfl : args = #[v0, v1, v2] := by cases args; simp_all
  obtain ⟨rfl, rfl⟩ := trodVars_none hV
  obtain ⟨s0, rfl, rfl, rfl, hs0⟩ := open_string Tryd.underlying9 (hval 0 9 v0 rfl rfl) h0
  obtain ⟨n1, rfl, rfl, rfl, wn1⟩ := open_int Tryd.underlying3 (hval 1 3 v1 rfl rfl) h1
  obtain ⟨a2, len2, cap2, rfl⟩ := okWide_slice Tryd.underlying22 (hval 2 22 v2 rfl rfl)
  clear hA0 hval0
  simp only [List.append_nil, List.nil_append] at hW'
  have hlt : ∀ x ∈ p2, x.block < W.heap.size := fun x hx => by simpa using hW'.lt x (by simpa using hx)
  have hd2 : ∀ n ∈ d2.weights Tryd.prog 22, n ≤ reachBytes := fun n hn => by
    have h3 := List.all_eq_true.1 hsz n (DataW.weights_mem_each (j := 2) (t := 22) (d := d2) rfl rfl n hn)
    exact of_decide_eq_true h3
  have hcall := HP s0.data.toList n1 (bounds_i64 wn1) a2 len2 cap2 W (acts_of h2 hd2) (ktab_of_laid hL) (tabs_of_laid hL)
  have hs : (⟨s0.data.toList.toArray⟩ : ByteArray) = s0 := by cases s0; simp
  rw [hs] at hcall
  refine hcall.mono fun e W' ⟨he, hnx⟩ => ?_
  subst he
  refine ⟨_, rfl, _, _, _, [], p2, [], hW', ?_, ?_, rfl, hnx.frame _, fun h => by cases h⟩
  · exact trodAll_mk1 (shut_bool Tryd.underlying4 _)
  · exact trodAll_cons_mk (shut_string Tryd.underlying9 hs0) (trodAll_cons_mk (shut_int Tryd.underlying3 wn1) (trodAll_mk1 (Below.trod laidOut (by kernel_rfl) (of_decide_eq_true (by kernel_rfl)) h2 hnx (fun x hx => hlt x (by simp [hx])))))

theorem ringPlays_holds_of (HP : PlaysAll) : Rows.RingPlaysSaid :=
  OpenClaim.holds_of_wide 3 Tryd.f3 rfl rfl rfl rfl rfl rfl rfl ⟨rfl, rfl, rfl, rfl, rfl⟩ rfl rfl rfl rfl rfl (by kernel_rfl) Tryd.func3 (by kernel_rfl)
    (of_decide_eq_true (by kernel_rfl)) (by unfold Func.isWrapper; rw [if_neg (of_decide_eq_false (by kernel_rfl))]; exact ⟨rfl, rfl⟩)
    (fun os started H enc _ => ringPlays_lifted HP os started H enc)

theorem ringPlays_card_of (HP : PlaysAll) : Rows.RingPlaysCardSaid :=
  Claim7.holds_tied_plain_at .later [] [.data, .data, .data, .data] true (true, "17a9c7c4a59d5c7a2655b36b71b429907b8b4c12c7a05666a4ca9a6611e154aa") false
    (ringPlays_holds_of HP) (fun _ h => by cases h) (by kernel_rfl) (fun _ h => by cases h) ringPlays_row_tie rfl ⟨rfl, rfl⟩ (by kernel_rfl) rfl
    (fun f fn hf hfn => by
      obtain rfl : f = 3 := Option.some.inj ((show Tryd.prog.funcNamed "affidavit/affidavitlaw04.RingPlays" = some 3 by kernel_rfl).symm.trans hf) |>.symm
      obtain rfl : fn = Tryd.f3 := (Option.some.inj (Tryd.func3.symm.trans hfn)).symm
      exact ⟨by kernel_rfl, fun j t ht => by
        rw [Tryd.params3] at ht
        have hm : t ∈ [9, 3, 22] := by simpa using Array.mem_of_getElem? ht
        have hall : ([9, 3, 22].all fun u => !Tryd.prog.wantsStandIn u) = true := by kernel_rfl
        exact (show Tryd.prog.wantsStandIn t = false by simpa using List.all_eq_true.1 hall t hm)⟩)
    (by kernel_rfl)
end Go.Proofs.YtoddlbggbkabnaaDoor

/-
  RingPlays: both ways joined, and the card.
-/
namespace Go.Proofs.YtoddlbggbkabnaaDoor

theorem plays_all : PlaysAll := fun s n _ a len cap w hA hK hT => by
  by_cases hc : n < 2 ∨ 8 < n ∨ 64 < s.length
  · exact ringPlays_bad s n hc a len cap w hK hT
  · obtain ⟨m, rfl⟩ : ∃ m : Nat, n = (m : Int) := ⟨n.toNat, by omega⟩
    exact ringPlays_ok s (by omega) m (by omega) (by omega) a len cap w hA hK hT

theorem ringPlays_card : Rows.RingPlaysCardSaid := ringPlays_card_of plays_all
#print axioms ringPlays_card
end Go.Proofs.YtoddlbggbkabnaaDoor
