/-
  Submits, blobs, what is pending, replies and messages that came in, opened for a walk.
-/
import Derived.Test.YtmfpmajkjhmliaaGreatDoorJtx
import Derived.Test.YtmfpmajkjhmliaaGreatDoorRows
import Derived.ProofKit
import Derived.OpenShut
import Derived.Deep.Slices
import Derived.Test.YtmfpmajkjhmliaaGreatDoorWun
namespace Go.Proofs.YtmfpmajkjhmliaaGreatDoor.Ms
open Go Go.ChangeShapes Go.WideShapes Go.ChangeAt Go.WideMaps Go.WideElems Go.RowKit
set_option maxRecDepth 100000
theorem laidOut : laidOutB Tryz.prog = true := by kernel_rfl
theorem cells_dig : Tryz.prog.cellsOf 23 = 32 := by kernel_rfl
theorem cells_byt : Tryz.prog.cellsOf 5 = 1 := by kernel_rfl
theorem cells_int : Tryz.prog.cellsOf 3 = 1 := by kernel_rfl
theorem cells_str : Tryz.prog.cellsOf 9 = 1 := by kernel_rfl
theorem cells_sub : Tryz.prog.cellsOf 51 = 68 := by kernel_rfl
theorem cells_pen : Tryz.prog.cellsOf 25 = 68 := by kernel_rfl
theorem cells_rep : Tryz.prog.cellsOf 55 = 103 := by kernel_rfl
theorem cells_blo : Tryz.prog.cellsOf 86 = 35 := by kernel_rfl
theorem cells_msg : Tryz.prog.cellsOf 88 = 275 := by kernel_rfl
theorem cells_ints : Tryz.prog.cellsOf 67 = 1 := by kernel_rfl
theorem cells_pens : Tryz.prog.cellsOf 53 = 1 := by kernel_rfl
theorem bytes_list : ∀ (cs : List Value), (∀ i, i < cs.length → ∃ n : Int, cs[i]? = some (.int .u8 n) ∧ 0 ≤ n ∧ n ≤ 255) → ∃ l : List UInt8, l.length = cs.length ∧ cs = dg l
  | [], _ => ⟨[], rfl, rfl⟩
  | c :: cs, h => by
    obtain ⟨n, hn, h0, h1⟩ := h 0 (by simp)
    obtain ⟨l, hl, hcs⟩ := bytes_list cs (fun i hi => by
      obtain ⟨m, hm, h2⟩ := h (i + 1) (by simpa using hi)
      exact ⟨m, by simpa using hm, h2⟩)
    refine ⟨UInt8.ofNat n.toNat :: l, by simp [hl], ?_⟩
    have hc : c = .int .u8 n := by simpa using hn
    have e : dg (UInt8.ofNat n.toNat :: l) = cb (UInt8.ofNat n.toNat) :: dg l := rfl
    rw [e, ← hcs, hc]
    congr 1
    unfold cb bv
    congr 1
    rw [UInt8.toNat_ofNat']
    omega
theorem stp (cs : List Value) (a b c : Nat) (h : a + b = c) : cs.drop a = (cs.drop a).take b ++ cs.drop c := by subst h; rw [← List.drop_drop]; exact (List.take_append_drop b _).symm
theorem at_some {α : Type} {xs : List α} {n : Nat} (i : Nat) (h : xs.length = n) (hi : i < n) : ∃ y, xs[i]? = some y := ⟨xs[i], List.getElem?_eq_getElem (by omega)⟩
section
variable {H : Type} {enc : TypeId × Value → H} {W : World} {held : Bool} {fuel : Nat} {cs : List Value} {x : DataW H × List MemPlace}
theorem int_c (h : DataW.trod enc Tryz.prog W 0 (fun _ => true) held fuel 3 cs = some x) : ∃ n, cs = [nu n] ∧ I64 n := by
  obtain ⟨n, e, -, hw⟩ := DataW.trod_int Tryz.underlying3 h
  exact ⟨n, e, bounds_i64 hw⟩
theorem str_c (h : DataW.trod enc Tryz.prog W 0 (fun _ => true) held fuel 9 cs = some x) : ∃ s : List UInt8, cs = [st s] := by
  obtain ⟨A, e, -, -⟩ := DataW.trod_string Tryz.underlying9 h
  exact ⟨A.data.toList, by rw [e]⟩
theorem dig_c (h : DataW.trod enc Tryz.prog W 0 (fun _ => true) held fuel 23 cs = some x) : ∃ l : List UInt8, cs = dg l ∧ l.length = 32 := by
  obtain ⟨xs, m, _, hx, hlen, hxl, hat⟩ := DataW.trod_array Tryz.underlying23 h
  rw [cells_dig] at hlen
  rw [cells_byt] at hat
  obtain ⟨l, hl, hcs⟩ := bytes_list cs (fun i hi => by
    have h1 := hat i (by omega)
    cases hq : xs[i]? with
    | none => rw [List.getElem?_eq_none_iff] at hq; omega
    | some x =>
      rw [hq] at h1
      obtain ⟨n, hn, -, hw⟩ := DataW.trod_int Tryz.underlying5 h1
      have h2 : cs[i]? = some (.int .u8 n) := by
        have := congrArg (·[0]?) hn
        simpa [List.getElem?_take, List.getElem?_drop] using this
      exact ⟨n, h2, bounds_u8 hw⟩)
  exact ⟨l, hcs, by omega⟩
theorem ints_c (h : DataW.trod enc Tryz.prog W 0 (fun _ => true) held fuel 67 cs = some x) : ∃ v ks, cs = [v] ∧ IntsAt W v ks ∧ (∀ n ∈ ks, I64 n) ∧ ks.length ≤ 9223372036854775807 := by
  rcases open_ints Tryz.underlying67 Tryz.underlying3 cells_int h with ⟨rfl, -⟩ | ⟨a, len, cap, zs, rfl, _, hl, hcm, hz, hk, hcell, hwf⟩
  · exact ⟨_, [], rfl, IntsAt.nil W, (fun n hn => by cases hn), Nat.zero_le _⟩
  · simp only [if_true] at hz
    have hlen : (zs.take len).length = len := by rw [List.length_take]; omega
    refine ⟨_, zs.take len, rfl, ⟨some a, cap, by rw [hlen], fun hne => ?_⟩, fun n hn => bounds_i64 (hwf n (List.mem_of_mem_take hn)), ?_⟩
    · have hpos : 0 < len := by
        rcases Nat.eq_zero_or_pos len with e | e
        · subst e; simp at hne
        · exact e
      obtain ⟨b, off, spot⟩ := a
      have hspot : spot = none := by simpa [Addr.add] using World.cell?_spot (hcell 0 (by omega))
      subst hspot
      refine ⟨b, off, rfl, fun j hj => ?_⟩
      rw [hlen] at hj
      have h9 := hcell j (by omega)
      rw [Go.WideShapes.add_plain] at h9
      rw [h9]
      have e : (zs.take len).getD j 0 = zs.getD j 0 := by simp [List.getD, hj]
      rw [e]
    · rw [hlen]
      have : cap ≤ 9223372036854775807 := hcm
      omega
theorem sub_c (h : DataW.trod enc Tryz.prog W 0 (fun _ => true) held fuel 51 cs = some x) : ∃ y : Sub, cs = subC y ∧ y.Wf ∧ SubRng y := by
  obtain ⟨xs, n, _, _, hl, hlen, hfs⟩ := DataW.trod_struct Tryz.underlying51 h
  rw [cells_sub] at hl
  have hxl : xs.length = 6 := hlen
  have g0 : DataW.trod enc Tryz.prog W 0 (fun _ => true) held n 3 ((cs.drop 0).take (Tryz.prog.cellsOf 3)) = xs[0]? := hfs 0 _ rfl
  rw [cells_int] at g0
  obtain ⟨y0, hy0⟩ := at_some 0 hxl (by decide)
  rw [hy0] at g0
  obtain ⟨a0, e0, b0⟩ := int_c g0
  have g1 : DataW.trod enc Tryz.prog W 0 (fun _ => true) held n 3 ((cs.drop 1).take (Tryz.prog.cellsOf 3)) = xs[1]? := hfs 1 _ rfl
  rw [cells_int] at g1
  obtain ⟨y1, hy1⟩ := at_some 1 hxl (by decide)
  rw [hy1] at g1
  obtain ⟨a1, e1, b1⟩ := int_c g1
  have g2 : DataW.trod enc Tryz.prog W 0 (fun _ => true) held n 3 ((cs.drop 2).take (Tryz.prog.cellsOf 3)) = xs[2]? := hfs 2 _ rfl
  rw [cells_int] at g2
  obtain ⟨y2, hy2⟩ := at_some 2 hxl (by decide)
  rw [hy2] at g2
  obtain ⟨a2, e2, b2⟩ := int_c g2
  have g3 : DataW.trod enc Tryz.prog W 0 (fun _ => true) held n 9 ((cs.drop 3).take (Tryz.prog.cellsOf 9)) = xs[3]? := hfs 3 _ rfl
  rw [cells_str] at g3
  obtain ⟨y3, hy3⟩ := at_some 3 hxl (by decide)
  rw [hy3] at g3
  obtain ⟨a3, e3⟩ := str_c g3
  have g4 : DataW.trod enc Tryz.prog W 0 (fun _ => true) held n 23 ((cs.drop 4).take (Tryz.prog.cellsOf 23)) = xs[4]? := hfs 4 _ rfl
  rw [cells_dig] at g4
  obtain ⟨y4, hy4⟩ := at_some 4 hxl (by decide)
  rw [hy4] at g4
  obtain ⟨a4, e4, b4⟩ := dig_c g4
  have g5 : DataW.trod enc Tryz.prog W 0 (fun _ => true) held n 23 ((cs.drop 36).take (Tryz.prog.cellsOf 23)) = xs[5]? := hfs 5 _ rfl
  rw [cells_dig] at g5
  obtain ⟨y5, hy5⟩ := at_some 5 hxl (by decide)
  rw [hy5] at g5
  obtain ⟨a5, e5, b5⟩ := dig_c g5
  have hcs : cs = [nu a0] ++ ([nu a1] ++ ([nu a2] ++ ([st a3] ++ (dg a4 ++ (dg a5 ++ []))))) := (stp cs 0 1 1 rfl).trans (congr (congrArg HAppend.hAppend e0) ((stp cs 1 1 2 rfl).trans (congr (congrArg HAppend.hAppend e1) ((stp cs 2 1 3 rfl).trans (congr (congrArg HAppend.hAppend e2) ((stp cs 3 1 4 rfl).trans (congr (congrArg HAppend.hAppend e3) ((stp cs 4 32 36 rfl).trans (congr (congrArg HAppend.hAppend e4) ((stp cs 36 32 68 rfl).trans (congr (congrArg HAppend.hAppend e5) (List.drop_eq_nil_of_le (by omega)))))))))))))
  refine ⟨⟨a0, a1, a2, a3, a4, a5⟩, ?_, ⟨b4, b5⟩, ⟨b0, b1, b2⟩⟩
  rw [hcs]; simp [subC]
theorem pen_c (h : DataW.trod enc Tryz.prog W 0 (fun _ => true) held fuel 25 cs = some x) : ∃ y : Pen, cs = penC y ∧ penOk y := by
  obtain ⟨xs, n, _, _, hl, hlen, hfs⟩ := DataW.trod_struct Tryz.underlying25 h
  rw [cells_pen] at hl
  have hxl : xs.length = 6 := hlen
  have g0 : DataW.trod enc Tryz.prog W 0 (fun _ => true) held n 3 ((cs.drop 0).take (Tryz.prog.cellsOf 3)) = xs[0]? := hfs 0 _ rfl
  rw [cells_int] at g0
  obtain ⟨y0, hy0⟩ := at_some 0 hxl (by decide)
  rw [hy0] at g0
  obtain ⟨a0, e0, b0⟩ := int_c g0
  have g1 : DataW.trod enc Tryz.prog W 0 (fun _ => true) held n 3 ((cs.drop 1).take (Tryz.prog.cellsOf 3)) = xs[1]? := hfs 1 _ rfl
  rw [cells_int] at g1
  obtain ⟨y1, hy1⟩ := at_some 1 hxl (by decide)
  rw [hy1] at g1
  obtain ⟨a1, e1, b1⟩ := int_c g1
  have g2 : DataW.trod enc Tryz.prog W 0 (fun _ => true) held n 3 ((cs.drop 2).take (Tryz.prog.cellsOf 3)) = xs[2]? := hfs 2 _ rfl
  rw [cells_int] at g2
  obtain ⟨y2, hy2⟩ := at_some 2 hxl (by decide)
  rw [hy2] at g2
  obtain ⟨a2, e2, b2⟩ := int_c g2
  have g3 : DataW.trod enc Tryz.prog W 0 (fun _ => true) held n 3 ((cs.drop 3).take (Tryz.prog.cellsOf 3)) = xs[3]? := hfs 3 _ rfl
  rw [cells_int] at g3
  obtain ⟨y3, hy3⟩ := at_some 3 hxl (by decide)
  rw [hy3] at g3
  obtain ⟨a3, e3, b3⟩ := int_c g3
  have g4 : DataW.trod enc Tryz.prog W 0 (fun _ => true) held n 23 ((cs.drop 4).take (Tryz.prog.cellsOf 23)) = xs[4]? := hfs 4 _ rfl
  rw [cells_dig] at g4
  obtain ⟨y4, hy4⟩ := at_some 4 hxl (by decide)
  rw [hy4] at g4
  obtain ⟨a4, e4, b4⟩ := dig_c g4
  have g5 : DataW.trod enc Tryz.prog W 0 (fun _ => true) held n 23 ((cs.drop 36).take (Tryz.prog.cellsOf 23)) = xs[5]? := hfs 5 _ rfl
  rw [cells_dig] at g5
  obtain ⟨y5, hy5⟩ := at_some 5 hxl (by decide)
  rw [hy5] at g5
  obtain ⟨a5, e5, b5⟩ := dig_c g5
  have hcs : cs = [nu a0] ++ ([nu a1] ++ ([nu a2] ++ ([nu a3] ++ (dg a4 ++ (dg a5 ++ []))))) := (stp cs 0 1 1 rfl).trans (congr (congrArg HAppend.hAppend e0) ((stp cs 1 1 2 rfl).trans (congr (congrArg HAppend.hAppend e1) ((stp cs 2 1 3 rfl).trans (congr (congrArg HAppend.hAppend e2) ((stp cs 3 1 4 rfl).trans (congr (congrArg HAppend.hAppend e3) ((stp cs 4 32 36 rfl).trans (congr (congrArg HAppend.hAppend e4) ((stp cs 36 32 68 rfl).trans (congr (congrArg HAppend.hAppend e5) (List.drop_eq_nil_of_le (by omega)))))))))))))
  refine ⟨⟨a0, a1, a2, a3, a4, a5⟩, ?_, ⟨b0, b1, b2, b3, b4, b5⟩⟩
  rw [hcs]; simp [penC]
theorem blo_c (h : DataW.trod enc Tryz.prog W 0 (fun _ => true) held fuel 86 cs = some x) : ∃ y : Blo, cs = bloC y ∧ y.Wf ∧ (I64 y.owner ∧ I64 y.number) := by
  obtain ⟨xs, n, _, _, hl, hlen, hfs⟩ := DataW.trod_struct Tryz.underlying86 h
  rw [cells_blo] at hl
  have hxl : xs.length = 4 := hlen
  have g0 : DataW.trod enc Tryz.prog W 0 (fun _ => true) held n 3 ((cs.drop 0).take (Tryz.prog.cellsOf 3)) = xs[0]? := hfs 0 _ rfl
  rw [cells_int] at g0
  obtain ⟨y0, hy0⟩ := at_some 0 hxl (by decide)
  rw [hy0] at g0
  obtain ⟨a0, e0, b0⟩ := int_c g0
  have g1 : DataW.trod enc Tryz.prog W 0 (fun _ => true) held n 3 ((cs.drop 1).take (Tryz.prog.cellsOf 3)) = xs[1]? := hfs 1 _ rfl
  rw [cells_int] at g1
  obtain ⟨y1, hy1⟩ := at_some 1 hxl (by decide)
  rw [hy1] at g1
  obtain ⟨a1, e1, b1⟩ := int_c g1
  have g2 : DataW.trod enc Tryz.prog W 0 (fun _ => true) held n 9 ((cs.drop 2).take (Tryz.prog.cellsOf 9)) = xs[2]? := hfs 2 _ rfl
  rw [cells_str] at g2
  obtain ⟨y2, hy2⟩ := at_some 2 hxl (by decide)
  rw [hy2] at g2
  obtain ⟨a2, e2⟩ := str_c g2
  have g3 : DataW.trod enc Tryz.prog W 0 (fun _ => true) held n 23 ((cs.drop 3).take (Tryz.prog.cellsOf 23)) = xs[3]? := hfs 3 _ rfl
  rw [cells_dig] at g3
  obtain ⟨y3, hy3⟩ := at_some 3 hxl (by decide)
  rw [hy3] at g3
  obtain ⟨a3, e3, b3⟩ := dig_c g3
  have hcs : cs = [nu a0] ++ ([nu a1] ++ ([st a2] ++ (dg a3 ++ []))) := (stp cs 0 1 1 rfl).trans (congr (congrArg HAppend.hAppend e0) ((stp cs 1 1 2 rfl).trans (congr (congrArg HAppend.hAppend e1) ((stp cs 2 1 3 rfl).trans (congr (congrArg HAppend.hAppend e2) ((stp cs 3 32 35 rfl).trans (congr (congrArg HAppend.hAppend e3) (List.drop_eq_nil_of_le (by omega)))))))))
  refine ⟨⟨a0, a1, a2, a3⟩, ?_, ⟨b3⟩, b0, b1⟩
  rw [hcs]; simp [bloC]
theorem pens_build (a : Addr) : ∀ (n : Nat), (∀ j, j < n → ∃ y : Pen, penOk y ∧ ∀ i c, (penC y)[i]? = some c → W.cell? ((a.add (j * 68)).add i) = some c) → ∃ ps : List Pen, ps.length = n ∧ (∀ p ∈ ps, penOk p) ∧ ∀ j, j < n → ∀ i c, (penC (ps.getD j noPen))[i]? = some c → W.cell? ((a.add (j * 68)).add i) = some c
  | 0, _ => ⟨[], rfl, (fun p hp => by cases hp), fun j hj => absurd hj (Nat.not_lt_zero j)⟩
  | n + 1, h => by
    obtain ⟨ps, h1, h2, h3⟩ := pens_build a n (fun j hj => h j (by omega))
    obtain ⟨y, hy, hc⟩ := h n (by omega)
    refine ⟨ps ++ [y], by simp [h1], ?_, fun j hj => ?_⟩
    · intro p hp
      rcases List.mem_append.1 hp with hp | hp
      · exact h2 p hp
      · simp at hp; subst hp; exact hy
    · by_cases e : j = n
      · subst e
        have : (ps ++ [y]).getD j noPen = y := by simp [List.getD, ← h1]
        rw [this]
        exact hc
      · have : (ps ++ [y]).getD j noPen = ps.getD j noPen := by simp [List.getD, List.getElem?_append_left (by omega : j < ps.length)]
        rw [this]
        exact h3 j (by omega)
theorem pens_c (h : DataW.trod enc Tryz.prog W 0 (fun _ => true) held fuel 53 cs = some x) : ∃ v ps, cs = [v] ∧ PensAt W v ps ∧ (∀ p ∈ ps, penOk p) ∧ ps.length ≤ 9223372036854775807 := by
  rcases Go.Deep.open_slice Tryz.underlying53 h with ⟨hcs, hx⟩ | ⟨a, len, cap, m, n, Df, Pf, hcs, hb, hl, hm, hmm, hx, hat⟩
  · exact ⟨_, [], hcs, PensAt.nil W, (fun n hn => by cases hn), Nat.zero_le _⟩
  · simp only [if_true] at hmm
    subst hmm
    obtain ⟨ps, p1, p2, p3⟩ := pens_build (W := W) a len (fun j hj => by
      obtain ⟨cs', hcs', ht⟩ := hat j (by omega)
      rw [cells_pen] at hcs'
      obtain ⟨y, rfl, hy⟩ := pen_c ht
      refine ⟨y, hy, fun i c hi => ?_⟩
      have h0 := (World.cells?_some hcs').2.2 i (by have := (List.getElem?_eq_some_iff.1 hi).1; have := penC_len (wf_of_ok hy); omega)
      rw [hi] at h0
      exact h0)
    refine ⟨_, ps, hcs, ⟨some a, m, by rw [p1], fun hne => ?_⟩, p2, ?_⟩
    · have hpos : 0 < len := by
        rcases Nat.eq_zero_or_pos len with e | e
        · exact absurd (List.length_eq_zero_iff.1 (p1.trans e)) hne
        · exact e
      obtain ⟨b, off, spot⟩ := a
      have hw0 := getD_wf (fun p hp => wf_of_ok (p2 p hp)) 0 (by omega)
      have h00 := p3 0 hpos 0 (nu (ps.getD 0 noPen).client) rfl
      have hspot : spot = none := by simpa [Addr.add] using World.cell?_spot h00
      subst hspot
      refine ⟨b, off, rfl, fun j hj i c hi => ?_⟩
      rw [p1] at hj
      have h9 := p3 j hj i c hi
      rw [Go.WideShapes.add_plain, Go.WideShapes.add_plain] at h9
      exact h9
    · rw [p1]
      have : m ≤ 9223372036854775807 := hm
      omega
theorem rep_c (h : DataW.trod enc Tryz.prog W 0 (fun _ => true) held fuel 55 cs = some x) : ∃ (y : Rep) (vP : Value), cs = repC y vP ∧ y.Wf ∧ (I64 y.number ∧ I64 y.last ∧ I64 y.vnum ∧ ∀ p ∈ y.pend, penOk p) ∧ PensAt W vP y.pend ∧ y.pend.length ≤ 9223372036854775807 := by
  obtain ⟨xs, n, _, _, hl, hlen, hfs⟩ := DataW.trod_struct Tryz.underlying55 h
  rw [cells_rep] at hl
  have hxl : xs.length = 10 := hlen
  have g0 : DataW.trod enc Tryz.prog W 0 (fun _ => true) held n 3 ((cs.drop 0).take (Tryz.prog.cellsOf 3)) = xs[0]? := hfs 0 _ rfl
  rw [cells_int] at g0
  obtain ⟨y0, hy0⟩ := at_some 0 hxl (by decide)
  rw [hy0] at g0
  obtain ⟨a0, e0, b0⟩ := int_c g0
  have g1 : DataW.trod enc Tryz.prog W 0 (fun _ => true) held n 3 ((cs.drop 1).take (Tryz.prog.cellsOf 3)) = xs[1]? := hfs 1 _ rfl
  rw [cells_int] at g1
  obtain ⟨y1, hy1⟩ := at_some 1 hxl (by decide)
  rw [hy1] at g1
  obtain ⟨a1, e1, b1⟩ := int_c g1
  have g2 : DataW.trod enc Tryz.prog W 0 (fun _ => true) held n 9 ((cs.drop 2).take (Tryz.prog.cellsOf 9)) = xs[2]? := hfs 2 _ rfl
  rw [cells_str] at g2
  obtain ⟨y2, hy2⟩ := at_some 2 hxl (by decide)
  rw [hy2] at g2
  obtain ⟨a2, e2⟩ := str_c g2
  have g3 : DataW.trod enc Tryz.prog W 0 (fun _ => true) held n 23 ((cs.drop 3).take (Tryz.prog.cellsOf 23)) = xs[3]? := hfs 3 _ rfl
  rw [cells_dig] at g3
  obtain ⟨y3, hy3⟩ := at_some 3 hxl (by decide)
  rw [hy3] at g3
  obtain ⟨a3, e3, b3⟩ := dig_c g3
  have g4 : DataW.trod enc Tryz.prog W 0 (fun _ => true) held n 53 ((cs.drop 35).take (Tryz.prog.cellsOf 53)) = xs[4]? := hfs 4 _ rfl
  rw [cells_pens] at g4
  obtain ⟨y4, hy4⟩ := at_some 4 hxl (by decide)
  rw [hy4] at g4
  obtain ⟨v4, a4, e4, b4, r4, l4⟩ := pens_c g4
  have g5 : DataW.trod enc Tryz.prog W 0 (fun _ => true) held n 3 ((cs.drop 36).take (Tryz.prog.cellsOf 3)) = xs[5]? := hfs 5 _ rfl
  rw [cells_int] at g5
  obtain ⟨y5, hy5⟩ := at_some 5 hxl (by decide)
  rw [hy5] at g5
  obtain ⟨a5, e5, b5⟩ := int_c g5
  have g6 : DataW.trod enc Tryz.prog W 0 (fun _ => true) held n 9 ((cs.drop 37).take (Tryz.prog.cellsOf 9)) = xs[6]? := hfs 6 _ rfl
  rw [cells_str] at g6
  obtain ⟨y6, hy6⟩ := at_some 6 hxl (by decide)
  rw [hy6] at g6
  obtain ⟨a6, e6⟩ := str_c g6
  have g7 : DataW.trod enc Tryz.prog W 0 (fun _ => true) held n 23 ((cs.drop 38).take (Tryz.prog.cellsOf 23)) = xs[7]? := hfs 7 _ rfl
  rw [cells_dig] at g7
  obtain ⟨y7, hy7⟩ := at_some 7 hxl (by decide)
  rw [hy7] at g7
  obtain ⟨a7, e7, b7⟩ := dig_c g7
  have g8 : DataW.trod enc Tryz.prog W 0 (fun _ => true) held n 9 ((cs.drop 70).take (Tryz.prog.cellsOf 9)) = xs[8]? := hfs 8 _ rfl
  rw [cells_str] at g8
  obtain ⟨y8, hy8⟩ := at_some 8 hxl (by decide)
  rw [hy8] at g8
  obtain ⟨a8, e8⟩ := str_c g8
  have g9 : DataW.trod enc Tryz.prog W 0 (fun _ => true) held n 23 ((cs.drop 71).take (Tryz.prog.cellsOf 23)) = xs[9]? := hfs 9 _ rfl
  rw [cells_dig] at g9
  obtain ⟨y9, hy9⟩ := at_some 9 hxl (by decide)
  rw [hy9] at g9
  obtain ⟨a9, e9, b9⟩ := dig_c g9
  have hcs : cs = [nu a0] ++ ([nu a1] ++ ([st a2] ++ (dg a3 ++ ([v4] ++ ([nu a5] ++ ([st a6] ++ (dg a7 ++ ([st a8] ++ (dg a9 ++ []))))))))) := (stp cs 0 1 1 rfl).trans (congr (congrArg HAppend.hAppend e0) ((stp cs 1 1 2 rfl).trans (congr (congrArg HAppend.hAppend e1) ((stp cs 2 1 3 rfl).trans (congr (congrArg HAppend.hAppend e2) ((stp cs 3 32 35 rfl).trans (congr (congrArg HAppend.hAppend e3) ((stp cs 35 1 36 rfl).trans (congr (congrArg HAppend.hAppend e4) ((stp cs 36 1 37 rfl).trans (congr (congrArg HAppend.hAppend e5) ((stp cs 37 1 38 rfl).trans (congr (congrArg HAppend.hAppend e6) ((stp cs 38 32 70 rfl).trans (congr (congrArg HAppend.hAppend e7) ((stp cs 70 1 71 rfl).trans (congr (congrArg HAppend.hAppend e8) ((stp cs 71 32 103 rfl).trans (congr (congrArg HAppend.hAppend e9) (List.drop_eq_nil_of_le (by omega)))))))))))))))))))))
  refine ⟨⟨a0, a1, a2, a3, a4, a5, a6, a7, a8, a9⟩, v4, ?_, ⟨b3, b7, b9, fun p hp => wf_of_ok (r4 p hp)⟩, ⟨b0, b1, b5, r4⟩, b4, l4⟩
  rw [hcs]; simp [repC]
theorem msg_c (h : DataW.trod enc Tryz.prog W 0 (fun _ => true) held fuel 88 cs = some x) : ∃ (m : Msg) (vP vN : Value), cs = msgC m vP vN ∧ m.Wf ∧ m.Rng ∧ PensAt W vP m.rep.pend ∧ IntsAt W vN m.nums ∧ Lens m := by
  obtain ⟨xs, n, _, _, hl, hlen, hfs⟩ := DataW.trod_struct Tryz.underlying88 h
  rw [cells_msg] at hl
  have hxl : xs.length = 10 := hlen
  have g0 : DataW.trod enc Tryz.prog W 0 (fun _ => true) held n 3 ((cs.drop 0).take (Tryz.prog.cellsOf 3)) = xs[0]? := hfs 0 _ rfl
  rw [cells_int] at g0
  obtain ⟨y0, hy0⟩ := at_some 0 hxl (by decide)
  rw [hy0] at g0
  obtain ⟨a0, e0, b0⟩ := int_c g0
  have g1 : DataW.trod enc Tryz.prog W 0 (fun _ => true) held n 3 ((cs.drop 1).take (Tryz.prog.cellsOf 3)) = xs[1]? := hfs 1 _ rfl
  rw [cells_int] at g1
  obtain ⟨y1, hy1⟩ := at_some 1 hxl (by decide)
  rw [hy1] at g1
  obtain ⟨a1, e1, b1⟩ := int_c g1
  have g2 : DataW.trod enc Tryz.prog W 0 (fun _ => true) held n 51 ((cs.drop 2).take (Tryz.prog.cellsOf 51)) = xs[2]? := hfs 2 _ rfl
  rw [cells_sub] at g2
  obtain ⟨y2, hy2⟩ := at_some 2 hxl (by decide)
  rw [hy2] at g2
  obtain ⟨a2, e2, b2, r2⟩ := sub_c g2
  have g3 : DataW.trod enc Tryz.prog W 0 (fun _ => true) held n 55 ((cs.drop 70).take (Tryz.prog.cellsOf 55)) = xs[3]? := hfs 3 _ rfl
  rw [cells_rep] at g3
  obtain ⟨y3, hy3⟩ := at_some 3 hxl (by decide)
  rw [hy3] at g3
  obtain ⟨a3, v3, e3, b3, r3, p3, l3⟩ := rep_c g3
  have g4 : DataW.trod enc Tryz.prog W 0 (fun _ => true) held n 9 ((cs.drop 173).take (Tryz.prog.cellsOf 9)) = xs[4]? := hfs 4 _ rfl
  rw [cells_str] at g4
  obtain ⟨y4, hy4⟩ := at_some 4 hxl (by decide)
  rw [hy4] at g4
  obtain ⟨a4, e4⟩ := str_c g4
  have g5 : DataW.trod enc Tryz.prog W 0 (fun _ => true) held n 3 ((cs.drop 174).take (Tryz.prog.cellsOf 3)) = xs[5]? := hfs 5 _ rfl
  rw [cells_int] at g5
  obtain ⟨y5, hy5⟩ := at_some 5 hxl (by decide)
  rw [hy5] at g5
  obtain ⟨a5, e5, b5⟩ := int_c g5
  have g6 : DataW.trod enc Tryz.prog W 0 (fun _ => true) held n 23 ((cs.drop 175).take (Tryz.prog.cellsOf 23)) = xs[6]? := hfs 6 _ rfl
  rw [cells_dig] at g6
  obtain ⟨y6, hy6⟩ := at_some 6 hxl (by decide)
  rw [hy6] at g6
  obtain ⟨a6, e6, b6⟩ := dig_c g6
  have g7 : DataW.trod enc Tryz.prog W 0 (fun _ => true) held n 23 ((cs.drop 207).take (Tryz.prog.cellsOf 23)) = xs[7]? := hfs 7 _ rfl
  rw [cells_dig] at g7
  obtain ⟨y7, hy7⟩ := at_some 7 hxl (by decide)
  rw [hy7] at g7
  obtain ⟨a7, e7, b7⟩ := dig_c g7
  have g8 : DataW.trod enc Tryz.prog W 0 (fun _ => true) held n 86 ((cs.drop 239).take (Tryz.prog.cellsOf 86)) = xs[8]? := hfs 8 _ rfl
  rw [cells_blo] at g8
  obtain ⟨y8, hy8⟩ := at_some 8 hxl (by decide)
  rw [hy8] at g8
  obtain ⟨a8, e8, b8, r8⟩ := blo_c g8
  have g9 : DataW.trod enc Tryz.prog W 0 (fun _ => true) held n 67 ((cs.drop 274).take (Tryz.prog.cellsOf 67)) = xs[9]? := hfs 9 _ rfl
  rw [cells_ints] at g9
  obtain ⟨y9, hy9⟩ := at_some 9 hxl (by decide)
  rw [hy9] at g9
  obtain ⟨v9, a9, e9, b9, r9, l9⟩ := ints_c g9
  have hcs : cs = [nu a0] ++ ([nu a1] ++ (subC a2 ++ (repC a3 v3 ++ ([st a4] ++ ([nu a5] ++ (dg a6 ++ (dg a7 ++ (bloC a8 ++ ([v9] ++ []))))))))) := (stp cs 0 1 1 rfl).trans (congr (congrArg HAppend.hAppend e0) ((stp cs 1 1 2 rfl).trans (congr (congrArg HAppend.hAppend e1) ((stp cs 2 68 70 rfl).trans (congr (congrArg HAppend.hAppend e2) ((stp cs 70 103 173 rfl).trans (congr (congrArg HAppend.hAppend e3) ((stp cs 173 1 174 rfl).trans (congr (congrArg HAppend.hAppend e4) ((stp cs 174 1 175 rfl).trans (congr (congrArg HAppend.hAppend e5) ((stp cs 175 32 207 rfl).trans (congr (congrArg HAppend.hAppend e6) ((stp cs 207 32 239 rfl).trans (congr (congrArg HAppend.hAppend e7) ((stp cs 239 35 274 rfl).trans (congr (congrArg HAppend.hAppend e8) ((stp cs 274 1 275 rfl).trans (congr (congrArg HAppend.hAppend e9) (List.drop_eq_nil_of_le (by omega)))))))))))))))))))))
  refine ⟨⟨a0, a1, a2, a3, a4, a5, a6, a7, a8, a9⟩, v3, v9, ?_, ⟨b2, b3, b6, b7, b8⟩, ⟨b0, b1, r2.n, r2.k, r2.t, r3.1, r3.2.1, r3.2.2.1, b5, r8.1, r8.2, r9, r3.2.2.2⟩, p3, b9, l3, l9⟩
  rw [hcs]; simp [msgC]
end
section
variable {H : Type} {enc : TypeId × Value → H} {W : World} {v : Value} {d : DataW H} {p : List MemPlace}
theorem agg_of {v : Value} {l : List Value} (h : v.cells.toList = l) (hl : 1 < l.length) : v = .agg l.toArray := by
  cases v with
  | agg cs => simp only [Value.cells] at h; rw [← h, Array.toArray_toList]
  | _ => simp [Value.cells] at h; subst h; simp at hl
end
open Go Go.ChangeShapes Go.WideShapes Go.ChangeAt Go.WideMaps Go.WideElems Go.RowKit
set_option maxRecDepth 100000
section
variable {H : Type} {enc : TypeId × Value → H} {W : World} {cs : List Value} {x : DataW H × List MemPlace} {held : Bool} {fuel : Nat}
theorem cells_uact : Tryz.prog.cellsOf 90 = 279 := by kernel_rfl
theorem uactC_len {k wh tg : Int} {v : List UInt8} {m : Msg} {vP vN : Value} (hm : m.Wf) : (uactC k wh tg v (msgC m vP vN)).length = 279 := by simp [uactC, msgC_len hm]
theorem uact_c (h : DataW.trod enc Tryz.prog W 0 (fun _ => true) held fuel 90 cs = some x) : ∃ (k wh tg : Int) (v : List UInt8) (m : Msg) (vP vN : Value), cs = uactC k wh tg v (msgC m vP vN) ∧ I64 k ∧ I64 wh ∧ I64 tg ∧ m.Wf ∧ m.Rng ∧ PensAt W vP m.rep.pend ∧ IntsAt W vN m.nums ∧ Lens m := by
  obtain ⟨xs, n, _, _, hl, hlen, hfs⟩ := DataW.trod_struct Tryz.underlying90 h
  rw [cells_uact] at hl
  have hxl : xs.length = 5 := hlen
  have g0 : DataW.trod enc Tryz.prog W 0 (fun _ => true) held n 3 ((cs.drop 0).take (Tryz.prog.cellsOf 3)) = xs[0]? := hfs 0 _ rfl
  rw [cells_int] at g0
  obtain ⟨y0, hy0⟩ := at_some 0 hxl (by decide)
  rw [hy0] at g0
  obtain ⟨a0, e0, b0⟩ := int_c g0
  have g1 : DataW.trod enc Tryz.prog W 0 (fun _ => true) held n 3 ((cs.drop 1).take (Tryz.prog.cellsOf 3)) = xs[1]? := hfs 1 _ rfl
  rw [cells_int] at g1
  obtain ⟨y1, hy1⟩ := at_some 1 hxl (by decide)
  rw [hy1] at g1
  obtain ⟨a1, e1, b1⟩ := int_c g1
  have g2 : DataW.trod enc Tryz.prog W 0 (fun _ => true) held n 3 ((cs.drop 2).take (Tryz.prog.cellsOf 3)) = xs[2]? := hfs 2 _ rfl
  rw [cells_int] at g2
  obtain ⟨y2, hy2⟩ := at_some 2 hxl (by decide)
  rw [hy2] at g2
  obtain ⟨a2, e2, b2⟩ := int_c g2
  have g3 : DataW.trod enc Tryz.prog W 0 (fun _ => true) held n 9 ((cs.drop 3).take (Tryz.prog.cellsOf 9)) = xs[3]? := hfs 3 _ rfl
  rw [cells_str] at g3
  obtain ⟨y3, hy3⟩ := at_some 3 hxl (by decide)
  rw [hy3] at g3
  obtain ⟨a3, e3⟩ := str_c g3
  have g4 : DataW.trod enc Tryz.prog W 0 (fun _ => true) held n 88 ((cs.drop 4).take (Tryz.prog.cellsOf 88)) = xs[4]? := hfs 4 _ rfl
  rw [cells_msg] at g4
  obtain ⟨y4, hy4⟩ := at_some 4 hxl (by decide)
  rw [hy4] at g4
  obtain ⟨m, vP, vN, e4, m1, m2, m3, m4, m5⟩ := msg_c g4
  have hcs : cs = [nu a0] ++ ([nu a1] ++ ([nu a2] ++ ([st a3] ++ (msgC m vP vN ++ [])))) := (stp cs 0 1 1 rfl).trans (congr (congrArg HAppend.hAppend e0) ((stp cs 1 1 2 rfl).trans (congr (congrArg HAppend.hAppend e1) ((stp cs 2 1 3 rfl).trans (congr (congrArg HAppend.hAppend e2) ((stp cs 3 1 4 rfl).trans (congr (congrArg HAppend.hAppend e3) ((stp cs 4 275 279 rfl).trans (congr (congrArg HAppend.hAppend e4) (List.drop_eq_nil_of_le (by omega)))))))))))
  refine ⟨a0, a1, a2, a3, m, vP, vN, ?_, b0, b1, b2, m1, m2, m3, m4, m5⟩
  rw [hcs]; simp [uactC]
end
section
variable {H : Type} {enc : TypeId × Value → H} {W : World} {v : Value} {d : DataW H} {p : List MemPlace}
theorem open_uact (h : DataW.Trod enc Tryz.prog W 0 (fun _ => true) true 90 v d p) : ∃ (k wh tg : Int) (x : List UInt8) (m : Msg) (vP vN : Value), v = .agg (uactC k wh tg x (msgC m vP vN)).toArray ∧ I64 k ∧ I64 wh ∧ I64 tg ∧ m.Wf ∧ m.Rng ∧ PensAt W vP m.rep.pend ∧ IntsAt W vN m.nums ∧ Lens m := by
  obtain ⟨fuel, hf⟩ := h
  obtain ⟨k, wh, tg, x, m, vP, vN, hc, h1⟩ := uact_c hf
  exact ⟨k, wh, tg, x, m, vP, vN, agg_of hc (by rw [uactC_len h1.2.2.2.1]; decide), h1⟩
end
end Go.Proofs.YtmfpmajkjhmliaaGreatDoor.Ms
