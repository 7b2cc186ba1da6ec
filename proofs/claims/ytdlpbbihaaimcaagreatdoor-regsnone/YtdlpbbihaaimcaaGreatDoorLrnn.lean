/-
  RegsNone answers true at every input: nil registers do nothing. The package variables that are listed hold what the program's text lays (the card ties them); no other condition.
-/
import Derived.Test.YtdlpbbihaaimcaaGreatDoorGee
import Derived.Test.YtdlpbbihaaimcaaGreatDoorRows
import Derived.ProofKit
import Derived.OpenShut
import Derived.Deep.Slices
import Derived.Test.YtdlpbbihaaimcaaGreatDoorLnum
import Derived.LaidMore
import Derived.Stop.Joined
import Derived.Stop.LaidErr
import Derived.Lib.LaidTab
import Derived.Test.YtdlpbbihaaimcaaGreatDoorCards
import Derived.Test.YtdlpbbihaaimcaaGreatDoorTie
import Derived.SevenTiedAt
import Derived.SizedLaws
namespace Go.Proofs.YtdlpbbihaaimcaaGreatDoor.Ms
open Go Go.RowKit
set_option maxRecDepth 100000

def ractC (k c : Int) (x : Sub) (v t : List UInt8) : List Value := [nu k] ++ ([nu c] ++ (subC x ++ ([st v] ++ dg t)))
theorem ractC_len {k c : Int} {x : Sub} {v t : List UInt8} (hx : x.Wf) (ht : t.length = 32) : (ractC k c x v t).length = 103 := by simp [ractC, subC_len hx, dg_len, ht]
theorem sameR_zero : sameR zeroR zeroR = true := by decide

theorem cell_kp {w w' : World} {g i : Nat} {u : Value} (h : w.cell? ⟨g, i, none⟩ = some u) (hb : Below w.heap.size w w') : w'.cell? ⟨g, i, none⟩ = some u := (hb.cell (p := ⟨g, i, none⟩) (World.block_lt_of_cell? w _ h)).trans h

set_option maxHeartbeats 4000000 in
theorem none_walk (w : World) (ht : Tb w) (k c : Int) (x : Sub) (v t : List UInt8) (hx : x.Wf) (htl : t.length = 32) :
    Calls Tryz.prog 7 #[.agg (ractC k c x v t).toArray] w fun e w' => e = .returned (.bool true) ∧ Below w.heap.size w w' := by
  have T0 := top_obj w (.cells (ractC k c x v t).toArray 36)
  have B0 := hid (below_a1 w (.cells (ractC k c x v t).toArray 36))
  have HT := hid (ht.stays B0.out)
  have C1 : Hid ((w.alloc (.cells (ractC k c x v t).toArray 36)).cell? ⟨w.heap.size, 1, none⟩ = some (nu c)) := row_cell (A := [nu k]) (C := subC x ++ ([st v] ++ dg t)) T0 (by simp [ractC]) rfl
  have C2 : Hid (∀ j u, (subC x)[j]? = some u → (w.alloc (.cells (ractC k c x v t).toArray 36)).cell? ⟨w.heap.size, 2 + j, none⟩ = some u) := row_seg (A := [nu k] ++ [nu c]) (C := [st v] ++ dg t) T0 (by simp [ractC]) rfl
  have C3 : Hid ((w.alloc (.cells (ractC k c x v t).toArray 36)).cell? ⟨w.heap.size, 70, none⟩ = some (st v)) := row_cell (A := [nu k] ++ ([nu c] ++ subC x)) (C := dg t) T0 (by simp [ractC]) (by simp [subC_len hx])
  have C4 : Hid (∀ j u, (dg t)[j]? = some u → (w.alloc (.cells (ractC k c x v t).toArray 36)).cell? ⟨w.heap.size, 71 + j, none⟩ = some u) := row_seg (A := [nu k] ++ ([nu c] ++ (subC x ++ [st v]))) (C := []) T0 (by simp [ractC]) (by simp [subC_len hx])
  have Z1 := hid (szS hx)
  have Z2 : Hid ((Tryz.prog.info? 32).map (·.size) = some (dg t).length) := by
    show _ = _
    rw [dg_len, htl]
    kernel_rfl
  have ZR := zeroRep
  have ZY := hid (szR wfZeroR (.slice none 0 0))
  have N1 := hid (fun W => submit_nil W c x hx)
  have N2 := hid (fun W => commit_nil W c v t)
  have N3 := hid order_nil
  have N4 := hid (fun W => num_nil W c)
  have N5 := hid (fun W => view_nil W c)
  have N6 := hid (fun W => samereply_any (w := W) wfZeroR wfZeroR (PensAt.nil W) (PensAt.nil W) (Nat.zero_le _))
  rw [sameR_zero] at N6
  clear ht hx htl T0
  generalize ractC k c x v t = ZA at *
  go_enter Tryz.func7, Tryz.ntmps7
  go_upto_region 2 with fail
  generalize w.alloc (.cells ZA.toArray 36) = W0 at *
  generalize hg : w.heap.size = g at *
  have c1 := C1.out
  go_upto_region 3 with (first
    | ((with_reducible refine wl_load 34 (.tmp 10) ?_ g 2 ?_ ?_ (subC x) _ C2.out Tryz.underlying34 ?_ Z1.out ?_); exact rfl; exact rfl; exact rfl; exact rfl)
    | (go_at_call 14; refine (N1.out _).mono ?_; rintro e W1 ⟨rfl, b1⟩; have B1 := hid b1; clear b1)
    | ((with_reducible refine wl_alloc 43 ?_ ?_ (repC zeroR (.slice none 0 0)).toArray ZR ?_); exact rfl; exact rfl)
    | ((with_reducible refine wl_store_top 43 (.tmp 4) (.tmp 13) ?_ ?_ ?_ ?_ (repC zeroR (.slice none 0 0)) (repC zeroR (.slice none 0 0)) ?_ 43 rfl (one_rep _ _ rfl) ZY.out ?_); exact rfl; exact rfl; exact rfl; exact rfl; exact rfl))
  have R2 := hid (top_obj W1 (.cells (repC zeroR (.slice none 0 0)).toArray 43))
  have B2 := hid (below_two B1.out (below_a1 W1 (.cells (repC zeroR (.slice none 0 0)).toArray 43)))
  generalize W1.alloc (.cells (repC zeroR (.slice none 0 0)).toArray 43) = W2 at *
  generalize W1.heap.size = r at *
  have AW := hid (rawake_any W2 (HT.out.stays B2.out))
  clear c1 B1 HT
  go_wp2_with (first
    | (go_at_call 9; refine AW.out.mono ?_; rintro e W3 ⟨rfl, b3⟩; have B3 := hid (below_two B2.out b3); have R3 := hid (row_kept R2.out b3); clear b3)
    | ((with_reducible refine wl_load 43 (.tmp 4) ?_ r 0 ?_ ?_ (repC zeroR (.slice none 0 0)) _ (row_zero R3.out) Tryz.underlying43 ?_ ZY.out ?_); exact rfl; exact rfl; exact rfl; exact rfl)
    | ((with_reducible refine wl_build 43 ?_ ?_ (repC zeroR (.slice none 0 0)).toArray (build_rep _) ?_); exact rfl; exact rfl)
    | (go_at_call 24; refine (N6.out _).mono ?_; rintro e W4 ⟨rfl, b4⟩; have B4 := hid (below_two B3.out b4); have c41 := cell_kp C1.out B4.out; have c42 := cell_kp C3.out B4.out; have C5 := hid (fun j u h => cell_kp (C4.out j u h) B4.out); clear b4)
    | ((with_reducible refine wl_load 32 (.tmp 31) ?_ g 71 ?_ ?_ (dg t) _ C5.out Tryz.underlying32 ?_ Z2.out ?_); exact rfl; exact rfl; exact rfl; exact rfl)
    | (go_at_call 16; refine (N2.out _).mono ?_; rintro e W5 ⟨rfl, b5⟩; have B5 := hid (below_two B4.out b5); have c51 := cell_kp C1.out B5.out; clear b5)
    | (go_at_call 17; refine (N3.out _).mono ?_; rintro e W6 ⟨rfl, e6⟩; subst W6)
    | (go_at_call 13; refine (N4.out _).mono ?_; rintro e W6 ⟨rfl, e6⟩; subst W6)
    | (go_at_call 19; refine (N5.out _).mono ?_; rintro e W6 ⟨rfl, e6⟩; subst W6))
  go_ret
  exact ⟨rfl, below_two (hg ▸ B0.out) B5.out⟩
end Go.Proofs.YtdlpbbihaaimcaaGreatDoor.Ms

/-
  Submits and calls of the law that came in, opened for a walk.
-/
namespace Go.Proofs.YtdlpbbihaaimcaaGreatDoor.Ms
open Go Go.ChangeShapes Go.WideShapes Go.ChangeAt Go.WideMaps Go.WideElems Go.RowKit
set_option maxRecDepth 100000

structure SubRng (x : Sub) : Prop where
  n : I64 x.number
  k : I64 x.kind
  t : I64 x.target
theorem laidOut : laidOutB Tryz.prog = true := by kernel_rfl
theorem cells_dig : Tryz.prog.cellsOf 32 = 32 := by kernel_rfl
theorem cells_byt : Tryz.prog.cellsOf 5 = 1 := by kernel_rfl
theorem cells_int : Tryz.prog.cellsOf 3 = 1 := by kernel_rfl
theorem cells_str : Tryz.prog.cellsOf 9 = 1 := by kernel_rfl
theorem cells_sub : Tryz.prog.cellsOf 34 = 68 := by kernel_rfl
theorem cells_ract : Tryz.prog.cellsOf 36 = 103 := by kernel_rfl
theorem bytes_list : ∀ (cs : List Value), (∀ i, i < cs.length → ∃ n : Int, cs[i]? = some (.int .u8 n) ∧ 0 ≤ n ∧ n ≤ 255) → ∃ l : List UInt8, l.length = cs.length ∧ cs = dg l
  | [], _ => ⟨[], rfl, rfl⟩
  | c :: cs, h => by
    obtain ⟨n, hn, h0, h1⟩ := h 0 (by simp)
    obtain ⟨l, hl, hcs⟩ := bytes_list cs (fun i hi => by
      obtain ⟨m, hm, h2⟩ := h (i + 1) (by simpa using hi)
      exact ⟨m, by simpa using hm, h2⟩)
    refine ⟨UInt8.ofNat n.toNat :: l, by simp [hl], ?_⟩
    have hc : c = .int .u8 n := by simpa using hn
    have e : dg (UInt8.ofNat n.toNat :: l) = cb (UInt8.ofNat n.toNat) :: dg l := rfl
    rw [e, ← hcs, hc]
    congr 1
    unfold cb bv
    congr 1
    rw [UInt8.toNat_ofNat']
    omega
theorem stp (cs : List Value) (a b c : Nat) (h : a + b = c) : cs.drop a = (cs.drop a).take b ++ cs.drop c := by subst h; rw [← List.drop_drop]; exact (List.take_append_drop b _).symm
theorem at_some {α : Type} {xs : List α} {n : Nat} (i : Nat) (h : xs.length = n) (hi : i < n) : ∃ y, xs[i]? = some y := ⟨xs[i], List.getElem?_eq_getElem (by omega)⟩
section
variable {H : Type} {enc : TypeId × Value → H} {W : World} {held : Bool} {fuel : Nat} {cs : List Value} {x : DataW H × List MemPlace}
theorem int_c (h : DataW.trod enc Tryz.prog W 0 (fun _ => true) held fuel 3 cs = some x) : ∃ n, cs = [nu n] ∧ I64 n := by
  obtain ⟨n, e, -, hw⟩ := DataW.trod_int Tryz.underlying3 h
  exact ⟨n, e, bounds_i64 hw⟩
theorem str_c (h : DataW.trod enc Tryz.prog W 0 (fun _ => true) held fuel 9 cs = some x) : ∃ s : List UInt8, cs = [st s] := by
  obtain ⟨A, e, -, -⟩ := DataW.trod_string Tryz.underlying9 h
  exact ⟨A.data.toList, by rw [e]⟩
theorem dig_c (h : DataW.trod enc Tryz.prog W 0 (fun _ => true) held fuel 32 cs = some x) : ∃ l : List UInt8, cs = dg l ∧ l.length = 32 := by
  obtain ⟨xs, m, _, hx, hlen, hxl, hat⟩ := DataW.trod_array Tryz.underlying32 h
  rw [cells_dig] at hlen
  rw [cells_byt] at hat
  obtain ⟨l, hl, hcs⟩ := bytes_list cs (fun i hi => by
    have h1 := hat i (by omega)
    cases hq : xs[i]? with
    | none => rw [List.getElem?_eq_none_iff] at hq; omega
    | some x =>
      rw [hq] at h1
      obtain ⟨n, hn, -, hw⟩ := DataW.trod_int Tryz.underlying5 h1
      have h2 : cs[i]? = some (.int .u8 n) := by
        have := congrArg (·[0]?) hn
        simpa [List.getElem?_take, List.getElem?_drop] using this
      exact ⟨n, h2, bounds_u8 hw⟩)
  exact ⟨l, hcs, by omega⟩
theorem sub_c (h : DataW.trod enc Tryz.prog W 0 (fun _ => true) held fuel 34 cs = some x) : ∃ y : Sub, cs = subC y ∧ y.Wf ∧ SubRng y := by
  obtain ⟨xs, n, _, _, hl, hlen, hfs⟩ := DataW.trod_struct Tryz.underlying34 h
  rw [cells_sub] at hl
  have hxl : xs.length = 6 := hlen
  have g0 : DataW.trod enc Tryz.prog W 0 (fun _ => true) held n 3 ((cs.drop 0).take (Tryz.prog.cellsOf 3)) = xs[0]? := hfs 0 _ rfl
  rw [cells_int] at g0
  obtain ⟨y0, hy0⟩ := at_some 0 hxl (by decide)
  rw [hy0] at g0
  obtain ⟨a0, e0, b0⟩ := int_c g0
  have g1 : DataW.trod enc Tryz.prog W 0 (fun _ => true) held n 3 ((cs.drop 1).take (Tryz.prog.cellsOf 3)) = xs[1]? := hfs 1 _ rfl
  rw [cells_int] at g1
  obtain ⟨y1, hy1⟩ := at_some 1 hxl (by decide)
  rw [hy1] at g1
  obtain ⟨a1, e1, b1⟩ := int_c g1
  have g2 : DataW.trod enc Tryz.prog W 0 (fun _ => true) held n 3 ((cs.drop 2).take (Tryz.prog.cellsOf 3)) = xs[2]? := hfs 2 _ rfl
  rw [cells_int] at g2
  obtain ⟨y2, hy2⟩ := at_some 2 hxl (by decide)
  rw [hy2] at g2
  obtain ⟨a2, e2, b2⟩ := int_c g2
  have g3 : DataW.trod enc Tryz.prog W 0 (fun _ => true) held n 9 ((cs.drop 3).take (Tryz.prog.cellsOf 9)) = xs[3]? := hfs 3 _ rfl
  rw [cells_str] at g3
  obtain ⟨y3, hy3⟩ := at_some 3 hxl (by decide)
  rw [hy3] at g3
  obtain ⟨a3, e3⟩ := str_c g3
  have g4 : DataW.trod enc Tryz.prog W 0 (fun _ => true) held n 32 ((cs.drop 4).take (Tryz.prog.cellsOf 32)) = xs[4]? := hfs 4 _ rfl
  rw [cells_dig] at g4
  obtain ⟨y4, hy4⟩ := at_some 4 hxl (by decide)
  rw [hy4] at g4
  obtain ⟨a4, e4, b4⟩ := dig_c g4
  have g5 : DataW.trod enc Tryz.prog W 0 (fun _ => true) held n 32 ((cs.drop 36).take (Tryz.prog.cellsOf 32)) = xs[5]? := hfs 5 _ rfl
  rw [cells_dig] at g5
  obtain ⟨y5, hy5⟩ := at_some 5 hxl (by decide)
  rw [hy5] at g5
  obtain ⟨a5, e5, b5⟩ := dig_c g5
  have hcs : cs = [nu a0] ++ ([nu a1] ++ ([nu a2] ++ ([st a3] ++ (dg a4 ++ (dg a5 ++ []))))) := (stp cs 0 1 1 rfl).trans (congr (congrArg HAppend.hAppend e0) ((stp cs 1 1 2 rfl).trans (congr (congrArg HAppend.hAppend e1) ((stp cs 2 1 3 rfl).trans (congr (congrArg HAppend.hAppend e2) ((stp cs 3 1 4 rfl).trans (congr (congrArg HAppend.hAppend e3) ((stp cs 4 32 36 rfl).trans (congr (congrArg HAppend.hAppend e4) ((stp cs 36 32 68 rfl).trans (congr (congrArg HAppend.hAppend e5) (List.drop_eq_nil_of_le (by omega)))))))))))))
  refine ⟨⟨a0, a1, a2, a3, a4, a5⟩, ?_, ⟨b4, b5⟩, ⟨b0, b1, b2⟩⟩
  rw [hcs]; simp [subC]
theorem ract_c (h : DataW.trod enc Tryz.prog W 0 (fun _ => true) held fuel 36 cs = some x) : ∃ (k c : Int) (y : Sub) (s t : List UInt8), cs = ractC k c y s t ∧ I64 k ∧ I64 c ∧ y.Wf ∧ SubRng y ∧ t.length = 32 := by
  obtain ⟨xs, n, _, _, hl, hlen, hfs⟩ := DataW.trod_struct Tryz.underlying36 h
  rw [cells_ract] at hl
  have hxl : xs.length = 5 := hlen
  have g0 : DataW.trod enc Tryz.prog W 0 (fun _ => true) held n 3 ((cs.drop 0).take (Tryz.prog.cellsOf 3)) = xs[0]? := hfs 0 _ rfl
  rw [cells_int] at g0
  obtain ⟨y0, hy0⟩ := at_some 0 hxl (by decide)
  rw [hy0] at g0
  obtain ⟨a0, e0, b0⟩ := int_c g0
  have g1 : DataW.trod enc Tryz.prog W 0 (fun _ => true) held n 3 ((cs.drop 1).take (Tryz.prog.cellsOf 3)) = xs[1]? := hfs 1 _ rfl
  rw [cells_int] at g1
  obtain ⟨y1, hy1⟩ := at_some 1 hxl (by decide)
  rw [hy1] at g1
  obtain ⟨a1, e1, b1⟩ := int_c g1
  have g2 : DataW.trod enc Tryz.prog W 0 (fun _ => true) held n 34 ((cs.drop 2).take (Tryz.prog.cellsOf 34)) = xs[2]? := hfs 2 _ rfl
  rw [cells_sub] at g2
  obtain ⟨y2, hy2⟩ := at_some 2 hxl (by decide)
  rw [hy2] at g2
  obtain ⟨a2, e2, b2, r2⟩ := sub_c g2
  have g3 : DataW.trod enc Tryz.prog W 0 (fun _ => true) held n 9 ((cs.drop 70).take (Tryz.prog.cellsOf 9)) = xs[3]? := hfs 3 _ rfl
  rw [cells_str] at g3
  obtain ⟨y3, hy3⟩ := at_some 3 hxl (by decide)
  rw [hy3] at g3
  obtain ⟨a3, e3⟩ := str_c g3
  have g4 : DataW.trod enc Tryz.prog W 0 (fun _ => true) held n 32 ((cs.drop 71).take (Tryz.prog.cellsOf 32)) = xs[4]? := hfs 4 _ rfl
  rw [cells_dig] at g4
  obtain ⟨y4, hy4⟩ := at_some 4 hxl (by decide)
  rw [hy4] at g4
  obtain ⟨a4, e4, b4⟩ := dig_c g4
  have hcs : cs = [nu a0] ++ ([nu a1] ++ (subC a2 ++ ([st a3] ++ (dg a4 ++ [])))) := (stp cs 0 1 1 rfl).trans (congr (congrArg HAppend.hAppend e0) ((stp cs 1 1 2 rfl).trans (congr (congrArg HAppend.hAppend e1) ((stp cs 2 68 70 rfl).trans (congr (congrArg HAppend.hAppend e2) ((stp cs 70 1 71 rfl).trans (congr (congrArg HAppend.hAppend e3) ((stp cs 71 32 103 rfl).trans (congr (congrArg HAppend.hAppend e4) (List.drop_eq_nil_of_le (by omega)))))))))))
  refine ⟨a0, a1, a2, a3, a4, ?_, b0, b1, b2, r2, b4⟩
  rw [hcs]; simp [ractC]
end
section
variable {H : Type} {enc : TypeId × Value → H} {W : World} {v : Value} {d : DataW H} {p : List MemPlace}
theorem agg_of {v : Value} {l : List Value} (h : v.cells.toList = l) (hl : 1 < l.length) : v = .agg l.toArray := by
  cases v with
  | agg cs => simp only [Value.cells] at h; rw [← h, Array.toArray_toList]
  | _ => simp [Value.cells] at h; subst h; simp at hl
theorem open_ract (h : DataW.Trod enc Tryz.prog W 0 (fun _ => true) true 36 v d p) : ∃ (k c : Int) (y : Sub) (s t : List UInt8), v = .agg (ractC k c y s t).toArray ∧ I64 k ∧ I64 c ∧ y.Wf ∧ SubRng y ∧ t.length = 32 := by
  obtain ⟨fuel, hf⟩ := h
  obtain ⟨k, c, y, s, t, hc, h1, h2, h3, h4, h5⟩ := ract_c hf
  exact ⟨k, c, y, s, t, agg_of hc (by rw [ractC_len h3 h5]; decide), h1, h2, h3, h4, h5⟩
end
end Go.Proofs.YtdlpbbihaaimcaaGreatDoor.Ms

/-
  What the laid variables give the walks, and a start in which they lie so.
-/
namespace Go.Proofs.YtdlpbbihaaimcaaGreatDoor
open Go.ChangeShapes Go.WideShapes Go.ChangeAt Go.WideMaps Go.WideElems Go.RowKit

def laidAll : List (String × DataW Unit) := [("math/bits.deBruijn32tab", Rows.laid_math_bits_deBruijn32tab), ("math/bits.deBruijn64tab", Rows.laid_math_bits_deBruijn64tab), ("internal/strconv.uint64pow10", Rows.laid_internal_strconv_uint64pow10), ("strconv.ErrRange", Rows.laid_strconv_ErrRange), ("strconv.ErrSyntax", Rows.laid_strconv_ErrSyntax)]

theorem own : ownKnob Tryz.prog.godebug = none := by kernel_rfl
theorem tPow : (Tryz.prog.globals[0]?).map (·.type) = some 186 := by kernel_rfl
theorem tRange : (Tryz.prog.globals[2]?).map (·.type) = some 121 := by kernel_rfl
theorem door_met (os : Os) (args : Array Value) : laidMetH Tryz.prog laidAll ((World.doorLaid Tryz.prog 62 os).forCall (fun _ _ => 0) ⟨#[], args, []⟩).memory :=
  laidMetH_of_parts3 (fuel := 8) (laidMet_of_run' 8 (by kernel_rfl) (by kernel_rfl)) (by kernel_rfl) (by kernel_rfl)

theorem cells173 : Tryz.prog.cellsOf 173 = 1 := by kernel_rfl
theorem cells186 : Tryz.prog.cellsOf 186 = 20 := by kernel_rfl
theorem cells208 : Tryz.prog.cellsOf 208 = 1 := by kernel_rfl
theorem cells9 : Tryz.prog.cellsOf 9 = 1 := by kernel_rfl
theorem star : "*" ++ "errors.errorString" = "*errors.errorString" := by decide
theorem row206 (u : TypeId) (h : Tryz.prog.typeName? 3 u = some "*errors.errorString") : u = 206 :=
  typeName_ptr_named (nm := "errors.errorString") (by rw [star]; kernel_rfl) (by kernel_rfl) (by decide) u (by rw [star]; exact h)
theorem powData : (Rows.laid_internal_strconv_uint64pow10 : DataW Unit) = Lib.tabData .u64 Lib.pow10Tab := by kernel_rfl

theorem tabs_of_laid {W : World} (h : laidMetH Tryz.prog laidAll W) : Lay.Tabs W := by
  rw [MakeChecks.laidMetH_plain _ _ _ (by kernel_rfl)] at h
  have h2 := h.tail.tail
  rw [powData] at h2
  obtain ⟨a, s, hv, -, -, -⟩ := laid_sentinel h.tail.tail.tail Lay.gRange tRange Tryz.underlying121 row206 Tryz.underlying206 Tryz.underlying208 rfl rfl Tryz.underlying9 cells208 cells9
  exact ⟨Lib.tabIs_of_head Lay.gPow tPow Tryz.underlying186 Tryz.underlying173 cells173 cells186 h2, _, _, hv⟩

end Go.Proofs.YtdlpbbihaaimcaaGreatDoor

/-
  RegsNone answers true at every input. The package variables that are listed hold what the program's text lays (the card ties them).
-/
namespace Go.Proofs.YtdlpbbihaaimcaaGreatDoor
open Go.ChangeShapes Go.WideShapes Go.ChangeAt Go.WideMaps Go.WideElems Go.RowKit
open Go.ChangeMaps (open_string shut_string)
set_option maxRecDepth 100000

theorem regsNone_lifted (os : Os) (started : os.Started) (H : Type) (enc : TypeId × Value → H) :
    ReturnsInHanded {} Tryz.checked os 7 .any (fun w args => (Rows.regsNoneSpec.pre enc Tryz.prog Tryz.f7 [] false w args ∧ laidMetH Tryz.prog laidAll w) ∧ sizedMet enc Tryz.prog Tryz.f7 (OpenSpec.ofChange Rows.regsNoneSpec) false w args)
      (Rows.regsNoneSpec.post enc Tryz.prog Tryz.f7 false true false false) := by
  refine returnsInHanded_of_change_and (C := Tryz.checked) (X := fun w _ => laidMetH Tryz.prog laidAll w) (fun _ _ _ hh h => h.of_heap hh) own started (by kernel_rfl) Tryz.func7
    (ChangeSpec.witness_shaped (enc := enc) (C := Tryz.checked) (os := os) (X := fun w _ => laidMetH Tryz.prog laidAll w) false (World.doorLaid Tryz.prog 62 os) #[.agg (Ms.ractC 0 0 Ms.zeroS [] Ms.zeroD).toArray] 8 rfl (World.shaped_of_RefB (by kernel_rfl) (by kernel_rfl)) (by kernel_rfl) (by kernel_rfl) (by kernel_rfl) (door_met os _)) ?_
  intro W base args ds gs before hval0 hW _ hsz hL _
  have hval : ∀ (j : Nat) t v, Tryz.f7.params[j]? = some t → args[j]? = some v → Value.okWide Tryz.prog W .any base t v := hval0
  have hW' := hW
  obtain ⟨p, q, hA0, hV, rfl, hfz, hnd⟩ := hW
  have hA : DataW.TrodAll enc Tryz.prog W 0 (fun _ => true) true Tryz.f7.params.toList args.toList ds p := hA0
  rw [Tryz.params7] at hA hval hsz
  obtain ⟨v0, d0, rfl, rfl, h0⟩ := trodAll_one hA
  obtain ⟨rfl, rfl⟩ := trodVars_none hV
  obtain ⟨k0, c0, x0, s0, t0, rfl, hk0, hc0, hx0, hr0, ht0⟩ := Ms.open_ract h0
  clear hA0 hval0
  simp only [List.append_nil] at hW'
  have hlt : ∀ x ∈ p, x.block < W.heap.size := fun x hx => by simpa using hW'.lt x (by simpa using hx)
  have hcall : Calls Tryz.prog 7 #[.agg (Ms.ractC k0 c0 x0 s0 t0).toArray] W fun e w' => e = .returned (.bool true) ∧ Below W.heap.size W w' := Ms.none_walk W (tabs_of_laid hL) k0 c0 x0 s0 t0 hx0 ht0
  refine hcall.mono fun e W' ⟨he, hnx⟩ => ?_
  subst he
  refine ⟨_, rfl, _, _, _, [], p, [], hW', ?_, ?_, rfl, hnx.frame _, fun h => by cases h⟩
  · exact trodAll_mk1 (shut_bool Tryz.underlying4 _)
  · exact trodAll_mk1 (Below.trod Ms.laidOut (by kernel_rfl) (of_decide_eq_true (by kernel_rfl)) h0 hnx (fun x hx => hlt x (by simp [hx])))

theorem regsNone_holds : Rows.RegsNoneSaid :=
  OpenClaim.holds_of_wide 7 Tryz.f7 rfl rfl rfl rfl rfl rfl rfl ⟨rfl, rfl, rfl, rfl, rfl⟩ rfl rfl rfl rfl rfl (by kernel_rfl) Tryz.func7 (by kernel_rfl)
    (of_decide_eq_true (by kernel_rfl)) (by unfold Func.isWrapper; rw [if_neg (of_decide_eq_false (by kernel_rfl))]; exact ⟨rfl, rfl⟩)
    (fun os started H enc _ => regsNone_lifted os started H enc)

theorem regsNone_card : Rows.RegsNoneCardSaid :=
  Claim7.holds_tied_plain_at .later [] [.data, .data, .data, .sentinel, .sentinel] true (true, "74d01788db4bfa7c796ba7f8d155a53c4f8e95afead65cecea4333603d29158a") true
    regsNone_holds (fun _ h => by cases h) (by kernel_rfl) (fun _ h => by cases h) regsNone_row_tie rfl ⟨rfl, rfl⟩ (by kernel_rfl) rfl
    (fun f fn hf hfn => by
      obtain rfl : f = 7 := Option.some.inj ((show Tryz.prog.funcNamed "affidavit/affidavitlaw12.RegsNone" = some 7 by kernel_rfl).symm.trans hf) |>.symm
      obtain rfl : fn = Tryz.f7 := (Option.some.inj (Tryz.func7.symm.trans hfn)).symm
      exact ⟨by kernel_rfl, fun j t ht => by
        rw [Tryz.params7] at ht
        have hm : t ∈ [36] := by simpa using Array.mem_of_getElem? ht
        have hall : ([36].all fun u => !Tryz.prog.wantsStandIn u) = true := by kernel_rfl
        exact (show Tryz.prog.wantsStandIn t = false by simpa using List.all_eq_true.1 hall t hm)⟩)
    (by kernel_rfl)
#print axioms regsNone_card
end Go.Proofs.YtdlpbbihaaimcaaGreatDoor
