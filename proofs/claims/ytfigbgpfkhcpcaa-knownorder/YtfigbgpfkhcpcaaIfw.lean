/-
  The first lines that are not too long: what the law's few answers.
-/
import Derived.Test.YtfigbgpfkhcpcaaIro
namespace Go.Proofs.Ytfigbgpfkhcpcaa.Kn
open Go Go.RowKit
set_option maxRecDepth 100000

/-- A list of lines in memory. -/
def LinesAt (w : World) (a : Option Addr) (M : List Ln) : Prop := (∀ x ∈ M, x.Wf) ∧ ∀ j, (hj : j < M.length) → ∃ b off, a = some ⟨b, off, none⟩ ∧ ∀ i c, (lnC M[j])[i]? = some c → w.cell? ⟨b, off + j * 35 + i, none⟩ = some c
theorem LinesAt.kept {w w' : World} {a : Option Addr} {M : List Ln} (h : LinesAt w a M) (hb : Below w.heap.size w w') : LinesAt w' a M :=
  ⟨h.1, fun j hj => by
    obtain ⟨b, off, e, hc⟩ := h.2 j hj
    exact ⟨b, off, e, fun i c hi => cell_keptY (hc i c hi) hb⟩⟩
section
variable {P : Program} {ops : Array Oper} {rest : List Oper} {o : Oper} {a : Act} {w : World} {Q : Exit → Act → World → Prop}
theorem wl_bs1 (t e : TypeId) (y : Tmp) (ho : o.op = .buildSlice t 1 #[(0, .tmp y)]) (hw : Region.wanted o (yielded ops a.tmps) = true) (ht : P.underlying t = some (.slice e)) (z : Value) (size bytes : Nat) (hinfo : (P.info? e).map (fun i => (i.zero, i.size, i.bytes)) = some (some z, size, bytes)) (hsz : 0 < size) (hsm : size ≤ 1000)
    (v : Value) (hy : a.tmps.getD y undef = v) (cs : Array Value) (hcs : v.cells = cs) (hs : cs.size = size)
    (h : ∀ w1, w1.heap[w.heap.size]? = some (.cells cs e) → Below w.heap.size w w1 → wpList P ops Q rest (a.put o.dst (.slice (some ⟨w.heap.size, 0, none⟩) 1 1)) w1) : wpList P ops Q (o :: rest) a w :=
  BigFrame.wpList_want hw fun _ hK => op_bs1 t e y ho ht z size bytes hinfo hsz hsm v hy cs hcs hs (hK _ _ (h _ (top_obj _ _) (below_a1 _ _)))
theorem wl_push (s x : Tmp) (base : Nat) (t e : TypeId) (z : Value) (size bytes : Nat) (ho : o.op = .call { callee := .builtin .append, args := #[.tmp s, .tmp x], argTypes := #[t, t] }) (hw : Region.wanted o (yielded ops a.tmps) = true) (ht : P.underlying t = some (.slice e)) (hinfo : (P.info? e).map (fun i => (i.zero, i.size, i.bytes)) = some (some z, size, bytes)) (hzs : z.cells.size = size) (hsz : 0 < size)
    (n m : Nat) (xs news : List Value) (v u : Value) (hs : a.tmps.getD s undef = v) (hx : a.tmps.getD x undef = u) (hown : w.ownsRow base e size v n xs) (hp : Pc w size u m news) (h1 : ∀ u ∈ news, u.oneCell' = true) (hnm : n + m ≤ 1000000) (hby : bytes ≤ 1000) (hbase : base ≤ w.heap.size)
    (h : ∀ v' w', w'.ownsRow base e size v' (n + m) (xs ++ news) → w.grownBy w' v.ownBlock → wpList P ops Q rest (a.put o.dst v') w') : wpList P ops Q (o :: rest) a w :=
  BigFrame.wpList_want hw fun _ hK => op_append s x base t e z size bytes ho ht hinfo hzs hsz n m xs news (by rw [hs]; exact hown) (by rw [hx]; exact hp) h1 hnm hby hbase (fun v' w' g1 g2 => hK _ _ (h v' w' g1 (by rw [hs] at g2; exact g2)))
end
theorem own_nilL (w : World) (base : Nat) : OwnB w base (.slice none 0 0) [] := ⟨rfl, .inl ⟨rfl, rfl⟩⟩
def fltL (M : List Ln) : List Ln := M.filter fun x => decide (x.view.length < 600)
set_option maxHeartbeats 8000000 in
theorem few_any {w : World} {a : Option Addr} {cap : Nat} {M : List Ln} (h : LinesAt w a M) : Calls Try.prog 28 #[.slice a M.length cap] w fun e w' => ∃ v, e = .returned v ∧ OwnB w' w.heap.size v (fewL M) ∧ Below w.heap.size w w' := by
  have H := hid h
  have O0 : Hid (OwnB w w.heap.size (.slice none 0 0) (fltL (M.take 0))) := own_nilL w _
  have B0 := hid (Below.refl w.heap.size w)
  have hzc : (Value.agg (lnC zeroB).toArray).cells.size = 35 := by simpa [Value.cells] using lnC_len zeroB_wf
  clear h
  go_enter Try.func28, Try.ntmps28
  go_wp2
  go_loopw [3, 4] (fun u i wr => ∃ k : Nat, k ≤ M.length ∧ k ≤ 25 ∧ i = nu k ∧ Hid (OwnB wr w.heap.size u (fltL (M.take k))) ∧ Hid (Below w.heap.size w wr)) (fun _ i _ => 25 - (intOf i).toNat)
  case atStart => exact ⟨0, by omega, by omega, rfl, O0, B0⟩
  case round =>
    obtain ⟨k, hk, hk25, rfl, HO, HB⟩ := hrel
    by_cases hlt : k < M.length
    · have d1 : decide ((k : Int) < (M.length : Int)) = true := decide_eq_true (by omega)
      have d1' : decide (k < M.length) = true := decide_eq_true hlt
      by_cases h25 : k < 25
      · have d2 : decide ((k : Int) < 25) = true := decide_eq_true (by omega)
        have d2' : decide (k < 25) = true := decide_eq_true h25
        obtain ⟨b, off, ea, hc⟩ := (H.out.kept HB.out).2 k hlt
        subst ea
        have hbw : M[k].Wf := H.out.1 _ (List.getElem_mem hlt)
        have b2 : wr.cell? ⟨b, off + k * 35 + 2, none⟩ = some (st M[k].view) := hc 2 _ rfl
        have HC : Hid (∀ j c, (lnC M[k])[j]? = some c → wr.cell? ⟨b, off + k * 35 + j, none⟩ = some c) := hc
        have HS := hid (few_take M k hlt)
        have hll : (fltL (M.take k)).length ≤ 25 := by
          unfold fltL
          refine Nat.le_trans (List.length_filter_le _ _) ?_
          rw [List.length_take]
          omega
        clear hc
        generalize M[k] = x at *
        have hsz : (⟨x.view.toArray⟩ : ByteArray).size = x.view.length := rfl
        have Zx := hid (sizeOf_ln hbw)
        have hxl := lnC_len hbw
        by_cases h6 : x.view.length < 600
        · have d3 : decide ((x.view.length : Int) < 600) = true := decide_eq_true (by omega)
          have d3' : decide (x.view.length < 600) = true := decide_eq_true h6
          have HS2 : Hid (fltL (M.take (k + 1)) = fltL (M.take k) ++ [x]) := by
            show _ = _
            unfold fltL
            rw [HS.out, if_pos h6]
          generalize fltL (M.take k) = F at *
          clear h6 HS
          go_upto_region 6 with fail
          go_upto_region 4 with (first
            | ((with_reducible refine wl_load 36 (.tmp 25) ?_ b (off + k * 35) ?_ ?_ (lnC x) _ HC.out Try.underlying36 ?_ Zx.out ?_); exact rfl; exact rfl; exact rfl; exact rfl)
            | ((with_reducible refine wl_bs1 22 36 26 ?_ ?_ uBlos _ 35 64 infoB ?_ ?_ (.agg (lnC x).toArray) ?_ (lnC x).toArray ?_ ?_ ?_); exact rfl; exact rfl; exact (by decide); exact (by decide); exact rfl; exact rfl; exact (by simpa using hxl); intro W1 r1 b1)
            | ((with_reducible refine wl_push 22 27 w.heap.size 22 36 _ 35 64 ?_ ?_ uBlos infoB hzc ?_ F.length 1 (flatB F) (lnC x) u3 _ ?_ ?_ (own_kept HO.out b1) (own_one1 hxl r1) (one_ln x) ?_ ?_ ?_ ?_); exact rfl; exact rfl; exact (by decide); exact rfl; exact rfl; exact (by omega); exact (by decide); exact (Nat.le_trans HB.out.size b1.size); intro v2 W2 g1 g2))
          have O2 : Hid (OwnB W2 w.heap.size v2 (fltL (M.take (k + 1)))) := by
            show World.ownsRow _ _ _ _ _ _ _
            rw [HS2.out, flat_app, flat_one, List.length_append]
            exact g1
          have B2 : Hid (Below w.heap.size w W2) := (below_twoY HB.out b1 HB.out.size).grown g2 (Nat.le_trans HB.out.size b1.size) (own_ge (own_kept HO.out b1))
          clear g1 g2 r1 b1
          go_wp2
          exact ⟨⟨k + 1, by omega, by omega, by go_num, O2, B2⟩, by simp [intOf]; omega⟩
        · have d3 : decide ((x.view.length : Int) < 600) = false := decide_eq_false (by omega)
          have d3' : decide (x.view.length < 600) = false := decide_eq_false h6
          have HS2 : Hid (fltL (M.take (k + 1)) = fltL (M.take k)) := by
            show _ = _
            unfold fltL
            rw [HS.out, if_neg h6, List.append_nil]
          rw [← HS2.out] at HO
          clear h6 HS
          go_wp2
          exact ⟨⟨k + 1, by omega, by omega, by go_num, HO, HB⟩, by simp [intOf]; omega⟩
      · have d2 : decide ((k : Int) < 25) = false := decide_eq_false (by omega)
        have d2' : decide (k < 25) = false := decide_eq_false h25
        have hke : k = 25 := by omega
        have HF : Hid (fltL (M.take k) = fewL M) := by show _ = _; rw [hke]; rfl
        rw [HF.out] at HO
        clear HF
        go_wp2
        go_ret
        exact ⟨_, rfl, HO.out, HB.out⟩
    · have d1 : decide ((k : Int) < (M.length : Int)) = false := decide_eq_false (by omega)
      have d1' : decide (k < M.length) = false := decide_eq_false hlt
      have HF : Hid (fltL (M.take k) = fewL M) := by
        show _ = _
        unfold fltL fewL
        rw [List.take_of_length_le (by omega), List.take_of_length_le (by omega)]
      rw [HF.out] at HO
      clear HF
      go_wp2
      go_ret
      exact ⟨_, rfl, HO.out, HB.out⟩
end Go.Proofs.Ytfigbgpfkhcpcaa.Kn
