/-
  What mac.Bytes, mac.Digest and the reference's Bytes answer.
-/
import Derived.Test.YtidlgecognedlaaGreatDoorBow
import Derived.OwnWalk
import Derived.Laws.BitsAllLaws
import Derived.Handy
import Derived.Deep.CutBlock
import Derived.Deep.CutRange
namespace Go.Proofs.YtidlgecognedlaaGreatDoor
open Go Go.RowKit
set_option maxRecDepth 100000

theorem hid {p : Prop} (h : p) : Hid p := h
theorem wpList_build {P : Program} {ops : Array Oper} {rest : List Oper} {o : Oper} {a : Act} {w : World} {Q : Exit → Act → World → Prop} (hgd : o.guard = none) (ty : TypeId) (parts : List (Nat × Operand)) (ho : o.op = .build ty parts.toArray)
    (vs : List (Nat × Value)) (hv : (parts.map fun p => (p.1, a.eval p.2)) = vs) (v : Value) (hr : (Instr.build ty vs.toArray).run P w = .ok v w)
    (h : wpList P ops Q rest (a.put o.dst v) w) : wpList P ops Q (o :: rest) a w := by
  refine wpList_plain hgd fun K hK => ?_
  have h' := hK _ _ h
  subst hv
  unfold Oper.wp execOp
  simp only [ho, List.map_toArray, Sem.run_bind, hr, Result.andThen_ok, Sem.run_pure]
  exact h'
/-- copy of a string's first bytes into the midst of a row. -/
theorem run_copy_string {P : Program} (w : World) (dT sT ty elem : TypeId) (g o dLen dCap : Nat) (s : ByteArray) (cur : Array Value) (t : TypeId) (y : List UInt8) (n : Nat) (hs : s = ⟨y.toArray⟩) (hn : n = Nat.min y.length dLen)
    (hu : P.underlying dT = some (.slice elem)) (hz : (P.info? elem).map (·.size) = some 1) (hg : w.heap[g]? = some (.cells cur t (0, 0))) (hfit : o + n ≤ cur.size) :
    (Builtin.copy_ #[dT, sT] ty #[.slice (some ⟨g, o, none⟩) dLen dCap, .string s]).run P w =
      .ok (.int .i64 (n : Int)) (w.setRow g (cur.toList.take o ++ (y.take n).map cb ++ cur.toList.drop (o + ((y.take n).map cb).length)).toArray) := by
  have hn1 : n ≤ y.length := by rw [hn]; exact Nat.min_le_left _ _
  have hl : ((y.take n).map cb).length = n := by simp; omega
  have hst := run_storeCells_at P g o t ((y.take n).map cb) 0 cur w hg (by rw [hl]; simpa using hfit) (one_cb _)
  have hsz : s.size = y.length := by subst hs; rfl
  cases hq : P.info? elem with
  | none => simp [hq] at hz
  | some i =>
    have hi : i.size = 1 := by simpa [hq] using hz
    simp only [Nat.add_zero] at hst
    subst hs
    have hst' : (storeCells ⟨g, o, none⟩ (List.take n (List.map (fun b => Value.int IntKind.u8 (b.toNat : Int)) y))).run P w = .ok () (w.setRow g (cur.toList.take o ++ (y.take n).map cb ++ cur.toList.drop (o + ((y.take n).map cb).length)).toArray) := by
      rw [← List.map_take]
      exact hst
    simp [Builtin.copy_, run_underlying hu, Builtin.lenOf, Builtin.firstCells, sizeOf, typeInfo, hq, hsz, ← hn, hst', goInt]
theorem brow_lit (W : World) (base : Nat) (c : UInt8) (x : Int) (hx : x = bv c) (hb : base ≤ W.heap.size) : brow (W.alloc (.cells #[.int .u8 x] 5)) base (.slice (some ⟨W.heap.size, 0, none⟩) 1 1) [c] := by
  subst hx; exact brow_one W base c hb
def zb32 : Array Value := ((List.replicate 32 0).map cb).toArray
theorem zero25 : (Tryz.prog.info? 23).map (·.zero) = some (some (.agg zb32)) := by kernel_rfl
theorem size25 : (Tryz.prog.info? 23).map (·.size) = some 32 := by kernel_rfl
theorem build25 (w : World) : (Instr.build 23 #[]).run Tryz.prog w = .ok (.agg zb32) w := by kernel_rfl
theorem size5 : (Tryz.prog.info? 5).map (·.size) = some 1 := by kernel_rfl
/-- What a copy of a short text into a row of zeros leaves. -/
theorem copied (y : List UInt8) (n : Nat) (hn : n = y.length) (m : Nat) (h : n ≤ m) (Z : Array Value) (hZ : Z = ((List.replicate m 0).map cb).toArray) : (Z.toList.take 0 ++ (y.take n).map cb ++ Z.toList.drop (0 + ((y.take n).map cb).length)) = (y ++ List.replicate (m - n) 0).map cb := by
  subst hZ hn
  rw [List.take_of_length_le (Nat.le_refl _), List.length_map]
  simp
theorem conv_row (W : World) (g cap : Nat) (l : List UInt8) (n : Nat) (hn : n = l.length) (t : TypeId) (h : W.heap[g]? = some (.cells (l.map cb).toArray t)) :
    (convert 118 9 (.slice (some ⟨g, 0, none⟩) n cap)).run Tryz.prog W = .ok (.string ⟨l.toArray⟩) W := by
  subst hn
  refine run_convert_bytes_back W 118 9 5 ⟨g, 0, none⟩ cap l Tryz.underlying118 Tryz.underlying5 Tryz.underlying9 (fun j hj => ?_)
  rw [add_none, Nat.zero_add, cell_of_row _ _ _ _ _ _ h, List.getElem?_toArray, cb_at l j hj]
  simp [bv, List.getD, hj]
theorem bytes_any (l : List UInt8) (hl : l.length = 32) (w : World) : Calls Tryz.prog 178 #[.agg (l.map cb).toArray] w fun e w' => e = .returned (.string ⟨l.toArray⟩) ∧ Below w.heap.size w w' := by
  have HV := conv_row (w.alloc (.cells (l.map cb).toArray 23)) w.heap.size 32 l 32 hl.symm 23 (top_row w _)
  have HB : Hid (Below w.heap.size w (w.alloc (.cells (l.map cb).toArray 23))) := below_a1 w _
  generalize (l.map cb).toArray = D at *
  go_enter Tryz.func178, Tryz.ntmps178
  go_wp2
  go_ret
  exact ⟨rfl, HB.out⟩
set_option maxHeartbeats 1000000 in
theorem rbytes_any (l : List UInt8) (hl : l.length = 32) (w : World) : Calls Tryz.prog 51 #[.agg (l.map cb).toArray] w fun e w' => e = .returned (.string ⟨l.toArray⟩) ∧ Below w.heap.size w w' := by
  have HC : Hid (∀ j, j < 32 → (l.map cb).toArray[j]? = some (.int .u8 (bv (l.getD j 0)))) := by
    intro j hj
    simpa using cb_at l j (by omega)
  have HW : Hid ((w.alloc (.cells (l.map cb).toArray 23)).heap[w.heap.size]? = some (.cells (l.map cb).toArray 23)) := top_row w _
  have HB0 : Hid (Below w.heap.size w (w.alloc (.cells (l.map cb).toArray 23))) := below_a1 w _
  have hz0 : Hid (w.heap.size + 1 ≤ (w.alloc (.cells (l.map cb).toArray 23)).heap.size) := show _ ≤ _ by simp
  generalize (l.map cb).toArray = D at *
  go_enter Tryz.func51, Tryz.ntmps51
  go_upto_region 1 with fail
  generalize w.alloc (.cells D 23) = w0 at *
  have HE0 : Hid (brow w0 w0.heap.size (.slice none 0 0) (l.take 0)) := Or.inl ⟨rfl, rfl⟩
  go_wp2
  go_loopw [3, 4] (fun v i w' => ∃ j : Nat, j ≤ 32 ∧ i = .int .i64 j ∧ Hid (brow w' w0.heap.size v (l.take j)) ∧ Hid (w'.heap[w.heap.size]? = some (.cells D 23)) ∧ Hid (Below w0.heap.size w0 w')) (fun _ i _ => 32 - (intOf i).toNat)
  case atStart => exact ⟨0, by omega, rfl, HE0, HW, Below.refl _ _⟩
  case round =>
    clear HE0 HW
    obtain ⟨j, hj, rfl, HE, HW, HB⟩ := hrel
    have hsz : w0.heap.size ≤ wr.heap.size := HB.out.size
    by_cases hlt : j < 32
    · have HS : Hid (l.take j ++ [l.getD j 0] = l.take (j + 1)) := by
        show _ = _
        rw [List.take_add_one, List.getD_eq_getElem?_getD, List.getElem?_eq_getElem (by omega)]; rfl
      have HL : Hid ((l.take j).length = j) := by show _ = _; rw [List.length_take]; omega
      have hc : wr.cell? ⟨w.heap.size, j, none⟩ = some (.int .u8 (bv (l.getD j 0))) := by rw [cell_of_row _ _ _ _ _ _ HW.out]; exact HC.out j hlt
      generalize l.getD j 0 = c at *
      generalize hLL : l.take j = L at *
      clear hLL
      go_wp2_with (first | (at_builtin; refine wpList_app rfl _ _ rfl w0.heap.size w0.heap.size _ _ L [c] rfl rfl (brow_below HE.out (below_a1 _ _) (Nat.le_refl _)) (brow_lit _ _ c _ rfl hsz) (Or.inr (by simp)) ?c1 ?c2 ?_))
      case c1 => rw [HL.out]; simp; omega
      case c2 => simp; omega
      intro v3 w3 hr3 hg3
      have HB3 : Hid (Below w0.heap.size w0 w3) := (HB.out.alloc hsz _).grown hg3 (by simp; omega) (brow_own HE.out)
      rw [HS.out] at hr3
      have HR3 : Hid (brow w3 w0.heap.size v3 (l.take (j + 1))) := hr3
      have HW3 : Hid (w3.heap[w.heap.size]? = some (.cells D 23)) := by
        have h1 := hz0.out
        have h2 := HB.out.block w.heap.size (by omega)
        exact (HB3.out.block w.heap.size (by omega)).trans (h2.symm.trans HW.out)
      clear hr3 hg3 HE HB HW
      go_wp2
      go_roundw
      case rel => exact ⟨j + 1, by omega, by go_num, HR3, HW3, HB3⟩
      case measure => simp [intOf]; omega
    · obtain rfl : j = 32 := by omega
      have HT : Hid (l.take 32 = l) := List.take_of_length_le (by omega)
      have HV : (convert 118 9 u3).run Tryz.prog wr = .ok (.string ⟨l.toArray⟩) wr := by
        have h := conv_brow HE.out
        rw [HT.out] at h
        exact h
      have HB2 : Hid (Below w.heap.size w wr) := HB0.out.trans (HB.out.mono (by have := hz0.out; omega))
      clear HE HB HW
      go_wp2
      go_ret
      exact ⟨rfl, HB2.out⟩
theorem results_row_tmp {P : Program} {fn : Func} {p u : Tmp} {ty : TypeId} (h : fn.results = #[.cell p ty, .tmp u]) (tmps : Array Value) (w : World) (g : Nat) (t : TypeId) (cs : Array Value) (fr : Nat × Nat) (d : TypeDesc)
    (hp : tmps.getD p undef = .pointer (some ⟨g, 0, none⟩)) (hg : w.heap[g]? = some (.cells cs t fr))
    (hu : P.underlying ty = some d) (hd : (match d with | .struct _ | .array _ _ => true | _ => false) = true) (hi : (P.info? ty).map (·.size) = some cs.size) :
    (results fn tmps).run P w = .ok (.tuple #[.agg cs, tmps.getD u undef]) w := by
  have hp' : tmps[p]?.getD undef = .pointer (some ⟨g, 0, none⟩) := by simpa using hp
  simp [results, h, hp', asAddr, run_loadVar_row w g t ty cs fr d hg hu hd hi]

/-- The error that mac.Digest tells of so many bytes. -/
def digErr (n : Nat) : Int := if n < 32 then 5 else if 32 < n then 6 else 0
/-- The bytes that it answers. -/
def digOut (l : List UInt8) : List UInt8 := if l.length = 32 then l else List.replicate 32 0
theorem digOut_len (l : List UInt8) : (digOut l).length = 32 := by
  unfold digOut; split
  · assumption
  · simp

set_option maxHeartbeats 1000000 in
theorem digest_any (l : List UInt8) (w : World) : Calls Tryz.prog 179 #[.string ⟨l.toArray⟩] w fun e w' => e = .returned (.tuple #[.agg ((digOut l).map cb).toArray, .int .i64 (digErr l.length)]) ∧ Below w.heap.size w w' := by
  have HZ := zero25
  have H25 := hid build25
  have hZs : Hid (zb32.size = 32) := show zb32.size = 32 from rfl
  have HZ0 : Hid (zb32 = ((List.replicate 32 0).map cb).toArray) := show zb32 = _ from rfl
  have hs0 : (⟨l.toArray⟩ : ByteArray).size = l.length := rfl
  generalize zb32 = Z at *
  have H1Z : Hid (∀ v ∈ Z.toList, v.oneCell' = true) := by show ∀ v ∈ Z.toList, _; rw [HZ0.out]; simpa using one_cb (List.replicate 32 0)
  have HIZ : Hid ((Tryz.prog.info? 23).map (·.size) = some Z.toList.length) := by show _ = _; rw [Array.length_toList, hZs.out]; exact size25
  have HFZ : Hid (0 + Z.toList.length ≤ Z.size) := by show _ ≤ _; rw [Array.length_toList]; omega
  have HRZ : Hid ((Z.toList ++ List.drop Z.size Z.toList).toArray = Z) := by
    show _ = _
    rw [List.drop_eq_nil_of_le (by rw [Array.length_toList]; omega)]; simp
  have hB0 : Hid (Below w.heap.size w ((w.alloc (.cells Z 23)).alloc (.cells Z 23))) := below_more (below_a1 w _) _ (Nat.le_refl _)
  have hR0 : Hid (((w.alloc (.cells Z 23)).alloc (.cells Z 23)).heap[w.heap.size]? = some (.cells Z 23)) := heap_alloc2_old w _ _
  have hR1 : Hid (((w.alloc (.cells Z 23)).alloc (.cells Z 23)).heap[w.heap.size + 1]? = some (.cells Z 23)) := heap_alloc2_new w _ _
  by_cases h1 : l.length < 32
  · have hde : digErr l.length = 5 := if_pos h1
    have hdo : Hid (((digOut l).map cb).toArray = Z) := by show _ = _; unfold digOut; rw [if_neg (by omega)]; exact HZ0.out.symm
    rw [hde, hdo.out]
    go_enter Tryz.func179, Tryz.ntmps179
    go_upto_region 2 with (first | (refine wpList_alloc_row rfl 23 rfl Z HZ ?_))
    generalize (w.alloc (.cells Z 23)).alloc (.cells Z 23) = w2 at *
    go_wp2_with (first | (refine wpList_build rfl 23 [] rfl [] rfl (.agg Z.toList.toArray) (by rw [Array.toArray_toList]; exact H25.out _) ?_) | (refine wpList_store_seg rfl 23 _ _ rfl rfl w.heap.size 0 rfl Z.toList rfl Z 23 hR0.out HFZ.out H1Z.out HIZ.out ?_))
    refine bodyPost_ret_by (results_row_tmp (fn := Tryz.f179) (p := 2) (u := 3) (ty := 23) (by kernel_rfl) _ _ w.heap.size 23 Z (0, 0) _ rfl (by rw [HRZ.out]; exact setRow_heap _ _ _ _ _ _ hR0.out) Tryz.underlying23 rfl (by rw [hZs.out]; exact size25)) rfl ?_
    exact ⟨rfl, below_setRow hB0.out _ _ (by omega)⟩
  · by_cases h2 : 32 < l.length
    · have hde : digErr l.length = 6 := by unfold digErr; rw [if_neg h1, if_pos h2]
      have hdo : Hid (((digOut l).map cb).toArray = Z) := by show _ = _; unfold digOut; rw [if_neg (by omega)]; exact HZ0.out.symm
      rw [hde, hdo.out]
      have h1' : 32 ≤ l.length := by omega
      clear h1
      go_enter Tryz.func179, Tryz.ntmps179
      go_upto_region 2 with (first | (refine wpList_alloc_row rfl 23 rfl Z HZ ?_))
      generalize (w.alloc (.cells Z 23)).alloc (.cells Z 23) = w2 at *
      go_wp2_with (first | (refine wpList_build rfl 23 [] rfl [] rfl (.agg Z.toList.toArray) (by rw [Array.toArray_toList]; exact H25.out _) ?_) | (refine wpList_store_seg rfl 23 _ _ rfl rfl w.heap.size 0 rfl Z.toList rfl Z 23 hR0.out HFZ.out H1Z.out HIZ.out ?_))
      refine bodyPost_ret_by (results_row_tmp (fn := Tryz.f179) (p := 2) (u := 3) (ty := 23) (by kernel_rfl) _ _ w.heap.size 23 Z (0, 0) _ rfl (by rw [HRZ.out]; exact setRow_heap _ _ _ _ _ _ hR0.out) Tryz.underlying23 rfl (by rw [hZs.out]; exact size25)) rfl ?_
      exact ⟨rfl, below_setRow hB0.out _ _ (by omega)⟩
    · have h3 : l.length = 32 := by omega
      have hde : digErr l.length = 0 := by unfold digErr; rw [if_neg h1, if_neg h2]
      have hdo : Hid ((digOut l).map cb = l.map cb) := by show _ = _; unfold digOut; rw [if_pos h3]
      rw [hde, hdo.out]
      have HCOPY : (Builtin.copy_ #[118, 9] 3 #[.slice (some ⟨w.heap.size + 1, 0, none⟩) 32 32, .string ⟨l.toArray⟩]).run Tryz.prog ((w.alloc (.cells Z 23)).alloc (.cells Z 23)) = .ok (.int .i64 32) (((w.alloc (.cells Z 23)).alloc (.cells Z 23)).setRow (w.heap.size + 1) (l.map cb).toArray) := by
        have h := run_copy_string (P := Tryz.prog) ((w.alloc (.cells Z 23)).alloc (.cells Z 23)) 118 9 3 5 (w.heap.size + 1) 0 32 32 ⟨l.toArray⟩ Z 23 l l.length rfl (by rw [h3]; rfl) Tryz.underlying118 size5 hR1.out (by rw [hZs.out]; omega)
        rw [copied l l.length rfl 32 (by omega) Z HZ0.out, h3] at h
        simpa using h
      have H1 := hid (one_cb l)
      have HI : Hid ((Tryz.prog.info? 23).map (·.size) = some (l.map cb).length) := by show _ = _; rw [List.length_map, h3]; exact size25
      have HF : Hid (0 + (l.map cb).length ≤ Z.size) := by show _ ≤ _; rw [List.length_map, h3, hZs.out]; omega
      have hSl : Hid ((l.map cb).length = 32) := by show _ = _; rw [List.length_map, h3]
      generalize hS : l.map cb = S at *
      clear hS
      go_enter Tryz.func179, Tryz.ntmps179
      go_upto_region 2 with (first | (refine wpList_alloc_row rfl 23 rfl Z HZ ?_))
      generalize (w.alloc (.cells Z 23)).alloc (.cells Z 23) = w2 at *
      go_upto_region 7 with fail
      clear HCOPY
      have hR15 : Hid ((w2.setRow (w.heap.size + 1) S.toArray).heap[w.heap.size + 1]? = some (.cells S.toArray 23)) := setRow_heap _ _ _ _ _ _ hR1.out
      have hR05 : Hid ((w2.setRow (w.heap.size + 1) S.toArray).heap[w.heap.size]? = some (.cells Z 23)) := (setRow_other _ _ _ _ (by omega)).trans hR0.out
      have hB5 : Hid (Below w.heap.size w (w2.setRow (w.heap.size + 1) S.toArray)) := below_setRow hB0.out _ _ (by omega)
      generalize w2.setRow (w.heap.size + 1) S.toArray = w5 at *
      have HC : Hid (∀ i v, S[i]? = some v → w5.cell? ⟨w.heap.size + 1, 0 + i, none⟩ = some v) := by
        intro i v hv
        rw [cell_of_row _ _ _ _ _ _ hR15.out]
        simpa using hv
      go_wp2_with (first | (refine wpList_load_seg rfl 23 _ rfl (w.heap.size + 1) 0 rfl S _ HC.out Tryz.underlying23 rfl HI.out ?_) | (refine wpList_store_seg rfl 23 _ _ rfl rfl w.heap.size 0 rfl S rfl Z 23 hR05.out HF.out H1.out HI.out ?_))
      have HRR : Hid ((S ++ List.drop S.length Z.toList).toArray = S.toArray) := by
        have h64 : Z.toList.length ≤ S.length := by rw [Array.length_toList, hSl.out, hZs.out]; omega
        show _ = _
        rw [List.drop_eq_nil_of_le h64]; simp
      refine bodyPost_ret_by (results_row_tmp (fn := Tryz.f179) (p := 2) (u := 3) (ty := 23) (by kernel_rfl) _ _ w.heap.size 23 S.toArray (0, 0) _ rfl (by rw [HRR.out]; exact setRow_heap _ _ _ _ _ _ hR05.out) Tryz.underlying23 rfl (by rw [List.size_toArray, hSl.out]; exact size25)) rfl ?_
      exact ⟨rfl, below_setRow hB5.out _ _ (by omega)⟩

end Go.Proofs.YtidlgecognedlaaGreatDoor
