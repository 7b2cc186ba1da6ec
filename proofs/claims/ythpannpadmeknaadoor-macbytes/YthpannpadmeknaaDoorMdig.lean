/-
  What mac.Digest answers at any string.
-/
import Derived.Test.YthpannpadmeknaaDoorMref
namespace Go.Proofs.YthpannpadmeknaaDoor
open Go Go.RowKit
set_option maxRecDepth 100000

theorem results_row_tmp {P : Program} {fn : Func} {p u : Tmp} {ty : TypeId} (h : fn.results = #[.cell p ty, .tmp u]) (tmps : Array Value) (w : World) (g : Nat) (t : TypeId) (cs : Array Value) (fr : Nat × Nat) (d : TypeDesc)
    (hp : tmps.getD p undef = .pointer (some ⟨g, 0, none⟩)) (hg : w.heap[g]? = some (.cells cs t fr))
    (hu : P.underlying ty = some d) (hd : (match d with | .struct _ | .array _ _ => true | _ => false) = true) (hi : (P.info? ty).map (·.size) = some cs.size) :
    (results fn tmps).run P w = .ok (.tuple #[.agg cs, tmps.getD u undef]) w := by
  have hp' : tmps[p]?.getD undef = .pointer (some ⟨g, 0, none⟩) := by simpa using hp
  simp [results, h, hp', asAddr, run_loadVar_row w g t ty cs fr d hg hu hd hi]

/-- The error that mac.Digest tells of so many bytes. -/
def digErr (n : Nat) : Int := if n < 32 then 5 else if 32 < n then 6 else 0
/-- The bytes that it answers. -/
def digOut (l : List UInt8) : List UInt8 := if l.length = 32 then l else List.replicate 32 0
theorem digOut_len (l : List UInt8) : (digOut l).length = 32 := by
  unfold digOut; split
  · assumption
  · simp

set_option maxHeartbeats 1000000 in
theorem digest_any (l : List UInt8) (w : World) : Calls Tryd.prog 16 #[.string ⟨l.toArray⟩] w fun e w' => e = .returned (.tuple #[.agg ((digOut l).map cb).toArray, .int .i64 (digErr l.length)]) ∧ Below w.heap.size w w' := by
  have HZ := zero25
  have H25 := hid build25
  have hZs : Hid (zb32.size = 32) := show zb32.size = 32 from rfl
  have HZ0 : Hid (zb32 = ((List.replicate 32 0).map cb).toArray) := show zb32 = _ from rfl
  have hs0 : (⟨l.toArray⟩ : ByteArray).size = l.length := rfl
  generalize zb32 = Z at *
  have H1Z : Hid (∀ v ∈ Z.toList, v.oneCell' = true) := by show ∀ v ∈ Z.toList, _; rw [HZ0.out]; simpa using one_cb (List.replicate 32 0)
  have HIZ : Hid ((Tryd.prog.info? 25).map (·.size) = some Z.toList.length) := by show _ = _; rw [Array.length_toList, hZs.out]; exact size25
  have HFZ : Hid (0 + Z.toList.length ≤ Z.size) := by show _ ≤ _; rw [Array.length_toList]; omega
  have HRZ : Hid ((Z.toList ++ List.drop Z.size Z.toList).toArray = Z) := by
    show _ = _
    rw [List.drop_eq_nil_of_le (by rw [Array.length_toList]; omega)]; simp
  have hB0 : Hid (Below w.heap.size w ((w.alloc (.cells Z 25)).alloc (.cells Z 25))) := below_more (below_a1 w _) _ (Nat.le_refl _)
  have hR0 : Hid (((w.alloc (.cells Z 25)).alloc (.cells Z 25)).heap[w.heap.size]? = some (.cells Z 25)) := heap_alloc2_old w _ _
  have hR1 : Hid (((w.alloc (.cells Z 25)).alloc (.cells Z 25)).heap[w.heap.size + 1]? = some (.cells Z 25)) := heap_alloc2_new w _ _
  by_cases h1 : l.length < 32
  · have hde : digErr l.length = 5 := if_pos h1
    have hdo : Hid (((digOut l).map cb).toArray = Z) := by show _ = _; unfold digOut; rw [if_neg (by omega)]; exact HZ0.out.symm
    rw [hde, hdo.out]
    go_enter Tryd.func16, Tryd.ntmps16
    go_upto_region 2 with (first | (refine wpList_alloc_row rfl 25 rfl Z HZ ?_))
    generalize (w.alloc (.cells Z 25)).alloc (.cells Z 25) = w2 at *
    go_wp2_with (first | (refine wpList_build rfl 25 [] rfl [] rfl (.agg Z.toList.toArray) (by rw [Array.toArray_toList]; exact H25.out _) ?_) | (refine wpList_store_seg rfl 25 _ _ rfl rfl w.heap.size 0 rfl Z.toList rfl Z 25 hR0.out HFZ.out H1Z.out HIZ.out ?_))
    refine bodyPost_ret_by (results_row_tmp (fn := Tryd.f16) (p := 2) (u := 3) (ty := 25) (by kernel_rfl) _ _ w.heap.size 25 Z (0, 0) _ rfl (by rw [HRZ.out]; exact setRow_heap _ _ _ _ _ _ hR0.out) Tryd.underlying25 rfl (by rw [hZs.out]; exact size25)) rfl ?_
    exact ⟨rfl, below_setRow hB0.out _ _ (by omega)⟩
  · by_cases h2 : 32 < l.length
    · have hde : digErr l.length = 6 := by unfold digErr; rw [if_neg h1, if_pos h2]
      have hdo : Hid (((digOut l).map cb).toArray = Z) := by show _ = _; unfold digOut; rw [if_neg (by omega)]; exact HZ0.out.symm
      rw [hde, hdo.out]
      have h1' : 32 ≤ l.length := by omega
      clear h1
      go_enter Tryd.func16, Tryd.ntmps16
      go_upto_region 2 with (first | (refine wpList_alloc_row rfl 25 rfl Z HZ ?_))
      generalize (w.alloc (.cells Z 25)).alloc (.cells Z 25) = w2 at *
      go_wp2_with (first | (refine wpList_build rfl 25 [] rfl [] rfl (.agg Z.toList.toArray) (by rw [Array.toArray_toList]; exact H25.out _) ?_) | (refine wpList_store_seg rfl 25 _ _ rfl rfl w.heap.size 0 rfl Z.toList rfl Z 25 hR0.out HFZ.out H1Z.out HIZ.out ?_))
      refine bodyPost_ret_by (results_row_tmp (fn := Tryd.f16) (p := 2) (u := 3) (ty := 25) (by kernel_rfl) _ _ w.heap.size 25 Z (0, 0) _ rfl (by rw [HRZ.out]; exact setRow_heap _ _ _ _ _ _ hR0.out) Tryd.underlying25 rfl (by rw [hZs.out]; exact size25)) rfl ?_
      exact ⟨rfl, below_setRow hB0.out _ _ (by omega)⟩
    · have h3 : l.length = 32 := by omega
      have hde : digErr l.length = 0 := by unfold digErr; rw [if_neg h1, if_neg h2]
      have hdo : Hid ((digOut l).map cb = l.map cb) := by show _ = _; unfold digOut; rw [if_pos h3]
      rw [hde, hdo.out]
      have HCOPY : (Builtin.copy_ #[34, 9] 3 #[.slice (some ⟨w.heap.size + 1, 0, none⟩) 32 32, .string ⟨l.toArray⟩]).run Tryd.prog ((w.alloc (.cells Z 25)).alloc (.cells Z 25)) = .ok (.int .i64 32) (((w.alloc (.cells Z 25)).alloc (.cells Z 25)).setRow (w.heap.size + 1) (l.map cb).toArray) := by
        have h := run_copy_string (P := Tryd.prog) ((w.alloc (.cells Z 25)).alloc (.cells Z 25)) 34 9 3 5 (w.heap.size + 1) 0 32 32 ⟨l.toArray⟩ Z 25 l l.length rfl (by rw [h3]; rfl) Tryd.underlying34 size5 hR1.out (by rw [hZs.out]; omega)
        rw [copied l l.length rfl 32 (by omega) Z HZ0.out, h3] at h
        simpa using h
      have H1 := hid (one_cb l)
      have HI : Hid ((Tryd.prog.info? 25).map (·.size) = some (l.map cb).length) := by show _ = _; rw [List.length_map, h3]; exact size25
      have HF : Hid (0 + (l.map cb).length ≤ Z.size) := by show _ ≤ _; rw [List.length_map, h3, hZs.out]; omega
      have hSl : Hid ((l.map cb).length = 32) := by show _ = _; rw [List.length_map, h3]
      generalize hS : l.map cb = S at *
      clear hS
      go_enter Tryd.func16, Tryd.ntmps16
      go_upto_region 2 with (first | (refine wpList_alloc_row rfl 25 rfl Z HZ ?_))
      generalize (w.alloc (.cells Z 25)).alloc (.cells Z 25) = w2 at *
      go_upto_region 7 with fail
      clear HCOPY
      have hR15 : Hid ((w2.setRow (w.heap.size + 1) S.toArray).heap[w.heap.size + 1]? = some (.cells S.toArray 25)) := setRow_heap _ _ _ _ _ _ hR1.out
      have hR05 : Hid ((w2.setRow (w.heap.size + 1) S.toArray).heap[w.heap.size]? = some (.cells Z 25)) := (setRow_other _ _ _ _ (by omega)).trans hR0.out
      have hB5 : Hid (Below w.heap.size w (w2.setRow (w.heap.size + 1) S.toArray)) := below_setRow hB0.out _ _ (by omega)
      generalize w2.setRow (w.heap.size + 1) S.toArray = w5 at *
      have HC : Hid (∀ i v, S[i]? = some v → w5.cell? ⟨w.heap.size + 1, 0 + i, none⟩ = some v) := by
        intro i v hv
        rw [cell_of_row _ _ _ _ _ _ hR15.out]
        simpa using hv
      go_wp2_with (first | (refine wpList_load_seg rfl 25 _ rfl (w.heap.size + 1) 0 rfl S _ HC.out Tryd.underlying25 rfl HI.out ?_) | (refine wpList_store_seg rfl 25 _ _ rfl rfl w.heap.size 0 rfl S rfl Z 25 hR05.out HF.out H1.out HI.out ?_))
      have HRR : Hid ((S ++ List.drop S.length Z.toList).toArray = S.toArray) := by
        have h64 : Z.toList.length ≤ S.length := by rw [Array.length_toList, hSl.out, hZs.out]; omega
        show _ = _
        rw [List.drop_eq_nil_of_le h64]; simp
      refine bodyPost_ret_by (results_row_tmp (fn := Tryd.f16) (p := 2) (u := 3) (ty := 25) (by kernel_rfl) _ _ w.heap.size 25 S.toArray (0, 0) _ rfl (by rw [HRR.out]; exact setRow_heap _ _ _ _ _ _ hR05.out) Tryd.underlying25 rfl (by rw [List.size_toArray, hSl.out]; exact size25)) rfl ?_
      exact ⟨rfl, below_setRow hB5.out _ _ (by omega)⟩

end Go.Proofs.YthpannpadmeknaaDoor
