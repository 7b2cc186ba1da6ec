/-
  What the reference's Fill answers.
-/
import Derived.Test.YtnhnjdldgaaeoaaGreatDoorIrw
namespace Go.Proofs.YtnhnjdldgaaeoaaGreatDoor
open Go Go.RowKit
set_option maxRecDepth 100000

theorem conv_bytes (W : World) (base : Nat) (l : List UInt8) (hb : base ≤ W.heap.size) (hl : l.length ≤ 140737488355228) :
    ∃ g cap W1, (convert 9 97 (.string ⟨l.toArray⟩)).run Tryz.prog W = .ok (.slice (some ⟨g, 0, none⟩) l.length cap) W1 ∧ brow W1 base (.slice (some ⟨g, 0, none⟩) l.length cap) l ∧ Below W.heap.size W W1 := by
  have hr := Lib.run_convert_string_bytes (P := Tryz.prog) W 9 97 5 ⟨l.toArray⟩ Tryz.underlying9 Tryz.underlying97 Tryz.underlying5
  have hs : (⟨l.toArray⟩ : ByteArray).size = l.length := rfl
  rw [hs] at hr
  have hge := grownCap_ge W l.length 0 5
  have hcm := grownCap_le_maxLen W l.length 0 5 (by unfold maxLen; omega)
  have hcs : (Lib.bytesCells W 5 ⟨l.toArray⟩).size = grownCap W l.length 0 5 := by
    simp [Lib.bytesCells, hs]; omega
  refine ⟨W.heap.size, _, _, hr, .inr ⟨W.heap.size, _, _, _, rfl, hb, Lib.bytesWorld_at_new W 5 _, ?_, hge, hcs, hcm, ?_⟩, ?_⟩
  · intro j hj h; simp at h; omega
  · simp [Lib.bytesCells]
    intro a _
    rfl
  · exact ⟨rfl, rfl, rfl, by rw [Lib.bytesWorld_size]; omega, fun k hk => Lib.bytesWorld_at_old W 5 _ k hk⟩
theorem brow_lit (W : World) (base : Nat) (c : UInt8) (x : Int) (hx : x = bv c) (hb : base ≤ W.heap.size) : brow (W.alloc (.cells #[.int .u8 x] 5)) base (.slice (some ⟨W.heap.size, 0, none⟩) 1 1) [c] := by
  subst hx; exact brow_one W base c hb
def sliceLen : Value → Nat
  | .slice _ n _ => n
  | _ => 0
/-- A text as a value. -/
def tx (l : List UInt8) : Value := .string ⟨l.toArray⟩

set_option maxHeartbeats 2000000 in
theorem rfill_any (l : List UInt8) (hl : l.length ≤ 64) (w : World) : Calls Tryz.prog 23 #[.string ⟨l.toArray⟩] w fun e w' => e = .returned (.string ⟨(fillB l).toArray⟩) ∧ Below w.heap.size w w' := by
  obtain ⟨g0, cap0, W1, hcv, hr1, hb1⟩ := conv_bytes w w.heap.size l (Nat.le_refl _) (by omega)
  have HR1 : Hid (brow W1 w.heap.size (.slice (some ⟨g0, 0, none⟩) (l.length + 0) cap0) (l ++ List.replicate 0 0)) := by show brow _ _ _ _; rw [List.replicate_zero, List.append_nil]; exact hr1
  have HB1 := hid hb1
  clear hr1 hb1
  have HE : Hid (fillB l = l ++ List.replicate (64 - l.length) 0) := show _ = _ from rfl
  generalize fillB l = F at *
  go_enter Tryz.func23, Tryz.ntmps23
  go_wp2
  go_loopw [3] (fun v w' => ∃ (g cap j : Nat), v = .slice (some ⟨g, 0, none⟩) (l.length + j) cap ∧ l.length + j ≤ 64 ∧ Hid (brow w' w.heap.size (.slice (some ⟨g, 0, none⟩) (l.length + j) cap) (l ++ List.replicate j 0)) ∧ Hid (Below w.heap.size w w')) (fun v _ => 100 - sliceLen v)
  case atStart => exact ⟨g0, cap0, 0, rfl, by omega, HR1, HB1⟩
  case round =>
    clear HR1 HB1
    obtain ⟨g, cap, j, rfl, hj, HI, HB⟩ := hrel
    have hsz : w.heap.size ≤ wr.heap.size := HB.out.size
    by_cases hlt : l.length + j < 64
    · have HS : Hid ((l ++ List.replicate j 0) ++ [0] = l ++ List.replicate (j + 1) 0) := by
        show _ = _
        rw [List.append_assoc, ← List.replicate_succ']
      have HLL : Hid ((l ++ List.replicate j 0).length = l.length + j) := show _ = _ by simp
      have hle : (l ++ List.replicate (j + 1) (0 : UInt8)).length = l.length + (j + 1) := by simp
      generalize hLd : l ++ List.replicate j (0 : UInt8) = L at *
      clear hLd
      have HLE := hid hle
      clear hle
      go_wp2_with (first | (at_builtin; refine wpList_app rfl _ _ rfl w.heap.size w.heap.size _ _ L [0] rfl rfl (brow_below HI.out (below_a1 _ _) (Nat.le_refl _)) (brow_lit _ _ 0 _ rfl hsz) (Or.inr (by simp)) ?c1 ?c2 ?_))
      case c1 => rw [HLL.out]; simp; omega
      case c2 => simp; omega
      intro v3 w3 hr3 hg3
      have HB3 : Hid (Below w.heap.size w w3) := (HB.out.alloc hsz _).grown hg3 (by simp; omega) (brow_own HI.out)
      rw [HS.out] at hr3
      obtain ⟨g3, cap3, hv3, -, -⟩ := brow_form hr3 (by simp)
      rw [HLE.out] at hv3
      subst v3
      have HR3 : Hid (brow w3 w.heap.size (.slice (some ⟨g3, 0, none⟩) (l.length + (j + 1)) cap3) (l ++ List.replicate (j + 1) 0)) := hr3
      clear hr3 hg3 HI HB
      go_wp2
      go_roundw
      case rel => exact ⟨g3, cap3, j + 1, rfl, by omega, HR3, HB3⟩
      case measure => simp [sliceLen]; omega
    · have HV : (convert 97 9 (.slice (some ⟨g, 0, none⟩) (l.length + j) cap)).run Tryz.prog wr = .ok (.string ⟨F.toArray⟩) wr := by
        have h := conv_brow HI.out
        rw [show j = 64 - l.length by omega, ← HE.out] at h
        rw [show j = 64 - l.length by omega]
        exact h
      clear HI
      have hjj : l.length + j = 64 := by omega
      rw [hjj] at HV ⊢
      go_wp2
      go_ret
      exact ⟨rfl, HB.out⟩
end Go.Proofs.YtnhnjdldgaaeoaaGreatDoor
