/-
  The reference's After: what a client that was answered so will commit.
-/
import Derived.Test.YtoneoocihfjfgaaGreatDoorG20
namespace Go.Proofs.YtoneoocihfjfgaaGreatDoor.Ms
open Go Go.RowKit
set_option maxRecDepth 100000
theorem cell_kq {w w' : World} {g i : Nat} {u : Value} (h : w.cell? ⟨g, i, none⟩ = some u) (hb : Below w.heap.size w w') : w'.cell? ⟨g, i, none⟩ = some u := (hb.cell (p := ⟨g, i, none⟩) (World.block_lt_of_cell? w _ h)).trans h
set_option maxHeartbeats 4000000 in
theorem rafter_any {w : World} {y : Rep} {v : Value} (hw : y.Wf) (hv : PensAt w v y.pend) (hcl : ∀ p ∈ y.pend, 0 ≤ p.client ∧ p.client < 256) (hl1 : y.view.length ≤ 1000) (hl2 : y.pend.length ≤ 1000) (c : Nat) (hc : c < 256) :
    Calls Tryz.prog 22 #[.agg (repC y v).toArray, nu (c : Int)] w fun e w' => e = .returned (st (afterR y (c : Int))) ∧ Below w.heap.size w w' := by
  obtain ⟨va, vcap, rfl, hat⟩ := hv
  have T0 := top_obj w (.cells (repC y (.slice va y.pend.length vcap)).toArray 45)
  have B0 := hid (below_a1 w (.cells (repC y (.slice va y.pend.length vcap)).toArray 45))
  have cv := rrow_view T0 hw
  have CP := hid (rrow_P T0 hw)
  have hcl' := hid hcl
  have HAT := hid hat
  clear T0 hw hat hcl
  generalize repC y (.slice va y.pend.length vcap) = RC at *
  go_enter Tryz.func22, Tryz.ntmps22
  go_upto_region 1 with fail
  generalize w.alloc (.cells RC.toArray 45) = W0 at *
  generalize hg0 : w.heap.size = g0 at *
  have HB := hid (below_bytes W0 ⟨y.view.toArray⟩)
  have HW := hid (brow_conv W0 y.view W0.heap.size (Nat.le_refl _) (by omega))
  have hcv : (convert 9 70 (.string ⟨y.view.toArray⟩)).run Tryz.prog W0 = .ok (.slice (some ⟨W0.heap.size, 0, none⟩) y.view.length (grownCap W0 y.view.length 0 5)) (Lib.bytesWorld W0 5 ⟨y.view.toArray⟩) := Lib.run_convert_string_bytes W0 9 70 5 ⟨y.view.toArray⟩ Tryz.underlying9 Tryz.underlying70 Tryz.underlying5
  generalize grownCap W0 y.view.length 0 5 = gc at *
  generalize Lib.bytesWorld W0 5 ⟨y.view.toArray⟩ = W1 at *
  have HAK : Hid (PensAt W0 (.slice va y.pend.length vcap) y.pend) := PensAt.kept (w := w) ⟨va, vcap, rfl, HAT.out⟩ (by rw [hg0]; exact B0.out)
  go_wp2
  clear hcv cv HAT
  go_loopw [6, 5] (fun i vv wr => ∃ (k : Nat) (v : Value), k ≤ y.pend.length ∧ i = nu k ∧ v = vv ∧ Hid (brow wr W0.heap.size v (y.view ++ (y.pend.take k).map fun x => by8 x.client)) ∧ Hid (Below W0.heap.size W0 wr) ∧ Hid (v ≠ .slice none 0 0)) (fun i _ _ => y.pend.length - (intOf i).toNat)
  case atStart => exact ⟨0, _, by omega, rfl, rfl, by show brow _ _ _ _; simpa using HW.out, HB.out, fun h => by cases h⟩
  case round =>
    obtain ⟨k, v3, hk, rfl, rfl, HV, HBr, HNN⟩ := hrel
    clear HB HW
    have cP := cell_kq CP.out HBr.out
    have hs2 : W0.heap.size ≤ wr.heap.size := HBr.out.size
    by_cases hlt : k < y.pend.length
    · have d1 : decide ((k : Int) < (y.pend.length : Int)) = true := decide_eq_true (by omega)
      have d1' : decide (k < y.pend.length) = true := decide_eq_true hlt
      have hpk := hcl'.out _ (List.getElem_mem hlt)
      obtain ⟨va', cap', ev, hat'⟩ := HAK.out.kept HBr.out
      cases ev
      obtain ⟨b, off, rfl, hcc⟩ := hat' (fun e => by rw [e] at hlt; exact absurd hlt (Nat.not_lt_zero k))
      obtain ⟨d, hd⟩ : ∃ d : Nat, y.pend[k].client = (d : Int) := ⟨y.pend[k].client.toNat, by omega⟩
      have hd8 : d < 256 := by omega
      have c0 : wr.cell? ⟨b, off + k * 68, none⟩ = some (nu (d : Int)) := by
        rw [← hd]
        refine hcc k hlt 0 _ ?_
        rw [List.getD_eq_getElem?_getD, List.getElem?_eq_getElem hlt]
        rfl
      have htk : (y.pend.take (k + 1)).map (fun x => by8 x.client) = (y.pend.take k).map (fun x => by8 x.client) ++ [by8 y.pend[k].client] := by
        rw [List.take_succ_eq_append_getElem hlt, List.map_append]
        rfl
      rw [hd] at htk
      have hbv : Ms.bv (by8 (d : Int)) = (d : Int) := by8_val _ (by omega)
      have hll' : (y.view ++ (y.pend.take k).map fun x => by8 x.client).length ≤ 2000 := by simp; omega
      have HNX : Hid ((y.view ++ (y.pend.take k).map fun x => by8 x.client) ++ [by8 (d : Int)] = y.view ++ (y.pend.take (k + 1)).map fun x => by8 x.client) := by show _ = _; rw [htk, List.append_assoc]
      clear hcc hpk hd htk hat'
      generalize (y.view ++ (y.pend.take k).map fun x => by8 x.client) = PL at *
      have hu : brow (wr.alloc (.cells #[.int .u8 (d : Int)] 5)) wr.heap.size (.slice (some ⟨wr.heap.size, 0, none⟩) 1 1) [by8 (d : Int)] := by
        have := brow_one wr wr.heap.size (by8 (d : Int)) (Nat.le_refl _)
        rw [show Go.Proofs.YtoneoocihfjfgaaGreatDoor.bv (by8 (d : Int)) = (d : Int) from hbv] at this
        exact this
      have HU := hid hu
      have V2 : Hid (brow (wr.alloc (.cells #[.int .u8 (d : Int)] 5)) W0.heap.size v3 PL) := brow_below HV.out (below_a1 wr _) (Nat.le_refl _)
      have B2 := hid (below_two HBr.out (below_a1 wr (.cells #[.int .u8 (d : Int)] 5)))
      have OB := hid (brow_own HV.out)
      clear hu HV
      go_wp2_with (first | (at_builtin; refine wpList_app rfl _ _ rfl W0.heap.size wr.heap.size v3 _ PL [by8 (d : Int)] rfl rfl V2.out HU.out (Or.inl HNN.out) (by simp; omega) (by simp; omega) ?_; intro v4 W4 hv4 hg4; rw [HNX.out] at hv4; have V4 := hid hv4; have G4 := hid hg4; clear hv4 hg4))
      refine ⟨⟨k + 1, v4, by omega, by go_num, rfl, V4.out, ?_, ?_⟩, by simp [intOf]; omega⟩
      · exact ((Kp.of (X := []) B2.out).grown G4.out (fun b hb => Or.inr (OB.out b hb))).below (by simp) (Nat.le_refl _)
      · rintro rfl
        rcases V4.out with ⟨-, e⟩ | ⟨g', cap', cur', fz', e, -⟩
        · rw [← HNX.out] at e
          simp at e
        · cases e
    · have e : k = y.pend.length := by omega
      subst e
      rw [List.take_length] at HV
      have hbv : Ms.bv (by8 (c : Int)) = (c : Int) := by8_val _ (by omega)
      have hll' : (y.view ++ y.pend.map fun x => by8 x.client).length ≤ 2000 := by simp; omega
      have HNX : Hid ((y.view ++ y.pend.map fun x => by8 x.client) ++ [by8 (c : Int)] = afterR y (c : Int)) := rfl
      generalize (y.view ++ y.pend.map fun x => by8 x.client) = PL at *
      have hu : brow (wr.alloc (.cells #[.int .u8 (c : Int)] 5)) wr.heap.size (.slice (some ⟨wr.heap.size, 0, none⟩) 1 1) [by8 (c : Int)] := by
        have := brow_one wr wr.heap.size (by8 (c : Int)) (Nat.le_refl _)
        rw [show Go.Proofs.YtoneoocihfjfgaaGreatDoor.bv (by8 (c : Int)) = (c : Int) from hbv] at this
        exact this
      have HU := hid hu
      have V2 : Hid (brow (wr.alloc (.cells #[.int .u8 (c : Int)] 5)) W0.heap.size v3 PL) := brow_below HV.out (below_a1 wr _) (Nat.le_refl _)
      have B2 := hid (below_two HBr.out (below_a1 wr (.cells #[.int .u8 (c : Int)] 5)))
      have OB := hid (brow_own HV.out)
      clear hu HV
      go_upto_region 7 with (first | (at_builtin; refine wpList_app rfl _ _ rfl W0.heap.size wr.heap.size v3 _ PL [by8 (c : Int)] rfl rfl V2.out HU.out (Or.inl HNN.out) (by simp; omega) (by simp; omega) ?_; intro v4 W4 hv4 hg4; rw [HNX.out] at hv4; have V4 := hid hv4; have G4 := hid hg4; clear hv4 hg4))
      have B4 : Hid (Below W0.heap.size W0 W4) := ((Kp.of (X := []) B2.out).grown G4.out (fun b hb => Or.inr (OB.out b hb))).below (by simp) (Nat.le_refl _)
      have hx := conv_brow V4.out
      clear V4 G4 V2 HU
      go_wp2
      go_ret
      exact ⟨rfl, by have := B0.out; rw [← hg0] at this; exact hg0 ▸ below_two this B4.out⟩
end Go.Proofs.YtoneoocihfjfgaaGreatDoor.Ms
