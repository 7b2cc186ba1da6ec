/-
  What msg.readDigest answers at any place of any bytes.
-/
import Derived.Test.YtidlgecognedlaaGreatDoorJva
import Derived.Test.YtidlgecognedlaaGreatDoorJbr
import Derived.Test.YtidlgecognedlaaGreatDoorLrdt
namespace Go.Proofs.YtidlgecognedlaaGreatDoor.Ms
open Go Go.RowKit
set_option maxRecDepth 100000

theorem results_row2 {P : Program} {fn : Func} {p u v : Tmp} {ty : TypeId} (h : fn.results = #[.cell p ty, .tmp u, .tmp v]) (tmps : Array Value) (w : World) (g : Nat) (t : TypeId) (cs : Array Value) (fr : Nat × Nat) (d : TypeDesc)
    (hp : tmps.getD p undef = .pointer (some ⟨g, 0, none⟩)) (hg : w.heap[g]? = some (.cells cs t fr))
    (hu : P.underlying ty = some d) (hd : (match d with | .struct _ | .array _ _ => true | _ => false) = true) (hi : (P.info? ty).map (·.size) = some cs.size) :
    (results fn tmps).run P w = .ok (.tuple #[.agg cs, tmps.getD u undef, tmps.getD v undef]) w := by
  have hp' : tmps[p]?.getD undef = .pointer (some ⟨g, 0, none⟩) := by simpa using hp
  simp [results, h, hp', asAddr, run_loadVar_row w g t ty cs fr d hg hu hd hi]
theorem zeroDig : (Tryz.prog.info? 23).map (·.zero) = some (some (.agg (dg zeroD).toArray)) := by kernel_rfl
theorem rdDig_err {s : List UInt8} {p : Nat} (h : (Lay.readTxt (s.drop p)).1 ≠ 0) : rdDig s p = ((Lay.readTxt (s.drop p)).1, .dig zeroD, 0) := by unfold rdDig; rw [if_pos h]
theorem rdDig_bad {s : List UInt8} {p : Nat} (h : (Lay.readTxt (s.drop p)).1 = 0) (h2 : (Lay.readTxt (s.drop p)).2.1.length ≠ 32) : rdDig s p = (6, .dig zeroD, 0) := by unfold rdDig; rw [if_neg (by omega), if_neg h2]
theorem rdDig_ok {s : List UInt8} {p : Nat} (h : (Lay.readTxt (s.drop p)).1 = 0) (h2 : (Lay.readTxt (s.drop p)).2.1.length = 32) : rdDig s p = (0, .dig (Lay.readTxt (s.drop p)).2.1, p + (Lay.readTxt (s.drop p)).2.2) := by unfold rdDig; rw [if_neg (by omega), if_pos h2]
theorem row_plain {w : World} {g : Nat} {Z : List Value} {t : TypeId} (h : w.heap[g]? = some (.cells Z.toArray t)) : w.heap[g]? = some (.cells ([] ++ (Z ++ [])).toArray t) := by simpa using h
theorem setRow_at (w : World) (g : Nat) (cs : Array Value) {cur : Array Value} {t : TypeId} (h : w.heap[g]? = some (.cells cur t)) : (w.setRow g cs).heap[g]? = some (.cells cs t) := setRow_heap w g cur cs t (0, 0) h

set_option maxHeartbeats 4000000 in
theorem readdig_any (s : List UInt8) (p : Nat) (hp : p ≤ s.length) (hs : s.length ≤ 281474976710656) (w : World) (ht : Tb w) :
    Calls Tryz.prog 137 #[st s, nu p] w fun e w' => e = .returned (.tuple #[.agg (dg (rdDig s p).2.1.d).toArray, nu (rdDig s p).2.2, nu (rdDig s p).1]) ∧ Below w.heap.size w w' := by
  have HZ := zeroDig
  have HBd := hid build_dig
  have hZl : Hid ((dg zeroD).length = 32) := show (dg zeroD).length = 32 from rfl
  have HO := hid (one_dg zeroD)
  have HB0 := hid (below_a1 w (.cells (dg zeroD).toArray 23))
  have R0 := hid (top_obj w (.cells (dg zeroD).toArray 23))
  have hT0 : Tb (w.alloc (.cells (dg zeroD).toArray 23)) := ht.stays HB0.out
  have HRd := hid (Lay.readText_any ⟨s.toArray⟩ p hp hs _ hT0 (s.drop p) rfl)
  have hIZ : (Tryz.prog.info? 23).map (·.size) = some (dg zeroD).length := by rw [hZl.out]; exact sizeDig
  clear ht hT0
  by_cases h1 : (Lay.readTxt (s.drop p)).1 = 0
  · have hto : Lay.txtTo p (s.drop p) = p + (Lay.readTxt (s.drop p)).2.2 := by unfold Lay.txtTo; rw [if_pos h1]
    rw [h1, hto] at HRd
    have HDg := hid (fun W => digest_any (Lay.readTxt (s.drop p)).2.1 W)
    by_cases h2 : (Lay.readTxt (s.drop p)).2.1.length = 32
    · rw [rdDig_ok h1 h2]
      have e1 : digErr (Lay.readTxt (s.drop p)).2.1.length = 0 := by rw [h2]; rfl
      have e2 : digOut (Lay.readTxt (s.drop p)).2.1 = (Lay.readTxt (s.drop p)).2.1 := by unfold digOut; rw [if_pos h2]
      rw [e1, e2, ← dg_map] at HDg
      have hDl : Hid ((dg (Lay.readTxt (s.drop p)).2.1).length = 32) := (dg_len _).trans h2
      have HOD := hid (one_dg (Lay.readTxt (s.drop p)).2.1)
      show Calls _ _ _ _ fun e w' => e = .returned (.tuple #[.agg (dg (Lay.readTxt (s.drop p)).2.1).toArray, nu ((p + (Lay.readTxt (s.drop p)).2.2 : Nat) : Int), nu 0]) ∧ Below w.heap.size w w'
      generalize (p + (Lay.readTxt (s.drop p)).2.2 : Nat) = tt at *
      generalize dg (Lay.readTxt (s.drop p)).2.1 = D at *
      generalize (Lay.readTxt (s.drop p)).2.1 = T at *
      have hID : (Tryz.prog.info? 23).map (·.size) = some D.length := by rw [hDl.out]; exact sizeDig
      have hLZ : (dg zeroD).length = D.length := hZl.out.trans hDl.out.symm
      generalize dg zeroD = Z at *
      clear h1 h2 e1 e2 hto hp hs
      go_enter Tryz.func137, Tryz.ntmps137
      go_upto_region 1 with (first | ((with_reducible refine wl_alloc 23 ?_ ?_ Z.toArray HZ ?_); exact rfl; exact rfl))
      generalize w.alloc (.cells Z.toArray 23) = W0 at *
      go_wp2_with fail
      refine HRd.out.mono ?_
      rintro e w1 ⟨rfl, hb⟩
      have HB1 := hid (below_two HB0.out hb)
      have R1 := hid (row_kept R0.out hb)
      clear hb HRd R0 HB0
      go_wp2_with fail
      refine (HDg.out _).mono ?_
      rintro e w2 ⟨rfl, hb⟩
      have HB2 := hid (below_two HB1.out hb)
      have R2 := hid (row_kept R1.out hb)
      clear hb HDg R1 HB1
      have HB3 := hid (below_two HB2.out (below_a1 w2 (.cells D.toArray 23)))
      have R3 := hid (row_kept R2.out (below_a1 w2 (.cells D.toArray 23)))
      have T3 := hid (top_obj w2 (.cells D.toArray 23))
      have S3 := hid (row_seg (off := 0) (A := []) (cs := D) (C := []) T3.out (by simp) rfl)
      go_upto_region 5 with (first | ((with_reducible refine wl_alloc 23 ?_ ?_ Z.toArray HZ ?_); exact rfl; exact rfl) | ((with_reducible refine wl_store_top 23 (.tmp 10) (.tmp 25) ?_ ?_ ?_ ?_ D Z ?_ 23 hLZ HOD.out hID ?_); exact rfl; exact rfl; exact rfl; exact rfl; exact rfl))
      obtain ⟨g2, hg2⟩ : ∃ g2, g2 = w2.heap.size := ⟨_, rfl⟩
      generalize w2.alloc (.cells D.toArray 23) = W3 at *
      rw [← hg2] at S3 T3 ⊢
      have R3' := hid (row_plain R3.out)
      go_wp2_with (first | ((with_reducible refine wl_load 23 (.tmp 10) ?_ g2 0 ?_ ?_ D _ S3.out Tryz.underlying23 ?_ hID ?_); exact rfl; exact rfl; exact rfl; exact rfl) | ((with_reducible refine wl_put 23 (.tmp 4) (.tmp 30) ?_ ?_ w.heap.size 0 ?_ ?_ [] D Z [] ?_ 23 R3'.out rfl hLZ HOD.out hID ?_); exact rfl; exact rfl; exact rfl; exact rfl; exact rfl; intro w4 hr4 hbut))
      have hr5 : w4.heap[w.heap.size]? = some (.cells D.toArray 23) := by simpa using hr4
      have HB4 := hid (hbut.below HB3.out (Nat.le_refl _))
      refine bodyPost_ret_by (results_row2 (fn := Tryz.f137) (p := 4) (u := 5) (v := 6) (ty := 23) (by kernel_rfl) _ _ w.heap.size 23 D.toArray (0, 0) _ rfl hr5 Tryz.underlying23 rfl (by rw [List.size_toArray]; exact hID)) rfl ?_
      exact ⟨rfl, HB4.out⟩
    · rw [rdDig_bad h1 h2]
      have e1 : digErr (Lay.readTxt (s.drop p)).2.1.length ≠ 0 := by unfold digErr; split; decide; split; decide; omega
      have hol := digOut_len (Lay.readTxt (s.drop p)).2.1
      rw [← dg_map] at HDg
      have hDl : Hid ((dg (digOut (Lay.readTxt (s.drop p)).2.1)).length = 32) := (dg_len _).trans hol
      have HOD := hid (one_dg (digOut (Lay.readTxt (s.drop p)).2.1))
      show Calls _ _ _ _ fun e w' => e = .returned (.tuple #[.agg (dg zeroD).toArray, nu 0, nu 6]) ∧ Below w.heap.size w w'
      generalize (p + (Lay.readTxt (s.drop p)).2.2 : Nat) = tt at *
      generalize dg (digOut (Lay.readTxt (s.drop p)).2.1) = D at *
      generalize digErr (Lay.readTxt (s.drop p)).2.1.length = de at *
      have de1 : (de != 0) = true := by simpa using e1
      generalize (Lay.readTxt (s.drop p)).2.1 = T at *
      have hID : (Tryz.prog.info? 23).map (·.size) = some D.length := by rw [hDl.out]; exact sizeDig
      have hLZ : (dg zeroD).length = D.length := hZl.out.trans hDl.out.symm
      generalize dg zeroD = Z at *
      clear h1 h2 e1 hto hol hp hs
      go_enter Tryz.func137, Tryz.ntmps137
      go_upto_region 1 with (first | ((with_reducible refine wl_alloc 23 ?_ ?_ Z.toArray HZ ?_); exact rfl; exact rfl))
      generalize w.alloc (.cells Z.toArray 23) = W0 at *
      go_wp2_with fail
      refine HRd.out.mono ?_
      rintro e w1 ⟨rfl, hb⟩
      have HB1 := hid (below_two HB0.out hb)
      have R1 := hid (row_kept R0.out hb)
      clear hb HRd R0 HB0
      go_wp2_with fail
      refine (HDg.out _).mono ?_
      rintro e w2 ⟨rfl, hb⟩
      have HB2 := hid (below_two HB1.out hb)
      have R2 := hid (row_kept R1.out hb)
      clear hb HDg R1 HB1
      have HB3 := hid (below_two HB2.out (below_a1 w2 (.cells D.toArray 23)))
      have R3 := hid (row_kept R2.out (below_a1 w2 (.cells D.toArray 23)))
      go_upto_region 5 with (first | ((with_reducible refine wl_alloc 23 ?_ ?_ Z.toArray HZ ?_); exact rfl; exact rfl) | ((with_reducible refine wl_store_top 23 (.tmp 10) (.tmp 25) ?_ ?_ ?_ ?_ D Z ?_ 23 hLZ HOD.out hID ?_); exact rfl; exact rfl; exact rfl; exact rfl; exact rfl))
      generalize w2.alloc (.cells D.toArray 23) = W3 at *
      have R3' := hid (row_plain R3.out)
      go_wp2_with (first | ((with_reducible refine wl_build 23 ?_ ?_ Z.toArray (HBd.out _) ?_); exact rfl; exact rfl) | ((with_reducible refine wl_put 23 (.tmp 4) (.tmp 29) ?_ ?_ w.heap.size 0 ?_ ?_ [] Z Z [] ?_ 23 R3'.out rfl rfl HO.out hIZ ?_); exact rfl; exact rfl; exact rfl; exact rfl; exact rfl; intro w4 hr4 hbut))
      have hr5 : w4.heap[w.heap.size]? = some (.cells Z.toArray 23) := by simpa using hr4
      have HB4 := hid (hbut.below HB3.out (Nat.le_refl _))
      refine bodyPost_ret_by (results_row2 (fn := Tryz.f137) (p := 4) (u := 5) (v := 6) (ty := 23) (by kernel_rfl) _ _ w.heap.size 23 Z.toArray (0, 0) _ rfl hr5 Tryz.underlying23 rfl (by rw [List.size_toArray]; exact hIZ)) rfl ?_
      exact ⟨rfl, HB4.out⟩
  · rw [rdDig_err h1]
    show Calls _ _ _ _ fun e w' => e = .returned (.tuple #[.agg (dg zeroD).toArray, nu 0, nu ((Lay.readTxt (s.drop p)).1 : Int)]) ∧ Below w.heap.size w w'
    generalize (Lay.txtTo p (s.drop p) : Nat) = tt at *
    generalize (Lay.readTxt (s.drop p)).2.1 = T at *
    generalize (Lay.readTxt (s.drop p)).1 = ee at *
    have de1 : ((ee : Int) != 0) = true := by simpa using h1
    have de1' : (ee != 0) = true := by simpa using h1
    generalize dg zeroD = Z at *
    have R0' := hid (row_plain R0.out)
    clear hp hs h1
    go_enter Tryz.func137, Tryz.ntmps137
    go_upto_region 1 with (first | ((with_reducible refine wl_alloc 23 ?_ ?_ Z.toArray HZ ?_); exact rfl; exact rfl))
    generalize w.alloc (.cells Z.toArray 23) = W0 at *
    go_wp2_with fail
    refine HRd.out.mono ?_
    rintro e w1 ⟨rfl, hb⟩
    have HB1 := hid (below_two HB0.out hb)
    have R1 := hid (row_kept R0'.out hb)
    clear hb HRd R0 HB0 R0'
    go_wp2_with (first | ((with_reducible refine wl_build 23 ?_ ?_ Z.toArray (HBd.out _) ?_); exact rfl; exact rfl) | ((with_reducible refine wl_put 23 (.tmp 4) (.tmp 20) ?_ ?_ w.heap.size 0 ?_ ?_ [] Z Z [] ?_ 23 R1.out rfl rfl HO.out hIZ ?_); exact rfl; exact rfl; exact rfl; exact rfl; exact rfl; intro w4 hr4 hbut))
    have hr5 : w4.heap[w.heap.size]? = some (.cells Z.toArray 23) := by simpa using hr4
    have HB4 := hid (hbut.below HB1.out (Nat.le_refl _))
    refine bodyPost_ret_by (results_row2 (fn := Tryz.f137) (p := 4) (u := 5) (v := 6) (ty := 23) (by kernel_rfl) _ _ w.heap.size 23 Z.toArray (0, 0) _ rfl hr5 Tryz.underlying23 rfl (by rw [List.size_toArray]; exact hIZ)) rfl ?_
    exact ⟨rfl, HB4.out⟩
end Go.Proofs.YtidlgecognedlaaGreatDoor.Ms
