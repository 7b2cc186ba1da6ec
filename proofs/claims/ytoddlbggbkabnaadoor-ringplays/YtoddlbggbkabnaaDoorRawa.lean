/-
  What awake answers.
-/
import Derived.Test.YtoddlbggbkabnaaDoorRwak
namespace Go.Proofs.YtoddlbggbkabnaaDoor
open Go Go.RowKit
set_option maxRecDepth 100000

set_option maxHeartbeats 2000000 in
theorem awake_any (w : World) (hK : Ktab w) (hT : Lay.Tabs w) : Calls Tryd.prog 10 #[] w fun e w' => e = .returned (.bool true) ∧ Below w.heap.size w w' := by
  have HZ := zero25
  have hZs : Hid (zb32.size = 32) := show zb32.size = 32 from rfl
  generalize zb32 = Z at *
  obtain ⟨s, hs⟩ : ∃ s : List UInt8, s = [115, 101, 101, 100] := ⟨_, rfl⟩
  have HNW : Hid (Calls Tryd.prog 8 #[.string ⟨#[115, 101, 101, 100]⟩, .int .i64 3] w fun e w' => ∃ p h g b, e = .returned (.tuple #[.pointer (some ⟨p, 0, none⟩), .int .i64 0]) ∧ NewRing w w' p h g b s 3) := by
    have h := new_ok s (by rw [hs]; decide) 3 (by decide) (by decide) w hK hT
    have e : s.toArray = #[115, 101, 101, 100] := by rw [hs]
    rw [e] at h
    exact h
  have HKb : Hid (∀ V, Below w.heap.size w V → Ktab V) := fun V h => hK.stays h hK.pos
  have HTb : Hid (∀ V, Below w.heap.size w V → Lay.Tabs V) := fun V h => hT.stays h
  clear hK hT hs
  go_enter Tryd.func10, Tryd.ntmps10
  go_wp2_with (first | (go_at_call 8; refine Calls.mono HNW.out ?_))
  rintro e w1 ⟨p, h, g, b, rfl, hn⟩
  have HN := hid hn
  clear hn HNW
  obtain ⟨T, hT⟩ : ∃ T, T = tagB s (1, 2, [97]) := ⟨_, rfl⟩
  have HW := hid (wake s T w1 p h g b hT HN.out.ring (HKb.out _ HN.out.low) (HTb.out _ HN.out.low))
  have hTl : T.length = 32 := by rw [hT]; exact tagB_len _ _
  clear hT
  have HO1 := hid (one_cb T)
  have hSl : Hid ((T.map cb).length = 32) := by show List.length _ = _; rw [List.length_map]; exact hTl
  have HI : Hid ((Tryd.prog.info? 34).map (·.size) = some (T.map cb).length) := by show _ = _; rw [hSl.out]; exact size25
  have hscl := secB_len s
  have HSC := hid (fun (W : World) (rr : RingAt W p h g b s 3 [(1, 2, [97])]) => secret_any rr)
  have HTG := hid HW.out.tag
  have HCH := hid HW.out.check
  have HMD := hid HW.out.made
  have HMD2 := hid HW.out.other
  clear HW
  generalize T.map cb = S at *
  generalize secB s = sc at *
  have hsc : (⟨sc.toArray⟩ : ByteArray).size = 32 := hscl
  clear hscl
  have HF : Hid (S.length = Z.size) := by show _ = _; rw [hSl.out, hZs.out]
  go_wp2_with (first | (go_at_call 12; refine Calls.mono HTG.out ?_))
  rintro e w2 ⟨rfl, hr2, ht2⟩
  have HB2 : Hid (Below w.heap.size w w2) := HN.out.low.trans (ht2.below HN.out.far HN.out.low.size)
  have HB3 : Hid (Below w.heap.size w (w2.alloc (.cells S.toArray 34))) := below_more HB2.out _ (Nat.le_refl _)
  have r3 : Hid (RingAt (w2.alloc (.cells S.toArray 34)) p h g b s 3 [(1, 2, [97])]) := hr2.kept (below_a1 _ _)
  have hS3 := hid (seg_of_row (top_row w2 (.cells S.toArray 34)))
  clear hr2 ht2 HTG
  go_upto_region 5 with (first | (refine wpList_alloc_row rfl 34 rfl Z HZ ?_) | (refine wpList_store_top rfl 34 _ _ rfl rfl w2.heap.size rfl S rfl Z 34 rfl HF.out HO1.out HI.out ?_))
  generalize w2.alloc (.cells S.toArray 34) = w3 at *
  go_wp2_with (first | (refine wpList_load_seg_g rfl 34 _ rfl w2.heap.size 0 rfl S _ hS3.out Tryd.underlying34 rfl HI.out ?_) | (go_at_call 14; refine (HCH.out _ r3.out (HKb.out _ HB3.out) (HTb.out _ HB3.out)).mono ?_))
  rintro e w4 ⟨rfl, hb4⟩
  have r4 := hid (r3.out.kept hb4)
  have HB4 := hid (HB3.out.trans (hb4.mono HB3.out.size))
  clear hb4
  go_wp2_with (first | (go_at_call 18; refine (HMD.out _ r4.out).mono ?_))
  rintro e w5 ⟨rfl, hb5⟩
  have r5 := hid (r4.out.kept hb5)
  have HB5 := hid (HB4.out.trans (hb5.mono HB4.out.size))
  clear hb5
  go_wp2_with (first | (go_at_call 18; refine (HMD2.out _ r5.out).mono ?_))
  rintro e w6 ⟨rfl, hb6⟩
  have r6 := hid (r5.out.kept hb6)
  have HB6 := hid (HB5.out.trans (hb6.mono HB5.out.size))
  clear hb6
  go_wp2_with (first | (go_at_call 20; refine (rlen_any r6.out).mono ?_; rintro e W ⟨rfl, rfl⟩) | (go_at_call 21; refine (clients_any r6.out).mono ?_; rintro e W ⟨rfl, rfl⟩) | (go_at_call 22; refine (HSC.out _ r6.out).mono ?_; rintro e W ⟨rfl, rfl⟩))
  go_ret
  exact ⟨rfl, HB6.out⟩

end Go.Proofs.YtoddlbggbkabnaaDoor
