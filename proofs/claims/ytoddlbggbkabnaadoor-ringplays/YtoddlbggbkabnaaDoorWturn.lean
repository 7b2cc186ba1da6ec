/-
  What the law RingTurned answers at every input.
-/
import Derived.Test.YtoddlbggbkabnaaDoorWnone
namespace Go.Proofs.YtoddlbggbkabnaaDoor
open Go Go.RowKit
set_option maxRecDepth 100000

/-- The laws' own ring: of the seed k, four clients. -/
theorem new_k (w : World) (hK : Ktab w) (hT : Lay.Tabs w) : ∃ s : List UInt8, Calls Tryd.prog 8 #[.string ⟨#[107]⟩, .int .i64 4] w fun e w' => ∃ p h g b, e = .returned (.tuple #[.pointer (some ⟨p, 0, none⟩), .int .i64 0]) ∧ NewRing w w' p h g b s 4 := by
  obtain ⟨s, hs⟩ : ∃ s : List UInt8, s = [107] := ⟨_, rfl⟩
  refine ⟨s, ?_⟩
  have h := new_ok s (by rw [hs]; decide) 4 (by decide) (by decide) w hK hT
  have e : s.toArray = #[107] := by rw [hs]
  rw [e] at h
  exact h

theorem bit_num : ∀ r : Nat, r < 8 → (2 : Int) ^ r % 256 = bv (UInt8.ofNat (2 ^ r)) ∧ UInt8.ofNat (2 ^ r) ≠ 0 := by decide
theorem xor_ne (y m : UInt8) (hm : m ≠ 0) : y ^^^ m ≠ y := by
  intro h
  apply hm
  have e : y ^^^ (y ^^^ m) = y ^^^ y := by rw [h]
  rw [← UInt8.xor_assoc, UInt8.xor_self, UInt8.zero_xor] at e
  exact e
theorem set_ne (T : List UInt8) (i : Nat) (z : UInt8) (hi : i < T.length) (hz : z ≠ T.getD i 0) : T ≠ T.set i z := by
  intro h
  apply hz
  have e := congrArg (·[i]?) h
  simp only [List.getElem?_set_self hi] at e
  rw [List.getD_eq_getElem?_getD, e]; rfl

/-- What stands behind the law's first lines: the boxed line, a new ring. -/
structure Start (w W : World) (q p h g b : Nat) (s : List UInt8) (c d : Int) (t : List UInt8) (L : List Ent) : Prop where
  ring : RingAt W p h g b s 4 L
  low : Below w.heap.size w W
  far : w.heap.size ≤ b
  box : W.heap[q]? = some (.cells #[.int .i64 c, .int .i64 d, .string ⟨t.toArray⟩] 32)
theorem Start.kept {w W W' : World} {q p h g b : Nat} {s : List UInt8} {c d : Int} {t : List UInt8} {L : List Ent} (S : Start w W q p h g b s c d t L) (hb : Below W.heap.size W W') : Start w W' q p h g b s c d t L :=
  ⟨S.ring.kept hb, S.low.trans (hb.mono S.low.size), S.far, row_kept S.box hb⟩
theorem Start.c0 {w W : World} {q p h g b : Nat} {s : List UInt8} {c d : Int} {t : List UInt8} {L : List Ent} (S : Start w W q p h g b s c d t L) : W.cell? ⟨q, 0, none⟩ = some (.int .i64 c) := by rw [cell_of_row _ _ _ _ _ _ S.box]; rfl
theorem Start.c1 {w W : World} {q p h g b : Nat} {s : List UInt8} {c d : Int} {t : List UInt8} {L : List Ent} (S : Start w W q p h g b s c d t L) : W.cell? ⟨q, 1, none⟩ = some (.int .i64 d) := by rw [cell_of_row _ _ _ _ _ _ S.box]; rfl
theorem Start.c2 {w W : World} {q p h g b : Nat} {s : List UInt8} {c d : Int} {t : List UInt8} {L : List Ent} (S : Start w W q p h g b s c d t L) : W.cell? ⟨q, 2, none⟩ = some (.string ⟨t.toArray⟩) := by rw [cell_of_row _ _ _ _ _ _ S.box]; rfl
/-- Its own book has grown. -/
theorem Start.grown {w W W' : World} {q p h g b : Nat} {s : List UInt8} {c d : Int} {t : List UInt8} {L L' : List Ent} (S : Start w W q p h g b s c d t L) (r : RingAt W' p h g b s 4 L') (ht : Touch b W W') : Start w W' q p h g b s c d t L' :=
  ⟨r, S.low.trans (ht.below S.far S.low.size), S.far, row_touch S.box ht (S.ring.book.ne S.box)⟩

/-- A new block lies past all of these. -/
structure Past (w4 : World) (q p h g b B : Nat) : Prop where
  box : q < w4.heap.size
  obj : p < w4.heap.size
  var : h < w4.heap.size
  keys : g < w4.heap.size
  book : b < w4.heap.size
  low : B ≤ w4.heap.size
theorem Start.past {w w4 W W' : World} {q p h g b : Nat} {s : List UInt8} {c d : Int} {t : List UInt8} {L : List Ent} (S : Start w W q p h g b s c d t L) (ht : Touch w4.heap.size W W') (P : Past w4 q p h g b w.heap.size) : Start w W' q p h g b s c d t L :=
  ⟨⟨row_touch S.ring.obj ht (Nat.ne_of_lt P.obj), row_touch S.ring.var ht (Nat.ne_of_lt P.var), row_touch S.ring.keys ht (Nat.ne_of_lt P.keys), S.ring.book.at (ht.block b S.ring.book.lt (Nat.ne_of_lt P.book))⟩, S.low.trans (ht.below P.low S.low.size), S.far, row_touch S.box ht (Nat.ne_of_lt P.box)⟩

set_option maxHeartbeats 4000000 in
theorem ringTurned_any (c d : Int) (t : List UInt8) (n : Nat) (hn : n < 256) (w : World) (hK : Ktab w) (hT : Lay.Tabs w) :
    Calls Tryd.prog 5 #[.agg #[.int .i64 c, .int .i64 d, .string ⟨t.toArray⟩], .int .u8 n] w fun e w' => e = .returned (.bool true) ∧ Below w.heap.size w w' := by
  have HA := hid (fun W a b => awake_any W a b)
  have HLi := hid (fun W => light_any c d t W)
  have HKb : Hid (∀ V, Below w.heap.size w V → Ktab V) := fun V h => hK.stays h hK.pos
  have HTb : Hid (∀ V, Below w.heap.size w V → Lay.Tabs V) := fun V h => hT.stays h
  have HB0 := hid (below_a1 w (.cells #[.int .i64 c, .int .i64 d, .string ⟨t.toArray⟩] 32))
  have hq0 := hid (top_row w (.cells #[.int .i64 c, .int .i64 d, .string ⟨t.toArray⟩] 32))
  obtain ⟨s, hnk⟩ := new_k (w.alloc (.cells #[.int .i64 c, .int .i64 d, .string ⟨t.toArray⟩] 32)) (HKb.out _ HB0.out) (HTb.out _ HB0.out)
  have HNK := hid hnk
  clear hnk
  obtain ⟨lb, hlb⟩ : ∃ lb, lb = lightB t := ⟨_, rfl⟩
  rw [← hlb] at HLi
  have HLB := hid hlb
  clear hlb hK hT
  have HZ := zero25
  have hZs : Hid (zb32.size = 32) := show zb32.size = 32 from rfl
  generalize zb32 = Z at *
  go_enter Tryd.func5, Tryd.ntmps5
  go_upto_region 1 with fail
  generalize w.alloc (.cells #[.int .i64 c, .int .i64 d, .string ⟨t.toArray⟩] 32) = w0 at *
  go_wp2_with (first | (go_at_call 8; refine Calls.mono HNK.out ?_))
  rintro e w1 ⟨p, h, g, b, rfl, hN⟩
  have HS1 : Hid (Start w w1 w.heap.size p h g b s c d t []) := ⟨hN.ring, HB0.out.trans (hN.low.mono HB0.out.size), Nat.le_trans HB0.out.size hN.far, row_kept hq0.out hN.low⟩
  clear hN HNK HB0 hq0
  go_wp2_with (first | (go_at_call 10; refine (HA.out _ (HKb.out _ HS1.out.low) (HTb.out _ HS1.out.low)).mono ?_))
  rintro e w2 ⟨rfl, hb2⟩
  have HS2 := hid (HS1.out.kept hb2)
  clear hb2 HS1
  have hc0 := HS2.out.c0
  have hc1 := HS2.out.c1
  have hc2 := HS2.out.c2
  go_wp2_with (first | (go_at_call 11; refine (HLi.out _).mono ?_))
  rintro e w3 ⟨rfl, hb3⟩
  have HS3 := hid (HS2.out.kept hb3)
  clear hb3 HS2 hc0 hc1 hc2
  have hc0 := HS3.out.c0
  have hc1 := HS3.out.c1
  have hc2 := HS3.out.c2
  cases lb with
  | false =>
    go_wp2_with (first | (go_at_call 10; refine (HA.out _ (HKb.out _ HS3.out.low) (HTb.out _ HS3.out.low)).mono ?_))
    rintro e w4 ⟨rfl, hb4⟩
    have HS4 := hid (HS3.out.kept hb4)
    clear hb4
    go_wp2
    go_ret
    exact ⟨rfl, HS4.out.low⟩
  | true =>
    by_cases hm : May 4 (c, d, t)
    · have HTG := hid (tag_c HS3.out.ring (by decide) c d t hm (by decide) (HKb.out _ HS3.out.low) (HTb.out _ HS3.out.low))
      obtain ⟨T, hTe⟩ : ∃ T, T = tagB s (c, d, t) := ⟨_, rfl⟩
      rw [← hTe] at HTG
      have hTl : Hid (T.length = 32) := by show _ = _; rw [hTe]; exact tagB_len _ _
      have HTE : Hid (Unit → T = tagB s (c, d, t)) := fun _ => hTe
      have HO1 := hid (one_cb T)
      have HI : Hid ((Tryd.prog.info? 34).map (·.size) = some (T.map cb).length) := by show _ = _; rw [List.length_map, hTl.out]; exact size25
      have HF : Hid ((T.map cb).length = Z.size) := by show _ = _; rw [List.length_map, hTl.out, hZs.out]
      clear hTe
      go_wp2_with (first | (go_at_call 12; refine Calls.mono HTG.out ?_))
      rintro e w4 ⟨rfl, hr4, ht4⟩
      have HS4 := hid (HS3.out.grown hr4 ht4)
      clear hr4 ht4 HTG hc0 hc1 hc2
      have HS5 : Hid (Start w (w4.alloc (.cells (T.map cb).toArray 34)) w.heap.size p h g b s c d t (noteL [] (c, d, t))) := HS4.out.kept (below_a1 _ _)
      have Hfar : Hid (Past w4 w.heap.size p h g b w.heap.size) := ⟨row_lt HS4.out.box, row_lt HS4.out.ring.obj, row_lt HS4.out.ring.var, row_lt HS4.out.ring.keys, HS4.out.ring.book.lt, Nat.le_of_lt (row_lt HS4.out.box)⟩
      have HR5 := hid (top_row w4 (.cells (T.map cb).toArray 34))
      go_upto_region 5 with (first | (refine wpList_alloc_row rfl 34 rfl Z HZ ?_) | (refine wpList_store_top rfl 34 _ _ rfl rfl w4.heap.size rfl (T.map cb) rfl Z 34 rfl HF.out HO1.out HI.out ?_))
      generalize w4.alloc (.cells (T.map cb).toArray 34) = w5 at *
      have hq32 : n / 8 < 32 := by omega
      obtain ⟨y, hy⟩ : ∃ y, y = T.getD (n / 8) 0 := ⟨_, rfl⟩
      have hcq : w5.cell? ⟨w4.heap.size, n / 8, none⟩ = some (.int .u8 (bv y)) := by rw [cell_of_row _ _ _ _ _ _ HR5.out, List.getElem?_toArray, hy]; exact cb_at T (n / 8) (by rw [hTl.out]; exact hq32)
      have hfq : w5.frozen? ⟨w4.heap.size, n / 8, none⟩ = false := frozen_of_row _ _ _ _ _ HR5.out
      obtain ⟨m, hm8⟩ : ∃ m, m = UInt8.ofNat (2 ^ (n % 8)) := ⟨_, rfl⟩
      have hbn := bit_num (n % 8) (by omega)
      rw [← hm8] at hbn
      have hxr : bits .xor .u8 (bv y) ((2 : Int) ^ (n % 8) % 256) = bv (y ^^^ m) := by rw [hbn.1]; exact bv_xor y m
      obtain ⟨z, hz⟩ : ∃ z, z = y ^^^ m := ⟨_, rfl⟩
      rw [← hz] at hxr
      have HNE : Hid (Unit → ¬ (tagB s (c, d, t) = T.set (n / 8) z)) := fun _ => by
        rw [← HTE.out ()]
        exact set_ne T (n / 8) z (by rw [hTl.out]; exact hq32) (by rw [hz, ← hy]; exact xor_ne y m hbn.2)
      have HCK : Hid (∀ W, RingAt W p h g b s 4 (noteL [] (c, d, t)) → Ktab W → Lay.Tabs W → Calls Tryd.prog 14 #[.pointer (some ⟨p, 0, none⟩), .int .i64 c, .int .i64 d, .string ⟨t.toArray⟩, .agg ((T.set (n / 8) z).map cb).toArray] W fun e w' => e = .returned (.bool false) ∧ Below W.heap.size W w') := fun W rr a e => by
        have hh := check_c rr c d t (T.set (n / 8) z) (by rw [List.length_set]; exact hTl.out) hm a e
        rw [decide_eq_false (HNE.out ())] at hh
        exact hh
      have HID : Hid ((Tryd.prog.info? 34).map (·.size) = some ((T.set (n / 8) z).map cb).length) := by show _ = _; rw [List.length_map, List.length_set, hTl.out]; exact size25
      have HRD : Hid ((w5.setCell ⟨w4.heap.size, n / 8, none⟩ (.int .u8 (bv z))).heap[w4.heap.size]? = some (.cells ((T.set (n / 8) z).map cb).toArray 34)) := by
        show _ = _
        rw [heap_setCell_same _ _ _ _ _ _ HR5.out, cb_set T _ rfl]
      have HS6 : Hid (Start w (w5.setCell ⟨w4.heap.size, n / 8, none⟩ (.int .u8 (bv z))) w.heap.size p h g b s c d t (noteL [] (c, d, t))) := HS5.out.past (touch_setCell _ _ _ _) Hfar.out
      clear hm8 hbn hz hy hm HNE
      go_upto_region 6 with fail
      generalize w5.setCell ⟨w4.heap.size, n / 8, none⟩ (.int .u8 (bv z)) = w6 at *
      generalize (T.set (n / 8) z).map cb = S at *
      have HSg := hid (seg_of_row HRD.out)
      have hc0 := HS6.out.c0
      have hc1 := HS6.out.c1
      have hc2 := HS6.out.c2
      clear hcq hfq hxr
      go_wp2_with (first | (refine wpList_load_seg_g rfl 34 _ rfl w4.heap.size 0 rfl S _ HSg.out Tryd.underlying34 rfl HID.out ?_) | (go_at_call 14; refine (HCK.out _ HS6.out.ring (HKb.out _ HS6.out.low) (HTb.out _ HS6.out.low)).mono ?_))
      rintro e w7 ⟨rfl, hb7⟩
      have HS7 := hid (HS6.out.kept hb7)
      clear hb7
      go_wp2
      go_ret
      exact ⟨rfl, HS7.out.low⟩
    · have HTG := hid (ringTag_bad HS3.out.ring c d t hm)
      obtain ⟨Tz, hTz⟩ : ∃ Tz : List UInt8, Tz = List.replicate 32 0 := ⟨_, rfl⟩
      have hTl : Hid (Tz.length = 32) := by show _ = _; rw [hTz]; exact List.length_replicate ..
      have hZe : zb32 = (Tz.map cb).toArray := by rw [hTz]; rfl
      rw [hZe] at HTG
      have HO1 := hid (one_cb Tz)
      have HI : Hid ((Tryd.prog.info? 34).map (·.size) = some (Tz.map cb).length) := by show _ = _; rw [List.length_map, hTl.out]; exact size25
      have HF : Hid ((Tz.map cb).length = Z.size) := by show _ = _; rw [List.length_map, hTl.out, hZs.out]
      clear hTz hZe hm
      go_wp2_with (first | (go_at_call 12; refine Calls.mono HTG.out ?_))
      rintro e w4 ⟨rfl, hb4⟩
      have HS4 := hid (HS3.out.kept hb4)
      clear hb4 HTG hc0 hc1 hc2
      have HS5 : Hid (Start w (w4.alloc (.cells (Tz.map cb).toArray 34)) w.heap.size p h g b s c d t []) := HS4.out.kept (below_a1 _ _)
      have HR5 := hid (top_row w4 (.cells (Tz.map cb).toArray 34))
      have Hfar : Hid (w.heap.size < w4.heap.size ∧ Start w w4 w.heap.size p h g b s c d t []) := ⟨row_lt HS4.out.box, HS4.out⟩
      go_upto_region 5 with (first | (refine wpList_alloc_row rfl 34 rfl Z HZ ?_) | (refine wpList_store_top rfl 34 _ _ rfl rfl w4.heap.size rfl (Tz.map cb) rfl Z 34 rfl HF.out HO1.out HI.out ?_))
      generalize w4.alloc (.cells (Tz.map cb).toArray 34) = w5 at *
      have hq32 : n / 8 < 32 := by omega
      obtain ⟨y, hy⟩ : ∃ y, y = Tz.getD (n / 8) 0 := ⟨_, rfl⟩
      have hcq : w5.cell? ⟨w4.heap.size, n / 8, none⟩ = some (.int .u8 (bv y)) := by rw [cell_of_row _ _ _ _ _ _ HR5.out, List.getElem?_toArray, hy]; exact cb_at Tz (n / 8) (by rw [hTl.out]; exact hq32)
      have hfq : w5.frozen? ⟨w4.heap.size, n / 8, none⟩ = false := frozen_of_row _ _ _ _ _ HR5.out
      have HLw : Hid (∀ v, Below w.heap.size w (w5.setCell ⟨w4.heap.size, n / 8, none⟩ v)) := fun v => below_setCell HS5.out.low _ _ (Nat.le_of_lt Hfar.out.1)
      clear hy
      go_wp2
      go_ret
      exact ⟨rfl, HLw.out _⟩

end Go.Proofs.YtoddlbggbkabnaaDoor
