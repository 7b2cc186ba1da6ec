/-
  What the law RingBook answers at every input.
-/
import Derived.Test.YtoddlbggbkabnaaDoorWturn
import Derived.Test.YtoddlbggbkabnaaDoorQeql
namespace Go.Proofs.YtoddlbggbkabnaaDoor
open Go Go.RowKit
set_option maxRecDepth 100000

theorem rowL : (32 : TypeId) < Tryd.prog.types.size := of_decide_eq_true (by kernel_rfl)
theorem wideL : (match Tryd.prog.underlying 32 with | some (.array _ _) | some (.struct _) => true | _ => false) = true := by kernel_rfl
theorem keyTypeL : Tryd.prog.keyType 32 = true := by kernel_rfl
theorem cellsL : Tryd.prog.cellsOf 32 = 3 := by kernel_rfl
theorem keyedL : Maps.Keyed Tryd.prog 32 := Maps.Keyed.of_law (deep_law_laid laidOutE (m := 3) (by omega) rowL (by kernel_rfl) wideL)
theorem keyL {x : Ent} (h : EntWf x) : ∃ l, keyOf Tryd.prog 32 (entV x) = some l := by
  obtain ⟨n, hn⟩ := typesE
  obtain ⟨h1, h2, h3⟩ := h
  have h3' : (⟨x.2.2.toArray⟩ : ByteArray).size ≤ maxLen := h3
  unfold keyOf
  rw [Tryd.underlying32]
  simp only [keyTypeL, Bool.true_and, hn]
  have hf : (entV x).formed Tryd.prog 32 = true := by simp [entV, Value.formed, Tryd.underlying32, cellsL]
  rw [hf]
  simp [entV, Value.cells, Program.keyLits, Tryd.underlying32, Tryd.underlying3, Tryd.underlying9, cellsL, c3, c9, h1, h2, h3']
/-- '==' on lines. -/
theorem equal32 (x y : Ent) (hx : EntWf x) (hy : EntWf y) (w : World) : (Op.equalIn 10000 32 (entV x) (entV y)).run Tryd.prog w = .ok (decide (x = y)) w := by
  obtain ⟨lx, hlx⟩ := keyL hx
  obtain ⟨ly, hly⟩ := keyL hy
  obtain ⟨r, hr, hiff⟩ := run_equal_deep (P := Tryd.prog) w (m := 3) (by omega) (by kernel_rfl) wideL hlx hly
  have e : r = decide (x = y) := by
    by_cases hxy : x = y
    · subst hxy
      rw [decide_eq_true rfl]
      exact hiff.2 (Option.some.inj (hlx.symm.trans hly))
    · rw [decide_eq_false hxy]
      cases r with
      | false => rfl
      | true =>
        exfalso
        apply hxy
        have e := hiff.1 rfl
        subst e
        exact entV_inj (keyedL.inj hlx hly)
  rw [← e]
  exact hr

theorem noteL_nil (x : Ent) : noteL [] x = [x] := if_neg (List.not_mem_nil)
theorem noteL_one (x : Ent) : noteL [x] x = [x] := if_pos (List.mem_singleton.2 rfl)

/-- The second line's box. -/
def Box2 (W : World) (q : Nat) (c d : Int) (t : List UInt8) : Prop := W.heap[q]? = some (.cells #[.int .i64 c, .int .i64 d, .string ⟨t.toArray⟩] 32)
theorem Box2.kept {W W' : World} {q : Nat} {c d : Int} {t : List UInt8} (h : Box2 W q c d t) (hb : Below W.heap.size W W') : Box2 W' q c d t := row_kept h hb
theorem Box2.c0 {W : World} {q : Nat} {c d : Int} {t : List UInt8} (h : Box2 W q c d t) : W.cell? ⟨q, 0, none⟩ = some (.int .i64 c) := by rw [cell_of_row _ _ _ _ _ _ h]; rfl
theorem Box2.c1 {W : World} {q : Nat} {c d : Int} {t : List UInt8} (h : Box2 W q c d t) : W.cell? ⟨q, 1, none⟩ = some (.int .i64 d) := by rw [cell_of_row _ _ _ _ _ _ h]; rfl
theorem Box2.c2 {W : World} {q : Nat} {c d : Int} {t : List UInt8} (h : Box2 W q c d t) : W.cell? ⟨q, 2, none⟩ = some (.string ⟨t.toArray⟩) := by rw [cell_of_row _ _ _ _ _ _ h]; rfl

set_option maxHeartbeats 8000000 in
theorem ringBook_any (c d : Int) (t : List UInt8) (c' d' : Int) (t' : List UInt8) (hx0 : (-9223372036854775808 ≤ c ∧ c ≤ 9223372036854775807) ∧ (-9223372036854775808 ≤ d ∧ d ≤ 9223372036854775807) ∧ t.length ≤ maxLen)
    (hy0 : (-9223372036854775808 ≤ c' ∧ c' ≤ 9223372036854775807) ∧ (-9223372036854775808 ≤ d' ∧ d' ≤ 9223372036854775807) ∧ t'.length ≤ maxLen) (w : World) (hK : Ktab w) (hT : Lay.Tabs w) :
    Calls Tryd.prog 4 #[.agg #[.int .i64 c, .int .i64 d, .string ⟨t.toArray⟩], .agg #[.int .i64 c', .int .i64 d', .string ⟨t'.toArray⟩]] w fun e w' => e = .returned (.bool true) ∧ Below w.heap.size w w' := by
  have hx : EntWf (c, d, t) := ⟨WalkArith.wf_i64 hx0.1, WalkArith.wf_i64 hx0.2.1, hx0.2.2⟩
  have hy : EntWf (c', d', t') := ⟨WalkArith.wf_i64 hy0.1, WalkArith.wf_i64 hy0.2.1, hy0.2.2⟩
  have HA := hid (fun W a b => awake_any W a b)
  have HLi := hid (fun W => light_any c d t W)
  have HLj := hid (fun W => light_any c' d' t' W)
  have HKb : Hid (∀ V, Below w.heap.size w V → Ktab V) := fun V h => hK.stays h hK.pos
  have HTb : Hid (∀ V, Below w.heap.size w V → Lay.Tabs V) := fun V h => hT.stays h
  have HB0 : Hid (Below w.heap.size w ((w.alloc (.cells #[.int .i64 c, .int .i64 d, .string ⟨t.toArray⟩] 32)).alloc (.cells #[.int .i64 c', .int .i64 d', .string ⟨t'.toArray⟩] 32))) := below_more (below_a1 w _) _ (Nat.le_refl _)
  have hq0 : Hid (((w.alloc (.cells #[.int .i64 c, .int .i64 d, .string ⟨t.toArray⟩] 32)).alloc (.cells #[.int .i64 c', .int .i64 d', .string ⟨t'.toArray⟩] 32)).heap[w.heap.size]? = some (.cells #[.int .i64 c, .int .i64 d, .string ⟨t.toArray⟩] 32)) := row_kept (top_row w _) (below_a1 _ _)
  have hp0 : Hid (Box2 ((w.alloc (.cells #[.int .i64 c, .int .i64 d, .string ⟨t.toArray⟩] 32)).alloc (.cells #[.int .i64 c', .int .i64 d', .string ⟨t'.toArray⟩] 32)) (w.heap.size + 1) c' d' t') := heap_alloc2_new w _ _
  obtain ⟨s, hnk⟩ := new_k ((w.alloc (.cells #[.int .i64 c, .int .i64 d, .string ⟨t.toArray⟩] 32)).alloc (.cells #[.int .i64 c', .int .i64 d', .string ⟨t'.toArray⟩] 32)) (HKb.out _ HB0.out) (HTb.out _ HB0.out)
  have HNK := hid hnk
  have H25 := hid build25
  have HZ := zero25
  obtain ⟨ZL, hz, hzl, hz1, HEz, -⟩ := zeroL
  have HTZ : Hid (∀ W p h g b L, RingAt W p h g b s 4 L → ¬ May 4 (c, d, t) → Calls Tryd.prog 12 #[.pointer (some ⟨p, 0, none⟩), .int .i64 c, .int .i64 d, .string ⟨t.toArray⟩] W fun e w' => e = .returned (.tuple #[.agg ZL.toArray, .int .i64 2]) ∧ Below W.heap.size W w') := fun W p h g b L rr hm => by
    have hh := ringTag_bad rr c d t hm
    rw [hz] at hh
    exact hh
  rw [hz] at HZ H25
  have HIz : Hid ((Tryd.prog.info? 34).map (·.size) = some ZL.length) := by show _ = _; rw [hzl]; exact size25
  have HO := hid hz1
  have HFz : Hid (ZL.length = ZL.toArray.size) := by show _ = _; rw [List.size_toArray]
  have Hzs := hid hzl
  generalize lightB t = lb at *
  generalize lightB t' = lb' at *
  clear hK hT hx0 hy0 hnk hz hzl hz1
  go_enter Tryd.func4, Tryd.ntmps4
  go_upto_region 1 with fail
  generalize (w.alloc (.cells #[.int .i64 c, .int .i64 d, .string ⟨t.toArray⟩] 32)).alloc (.cells #[.int .i64 c', .int .i64 d', .string ⟨t'.toArray⟩] 32) = w0 at *
  go_wp2_with (first | (go_at_call 8; refine Calls.mono HNK.out ?_))
  rintro e w1 ⟨p, h, g, b, rfl, hN⟩
  have HS1 : Hid (Start w w1 w.heap.size p h g b s c d t []) := ⟨hN.ring, HB0.out.trans (hN.low.mono HB0.out.size), Nat.le_trans HB0.out.size hN.far, row_kept hq0.out hN.low⟩
  have HP1 := hid (hp0.out.kept hN.low)
  clear hN HNK HB0 hq0 hp0
  go_wp2_with (first | (go_at_call 10; refine (HA.out _ (HKb.out _ HS1.out.low) (HTb.out _ HS1.out.low)).mono ?_))
  rintro e w2 ⟨rfl, hb2⟩
  have HS2 := hid (HS1.out.kept hb2)
  have HP2 := hid (HP1.out.kept hb2)
  clear hb2 HS1 HP1
  have hc0 := HS2.out.c0
  have hc1 := HS2.out.c1
  have hc2 := HS2.out.c2
  go_wp2_with (first | (go_at_call 11; refine (HLi.out _).mono ?_))
  rintro e w3 ⟨rfl, hb3⟩
  have HS3 := hid (HS2.out.kept hb3)
  have HP3 := hid (HP2.out.kept hb3)
  clear hb3 HS2 HP2 hc0 hc1 hc2 HLi
  cases lb with
  | false =>
    go_wp2_with (first | (go_at_call 10; refine (HA.out _ (HKb.out _ HS3.out.low) (HTb.out _ HS3.out.low)).mono ?_))
    rintro e w4 ⟨rfl, hb4⟩
    have HS4 := hid (HS3.out.kept hb4)
    clear hb4
    go_wp2
    go_ret
    exact ⟨rfl, HS4.out.low⟩
  | true =>
    have hd0 := HP3.out.c0
    have hd1 := HP3.out.c1
    have hd2 := HP3.out.c2
    go_wp2_with (first | (go_at_call 11; refine (HLj.out _).mono ?_))
    rintro e w4 ⟨rfl, hb4⟩
    have HS4 := hid (HS3.out.kept hb4)
    have HP4 := hid (HP3.out.kept hb4)
    clear hb4 HS3 HP3 hd0 hd1 hd2 HLj
    cases lb' with
    | false =>
      go_wp2_with (first | (go_at_call 10; refine (HA.out _ (HKb.out _ HS4.out.low) (HTb.out _ HS4.out.low)).mono ?_))
      rintro e w5 ⟨rfl, hb5⟩
      have HS5 := hid (HS4.out.kept hb5)
      clear hb5
      go_wp2
      go_ret
      exact ⟨rfl, HS5.out.low⟩
    | true =>
      have hc0 := HS4.out.c0
      have hc1 := HS4.out.c1
      have hc2 := HS4.out.c2
      by_cases hm : May 4 (c, d, t)
      · have HT1 : Hid (∀ W, RingAt W p h g b s 4 [] → Ktab W → Lay.Tabs W → Calls Tryd.prog 12 #[.pointer (some ⟨p, 0, none⟩), .int .i64 c, .int .i64 d, .string ⟨t.toArray⟩] W fun e w' => e = .returned (.tuple #[.agg ((tagB s (c, d, t)).map cb).toArray, .int .i64 0]) ∧ RingAt w' p h g b s 4 [(c, d, t)] ∧ Touch b W w') := fun W rr a e => by
          have hh := tag_c rr (by decide) c d t hm (by decide) a e
          rw [noteL_nil] at hh
          exact hh
        have HT2 : Hid (∀ W, RingAt W p h g b s 4 [(c, d, t)] → Ktab W → Lay.Tabs W → Calls Tryd.prog 12 #[.pointer (some ⟨p, 0, none⟩), .int .i64 c, .int .i64 d, .string ⟨t.toArray⟩] W fun e w' => e = .returned (.tuple #[.agg ((tagB s (c, d, t)).map cb).toArray, .int .i64 0]) ∧ RingAt w' p h g b s 4 [(c, d, t)] ∧ Touch b W w') := fun W rr a e => by
          have hh := tag_c rr (by decide) c d t hm (by simp) a e
          rw [noteL_one] at hh
          exact hh
        have HCK : Hid (∀ W, RingAt W p h g b s 4 [(c, d, t)] → Ktab W → Lay.Tabs W → Calls Tryd.prog 14 #[.pointer (some ⟨p, 0, none⟩), .int .i64 c, .int .i64 d, .string ⟨t.toArray⟩, .agg ((tagB s (c, d, t)).map cb).toArray] W fun e w' => e = .returned (.bool true) ∧ Below W.heap.size W w') := fun W rr a e => check_own rr c d t _ rfl hm a e
        have HMa : Hid (∀ W, RingAt W p h g b s 4 [(c, d, t)] → Calls Tryd.prog 18 #[.pointer (some ⟨p, 0, none⟩), .int .i64 c, .int .i64 d, .string ⟨t.toArray⟩] W fun e w' => e = .returned (.bool true) ∧ Below W.heap.size W w') := fun W rr => by
          have hh := made_any rr c d t hx
          rw [decide_eq_true (List.mem_singleton.2 rfl)] at hh
          exact hh
        obtain ⟨B, hB⟩ : ∃ B, B = decide ((c, d, t) = (c', d', t')) := ⟨_, rfl⟩
        have HMb : Hid (∀ W, RingAt W p h g b s 4 [(c, d, t)] → Calls Tryd.prog 18 #[.pointer (some ⟨p, 0, none⟩), .int .i64 c', .int .i64 d', .string ⟨t'.toArray⟩] W fun e w' => e = .returned (.bool B) ∧ Below W.heap.size W w') := fun W rr => by
          have hh := made_any rr c' d' t' hy
          have e : decide ((c', d', t') ∈ [(c, d, t)]) = B := by
            rw [hB]
            by_cases ee : (c, d, t) = (c', d', t')
            · rw [decide_eq_true ee, decide_eq_true (List.mem_singleton.2 ee.symm)]
            · rw [decide_eq_false ee, decide_eq_false (fun hh => ee (List.mem_singleton.1 hh).symm)]
          rw [e] at hh
          exact hh
        have HE32 : ∀ W, (Op.equalIn 10000 32 (.agg #[.int .i64 c, .int .i64 d, .string ⟨t.toArray⟩]) (.agg #[.int .i64 c', .int .i64 d', .string ⟨t'.toArray⟩])).run Tryd.prog W = .ok B W := fun W => by
          have hh := equal32 (c, d, t) (c', d', t') hx hy W
          rw [← hB] at hh
          exact hh
        have HET := same25 (tagB s (c, d, t)) (tagB_len _ _)
        have HO1 := hid (one_cb (tagB s (c, d, t)))
        have hSl : Hid (((tagB s (c, d, t)).map cb).length = 32) := by show List.length _ = _; rw [List.length_map]; exact tagB_len _ _
        have HI : Hid ((Tryd.prog.info? 34).map (·.size) = some ((tagB s (c, d, t)).map cb).length) := by show _ = _; rw [hSl.out]; exact size25
        generalize (tagB s (c, d, t)).map cb = S at *
        have HF : Hid (S.length = ZL.toArray.size) := by show _ = _; rw [hSl.out, List.size_toArray, Hzs.out]
        clear hB hm HTZ HEz
        go_wp2_with (first | (go_at_call 12; refine (HT1.out _ HS4.out.ring (HKb.out _ HS4.out.low) (HTb.out _ HS4.out.low)).mono ?_))
        rintro e w5 ⟨rfl, hr5, ht5⟩
        have HS5 := hid (HS4.out.grown hr5 ht5)
        have HP5 : Hid (Box2 w5 (w.heap.size + 1) c' d' t') := row_touch HP4.out ht5 (HS4.out.ring.book.ne HP4.out)
        clear hr5 ht5 HT1 hc0 hc1 hc2 HS4 HP4
        have HS6 : Hid (Start w (w5.alloc (.cells S.toArray 34)) w.heap.size p h g b s c d t [(c, d, t)]) := HS5.out.kept (below_a1 _ _)
        have HP6 : Hid (Box2 (w5.alloc (.cells S.toArray 34)) (w.heap.size + 1) c' d' t') := HP5.out.kept (below_a1 _ _)
        have HR6 := hid (top_row w5 (.cells S.toArray 34))
        go_upto_region 5 with (first | (refine wpList_alloc_row rfl 34 rfl ZL.toArray HZ ?_) | (refine wpList_store_top rfl 34 _ _ rfl rfl w5.heap.size rfl S rfl ZL.toArray 34 rfl HF.out HO1.out HI.out ?_))
        generalize w5.alloc (.cells S.toArray 34) = w6 at *
        have hc0 := HS6.out.c0
        have hc1 := HS6.out.c1
        have hc2 := HS6.out.c2
        go_wp2_with (first | (go_at_call 12; refine (HT2.out _ HS6.out.ring (HKb.out _ HS6.out.low) (HTb.out _ HS6.out.low)).mono ?_))
        rintro e w7 ⟨rfl, hr7, ht7⟩
        have HS7 := hid (HS6.out.grown hr7 ht7)
        have HP7 : Hid (Box2 w7 (w.heap.size + 1) c' d' t') := row_touch HP6.out ht7 (HS6.out.ring.book.ne HP6.out)
        have HR7 := hid (row_touch HR6.out ht7 (HS6.out.ring.book.ne HR6.out))
        clear hr7 ht7 HT2 hc0 hc1 hc2 HS6 HP6 HR6
        have HS8 : Hid (Start w (w7.alloc (.cells S.toArray 34)) w.heap.size p h g b s c d t [(c, d, t)]) := HS7.out.kept (below_a1 _ _)
        have HP8 : Hid (Box2 (w7.alloc (.cells S.toArray 34)) (w.heap.size + 1) c' d' t') := HP7.out.kept (below_a1 _ _)
        have HR8 : Hid ((w7.alloc (.cells S.toArray 34)).heap[w5.heap.size]? = some (.cells S.toArray 34)) := row_kept HR7.out (below_a1 _ _)
        have HR9 := hid (top_row w7 (.cells S.toArray 34))
        go_upto_region 6 with (first | (refine wpList_alloc_row rfl 34 rfl ZL.toArray HZ ?_) | (refine wpList_store_top rfl 34 _ _ rfl rfl w7.heap.size rfl S rfl ZL.toArray 34 rfl HF.out HO1.out HI.out ?_))
        generalize w7.alloc (.cells S.toArray 34) = w8 at *
        clear HZ HS7 HP7 HR7
        go_upto_region 8 with fail
        have HK8 := hid (HKb.out _ HS8.out.low)
        have HT8 := hid (HTb.out _ HS8.out.low)
        have HC20 : Hid (∀ dd os, Calls Tryd.prog 20 #[.pointer (some ⟨p, 0, none⟩)] (Sort.grow (redrawn w8 dd) os) fun e w'' => e = .returned (.int .i64 1) ∧ ∃ p : Regrown, w'' = Sort.grow (redrawn w8 p.d) p.os) := fun dd os =>
          Calls.regrown_of ((rlen_any (HS8.out.ring.kept (below_regrown w8 dd os))).mono fun e w' hh => ⟨hh.1, hh.2 ▸ Below.refl _ _⟩)
        have HC14 : Hid (∀ dd os, Calls Tryd.prog 14 #[.pointer (some ⟨p, 0, none⟩), .int .i64 c, .int .i64 d, .string ⟨t.toArray⟩, .agg S.toArray] (Sort.grow (redrawn w8 dd) os) fun e w'' => e = .returned (.bool true) ∧ ∃ p : Regrown, w'' = Sort.grow (redrawn w8 p.d) p.os) := fun dd os =>
          Calls.regrown_of (HCK.out _ (HS8.out.ring.kept (below_regrown w8 dd os)) (HK8.out.stays (below_regrown w8 dd os) HK8.out.pos) (HT8.out.stays (below_regrown w8 dd os)))
        have HCa : Hid (∀ dd os, Calls Tryd.prog 18 #[.pointer (some ⟨p, 0, none⟩), .int .i64 c, .int .i64 d, .string ⟨t.toArray⟩] (Sort.grow (redrawn w8 dd) os) fun e w'' => e = .returned (.bool true) ∧ ∃ p : Regrown, w'' = Sort.grow (redrawn w8 p.d) p.os) := fun dd os => Calls.regrown_of (HMa.out _ (HS8.out.ring.kept (below_regrown w8 dd os)))
        have HCb : Hid (∀ dd os, Calls Tryd.prog 18 #[.pointer (some ⟨p, 0, none⟩), .int .i64 c', .int .i64 d', .string ⟨t'.toArray⟩] (Sort.grow (redrawn w8 dd) os) fun e w'' => e = .returned (.bool B) ∧ ∃ p : Regrown, w'' = Sort.grow (redrawn w8 p.d) p.os) := fun dd os => Calls.regrown_of (HMb.out _ (HS8.out.ring.kept (below_regrown w8 dd os)))
        have hc0 : ∀ dd os, (Sort.grow (redrawn w8 dd) os).cell? ⟨w.heap.size, 0, none⟩ = some (.int .i64 c) := fun dd os => cell_regrown HS8.out.c0 _ _
        have hc1 : ∀ dd os, (Sort.grow (redrawn w8 dd) os).cell? ⟨w.heap.size, 1, none⟩ = some (.int .i64 d) := fun dd os => cell_regrown HS8.out.c1 _ _
        have hc2 : ∀ dd os, (Sort.grow (redrawn w8 dd) os).cell? ⟨w.heap.size, 2, none⟩ = some (.string ⟨t.toArray⟩) := fun dd os => cell_regrown HS8.out.c2 _ _
        have he0 : ∀ dd os, (Sort.grow (redrawn w8 dd) os).cell? ⟨w.heap.size + 1, 0, none⟩ = some (.int .i64 c') := fun dd os => cell_regrown HP8.out.c0 _ _
        have he1 : ∀ dd os, (Sort.grow (redrawn w8 dd) os).cell? ⟨w.heap.size + 1, 1, none⟩ = some (.int .i64 d') := fun dd os => cell_regrown HP8.out.c1 _ _
        have he2 : ∀ dd os, (Sort.grow (redrawn w8 dd) os).cell? ⟨w.heap.size + 1, 2, none⟩ = some (.string ⟨t'.toArray⟩) := fun dd os => cell_regrown HP8.out.c2 _ _
        have HL7 := hid (cells_regrown w8 w5.heap.size S 34 HR8.out)
        have HL9 := hid (cells_regrown w8 w7.heap.size S 34 HR9.out)
        refine wp_region_quiet_below (by kernel_rfl) (by kernel_rfl) ?_
        iterate 3 (first | go_big_quiet_step (fail) | quiet_step (fail))
        refine wpQuiet_load_seg rfl 34 _ rfl w7.heap.size rfl S _ HL9.out Tryd.underlying34 rfl HI.out ?_
        simp only [Act.put, List.setIfInBounds_toArray, List.set_cons_zero, List.set_cons_succ]
        refine wpQuiet_load_seg rfl 34 _ rfl w5.heap.size rfl S _ HL7.out Tryd.underlying34 rfl HI.out ?_
        simp only [Act.put, List.setIfInBounds_toArray, List.set_cons_zero, List.set_cons_succ]
        refine wpQuiet_eql rfl 34 34 _ _ rfl S.toArray S.toArray rfl rfl guard34 true HET ?_
        simp only [Act.put, List.setIfInBounds_toArray, List.set_cons_zero, List.set_cons_succ]
        iterate 3 (first | go_big_quiet_step (fail) | quiet_step (fail))
        iterate 1 (first | go_big_quiet_step (exact HC20.out _ _) | quiet_step (exact HC20.out _ _))
        iterate 10 (first | go_big_quiet_step (fail) | quiet_step (fail))
        refine wpQuiet_load_seg rfl 34 _ rfl w5.heap.size rfl S _ HL7.out Tryd.underlying34 rfl HI.out ?_
        simp only [Act.put, List.setIfInBounds_toArray, List.set_cons_zero, List.set_cons_succ]
        iterate 1 (first | go_big_quiet_step (exact HC14.out _ _) | quiet_step (exact HC14.out _ _))
        iterate 9 (first | go_big_quiet_step (fail) | quiet_step (fail))
        iterate 1 (first | go_big_quiet_step (exact HCa.out _ _) | quiet_step (exact HCa.out _ _))
        iterate 9 (first | go_big_quiet_step (fail) | quiet_step (fail))
        iterate 1 (first | go_big_quiet_step (exact HCb.out _ _) | quiet_step (exact HCb.out _ _))
        iterate 2 (first | go_big_quiet_step (fail) | quiet_step (fail))
        refine wpQuiet_eql rfl 32 32 _ _ rfl #[.int .i64 c, .int .i64 d, .string ⟨t.toArray⟩] #[.int .i64 c', .int .i64 d', .string ⟨t'.toArray⟩] rfl rfl guard32 B HE32 ?_
        simp only [Act.put, List.setIfInBounds_toArray, List.set_cons_zero, List.set_cons_succ]
        repeat (first | go_big_quiet_step (fail) | quiet_step (fail))
        refine wpQuiet_nil ?_
        intro _ hw'
        obtain ⟨⟨dq, osq⟩, hw''⟩ := hw'
        subst hw''
        have HBf : Hid (Below w.heap.size w (Sort.grow (redrawn w8 dq) osq)) := HS8.out.low.trans ((below_regrown w8 dq osq).mono HS8.out.low.size)
        clear hc0 hc1 hc2 he0 he1 he2 HC20 HC14 HCa HCb
        go_wp2
        go_ret
        exact ⟨rfl, HBf.out⟩
      · have HTG := hid (fun W L rr => HTZ.out W p h g b L rr hm)
        clear hm HTZ
        go_wp2_with (first | (go_at_call 12; refine (HTG.out _ _ HS4.out.ring).mono ?_))
        rintro e w5 ⟨rfl, hb5⟩
        have HS5 := hid (HS4.out.kept hb5)
        clear hb5 hc0 hc1 hc2
        have HS6 : Hid (Start w (w5.alloc (.cells ZL.toArray 34)) w.heap.size p h g b s c d t []) := HS5.out.kept (below_a1 _ _)
        have HR6 := hid (top_row w5 (.cells ZL.toArray 34))
        go_upto_region 5 with (first | (refine wpList_alloc_row rfl 34 rfl ZL.toArray HZ ?_) | (refine wpList_store_top rfl 34 _ _ rfl rfl w5.heap.size rfl ZL rfl ZL.toArray 34 rfl HFz.out HO.out HIz.out ?_))
        generalize w5.alloc (.cells ZL.toArray 34) = w6 at *
        have hc0 := HS6.out.c0
        have hc1 := HS6.out.c1
        have hc2 := HS6.out.c2
        go_wp2_with (first | (go_at_call 12; refine (HTG.out _ _ HS6.out.ring).mono ?_))
        rintro e w7 ⟨rfl, hb7⟩
        have HS7 := hid (HS6.out.kept hb7)
        have HR7 := hid (row_kept HR6.out hb7)
        clear hb7 hc0 hc1 hc2
        have HS8 : Hid (Start w (w7.alloc (.cells ZL.toArray 34)) w.heap.size p h g b s c d t []) := HS7.out.kept (below_a1 _ _)
        have HSg : Hid (∀ j v, ZL[j]? = some v → (w7.alloc (.cells ZL.toArray 34)).cell? ⟨w5.heap.size, 0 + j, none⟩ = some v) := seg_of_row (row_kept HR7.out (below_a1 _ _))
        go_upto_region 6 with (first | (refine wpList_alloc_row rfl 34 rfl ZL.toArray HZ ?_) | (refine wpList_store_top rfl 34 _ _ rfl rfl w7.heap.size rfl ZL rfl ZL.toArray 34 rfl HFz.out HO.out HIz.out ?_))
        generalize w7.alloc (.cells ZL.toArray 34) = w8 at *
        clear HZ
        go_wp2_with (first | (go_at_call 20; refine (rlen_any HS8.out.ring).mono ?_; rintro e W ⟨rfl, rfl⟩) | (refine wpList_load_seg_g rfl 34 _ rfl w5.heap.size 0 rfl ZL _ HSg.out Tryd.underlying34 rfl HIz.out ?_) | (refine wpList_build_g rfl 34 [] rfl [] rfl (.agg ZL.toArray) (H25.out _) ?_))
        go_ret
        exact ⟨rfl, HS8.out.low⟩

end Go.Proofs.YtoddlbggbkabnaaDoor
