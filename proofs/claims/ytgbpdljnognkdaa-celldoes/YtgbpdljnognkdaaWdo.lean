/-
  What do answers: a call of both cells, and they stay alike.
-/
import Derived.Test.YtgbpdljnognkdaaQsv
import Derived.Test.YtgbpdljnognkdaaQlo
import Derived.Test.YtgbpdljnognkdaaKsa
import Derived.Deep.RegionHeld3
namespace Go.Proofs.Ytgbpdljnognkdaa
open Go Go.RowKit
set_option maxRecDepth 100000

/-- Both disks, alike. -/
structure Both (w : World) (d g : Nat) (r : Rx) (D : Dk) : Prop where
  disk : DiskAt w d g D
  ref : RefAt w r D
abbrev allB (d g : Nat) (r : Rx) : List Nat := [d, g, r.x, r.gL, r.gO]
section
variable {w w' : World} {d g : Nat} {r : Rx} {D D' : Dk}
theorem Both.nes (h : Both w d g r D) : d ∉ [r.x, r.gL, r.gO] ∧ g ∉ [r.x, r.gL, r.gO] := by
  have h1 := h.disk.obj
  have h2 := h.disk.row
  have h3 := h.ref.obj
  have h4 := h.ref.L
  have h5 := h.ref.O
  constructor
  · intro hx
    simp at hx
    rcases hx with e | e | e
    · rw [e, h3] at h1; simp at h1
    · rw [e, h4] at h1; simp at h1
    · rw [e, h5] at h1; simp at h1
  · intro hx
    simp at hx
    rcases hx with e | e | e
    · rw [e, h3] at h2; simp at h2
    · rw [e, h4] at h2; simp at h2
    · rw [e, h5] at h2; simp at h2
theorem Both.kept (h : Both w d g r D) (hb : Below w.heap.size w w') : Both w' d g r D := ⟨h.disk.kept (X := []) (Kp.of hb) (by simp) (by simp), h.ref.below hb⟩
/-- The program's disk has changed: the reference's is as it was. -/
theorem Both.refKept (h : Both w d g r D) (hk : Kp [d, g] w w') : RefAt w' r D := by
  have hn := h.nes
  simp at hn
  exact h.ref.kept hk (by simp; exact ⟨Ne.symm hn.1.1, Ne.symm hn.2.1⟩) (by simp; exact ⟨Ne.symm hn.1.2.1, Ne.symm hn.2.2.1⟩) (by simp; exact ⟨Ne.symm hn.1.2.2, Ne.symm hn.2.2.2⟩)
theorem Both.diskKept (h : Both w d g r D) (hk : Kp [r.x, r.gL, r.gO] w w') : DiskAt w' d g D := h.disk.kept hk h.nes.1 h.nes.2

theorem Both.next (h : Both w d g r D) {w2 : World} (h2 : DiskAt w2 d g D') (h3 : RefAt w' r D') (k3 : Kp [r.x, r.gL, r.gO] w2 w') : Both w' d g r D' := ⟨h2.kept k3 h.nes.1 h.nes.2, h3⟩
theorem kp_both {w1 w2 w3 : World} (h0 : Kp (allB d g r) w w1) (h1 : Kp [d, g] w1 w2) (h2 : Kp [r.x, r.gL, r.gO] w2 w3) : Kp (allB d g r) w w3 :=
  (h0.trans (h1.drop (by simp))).trans (h2.drop (by simp))
theorem kp_both' {w1 w2 w3 : World} (h0 : Kp (allB d g r) w w1) (h1 : Kp [r.x, r.gL, r.gO] w1 w2) (h2 : Kp [d, g] w2 w3) : Kp (allB d g r) w w3 :=
  (h0.trans (h1.drop (by simp))).trans (h2.drop (by simp))

theorem writeD_len (D : Dk) (i : Int) (t : List UInt8) : (writeD D i t).S.length = D.S.length := by
  unfold writeD
  split
  · rfl
  · split
    · split
      · rw [countD_S]; simp [putS]
      · rfl
    · rfl
theorem syncD_len (D : Dk) : (syncD D).S.length = D.S.length := by
  unfold syncD
  split
  · rfl
  · split
    · rw [countD_S]
    · simp
theorem armD_len (D : Dk) (n : Int) : (armD D n).S.length = D.S.length := by
  unfold armD
  split
  · rfl
  · split <;> rfl
theorem crashD_len (D : Dk) (ks : List Int) : (crashD D ks).S.length = D.S.length := by simp [crashD, tearAll_len]

theorem putsL_len (D : Dk) (a : Nat) (cs : List (List UInt8)) : (putsL D a cs).2.S.length = D.S.length := by
  induction cs generalizing D a with
  | nil => rfl
  | cons c cs ih =>
    unfold putsL
    split
    · rw [ih, writeD_len]
    · exact writeD_len _ _ _
theorem putP_len (D : Dk) (first size i n : Nat) (t : List UInt8) : (putP D first size i n t).2.S.length = D.S.length := by
  unfold putP saveEnd
  split
  · split
    · split
      · show (syncD (writeD (syncD _) _ _)).S.length = _
        rw [syncD_len, writeD_len, syncD_len, putsL_len]
      · show (writeD (syncD _) _ _).S.length = _
        rw [writeD_len, syncD_len, putsL_len]
    · show (syncD _).S.length = _
      rw [syncD_len, putsL_len]
  · exact putsL_len _ _ _
theorem saveP_len (D : Dk) (first size : Nat) (t : List UInt8) : (saveP D first size t).2.S.length = D.S.length := by
  rw [save_as]
  split
  · rfl
  · split
    · rfl
    · split
      · rfl
      · exact putP_len _ _ _ _ _ _
/-- One act. -/
def actP (D : Dk) (first size : Nat) (k i : Int) (t : List UInt8) (ks : List Int) : Dk :=
  if k = 3 then armD D i else if k = 4 then crashD D ks else if k = 5 then syncD (writeD D i (t.take 64)) else (saveP D first size t).2
theorem actP_len (D : Dk) (first size : Nat) (k i : Int) (t : List UInt8) (ks : List Int) : (actP D first size k i t ks).S.length = D.S.length := by
  unfold actP
  split
  · exact armD_len _ _
  · split
    · exact crashD_len _ _
    · split
      · rw [syncD_len, writeD_len]
      · exact saveP_len _ _ _ _
/-- Both disks and both cells, alike. -/
structure Quad (w : World) (d g : Nat) (r : Rx) (x : Cx) (y : Nat) (D : Dk) (first size : Nat) : Prop where
  both : Both w d g r D
  cell : CellAt w x d first size
  ref : RcAt w y r first size
theorem Quad.stays {x : Cx} {y first size : Nat} (h : Quad w d g r x y D first size) (hb : Below w.heap.size w w') : Quad w' d g r x y D first size := ⟨h.both.kept hb, h.cell.stays hb, h.ref.stays hb⟩
/-- The cells are none of the disks' blocks. -/
theorem Quad.part {x : Cx} {y first size : Nat} (h : Quad w d g r x y D first size) : (x.c ∉ allB d g r ∧ x.p ∉ allB d g r ∧ x.q ∉ allB d g r ∧ x.r ∉ allB d g r) ∧ y ∉ allB d g r := by
  have h1 := h.both.disk.obj
  have h2 := h.both.disk.row
  have h3 := h.both.ref.obj
  have h4 := h.both.ref.L
  have h5 := h.both.ref.O
  have key : ∀ (k : Nat) (cs : Array Value) (t : TypeId), w.heap[k]? = some (.cells cs t) → t ≠ 60 → t ≠ 87 → t ≠ 50 → t ≠ 9 → k ∉ allB d g r := by
    intro k cs t hk n1 n2 n3 n4 hm
    simp only [List.mem_cons, List.not_mem_nil, or_false] at hm
    rcases hm with rfl | rfl | rfl | rfl | rfl
    · exact differ hk h1 n1
    · exact differ hk h2 n2
    · exact differ hk h3 n3
    · exact differ hk h4 n4
    · exact differ hk h5 n4
  exact ⟨⟨key _ _ _ h.cell.obj (by decide) (by decide) (by decide) (by decide), key _ _ _ h.cell.hp (by decide) (by decide) (by decide) (by decide), key _ _ _ h.cell.hq (by decide) (by decide) (by decide) (by decide), key _ _ _ h.cell.hr (by decide) (by decide) (by decide) (by decide)⟩, key _ _ _ h.ref.obj (by decide) (by decide) (by decide) (by decide)⟩
theorem Quad.next {x : Cx} {y first size : Nat} {D' : Dk} (h : Quad w d g r x y D first size) (hk : Kp (allB d g r) w w') (hb : Both w' d g r D') : Quad w' d g r x y D' first size := by
  obtain ⟨⟨a, b, c, e⟩, f⟩ := h.part
  exact ⟨hb, h.cell.kept hk a b c e, h.ref.kept hk f⟩
theorem kp_dr {X : List Nat} (h : Kp X w w') (hX : ∀ a ∈ X, a ∈ allB d g r) : Kp (allB d g r) w w' := h.drop (fun a ha => .inl (hX a ha))

set_option maxHeartbeats 4000000 in
theorem do_any {x : Cx} {y first size : Nat} (h : Quad w d g r x y D first size) (hroom : first + 2 + 2 * size ≤ D.S.length) (k i : Int) (t : List UInt8) (v : Value) (ks : List Int) (hi : i < 9223372036854775808) (hI : IntsAt w v ks) (hv : ks ≠ [] → ∀ b, v.ownBlock = some b → b ∉ allB d g r) :
    Calls Try.prog 13 #[.pointer (some ⟨d, 0, none⟩), .pointer (some ⟨r.x, 0, none⟩), .pointer (some ⟨x.c, 0, none⟩), .pointer (some ⟨y, 0, none⟩), .agg #[.int .i64 k, .int .i64 i, .string ⟨t.toArray⟩, v]] w fun e w' =>
      e = .returned (.bool true) ∧ Quad w' d g r x y (actP D first size k i t ks) first size ∧ Kp (allB d g r) w w' := by
  obtain ⟨ao, cap, rfl, -⟩ := id hI
  have hb0 : Below w.heap.size w (w.alloc (.cells #[.int .i64 k, .int .i64 i, .string ⟨t.toArray⟩, .slice ao ks.length cap] 40)) := below_a1 w _
  have HQd := hid (h.stays hb0)
  have H1 := hid (h.both.kept hb0)
  have hq0 : Hid ((w.alloc (.cells #[.int .i64 k, .int .i64 i, .string ⟨t.toArray⟩, .slice ao ks.length cap] 40)).heap[w.heap.size]? = some (.cells #[.int .i64 k, .int .i64 i, .string ⟨t.toArray⟩, .slice ao ks.length cap] 40)) := top_row w _
  have HI1 := hid (hI.kept hb0)
  have HK1 : Hid (Kp (allB d g r) w (w.alloc (.cells #[.int .i64 k, .int .i64 i, .string ⟨t.toArray⟩, .slice ao ks.length cap] 40))) := Kp.of hb0
  have HV := hid hv
  have hnb : Hid (w.heap.size ∉ allB d g r) := by
    have h1 := row_lt h.both.disk.obj
    have h2 := row_lt h.both.disk.row
    have h3 := row_lt h.both.ref.obj
    have h4 := row_lt h.both.ref.L
    have h5 := row_lt h.both.ref.O
    show _ ∉ _
    simp only [List.mem_cons, List.not_mem_nil, or_false]
    omega
  have HQ : Hid (∀ W, Kp (allB d g r) (w.alloc (.cells #[.int .i64 k, .int .i64 i, .string ⟨t.toArray⟩, .slice ao ks.length cap] 40)) W → W.cell? ⟨w.heap.size, 1, none⟩ = some (.int .i64 i) ∧ W.cell? ⟨w.heap.size, 2, none⟩ = some (.string ⟨t.toArray⟩)) := by
    intro W hW
    have h9 := hW.row hq0.out hnb.out
    exact ⟨by rw [cell_of_row _ _ _ _ _ _ h9]; rfl, by rw [cell_of_row _ _ _ _ _ _ h9]; rfl⟩
  clear hv hI
  unfold actP
  by_cases hk3 : k = 3
  · have n3 : (k == 3) = true := by simp [hk3]
    rw [if_pos hk3]
    clear hk3
    have HS : Hid (∀ W, DiskAt W d g D → Calls Try.prog 20 #[.pointer (some ⟨d, 0, none⟩), .int .i64 i] W fun e w' => e = .returned (.int .i64 (armE D i)) ∧ DiskAt w' d g (armD D i) ∧ Kp [d, g] W w') := fun W h => (arm_any h i hi).mono fun e w' ⟨h1, h2, h3⟩ => ⟨h1, h2, h3.drop (by simp)⟩
    have HS2 : Hid (∀ W, RefAt W r D → Calls Try.prog 26 #[.pointer (some ⟨r.x, 0, none⟩), .int .i64 i] W fun e w' => e = .returned (.int .i64 (armE D i)) ∧ RefAt w' r (armD D i) ∧ Kp [r.x, r.gL, r.gO] W w') := fun W h => (rarm_any h i hi).mono fun e w' ⟨h1, h2, h3⟩ => ⟨h1, h2, h3.drop (by simp)⟩
    generalize armE D i = eS at *
    generalize armD D i = D2 at *
    clear h
    go_enter Try.func13, Try.ntmps13
    go_wp2_with fail
    generalize w.alloc (.cells #[.int .i64 k, .int .i64 i, .string ⟨t.toArray⟩, .slice ao ks.length cap] 40) = w1 at *
    go_region_held3 (fun W => W.cell? ⟨w.heap.size, 1, none⟩ = some (.int .i64 i) ∧ W.cell? ⟨w.heap.size, 2, none⟩ = some (.string ⟨t.toArray⟩))
      (with_reducible first | exact HQ.out _ HKb | exact HQ.out _ HKa | exact HQ.out _ (Kp.refl _ _).drew | exact HQ.out _ (Kp.refl _ _))
      (first | (go_at_call 20; refine (HS.out _ (H1.out.disk.kept (X := []) ((Kp.refl _ _).drew) (by simp) (by simp))).mono ?_; rintro e W2 ⟨rfl, h2, k2⟩; have HD2 := hid h2; have HKd : Kp [d, g] w1 W2 := (Kp.refl _ _).drew.trans k2; have HKa : Kp (allB d g r) w1 W2 := HKd.drop (by simp); have HR2 := hid (H1.out.refKept HKd); clear h2 k2) | (go_at_call 26; refine (HS2.out _ HR2.out).mono ?_; rintro e W3 ⟨rfl, h3, k3⟩; have HR3 := hid h3; have HKr := hid k3; have HKb : Kp (allB d g r) w1 W3 := HKa.trans (k3.drop (by simp)); clear h3 k3))
    go_wp2
    go_ret
    exact ⟨rfl, HQd.out.next HKb (H1.out.next HD2.out HR3.out HKr.out), HK1.out.trans HKb⟩
  · have n3 : (k == 3) = false := by simp [hk3]
    rw [if_neg hk3]
    clear hk3
    by_cases hk4 : k = 4
    · have n4 : (k == 4) = true := by simp [hk4]
      rw [if_pos hk4]
      clear hk4
      have HS := hid (rcrash_any H1.out.ref (.slice ao ks.length cap) ks HI1.out (fun hne b hb => by have := HV.out hne b hb; simp at this; exact ⟨this.2.2.2.1, this.2.2.2.2⟩))
      have HQ3 : Hid (∀ W, Kp [r.x, r.gL, r.gO] (w.alloc (.cells #[.int .i64 k, .int .i64 i, .string ⟨t.toArray⟩, .slice ao ks.length cap] 40)) W → W.cell? ⟨w.heap.size, 3, none⟩ = some (.slice ao ks.length cap) ∧ IntsAt W (.slice ao ks.length cap) ks) := by
        intro W hW
        have h9 := hW.row hq0.out (fun hx => hnb.out (by simp at hx ⊢; omega))
        refine ⟨by rw [cell_of_row _ _ _ _ _ _ h9]; rfl, HI1.out.far fun hne b hb => hW.block b ?_ ?_⟩
        · obtain ⟨ao', cap', e1, -, e2⟩ := HI1.out
          injection e1 with e1
          subst e1
          obtain ⟨b', off', rfl, e3⟩ := e2 hne
          simp [Value.ownBlock] at hb
          subst hb
          cases ks with
          | nil => exact absurd rfl hne
          | cons q qs => exact World.block_lt_of_cell? _ _ (e3 0 q rfl)
        · have h8 := HV.out hne b hb
          simp at h8 ⊢
          exact h8.2.2
      clear h
      go_enter Try.func13, Try.ntmps13
      go_wp2_with fail
      refine HS.out.mono ?_
      rintro e w2 ⟨rfl, h2, k2⟩
      obtain ⟨q1, q2⟩ := HQ3.out _ k2
      have HR2 := hid h2
      have HK2 := hid k2
      have HD2 := hid (H1.out.diskKept k2)
      have HC2 := hid (crash_any HD2.out _ _ q2)
      clear h2 k2 q2
      go_wp2_with fail
      refine HC2.out.mono ?_
      rintro e w3 ⟨rfl, h3, k3⟩
      have HB3 : Hid (Both w3 d g r (crashD D ks)) := by
        have hn := H1.out.nes
        simp at hn
        exact ⟨h3, HR2.out.kept k3 (by simp; exact ⟨Ne.symm hn.1.1, Ne.symm hn.2.1⟩) (by simp; exact ⟨Ne.symm hn.1.2.1, Ne.symm hn.2.2.1⟩) (by simp; exact ⟨Ne.symm hn.1.2.2, Ne.symm hn.2.2.2⟩)⟩
      have HK3 := hid (kp_both' (Kp.refl _ _) HK2.out k3)
      clear h3 k3
      go_wp2
      go_ret
      exact ⟨rfl, HQd.out.next HK3.out HB3.out, HK1.out.trans HK3.out⟩
    · have n4 : (k == 4) = false := by simp [hk4]
      rw [if_neg hk4]
      clear hk4
      by_cases hk5 : k = 5
      · have n5 : (k == 5) = true := by simp [hk5]
        rw [if_pos hk5]
        clear hk5
        have hts : (⟨t.toArray⟩ : ByteArray).size = t.length := rfl
        obtain ⟨s, hs⟩ : ∃ s, s = t.take 64 := ⟨_, rfl⟩
        rw [← hs]
        have HS : Hid (∀ W, DiskAt W d g D → Calls Try.prog 27 #[.pointer (some ⟨d, 0, none⟩), .int .i64 i, .string ⟨s.toArray⟩] W fun e w' => e = .returned (.int .i64 (writeE D i s)) ∧ DiskAt w' d g (writeD D i s) ∧ Kp [d, g] W w') := fun W h => write_any h i s
        have HS2 : Hid (∀ W, RefAt W r D → Calls Try.prog 28 #[.pointer (some ⟨r.x, 0, none⟩), .int .i64 i, .string ⟨s.toArray⟩] W fun e w' => e = .returned (.int .i64 (writeE D i s)) ∧ RefAt w' r (writeD D i s) ∧ Kp [r.x, r.gL, r.gO] W w') := fun W h => rwrite_any h i s
        generalize writeE D i s = eS at *
        generalize writeD D i s = D2 at *
        have q2 := (HQ.out _ (Kp.refl _ _)).2
        clear h
        by_cases h64 : 64 < t.length
        · have hx : (⟨t.toArray⟩ : ByteArray).extract 0 64 = ⟨s.toArray⟩ := by rw [hs]; exact ext_take _ _
          have d64 : decide ((64 : Int) < (t.length : Int)) = true := decide_eq_true (by omega)
          clear hs
          go_enter Try.func13, Try.ntmps13
          go_wp2_with fail
          generalize w.alloc (.cells #[.int .i64 k, .int .i64 i, .string ⟨t.toArray⟩, .slice ao ks.length cap] 40) = w1 at *
          go_region_held3 (fun W => W.cell? ⟨w.heap.size, 1, none⟩ = some (.int .i64 i) ∧ W.cell? ⟨w.heap.size, 2, none⟩ = some (.string ⟨t.toArray⟩))
            (with_reducible first | exact HQ.out _ HKb | exact HQ.out _ HKa | exact HQ.out _ (Kp.refl _ _).drew | exact HQ.out _ (Kp.refl _ _))
            (first | (go_at_call 27; refine (HS.out _ (H1.out.disk.kept (X := []) ((Kp.refl _ _).drew) (by simp) (by simp))).mono ?_; rintro e W2 ⟨rfl, h2, k2⟩; have HD2 := hid h2; have HKd : Kp [d, g] w1 W2 := (Kp.refl _ _).drew.trans k2; have HKa : Kp (allB d g r) w1 W2 := HKd.drop (by simp); have HR2 := hid (H1.out.refKept HKd); clear h2 k2) | (go_at_call 28; refine (HS2.out _ HR2.out).mono ?_; rintro e W3 ⟨rfl, h3, k3⟩; have HR3 := hid h3; have HKr := hid k3; have HKb : Kp (allB d g r) w1 W3 := HKa.trans (k3.drop (by simp)); clear h3 k3))
          have HB3 := hid (H1.out.next HD2.out HR3.out HKr.out)
          have HK3 := hid HKb
          clear HKb HKa HKd HKr HR2 HR3 HD2 HS HS2
          have HSy := hid (sync_any HB3.out.disk)
          have HSy2 : Hid (∀ W, RefAt W r D2 → Calls Try.prog 30 #[.pointer (some ⟨r.x, 0, none⟩)] W fun e w' => e = .returned (.int .i64 (syncE D2)) ∧ RefAt w' r (syncD D2) ∧ Kp [r.x, r.gL, r.gO] W w') := fun W h => rsync_any h
          generalize syncE D2 = eY at *
          go_wp2_with fail
          refine HSy.out.mono ?_
          rintro e w5 ⟨rfl, h5, k5⟩
          have HD5 := hid h5
          have HK5 := hid k5
          have HR5 := hid (HB3.out.refKept k5)
          clear h5 k5 HSy
          go_wp2_with fail
          refine (HSy2.out _ HR5.out).mono ?_
          rintro e w6 ⟨rfl, h6, k6⟩
          have HB6 := hid (HB3.out.next HD5.out h6 k6)
          have HK6 := hid (kp_both HK3.out HK5.out k6)
          clear h6 k6
          go_wp2
          go_ret
          exact ⟨rfl, HQd.out.next HK6.out HB6.out, HK1.out.trans HK6.out⟩
        · have hst : t = s := by rw [hs, List.take_of_length_le (by omega)]
          subst hst
          have d64 : decide ((64 : Int) < (t.length : Int)) = false := decide_eq_false (by omega)
          clear hs
          go_enter Try.func13, Try.ntmps13
          go_wp2_with fail
          generalize w.alloc (.cells #[.int .i64 k, .int .i64 i, .string ⟨t.toArray⟩, .slice ao ks.length cap] 40) = w1 at *
          go_region_held3 (fun W => W.cell? ⟨w.heap.size, 1, none⟩ = some (.int .i64 i) ∧ W.cell? ⟨w.heap.size, 2, none⟩ = some (.string ⟨t.toArray⟩))
            (with_reducible first | exact HQ.out _ HKb | exact HQ.out _ HKa | exact HQ.out _ (Kp.refl _ _).drew | exact HQ.out _ (Kp.refl _ _))
            (first | (go_at_call 27; refine (HS.out _ (H1.out.disk.kept (X := []) ((Kp.refl _ _).drew) (by simp) (by simp))).mono ?_; rintro e W2 ⟨rfl, h2, k2⟩; have HD2 := hid h2; have HKd : Kp [d, g] w1 W2 := (Kp.refl _ _).drew.trans k2; have HKa : Kp (allB d g r) w1 W2 := HKd.drop (by simp); have HR2 := hid (H1.out.refKept HKd); clear h2 k2) | (go_at_call 28; refine (HS2.out _ HR2.out).mono ?_; rintro e W3 ⟨rfl, h3, k3⟩; have HR3 := hid h3; have HKr := hid k3; have HKb : Kp (allB d g r) w1 W3 := HKa.trans (k3.drop (by simp)); clear h3 k3))
          have HB3 := hid (H1.out.next HD2.out HR3.out HKr.out)
          have HK3 := hid HKb
          clear HKb HKa HKd HKr HR2 HR3 HD2 HS HS2
          have HSy := hid (sync_any HB3.out.disk)
          have HSy2 : Hid (∀ W, RefAt W r D2 → Calls Try.prog 30 #[.pointer (some ⟨r.x, 0, none⟩)] W fun e w' => e = .returned (.int .i64 (syncE D2)) ∧ RefAt w' r (syncD D2) ∧ Kp [r.x, r.gL, r.gO] W w') := fun W h => rsync_any h
          generalize syncE D2 = eY at *
          go_wp2_with fail
          refine HSy.out.mono ?_
          rintro e w5 ⟨rfl, h5, k5⟩
          have HD5 := hid h5
          have HK5 := hid k5
          have HR5 := hid (HB3.out.refKept k5)
          clear h5 k5 HSy
          go_wp2_with fail
          refine (HSy2.out _ HR5.out).mono ?_
          rintro e w6 ⟨rfl, h6, k6⟩
          have HB6 := hid (HB3.out.next HD5.out h6 k6)
          have HK6 := hid (kp_both HK3.out HK5.out k6)
          clear h6 k6
          go_wp2
          go_ret
          exact ⟨rfl, HQd.out.next HK6.out HB6.out, HK1.out.trans HK6.out⟩
      · have n5 : (k == 5) = false := by simp [hk5]
        rw [if_neg hk5]
        clear hk5
        have HS : Hid (∀ W, DiskAt W d g D → CellAt W x d first size → Calls Try.prog 21 #[.pointer (some ⟨x.c, 0, none⟩), .string ⟨t.toArray⟩] W fun e w' => e = .returned (.int .i64 (saveP D first size t).1) ∧ DiskAt w' d g (saveP D first size t).2 ∧ Kp [d, g] W w') := fun W h hc => save_any hc h (by omega) t
        have HS2 : Hid (∀ W, RefAt W r D → RcAt W y r first size → Calls Try.prog 31 #[.pointer (some ⟨y, 0, none⟩), .string ⟨t.toArray⟩] W fun e w' => e = .returned (.int .i64 (saveP D first size t).1) ∧ RefAt w' r (saveP D first size t).2 ∧ Kp [r.x, r.gL, r.gO] W w') := fun W h hc => rsave_any hc h hroom t
        generalize saveP D first size t = R at *
        obtain ⟨eS, D2⟩ := R
        simp only at HS HS2 ⊢
        clear h
        go_enter Try.func13, Try.ntmps13
        go_wp2_with fail
        generalize w.alloc (.cells #[.int .i64 k, .int .i64 i, .string ⟨t.toArray⟩, .slice ao ks.length cap] 40) = w1 at *
        have HYk : Hid (∀ W, Kp [d, g] w1 W → RcAt W y r first size) := fun W hk => HQd.out.ref.kept hk (fun hm => HQd.out.part.2 (by simp only [List.mem_cons, List.not_mem_nil, or_false] at hm ⊢; omega))
        go_region_held3 (fun W => W.cell? ⟨w.heap.size, 1, none⟩ = some (.int .i64 i) ∧ W.cell? ⟨w.heap.size, 2, none⟩ = some (.string ⟨t.toArray⟩))
          (with_reducible first | exact HQ.out _ HKb | exact HQ.out _ HKa | exact HQ.out _ (Kp.refl _ _).drew | exact HQ.out _ (Kp.refl _ _))
          (first | (go_at_call 21; refine (HS.out _ (H1.out.disk.kept (X := []) ((Kp.refl _ _).drew) (by simp) (by simp)) (HQd.out.cell.kept (X := []) ((Kp.refl _ _).drew) (by simp) (by simp) (by simp) (by simp))).mono ?_; rintro e W2 ⟨rfl, h2, k2⟩; have HD2 := hid h2; have HKd : Kp [d, g] w1 W2 := (Kp.refl _ _).drew.trans k2; have HKa : Kp (allB d g r) w1 W2 := HKd.drop (by simp); have HR2 := hid (H1.out.refKept HKd); clear h2 k2) | (go_at_call 31; refine (HS2.out _ HR2.out (HYk.out _ HKd)).mono ?_; rintro e W3 ⟨rfl, h3, k3⟩; have HR3 := hid h3; have HKr := hid k3; have HKb : Kp (allB d g r) w1 W3 := HKa.trans (k3.drop (by simp)); clear h3 k3))
        go_wp2
        go_ret
        exact ⟨rfl, HQd.out.next HKb (H1.out.next HD2.out HR3.out HKr.out), HK1.out.trans HKb⟩
end
end Go.Proofs.Ytgbpdljnognkdaa
