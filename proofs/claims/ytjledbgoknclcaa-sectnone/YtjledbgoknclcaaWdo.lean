/-
  What do answers: a call of both disks, and they stay alike.
-/
import Derived.Test.YtjledbgoknclcaaRcr
import Derived.Test.YtjledbgoknclcaaAwk
import Derived.Deep.RegionHeld3
namespace Go.Proofs.Ytjledbgoknclcaa
open Go Go.RowKit
set_option maxRecDepth 100000

/-- Both disks, alike. -/
structure Both (w : World) (d g : Nat) (r : Rx) (D : Dk) : Prop where
  disk : DiskAt w d g D
  ref : RefAt w r D
abbrev allB (d g : Nat) (r : Rx) : List Nat := [d, g, r.x, r.gL, r.gO]
section
variable {w w' : World} {d g : Nat} {r : Rx} {D D' : Dk}
theorem Both.nes (h : Both w d g r D) : d ∉ [r.x, r.gL, r.gO] ∧ g ∉ [r.x, r.gL, r.gO] := by
  have h1 := h.disk.obj
  have h2 := h.disk.row
  have h3 := h.ref.obj
  have h4 := h.ref.L
  have h5 := h.ref.O
  constructor
  · intro hx
    simp at hx
    rcases hx with e | e | e
    · rw [e, h3] at h1; simp at h1
    · rw [e, h4] at h1; simp at h1
    · rw [e, h5] at h1; simp at h1
  · intro hx
    simp at hx
    rcases hx with e | e | e
    · rw [e, h3] at h2; simp at h2
    · rw [e, h4] at h2; simp at h2
    · rw [e, h5] at h2; simp at h2
theorem Both.kept (h : Both w d g r D) (hb : Below w.heap.size w w') : Both w' d g r D := ⟨h.disk.kept (X := []) (Kp.of hb) (by simp) (by simp), h.ref.below hb⟩
/-- The program's disk has changed: the reference's is as it was. -/
theorem Both.refKept (h : Both w d g r D) (hk : Kp [d, g] w w') : RefAt w' r D := by
  have hn := h.nes
  simp at hn
  exact h.ref.kept hk (by simp; exact ⟨Ne.symm hn.1.1, Ne.symm hn.2.1⟩) (by simp; exact ⟨Ne.symm hn.1.2.1, Ne.symm hn.2.2.1⟩) (by simp; exact ⟨Ne.symm hn.1.2.2, Ne.symm hn.2.2.2⟩)
theorem Both.diskKept (h : Both w d g r D) (hk : Kp [r.x, r.gL, r.gO] w w') : DiskAt w' d g D := h.disk.kept hk h.nes.1 h.nes.2

theorem Both.next (h : Both w d g r D) {w2 : World} (h2 : DiskAt w2 d g D') (h3 : RefAt w' r D') (k3 : Kp [r.x, r.gL, r.gO] w2 w') : Both w' d g r D' := ⟨h2.kept k3 h.nes.1 h.nes.2, h3⟩
theorem kp_both {w1 w2 w3 : World} (h0 : Kp (allB d g r) w w1) (h1 : Kp [d, g] w1 w2) (h2 : Kp [r.x, r.gL, r.gO] w2 w3) : Kp (allB d g r) w w3 :=
  (h0.trans (h1.drop (by simp))).trans (h2.drop (by simp))
theorem kp_both' {w1 w2 w3 : World} (h0 : Kp (allB d g r) w w1) (h1 : Kp [r.x, r.gL, r.gO] w1 w2) (h2 : Kp [d, g] w2 w3) : Kp (allB d g r) w w3 :=
  (h0.trans (h1.drop (by simp))).trans (h2.drop (by simp))

theorem writeD_len (D : Dk) (i : Int) (t : List UInt8) : (writeD D i t).S.length = D.S.length := by
  unfold writeD
  split
  · rfl
  · split
    · split
      · rw [countD_S]; simp [putS]
      · rfl
    · rfl
theorem syncD_len (D : Dk) : (syncD D).S.length = D.S.length := by
  unfold syncD
  split
  · rfl
  · split
    · rw [countD_S]
    · simp
theorem armD_len (D : Dk) (n : Int) : (armD D n).S.length = D.S.length := by
  unfold armD
  split
  · rfl
  · split <;> rfl
theorem crashD_len (D : Dk) (ks : List Int) : (crashD D ks).S.length = D.S.length := by simp [crashD, tearAll_len]

/-- One act. -/
def actD (D : Dk) (k i : Int) (t : List UInt8) (ks : List Int) : Dk :=
  if k = 0 ∨ k = 1 ∨ k = 2 then writeD D i t else if k = 3 then syncD D else if k = 4 then armD D i else crashD D ks
theorem actD_len (D : Dk) (k i : Int) (t : List UInt8) (ks : List Int) : (actD D k i t ks).S.length = D.S.length := by
  unfold actD
  split
  · exact writeD_len _ _ _
  · split
    · exact syncD_len _
    · split
      · exact armD_len _ _
      · exact crashD_len _ _

set_option maxHeartbeats 4000000 in
theorem do_any (h : Both w d g r D) (k i : Int) (t : List UInt8) (v : Value) (ks : List Int) (hi : i < 9223372036854775808) (hI : IntsAt w v ks) (hv : ks ≠ [] → ∀ b, v.ownBlock = some b → b ∉ allB d g r) :
    Calls Try.prog 24 #[.pointer (some ⟨d, 0, none⟩), .pointer (some ⟨r.x, 0, none⟩), .agg #[.int .i64 k, .int .i64 i, .string ⟨t.toArray⟩, v]] w fun e w' =>
      e = .returned (.bool true) ∧ Both w' d g r (actD D k i t ks) ∧ Kp (allB d g r) w w' := by
  have hb0 : Below w.heap.size w (w.alloc (.cells #[.int .i64 k, .int .i64 i, .string ⟨t.toArray⟩, v] 44)) := below_a1 w _
  have H1 := hid (h.kept hb0)
  have hq0 : Hid ((w.alloc (.cells #[.int .i64 k, .int .i64 i, .string ⟨t.toArray⟩, v] 44)).heap[w.heap.size]? = some (.cells #[.int .i64 k, .int .i64 i, .string ⟨t.toArray⟩, v] 44)) := top_row w _
  have HI1 := hid (hI.kept hb0)
  have HK1 : Hid (Kp (allB d g r) w (w.alloc (.cells #[.int .i64 k, .int .i64 i, .string ⟨t.toArray⟩, v] 44))) := Kp.of hb0
  have HV := hid hv
  have hnb : Hid (w.heap.size ∉ allB d g r) := by
    have h1 := row_lt h.disk.obj
    have h2 := row_lt h.disk.row
    have h3 := row_lt h.ref.obj
    have h4 := row_lt h.ref.L
    have h5 := row_lt h.ref.O
    show _ ∉ _
    simp only [List.mem_cons, List.not_mem_nil, or_false]
    omega
  obtain ⟨ao, cap, rfl, -⟩ := hI
  clear h hb0 hv
  by_cases hk : k = 0 ∨ k = 1 ∨ k = 2
  · have eA : actD D k i t ks = writeD D i t := by unfold actD; rw [if_pos hk]
    rw [eA]
    clear eA
    have HS : Hid (∀ W, DiskAt W d g D → Calls Try.prog 18 #[.pointer (some ⟨d, 0, none⟩), .int .i64 i, .string ⟨t.toArray⟩] W fun e w' => e = .returned (.int .i64 (writeE D i t)) ∧ DiskAt w' d g (writeD D i t) ∧ Kp [d, g] W w') := fun W h => write_any h i t
    have HS2 : Hid (∀ W, RefAt W r D → Calls Try.prog 19 #[.pointer (some ⟨r.x, 0, none⟩), .int .i64 i, .string ⟨t.toArray⟩] W fun e w' => e = .returned (.int .i64 (writeE D i t)) ∧ RefAt w' r (writeD D i t) ∧ Kp [r.x, r.gL, r.gO] W w') := fun W h => rwrite_any h i t
    generalize writeE D i t = eS at *
    generalize writeD D i t = D2 at *
    have HQ : Hid (∀ W, Kp (allB d g r) (w.alloc (.cells #[.int .i64 k, .int .i64 i, .string ⟨t.toArray⟩, .slice ao ks.length cap] 44)) W → W.cell? ⟨w.heap.size, 1, none⟩ = some (.int .i64 i) ∧ W.cell? ⟨w.heap.size, 2, none⟩ = some (.string ⟨t.toArray⟩)) := by
      intro W hW
      have h9 := hW.row hq0.out hnb.out
      exact ⟨by rw [cell_of_row _ _ _ _ _ _ h9]; rfl, by rw [cell_of_row _ _ _ _ _ _ h9]; rfl⟩
    rcases hk with rfl | rfl | rfl
    all_goals
      go_enter Try.func24, Try.ntmps24
      go_wp2_with fail
      generalize w.alloc (.cells #[.int .i64 _, .int .i64 i, .string ⟨t.toArray⟩, .slice ao ks.length cap] 44) = w1 at *
      go_region_held3 (fun W => W.cell? ⟨w.heap.size, 1, none⟩ = some (.int .i64 i) ∧ W.cell? ⟨w.heap.size, 2, none⟩ = some (.string ⟨t.toArray⟩))
        (with_reducible first | exact HQ.out _ HKb | exact HQ.out _ HKa | exact HQ.out _ (Kp.refl _ _).drew | exact HQ.out _ (Kp.refl _ _))
        (first | (go_at_call 18; refine (HS.out _ (H1.out.disk.kept (X := []) ((Kp.refl _ _).drew) (by simp) (by simp))).mono ?_; rintro e W2 ⟨rfl, h2, k2⟩; have HD2 := hid h2; have HKd : Kp [d, g] w1 W2 := (Kp.refl _ _).drew.trans k2; have HKa : Kp (allB d g r) w1 W2 := HKd.drop (by simp); have HR2 := hid (H1.out.refKept HKd); clear h2 k2) | (go_at_call 19; refine (HS2.out _ HR2.out).mono ?_; rintro e W3 ⟨rfl, h3, k3⟩; have HR3 := hid h3; have HKr := hid k3; have HKb : Kp (allB d g r) w1 W3 := HKa.trans (k3.drop (by simp)); clear h3 k3))
      go_wp2
      go_ret
      exact ⟨rfl, H1.out.next HD2.out HR3.out HKr.out, HK1.out.trans HKb⟩
  · have n0 : (k == 0) = false := by simp; omega
    have n1 : (k == 1) = false := by simp; omega
    have n2 : (k == 2) = false := by simp; omega
    have eA : actD D k i t ks = (if k = 3 then syncD D else if k = 4 then armD D i else crashD D ks) := by unfold actD; rw [if_neg hk]
    rw [eA]
    clear eA hk
    by_cases hk3 : k = 3
    · have n3 : (k == 3) = true := by simp [hk3]
      rw [if_pos hk3]
      clear hk3
      have HS := hid (sync_any H1.out.disk)
      have HS2 : Hid (∀ W, RefAt W r D → Calls Try.prog 34 #[.pointer (some ⟨r.x, 0, none⟩)] W fun e w' => e = .returned (.int .i64 (syncE D)) ∧ RefAt w' r (syncD D) ∧ Kp [r.x, r.gL, r.gO] W w') := fun W h => rsync_any h
      generalize syncE D = eS at *
      go_enter Try.func24, Try.ntmps24
      go_wp2_with fail
      refine HS.out.mono ?_
      rintro e w2 ⟨rfl, h2, k2⟩
      have HD2 := hid h2
      have HK2 := hid k2
      have HR2 := hid (H1.out.refKept k2)
      clear h2 k2
      go_wp2_with fail
      refine (HS2.out _ HR2.out).mono ?_
      rintro e w3 ⟨rfl, h3, k3⟩
      have HB3 := hid (H1.out.next HD2.out h3 k3)
      have HK3 := hid (kp_both HK1.out HK2.out k3)
      clear h3 k3
      go_wp2
      go_ret
      exact ⟨rfl, HB3.out, HK3.out⟩
    · have n3 : (k == 3) = false := by simp [hk3]
      rw [if_neg hk3]
      clear hk3
      by_cases hk4 : k = 4
      · have n4 : (k == 4) = true := by simp [hk4]
        rw [if_pos hk4]
        clear hk4
        have HS : Hid (∀ W, DiskAt W d g D → Calls Try.prog 21 #[.pointer (some ⟨d, 0, none⟩), .int .i64 i] W fun e w' => e = .returned (.int .i64 (armE D i)) ∧ DiskAt w' d g (armD D i) ∧ Kp [d, g] W w') := fun W h => (arm_any h i hi).mono fun e w' ⟨h1, h2, h3⟩ => ⟨h1, h2, h3.drop (by simp)⟩
        have HS2 : Hid (∀ W, RefAt W r D → Calls Try.prog 35 #[.pointer (some ⟨r.x, 0, none⟩), .int .i64 i] W fun e w' => e = .returned (.int .i64 (armE D i)) ∧ RefAt w' r (armD D i) ∧ Kp [r.x, r.gL, r.gO] W w') := fun W h => (rarm_any h i hi).mono fun e w' ⟨h1, h2, h3⟩ => ⟨h1, h2, h3.drop (by simp)⟩
        generalize armE D i = eS at *
        generalize armD D i = D2 at *
        have HQ : Hid (∀ W, Kp (allB d g r) (w.alloc (.cells #[.int .i64 k, .int .i64 i, .string ⟨t.toArray⟩, .slice ao ks.length cap] 44)) W → W.cell? ⟨w.heap.size, 1, none⟩ = some (.int .i64 i)) := by
          intro W hW
          have h9 := hW.row hq0.out hnb.out
          rw [cell_of_row _ _ _ _ _ _ h9]; rfl
        go_enter Try.func24, Try.ntmps24
        go_wp2_with fail
        generalize w.alloc (.cells #[.int .i64 k, .int .i64 i, .string ⟨t.toArray⟩, .slice ao ks.length cap] 44) = w1 at *
        go_region_held3 (fun W => W.cell? ⟨w.heap.size, 1, none⟩ = some (.int .i64 i))
          (with_reducible first | exact HQ.out _ HKb | exact HQ.out _ HKa | exact HQ.out _ (Kp.refl _ _).drew | exact HQ.out _ (Kp.refl _ _))
          (first | (go_at_call 21; refine (HS.out _ (H1.out.disk.kept (X := []) ((Kp.refl _ _).drew) (by simp) (by simp))).mono ?_; rintro e W2 ⟨rfl, h2, k2⟩; have HD2 := hid h2; have HKd : Kp [d, g] w1 W2 := (Kp.refl _ _).drew.trans k2; have HKa : Kp (allB d g r) w1 W2 := HKd.drop (by simp); have HR2 := hid (H1.out.refKept HKd); clear h2 k2) | (go_at_call 35; refine (HS2.out _ HR2.out).mono ?_; rintro e W3 ⟨rfl, h3, k3⟩; have HR3 := hid h3; have HKr := hid k3; have HKb : Kp (allB d g r) w1 W3 := HKa.trans (k3.drop (by simp)); clear h3 k3))
        go_wp2
        go_ret
        exact ⟨rfl, H1.out.next HD2.out HR3.out HKr.out, HK1.out.trans HKb⟩
      · have n4 : (k == 4) = false := by simp [hk4]
        rw [if_neg hk4]
        clear hk4
        have HS := hid (rcrash_any H1.out.ref (.slice ao ks.length cap) ks HI1.out (fun hne b hb => by have := HV.out hne b hb; simp at this; exact ⟨this.2.2.2.1, this.2.2.2.2⟩))
        have HQ : Hid (∀ W, Kp [r.x, r.gL, r.gO] (w.alloc (.cells #[.int .i64 k, .int .i64 i, .string ⟨t.toArray⟩, .slice ao ks.length cap] 44)) W → W.cell? ⟨w.heap.size, 3, none⟩ = some (.slice ao ks.length cap) ∧ IntsAt W (.slice ao ks.length cap) ks) := by
          intro W hW
          have h9 := hW.row hq0.out (fun hx => hnb.out (by simp at hx ⊢; omega))
          refine ⟨by rw [cell_of_row _ _ _ _ _ _ h9]; rfl, HI1.out.far fun hne b hb => hW.block b ?_ ?_⟩
          · obtain ⟨ao', cap', e1, -, e2⟩ := HI1.out
            injection e1 with e1
            subst e1
            obtain ⟨b', off', rfl, e3⟩ := e2 hne
            simp [Value.ownBlock] at hb
            subst hb
            cases ks with
            | nil => exact absurd rfl hne
            | cons q qs => exact World.block_lt_of_cell? _ _ (e3 0 q rfl)
          · have h8 := HV.out hne b hb
            simp at h8 ⊢
            exact h8.2.2
        go_enter Try.func24, Try.ntmps24
        go_wp2_with fail
        refine HS.out.mono ?_
        rintro e w2 ⟨rfl, h2, k2⟩
        obtain ⟨q1, q2⟩ := HQ.out _ k2
        have HR2 := hid h2
        have HK2 := hid k2
        have HD2 := hid (H1.out.diskKept k2)
        have HC2 := hid (crash_any HD2.out _ _ q2)
        clear h2 k2 q2
        go_wp2_with fail
        refine HC2.out.mono ?_
        rintro e w3 ⟨rfl, h3, k3⟩
        have HB3 : Hid (Both w3 d g r (crashD D ks)) := by
          have hn := H1.out.nes
          simp at hn
          exact ⟨h3, HR2.out.kept k3 (by simp; exact ⟨Ne.symm hn.1.1, Ne.symm hn.2.1⟩) (by simp; exact ⟨Ne.symm hn.1.2.1, Ne.symm hn.2.2.1⟩) (by simp; exact ⟨Ne.symm hn.1.2.2, Ne.symm hn.2.2.2⟩)⟩
        have HK3 := hid (kp_both' HK1.out HK2.out k3)
        clear h3 k3
        go_wp2
        go_ret
        exact ⟨rfl, HB3.out, HK3.out⟩
end
end Go.Proofs.Ytjledbgoknclcaa
