/-
  The walk of awake, over what New, Tick, Next and Due answer.
-/
import Derived.Test.YtkjgiidmajjonaaWpt
namespace Go.Proofs.Ytkjgiidmajjonaa.Kn
open Go Go.RowKit
set_option maxRecDepth 100000

/-- Three clients, me 0, behind so many ticks without a word. -/
def sA : Nat → Pb
  | 0 => newPb 3 0
  | i + 1 => tickP 3 0 false (sA i)
theorem aw0 : outT 3 0 (sA 0) = [] ∧ tickN 0 false (sA 0) = -1 := by constructor <;> kernel_rfl
theorem aw1 : outT 3 0 (sA 1) = [] ∧ tickN 0 false (sA 1) = -1 := by constructor <;> kernel_rfl
theorem aw2 : outT 3 0 (sA 2) = [] ∧ tickN 0 false (sA 2) = -1 := by constructor <;> kernel_rfl
theorem aw3 : outT 3 0 (sA 3) = [1, 2] ∧ tickN 0 false (sA 3) = -1 := by constructor <;> kernel_rfl
theorem aw6 : tickN 0 false (sA 6) = 1 := by kernel_rfl
theorem aw7 : (sA 7).next = 2 ∧ duI (sA 7).due 1 = 8 := by constructor <;> kernel_rfl
theorem IntsAt.kpb {w w' : World} {u : Value} {l : List Int} {F : List Nat} (h : IntsAt w u l) (hF : ∀ b, u.ownBlock = some b → b ∉ F) (hk : Kp F w w') : IntsAt w' u l := by
  obtain ⟨a, cap, rfl, hc⟩ := h
  refine ⟨a, cap, rfl, fun hne => ?_⟩
  obtain ⟨b, off, rfl, hj⟩ := hc hne
  refine ⟨b, off, rfl, fun j h => ?_⟩
  have h1 := hj j h
  have hlt := World.block_lt_of_cell? w _ h1
  have hb := hk.block b hlt (hF b rfl)
  rw [← h1]
  unfold World.cell?
  simp only [hb]
theorem sA_now : ∀ k : Nat, (sA k).now = (k : Int)
  | 0 => rfl
  | k + 1 => by
    show (tickP 3 0 false (sA k)).now = _
    rw [tick_now, sA_now k]
    omega
theorem awk : ∀ k : Nat, k < 3 → outT 3 0 (sA k) = [] ∧ tickN 0 false (sA k) = -1
  | 0, _ => aw0
  | 1, _ => aw1
  | 2, _ => aw2
  | k + 3, h => by omega
set_option maxHeartbeats 16000000 in
theorem pawake_core {w : World} {KS : Nat → List Nat → Pb → World → Prop}
    (HN : Hid (Calls Try.prog 8 #[nu 3, nu 0] w fun e w' => ∃ pp F, e = .returned (.tuple #[pt pp 0, nu 0]) ∧ KS pp F (sA 0) w' ∧ Below w.heap.size w w'))
    (HK : Hid (∀ pp F p W W', KS pp F p W → Below W.heap.size W W' → KS pp F p W'))
    (HF : Hid (∀ pp F p W, KS pp F p W → ∀ x ∈ F, w.heap.size ≤ x ∧ x < W.heap.size))
    (HT : Hid (∀ pp F k W, k ≤ 90 → KS pp F (sA k) W → Calls Try.prog 17 #[pt pp 0, .bool false] W fun e w' => ∃ F' u, e = .returned (.tuple #[u, nu (tickN 0 false (sA k))]) ∧ IntsAt w' u (outT 3 0 (sA k)) ∧ KS pp F' (sA (k + 1)) w' ∧ Kp F W w' ∧ (∀ b, u.ownBlock = some b → b ∉ F' ∧ b < w'.heap.size) ∧ ∀ x ∈ F', x ∈ F ∨ W.heap.size ≤ x))
    (HX : Hid (∀ pp F p W, KS pp F p W → Calls Try.prog 12 #[pt pp 0] W fun e w' => e = .returned (nu p.next) ∧ Below W.heap.size W w'))
    (HD : Hid (∀ pp F W, KS pp F (sA 7) W → Calls Try.prog 14 #[pt pp 0, nu 1] W fun e w' => e = .returned (nu (duI (sA 7).due 1)) ∧ Below W.heap.size W w')) :
    Calls Try.prog 9 #[] w fun e w' => e = .returned (.bool true) ∧ Below w.heap.size w w' := by
  go_enter Try.func9, Try.ntmps9
  go_wp2_with fail
  refine HN.out.mono ?_
  rintro e W1 ⟨pp, F, rfl, s1, bb⟩
  have S1 := hid s1
  have B1 := hid bb
  clear s1 bb HN
  go_wp2
  go_loopw [3] (fun i wr => ∃ (k : Nat) (F : List Nat), k ≤ 3 ∧ i = nu ((k : Int) + 1) ∧ Hid (KS pp F (sA k) wr) ∧ Hid (Below w.heap.size w wr)) (fun i _ => 4 - (intOf i).toNat)
  case atStart => exact ⟨0, F, by omega, rfl, S1, B1⟩
  case round =>
    obtain ⟨k, F, hk, rfl, S2, B2⟩ := hrel
    clear S1 B1
    by_cases hlt : k < 3
    · have d1 : decide ((k : Int) + 1 < 4) = true := decide_eq_true (by omega)
      have ha := awk k hlt
      go_wp2_with fail
      refine (HT.out _ _ k _ (by omega) S2.out).mono ?_
      rintro e W3 ⟨F3, u, rfl, i3, s3, kp, -, -⟩
      rw [ha.1] at i3
      rw [ha.2]
      obtain ⟨ua, uc, hu, -⟩ := i3
      subst hu
      have S3 := hid s3
      have B3 : Hid (Below w.heap.size w W3) := B2.out.trans (kp.below (fun x hx => (HF.out _ _ _ _ S2.out x hx).1) B2.out.size)
      clear s3 kp S2 B2 ha
      have I2 : I64 ((k : Int) + 1 + 1) := by unfold I64; omega
      go_wp2
      exact ⟨⟨k + 1, F3, by omega, by go_num, S3, B3⟩, by simp [intOf]; omega⟩
    · have d1 : decide ((k : Int) + 1 < 4) = false := decide_eq_false (by omega)
      have hk3 : k = 3 := by omega
      subst hk3
      clear hlt
      go_wp2_with fail
      refine (HT.out _ _ 3 _ (by omega) S2.out).mono ?_
      rintro e W3 ⟨F3, u, rfl, i3, s3, kp, n3, m3⟩
      rw [aw3.1] at i3
      rw [aw3.2]
      have S3 := hid s3
      have I3 := hid i3
      have N3 := hid n3
      have B3 : Hid (Below w.heap.size w W3) := B2.out.trans (kp.below (fun x hx => (HF.out _ _ _ _ S2.out x hx).1) B2.out.size)
      clear s3 i3 n3 m3 kp S2 B2
      go_wp2_with fail
      refine (HT.out _ _ 4 _ (by omega) S3.out).mono ?_
      rintro e W4 ⟨F4, u4, rfl, -, s4, kp, -, mm⟩
      have S4 := hid s4
      have I4 := hid (I3.out.kpb (fun b hb => (N3.out b hb).1) kp)
      have N4 : Hid (∀ b, u.ownBlock = some b → b ∉ F4 ∧ b < W4.heap.size) := hid (fun b hb => ⟨fun hm => by
        rcases mm b hm with h | h
        · exact (N3.out b hb).1 h
        · have := (N3.out b hb).2; omega, Nat.lt_of_lt_of_le (N3.out b hb).2 kp.size⟩)
      have B4 : Hid (Below w.heap.size w W4) := B3.out.trans (kp.below (fun x hx => (HF.out _ _ _ _ S3.out x hx).1) B3.out.size)
      clear s4 mm kp S3 I3 N3 B3
      go_wp2_with fail
      refine (HT.out _ _ 5 _ (by omega) S4.out).mono ?_
      rintro e W5 ⟨F5, u5, rfl, -, s5, kp, -, mm⟩
      have S5 := hid s5
      have I5 := hid (I4.out.kpb (fun b hb => (N4.out b hb).1) kp)
      have N5 : Hid (∀ b, u.ownBlock = some b → b ∉ F5 ∧ b < W5.heap.size) := hid (fun b hb => ⟨fun hm => by
        rcases mm b hm with h | h
        · exact (N4.out b hb).1 h
        · have := (N4.out b hb).2; omega, Nat.lt_of_lt_of_le (N4.out b hb).2 kp.size⟩)
      have B5 : Hid (Below w.heap.size w W5) := B4.out.trans (kp.below (fun x hx => (HF.out _ _ _ _ S4.out x hx).1) B4.out.size)
      clear s5 mm kp S4 I4 N4 B4
      go_wp2_with fail
      refine (HT.out _ _ 6 _ (by omega) S5.out).mono ?_
      rintro e W6 ⟨F6, u6, rfl, -, s6, kp, -, mm⟩
      have S6 := hid s6
      have I6 := hid (I5.out.kpb (fun b hb => (N5.out b hb).1) kp)
      have N6 : Hid (∀ b, u.ownBlock = some b → b ∉ F6 ∧ b < W6.heap.size) := hid (fun b hb => ⟨fun hm => by
        rcases mm b hm with h | h
        · exact (N5.out b hb).1 h
        · have := (N5.out b hb).2; omega, Nat.lt_of_lt_of_le (N5.out b hb).2 kp.size⟩)
      have B6 : Hid (Below w.heap.size w W6) := B5.out.trans (kp.below (fun x hx => (HF.out _ _ _ _ S5.out x hx).1) B5.out.size)
      clear s6 mm kp S5 I5 N5 B5
      rw [aw6]
      have I7 := hid (I6.out.kept (below_a1 W6 (.cells #[nu 1, nu 2] 3)))
      have S7 := hid (HK.out _ _ _ _ _ S6.out (below_a1 W6 (.cells #[nu 1, nu 2] 3)))
      have B7 := hid (B6.out.alloc B6.out.size (.cells #[nu 1, nu 2] 3))
      have HI7 := hid (rints_any I7.out (ints_row (l := [1, 2]) 2 (top_obj W6 (.cells #[nu 1, nu 2] 3))) (by decide))
      have hb : (([1, 2] : List Int) == [1, 2]) = true := by decide
      rw [hb] at HI7
      clear hb I6 N6 S6 B6
      go_wp2_with fail
      refine HI7.out.mono ?_
      rintro e W8 ⟨rfl, bb⟩
      have S8 := hid (HK.out _ _ _ _ _ S7.out bb)
      have B8 := hid (below_twoY B7.out bb B7.out.size)
      clear bb S7 B7 I7 HI7
      go_wp2_with fail
      refine (HX.out _ _ _ _ S8.out).mono ?_
      rintro e W9 ⟨rfl, bb⟩
      rw [aw7.1]
      have S9 := hid (HK.out _ _ _ _ _ S8.out bb)
      have B9 := hid (below_twoY B8.out bb B8.out.size)
      clear bb S8 B8
      go_wp2_with fail
      refine (HD.out _ _ _ S9.out).mono ?_
      rintro e W10 ⟨rfl, bb⟩
      rw [aw7.2]
      have B10 := hid (below_twoY B9.out bb B9.out.size)
      clear bb
      go_wp2
      go_ret
      exact ⟨rfl, B10.out⟩
end Go.Proofs.Ytkjgiidmajjonaa.Kn
