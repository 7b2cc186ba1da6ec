/-
  A cell in memory; what its small functions answer; what a slot says.
-/
import Derived.Test.YtnhnjdldgaaeoaaGreatDoorKby
import Derived.Test.YtnhnjdldgaaeoaaGreatDoorCsv
import Derived.Test.YtnhnjdldgaaeoaaGreatDoorDsy
import Derived.BigRegion
import Derived.Deep.RegionHeld3
import Derived.Deep.RegionLaw
import Derived.Deep.RegionWith
import Derived.BigQuiet
import Derived.Handy
namespace Go.Proofs.YtnhnjdldgaaeoaaGreatDoor
open Go Go.RowKit
set_option maxRecDepth 100000

/-- A cell's blocks: itself, and what its function holds. -/
structure Cx where
  c : Nat
  p : Nat
  q : Nat
  r : Nat

structure CellAt (w : World) (x : Cx) (d : Nat) (first size : Nat) : Prop where
  obj : w.heap[x.c]? = some (.cells #[.pointer (some ⟨d, 0, none⟩), .int .i64 first, .int .i64 size, .func (.func 45) #[] #[.pointer (some ⟨x.p, 0, none⟩), .pointer (some ⟨x.q, 0, none⟩), .pointer (some ⟨x.r, 0, none⟩)]] 68)
  hp : w.heap[x.p]? = some (.cells #[.pointer (some ⟨d, 0, none⟩)] 23)
  hq : w.heap[x.q]? = some (.cells #[.int .i64 first] 3)
  hr : w.heap[x.r]? = some (.cells #[.int .i64 (64 * size : Nat)] 3)
  fst : first ≤ 512
  sz : 1 ≤ size ∧ size ≤ 255

section
variable {w w' : World} {x : Cx} {d g first size : Nat} {D : Dk}
theorem CellAt.kept (h : CellAt w x d first size) {X : List Nat} (hk : Kp X w w') (h1 : x.c ∉ X) (h2 : x.p ∉ X) (h3 : x.q ∉ X) (h4 : x.r ∉ X) : CellAt w' x d first size :=
  ⟨hk.row h.obj h1, hk.row h.hp h2, hk.row h.hq h3, hk.row h.hr h4, h.fst, h.sz⟩
theorem CellAt.stays (h : CellAt w x d first size) (hb : Below w.heap.size w w') : CellAt w' x d first size := h.kept (X := []) (Kp.of hb) (by simp) (by simp) (by simp) (by simp)
theorem differ {k : Nat} {c1 c2 : Array Value} {t1 t2 : TypeId} (h1 : w.heap[k]? = some (.cells c1 t1)) (h2 : w.heap[k]? = some (.cells c2 t2)) (hne : t1 ≠ t2) : False := by
  have h := h1.symm.trans h2
  injection h with h
  injection h with _ h
  exact hne h
/-- The disk's blocks are none of the cell's. -/
theorem CellAt.part (h : CellAt w x d first size) (hd : DiskAt w d g D) : (x.c ∉ [d, g]) ∧ (x.p ∉ [d, g]) ∧ (x.q ∉ [d, g]) ∧ (x.r ∉ [d, g]) := by
  have h1 := hd.obj
  have h2 := hd.row
  have k1 := h.obj
  have k2 := h.hp
  have k3 := h.hq
  have k4 := h.hr
  refine ⟨?_, ?_, ?_, ?_⟩ <;> intro hm <;> simp only [List.mem_cons, List.not_mem_nil, or_false] at hm <;> rcases hm with e | e
  · rw [e] at k1; exact differ k1 h1 (by decide)
  · rw [e] at k1; exact differ k1 h2 (by decide)
  · rw [e] at k2; exact differ k2 h1 (by decide)
  · rw [e] at k2; exact differ k2 h2 (by decide)
  · rw [e] at k3; exact differ k3 h1 (by decide)
  · rw [e] at k3; exact differ k3 h2 (by decide)
  · rw [e] at k4; exact differ k4 h1 (by decide)
  · rw [e] at k4; exact differ k4 h2 (by decide)
theorem CellAt.next (h : CellAt w x d first size) (hd : DiskAt w d g D) (hk : Kp [d, g] w w') : CellAt w' x d first size := by
  obtain ⟨a, b, c, e⟩ := h.part hd
  exact h.kept hk a b c e
theorem CellAt.c0 (h : CellAt w x d first size) : w.cell? ⟨x.c, 0, none⟩ = some (.pointer (some ⟨d, 0, none⟩)) := by rw [cell_of_row _ _ _ _ _ _ h.obj]; rfl
theorem CellAt.c1 (h : CellAt w x d first size) : w.cell? ⟨x.c, 1, none⟩ = some (.int .i64 first) := by rw [cell_of_row _ _ _ _ _ _ h.obj]; rfl
theorem CellAt.c2 (h : CellAt w x d first size) : w.cell? ⟨x.c, 2, none⟩ = some (.int .i64 size) := by rw [cell_of_row _ _ _ _ _ _ h.obj]; rfl
theorem CellAt.c3 (h : CellAt w x d first size) : w.cell? ⟨x.c, 3, none⟩ = some (.func (.func 45) #[] #[.pointer (some ⟨x.p, 0, none⟩), .pointer (some ⟨x.q, 0, none⟩), .pointer (some ⟨x.r, 0, none⟩)]) := by rw [cell_of_row _ _ _ _ _ _ h.obj]; rfl
theorem CellAt.d0 (h : CellAt w x d first size) : w.cell? ⟨x.p, 0, none⟩ = some (.pointer (some ⟨d, 0, none⟩)) := by rw [cell_of_row _ _ _ _ _ _ h.hp]; rfl
theorem CellAt.d1 (h : CellAt w x d first size) : w.cell? ⟨x.q, 0, none⟩ = some (.int .i64 first) := by rw [cell_of_row _ _ _ _ _ _ h.hq]; rfl
theorem CellAt.d2 (h : CellAt w x d first size) : w.cell? ⟨x.r, 0, none⟩ = some (.int .i64 (64 * size : Nat)) := by rw [cell_of_row _ _ _ _ _ _ h.hr]; rfl

theorem room_cell (c : Nat) (w : World) (size : Nat) (hs : size ≤ 255) (h2 : w.cell? ⟨c, 2, none⟩ = some (.int .i64 size)) : Calls Tryz.prog 27 #[.pointer (some ⟨c, 0, none⟩)] w fun e w' => e = .returned (.int .i64 (64 * size : Nat)) ∧ w' = w := by
  go_enter Tryz.func27, Tryz.ntmps27
  go_wp2
  go_ret
  exact ⟨by simp, rfl⟩
theorem room_any (h : CellAt w x d first size) : Calls Tryz.prog 27 #[.pointer (some ⟨x.c, 0, none⟩)] w fun e w' => e = .returned (.int .i64 (64 * size : Nat)) ∧ w' = w := room_cell _ _ _ h.sz.2 h.c2
theorem room_nil (w : World) : Calls Tryz.prog 27 #[.pointer none] w fun e w' => e = .returned (.int .i64 0) ∧ w' = w := by
  go_enter Tryz.func27, Tryz.ntmps27
  go_wp2
  go_ret
  exact ⟨rfl, rfl⟩
theorem field_any (h : CellAt w x d first size) (i : Nat) (hi : i ≤ 1) : Calls Tryz.prog 69 #[.pointer (some ⟨x.c, 0, none⟩), .int .i64 i] w fun e w' => e = .returned (.int .i64 (first + 2 + i * size : Nat)) ∧ ∃ n, w' = w.drewN n := by
  have h1 := h.c1
  have h2 := h.c2
  have hf := h.fst
  have hs := h.sz.2
  clear h
  rcases (by omega : i = 0 ∨ i = 1) with rfl | rfl
  all_goals
    go_enter Tryz.func69, Tryz.ntmps69
    go_wp2_with fail
    go_quiet (fail)
    go_wp2
    go_ret
    exact ⟨by simp, _, rfl⟩
theorem num_cases (b : List UInt8) (h : b.length = 8) : (numI b = valB b ∧ valB b < 9223372036854775808) ∨ (numI b = -1 ∧ 9223372036854775808 ≤ valB b) := by
  match b, h with
  | [a0, a1, a2, a3, a4, a5, a6, a7], _ =>
    have h0 := a0.toNat_lt
    have h1 := a1.toNat_lt
    have h2 := a2.toNat_lt
    have h3 := a3.toNat_lt
    have h4 := a4.toNat_lt
    have h5 := a5.toNat_lt
    have h6 := a6.toNat_lt
    have h7 := a7.toNat_lt
    have e : valB [a0, a1, a2, a3, a4, a5, a6, a7] = ((((((((a0.toNat * 256 + a1.toNat) * 256 + a2.toNat) * 256 + a3.toNat) * 256 + a4.toNat) * 256 + a5.toNat) * 256 + a6.toNat) * 256) + a7.toNat) := by simp [valB]
    have e2 : ([a0, a1, a2, a3, a4, a5, a6, a7] : List UInt8).getD 0 0 = a0 := rfl
    unfold numI
    rw [e2, e]
    by_cases hc : 127 < a0.toNat
    · right
      rw [if_pos hc]
      exact ⟨rfl, by omega⟩
    · left
      rw [if_neg hc]
      exact ⟨rfl, by omega⟩
theorem val_inj {a b : List UInt8} (ha : a.length = 8) (hb : b.length = 8) (h : valB a = valB b) : a = b := by
  have h1 := eight_val a
  have h2 := eight_val b
  rw [ha] at h1
  rw [hb] at h2
  rw [← h1, ← h2, h]
/-- What a slot says, by its three numbers. -/
theorem say_vals (size : Nat) (hs : size ≤ 255) (s : List UInt8) (hl : s.length = 64) :
    sayN size s = if valB (s.take 8) = valB ((s.drop 56).take 8) ∧ 1 ≤ valB (s.take 8) ∧ valB (s.take 8) ≤ 1099511627776 ∧ valB ((s.drop 8).take 8) ≤ 64 * size then (valB (s.take 8), valB ((s.drop 8).take 8)) else (0, 0) := by
  have l1 : (s.take 8).length = 8 := by simp; omega
  have l2 : ((s.drop 8).take 8).length = 8 := by simp; omega
  have l3 : (s.drop 56).length = 8 := by simp; omega
  have e3 : (s.drop 56).take 8 = s.drop 56 := List.take_of_length_le (by omega)
  rw [e3]
  unfold sayN
  by_cases hc : valB (s.take 8) = valB (s.drop 56) ∧ 1 ≤ valB (s.take 8) ∧ valB (s.take 8) ≤ 1099511627776 ∧ valB ((s.drop 8).take 8) ≤ 64 * size
  · obtain ⟨c1, c2, c3, c4⟩ := hc
    have c1' := val_inj l1 l3 c1
    rcases num_cases _ l1 with ⟨n1, -⟩ | ⟨-, n2⟩
    · rcases num_cases _ l2 with ⟨m1, -⟩ | ⟨-, m2⟩
      · rw [n1, m1, if_pos ⟨c1', by omega, by omega, by omega, by omega⟩, if_pos ⟨c1, c2, c3, c4⟩]
        simp
      · omega
    · omega
  · rw [if_neg hc, if_neg]
    rintro ⟨c1, c2, c3, c4, c5⟩
    apply hc
    rw [← c1]
    rcases num_cases _ l1 with ⟨n1, -⟩ | ⟨n1, n2⟩
    · rcases num_cases _ l2 with ⟨m1, -⟩ | ⟨m1, m2⟩
      · rw [n1] at c2 c3
        rw [m1] at c5
        exact ⟨rfl, by omega, by omega, by omega⟩
      · omega
    · omega

/-- What is told of a slot. -/
def saysP (D : Dk) (first size i : Nat) : Nat × Nat := if D.down then (0, 0) else sayN size (secB D.S (first + i))
set_option maxHeartbeats 2000000 in
theorem says_any (h : CellAt w x d first size) (hd : DiskAt w d g D) (hr : first + 2 ≤ D.S.length) (i : Nat) (hi : i ≤ 1) :
    Calls Tryz.prog 45 #[.int .i64 i, .pointer (some ⟨x.p, 0, none⟩), .pointer (some ⟨x.q, 0, none⟩), .pointer (some ⟨x.r, 0, none⟩)] w fun e w' =>
      e = .returned (.tuple #[.agg #[.int .i64 (saysP D first size i).1, .int .i64 (saysP D first size i).2], .int .i64 (eDown D.down)]) ∧ Below w.heap.size w w' := by
  have hf := h.fst
  have hsz := h.sz
  have HB1 : Hid (Below w.heap.size w (w.alloc (.cells #[.int .i64 0, .int .i64 0] 86))) := below_a1 _ _
  have h1 := h.stays HB1.out
  have q0 := h1.d0
  have q1 := h1.d1
  have q2 := h1.d2
  have HR := hid (read_any (hd.kept (X := []) (Kp.of HB1.out) (by simp) (by simp)) ((first : Int) + i))
  clear h h1
  unfold saysP
  cases hdn : D.down with
  | true =>
    have e1 : readE D ((first : Int) + i) = 12 := by unfold readE; rw [hdn]; rfl
    rw [e1] at HR
    generalize readT D ((first : Int) + i) = rt at *
    simp only [if_true, eDown]
    clear hdn e1 hd
    go_enter Tryz.func45, Tryz.ntmps45
    go_wp2_with fail
    refine HR.out.mono ?_
    rintro e W ⟨rfl, hW⟩
    subst W
    go_wp2
    go_returns
    exact ⟨rfl, below_a1 _ _⟩
  | false =>
    have hb : hasB D.S.length ((first : Int) + i) = true := by unfold hasB; simp; omega
    have e1 : readE D ((first : Int) + i) = 0 := by unfold readE; rw [hdn, hb]; rfl
    have e2 : readT D ((first : Int) + i) = secB D.S (first + i) := by
      unfold readT secB
      rw [hdn, hb, show ((first : Int) + i).toNat = first + i by omega]
      rfl
    rw [e1, e2] at HR
    simp only [Bool.false_eq_true, if_false, eDown]
    have hl := sec_len hd.ok (first + i)
    rw [say_vals size hsz.2 _ hl]
    generalize secB D.S (first + i) = s at *
    have hss : (⟨s.toArray⟩ : ByteArray).size = 64 := hl
    have hx1 : (⟨s.toArray⟩ : ByteArray).extract 8 64 = ⟨(s.drop 8).toArray⟩ := ext_drop _ _ _ hl.symm
    have hx2 : (⟨s.toArray⟩ : ByteArray).extract 56 64 = ⟨(s.drop 56).toArray⟩ := ext_drop _ _ _ hl.symm
    obtain ⟨V, hV⟩ : ∃ V : List UInt8 → Nat, V = fun u => valB (u.take 8) := ⟨_, rfl⟩
    have HN : Hid (∀ u : List UInt8, 8 ≤ u.length → ∀ W, Calls Tryz.prog 47 #[.string ⟨u.toArray⟩] W fun e w' => e = .returned (.int .u64 (V u : Nat)) ∧ w' = W) := by
      intro u hu W
      rw [hV]
      exact number_any u hu W
    have l0 : Hid (8 ≤ s.length) := by show _ ≤ _; omega
    have l1 : Hid (8 ≤ (s.drop 8).length) := by show _ ≤ _; simp; omega
    have l2 : Hid (8 ≤ (s.drop 56).length) := by show _ ≤ _; simp; omega
    have b0 : valB (s.take 8) < 18446744073709551616 := by
      have h9 := valB_lt (s.take 8)
      have h8 : (s.take 8).length = 8 := by simp; omega
      rw [h8] at h9
      omega
    have b1 : valB ((s.drop 8).take 8) < 18446744073709551616 := by
      have h9 := valB_lt ((s.drop 8).take 8)
      have h8 : ((s.drop 8).take 8).length = 8 := by simp; omega
      rw [h8] at h9
      omega
    have v0 : valB (s.take 8) = V s := by rw [hV]
    have v1 : valB ((s.drop 8).take 8) = V (s.drop 8) := by rw [hV]
    have v2 : valB ((s.drop 56).take 8) = V (s.drop 56) := by rw [hV]
    rw [v0, v1, v2]
    rw [v0] at b0
    rw [v1] at b1
    clear v0 v1 v2 hV
    generalize hX : V s = X at *
    generalize hY : V (s.drop 8) = Y at *
    generalize hZ : V (s.drop 56) = Z at *
    clear hdn e1 e2 hd hb hl
    by_cases c1 : X = Z
    · subst c1
      by_cases c2 : 1 ≤ X
      · by_cases c3 : X ≤ 1099511627776
        · by_cases c4 : Y ≤ 64 * size
          · rw [if_pos ⟨rfl, c2, c3, c4⟩]
            go_enter Tryz.func45, Tryz.ntmps45
            go_wp2_with fail
            refine HR.out.mono ?_
            rintro e W ⟨rfl, hW⟩
            subst W
            go_wp2_with fail
            go_region_held3 (fun W => True) (trivial) (first | (go_at_call 47; refine (HN.out _ (by first | exact l0.out | exact l1.out | exact l2.out) _).mono ?_; rintro e W ⟨rfl, hW⟩; subst W))
            go_wp2
            go_returns
            exact ⟨rfl, below_drawn (below_a1 _ _) 1⟩
          · rw [if_neg (by omega)]
            go_enter Tryz.func45, Tryz.ntmps45
            go_wp2_with fail
            refine HR.out.mono ?_
            rintro e W ⟨rfl, hW⟩
            subst W
            go_wp2_with fail
            go_region_held3 (fun W => True) (trivial) (first | (go_at_call 47; refine (HN.out _ (by first | exact l0.out | exact l1.out | exact l2.out) _).mono ?_; rintro e W ⟨rfl, hW⟩; subst W))
            go_wp2
            go_returns
            exact ⟨rfl, below_drawn (below_a1 _ _) 1⟩
        · rw [if_neg (by omega)]
          go_enter Tryz.func45, Tryz.ntmps45
          go_wp2_with fail
          refine HR.out.mono ?_
          rintro e W ⟨rfl, hW⟩
          subst W
          go_wp2_with fail
          go_region_held3 (fun W => True) (trivial) (first | (go_at_call 47; refine (HN.out _ (by first | exact l0.out | exact l1.out | exact l2.out) _).mono ?_; rintro e W ⟨rfl, hW⟩; subst W))
          go_wp2
          go_returns
          exact ⟨rfl, below_drawn (below_a1 _ _) 1⟩
      · rw [if_neg (by omega)]
        obtain rfl : X = 0 := by omega
        go_enter Tryz.func45, Tryz.ntmps45
        go_wp2_with fail
        refine HR.out.mono ?_
        rintro e W ⟨rfl, hW⟩
        subst W
        go_wp2_with fail
        go_region_held3 (fun W => True) (trivial) (first | (go_at_call 47; refine (HN.out _ (by first | exact l0.out | exact l1.out | exact l2.out) _).mono ?_; rintro e W ⟨rfl, hW⟩; subst W))
        go_wp2
        go_returns
        exact ⟨rfl, below_drawn (below_a1 _ _) 1⟩
    · rw [if_neg (by omega)]
      go_enter Tryz.func45, Tryz.ntmps45
      go_wp2_with fail
      refine HR.out.mono ?_
      rintro e W ⟨rfl, hW⟩
      subst W
      go_wp2_with fail
      go_region_held3 (fun W => True) (trivial) (first | (go_at_call 47; refine (HN.out _ (by first | exact l0.out | exact l1.out | exact l2.out) _).mono ?_; rintro e W ⟨rfl, hW⟩; subst W))
      go_wp2
      go_returns
      exact ⟨rfl, below_drawn (below_a1 _ _) 1⟩
end
end Go.Proofs.YtnhnjdldgaaeoaaGreatDoor
