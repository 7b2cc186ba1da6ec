/-
  The reference's cell in memory; what a slot says by it.
-/
import Derived.Test.YtnhnjdldgaaeoaaGreatDoorQnm
namespace Go.Proofs.YtnhnjdldgaaeoaaGreatDoor
open Go Go.RowKit
set_option maxRecDepth 100000

structure RcAt (w : World) (y : Nat) (r : Rx) (first size : Nat) : Prop where
  obj : w.heap[y]? = some (.cells #[.pointer (some ⟨r.x, 0, none⟩), .int .i64 first, .int .i64 size] 71)
  fst : first ≤ 512
  sz : 1 ≤ size ∧ size ≤ 255

section
variable {w w' : World} {y : Nat} {r : Rx} {first size : Nat} {D : Dk}
theorem RcAt.kept (h : RcAt w y r first size) {X : List Nat} (hk : Kp X w w') (h1 : y ∉ X) : RcAt w' y r first size := ⟨hk.row h.obj h1, h.fst, h.sz⟩
theorem RcAt.stays (h : RcAt w y r first size) (hb : Below w.heap.size w w') : RcAt w' y r first size := h.kept (X := []) (Kp.of hb) (by simp)
theorem RcAt.part (h : RcAt w y r first size) (hr : RefAt w r D) : y ∉ [r.x, r.gL, r.gO] := by
  intro hm
  simp only [List.mem_cons, List.not_mem_nil, or_false] at hm
  have h1 := h.obj
  rcases hm with e | e | e
  · rw [e] at h1; exact differ h1 hr.obj (by decide)
  · rw [e] at h1; exact differ h1 hr.L (by decide)
  · rw [e] at h1; exact differ h1 hr.O (by decide)
theorem RcAt.next (h : RcAt w y r first size) (hr : RefAt w r D) (hk : Kp [r.x, r.gL, r.gO] w w') : RcAt w' y r first size := h.kept hk (h.part hr)
theorem RcAt.c0 (h : RcAt w y r first size) : w.cell? ⟨y, 0, none⟩ = some (.pointer (some ⟨r.x, 0, none⟩)) := by rw [cell_of_row _ _ _ _ _ _ h.obj]; rfl
theorem RcAt.c1 (h : RcAt w y r first size) : w.cell? ⟨y, 1, none⟩ = some (.int .i64 first) := by rw [cell_of_row _ _ _ _ _ _ h.obj]; rfl
theorem RcAt.c2 (h : RcAt w y r first size) : w.cell? ⟨y, 2, none⟩ = some (.int .i64 size) := by rw [cell_of_row _ _ _ _ _ _ h.obj]; rfl
theorem RefAt.sec (h : RefAt w r D) (k : Nat) (hk : k < D.S.length) : w.cell? ⟨r.gL, k, none⟩ = some (.string ⟨(secB D.S k).toArray⟩) := by
  rw [h.now k hk]
  unfold secB tx
  simp [List.getD, hk]

set_option maxHeartbeats 4000000 in
theorem rsays_any (h : RcAt w y r first size) (hr : RefAt w r D) (i : Nat) (hi : first + i < D.S.length) :
    Calls Tryz.prog 37 #[.pointer (some ⟨y, 0, none⟩), .int .i64 i] w fun e w' =>
      e = .returned (.tuple #[.int .i64 (sayN size (secB D.S (first + i))).1, .int .i64 (sayN size (secB D.S (first + i))).2]) ∧ Below w.heap.size w w' := by
  have c0 := h.c0
  have c1 := h.c1
  have c2 := h.c2
  have r0 := hr.c0
  have hf := h.fst
  have hsz := h.sz
  have hlen := hr.len
  have q0 := hr.sec (first + i) hi
  have hl := sec_len hr.ok (first + i)
  have d1 : decide ((first : Int) + (i : Int) < (D.S.length : Int)) = true := by simp; omega
  clear h hr
  unfold sayN
  generalize secB D.S (first + i) = s at *
  generalize D.S.length = N at *
  have hss : (⟨s.toArray⟩ : ByteArray).size = 64 := hl
  have hx1 : (⟨s.toArray⟩ : ByteArray).extract 0 8 = ⟨(s.take 8).toArray⟩ := ext_take _ _
  have hx2 : (⟨s.toArray⟩ : ByteArray).extract 8 16 = ⟨((s.drop 8).take 8).toArray⟩ := ext_mid _ _ _
  have hx3 : (⟨s.toArray⟩ : ByteArray).extract 56 64 = ⟨(s.drop 56).toArray⟩ := ext_drop _ _ _ hl.symm
  obtain ⟨V, hV⟩ : ∃ V : List UInt8 → Int, V = numI := ⟨_, rfl⟩
  have HN : Hid (∀ u : List UInt8, u.length = 8 → ∀ W, Calls Tryz.prog 58 #[.string ⟨u.toArray⟩] W fun e w' => e = .returned (.int .i64 (V u)) ∧ w' = W) := by
    intro u hu W
    rw [hV]
    exact rnumber_any u hu W
  have l0 : Hid ((s.take 8).length = 8) := by show _ = _; simp; omega
  have l1 : Hid (((s.drop 8).take 8).length = 8) := by show _ = _; simp; omega
  rw [← hV]
  clear hV hl
  generalize s.take 8 = A at *
  generalize (s.drop 8).take 8 = B at *
  generalize s.drop 56 = C at *
  generalize hX : V A = X at *
  generalize hY : V B = Y at *
  by_cases k1 : A = C
  · subst k1
    by_cases k2 : 1 ≤ X
    · have d2 : decide (X < 1) = false := decide_eq_false (by omega)
      by_cases k3 : X ≤ 1099511627776
      · have d3 : decide (1099511627776 < X) = false := decide_eq_false (by omega)
        by_cases k4 : 0 ≤ Y
        · have d4 : decide (Y < 0) = false := decide_eq_false (by omega)
          by_cases k5 : Y ≤ 64 * (size : Int)
          · have d5 : decide (64 * (size : Int) < Y) = false := decide_eq_false (by omega)
            rw [if_pos ⟨rfl, k2, k3, k4, k5⟩]
            have eX : ((X.toNat : Nat) : Int) = X := by omega
            have eY : ((Y.toNat : Nat) : Int) = Y := by omega
            simp only [eX, eY]
            go_enter Tryz.func37, Tryz.ntmps37
            go_wp2_with fail
            go_quiet (fail)
            go_wp2_with fail
            refine (HN.out _ l0.out _).mono ?_
            rintro e W ⟨rfl, hW⟩
            subst W
            go_wp2_with fail
            refine (HN.out _ l1.out _).mono ?_
            rintro e W ⟨rfl, hW⟩
            subst W
            go_wp2_with fail
            go_quiet (fail)
            go_wp2
            go_ret2
            exact ⟨rfl, below_drawn (below_drawn (Below.refl _ _) _) _⟩
          · have d5 : decide (64 * (size : Int) < Y) = true := decide_eq_true (by omega)
            rw [if_neg (by omega)]
            go_enter Tryz.func37, Tryz.ntmps37
            go_wp2_with fail
            go_quiet (fail)
            go_wp2_with fail
            refine (HN.out _ l0.out _).mono ?_
            rintro e W ⟨rfl, hW⟩
            subst W
            go_wp2_with fail
            refine (HN.out _ l1.out _).mono ?_
            rintro e W ⟨rfl, hW⟩
            subst W
            go_wp2_with fail
            go_quiet (fail)
            go_wp2
            go_ret2
            exact ⟨rfl, below_drawn (below_drawn (Below.refl _ _) _) _⟩
        · have d4 : decide (Y < 0) = true := decide_eq_true (by omega)
          rw [if_neg (by omega)]
          go_enter Tryz.func37, Tryz.ntmps37
          go_wp2_with fail
          go_quiet (fail)
          go_wp2_with fail
          refine (HN.out _ l0.out _).mono ?_
          rintro e W ⟨rfl, hW⟩
          subst W
          go_wp2_with fail
          refine (HN.out _ l1.out _).mono ?_
          rintro e W ⟨rfl, hW⟩
          subst W
          go_wp2_with fail
          go_quiet (fail)
          go_wp2
          go_ret2
          exact ⟨rfl, below_drawn (below_drawn (Below.refl _ _) _) _⟩
      · have d3 : decide (1099511627776 < X) = true := decide_eq_true (by omega)
        rw [if_neg (by omega)]
        go_enter Tryz.func37, Tryz.ntmps37
        go_wp2_with fail
        go_quiet (fail)
        go_wp2_with fail
        refine (HN.out _ l0.out _).mono ?_
        rintro e W ⟨rfl, hW⟩
        subst W
        go_wp2_with fail
        refine (HN.out _ l1.out _).mono ?_
        rintro e W ⟨rfl, hW⟩
        subst W
        go_wp2_with fail
        go_quiet (fail)
        go_wp2
        go_ret2
        exact ⟨rfl, below_drawn (below_drawn (Below.refl _ _) _) _⟩
    · have d2 : decide (X < 1) = true := decide_eq_true (by omega)
      rw [if_neg (by omega)]
      go_enter Tryz.func37, Tryz.ntmps37
      go_wp2_with fail
      go_quiet (fail)
      go_wp2_with fail
      refine (HN.out _ l0.out _).mono ?_
      rintro e W ⟨rfl, hW⟩
      subst W
      go_wp2_with fail
      refine (HN.out _ l1.out _).mono ?_
      rintro e W ⟨rfl, hW⟩
      subst W
      go_wp2_with fail
      go_quiet (fail)
      go_wp2
      go_ret2
      exact ⟨rfl, below_drawn (below_drawn (Below.refl _ _) _) _⟩
  · rw [if_neg (fun e => k1 e.1)]
    have hbn : ¬ ((⟨A.toArray⟩ : ByteArray) = ⟨C.toArray⟩) := fun e => k1 (by have h9 := congrArg (fun b => b.data.toList) e; simpa using h9)
    go_enter Tryz.func37, Tryz.ntmps37
    go_wp2_with fail
    go_quiet (fail)
    go_wp2_with fail
    refine (HN.out _ l0.out _).mono ?_
    rintro e W ⟨rfl, hW⟩
    subst W
    go_wp2_with fail
    refine (HN.out _ l1.out _).mono ?_
    rintro e W ⟨rfl, hW⟩
    subst W
    go_wp2_with fail
    go_quiet (fail)
    go_wp2
    go_ret2
    exact ⟨rfl, below_drawn (below_drawn (Below.refl _ _) _) _⟩
end
end Go.Proofs.YtnhnjdldgaaeoaaGreatDoor
