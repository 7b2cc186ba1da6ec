/-
  What put does: a text, and then the slot.
-/
import Derived.Test.YtnhnjdldgaaeoaaGreatDoorKfi
namespace Go.Proofs.YtnhnjdldgaaeoaaGreatDoor
open Go Go.RowKit
set_option maxRecDepth 100000

def putP (D : Dk) (first size i n : Nat) (t : List UInt8) : Int × Dk :=
  if (putsL D (first + 2 + i * size) (chunks t)).1 = 0 then
    (if syncE (putsL D (first + 2 + i * size) (chunks t)).2 = 0 then saveEnd (syncD (putsL D (first + 2 + i * size) (chunks t)).2) (first + i) n t.length
     else (syncE (putsL D (first + 2 + i * size) (chunks t)).2, syncD (putsL D (first + 2 + i * size) (chunks t)).2))
  else putsL D (first + 2 + i * size) (chunks t)

theorem wrapI (x : Int) (h1 : 0 ≤ x) (h2 : x < 9223372036854775808) : IntKind.i64.wrap x = x := by
  have e : x % 2 ^ 64 = x := Int.emod_eq_of_lt h1 (by omega)
  simp only [IntKind.wrap, IntKind.bits, IntKind.signed, e]
  rw [if_neg]
  simp
  omega

section
variable {w w' : World} {x : Cx} {d g first size : Nat} {D : Dk}

set_option maxHeartbeats 4000000 in
theorem put_any (h : CellAt w x d first size) (hd : DiskAt w d g D) (i : Nat) (hi : i ≤ 1) (t : List UInt8) (ht : t.length ≤ 64 * size) (n : Nat) (hn : n < 9223372036854775808) :
    Calls Tryz.prog 36 #[.pointer (some ⟨x.c, 0, none⟩), .int .i64 i, .string ⟨t.toArray⟩, .agg #[.int .i64 n, .int .i64 t.length]] w fun e w' =>
      e = .returned (.int .i64 (putP D first size i n t).1) ∧ DiskAt w' d g (putP D first size i n t).2 ∧ Kp [d, g] w w' := by
  have hf := h.fst
  have hsz := h.sz
  have HB0 : Hid (Below w.heap.size w (w.alloc (.cells #[.int .i64 n, .int .i64 t.length] 86))) := below_a1 _ _
  have HT0 : Hid ((w.alloc (.cells #[.int .i64 n, .int .i64 t.length] 86)).heap[w.heap.size]? = some (.cells #[.int .i64 n, .int .i64 t.length] 86)) := top_row _ _
  have HK0 : Hid (∀ W, Kp [d, g] (w.alloc (.cells #[.int .i64 n, .int .i64 t.length] 86)) W → Kp [d, g] w W) := fun W hk => (Kp.of HB0.out).trans hk
  have HD0 : Hid (DiskAt (w.alloc (.cells #[.int .i64 n, .int .i64 t.length] 86)) d g D) := hd.kept (X := []) (Kp.of HB0.out) (by simp) (by simp)
  have HC0 := hid (h.stays HB0.out)
  generalize hw0 : w.alloc (.cells #[.int .i64 n, .int .i64 t.length] 86) = w0 at *
  have HQ : Hid (∀ W, Kp [d, g] w0 W → (W.cell? ⟨x.c, 0, none⟩ = some (.pointer (some ⟨d, 0, none⟩)) ∧ W.cell? ⟨x.c, 1, none⟩ = some (.int .i64 first)) ∧ (W.cell? ⟨w.heap.size, 0, none⟩ = some (.int .i64 n) ∧ W.cell? ⟨w.heap.size, 1, none⟩ = some (.int .i64 t.length))) := by
    intro W hk
    have hne : w.heap.size ∉ [d, g] := by
      intro hm
      simp only [List.mem_cons, List.not_mem_nil, or_false] at hm
      have h1 := row_lt hd.obj
      have h2 := row_lt hd.row
      omega
    have h9 := hk.row HT0.out hne
    exact ⟨⟨(HC0.out.next HD0.out hk).c0, (HC0.out.next HD0.out hk).c1⟩, by rw [cell_of_row _ _ _ _ _ _ h9]; rfl, by rw [cell_of_row _ _ _ _ _ _ h9]; rfl⟩
  have HFi := hid (fill_cell HC0.out HD0.out i hi t ht)
  have HBy := hid (fun W => bytes_any n t.length hn (by omega) W)
  have ei : ((first + i : Nat) : Int) = (first : Int) + (i : Int) := by omega
  obtain ⟨R, hR⟩ : ∃ R, R = putP D first size i n t := ⟨_, rfl⟩
  rw [← hR]
  unfold putP saveEnd at hR
  rw [ei] at hR
  have HR := hid hR
  clear hR h hd
  generalize putsL D (first + 2 + i * size) (chunks t) = P1 at *
  obtain ⟨e1, D1⟩ := P1
  simp only at HR HFi
  have c0 := (HQ.out _ (Kp.refl _ _)).1.1
  by_cases hE1 : e1 = 0
  · rw [if_pos hE1] at HR
    subst hE1
    go_enter Tryz.func36, Tryz.ntmps36
    go_wp2_with fail
    refine HFi.out.mono ?_
    rintro e w1 ⟨rfl, h1, k1⟩
    have HK1 := hid k1
    have HSy := hid (sync_any h1)
    have c1 := (HQ.out _ k1).1.1
    clear h1 k1 HFi c0
    go_wp2_with fail
    refine HSy.out.mono ?_
    rintro e w2 ⟨rfl, h2, k2⟩
    have HK2 := hid (HK1.out.trans k2)
    have HD2 := hid h2
    clear h2 k2 HSy HK1 c1
    generalize syncE D1 = e2 at *
    generalize syncD D1 = D2 at *
    by_cases hE2 : e2 = 0
    · rw [if_pos hE2] at HR
      subst hE2
      have HWr : Hid (∀ W, DiskAt W d g D2 → Calls Tryz.prog 56 #[.pointer (some ⟨d, 0, none⟩), .int .i64 (IntKind.i64.wrap ((first : Int) + i)), .string ⟨(slotB n t.length).toArray⟩] W fun e w' =>
          e = .returned (.int .i64 (writeE D2 ((first : Int) + i) (slotB n t.length))) ∧ DiskAt w' d g (writeD D2 ((first : Int) + i) (slotB n t.length)) ∧ Kp [d, g] W w') := by
        intro W hd
        have ew : IntKind.i64.wrap ((first : Int) + i) = (first : Int) + i := wrapI _ (by omega) (by omega)
        rw [ew]
        exact write_any hd _ _
      generalize writeE D2 ((first : Int) + i) (slotB n t.length) = e3 at *
      generalize writeD D2 ((first : Int) + i) (slotB n t.length) = D3 at *
      generalize slotB n t.length = sb at *
      have HQa := hid (HQ.out _ HK2.out)
      have HQb := hid (HQ.out _ HK2.out.drew)
      go_wp2_with fail
      go_region_held3 (fun W => (W.cell? ⟨x.c, 0, none⟩ = some (.pointer (some ⟨d, 0, none⟩)) ∧ W.cell? ⟨x.c, 1, none⟩ = some (.int .i64 first)) ∧ (W.cell? ⟨w.heap.size, 0, none⟩ = some (.int .i64 n) ∧ W.cell? ⟨w.heap.size, 1, none⟩ = some (.int .i64 t.length)))
        (with_reducible first | exact HQ.out _ k4 | exact HQ.out _ k3 | exact HQb.out | exact HQa.out)
        (first | (go_at_call 57; refine (HBy.out _).mono ?_; rintro e W3 ⟨rfl, hb3⟩; have k3 : Kp [d, g] w0 W3 := HK2.out.drew.trans (Kp.of hb3); have HD3 := hid (HD2.out.kept (X := []) ((Kp.refl _ _).drew.trans (Kp.of hb3)) (by simp) (by simp))) | (go_at_call 56; refine (HWr.out _ HD3.out).mono ?_; rintro e W4 ⟨rfl, h4, kk4⟩; have HD4 := hid h4; have k4 : Kp [d, g] w0 W4 := k3.trans kk4; clear h4 kk4))
      have HK4 := hid k4
      have c4 := (HQ.out _ k4).1.1
      have HSy := hid (sync_any HD4.out)
      clear k4 k3 hb3 HQa HQb HBy HWr HD3 HK2 HD2
      by_cases hE3 : e3 = 0
      · rw [if_pos hE3] at HR
        subst hE3
        go_wp2_with fail
        refine HSy.out.mono ?_
        rintro e w5 ⟨rfl, h5, k5⟩
        have HK5 := hid (HK0.out _ (HK4.out.trans k5))
        have HD5 := hid h5
        clear h5 k5
        go_wp2
        go_ret
        exact ⟨by rw [HR.out]; rfl, by rw [HR.out]; exact HD5.out, HK5.out⟩
      · rw [if_neg hE3] at HR
        have hb : (e3 != 0) = true := by simpa using hE3
        go_wp2
        go_ret
        exact ⟨by rw [HR.out]; rfl, by rw [HR.out]; exact HD4.out, HK0.out _ HK4.out⟩
    · rw [if_neg hE2] at HR
      have hb : (e2 != 0) = true := by simpa using hE2
      go_wp2
      go_ret
      exact ⟨by rw [HR.out]; rfl, by rw [HR.out]; exact HD2.out, HK0.out _ HK2.out⟩
  · rw [if_neg hE1] at HR
    have hb : (e1 != 0) = true := by simpa using hE1
    go_enter Tryz.func36, Tryz.ntmps36
    go_wp2_with fail
    refine HFi.out.mono ?_
    rintro e w1 ⟨rfl, h1, k1⟩
    have HD1 := hid h1
    have HK1 := hid (HK0.out _ k1)
    clear h1 k1
    go_wp2
    go_ret
    exact ⟨by rw [HR.out]; rfl, by rw [HR.out]; exact HD1.out, HK1.out⟩
end
end Go.Proofs.YtnhnjdldgaaeoaaGreatDoor
