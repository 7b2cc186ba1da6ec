/-
  What is known, looked at: Word, Own (of the program).
-/
import Derived.Test.YtfigbgpfkhcpcaaImm
namespace Go.Proofs.Ytfigbgpfkhcpcaa.Kn
open Go Go.RowKit
set_option maxRecDepth 100000

theorem hasB_iff (n : Nat) (c : Int) : hasB n c = true ↔ 0 ≤ c ∧ c < n := by simp [hasB]
theorem out_wl {n : Nat} {L : List Ln} (h : PI n L) {c : Int} (hc : hasB n c = false) : wl L c = 0 := by
  have hs : ∀ x ∈ L, x.fro ≠ c := fun x hx e => by
    have := ((okB_iff _ _).1 (h.ok x hx)).1
    rw [e] at this
    rw [(hasB_iff n c).2 this] at hc
    cases hc
  revert hs
  refine snoc_ind (P := fun L => (∀ x ∈ L, x.fro ≠ c) → wl L c = 0) (fun _ => rfl) (fun L y ih hs => ?_) L
  rw [wl_snoc]
  unfold wlF
  rw [if_neg (hs y (by simp)), ih (fun x hx => hs x (by simp [hx]))]
theorem out_word {n : Nat} {L : List Ln} (h : PI n L) {c : Int} (hc : hasB n c = false) : word L c = [] := by
  unfold word
  rw [out_wl h hc]
  rfl
theorem out_own {n : Nat} {L : List Ln} (h : PI n L) {c : Int} (hc : hasB n c = false) : ownv L c = [] := by
  unfold ownv
  have := ol_wl L c
  rw [out_wl h hc] at this
  rw [Nat.le_zero.1 this]
  rfl
set_option maxHeartbeats 4000000 in
theorem word_any {w : World} {p n me : Nat} {L : List Ln} (h : KAt w p n me L) (c : Int) : Calls Try.prog 11 #[pt p 0, nu c] w fun e w' => e = .returned (st (word L c)) ∧ Below w.heap.size w w' := by
  have HM := hid (made_any h)
  have HH := hid (has_any h c)
  cases hc : hasB n c with
  | false =>
    rw [hc] at HH
    rw [out_word h.inv hc]
    clear h hc
    go_enter Try.func11, Try.ntmps11
    go_wp2_with fail
    refine HM.out.mono ?_
    rintro e w1 ⟨rfl, hw⟩
    subst w1
    go_wp2_with fail
    refine HH.out.mono ?_
    rintro e w1 ⟨rfl, hw⟩
    subst w1
    go_wp2
    go_ret
    exact ⟨rfl, Below.refl _ _⟩
  | true =>
    rw [hc] at HH
    obtain ⟨i, rfl⟩ : ∃ i : Nat, c = (i : Int) := ⟨c.toNat, by have := (hasB_iff n c).1 hc; omega⟩
    have hi : i < 8 := by have := ((hasB_iff n _).1 hc).2; have := h.n8; omega
    have c2 : w.cell? ⟨p, 2, none⟩ = some (st (longL L)) := kr2 h.obj
    have c36 : w.cell? ⟨p, 36 + i, none⟩ = some (nu (wl L (i : Int))) := kr36 h.obj h.inv.tag i _ (wC_at _ i hi)
    have hx := Hist.ext_take (longL L) (wl L (i : Int))
    have hle := wl_long L (i : Int)
    have hw : word L (i : Int) = (longL L).take (wl L (i : Int)) := rfl
    rw [← hw] at hx
    clear h hc hw
    generalize word L (i : Int) = W at *
    generalize wl L (i : Int) = k at *
    generalize longL L = T at *
    have hss : (⟨T.toArray⟩ : ByteArray).size = T.length := rfl
    have hi8 : decide ((i : Int) < 8) = true := decide_eq_true (by omega)
    go_enter Try.func11, Try.ntmps11
    go_wp2_with fail
    refine HM.out.mono ?_
    rintro e w1 ⟨rfl, hw⟩
    subst w1
    go_wp2_with fail
    refine HH.out.mono ?_
    rintro e w1 ⟨rfl, hw⟩
    subst w1
    go_upto_region 3 with fail
    have p2 : ∀ dd os, (Sort.grow (redrawn w dd) os).cell? ⟨p, 2, none⟩ = some (st T) := fun dd os => cell_regrown c2 _ _
    have p36 : ∀ dd os, (Sort.grow (redrawn w dd) os).cell? ⟨p, 36 + i, none⟩ = some (nu k) := fun dd os => cell_regrown c36 _ _
    refine wp_region_quiet_below (by kernel_rfl) (by kernel_rfl) ?_
    repeat (first | go_big_quiet_step (fail) | quiet_step (fail))
    refine wpQuiet_nil ?_
    intro _ hw'
    obtain ⟨⟨dq, osq⟩, hw''⟩ := hw'
    subst hw''
    have HBq := hid (below_regrown w dq osq)
    generalize Sort.grow (redrawn w dq) osq = W1 at *
    clear p2 p36
    go_wp2
    go_ret
    exact ⟨rfl, HBq.out⟩
end Go.Proofs.Ytfigbgpfkhcpcaa.Kn
