/-
  What hist.Goes, Fit, Longer and Upto answer.
-/
import Derived.Test.YtfigbgpfkhcpcaaHct
import Derived.Test.YtfigbgpfkhcpcaaShelf
import Derived.Lib.QuietBelow
namespace Go.Proofs.Ytfigbgpfkhcpcaa.Hist
open Go Go.RowKit
set_option maxRecDepth 100000

theorem below_two {w w1 w2 : World} (h1 : Below w.heap.size w w1) (h2 : Below w1.heap.size w1 w2) : Below w.heap.size w w2 := h1.trans (h2.mono h1.size)

theorem prefix_any (a b : List UInt8) (w : World) : Calls Try.prog 49 #[.string ⟨a.toArray⟩, .string ⟨b.toArray⟩] w fun e w' => e = .returned (.bool (goesB a b)) ∧ w' = w :=
  (Try.strings_HasPrefix ⟨a.toArray⟩ ⟨b.toArray⟩ w).mono fun e w' hq => ⟨by rw [hq.1]; rfl, hq.2⟩

set_option maxHeartbeats 2000000 in
theorem clone_any (s : List UInt8) (hs : s.length ≤ 281474976710656) (w : World) : Calls Try.prog 40 #[.string ⟨s.toArray⟩] w fun e w' => e = .returned (.string ⟨s.toArray⟩) ∧ Below w.heap.size w w' := by
  have HC := hid (Try.stringslite_Clone ⟨s.toArray⟩ w hs)
  go_enter Try.func40, Try.ntmps40
  go_wp2_with (go_at_call 46; refine HC.out.mono ?_; rintro e w1 ⟨rfl, hb⟩)
  go_ret
  exact ⟨rfl, hb⟩

set_option maxHeartbeats 2000000 in
theorem goes_any (a b : List UInt8) (w : World) : Calls Try.prog 45 #[.string ⟨a.toArray⟩, .string ⟨b.toArray⟩] w fun e w' => e = .returned (.bool (goesB a b)) ∧ w' = w := by
  have HC := hid (prefix_any a b w)
  generalize goesB a b = r at *
  go_enter Try.func45, Try.ntmps45
  go_wp2_with (go_at_call 49; refine HC.out.mono ?_; rintro e w1 ⟨rfl, rfl⟩)
  go_ret
  exact ⟨rfl, rfl⟩

set_option maxHeartbeats 2000000 in
theorem fit_any (a b : List UInt8) (w : World) : Calls Try.prog 39 #[.string ⟨a.toArray⟩, .string ⟨b.toArray⟩] w fun e w' => e = .returned (.bool (fitB a b)) ∧ w' = w := by
  have HA := hid (goes_any a b w)
  have HB := hid (goes_any b a w)
  unfold fitB
  generalize goesB b a = s at *
  cases hq : goesB a b with
  | true =>
    rw [hq] at HA
    go_enter Try.func39, Try.ntmps39
    go_wp2_with fail
    refine HA.out.mono ?_
    rintro e w1 ⟨rfl, hw⟩
    subst w1
    go_wp2
    go_ret
    exact ⟨rfl, rfl⟩
  | false =>
    rw [hq] at HA
    go_enter Try.func39, Try.ntmps39
    go_wp2_with fail
    refine HA.out.mono ?_
    rintro e w1 ⟨rfl, hw⟩
    subst w1
    go_wp2_with fail
    refine HB.out.mono ?_
    rintro e w1 ⟨rfl, hw⟩
    subst w1
    go_wp2
    go_ret
    exact ⟨rfl, rfl⟩

theorem ext_take (l : List UInt8) (k : Nat) : (⟨l.toArray⟩ : ByteArray).extract 0 k = ⟨(l.take k).toArray⟩ := by
  apply ByteArray.ext
  simp [ByteArray.data_extract]

end Go.Proofs.Ytfigbgpfkhcpcaa.Hist
