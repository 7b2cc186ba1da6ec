/-
  Whether a message may be, as the registers ask it (regs.mayBe).
-/
import Derived.Test.YtoneoocihfjfgaaGreatDoorEat
import Derived.Test.YtoneoocihfjfgaaGreatDoorG15
import Derived.Test.YtoneoocihfjfgaaGreatDoorG08
import Derived.Test.YtoneoocihfjfgaaGreatDoorShelf
import Derived.Lib.QuietBelow
namespace Go.Proofs.YtoneoocihfjfgaaGreatDoor.Ms
open Go Go.RowKit
set_option maxRecDepth 100000
def putE' (m : Msg) : Int := if mayB m = true then 0 else 2
def putT (m : Msg) : List UInt8 := if mayB m = true then putM m else []
theorem put_any {w : World} {m : Msg} {vP vN : Value} (hw : m.Wf) (hr : m.Rng) (hp : PensAt w vP m.rep.pend) (hn : IntsAt w vN m.nums) (hl : Lens m) (hk : m.kind ≠ 2) (ht : Tb w) :
    Calls Tryz.prog 35 #[.agg (msgC m vP vN).toArray] w fun e w' => e = .returned (.tuple #[st (putT m), nu (putE' m)]) ∧ Below w.heap.size w w' := by
  unfold putT putE'
  cases hm : mayB m with
  | true =>
    rw [if_pos rfl, if_pos rfl]
    exact put_ok hw hr hp hn hl (fun h => absurd h hk) (fun h => absurd h hk) hm ht
  | false =>
    rw [if_neg (by simp), if_neg (by simp)]
    exact put_bad hw hr hp hn hl (fun h => absurd h hk) hm
set_option maxHeartbeats 4000000 in
theorem rmay_any {w : World} {m : Msg} {vP vN : Value} (hw : m.Wf) (hr : m.Rng) (hp : PensAt w vP m.rep.pend) (hn : IntsAt w vN m.nums) (hl : Lens m) (hk : m.kind ≠ 2) (ht : Tb w) :
    Calls Tryz.prog 25 #[.agg (msgC m vP vN).toArray] w fun e w' => e = .returned (.bool (mayB m)) ∧ Below w.heap.size w w' := by
  have HB0 := hid (below_a1 w (.cells (msgC m vP vN).toArray 76))
  have R0 := hid (top_obj w (.cells (msgC m vP vN).toArray 76))
  have K1 := hid (put_any hw hr (hp.kept HB0.out) (hn.kept HB0.out) hl hk (ht.stays HB0.out))
  have Z0 : (Tryz.prog.info? 76).map (·.size) = some (msgC m vP vN).length := by rw [msgC_len hw]; exact sizeMsg
  have HE : Hid ((putE' m == 0) = mayB m) := by
    show _ = _
    unfold putE'
    cases mayB m <;> rfl
  clear hp hn hl hr hk hw ht
  generalize putT m = T at *
  generalize putE' m = E at *
  generalize mayB m = B at *
  obtain ⟨V, hV⟩ : ∃ V, V = msgC m vP vN := ⟨_, rfl⟩
  rw [← hV] at HB0 R0 K1 Z0 ⊢
  clear hV
  have S0 := hid (row_seg (off := 0) (A := []) (cs := V) (C := []) R0.out (by simp) rfl)
  clear R0
  go_enter Tryz.func25, Tryz.ntmps25
  go_upto_region 1 with fail
  generalize w.alloc (.cells V.toArray 76) = W0 at *
  go_wp2_with (first | ((with_reducible refine wl_load 76 (.tmp 1) ?_ w.heap.size 0 ?_ ?_ V _ S0.out Tryz.underlying76 ?_ Z0 ?_); exact rfl; exact rfl; exact rfl; exact rfl))
  refine K1.out.mono ?_
  rintro e w1 ⟨rfl, hb⟩
  have HB1 := hid (below_two HB0.out hb)
  clear hb
  go_wp2
  go_ret
  exact ⟨by rw [← HE.out]; rfl, HB1.out⟩
end Go.Proofs.YtoneoocihfjfgaaGreatDoor.Ms
namespace Go.Proofs.YtoneoocihfjfgaaGreatDoor.Hist
open Go Go.RowKit
set_option maxRecDepth 100000
set_option maxHeartbeats 2000000 in
theorem clone_any (s : List UInt8) (hs : s.length ≤ 281474976710656) (w : World) : Calls Tryz.prog 28 #[.string ⟨s.toArray⟩] w fun e w' => e = .returned (.string ⟨s.toArray⟩) ∧ Below w.heap.size w w' := by
  have HC := hid (Tryz.stringslite_Clone ⟨s.toArray⟩ w hs)
  go_enter Tryz.func28, Tryz.ntmps28
  go_wp2_with (go_at_call 36; refine HC.out.mono ?_; rintro e w1 ⟨rfl, hb⟩)
  go_ret
  exact ⟨rfl, hb⟩
end Go.Proofs.YtoneoocihfjfgaaGreatDoor.Hist
