/-
  What hist.Goes, Fit, Longer and Upto answer.
-/
import Derived.Test.YtmfpmajkjhmliaaGreatDoorG08
import Derived.Test.YtmfpmajkjhmliaaGreatDoorShelf
import Derived.Lib.QuietBelow
import Derived.Test.YtmfpmajkjhmliaaGreatDoorG26
import Derived.Test.YtmfpmajkjhmliaaGreatDoorG27
import Derived.Test.YtmfpmajkjhmliaaGreatDoorG28
import Derived.Test.YtmfpmajkjhmliaaGreatDoorG29
import Derived.Test.YtmfpmajkjhmliaaGreatDoorG04
import Derived.Laws.EntriesVeiled
namespace Go.Proofs.YtmfpmajkjhmliaaGreatDoor.Hist
open Go Go.RowKit
set_option maxRecDepth 100000
theorem below_two {w w1 w2 : World} (h1 : Below w.heap.size w w1) (h2 : Below w1.heap.size w1 w2) : Below w.heap.size w w2 := h1.trans (h2.mono h1.size)
theorem prefix_any (a b : List UInt8) (w : World) : Calls Tryz.prog 135 #[.string ⟨a.toArray⟩, .string ⟨b.toArray⟩] w fun e w' => e = .returned (.bool (goesB a b)) ∧ w' = w :=
  (Tryz.strings_HasPrefix ⟨a.toArray⟩ ⟨b.toArray⟩ w).mono fun e w' hq => ⟨by rw [hq.1]; rfl, hq.2⟩
set_option maxHeartbeats 2000000 in
theorem clone_any (s : List UInt8) (hs : s.length ≤ 281474976710656) (w : World) : Calls Tryz.prog 80 #[.string ⟨s.toArray⟩] w fun e w' => e = .returned (.string ⟨s.toArray⟩) ∧ Below w.heap.size w w' := by
  have HC := hid (Tryz.stringslite_Clone ⟨s.toArray⟩ w hs)
  go_enter Tryz.func80, Tryz.ntmps80
  go_wp2_with (go_at_call 123; refine HC.out.mono ?_; rintro e w1 ⟨rfl, hb⟩)
  go_ret
  exact ⟨rfl, hb⟩
set_option maxHeartbeats 2000000 in
theorem goes_any (a b : List UInt8) (w : World) : Calls Tryz.prog 108 #[.string ⟨a.toArray⟩, .string ⟨b.toArray⟩] w fun e w' => e = .returned (.bool (goesB a b)) ∧ w' = w := by
  have HC := hid (prefix_any a b w)
  generalize goesB a b = r at *
  go_enter Tryz.func108, Tryz.ntmps108
  go_wp2_with (go_at_call 135; refine HC.out.mono ?_; rintro e w1 ⟨rfl, rfl⟩)
  go_ret
  exact ⟨rfl, rfl⟩
end Go.Proofs.YtmfpmajkjhmliaaGreatDoor.Hist
namespace Go.Proofs.YtmfpmajkjhmliaaGreatDoor.Ms
open Go Go.RowKit
set_option maxRecDepth 100000
def pubE (m : Msg) : Int := if mayB m = true then 0 else 2
def pubT (m : Msg) : List UInt8 := if mayB m = true then putM m else []
theorem put_every {w : World} {m : Msg} {vP vN : Value} (hw : m.Wf) (hr : m.Rng) (hp : PensAt w vP m.rep.pend) (hn : IntsAt w vN m.nums) (hl : Lens m) (ht : Tb w) :
    Calls Tryz.prog 124 #[.agg (msgC m vP vN).toArray] w fun e w' => e = .returned (.tuple #[st (pubT m), nu (pubE m)]) ∧ Below w.heap.size w w' := by
  unfold pubT pubE
  cases hm : mayB m with
  | true =>
    rw [if_pos rfl, if_pos rfl]
    exact put_ok hw hr hp hn hl (fun _ => repmay m.rep hw.rep) (fun _ => mkLayPens) hm ht
  | false =>
    rw [if_neg (by simp), if_neg (by simp)]
    exact put_bad hw hr hp hn hl (fun _ => repmay m.rep hw.rep) hm
set_option maxHeartbeats 4000000 in
theorem vmay_any {w : World} {m : Msg} {vP vN : Value} (hw : m.Wf) (hr : m.Rng) (hp : PensAt w vP m.rep.pend) (hn : IntsAt w vN m.nums) (hl : Lens m) (ht : Tb w) :
    Calls Tryz.prog 92 #[.agg (msgC m vP vN).toArray] w fun e w' => e = .returned (.bool (mayB m)) ∧ Below w.heap.size w w' := by
  have HB0 := hid (below_a1 w (.cells (msgC m vP vN).toArray 88))
  have R0 := hid (top_obj w (.cells (msgC m vP vN).toArray 88))
  have K1 := hid (put_every hw hr (hp.kept HB0.out) (hn.kept HB0.out) hl (ht.stays HB0.out))
  have Z0 : (Tryz.prog.info? 88).map (·.size) = some (msgC m vP vN).length := by rw [msgC_len hw]; exact sizeMsg
  have HE : Hid ((pubE m == 0) = mayB m) := by
    show _ = _
    unfold pubE
    cases mayB m <;> rfl
  clear hp hn hl hr hw ht
  generalize pubT m = T at *
  generalize pubE m = E at *
  generalize mayB m = B at *
  obtain ⟨V, hV⟩ : ∃ V, V = msgC m vP vN := ⟨_, rfl⟩
  rw [← hV] at HB0 R0 K1 Z0 ⊢
  clear hV
  have S0 := hid (row_seg (off := 0) (A := []) (cs := V) (C := []) R0.out (by simp) rfl)
  clear R0
  go_enter Tryz.func92, Tryz.ntmps92
  go_upto_region 1 with fail
  generalize w.alloc (.cells V.toArray 88) = W0 at *
  go_wp2_with (first | ((with_reducible refine wl_load 88 (.tmp 1) ?_ w.heap.size 0 ?_ ?_ V _ S0.out Tryz.underlying88 ?_ Z0 ?_); exact rfl; exact rfl; exact rfl; exact rfl))
  refine K1.out.mono ?_
  rintro e w1 ⟨rfl, hb⟩
  have HB1 := hid (below_two HB0.out hb)
  clear hb
  go_wp2
  go_ret
  exact ⟨by rw [← HE.out]; rfl, HB1.out⟩
set_option maxHeartbeats 4000000 in
theorem umay_any {w : World} {m : Msg} {vP vN : Value} (hw : m.Wf) (hr : m.Rng) (hp : PensAt w vP m.rep.pend) (hn : IntsAt w vN m.nums) (hl : Lens m) (ht : Tb w) :
    Calls Tryz.prog 82 #[.agg (msgC m vP vN).toArray] w fun e w' => e = .returned (.bool (mayB m)) ∧ Below w.heap.size w w' := by
  have HB0 := hid (below_a1 w (.cells (msgC m vP vN).toArray 88))
  have R0 := hid (top_obj w (.cells (msgC m vP vN).toArray 88))
  have K1 := hid (put_every hw hr (hp.kept HB0.out) (hn.kept HB0.out) hl (ht.stays HB0.out))
  have Z0 : (Tryz.prog.info? 88).map (·.size) = some (msgC m vP vN).length := by rw [msgC_len hw]; exact sizeMsg
  have HE : Hid ((pubE m == 0) = mayB m) := by
    show _ = _
    unfold pubE
    cases mayB m <;> rfl
  clear hp hn hl hr hw ht
  generalize pubT m = T at *
  generalize pubE m = E at *
  generalize mayB m = B at *
  obtain ⟨V, hV⟩ : ∃ V, V = msgC m vP vN := ⟨_, rfl⟩
  rw [← hV] at HB0 R0 K1 Z0 ⊢
  clear hV
  have S0 := hid (row_seg (off := 0) (A := []) (cs := V) (C := []) R0.out (by simp) rfl)
  clear R0
  go_enter Tryz.func82, Tryz.ntmps82
  go_upto_region 1 with fail
  generalize w.alloc (.cells V.toArray 88) = W0 at *
  go_wp2_with (first | ((with_reducible refine wl_load 88 (.tmp 1) ?_ w.heap.size 0 ?_ ?_ V _ S0.out Tryz.underlying88 ?_ Z0 ?_); exact rfl; exact rfl; exact rfl; exact rfl))
  refine K1.out.mono ?_
  rintro e w1 ⟨rfl, hb⟩
  have HB1 := hid (below_two HB0.out hb)
  clear hb
  go_wp2
  go_ret
  exact ⟨by rw [← HE.out]; rfl, HB1.out⟩
set_option maxHeartbeats 1000000 in
theorem vhas_any {w : World} {p n : Nat} {s : List UInt8} (r : RgAt w p s n) (c : Int) : Calls Tryz.prog 91 #[pt p 0, nu c] w fun e w' => e = .returned (.bool (hasB n c)) ∧ w' = w := by
  have HC := hid (rgclients r)
  unfold hasB
  clear r
  by_cases h : 0 ≤ c
  · have d1 : decide (0 ≤ c) = true := decide_eq_true h
    rw [d1, Bool.true_and]
    clear h
    go_enter Tryz.func91, Tryz.ntmps91
    go_wp2_with fail
    refine HC.out.mono ?_
    rintro e w1 ⟨rfl, hw1⟩
    subst w1
    go_wp2
    go_ret
    exact ⟨rfl, rfl⟩
  · have d1 : decide (0 ≤ c) = false := decide_eq_false h
    rw [d1, Bool.false_and]
    clear h
    go_enter Tryz.func91, Tryz.ntmps91
    go_wp2
    go_ret
    exact ⟨rfl, rfl⟩
set_option maxHeartbeats 1000000 in
theorem uhas_any {w : World} {p n : Nat} {s : List UInt8} (r : RgAt w p s n) (c : Int) : Calls Tryz.prog 84 #[pt p 0, nu c] w fun e w' => e = .returned (.bool (hasB n c)) ∧ w' = w := by
  have HC := hid (rgclients r)
  unfold hasB
  clear r
  by_cases h : 0 ≤ c
  · have d1 : decide (0 ≤ c) = true := decide_eq_true h
    rw [d1, Bool.true_and]
    clear h
    go_enter Tryz.func84, Tryz.ntmps84
    go_wp2_with fail
    refine HC.out.mono ?_
    rintro e w1 ⟨rfl, hw1⟩
    subst w1
    go_wp2
    go_ret
    exact ⟨rfl, rfl⟩
  · have d1 : decide (0 ≤ c) = false := decide_eq_false h
    rw [d1, Bool.false_and]
    clear h
    go_enter Tryz.func84, Tryz.ntmps84
    go_wp2
    go_ret
    exact ⟨rfl, rfl⟩
theorem vsub_wf {c : Int} {x : Sub} (hx : x.Wf) : (subM c x).Wf := ⟨hx, wfZeroR, rfl, rfl, wfZeroB⟩
set_option maxHeartbeats 4000000 in
theorem vsub_any {w : World} {p n : Nat} {s : List UInt8} (r : RgAt w p s n) {c : Int} {x : Sub} (hx : x.Wf) (hr : (subM c x).Rng) :
    Calls Tryz.prog 40 #[pt p 0, nu c, .agg (subC x).toArray] w fun e w' => e = .returned (.bool (vsub n c x)) ∧ Below w.heap.size w w' := by
  have T0 := top_obj w (.cells (subC x).toArray 51)
  have B0 := hid (below_a1 w (.cells (subC x).toArray 51))
  have H1 := hid (vhas_any (r.kept B0.out) c)
  have H2 := hid (vhas_any (r.kept B0.out) x.target)
  have HM := hid (vmay_any (vP := .slice none 0 0) (vN := .slice none 0 0) (vsub_wf (c := c) hx) hr (PensAt.nil (w.alloc (.cells (subC x).toArray 51))) (IntsAt.nil _) ⟨Nat.zero_le _, Nat.zero_le _⟩ (r.kept B0.out).tb)
  have cx := srow_target T0 hx
  have SX := hid (row_seg (off := 0) (A := []) (cs := subC x) (C := []) T0 (by simp) rfl)
  have HBm := hid (fun W => build_subm W c x hx)
  have ZS : (Tryz.prog.info? 51).map (·.size) = some (subC x).length := by rw [subC_len hx]; exact sizeSub
  unfold vsub
  clear r hr T0 hx
  generalize msgC (subM c x) (.slice none 0 0) (.slice none 0 0) = MV at *
  generalize mayB (subM c x) = BM at *
  generalize x.target = tg at *
  generalize subC x = V at *
  cases e1 : hasB n c
  · rw [e1] at H1
    rw [Bool.false_and]
    go_enter Tryz.func40, Tryz.ntmps40
    go_upto_region 1 with fail
    generalize w.alloc (.cells V.toArray 51) = W0 at *
    go_wp2_with fail
    refine H1.out.mono ?_
    rintro e w1 ⟨rfl, hw1⟩
    subst w1
    go_wp2
    go_ret
    exact ⟨rfl, B0.out⟩
  · rw [e1] at H1
    rw [Bool.true_and]
    cases e2 : hasB n tg
    · rw [e2] at H2
      rw [Bool.false_and]
      go_enter Tryz.func40, Tryz.ntmps40
      go_upto_region 1 with fail
      generalize w.alloc (.cells V.toArray 51) = W0 at *
      generalize hX : w.heap.size = X at *
      go_wp2_with fail
      refine H1.out.mono ?_
      rintro e w1 ⟨rfl, hw1⟩
      subst w1
      go_wp2_with fail
      refine H2.out.mono ?_
      rintro e w1 ⟨rfl, hw1⟩
      subst w1
      go_wp2
      go_ret
      exact ⟨rfl, hX ▸ B0.out⟩
    · rw [e2] at H2
      rw [Bool.true_and]
      go_enter Tryz.func40, Tryz.ntmps40
      go_upto_region 1 with fail
      generalize w.alloc (.cells V.toArray 51) = W0 at *
      have hsz : w.heap.size ≤ W0.heap.size := B0.out.size
      generalize hX : w.heap.size = X at *
      go_wp2_with fail
      refine H1.out.mono ?_
      rintro e w1 ⟨rfl, hw1⟩
      subst w1
      go_wp2_with fail
      refine H2.out.mono ?_
      rintro e w1 ⟨rfl, hw1⟩
      subst w1
      go_wp2_with (first
        | ((with_reducible refine wl_load 51 (.tmp 5) ?_ X 0 ?_ ?_ V _ SX.out Tryz.underlying51 ?_ ZS ?_); exact rfl; exact rfl; exact rfl; exact rfl)
        | ((with_reducible refine wl_buildY 88 [(0, .const (nu 1)), (1, .tmp 17), (2, .tmp 18)] ?_ ?_ MV.toArray ?_ ?_); exact rfl; exact rfl; exact (HBm.out _)))
      refine HM.out.mono ?_
      rintro e w1 ⟨rfl, hb⟩
      have HB1 := hid (B0.out.trans (hb.mono hsz))
      clear hb
      go_wp2
      go_ret
      exact ⟨rfl, hX ▸ HB1.out⟩
def judge (k : Nat) : Value := .func (.func 94) #[] #[pt k 0]
structure JgAt (w : World) (k p : Nat) (s : List UInt8) (n : Nat) : Prop where
  rg : RgAt w p s n
  cell : w.cell? ⟨k, 0, none⟩ = some (pt p 0)
set_option maxHeartbeats 1000000 in
theorem judgeOf_any {w : World} {p n : Nat} {s : List UInt8} (r : RgAt w p s n) : Calls Tryz.prog 42 #[pt p 0] w fun e w' => e = .returned (judge w.heap.size) ∧ JgAt w' w.heap.size p s n ∧ Below w.heap.size w w' := by
  have B0 := hid (below_a1 w (.cells #[pt p 0] 26))
  have C0 : Hid ((w.alloc (.cells #[pt p 0] 26)).cell? ⟨w.heap.size, 0, none⟩ = some (pt p 0)) := row_cell (A := []) (C := []) (top_obj w (.cells #[pt p 0] 26)) rfl rfl
  have R0 := hid (r.kept B0.out)
  clear r
  go_enter Tryz.func42, Tryz.ntmps42
  go_wp2
  go_ret
  exact ⟨rfl, ⟨R0.out, C0.out⟩, B0.out⟩
theorem by8_byte (c : Int) (h : 0 ≤ c ∧ c < 256) : Go.Proofs.YtmfpmajkjhmliaaGreatDoor.bv (by8 c) = c := by8_val c h
set_option maxHeartbeats 2000000 in
theorem behind_one (d : List UInt8) (hd : d.length ≤ 140737488351232) (c : Int) (hc : 0 ≤ c ∧ c < 256) (w : World) :
    Calls Tryz.prog 45 #[st d, nu c] w fun e w' => e = .returned (st (d ++ [by8 c])) ∧ Below w.heap.size w w' := by
  have hu : brow (w.alloc (.cells #[.int .u8 c] 5)) w.heap.size (.slice (some ⟨w.heap.size, 0, none⟩) 1 1) [by8 c] := by
    have := brow_one w w.heap.size (by8 c) (Nat.le_refl _)
    rw [by8_byte c hc] at this
    exact this
  have hcv := conv_brow hu
  have B0 := hid (below_a1 w (.cells #[.int .u8 c] 5))
  have hwr : IntKind.u8.wrap c = c := by rw [IntKind.wrap_u8]; omega
  have hz : (⟨d.toArray⟩ : ByteArray).size = d.length := rfl
  have hz1 : (⟨[by8 c].toArray⟩ : ByteArray).size = 1 := rfl
  have happ : (⟨d.toArray⟩ : ByteArray) ++ (⟨[by8 c].toArray⟩ : ByteArray) = ⟨(d ++ [by8 c]).toArray⟩ := ByteArray.mk_append_mk d [by8 c]
  clear hu
  go_enter Tryz.func45, Tryz.ntmps45
  go_wp2
  go_ret
  exact ⟨rfl, B0.out⟩
end Go.Proofs.YtmfpmajkjhmliaaGreatDoor.Ms
