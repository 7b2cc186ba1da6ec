/-
  What must come at any rate comes (the laws' own 'awake'); lay.Numbers at every list of at most 512 ints.
-/
import Derived.Test.YtldhhbkdhcidcaaDoorRdm
import Derived.Test.YtldhhbkdhcidcaaDoorList
namespace Go.Proofs.YtldhhbkdhcidcaaDoor
open Go.RowKit Go.Joins
set_option maxRecDepth 100000

set_option maxHeartbeats 400000 in
theorem numbers_ok (a : Option Addr) (len cap : Nat) (zs : List Int) (hlen : zs.length = len) (h512 : len ≤ 512)
    (hz : ∀ z ∈ zs, -9223372036854775808 ≤ z ∧ z ≤ 9223372036854775807) (w : World) (ht : Tabs w)
    (hcell : ∀ (j : Nat), j < len → ∃ b off, a = some ⟨b, off, none⟩ ∧ b < w.heap.size ∧ w.cell? ⟨b, off + j, none⟩ = some (.int .i64 (zs.getD j 0))) :
    Calls Tryd.prog 14 #[.slice a len cap] w fun e w' => e = .returned (.tuple #[.string ⟨(40 :: numsBody zs ++ [41]).toArray⟩, .int .i64 0]) ∧ Below w.heap.size w w' := by
  have H := list31 a len cap zs hlen h512 hz w ht hcell
  have HH : Hid (Calls Tryd.prog 31 #[.slice a len cap, .func (.func 32) #[] #[]] w fun e w' => e = .returned (.tuple #[.string ⟨(40 :: numsBody zs ++ [41]).toArray⟩, .int .i64 0]) ∧ Below w.heap.size w w') := H
  clear H hcell hz ht
  go_enter Tryd.func14, Tryd.ntmps14
  go_wp2_with fail
  refine HH.out.mono ?_
  rintro e w' ⟨rfl, hb⟩
  go_wp2
  go_ret2
  exact ⟨rfl, hb⟩

theorem num40 : readNum [45, 52, 48, 59] = (0, -40, 4) := by decide +kernel
theorem num01 : readNum [48, 49, 59] = (6, 0, 0) := by decide +kernel
theorem rd40 (w : World) (ht : Tabs w) : Calls Tryd.prog 18 #[.string ⟨#[120, 45, 52, 48, 59]⟩, .int .i64 1] w fun e w' => e = .returned (.tuple #[.int .i64 (-40), .int .i64 5, .int .i64 0]) ∧ Below w.heap.size w w' := by
  refine (readNumber_any ⟨#[120, 45, 52, 48, 59]⟩ 1 (by decide) (by decide) w ht [45, 52, 48, 59] rfl).mono ?_
  rintro e w' ⟨rfl, hb⟩
  refine ⟨?_, hb⟩
  unfold numTo; rw [num40]; rfl
theorem rd01 (w : World) (ht : Tabs w) : Calls Tryd.prog 18 #[.string ⟨#[48, 49, 59]⟩, .int .i64 0] w fun e w' => e = .returned (.tuple #[.int .i64 0, .int .i64 0, .int .i64 6]) ∧ Below w.heap.size w w' := by
  refine (readNumber_any ⟨#[48, 49, 59]⟩ 0 (by decide) (by decide) w ht [48, 49, 59] rfl).mono ?_
  rintro e w' ⟨rfl, hb⟩
  refine ⟨?_, hb⟩
  unfold numTo; rw [num01]; rfl
theorem itoa1 : Lib.itoa 1 = [49] := by unfold Lib.itoa; rw [if_neg (by decide), Lib.decDigits_one (by decide)]; rfl
theorem itoa2 : Lib.itoa 2 = [50] := by unfold Lib.itoa; rw [if_neg (by decide), Lib.decDigits_one (by decide)]; rfl
theorem itoa40 : Lib.itoa (-40) = [45, 52, 48] := by unfold Lib.itoa; rw [if_pos (by decide), Lib.decDigits_two (by decide) (by decide)]; rfl
theorem nums12 (b : Nat) (w : World) (ht : Tabs w) (hb : b < w.heap.size) (h0 : w.cell? ⟨b, 0, none⟩ = some (.int .i64 1)) (h1 : w.cell? ⟨b, 1, none⟩ = some (.int .i64 2)) :
    Calls Tryd.prog 14 #[.slice (some ⟨b, 0, none⟩) 2 2] w fun e w' => e = .returned (.tuple #[.string ⟨#[40, 49, 59, 50, 59, 41]⟩, .int .i64 0]) ∧ Below w.heap.size w w' := by
  refine (numbers_ok (some ⟨b, 0, none⟩) 2 2 [1, 2] rfl (by decide) (by intro z hz; simp at hz; omega) w ht ?_).mono ?_
  · intro j hj
    refine ⟨b, 0, rfl, hb, ?_⟩
    rcases j with _ | _ | j
    · exact h0
    · exact h1
    · omega
  · rintro e w' ⟨rfl, hb⟩
    refine ⟨?_, hb⟩
    simp [numsBody, itoa1, itoa2]
theorem number40 (w : World) (ht : Tabs w) : Calls Tryd.prog 10 #[.int .i64 (-40)] w fun e w' => e = .returned (.string ⟨#[45, 52, 48, 59]⟩) ∧ Below w.heap.size w w' := by
  refine (number_any (-40) (by decide) (by decide) w ht).mono ?_
  rintro e w' ⟨rfl, hb⟩
  refine ⟨?_, hb⟩
  rw [itoa40]; rfl

set_option maxHeartbeats 400000 in
theorem awake_any (w : World) (ht : Tabs w) : Calls Tryd.prog 9 #[] w fun e w' => e = .returned (.bool true) ∧ Below w.heap.size w w' := by
  go_enter Tryd.func9, Tryd.ntmps9
  go_wp2_with fail
  refine (rd40 _ ht).mono ?_
  rintro e w1 ⟨rfl, hb1⟩
  have ht1 := ht.stays hb1
  go_wp2_with fail
  refine (rd01 _ ht1).mono ?_
  rintro e w2 ⟨rfl, hb2⟩
  have ht2 := ht1.stays hb2
  have HB2 : Hid (Below w.heap.size w w2) := below_two hb1 hb2
  clear hb1 hb2 ht1
  go_wp2_with fail
  have HB3 : Hid (Below w2.heap.size w2 (w2.alloc (.cells #[.int .i64 1, .int .i64 2] 3))) := below_alloc1 w2 _
  refine (nums12 _ _ (ht2.stays HB3.out) (by simp) (by simp) (by simp)).mono ?_
  rintro e w3 ⟨rfl, hb3⟩
  have ht3 : Tabs w3 := (ht2.stays HB3.out).stays hb3
  have HB4 : Hid (Below w.heap.size w w3) := below_two HB2.out (below_two HB3.out hb3)
  clear hb3 HB3 HB2 ht2
  go_wp2_with fail
  refine (number40 _ ht3).mono ?_
  rintro e w4 ⟨rfl, hb4⟩
  have HB5 : Hid (Below w.heap.size w w4) := below_two HB4.out hb4
  clear hb4 HB4
  go_wp2
  go_ret
  exact ⟨rfl, HB5.out⟩

end Go.Proofs.YtldhhbkdhcidcaaDoor
