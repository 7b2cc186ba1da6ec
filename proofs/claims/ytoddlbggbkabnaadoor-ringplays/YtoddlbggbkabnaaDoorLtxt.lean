/-
  What lay.Text and the reference's Text answer, for every text.
-/
import Derived.Test.YtoddlbggbkabnaaDoorLrefn
namespace Go.Proofs.YtoddlbggbkabnaaDoor.Lay
open Go.RowKit Go.Joins
set_option maxRecDepth 100000

/-- A text's bytes. -/
def textB (l : List UInt8) : List UInt8 := Lib.decDigits l.length ++ 58 :: l

theorem textB_len (l : List UInt8) (h : l.length ≤ 16384) : (textB l).length ≤ 16410 := by
  unfold textB
  have := nDigits_le20 l.length (by omega)
  rw [List.length_append, Lib.decDigits_length, List.length_cons]; omega

theorem bytes_eta (s : ByteArray) : (⟨s.data.toList.toArray⟩ : ByteArray) = s := by cases s; simp
theorem size_list (s : ByteArray) : s.data.toList.length = s.size := by rw [Array.length_toList]; rfl

theorem text_join (s : ByteArray) : (⟨(Lib.decDigits s.size).toArray⟩ : ByteArray) ++ ⟨#[58]⟩ ++ s = ⟨(textB s.data.toList).toArray⟩ := by
  rw [bcat (Lib.decDigits s.size) [58] _ rfl, bcat (Lib.decDigits s.size ++ [58]) s.data.toList s (bytes_eta s).symm]
  unfold textB
  rw [size_list]
  simp

theorem itoa_nat (n : Nat) : Lib.itoa (n : Int) = Lib.decDigits n := by unfold Lib.itoa; rw [if_neg (by omega), Int.toNat_natCast]

set_option maxHeartbeats 400000 in
theorem text_ok (s : ByteArray) (hs : s.size ≤ 16384) (w : World) (ht : Tabs w) :
    Calls Tryd.prog 33 #[.string s] w fun e w' => e = .returned (.tuple #[.string ⟨(textB s.data.toList).toArray⟩, .int .i64 0]) ∧ Below w.heap.size w w' := by
  have hl : (Lib.decDigits s.size).length ≤ 20 := by rw [Lib.decDigits_length]; exact nDigits_le20 _ (by omega)
  have HI : Hid (∀ w : World, Tabs w → Calls Tryd.prog 42 #[.int .i64 (s.size : Int)] w fun e w' => e = .returned (.string ⟨(Lib.decDigits s.size).toArray⟩) ∧ Below w.heap.size w w') := by
    intro w ht
    have := itoa_any (s.size : Int) (by omega) (by omega) w ht
    rwa [itoa_nat] at this
  go_enter Tryd.func33, Tryd.ntmps33
  go_wp2_with fail
  refine (HI.out _ ht).mono ?_
  rintro e w1 ⟨rfl, hb⟩
  go_wp2
  go_ret2
  exact ⟨congrArg (fun x => Ending.returned (.tuple #[Value.string x, .int .i64 0])) (text_join s), hb⟩

set_option maxHeartbeats 400000 in
theorem text_big (s : ByteArray) (hs : 16384 < s.size) (w : World) :
    Calls Tryd.prog 33 #[.string s] w fun e w' => e = .returned (.tuple #[.string ⟨#[]⟩, .int .i64 4]) ∧ w' = w := by
  go_enter Tryd.func33, Tryd.ntmps33
  go_wp2
  go_ret2
  exact ⟨rfl, rfl⟩

set_option maxHeartbeats 400000 in
theorem refText_ok (s : ByteArray) (hs : s.size ≤ 16384) (w : World) :
    Calls Tryd.prog 31 #[.string s] w fun e w' => e = .returned (.tuple #[.string ⟨(textB s.data.toList).toArray⟩, .int .i64 0]) ∧ Below w.heap.size w w' := by
  have hl : (Lib.decDigits s.size).length ≤ 20 := by rw [Lib.decDigits_length]; exact nDigits_le20 _ (by omega)
  go_enter Tryd.func31, Tryd.ntmps31
  go_wp2_with fail
  refine (digits_any s.size (by omega) _).mono ?_
  rintro e w1 ⟨rfl, hb⟩
  go_wp2
  go_ret2
  exact ⟨congrArg (fun x => Ending.returned (.tuple #[Value.string x, .int .i64 0])) (text_join s), hb⟩

set_option maxHeartbeats 400000 in
theorem refText_big (s : ByteArray) (hs : 16384 < s.size) (w : World) :
    Calls Tryd.prog 31 #[.string s] w fun e w' => e = .returned (.tuple #[.string ⟨#[]⟩, .int .i64 4]) ∧ w' = w := by
  go_enter Tryd.func31, Tryd.ntmps31
  go_wp2
  go_ret2
  exact ⟨rfl, rfl⟩

def tOut (s : ByteArray) : List UInt8 := if s.size ≤ 16384 then textB s.data.toList else []
def tErr (s : ByteArray) : Nat := if s.size ≤ 16384 then 0 else 4
theorem text12 (s : ByteArray) (w : World) (ht : Tabs w) : Calls Tryd.prog 33 #[.string s] w fun e w' => e = .returned (.tuple #[.string ⟨(tOut s).toArray⟩, .int .i64 (tErr s)]) ∧ Below w.heap.size w w' := by
  unfold tOut tErr
  by_cases h : s.size ≤ 16384
  · rw [if_pos h, if_pos h]; exact text_ok s h w ht
  · rw [if_neg h, if_neg h]
    refine (text_big s (by omega) w).mono ?_
    rintro e w' ⟨rfl, rfl⟩
    exact ⟨rfl, Below.refl _ _⟩
theorem text13 (s : ByteArray) (w : World) : Calls Tryd.prog 31 #[.string s] w fun e w' => e = .returned (.tuple #[.string ⟨(tOut s).toArray⟩, .int .i64 (tErr s)]) ∧ Below w.heap.size w w' := by
  unfold tOut tErr
  by_cases h : s.size ≤ 16384
  · rw [if_pos h, if_pos h]; exact refText_ok s h w
  · rw [if_neg h, if_neg h]
    refine (refText_big s (by omega) w).mono ?_
    rintro e w' ⟨rfl, rfl⟩
    exact ⟨rfl, Below.refl _ _⟩

end Go.Proofs.YtoddlbggbkabnaaDoor.Lay
