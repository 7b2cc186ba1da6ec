/-
  What lay.Text and the reference's Text answer, for every text; lay.Texts, for every list of at most 512 texts.
-/
import Derived.Test.YtidlgecognedlaaGreatDoorLlst
namespace Go.Proofs.YtidlgecognedlaaGreatDoor.Lay
open Go.RowKit Go.Joins
set_option maxRecDepth 100000

/-- A text's bytes. -/
def textB (l : List UInt8) : List UInt8 := Lib.decDigits l.length ++ 58 :: l

theorem textB_len (l : List UInt8) (h : l.length ≤ 16384) : (textB l).length ≤ 16410 := by
  unfold textB
  have := nDigits_le20 l.length (by omega)
  rw [List.length_append, Lib.decDigits_length, List.length_cons]; omega

theorem size_list (s : ByteArray) : s.data.toList.length = s.size := by rw [Array.length_toList]; rfl

theorem text_join (s : ByteArray) : (⟨(Lib.decDigits s.size).toArray⟩ : ByteArray) ++ ⟨#[58]⟩ ++ s = ⟨(textB s.data.toList).toArray⟩ := by
  rw [bcat (Lib.decDigits s.size) [58] _ rfl, bcat (Lib.decDigits s.size ++ [58]) s.data.toList s (bytes_eta s).symm]
  unfold textB
  rw [size_list]
  simp

theorem itoa_nat (n : Nat) : Lib.itoa (n : Int) = Lib.decDigits n := by unfold Lib.itoa; rw [if_neg (by omega), Int.toNat_natCast]

set_option maxHeartbeats 400000 in
theorem text_ok (s : ByteArray) (hs : s.size ≤ 16384) (w : World) (ht : Tabs w) :
    Calls Tryz.prog 174 #[.string s] w fun e w' => e = .returned (.tuple #[.string ⟨(textB s.data.toList).toArray⟩, .int .i64 0]) ∧ Below w.heap.size w w' := by
  have hl : (Lib.decDigits s.size).length ≤ 20 := by rw [Lib.decDigits_length]; exact nDigits_le20 _ (by omega)
  have HI : Hid (∀ w : World, Tabs w → Calls Tryz.prog 88 #[.int .i64 (s.size : Int)] w fun e w' => e = .returned (.string ⟨(Lib.decDigits s.size).toArray⟩) ∧ Below w.heap.size w w') := by
    intro w ht
    have := itoa_any (s.size : Int) (by omega) (by omega) w ht
    rwa [itoa_nat] at this
  go_enter Tryz.func174, Tryz.ntmps174
  go_wp2_with fail
  refine (HI.out _ ht).mono ?_
  rintro e w1 ⟨rfl, hb⟩
  go_wp2
  go_ret2
  exact ⟨congrArg (fun x => Ending.returned (.tuple #[Value.string x, .int .i64 0])) (text_join s), hb⟩

set_option maxHeartbeats 400000 in
theorem text_big (s : ByteArray) (hs : 16384 < s.size) (w : World) :
    Calls Tryz.prog 174 #[.string s] w fun e w' => e = .returned (.tuple #[.string ⟨#[]⟩, .int .i64 4]) ∧ w' = w := by
  go_enter Tryz.func174, Tryz.ntmps174
  go_wp2
  go_ret2
  exact ⟨rfl, rfl⟩

/-- The bytes of the items of a list of texts. -/
def textsBody (Xs : List ByteArray) : List UInt8 := (Xs.map fun x => textB x.data.toList).flatten
theorem textsBody_snoc (Xs : List ByteArray) (x : ByteArray) : textsBody (Xs ++ [x]) = textsBody Xs ++ textB x.data.toList := by simp [textsBody]
theorem textsBody_len : ∀ (Xs : List ByteArray), (∀ x ∈ Xs, x.size ≤ 16384) → (textsBody Xs).length ≤ 16410 * Xs.length
  | [], _ => by simp [textsBody]
  | x :: r, h => by
    have h1 := textsBody_len r (fun y hy => h y (by simp [hy]))
    have h2 := textB_len x.data.toList (by rw [size_list]; exact h x (by simp))
    simp only [textsBody, List.map_cons, List.flatten_cons, List.length_append, List.length_cons] at *
    omega

/-- Are all of them small enough? -/
def allSmall (Xs : List ByteArray) : Bool := Xs.all fun x => decide (x.size ≤ 16384)
/-- What is answered: the bytes, the error. -/
def textsOut (Xs : List ByteArray) : List UInt8 := if allSmall Xs then 40 :: textsBody Xs ++ [41] else []
def textsErr (Xs : List ByteArray) : Nat := if allSmall Xs then 0 else 4
theorem textsOut_ok {Xs : List ByteArray} (h : ∀ x ∈ Xs, x.size ≤ 16384) : textsOut Xs = 40 :: textsBody Xs ++ [41] ∧ textsErr Xs = 0 := by
  have : allSmall Xs = true := by unfold allSmall; rw [List.all_eq_true]; intro x hx; simpa using h x hx
  unfold textsOut textsErr; rw [this]; exact ⟨rfl, rfl⟩
theorem textsOut_bad {Xs : List ByteArray} {x : ByteArray} (hx : x ∈ Xs) (h : 16384 < x.size) : textsOut Xs = [] ∧ textsErr Xs = 4 := by
  have : allSmall Xs = false := by unfold allSmall; rw [List.all_eq_false]; exact ⟨x, hx, by simpa using h⟩
  unfold textsOut textsErr; rw [this]; exact ⟨rfl, rfl⟩

set_option maxHeartbeats 400000 in
theorem numbers_big (a : Option Addr) (len cap : Nat) (h512 : 512 < len) (w : World) :
    Calls Tryz.prog 186 #[.slice a len cap] w fun e w' => e = .returned (.tuple #[.string ⟨#[]⟩, .int .i64 4]) ∧ w' = w := by
  have h13 : decide (512 < (len : Int)) = true := by simp; omega
  go_enter Tryz.func186, Tryz.ntmps186
  go_wp2
  go_ret2
  exact ⟨rfl, rfl⟩

end Go.Proofs.YtidlgecognedlaaGreatDoor.Lay
