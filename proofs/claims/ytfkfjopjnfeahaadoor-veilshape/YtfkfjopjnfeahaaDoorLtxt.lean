/-
  What lay.Text and the reference's Text answer, for every text.
-/
import Derived.Test.YtfkfjopjnfeahaaDoorLrefn
namespace Go.Proofs.YtfkfjopjnfeahaaDoor.Lay
open Go.RowKit Go.Joins
set_option maxRecDepth 100000

/-- A text's bytes. -/
def textB (l : List UInt8) : List UInt8 := Lib.decDigits l.length ++ 58 :: l

theorem textB_len (l : List UInt8) (h : l.length ≤ 16384) : (textB l).length ≤ 16410 := by
  unfold textB
  have := nDigits_le20 l.length (by omega)
  rw [List.length_append, Lib.decDigits_length, List.length_cons]; omega

theorem bytes_eta (s : ByteArray) : (⟨s.data.toList.toArray⟩ : ByteArray) = s := by cases s; simp
theorem size_list (s : ByteArray) : s.data.toList.length = s.size := by rw [Array.length_toList]; rfl

theorem text_join (s : ByteArray) : (⟨(Lib.decDigits s.size).toArray⟩ : ByteArray) ++ ⟨#[58]⟩ ++ s = ⟨(textB s.data.toList).toArray⟩ := by
  rw [bcat (Lib.decDigits s.size) [58] _ rfl, bcat (Lib.decDigits s.size ++ [58]) s.data.toList s (bytes_eta s).symm]
  unfold textB
  rw [size_list]
  simp

theorem itoa_nat (n : Nat) : Lib.itoa (n : Int) = Lib.decDigits n := by unfold Lib.itoa; rw [if_neg (by omega), Int.toNat_natCast]

def tOut (s : ByteArray) : List UInt8 := if s.size ≤ 16384 then textB s.data.toList else []
def tErr (s : ByteArray) : Nat := if s.size ≤ 16384 then 0 else 4
end Go.Proofs.YtfkfjopjnfeahaaDoor.Lay
