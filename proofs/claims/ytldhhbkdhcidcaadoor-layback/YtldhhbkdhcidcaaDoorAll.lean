/-
  Each function of layer 1 that lays, for every argument, in one word; lists that came in, as a walk wants them.
-/
import Derived.Test.YtldhhbkdhcidcaaDoorReft
import Derived.Test.YtldhhbkdhcidcaaDoorAwake
namespace Go.Proofs.YtldhhbkdhcidcaaDoor
open Go.RowKit Go.Joins
set_option maxRecDepth 100000

/-- A slice of ints that can be read. -/
def IntsAt (w : World) (a : Option Addr) (len : Nat) (zs : List Int) : Prop :=
  zs.length = len ∧ (∀ z ∈ zs, -9223372036854775808 ≤ z ∧ z ≤ 9223372036854775807) ∧ ∀ (j : Nat), j < len → ∃ b off, a = some ⟨b, off, none⟩ ∧ b < w.heap.size ∧ w.cell? ⟨b, off + j, none⟩ = some (.int .i64 (zs.getD j 0))
/-- A slice of texts that can be read. -/
def TextsAt (w : World) (a : Option Addr) (len : Nat) (Xs : List ByteArray) : Prop :=
  Xs.length = len ∧ ∀ (j : Nat), j < len → ∃ b off, a = some ⟨b, off, none⟩ ∧ b < w.heap.size ∧ w.cell? ⟨b, off + j, none⟩ = some (.string (Xs.getD j ByteArray.empty))

theorem IntsAt.stays {w w' : World} {a : Option Addr} {len : Nat} {zs : List Int} (h : IntsAt w a len zs) (hb : Below w.heap.size w w') : IntsAt w' a len zs := by
  refine ⟨h.1, h.2.1, fun j hj => ?_⟩
  obtain ⟨b, off, ha, hlt, hc⟩ := h.2.2 j hj
  exact ⟨b, off, ha, Nat.lt_of_lt_of_le hlt hb.size, (hb.cell (p := ⟨b, off + j, none⟩) hlt).trans hc⟩
theorem TextsAt.stays {w w' : World} {a : Option Addr} {len : Nat} {Xs : List ByteArray} (h : TextsAt w a len Xs) (hb : Below w.heap.size w w') : TextsAt w' a len Xs := by
  refine ⟨h.1, fun j hj => ?_⟩
  obtain ⟨b, off, ha, hlt, hc⟩ := h.2 j hj
  exact ⟨b, off, ha, Nat.lt_of_lt_of_le hlt hb.size, (hb.cell (p := ⟨b, off + j, none⟩) hlt).trans hc⟩

def tOut (s : ByteArray) : List UInt8 := if s.size ≤ 16384 then textB s.data.toList else []
def tErr (s : ByteArray) : Nat := if s.size ≤ 16384 then 0 else 4
def nOut (zs : List Int) : List UInt8 := if zs.length ≤ 512 then 40 :: numsBody zs ++ [41] else []
def nErr (zs : List Int) : Nat := if zs.length ≤ 512 then 0 else 4
def xOut (Xs : List ByteArray) : List UInt8 := if Xs.length ≤ 512 then textsOut Xs else []
def xErr (Xs : List ByteArray) : Nat := if Xs.length ≤ 512 then textsErr Xs else 4

theorem text12 (s : ByteArray) (w : World) (ht : Tabs w) : Calls Tryd.prog 12 #[.string s] w fun e w' => e = .returned (.tuple #[.string ⟨(tOut s).toArray⟩, .int .i64 (tErr s)]) ∧ Below w.heap.size w w' := by
  unfold tOut tErr
  by_cases h : s.size ≤ 16384
  · rw [if_pos h, if_pos h]; exact text_ok s h w ht
  · rw [if_neg h, if_neg h]
    refine (text_big s (by omega) w).mono ?_
    rintro e w' ⟨rfl, rfl⟩
    exact ⟨rfl, Below.refl _ _⟩
theorem text13 (s : ByteArray) (w : World) : Calls Tryd.prog 13 #[.string s] w fun e w' => e = .returned (.tuple #[.string ⟨(tOut s).toArray⟩, .int .i64 (tErr s)]) ∧ Below w.heap.size w w' := by
  unfold tOut tErr
  by_cases h : s.size ≤ 16384
  · rw [if_pos h, if_pos h]; exact refText_ok s h w
  · rw [if_neg h, if_neg h]
    refine (refText_big s (by omega) w).mono ?_
    rintro e w' ⟨rfl, rfl⟩
    exact ⟨rfl, Below.refl _ _⟩
theorem numbers14 (a : Option Addr) (len cap : Nat) (zs : List Int) (w : World) (h : IntsAt w a len zs) (ht : Tabs w) : Calls Tryd.prog 14 #[.slice a len cap] w fun e w' => e = .returned (.tuple #[.string ⟨(nOut zs).toArray⟩, .int .i64 (nErr zs)]) ∧ Below w.heap.size w w' := by
  unfold nOut nErr
  rw [h.1]
  by_cases h5 : len ≤ 512
  · rw [if_pos h5, if_pos h5]; exact numbers_ok a len cap zs h.1 h5 h.2.1 w ht h.2.2
  · rw [if_neg h5, if_neg h5]
    refine (numbers_big a len cap (by omega) w).mono ?_
    rintro e w' ⟨rfl, rfl⟩
    exact ⟨rfl, Below.refl _ _⟩
theorem numbers15 (a : Option Addr) (len cap : Nat) (zs : List Int) (w : World) (h : IntsAt w a len zs) : Calls Tryd.prog 15 #[.slice a len cap] w fun e w' => e = .returned (.tuple #[.string ⟨(nOut zs).toArray⟩, .int .i64 (nErr zs)]) ∧ Below w.heap.size w w' := by
  unfold nOut nErr
  rw [h.1]
  by_cases h5 : len ≤ 512
  · rw [if_pos h5, if_pos h5]; exact refNumbers_ok a len cap zs h.1 h5 h.2.1 w h.2.2
  · rw [if_neg h5, if_neg h5]
    refine (refNumbers_big a len cap (by omega) w).mono ?_
    rintro e w' ⟨rfl, rfl⟩
    exact ⟨rfl, Below.refl _ _⟩
theorem texts16 (a : Option Addr) (len cap : Nat) (Xs : List ByteArray) (w : World) (h : TextsAt w a len Xs) (ht : Tabs w) : Calls Tryd.prog 16 #[.slice a len cap] w fun e w' => e = .returned (.tuple #[.string ⟨(xOut Xs).toArray⟩, .int .i64 (xErr Xs)]) ∧ Below w.heap.size w w' := by
  unfold xOut xErr
  rw [h.1]
  by_cases h5 : len ≤ 512
  · rw [if_pos h5, if_pos h5]; exact texts_any a len cap Xs h.1 h5 w ht h.2
  · rw [if_neg h5, if_neg h5]
    refine (texts_big a len cap (by omega) w).mono ?_
    rintro e w' ⟨rfl, rfl⟩
    exact ⟨rfl, Below.refl _ _⟩
theorem texts17 (a : Option Addr) (len cap : Nat) (Xs : List ByteArray) (w : World) (h : TextsAt w a len Xs) : Calls Tryd.prog 17 #[.slice a len cap] w fun e w' => e = .returned (.tuple #[.string ⟨(xOut Xs).toArray⟩, .int .i64 (xErr Xs)]) ∧ Below w.heap.size w w' := by
  unfold xOut xErr
  rw [h.1]
  by_cases h5 : len ≤ 512
  · rw [if_pos h5, if_pos h5]; exact refTexts_any a len cap Xs h.1 h5 w h.2
  · rw [if_neg h5, if_neg h5]
    refine (refTexts_big a len cap (by omega) w).mono ?_
    rintro e w' ⟨rfl, rfl⟩
    exact ⟨rfl, Below.refl _ _⟩

end Go.Proofs.YtldhhbkdhcidcaaDoor
