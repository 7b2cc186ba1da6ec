/-
  What lay.Text and the reference's Text answer, for every text; lay.Texts, for every list of at most 512 texts.
-/
import Derived.Test.YtldhhbkdhcidcaaDoorList
namespace Go.Proofs.YtldhhbkdhcidcaaDoor
open Go.RowKit Go.Joins
set_option maxRecDepth 100000

/-- A text's bytes. -/
def textB (l : List UInt8) : List UInt8 := Lib.decDigits l.length ++ 58 :: l

theorem textB_len (l : List UInt8) (h : l.length ≤ 16384) : (textB l).length ≤ 16410 := by
  unfold textB
  have := nDigits_le20 l.length (by omega)
  rw [List.length_append, Lib.decDigits_length, List.length_cons]; omega

theorem size_list (s : ByteArray) : s.data.toList.length = s.size := by rw [Array.length_toList]; rfl

theorem text_join (s : ByteArray) : (⟨(Lib.decDigits s.size).toArray⟩ : ByteArray) ++ ⟨#[58]⟩ ++ s = ⟨(textB s.data.toList).toArray⟩ := by
  rw [bcat (Lib.decDigits s.size) [58] _ rfl, bcat (Lib.decDigits s.size ++ [58]) s.data.toList s (bytes_eta s).symm]
  unfold textB
  rw [size_list]
  simp

theorem itoa_nat (n : Nat) : Lib.itoa (n : Int) = Lib.decDigits n := by unfold Lib.itoa; rw [if_neg (by omega), Int.toNat_natCast]

set_option maxHeartbeats 400000 in
theorem text_ok (s : ByteArray) (hs : s.size ≤ 16384) (w : World) (ht : Tabs w) :
    Calls Tryd.prog 12 #[.string s] w fun e w' => e = .returned (.tuple #[.string ⟨(textB s.data.toList).toArray⟩, .int .i64 0]) ∧ Below w.heap.size w w' := by
  have hl : (Lib.decDigits s.size).length ≤ 20 := by rw [Lib.decDigits_length]; exact nDigits_le20 _ (by omega)
  have HI : Hid (∀ w : World, Tabs w → Calls Tryd.prog 29 #[.int .i64 (s.size : Int)] w fun e w' => e = .returned (.string ⟨(Lib.decDigits s.size).toArray⟩) ∧ Below w.heap.size w w') := by
    intro w ht
    have := itoa_any (s.size : Int) (by omega) (by omega) w ht
    rwa [itoa_nat] at this
  go_enter Tryd.func12, Tryd.ntmps12
  go_wp2_with fail
  refine (HI.out _ ht).mono ?_
  rintro e w1 ⟨rfl, hb⟩
  go_wp2
  go_ret2
  exact ⟨congrArg (fun x => Ending.returned (.tuple #[Value.string x, .int .i64 0])) (text_join s), hb⟩

set_option maxHeartbeats 400000 in
theorem text_big (s : ByteArray) (hs : 16384 < s.size) (w : World) :
    Calls Tryd.prog 12 #[.string s] w fun e w' => e = .returned (.tuple #[.string ⟨#[]⟩, .int .i64 4]) ∧ w' = w := by
  go_enter Tryd.func12, Tryd.ntmps12
  go_wp2
  go_ret2
  exact ⟨rfl, rfl⟩

set_option maxHeartbeats 400000 in
theorem refText_ok (s : ByteArray) (hs : s.size ≤ 16384) (w : World) :
    Calls Tryd.prog 13 #[.string s] w fun e w' => e = .returned (.tuple #[.string ⟨(textB s.data.toList).toArray⟩, .int .i64 0]) ∧ Below w.heap.size w w' := by
  have hl : (Lib.decDigits s.size).length ≤ 20 := by rw [Lib.decDigits_length]; exact nDigits_le20 _ (by omega)
  go_enter Tryd.func13, Tryd.ntmps13
  go_wp2_with fail
  refine (digits_any s.size (by omega) _).mono ?_
  rintro e w1 ⟨rfl, hb⟩
  go_wp2
  go_ret2
  exact ⟨congrArg (fun x => Ending.returned (.tuple #[Value.string x, .int .i64 0])) (text_join s), hb⟩

set_option maxHeartbeats 400000 in
theorem refText_big (s : ByteArray) (hs : 16384 < s.size) (w : World) :
    Calls Tryd.prog 13 #[.string s] w fun e w' => e = .returned (.tuple #[.string ⟨#[]⟩, .int .i64 4]) ∧ w' = w := by
  go_enter Tryd.func13, Tryd.ntmps13
  go_wp2
  go_ret2
  exact ⟨rfl, rfl⟩

/-- The bytes of the items of a list of texts. -/
def textsBody (Xs : List ByteArray) : List UInt8 := (Xs.map fun x => textB x.data.toList).flatten
theorem textsBody_snoc (Xs : List ByteArray) (x : ByteArray) : textsBody (Xs ++ [x]) = textsBody Xs ++ textB x.data.toList := by simp [textsBody]
theorem textsBody_len : ∀ (Xs : List ByteArray), (∀ x ∈ Xs, x.size ≤ 16384) → (textsBody Xs).length ≤ 16410 * Xs.length
  | [], _ => by simp [textsBody]
  | x :: r, h => by
    have h1 := textsBody_len r (fun y hy => h y (by simp [hy]))
    have h2 := textB_len x.data.toList (by rw [size_list]; exact h x (by simp))
    simp only [textsBody, List.map_cons, List.flatten_cons, List.length_append, List.length_cons] at *
    omega

/-- Are all of them small enough? -/
def allSmall (Xs : List ByteArray) : Bool := Xs.all fun x => decide (x.size ≤ 16384)
/-- What is answered: the bytes, the error. -/
def textsOut (Xs : List ByteArray) : List UInt8 := if allSmall Xs then 40 :: textsBody Xs ++ [41] else []
def textsErr (Xs : List ByteArray) : Nat := if allSmall Xs then 0 else 4
theorem textsOut_ok {Xs : List ByteArray} (h : ∀ x ∈ Xs, x.size ≤ 16384) : textsOut Xs = 40 :: textsBody Xs ++ [41] ∧ textsErr Xs = 0 := by
  have : allSmall Xs = true := by unfold allSmall; rw [List.all_eq_true]; intro x hx; simpa using h x hx
  unfold textsOut textsErr; rw [this]; exact ⟨rfl, rfl⟩
theorem textsOut_bad {Xs : List ByteArray} {x : ByteArray} (hx : x ∈ Xs) (h : 16384 < x.size) : textsOut Xs = [] ∧ textsErr Xs = 4 := by
  have : allSmall Xs = false := by unfold allSmall; rw [List.all_eq_false]; exact ⟨x, hx, by simpa using h⟩
  unfold textsOut textsErr; rw [this]; exact ⟨rfl, rfl⟩

set_option maxHeartbeats 400000 in
theorem list33 (a : Option Addr) (len cap : Nat) (Xs : List ByteArray) (hlen : Xs.length = len) (h512 : len ≤ 512) (w : World) (ht : Tabs w)
    (hcell : ∀ (j : Nat), j < len → ∃ b off, a = some ⟨b, off, none⟩ ∧ b < w.heap.size ∧ w.cell? ⟨b, off + j, none⟩ = some (.string (Xs.getD j ByteArray.empty))) :
    Calls Tryd.prog 33 #[.slice a len cap, .func (.func 12) #[] #[]] w fun e w' => e = .returned (.tuple #[.string ⟨(textsOut Xs).toArray⟩, .int .i64 (textsErr Xs)]) ∧ Below w.heap.size w w' := by
  have HF : Hid (Lib.IsBuilderF 71 5 w.heap.size w.heap.size [] (w.alloc (.cells #[.pointer none, .slice none 0 0] 71))) := Lib.IsBuilderF.of (Lib.fresh_isBuilder 71 5 w)
  have h13 : decide (512 < (len : Int)) = false := by simp; omega
  go_enter Tryd.func33, Tryd.ntmps33
  go_wp2_with fail
  refine (write_byte w.heap.size w.heap.size [] 40 _ HF.out (by simp) (by simp)).mono ?_
  rintro e w1 ⟨rfl, h1, hb1, -⟩
  have HB1 : Hid (Below w.heap.size w w1) := (below_alloc1 w _).trans hb1
  have H1 : Hid (Lib.IsBuilderF 71 5 w.heap.size w.heap.size (Lib.byteCells (40 :: textsBody (Xs.take 0))) w1) := Or.inr h1
  clear h1 hb1
  go_wp2
  go_loopw [17] (fun i w' => ∃ k : Nat, k ≤ len ∧ i = .int .i64 k ∧ Hid (∀ x ∈ Xs.take k, x.size ≤ 16384) ∧ Hid (Lib.IsBuilderF 71 5 w.heap.size w.heap.size (Lib.byteCells (40 :: textsBody (Xs.take k))) w') ∧ Hid (Below w.heap.size w w')) (fun i _ => len - (intOf i).toNat)
  case atStart => exact ⟨0, Nat.zero_le _, rfl, by intro x hx; simp at hx, H1, HB1⟩
  case round =>
    obtain ⟨k, hk, rfl, HSm, HI, HB⟩ := hrel
    clear H1 HB1 HF
    have hsz := HB.out.size
    have htr : Tabs wr := ht.stays HB.out
    have hlk := textsBody_len (Xs.take k) HSm.out
    have hlt' : (Xs.take k).length ≤ 512 := by rw [List.length_take]; omega
    by_cases hlt : k < len
    · obtain ⟨b, off, rfl, hbs, hc⟩ := hcell k hlt
      have HM : Hid (Xs.getD k ByteArray.empty ∈ Xs) := by show _ ∈ _; rw [getD_at _ _ _ (by omega)]; exact List.getElem_mem _
      have HT : Hid (Xs.take (k + 1) = Xs.take k ++ [Xs.getD k ByteArray.empty]) := take_snoc Xs _ k (by omega)
      generalize Xs.getD k ByteArray.empty = z at *
      have hcr : wr.cell? ⟨b, off + k, none⟩ = some (.string z) := (HB.out.cell hbs).trans hc
      clear hc hcell
      by_cases hzs : z.size ≤ 16384
      · have htl := textB_len z.data.toList (by rw [size_list]; exact hzs)
        go_wp2_with fail
        refine (text_ok z hzs _ htr).mono ?_
        rintro e w2 ⟨rfl, hb2⟩
        have HI2 : Hid (Lib.IsBuilderF 71 5 w.heap.size w.heap.size (Lib.byteCells (40 :: textsBody (Xs.take k))) w2) := isF_below HI.out hb2
        have HB2 : Hid (Below w.heap.size w w2) := below_two HB.out hb2
        have hsz2 : w.heap.size ≤ w2.heap.size := HB2.out.size
        clear hb2 HI HB hcr htr
        go_wp2_with fail
        refine (write_string w.heap.size w.heap.size _ _ _ HI2.out (by simp [Lib.byteCells, ByteArray.size]; omega) hsz2).mono ?_
        rintro e w3 ⟨rfl, h3, hb3, -⟩
        have H3 : Hid (Lib.IsBuilderF 71 5 w.heap.size w.heap.size (Lib.byteCells (40 :: textsBody (Xs.take (k + 1)))) w3) := by
          refine Or.inr ?_
          rw [HT.out, textsBody_snoc]
          simpa [Lib.byteCells, Lib.strCells] using h3
        have HB3 : Hid (Below w.heap.size w w3) := HB2.out.trans hb3
        have HS3 : Hid (∀ x ∈ Xs.take (k + 1), x.size ≤ 16384) := by
          show ∀ x ∈ _, _
          rw [HT.out]
          intro x hx
          rcases List.mem_append.1 hx with h | h
          · exact HSm.out x h
          · rw [List.mem_singleton.1 h]; exact hzs
        clear h3 hb3 HI2 HB2 HT hsz2 HSm
        go_wp2
        go_roundw
        case rel => exact ⟨k + 1, by omega, by go_num, HS3, H3, HB3⟩
        case measure => simp [intOf]; omega
      · have HO : Hid (textsOut Xs = [] ∧ textsErr Xs = 4) := textsOut_bad HM.out (by omega)
        go_wp2_with fail
        refine (text_big z (by omega) _).mono ?_
        rintro e w2 ⟨rfl, hw⟩
        subst hw
        go_wp2
        go_ret2
        rw [HO.out.1, HO.out.2]
        exact ⟨rfl, HB.out⟩
    · have hkl : k = len := by omega
      have HK : Hid (Xs.take k = Xs) := by show _ = _; rw [hkl, ← hlen, List.take_length]
      have HO : Hid (textsOut Xs = 40 :: textsBody Xs ++ [41] ∧ textsErr Xs = 0) := textsOut_ok (by rw [← HK.out]; exact HSm.out)
      clear hkl hcell
      go_wp2_with fail
      refine (write_byte w.heap.size w.heap.size _ 41 _ HI.out (by simp [Lib.byteCells]; omega) hsz).mono ?_
      rintro e w2 ⟨rfl, h2, hb2, -⟩
      have H2 : Hid (Lib.IsBuilderF 71 5 w.heap.size w.heap.size (Lib.byteCells (40 :: textsBody Xs ++ [41])) w2) := by
        refine Or.inr ?_
        rw [HK.out] at h2
        simpa [Lib.byteCells] using h2
      have HB2 : Hid (Below w.heap.size w w2) := HB.out.trans hb2
      have hsz2 : w.heap.size ≤ w2.heap.size := HB2.out.size
      clear h2 hb2 HI HB
      go_wp2_with fail
      refine (Tryd.Builder_String_any_k w.heap.size w.heap.size (40 :: textsBody Xs ++ [41]) _ H2.out hsz2).mono ?_
      rintro e w3 ⟨rfl, h3, hb3, -⟩
      have HB3 : Hid (Below w.heap.size w w3) := HB2.out.trans hb3
      clear h3 hb3
      go_wp2
      go_ret2
      rw [HO.out.1, HO.out.2]
      exact ⟨rfl, HB3.out⟩

set_option maxHeartbeats 400000 in
theorem texts_any (a : Option Addr) (len cap : Nat) (Xs : List ByteArray) (hlen : Xs.length = len) (h512 : len ≤ 512) (w : World) (ht : Tabs w)
    (hcell : ∀ (j : Nat), j < len → ∃ b off, a = some ⟨b, off, none⟩ ∧ b < w.heap.size ∧ w.cell? ⟨b, off + j, none⟩ = some (.string (Xs.getD j ByteArray.empty))) :
    Calls Tryd.prog 16 #[.slice a len cap] w fun e w' => e = .returned (.tuple #[.string ⟨(textsOut Xs).toArray⟩, .int .i64 (textsErr Xs)]) ∧ Below w.heap.size w w' := by
  have H := list33 a len cap Xs hlen h512 w ht hcell
  have HH : Hid (Calls Tryd.prog 33 #[.slice a len cap, .func (.func 12) #[] #[]] w fun e w' => e = .returned (.tuple #[.string ⟨(textsOut Xs).toArray⟩, .int .i64 (textsErr Xs)]) ∧ Below w.heap.size w w') := H
  clear H hcell ht
  go_enter Tryd.func16, Tryd.ntmps16
  go_wp2_with fail
  refine HH.out.mono ?_
  rintro e w' ⟨rfl, hb⟩
  go_wp2
  go_ret2
  exact ⟨rfl, hb⟩

set_option maxHeartbeats 400000 in
theorem texts_big (a : Option Addr) (len cap : Nat) (h512 : 512 < len) (w : World) :
    Calls Tryd.prog 16 #[.slice a len cap] w fun e w' => e = .returned (.tuple #[.string ⟨#[]⟩, .int .i64 4]) ∧ w' = w := by
  have h13 : decide (512 < (len : Int)) = true := by simp; omega
  go_enter Tryd.func16, Tryd.ntmps16
  go_wp2
  go_ret2
  exact ⟨rfl, rfl⟩

set_option maxHeartbeats 400000 in
theorem numbers_big (a : Option Addr) (len cap : Nat) (h512 : 512 < len) (w : World) :
    Calls Tryd.prog 14 #[.slice a len cap] w fun e w' => e = .returned (.tuple #[.string ⟨#[]⟩, .int .i64 4]) ∧ w' = w := by
  have h13 : decide (512 < (len : Int)) = true := by simp; omega
  go_enter Tryd.func14, Tryd.ntmps14
  go_wp2
  go_ret2
  exact ⟨rfl, rfl⟩

end Go.Proofs.YtldhhbkdhcidcaaDoor
