/-
  Reading, by cases: what is read stands there, laid as lay lays it; or there is an error.
-/
import Derived.Test.YtldhhbkdhcidcaaDoorAll
import Derived.Test.YtldhhbkdhcidcaaDoorRlt
namespace Go.Proofs.YtldhhbkdhcidcaaDoor
open Go.RowKit Go.Joins
set_option maxRecDepth 100000

/-- A text out of its bytes. -/
def mkB (l : List UInt8) : ByteArray := ⟨l.toArray⟩

theorem extract_eq (s : ByteArray) (p c : Nat) (l : List UInt8) (h : (s.data.toList.drop p).take c = l) : s.extract p (p + c) = ⟨l.toArray⟩ := by
  rw [← bytes_eta (s.extract p (p + c)), Lib.extract_data, Nat.add_sub_cancel_left, h]

theorem drop_len (s : ByteArray) (p : Nat) : (s.data.toList.drop p).length = s.size - p := by simp

theorem rn_cases (s : ByteArray) (p : Nat) (h : p ≤ s.size) (hs : s.size ≤ 281474976710656) (w : World) (ht : Tabs w) :
    Calls Tryd.prog 18 #[.string s, .int .i64 p] w fun e w' => ((∃ n c, Hid (readNum (s.data.toList.drop p) = (0, n, c)) ∧ Hid (s.extract p (p + c) = ⟨(Lib.itoa n ++ [59]).toArray⟩) ∧ p + c ≤ s.size ∧ -9223372036854775808 ≤ n ∧ n ≤ 9223372036854775807 ∧ e = .returned (.tuple #[.int .i64 n, .int .i64 ((p + c : Nat) : Int), .int .i64 0])) ∨
      ∃ n en, en ≠ 0 ∧ Hid ((readNum (s.data.toList.drop p)).1 = en) ∧ e = .returned (.tuple #[.int .i64 n, .int .i64 0, .int .i64 ((en : Nat) : Int)])) ∧ Below w.heap.size w w' := by
  refine (readNumber_any s p h hs w ht _ rfl).mono ?_
  rintro e w' ⟨rfl, hb⟩
  refine ⟨?_, hb⟩
  by_cases he : (readNum (s.data.toList.drop p)).1 = 0
  · obtain ⟨n, c, hnc⟩ : ∃ n c, readNum (s.data.toList.drop p) = (0, n, c) := ⟨_, _, triple _ he⟩
    obtain ⟨h1, h2, -, h4, h5⟩ := readNum_once _ _ _ hnc
    rw [drop_len] at h2
    refine .inl ⟨n, c, hnc, extract_eq s p c _ h1, by omega, h4, h5, ?_⟩
    rw [numTo_ok he, hnc]; rfl
  · refine .inr ⟨(readNum (s.data.toList.drop p)).2.1, _, he, rfl, ?_⟩
    rw [numTo_err he]; rfl

theorem rt_cases (s : ByteArray) (p : Nat) (h : p ≤ s.size) (hs : s.size ≤ 281474976710656) (w : World) (ht : Tabs w) :
    Calls Tryd.prog 20 #[.string s, .int .i64 p] w fun e w' => ((∃ (t : List UInt8) (c : Nat), Hid (readTxt (s.data.toList.drop p) = (0, t, c)) ∧ Hid (s.extract p (p + c) = ⟨(textB t).toArray⟩) ∧ p + c ≤ s.size ∧ t.length ≤ 16384 ∧ e = .returned (.tuple #[.string ⟨t.toArray⟩, .int .i64 ((p + c : Nat) : Int), .int .i64 0])) ∨
      ∃ (t : List UInt8) (en : Nat), en ≠ 0 ∧ Hid ((readTxt (s.data.toList.drop p)).1 = en) ∧ e = .returned (.tuple #[.string ⟨t.toArray⟩, .int .i64 0, .int .i64 ((en : Nat) : Int)])) ∧ Below w.heap.size w w' := by
  refine (readText_any s p h hs w ht _ rfl).mono ?_
  rintro e w' ⟨rfl, hb⟩
  refine ⟨?_, hb⟩
  by_cases he : (readTxt (s.data.toList.drop p)).1 = 0
  · obtain ⟨n, c, hnc⟩ : ∃ n c, readTxt (s.data.toList.drop p) = (0, n, c) := ⟨_, _, triple _ he⟩
    obtain ⟨h1, h2, -, h4⟩ := readTxt_once _ _ _ hnc
    rw [drop_len] at h2
    refine .inl ⟨n, c, hnc, extract_eq s p c _ h1, by omega, h4, ?_⟩
    rw [txtTo_ok he, hnc]; rfl
  · refine .inr ⟨(readTxt (s.data.toList.drop p)).2.1, _, he, rfl, ?_⟩
    rw [txtTo_err he]; rfl

theorem ownsF_cell {w : World} {B e n : Nat} {ao : Option Addr} {cp : Nat} {xs : List Value} (h : w.ownsRowF B e 1 (.slice ao n cp) n xs) (j : Nat) (hj : j < n) (v : Value) (hv : xs[j]? = some v) : ∃ b off, ao = some ⟨b, off, none⟩ ∧ b < w.heap.size ∧ w.cell? ⟨b, off + j, none⟩ = some v := by
  rcases h.2 with ⟨_, h0⟩ | ⟨g, cap, cur, fz, hv', hB, hg, -, -, -, hcs, htake⟩
  · omega
  · injection hv' with h1 h2 h3
    subst h1
    refine ⟨g, 0, rfl, (Array.getElem?_eq_some_iff.1 hg).1, ?_⟩
    rw [← htake, List.getElem?_take, if_pos (by omega)] at hv
    rw [Nat.zero_add, cell_of_block hg, ← Array.getElem?_toList]
    exact hv

theorem ints_of_own {w : World} {B : Nat} {ao : Option Addr} {cp : Nat} {xs : List Int} (h : w.ownsRowF B 3 1 (.slice ao xs.length cp) xs.length (intCells xs)) (hx : ∀ z ∈ xs, -9223372036854775808 ≤ z ∧ z ≤ 9223372036854775807) : IntsAt w ao xs.length xs :=
  ⟨rfl, hx, fun j hj => ownsF_cell h j hj _ (by simp [intCells, List.getD, hj])⟩

theorem texts_of_own {w : World} {B : Nat} {ao : Option Addr} {cp : Nat} {xs : List (List UInt8)} (h : w.ownsRowF B 9 1 (.slice ao xs.length cp) xs.length (txtCells xs)) : TextsAt w ao xs.length (xs.map mkB) :=
  ⟨by simp, fun j hj => ownsF_cell h j hj _ (by simp [txtCells, List.getD, hj, mkB])⟩

theorem num_item (r : List UInt8) (x : Int) (c : Nat) (h : readNum r = (0, x, c)) : r.take c = (fun z => Lib.itoa z ++ [59]) x ∧ c ≤ r.length ∧ (-9223372036854775808 ≤ x ∧ x ≤ 9223372036854775807) := by
  obtain ⟨h1, h2, -, h4, h5⟩ := readNum_once r x c h
  exact ⟨h1, h2, h4, h5⟩
theorem txt_item (r : List UInt8) (x : List UInt8) (c : Nat) (h : readTxt r = (0, x, c)) : r.take c = txtB x ∧ c ≤ r.length ∧ x.length ≤ 16384 := by
  obtain ⟨h1, h2, -, h4⟩ := readTxt_once r x c h
  exact ⟨h1, h2, h4⟩

theorem body_txt (xs : List (List UInt8)) : textsBody (xs.map mkB) = bodyOf txtB xs := by
  unfold textsBody bodyOf
  rw [List.map_map]; rfl

theorem rln_cases (s : ByteArray) (p : Nat) (h : p ≤ s.size) (hs : s.size ≤ 281474976710656) (w : World) (ht : Tabs w) :
    Calls Tryd.prog 22 #[.string s, .int .i64 p] w fun e w' => ((∃ (xs : List Int) (c : Nat) (ao : Option Addr) (cp : Nat), Hid (listRes readNum p (s.data.toList.drop p) = (0, xs, p + c)) ∧ Hid (s.extract p (p + c) = ⟨(nOut xs).toArray⟩) ∧ Hid (nErr xs = 0) ∧ p + c ≤ s.size ∧ Hid (IntsAt w' ao xs.length xs) ∧ e = .returned (.tuple #[.slice ao xs.length cp, .int .i64 ((p + c : Nat) : Int), .int .i64 0])) ∨
      ∃ (ao : Option Addr) (cp en : Nat), en ≠ 0 ∧ Hid ((listRes readNum p (s.data.toList.drop p)).1 = en) ∧ e = .returned (.tuple #[.slice ao 0 cp, .int .i64 0, .int .i64 ((en : Nat) : Int)])) ∧ Below w.heap.size w w' := by
  refine (readNumbers_any s p h hs w ht _ rfl).mono ?_
  rintro e w' ⟨v, rfl, ho, hb⟩
  refine ⟨?_, hb⟩
  by_cases he : (listRes readNum p (s.data.toList.drop p)).1 = 0
  · obtain ⟨xs, to, hnc⟩ : ∃ xs to, listRes readNum p (s.data.toList.drop p) = (0, xs, to) := ⟨_, _, triple _ he⟩
    obtain ⟨c, rfl, h1, h2, h3, h4⟩ := list_once readNum (fun z => Lib.itoa z ++ [59]) _ num_item p _ xs to hnc
    rw [drop_len] at h2
    rw [hnc] at ho
    obtain ⟨ao, cp, rfl⟩ := rowF_form ho
    have e1 : nOut xs = 40 :: numsBody xs ++ [41] := by unfold nOut; rw [if_pos h3]
    have e2 : nErr xs = 0 := by unfold nErr; rw [if_pos h3]
    refine .inl ⟨xs, c, ao, cp, hnc, ?_, e2, by omega, ints_of_own ho h4, ?_⟩
    · show s.extract p (p + c) = _
      rw [e1]; exact extract_eq s p c _ h1
    · rw [hnc]; rfl
  · have hl := list_err readNum p (s.data.toList.drop p) he
    rw [hl] at ho
    obtain ⟨ao, cp, rfl⟩ := rowF_form ho
    refine .inr ⟨ao, cp, _, he, rfl, ?_⟩
    rw [hl]; rfl

theorem rlt_cases (s : ByteArray) (p : Nat) (h : p ≤ s.size) (hs : s.size ≤ 281474976710656) (w : World) (ht : Tabs w) :
    Calls Tryd.prog 25 #[.string s, .int .i64 p] w fun e w' => ((∃ (Xs : List ByteArray) (xs : List (List UInt8)) (c : Nat) (ao : Option Addr) (cp : Nat), Hid (listRes readTxt p (s.data.toList.drop p) = (0, xs, p + c)) ∧ Hid (Xs = xs.map mkB) ∧ Hid (s.extract p (p + c) = ⟨(xOut Xs).toArray⟩) ∧ Hid (xErr Xs = 0) ∧ p + c ≤ s.size ∧ Hid (TextsAt w' ao Xs.length Xs) ∧ e = .returned (.tuple #[.slice ao Xs.length cp, .int .i64 ((p + c : Nat) : Int), .int .i64 0])) ∨
      ∃ (ao : Option Addr) (cp en : Nat), en ≠ 0 ∧ Hid ((listRes readTxt p (s.data.toList.drop p)).1 = en) ∧ e = .returned (.tuple #[.slice ao 0 cp, .int .i64 0, .int .i64 ((en : Nat) : Int)])) ∧ Below w.heap.size w w' := by
  refine (readTexts_any s p h hs w ht _ rfl).mono ?_
  rintro e w' ⟨v, rfl, ho, hb⟩
  refine ⟨?_, hb⟩
  by_cases he : (listRes readTxt p (s.data.toList.drop p)).1 = 0
  · obtain ⟨xs, to, hnc⟩ : ∃ xs to, listRes readTxt p (s.data.toList.drop p) = (0, xs, to) := ⟨_, _, triple _ he⟩
    obtain ⟨c, rfl, h1, h2, h3, h4⟩ := list_once readTxt txtB _ txt_item p _ xs to hnc
    rw [drop_len] at h2
    rw [hnc] at ho
    obtain ⟨ao, cp, rfl⟩ := rowF_form ho
    have hsm : ∀ x ∈ (xs.map mkB), x.size ≤ 16384 := by
      intro x hx
      obtain ⟨l, hl, rfl⟩ := List.mem_map.1 hx
      exact h4 l hl
    obtain ⟨o1, o2⟩ := textsOut_ok hsm
    have e1 : xOut (xs.map mkB) = 40 :: bodyOf txtB xs ++ [41] := by unfold xOut; rw [if_pos (by simpa using h3), o1, body_txt]
    have e2 : xErr (xs.map mkB) = 0 := by unfold xErr; rw [if_pos (by simpa using h3), o2]
    refine .inl ⟨xs.map mkB, xs, c, ao, cp, hnc, (rfl : xs.map mkB = xs.map mkB), ?_, e2, by omega, ?_, ?_⟩
    · show s.extract p (p + c) = _
      rw [e1]; exact extract_eq s p c _ h1
    · show TextsAt _ _ _ _
      rw [List.length_map]; exact texts_of_own ho
    · rw [hnc, List.length_map]; rfl
  · have hl := list_err readTxt p (s.data.toList.drop p) he
    rw [hl] at ho
    obtain ⟨ao, cp, rfl⟩ := rowF_form ho
    refine .inr ⟨ao, cp, _, he, rfl, ?_⟩
    rw [hl]; rfl

end Go.Proofs.YtldhhbkdhcidcaaDoor
