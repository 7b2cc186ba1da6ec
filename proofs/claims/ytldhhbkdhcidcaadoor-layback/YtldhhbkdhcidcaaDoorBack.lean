/-
  What was laid is read as it was, whatever stands ahead of it and behind; lists that are alike are told to be.
-/
import Derived.Test.YtldhhbkdhcidcaaDoorWapart
import Derived.Deep.QuietTactic
import Derived.BigQuiet
namespace Go.Proofs.YtldhhbkdhcidcaaDoor
open Go.RowKit Go.Joins
set_option maxRecDepth 100000

theorem mid_drop (A B : ByteArray) (l : List UInt8) : (A ++ ⟨l.toArray⟩ ++ B).data.toList.drop A.size = l ++ B.data.toList := by
  rw [data_append, data_append, List.append_assoc, List.drop_left' (size_list A)]
theorem mid_size (A B : ByteArray) (l : List UInt8) : (A ++ ⟨l.toArray⟩ ++ B).size = A.size + l.length + B.size := by
  rw [← size_list, data_append, data_append, List.length_append, List.length_append, size_list A, size_list B]

theorem rn_back (A B : ByteArray) (N : Int) (h0 : -9223372036854775808 ≤ N) (h1 : N ≤ 9223372036854775807) (hA : A.size ≤ 5000) (hB : B.size ≤ 5000) (w : World) (ht : Tabs w) :
    Calls Tryd.prog 18 #[.string (A ++ ⟨(Lib.itoa N ++ [59]).toArray⟩ ++ B), .int .i64 A.size] w fun e w' => e = .returned (.tuple #[.int .i64 N, .int .i64 ((A.size + (Lib.itoa N ++ [59]).length : Nat) : Int), .int .i64 0]) ∧ Below w.heap.size w w' := by
  have hl := itoa_len N h0 h1
  have hsz := mid_size A B (Lib.itoa N ++ [59])
  rw [List.length_append] at hsz
  have e0 : readNum ((Lib.itoa N ++ [59]) ++ B.data.toList) = (0, N, (Lib.itoa N).length + 1) := by
    rw [List.append_assoc]; exact readNum_back N h0 h1 _
  refine (readNumber_any _ A.size (by rw [hsz]; omega) (by rw [hsz]; simp; omega) w ht _ (mid_drop A B _)).mono ?_
  rintro e w' ⟨rfl, hb⟩
  rw [numTo_ok (by rw [e0]), e0, List.length_append]
  exact ⟨rfl, hb⟩

theorem rt_back (A B S : ByteArray) (hS : S.size ≤ 16384) (hA : A.size ≤ 5000) (hB : B.size ≤ 5000) (w : World) (ht : Tabs w) :
    Calls Tryd.prog 20 #[.string (A ++ ⟨(textB S.data.toList).toArray⟩ ++ B), .int .i64 A.size] w fun e w' => e = .returned (.tuple #[.string S, .int .i64 ((A.size + (textB S.data.toList).length : Nat) : Int), .int .i64 0]) ∧ Below w.heap.size w w' := by
  have hS' : S.data.toList.length ≤ 16384 := by rw [size_list]; exact hS
  have hl := textB_len S.data.toList hS'
  have hsz := mid_size A B (textB S.data.toList)
  have e0 : readTxt (textB S.data.toList ++ B.data.toList) = (0, S.data.toList, (textB S.data.toList).length) := readTxt_back S.data.toList hS' _
  refine (readText_any _ A.size (by rw [hsz]; omega) (by rw [hsz]; omega) w ht _ (mid_drop A B _)).mono ?_
  rintro e w' ⟨rfl, hb⟩
  rw [txtTo_ok (by rw [e0]), e0]
  exact ⟨by rw [bytes_eta]; rfl, hb⟩

theorem num_open (n : Int) : closeB (Lib.itoa n ++ [59]) = false ∧ Lib.itoa n ++ [59] ≠ [] := by
  refine ⟨?_, by simp⟩
  unfold Lib.itoa
  split
  · rfl
  · have h := (txtB_open (List.replicate n.toNat 0)).1
    unfold txtB at h
    rw [List.length_replicate] at h
    have hne := dec_ne n.toNat
    cases hl : Lib.decDigits n.toNat with
    | nil => exact absurd hl hne
    | cons c l => rw [hl] at h; simpa [closeB] using h

theorem nums_back (zs : List Int) (hok : ∀ z ∈ zs, -9223372036854775808 ≤ z ∧ z ≤ 9223372036854775807) (hc : zs.length ≤ 512) (p : Nat) (rest : List UInt8) : listRes readNum p (40 :: numsBody zs ++ 41 :: rest) = (0, zs, p + ((numsBody zs).length + 2)) :=
  list_back readNum (fun z => Lib.itoa z ++ [59]) (fun z => -9223372036854775808 ≤ z ∧ z ≤ 9223372036854775807) (fun x hx rest => by
    have := readNum_back x hx.1 hx.2 rest
    rw [List.append_assoc, List.length_append]; exact this) (fun x _ => num_open x) zs hok hc p rest

theorem rln_back (A B : ByteArray) (zs : List Int) (hok : ∀ z ∈ zs, -9223372036854775808 ≤ z ∧ z ≤ 9223372036854775807) (hc : zs.length ≤ 512) (hA : A.size ≤ 5000) (hB : B.size ≤ 5000) (w : World) (ht : Tabs w) :
    Calls Tryd.prog 22 #[.string (A ++ ⟨(nOut zs).toArray⟩ ++ B), .int .i64 A.size] w fun e w' => ∃ ao cp, e = .returned (.tuple #[.slice ao zs.length cp, .int .i64 ((A.size + (nOut zs).length : Nat) : Int), .int .i64 0]) ∧ IntsAt w' ao zs.length zs ∧ Below w.heap.size w w' := by
  have e1 : nOut zs = 40 :: numsBody zs ++ [41] := by unfold nOut; rw [if_pos hc]
  have hl := numsBody_len zs hok
  have hll : (nOut zs).length = (numsBody zs).length + 2 := by rw [e1]; simp
  have hsz := mid_size A B (nOut zs)
  have e0 : listRes readNum A.size (nOut zs ++ B.data.toList) = (0, zs, A.size + ((numsBody zs).length + 2)) := by
    rw [e1, List.append_assoc]; exact nums_back zs hok hc _ _
  refine (readNumbers_any _ A.size (by rw [hsz]; omega) (by rw [hsz]; omega) w ht _ (mid_drop A B _)).mono ?_
  rintro e w' ⟨v, rfl, ho, hb⟩
  rw [e0] at ho
  obtain ⟨ao, cp, rfl⟩ := rowF_form ho
  refine ⟨ao, cp, ?_, ints_of_own ho hok, hb⟩
  rw [e0, hll]; rfl

theorem mk_data (x : ByteArray) : mkB x.data.toList = x := bytes_eta x
theorem mk_all (Xs : List ByteArray) : (Xs.map fun x => x.data.toList).map mkB = Xs := by
  rw [List.map_map]
  conv => rhs; rw [← List.map_id Xs]
  exact List.map_congr_left fun x _ => mk_data x

theorem rlt_back (A B : ByteArray) (Xs : List ByteArray) (hok : ∀ x ∈ Xs, x.size ≤ 16384) (hc : Xs.length ≤ 512) (hA : A.size ≤ 5000) (hB : B.size ≤ 5000) (w : World) (ht : Tabs w) :
    Calls Tryd.prog 25 #[.string (A ++ ⟨(xOut Xs).toArray⟩ ++ B), .int .i64 A.size] w fun e w' => ∃ ao cp, e = .returned (.tuple #[.slice ao Xs.length cp, .int .i64 ((A.size + (xOut Xs).length : Nat) : Int), .int .i64 0]) ∧ TextsAt w' ao Xs.length Xs ∧ Below w.heap.size w w' := by
  have hmk := mk_all Xs
  have hb0 := body_txt (Xs.map fun x => x.data.toList)
  rw [hmk] at hb0
  have e1 : xOut Xs = 40 :: textsBody Xs ++ [41] := by unfold xOut; rw [if_pos hc, (textsOut_ok hok).1]
  have hl := textsBody_len Xs hok
  have hll : (xOut Xs).length = (textsBody Xs).length + 2 := by rw [e1]; simp
  have hsz := mid_size A B (xOut Xs)
  have hok2 : ∀ x ∈ (Xs.map fun x => x.data.toList), x.length ≤ 16384 := by
    intro x hx
    obtain ⟨y, hy, rfl⟩ := List.mem_map.1 hx
    rw [size_list]; exact hok y hy
  have e0 : listRes readTxt A.size (xOut Xs ++ B.data.toList) = (0, Xs.map fun x => x.data.toList, A.size + ((textsBody Xs).length + 2)) := by
    rw [e1, List.append_assoc, hb0]; exact txts_back _ hok2 (by simpa using hc) _ _
  refine (readTexts_any _ A.size (by rw [hsz]; omega) (by rw [hsz]; omega) w ht _ (mid_drop A B _)).mono ?_
  rintro e w' ⟨v, rfl, ho, hb⟩
  rw [e0] at ho
  obtain ⟨ao, cp, rfl⟩ := rowF_form ho
  refine ⟨ao, cp, ?_, ?_, hb⟩
  · rw [e0, hll, List.length_map]; rfl
  · have := texts_of_own ho
    rw [hmk, List.length_map] at this
    exact this

set_option maxHeartbeats 400000 in
theorem ints_same (a b : Option Addr) (len ca cb : Nat) (zs : List Int) (w : World) (h1 : IntsAt w a len zs) (h2 : IntsAt w b len zs) (hm : len ≤ 512) :
    Calls Tryd.prog 24 #[.slice a len ca, .slice b len cb] w fun e w' => e = .returned (.bool true) ∧ Below w.heap.size w w' := by
  have h3 := h1.2.2
  have h4 := h2.2.2
  clear h1 h2
  go_enter Tryd.func24, Tryd.ntmps24
  go_wp2
  go_loopw [5] (fun i w' => ∃ k n : Nat, k ≤ len ∧ i = .int .i64 k ∧ w' = w.drewN n) (fun i _ => len - (intOf i).toNat)
  case atStart => exact ⟨0, 0, Nat.zero_le _, rfl, by simp [World.drewN_zero]⟩
  case round =>
    obtain ⟨k, n, hk, rfl, rfl⟩ := hrel
    by_cases hlt : k < len
    · obtain ⟨b1, o1, rfl, -, c1⟩ := h3 k hlt
      obtain ⟨b2, o2, rfl, -, c2⟩ := h4 k hlt
      clear h3 h4
      generalize zs.getD k 0 = z at *
      go_wp2
      go_quiet (fail)
      go_wp2
      go_roundw
      case rel => exact ⟨k + 1, n + nq, by omega, by go_num, by first | rfl | (rw [World.drewN_drewN])⟩
      case measure => simp [intOf]; omega
    · clear h3 h4
      go_wp2
      go_ret
      exact ⟨rfl, below_draws _ w n⟩
set_option maxHeartbeats 400000 in
theorem texts_same (a b : Option Addr) (len ca cb : Nat) (zs : List ByteArray) (w : World) (h1 : TextsAt w a len zs) (h2 : TextsAt w b len zs) (hm : len ≤ 512) :
    Calls Tryd.prog 27 #[.slice a len ca, .slice b len cb] w fun e w' => e = .returned (.bool true) ∧ Below w.heap.size w w' := by
  have h3 := h1.2
  have h4 := h2.2
  clear h1 h2
  go_enter Tryd.func27, Tryd.ntmps27
  go_wp2
  go_loopw [5] (fun i w' => ∃ k n : Nat, k ≤ len ∧ i = .int .i64 k ∧ w' = w.drewN n) (fun i _ => len - (intOf i).toNat)
  case atStart => exact ⟨0, 0, Nat.zero_le _, rfl, by simp [World.drewN_zero]⟩
  case round =>
    obtain ⟨k, n, hk, rfl, rfl⟩ := hrel
    by_cases hlt : k < len
    · obtain ⟨b1, o1, rfl, -, c1⟩ := h3 k hlt
      obtain ⟨b2, o2, rfl, -, c2⟩ := h4 k hlt
      clear h3 h4
      generalize zs.getD k ByteArray.empty = z at *
      go_wp2
      go_quiet (fail)
      go_wp2
      go_roundw
      case rel => exact ⟨k + 1, n + nq, by omega, by go_num, by first | rfl | (rw [World.drewN_drewN])⟩
      case measure => simp [intOf]; omega
    · clear h3 h4
      go_wp2
      go_ret
      exact ⟨rfl, below_draws _ w n⟩
end Go.Proofs.YtldhhbkdhcidcaaDoor
