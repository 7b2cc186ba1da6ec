/-
  What text tells: so many bytes of a field.
-/
import Derived.Test.YtnhnjdldgaaeoaaGreatDoorKsa
import Derived.Test.YtnhnjdldgaaeoaaGreatDoorVbld
namespace Go.Proofs.YtnhnjdldgaaeoaaGreatDoor
open Go Go.RowKit
set_option maxRecDepth 100000

theorem ownsF_below {w w' : World} {B e s n : Nat} {v : Value} {xs : List Value} (h : w.ownsRowF B e s v n xs) (hb : Below w.heap.size w w') : w'.ownsRowF B e s v n xs := by
  refine ⟨h.1, ?_⟩
  rcases h.2 with hn | ⟨g, cap, cur, fz, rfl, hB, hg, rest⟩
  · exact .inl hn
  · exact .inr ⟨g, cap, cur, fz, rfl, hB, by rw [hb.block g (Array.getElem?_eq_some_iff.1 hg).1]; exact hg, rest⟩
theorem rowF_form {w : World} {B e s n : Nat} {v : Value} {xs : List Value} (h : w.ownsRowF B e s v n xs) : ∃ ao cap, v = .slice ao n cap := by
  rcases h.2 with ⟨rfl, rfl⟩ | ⟨g, cap, cur, fz, rfl, -⟩
  · exact ⟨none, 0, rfl⟩
  · exact ⟨_, _, rfl⟩
theorem atF_below {w w' : World} {T e B b : Nat} {p : Value} {bs : List Value} (h : Lib.BuilderAtF T e B b p bs w) (hb : Below w.heap.size w w') : Lib.BuilderAtF T e B b p bs w' := by
  obtain ⟨hB, v, hbk, hown, hne⟩ := h
  exact ⟨hB, v, by rw [hb.block b (Array.getElem?_eq_some_iff.1 hbk).1]; exact hbk, ownsF_below hown hb, hne⟩
theorem isF_below {w w' : World} {T e B b : Nat} {bs : List Value} (h : Lib.IsBuilderF T e B b bs w) (hb : Below w.heap.size w w') : Lib.IsBuilderF T e B b bs w' :=
  h.elim (fun x => .inl (atF_below x hb)) (fun x => .inr (atF_below x hb))
theorem atF_len {w : World} {B b : Nat} {p : Value} {bs : List Value} (h : Lib.BuilderAtF 127 5 B b p bs w) : Calls Tryz.prog 74 #[.pointer (some ⟨b, 0, none⟩)] w fun e w' => e = .returned (.int .i64 bs.length) ∧ w' = w := by
  obtain ⟨hB, v, hbk, hown, hne⟩ := h
  obtain ⟨ao, cap, rfl⟩ := rowF_form hown
  have c1 : w.cell? ⟨b, 1, none⟩ = some (.slice ao bs.length cap) := by rw [Lib.cell_of_heap hbk]; rfl
  clear hbk hown hne hB
  go_enter Tryz.func74, Tryz.ntmps74
  go_wp2
  go_ret
  exact ⟨rfl, rfl⟩
theorem builder_len {w : World} {B b : Nat} {bs : List Value} (h : Lib.IsBuilderF 127 5 B b bs w) : Calls Tryz.prog 74 #[.pointer (some ⟨b, 0, none⟩)] w fun e w' => e = .returned (.int .i64 bs.length) ∧ w' = w :=
  h.elim atF_len atF_len

/-- The first so many bytes of j sectors, one more sector. -/
theorem cat_more {S : List Sec} (hok : AllOk S) (a j L : Nat) : (catP S a (j + 1)).take L = (catP S a j).take L ++ (secB S (a + j)).take (min 64 (L - 64 * j)) := by
  have hl := catP_len (S := S) (a := a) (k := j) (fun i _ => sec_len hok _)
  rw [catP_succ, List.take_append, hl]
  congr 1
  have h9 := sec_len hok (a + j)
  by_cases hc : 64 ≤ L - 64 * j
  · rw [Nat.min_eq_left hc, List.take_of_length_le (by omega), List.take_of_length_le (by omega)]
  · rw [Nat.min_eq_right (by omega)]
theorem cat_take_len {S : List Sec} (hok : AllOk S) (a j L : Nat) : ((catP S a j).take L).length = min L (64 * j) := by
  rw [List.length_take, catP_len (fun i _ => sec_len hok _)]
theorem cat_enough {S : List Sec} (hok : AllOk S) (a j k L : Nat) (hj : L ≤ 64 * j) (hjk : j ≤ k) : (catP S a k).take L = (catP S a j).take L := by
  induction k with
  | zero =>
    have : j = 0 := by omega
    rw [this]
  | succ k ih =>
    by_cases he : j = k + 1
    · rw [he]
    · rw [← ih (by omega), catP_succ, List.take_append, catP_len (fun i _ => sec_len hok _), Nat.sub_eq_zero_of_le (by omega)]
      simp

section
variable {w w' : World} {x : Cx} {d g first size : Nat} {D : Dk}

set_option maxHeartbeats 4000000 in
theorem text_any (h : CellAt w x d first size) (hd : DiskAt w d g D) (hdn : D.down = false) (hr : first + 2 + 2 * size ≤ D.S.length) (i : Nat) (hi : i ≤ 1) (L : Nat) (hL : L ≤ 64 * size) :
    Calls Tryz.prog 64 #[.pointer (some ⟨x.c, 0, none⟩), .int .i64 i, .int .i64 L] w fun e w' =>
      e = .returned (.tuple #[.string ⟨((catP D.S (first + 2 + i * size) size).take L).toArray⟩, .int .i64 0]) ∧ Below w.heap.size w w' := by
  have HB0 : Hid (Below w.heap.size w (w.alloc (.cells #[.pointer none, .slice none 0 0] 127))) := below_a1 w _
  have HF0 : Hid (Lib.IsBuilderF 127 5 w.heap.size w.heap.size (Lib.byteCells ((catP D.S (first + 2 + i * size) 0).take L)) (w.alloc (.cells #[.pointer none, .slice none 0 0] 127))) := by
    have e : (catP D.S (first + 2 + i * size) 0).take L = [] := by simp [catP]
    rw [e]
    exact Lib.IsBuilderF.of (Lib.fresh_isBuilder 127 5 w)
  have HFd := hid (field_any (h.stays HB0.out) i hi)
  have HRd : Hid (∀ W, Below w.heap.size w W → ∀ k : Nat, Calls Tryz.prog 46 #[.pointer (some ⟨d, 0, none⟩), .int .i64 k] W fun e w' => e = .returned (.tuple #[.string ⟨(readT D k).toArray⟩, .int .i64 (readE D k)]) ∧ w' = W) :=
    fun W hb k => read_any (hd.kept (X := []) (Kp.of hb) (by simp) (by simp)) k
  have HC0 : Hid (∀ W, Below w.heap.size w W → W.cell? ⟨x.c, 0, none⟩ = some (.pointer (some ⟨d, 0, none⟩))) := fun W hb => (h.stays hb).c0
  have hisz : i * size ≤ size := by rcases (by omega : i = 0 ∨ i = 1) with rfl | rfl <;> omega
  have hf := h.fst
  have hsz := h.sz
  have hok := hd.ok
  generalize hA : first + 2 + i * size = a0 at *
  have hroom : a0 + size ≤ D.S.length := by omega
  have HRE : Hid (∀ k, k < size → readE D ((a0 + k : Nat) : Int) = 0 ∧ readT D ((a0 + k : Nat) : Int) = secB D.S (a0 + k)) := by
    intro k hk
    have hb : hasB D.S.length ((a0 + k : Nat) : Int) = true := by unfold hasB; simp; omega
    unfold readE readT secB
    rw [hdn, hb, Int.toNat_natCast]
    exact ⟨rfl, rfl⟩
  have hlen := D.S.length
  have HML := hid (fun j => cat_more hok a0 j L)
  have HLN := hid (fun j => cat_take_len hok a0 j L)
  have HEN := hid (fun j h1 h2 => cat_enough hok a0 j size L h1 h2)
  have HSL := hid (fun k => sec_len hok (a0 + k))
  obtain ⟨T, hT⟩ : ∃ T : Nat → List UInt8, T = fun j => (catP D.S a0 j).take L := ⟨_, rfl⟩
  have e1 : ∀ j, (catP D.S a0 j).take L = T j := fun j => by rw [hT]
  simp only [e1] at HML HLN HEN HF0 ⊢
  generalize secB D.S = sb at *
  clear hT e1 h hd hdn hr hlen
  generalize hw0 : w.alloc (.cells #[.pointer none, .slice none 0 0] 127) = w0 at *
  go_enter Tryz.func64, Tryz.ntmps64
  go_wp2_with fail
  refine HFd.out.mono ?_
  rintro e w1 ⟨rfl, nn, hw1⟩
  have HB1 : Hid (Below w.heap.size w w1) := by subst hw1; exact below_drawn HB0.out _
  have HF1 : Hid (Lib.IsBuilderF 127 5 w.heap.size w.heap.size (Lib.byteCells (T 0)) w1) := by subst hw1; exact isF_below HF0.out (below_drawn (Below.refl _ _) _)
  clear hw1 hw0 HB0 HF0 HFd
  go_wp2
  go_loopw [9] (fun k w' => ∃ j : Nat, k = .int .i64 (a0 + j : Nat) ∧ j ≤ size ∧ Hid (Lib.IsBuilderF 127 5 w.heap.size w.heap.size (Lib.byteCells (T j)) w') ∧ Hid (Below w.heap.size w w')) (fun k _ => a0 + size - (intOf k).toNat)
  case atStart => exact ⟨0, rfl, by omega, HF1, HB1⟩
  case round =>
    clear HF1 HB1
    obtain ⟨j, rfl, hj, HI, HB⟩ := hrel
    have hln := HLN.out j
    have HBL := hid (fun (W : World) (hI : Lib.IsBuilderF 127 5 w.heap.size w.heap.size (Lib.byteCells (T j)) W) => builder_len hI)
    have hbc : (Lib.byteCells (T j)).length = min L (64 * j) := by simpa [Lib.byteCells] using hln
    rw [hbc] at HBL
    have hsz2 : w.heap.size ≤ wr.heap.size := HB.out.size
    by_cases hlt : 64 * j < L
    · rw [Nat.min_eq_right (by omega)] at HBL
      have hjs : j < size := by omega
      obtain ⟨hre, hrt⟩ := HRE.out j hjs
      have HR := hid (HRd.out _ HB.out (a0 + j))
      rw [hre, hrt] at HR
      have c0 := HC0.out _ HB.out
      have hsl := HSL.out j
      have HM := hid (HML.out j)
      generalize sb (a0 + j) = s at *
      have hss : (⟨s.toArray⟩ : ByteArray).size = 64 := hsl
      have d1 : decide (((64 * j : Nat) : Int) < (L : Int)) = true := by simp; omega
      have HL := hid (HBL.out _ HI.out)
      go_wp2_with fail
      refine HL.out.mono ?_
      rintro e W ⟨rfl, hW⟩
      subst W
      go_wp2_with fail
      refine HR.out.mono ?_
      rintro e W ⟨rfl, hW⟩
      subst W
      go_wp2_with fail
      refine HL.out.mono ?_
      rintro e W ⟨rfl, hW⟩
      subst W
      obtain ⟨m, hm⟩ : ∃ m, m = min 64 (L - 64 * j) := ⟨_, rfl⟩
      rw [← hm] at HM
      have hx : (⟨s.toArray⟩ : ByteArray).extract 0 (min (64 : Int) ((L : Int) - 64 * (j : Int))).toNat = ⟨(s.take m).toArray⟩ := by
        rw [show (min (64 : Int) ((L : Int) - 64 * (j : Int))).toNat = m by omega]
        exact ext_take _ _
      have HWs := hid (write_string w.heap.size w.heap.size _ ⟨(s.take m).toArray⟩ _ HI.out (by rw [hbc]; show _ + (s.take m).length ≤ _; simp; omega) hsz2)
      clear hm
      go_wp2_with fail
      first | rw [hx] | skip
      refine HWs.out.mono ?_
      rintro e w4 ⟨rfl, h4, hb4, -⟩
      have H4 : Hid (Lib.IsBuilderF 127 5 w.heap.size w.heap.size (Lib.byteCells (T (j + 1))) w4) := by
        refine Or.inr ?_
        rw [HM.out]
        simpa [Lib.byteCells, Lib.strCells] using h4
      have HB4 : Hid (Below w.heap.size w w4) := HB.out.trans hb4
      clear h4 hb4 HI HB
      go_wp2
      go_roundw
      case rel => exact ⟨j + 1, by go_num, by omega, H4, HB4⟩
      case measure => simp [intOf]; omega
    · rw [Nat.min_eq_left (by omega)] at HBL
      have HL := hid (HBL.out _ HI.out)
      have HE := hid (HEN.out j (by omega) hj)
      have HSS := hid (Tryz.Builder_String_any_k w.heap.size w.heap.size (T j) wr HI.out hsz2)
      go_wp2_with fail
      refine HL.out.mono ?_
      rintro e W ⟨rfl, hW⟩
      subst W
      go_wp2_with fail
      refine HSS.out.mono ?_
      rintro e w3 ⟨rfl, -, hb3, -⟩
      have HB3 : Hid (Below w.heap.size w w3) := HB.out.trans hb3
      clear hb3
      go_wp2
      go_ret2
      exact ⟨by rw [HE.out]; rfl, HB3.out⟩
end
end Go.Proofs.YtnhnjdldgaaeoaaGreatDoor
