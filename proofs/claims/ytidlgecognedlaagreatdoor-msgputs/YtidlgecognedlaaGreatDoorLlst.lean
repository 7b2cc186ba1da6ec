/-
  What lay.Numbers answers, for every list of ints.
-/
import Derived.Test.YtidlgecognedlaaGreatDoorLnum
import Derived.Test.YtidlgecognedlaaGreatDoorLbld
namespace Go.Proofs.YtidlgecognedlaaGreatDoor.Lay
open Go.RowKit Go.Joins
set_option maxRecDepth 100000

/-- The bytes of the items of a list of ints, one behind the other. -/
def numsBody (zs : List Int) : List UInt8 := (zs.map fun z => Lib.itoa z ++ [59]).flatten

theorem numsBody_snoc (zs : List Int) (z : Int) : numsBody (zs ++ [z]) = numsBody zs ++ (Lib.itoa z ++ [59]) := by simp [numsBody]

theorem numsBody_len : ∀ (zs : List Int), (∀ z ∈ zs, -9223372036854775808 ≤ z ∧ z ≤ 9223372036854775807) → (numsBody zs).length ≤ 22 * zs.length
  | [], _ => by simp [numsBody]
  | z :: r, h => by
    have h1 := numsBody_len r (fun x hx => h x (by simp [hx]))
    have h2 := itoa_len z (h z (by simp)).1 (h z (by simp)).2
    simp only [numsBody, List.map_cons, List.flatten_cons, List.length_append, List.length_cons, List.length_nil] at *
    omega

set_option maxHeartbeats 400000 in
theorem item_int (n : Int) (h0 : -9223372036854775808 ≤ n) (h1 : n ≤ 9223372036854775807) (w : World) (ht : Tabs w) :
    Calls Tryz.prog 220 #[.int .i64 n] w fun e w' => e = .returned (.tuple #[.string ⟨(Lib.itoa n ++ [59]).toArray⟩, .int .i64 0]) ∧ Below w.heap.size w w' := by
  go_enter Tryz.func220, Tryz.ntmps220
  go_wp2_with (go_at_call 40; refine (number_any n h0 h1 _ ht).mono ?_)
  rintro e w1 ⟨rfl, hb⟩
  go_wp2
  go_ret2
  exact ⟨rfl, hb⟩

theorem ownsF_below {w w' : World} {B e s n : Nat} {v : Value} {xs : List Value} (h : w.ownsRowF B e s v n xs) (hb : Below w.heap.size w w') : w'.ownsRowF B e s v n xs := by
  refine ⟨h.1, ?_⟩
  rcases h.2 with hn | ⟨g, cap, cur, fz, rfl, hB, hg, rest⟩
  · exact .inl hn
  · exact .inr ⟨g, cap, cur, fz, rfl, hB, by rw [hb.block g (Array.getElem?_eq_some_iff.1 hg).1]; exact hg, rest⟩
theorem atF_below {w w' : World} {T e B b : Nat} {p : Value} {bs : List Value} (h : Lib.BuilderAtF T e B b p bs w) (hb : Below w.heap.size w w') : Lib.BuilderAtF T e B b p bs w' := by
  obtain ⟨hB, v, hbk, hown, hne⟩ := h
  exact ⟨hB, v, by rw [hb.block b (Array.getElem?_eq_some_iff.1 hbk).1]; exact hbk, ownsF_below hown hb, hne⟩
theorem isF_below {w w' : World} {T e B b : Nat} {bs : List Value} (h : Lib.IsBuilderF T e B b bs w) (hb : Below w.heap.size w w') : Lib.IsBuilderF T e B b bs w' :=
  h.elim (fun x => .inl (atF_below x hb)) (fun x => .inr (atF_below x hb))

theorem getD_at {α : Type} (zs : List α) (d : α) (k : Nat) (h : k < zs.length) : zs.getD k d = zs[k] := by simp [List.getD, h]
theorem take_snoc {α : Type} (zs : List α) (d : α) (k : Nat) (h : k < zs.length) : zs.take (k + 1) = zs.take k ++ [zs.getD k d] := by
  rw [List.take_succ_eq_append_getElem h, getD_at zs d k h]

theorem byteCells_snoc (l : List UInt8) (c : Nat) (hc : c < 256) : Lib.byteCells l ++ [.int .u8 c] = Lib.byteCells (l ++ [UInt8.ofNat c]) := by
  simp [Lib.byteCells]; omega

set_option maxHeartbeats 400000 in
theorem list31 (a : Option Addr) (len cap : Nat) (zs : List Int) (hlen : zs.length = len) (h512 : len ≤ 512)
    (hz : ∀ z ∈ zs, -9223372036854775808 ≤ z ∧ z ≤ 9223372036854775807) (w : World) (ht : Tabs w)
    (hcell : ∀ (j : Nat), j < len → ∃ b off, a = some ⟨b, off, none⟩ ∧ b < w.heap.size ∧ w.cell? ⟨b, off + j, none⟩ = some (.int .i64 (zs.getD j 0))) :
    Calls Tryz.prog 219 #[.slice a len cap, .func (.func 220) #[] #[]] w fun e w' => e = .returned (.tuple #[.string ⟨(40 :: numsBody zs ++ [41]).toArray⟩, .int .i64 0]) ∧ Below w.heap.size w w' := by
  have HF : Hid (Lib.IsBuilderF 144 5 w.heap.size w.heap.size [] (w.alloc (.cells #[.pointer none, .slice none 0 0] 144))) := Lib.IsBuilderF.of (Lib.fresh_isBuilder 144 5 w)
  have h13 : decide (512 < (len : Int)) = false := by simp; omega
  go_enter Tryz.func219, Tryz.ntmps219
  go_wp2_with fail
  refine (write_byte w.heap.size w.heap.size [] 40 _ HF.out (by simp) (by simp)).mono ?_
  rintro e w1 ⟨rfl, h1, hb1, -⟩
  have HB1 : Hid (Below w.heap.size w w1) := (below_alloc1 w _).trans hb1
  have H1 : Hid (Lib.IsBuilderF 144 5 w.heap.size w.heap.size (Lib.byteCells (40 :: numsBody (zs.take 0))) w1) := Or.inr h1
  clear h1 hb1
  go_wp2
  go_loopw [17] (fun i w' => ∃ k : Nat, k ≤ len ∧ i = .int .i64 k ∧ Hid (Lib.IsBuilderF 144 5 w.heap.size w.heap.size (Lib.byteCells (40 :: numsBody (zs.take k))) w') ∧ Hid (Below w.heap.size w w')) (fun i _ => len - (intOf i).toNat)
  case atStart => exact ⟨0, Nat.zero_le _, rfl, H1, HB1⟩
  case round =>
    obtain ⟨k, hk, rfl, HI, HB⟩ := hrel
    clear H1 HB1 HF
    have hsz := HB.out.size
    have htr : Tabs wr := ht.stays HB.out
    have hlk := numsBody_len (zs.take k) (fun z hzz => hz z (List.mem_of_mem_take hzz))
    have hlt' : (zs.take k).length ≤ 512 := by rw [List.length_take]; omega
    by_cases hlt : k < len
    · obtain ⟨b, off, rfl, hbs, hc⟩ := hcell k hlt
      have hzk := hz (zs.getD k 0) (by rw [getD_at _ _ _ (by omega)]; exact List.getElem_mem _)
      have HT : Hid (zs.take (k + 1) = zs.take k ++ [zs.getD k 0]) := take_snoc zs 0 k (by omega)
      generalize zs.getD k 0 = z at *
      have hcr : wr.cell? ⟨b, off + k, none⟩ = some (.int .i64 z) := (HB.out.cell hbs).trans hc
      have hil := itoa_len z hzk.1 hzk.2
      clear hc hcell
      go_wp2_with fail
      refine (item_int z hzk.1 hzk.2 _ htr).mono ?_
      rintro e w2 ⟨rfl, hb2⟩
      have HI2 : Hid (Lib.IsBuilderF 144 5 w.heap.size w.heap.size (Lib.byteCells (40 :: numsBody (zs.take k))) w2) := isF_below HI.out hb2
      have HB2 : Hid (Below w.heap.size w w2) := below_two HB.out hb2
      have hsz2 : w.heap.size ≤ w2.heap.size := HB2.out.size
      clear hb2 HI HB hcr htr
      go_wp2_with fail
      refine (write_string w.heap.size w.heap.size _ _ _ HI2.out (by simp [Lib.byteCells, ByteArray.size]; omega) hsz2).mono ?_
      rintro e w3 ⟨rfl, h3, hb3, -⟩
      have H3 : Hid (Lib.IsBuilderF 144 5 w.heap.size w.heap.size (Lib.byteCells (40 :: numsBody (zs.take (k + 1)))) w3) := by
        refine Or.inr ?_
        rw [HT.out, numsBody_snoc]
        simpa [Lib.byteCells, Lib.strCells] using h3
      have HB3 : Hid (Below w.heap.size w w3) := HB2.out.trans hb3
      clear h3 hb3 HI2 HB2 HT hsz2
      go_wp2
      go_roundw
      case rel => exact ⟨k + 1, by omega, by go_num, H3, HB3⟩
      case measure => simp [intOf]; omega
    · have hkl : k = len := by omega
      have HK : Hid (zs.take k = zs) := by show _ = _; rw [hkl, ← hlen, List.take_length]
      clear hkl hcell
      go_wp2_with fail
      refine (write_byte w.heap.size w.heap.size _ 41 _ HI.out (by simp [Lib.byteCells]; omega) hsz).mono ?_
      rintro e w2 ⟨rfl, h2, hb2, -⟩
      have H2 : Hid (Lib.IsBuilderF 144 5 w.heap.size w.heap.size (Lib.byteCells (40 :: numsBody zs ++ [41])) w2) := by
        refine Or.inr ?_
        rw [HK.out] at h2
        simpa [Lib.byteCells] using h2
      have HB2 : Hid (Below w.heap.size w w2) := HB.out.trans hb2
      have hsz2 : w.heap.size ≤ w2.heap.size := HB2.out.size
      clear h2 hb2 HI HB
      go_wp2_with fail
      refine (Tryz.Builder_String_any_k w.heap.size w.heap.size (40 :: numsBody zs ++ [41]) _ H2.out hsz2).mono ?_
      rintro e w3 ⟨rfl, h3, hb3, -⟩
      have HB3 : Hid (Below w.heap.size w w3) := HB2.out.trans hb3
      clear h3 hb3
      go_wp2
      go_ret2
      exact ⟨rfl, HB3.out⟩
end Go.Proofs.YtidlgecognedlaaGreatDoor.Lay
