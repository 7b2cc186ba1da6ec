/-
  What the law SumApart answers at any three strings.
-/
import Derived.Test.YtcfkhahehdpjbaaDoorAwk
namespace Go.Proofs.YtcfkhahehdpjbaaDoor
open Go Go.RowKit
set_option maxRecDepth 100000

theorem Has.lt {w : World} {p : Nat} {m : List UInt8} (h : Has w p m) : p < w.heap.size := by
  obtain ⟨st, rest, hi, hh⟩ := h
  exact (Array.getElem?_eq_some_iff.1 hh).1
theorem Has.stays {w w' : World} {p B : Nat} {m : List UInt8} (h : Has w p m) (hb : Below B w w') (hp : p < B) : Has w' p m := by
  obtain ⟨st, rest, hi, hh⟩ := h
  exact ⟨st, rest, hi, (hb.block p hp).trans hh⟩
theorem Has.kept {w w' : World} {p : Nat} {m : List UInt8} (h : Has w p m) (hb : Below w.heap.size w w') : Has w' p m := h.stays hb h.lt
theorem Has.other {w w' : World} {p q : Nat} {m : List UInt8} (h : Has w p m) (ht : Touch q w w') (hne : p ≠ q) : Has w' p m := by
  have hl := h.lt
  obtain ⟨st, rest, hi, hh⟩ := h
  exact ⟨st, rest, hi, (ht.block p hl hne).trans hh⟩

/-- Two sums beside each other, and the table. -/
structure Two (w0 W : World) (p : Nat) (x y : List UInt8) : Prop where
  a : Has W p x
  b : Has W (p + 1) y
  k : Ktab W
  low : Below p w0 W
theorem Two.stays {w0 W W' : World} {p : Nat} {x y : List UInt8} (h : Two w0 W p x y) (hb : Below W.heap.size W W') : Two w0 W' p x y :=
  ⟨h.a.kept hb, h.b.kept hb, h.k.stays hb h.k.pos, h.low.trans (hb.mono (Nat.le_of_lt h.a.lt))⟩
theorem Two.turnA {w0 W W' : World} {p : Nat} {x x' y : List UInt8} (h : Two w0 W p x y) (hp : 0 < p) (hh : Has W' p x') (ht : Touch p W W') : Two w0 W' p x' y :=
  ⟨hh, h.b.other ht (by omega), h.k.touch ht hp, h.low.trans (ht.below (Nat.le_refl _) (Nat.le_of_lt h.a.lt))⟩
theorem Two.turnB {w0 W W' : World} {p : Nat} {x y y' : List UInt8} (h : Two w0 W p x y) (hh : Has W' (p + 1) y') (ht : Touch (p + 1) W W') : Two w0 W' p x y' :=
  ⟨h.a.other ht (by omega), hh, h.k.touch ht (by omega), h.low.trans (ht.below (by omega) (Nat.le_of_lt h.a.lt))⟩
theorem two_new (w : World) (hK : Ktab w) : Two w ((w.alloc (.cells newRow256 45)).alloc (.cells newRow256 45)) w.heap.size [] [] := by
  have h1 := new_has w
  have h2 := new_has (w.alloc (.cells newRow256 45))
  rw [show (w.alloc (.cells newRow256 45)).heap.size = w.heap.size + 1 by simp] at h2
  have hb : Below w.heap.size w ((w.alloc (.cells newRow256 45)).alloc (.cells newRow256 45)) := below_more (below_a1 w _) _ (Nat.le_refl _)
  exact ⟨h1.kept (below_a1 _ _), h2, hK.stays hb hK.pos, hb⟩

set_option maxHeartbeats 2000000 in
theorem sumApart_any (a b c : List UInt8) (w : World) (hK : Ktab w) : Calls Tryd.prog 6 #[.string ⟨a.toArray⟩, .string ⟨b.toArray⟩, .string ⟨c.toArray⟩] w fun e w' => e = .returned (.bool true) ∧ Below w.heap.size w w' := by
  have HFa := hid (few_any a)
  have HFb := hid (few_any b)
  have HFc := hid (few_any c)
  have hla : Hid ((a.take 2000).length ≤ 2000) := by show _ ≤ _; rw [List.length_take]; omega
  have hlb : Hid ((b.take 2000).length ≤ 2000) := by show _ ≤ _; rw [List.length_take]; omega
  have hlc : Hid ((c.take 2000).length ≤ 2000) := by show _ ≤ _; rw [List.length_take]; omega
  generalize a.take 2000 = x at *
  generalize b.take 2000 = y at *
  generalize c.take 2000 = z at *
  have hp : Hid (0 < w.heap.size) := hK.pos
  have HT : Hid (Two w ((w.alloc (.cells newRow256 45)).alloc (.cells newRow256 45)) w.heap.size [] []) := two_new w hK
  have hsx : (⟨x.toArray⟩ : ByteArray).size = x.length := rfl
  have hsz : (⟨z.toArray⟩ : ByteArray).size = z.length := rfl
  have happ : (⟨x.toArray⟩ : ByteArray) ++ (⟨z.toArray⟩ : ByteArray) = ⟨(x ++ z).toArray⟩ := ByteArray.mk_append_mk x z
  have hbx : (x.length : Int) ≤ 2000 := by have := hla.out; omega
  have hbz : (z.length : Int) ≤ 2000 := by have := hlc.out; omega
  have hlen : Hid (((x ++ z).length : Int) = (x.length : Int) + (z.length : Int)) := by show _ = _; rw [List.length_append]; omega
  have hxz : Hid ((x ++ z).length ≤ 4000) := by show _ ≤ _; have := hla.out; have := hlc.out; rw [List.length_append]; omega
  have HE1 := same25 (x ++ z)
  have HE2 := same25 y
  have HM1 : Hid (∀ (p : Nat) (W : World), Has W p (x ++ z) → Ktab W → Calls Tryd.prog 15 #[.pointer (some ⟨p, 0, none⟩)] W fun e w' => e = .returned (.agg ((sha (x ++ z)).map cb).toArray) ∧ Below W.heap.size W w') := fun p W h k => sumM_any p _ (by have := hxz.out; omega) W h k
  have HM2 : Hid (∀ (p : Nat) (W : World), Has W p y → Ktab W → Calls Tryd.prog 15 #[.pointer (some ⟨p, 0, none⟩)] W fun e w' => e = .returned (.agg ((sha y).map cb).toArray) ∧ Below W.heap.size W w') := fun p W h k => sumM_any p _ (by have := hlb.out; omega) W h k
  have HR1 : Hid (∀ W, Calls Tryd.prog 11 #[.string ⟨(x ++ z).toArray⟩] W fun e w' => e = .returned (.agg ((sha (x ++ z)).map cb).toArray) ∧ Below W.heap.size W w') := fun W => rsum_any (x ++ z) (by have := hxz.out; omega) W
  have HR2 : Hid (∀ W, Calls Tryd.prog 11 #[.string ⟨y.toArray⟩] W fun e w' => e = .returned (.agg ((sha y).map cb).toArray) ∧ Below W.heap.size W w') := fun W => rsum_any y (by have := hlb.out; omega) W
  have HL : Hid (∀ W p, Has W p (x ++ z) → Calls Tryd.prog 14 #[.pointer (some ⟨p, 0, none⟩)] W fun e w' => e = .returned (.int .i64 ((x.length : Int) + (z.length : Int))) ∧ w' = W) := by
    intro W p h
    have := len_any p (x ++ z) W h
    rw [hlen.out] at this
    exact this
  generalize ((sha (x ++ z)).map cb).toArray = X1 at *
  generalize ((sha y).map cb).toArray = X2 at *
  clear hK
  go_enter Tryd.func6, Tryd.ntmps6
  go_wp2_with (first | (go_at_call 12; refine (new_any _).mono ?_))
  rintro e w1 ⟨rfl, hw1⟩
  subst w1
  go_wp2_with (first | (go_at_call 12; refine (new_any _).mono ?_))
  rintro e w2 ⟨rfl, hw2⟩
  have h1s : (w.alloc (.cells newRow256 45)).heap.size = w.heap.size + 1 := by simp
  have HT2 : Hid (Two w w2 w.heap.size [] []) := by show Two _ _ _ _ _; rw [hw2]; exact HT.out
  rw [h1s]
  clear hw2 HT h1s
  go_wp2_with (first | (go_at_call 8; first | (refine (HFa.out _).mono ?_; rintro e W ⟨rfl, rfl⟩) | (refine (HFb.out _).mono ?_; rintro e W ⟨rfl, rfl⟩) | (refine (HFc.out _).mono ?_; rintro e W ⟨rfl, rfl⟩)) | (go_at_call 9; refine (awake_any _ HT2.out.k).mono ?_))
  rintro e w3 ⟨rfl, hb3⟩
  have HT3 : Hid (Two w w3 w.heap.size [] []) := HT2.out.stays hb3
  clear hb3 HT2
  go_wp2_with fail
  refine (add_any w.heap.size [] x (by simp; omega) w3 HT3.out.a HT3.out.k hp.out).mono ?_
  rintro e w4 ⟨rfl, hh4, ht4⟩
  have HT4 : Hid (Two w w4 w.heap.size x []) := HT3.out.turnA hp.out hh4 ht4
  clear hh4 ht4 HT3
  go_wp2_with fail
  refine (add_any (w.heap.size + 1) [] y (by have := hlb.out; simp; omega) w4 HT4.out.b HT4.out.k (by omega)).mono ?_
  rintro e w5 ⟨rfl, hh5, ht5⟩
  have HT5 : Hid (Two w w5 w.heap.size x y) := HT4.out.turnB hh5 ht5
  clear hh5 ht5 HT4
  go_wp2_with fail
  refine (add_any w.heap.size x z (by omega) w5 HT5.out.a HT5.out.k hp.out).mono ?_
  rintro e w6 ⟨rfl, hh6, ht6⟩
  have HT6 : Hid (Two w w6 w.heap.size (x ++ z) y) := HT5.out.turnA hp.out hh6 ht6
  clear hh6 ht6 HT5
  go_wp2_with fail
  refine (HM1.out _ w6 HT6.out.a HT6.out.k).mono ?_
  rintro e w7 ⟨rfl, hb7⟩
  have HT7 : Hid (Two w w7 w.heap.size (x ++ z) y) := HT6.out.stays hb7
  clear hb7 HT6
  go_wp2_with fail
  refine (HR1.out w7).mono ?_
  rintro e w8 ⟨rfl, hb8⟩
  have HT8 : Hid (Two w w8 w.heap.size (x ++ z) y) := HT7.out.stays hb8
  clear hb8 HT7
  go_wp2_with fail
  refine (HM2.out _ w8 HT8.out.b HT8.out.k).mono ?_
  rintro e w9 ⟨rfl, hb9⟩
  have HT9 : Hid (Two w w9 w.heap.size (x ++ z) y) := HT8.out.stays hb9
  clear hb9 HT8
  go_wp2_with fail
  refine (HR2.out w9).mono ?_
  rintro e w10 ⟨rfl, hb10⟩
  have HT10 : Hid (Two w w10 w.heap.size (x ++ z) y) := HT9.out.stays hb10
  clear hb10 HT9
  go_wp2_with (first | (go_at_call 14; refine (HL.out _ _ HT10.out.a).mono ?_; rintro e W ⟨rfl, rfl⟩))
  go_ret
  exact ⟨rfl, HT10.out.low⟩

end Go.Proofs.YtcfkhahehdpjbaaDoor
