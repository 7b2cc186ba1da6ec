/-
  What lay.Number, the reference's Digits and the reference's Number answer, for every int.
-/
import Derived.Test.YtidlgecognedlaaGreatDoorShelf
import Derived.Lib.FrozenHead2
import Derived.Lib.OthersKept
import Derived.WalkKit
import Derived.WalkSpells
import Derived.WalkLawsBesides
import Derived.Lib.SmallJoins
import Derived.Deep.RegionWith
import Derived.Sort.Grow
namespace Go.Proofs.YtidlgecognedlaaGreatDoor.Lay
open Go.RowKit Go.Joins
set_option maxRecDepth 100000

theorem gPow : Tryz.prog.globalNamed "internal/strconv.uint64pow10" = some 0 := by kernel_rfl
theorem gRange : Tryz.prog.globalNamed "strconv.ErrRange" = some 2 := by kernel_rfl

/-- What the laid variables give, as a walk wants it. -/
def Tabs (w : World) : Prop := Lib.TabIs Tryz.prog w "internal/strconv.uint64pow10" .u64 Lib.pow10Tab ∧ ∃ tp p, w.var? Tryz.prog "strconv.ErrRange" = some #[.iface tp p]

theorem Tabs.stays {w w' : World} (h : Tabs w) (hb : Below w.heap.size w w') : Tabs w' := by
  obtain ⟨h1, tp, p, h2⟩ := h
  exact ⟨tab_stays gPow h1 hb (Nat.le_refl _), tp, p, var_stays gRange h2 hb (Nat.le_refl _)⟩

theorem below_grown (w : World) (k : Nat) (os : Array Obj) : Below w.heap.size w (Sort.grow (w.drewN k) os) :=
  ⟨rfl, rfl, rfl, by show w.heap.size ≤ (w.heap ++ os).size; rw [Array.size_append]; omega, fun j hj => by show (w.heap ++ os)[j]? = w.heap[j]?; rw [Array.getElem?_append_left hj]⟩

theorem nDigits_le20 (u : Nat) (h : u < 18446744073709551616) : Lib.nDigits u ≤ 20 := by
  rcases Nat.eq_zero_or_pos u with h0 | h0
  · subst h0; rw [Lib.nDigits_small (by omega)]; omega
  · have := Lib.numDigits_eq u h0 h; split at this <;> omega

theorem itoa_len (n : Int) (h0 : -9223372036854775808 ≤ n) (h1 : n ≤ 9223372036854775807) : (Lib.itoa n).length ≤ 21 := by
  unfold Lib.itoa
  split
  · have := nDigits_le20 n.natAbs (by omega); rw [List.length_cons, Lib.decDigits_length]; omega
  · have := nDigits_le20 n.toNat (by omega); rw [Lib.decDigits_length]; omega

theorem itoa_any (n : Int) (h0 : -9223372036854775808 ≤ n) (h1 : n ≤ 9223372036854775807) (w : World) (ht : Tabs w) :
    Calls Tryz.prog 88 #[.int .i64 n] w fun e w' => e = .returned (.string ⟨(Lib.itoa n).toArray⟩) ∧ Below w.heap.size w w' := by
  refine (Tryz.strconv_Itoa n h0 h1 w ht.1).mono ?_
  rintro e w' ⟨rfl, k, os, rfl⟩
  exact ⟨rfl, below_grown w k os⟩

theorem bcat (a b : List UInt8) (s : ByteArray) (hs : s = ⟨b.toArray⟩) : (⟨a.toArray⟩ : ByteArray) ++ s = ⟨(a ++ b).toArray⟩ := by rw [hs]; exact ByteArray.mk_append_mk a b

set_option maxHeartbeats 400000 in
theorem number_any (n : Int) (h0 : -9223372036854775808 ≤ n) (h1 : n ≤ 9223372036854775807) (w : World) (ht : Tabs w) :
    Calls Tryz.prog 40 #[.int .i64 n] w fun e w' => e = .returned (.string ⟨(Lib.itoa n ++ [59]).toArray⟩) ∧ Below w.heap.size w w' := by
  have hl := itoa_len n h0 h1
  go_enter Tryz.func40, Tryz.ntmps40
  go_wp2_with (go_at_call 88; refine (itoa_any n h0 h1 _ ht).mono ?_)
  rintro e w1 ⟨rfl, hb⟩
  go_wp2
  go_ret
  exact ⟨congrArg (fun s => Ending.returned (.string s)) (bcat _ [59] _ rfl), hb⟩

theorem conv1 (W : World) (c : Int) : (convert 118 9 (.slice (some ⟨W.heap.size, 0, none⟩) 1 1)).run Tryz.prog (W.alloc (.cells #[.int .u8 c] 5)) = .ok (.string ⟨#[UInt8.ofNat c.toNat]⟩) (W.alloc (.cells #[.int .u8 c] 5)) :=
  run_convert_bytes_arg (P := Tryz.prog) (W.alloc (.cells #[.int .u8 c] 5)) 118 5 Tryz.underlying118 Tryz.underlying5 W.heap.size 0 1 1 [c] rfl (fun i hi => by
    have hi0 : i = 0 := by omega
    subst hi0
    simp) 9 Tryz.underlying9

set_option maxHeartbeats 400000 in
theorem digits_small (u : Nat) (hu : u < 10) (w : World) :
    Calls Tryz.prog 100 #[.int .i64 u] w fun e w' => e = .returned (.string ⟨(Lib.decDigits u).toArray⟩) ∧ Below w.heap.size w w' := by
  have hc := conv1
  rw [Lib.decDigits_one hu]
  go_enter Tryz.func100, Tryz.ntmps100
  go_wp2
  go_ret
  exact ⟨rfl, below_alloc1 w _⟩

theorem bcell {W w1 : World} (hb : Below W.heap.size W w1) : (∀ b o, b < W.heap.size → w1.cell? ⟨b, o, none⟩ = W.cell? ⟨b, o, none⟩) ∧ (∀ b o, b < W.heap.size → w1.frozen? ⟨b, o, none⟩ = W.frozen? ⟨b, o, none⟩) :=
  ⟨fun b o h => hb.cell (p := ⟨b, o, none⟩) h, fun b o h => hb.frozen (p := ⟨b, o, none⟩) h⟩

theorem conv1c (c : Int) (W : World) (g : Nat) (h : W.cell? ⟨g, 0, none⟩ = some (.int .u8 c)) : (convert 118 9 (.slice (some ⟨g, 0, none⟩) 1 1)).run Tryz.prog W = .ok (.string ⟨#[UInt8.ofNat c.toNat]⟩) W :=
  run_convert_bytes_arg (P := Tryz.prog) W 118 5 Tryz.underlying118 Tryz.underlying5 g 0 1 1 [c] rfl (fun i hi => by
    have hi0 : i = 0 := by omega
    subst hi0
    simpa using h) 9 Tryz.underlying9

theorem byte_of (u : Nat) : IntKind.u8.wrap (IntKind.i64.wrap (48 + (u : Int).tmod 10)) = 48 + ((u % 10 : Nat) : Int) := by
  have e : (u : Int).tmod 10 = ((u % 10 : Nat) : Int) := by rw [Int.tmod_eq_emod_of_nonneg (by omega)]; omega
  have h10 : u % 10 < 10 := Nat.mod_lt _ (by decide)
  rw [e, IntKind.wrap_i64, IntKind.wrap_u8]
  omega

theorem below_drew1 {w w' : World} (h : Below w.drew.heap.size w.drew w') : Below w.heap.size w w' := ⟨h.os, h.tape, h.output, h.size, h.block⟩
theorem below_first {w w' : World} (o : Obj) (h : Below (w.alloc o).drew.heap.size (w.alloc o).drew w') : Below w.heap.size w w' :=
  (below_alloc1 w o).drew.trans (h.mono (by show w.heap.size ≤ (w.alloc o).heap.size; simp))

set_option maxHeartbeats 1000000 in
theorem digits_any : ∀ (u : Nat), u ≤ 9223372036854775807 → ∀ (w : World),
    Calls Tryz.prog 100 #[.int .i64 u] w fun e w' => e = .returned (.string ⟨(Lib.decDigits u).toArray⟩) ∧ Below w.heap.size w w' := by
  intro u
  induction u using Nat.strongRecOn with
  | ind u ih =>
  intro hu w
  by_cases h10 : u < 10
  · exact digits_small u h10 w
  have ih' := ih (u / 10) (by omega) (by omega)
  clear ih
  have hl : (Lib.decDigits (u / 10)).length ≤ 20 := by rw [Lib.decDigits_length]; exact nDigits_le20 _ (by omega)
  have hd : Lib.decDigits u = Lib.decDigits (u / 10) ++ [UInt8.ofNat (48 + u % 10)] := by rw [Lib.decDigits, dif_neg h10]
  rw [hd]
  clear hd
  have H : Hid (∀ (a : Int), a = ((u / 10 : Nat) : Int) → ∀ (w : World), Calls Tryz.prog 100 #[.int .i64 a] w fun e w' => e = .returned (.string ⟨(Lib.decDigits (u / 10)).toArray⟩) ∧ Below w.heap.size w w') := by
    intro a ha; subst ha; exact ih'
  clear ih'
  generalize Lib.decDigits (u / 10) = l at *
  have hc := conv1c (IntKind.u8.wrap (IntKind.i64.wrap (48 + (u : Int).tmod 10)))
  have hw : IntKind.i64.wrap ((u : Int) / 10) = ((u / 10 : Nat) : Int) := by rw [IntKind.wrap_i64]; omega
  have HW : Hid (IntKind.i64.wrap ((u : Int) / 10) = ((u / 10 : Nat) : Int)) := hw
  clear hw
  have HC : Hid ((⟨l.toArray⟩ : ByteArray) ++ ⟨#[UInt8.ofNat (48 + (u : Int) % 10).toNat]⟩ = ⟨(l ++ [UInt8.ofNat (48 + u % 10)]).toArray⟩) :=
    bcat l [UInt8.ofNat (48 + u % 10)] _ (by rw [show (48 + (u : Int) % 10).toNat = 48 + u % 10 by omega])
  go_enter Tryz.func100, Tryz.ntmps100
  go_wp2
  go_region_with (go_at_call 100; refine (H.out _ HW.out _).mono ?_; rintro e w' ⟨rfl, hb⟩; obtain ⟨hcc, hff⟩ := bcell hb)
  all_goals go_wp2
  all_goals go_ret
  all_goals refine ⟨congrArg (fun s => Ending.returned (Value.string s)) HC.out, ?_⟩
  all_goals first | exact below_first _ hb | exact (below_drew1 hb).alloc hb.size _

/-- The reference's Digits, at an int from 0 on. -/
theorem digits_int (a : Int) (u : Nat) (ha : a = u) (hu : u ≤ 9223372036854775807) (w : World) :
    Calls Tryz.prog 100 #[.int .i64 a] w fun e w' => e = .returned (.string ⟨(Lib.decDigits u).toArray⟩) ∧ Below w.heap.size w w' := by
  subst ha; exact digits_any u hu w

set_option maxHeartbeats 400000 in
theorem refNumber_pos (n : Int) (h0 : 0 ≤ n) (h1 : n ≤ 9223372036854775807) (w : World) :
    Calls Tryz.prog 57 #[.int .i64 n] w fun e w' => e = .returned (.string ⟨(Lib.itoa n ++ [59]).toArray⟩) ∧ Below w.heap.size w w' := by
  have hi : Lib.itoa n = Lib.decDigits n.toNat := by unfold Lib.itoa; rw [if_neg (by omega)]
  rw [hi]
  have hl : (Lib.decDigits n.toNat).length ≤ 20 := by rw [Lib.decDigits_length]; exact nDigits_le20 _ (by omega)
  clear hi
  go_enter Tryz.func57, Tryz.ntmps57
  go_wp2_with (go_at_call 100; refine (digits_int n n.toNat (by omega) (by omega) _).mono ?_)
  rintro e w1 ⟨rfl, hb⟩
  go_wp2
  go_ret
  exact ⟨congrArg (fun s => Ending.returned (Value.string s)) (bcat _ [59] _ rfl), hb⟩

theorem tdiv_neg (u : Nat) : (-(u : Int)).tdiv 10 = -((u / 10 : Nat) : Int) := by
  rw [Int.neg_tdiv, Int.tdiv_eq_ediv_of_nonneg (by omega)]; omega
theorem tmod_neg (u : Nat) : (-(u : Int)).tmod 10 = -((u % 10 : Nat) : Int) := by
  rw [Int.neg_tmod, Int.tmod_eq_emod_of_nonneg (by omega)]; omega
theorem w64_id (a : Int) (h0 : 0 ≤ a) (h1 : a ≤ 9223372036854775807) : wrap64 a = a := by unfold wrap64; omega

theorem below_two {w w1 w2 : World} (h1 : Below w.heap.size w w1) (h2 : Below w1.heap.size w1 w2) : Below w.heap.size w w2 := h1.trans (h2.mono h1.size)

set_option maxHeartbeats 400000 in
theorem refNumber_neg1 (u : Nat) (h0 : 1 ≤ u) (h1 : u < 10) (w : World) :
    Calls Tryz.prog 57 #[.int .i64 (-(u : Int))] w fun e w' => e = .returned (.string ⟨(Lib.itoa (-(u : Int)) ++ [59]).toArray⟩) ∧ Below w.heap.size w w' := by
  have hi : Lib.itoa (-(u : Int)) = 45 :: Lib.decDigits u := by unfold Lib.itoa; rw [if_pos (by omega), Int.natAbs_neg, Int.natAbs_natCast]
  rw [hi]
  have hl : (Lib.decDigits u).length ≤ 20 := by rw [Lib.decDigits_length]; exact nDigits_le20 _ (by omega)
  clear hi
  have hq : ((-(u : Int)).tdiv 10 == 0) = true := by rw [tdiv_neg, beq_iff_eq]; omega
  have hn : -(u : Int) < 0 := by omega
  go_enter Tryz.func57, Tryz.ntmps57
  go_wp2_with fail
  refine (digits_int _ u (by omega) (by omega) _).mono ?_
  rintro e w1 ⟨rfl, hb⟩
  go_wp2
  go_ret
  exact ⟨congrArg (fun s => Ending.returned (Value.string s)) (by rw [bcat _ [59] _ rfl]; rfl), hb⟩

end Go.Proofs.YtidlgecognedlaaGreatDoor.Lay
