/-
  What lay.Number, lay.ReadNumber, the reference's Number and the reference's digits answer; numbers as digits (plain).
-/
import Derived.Test.YtnhnjdldgaaeoaaGreatDoorShelf
import Derived.Lib.FrozenHead2
import Derived.Lib.OthersKept
import Derived.WalkKit
import Derived.WalkSpells
import Derived.WalkLawsBesides
import Derived.Lib.SmallJoins
import Derived.Deep.RegionWith
import Derived.Sort.Grow
import Derived.Lib.AtoiAll
import Derived.Lib.ItoaNum
namespace Go.Proofs.YtnhnjdldgaaeoaaGreatDoor.Lay
open Go.RowKit Go.Joins
set_option maxRecDepth 100000

theorem gPow : Tryz.prog.globalNamed "internal/strconv.uint64pow10" = some 2 := by kernel_rfl
theorem gRange : Tryz.prog.globalNamed "strconv.ErrRange" = some 1 := by kernel_rfl

/-- What the laid variables give, as a walk wants it. -/
def Tabs (w : World) : Prop := Lib.TabIs Tryz.prog w "internal/strconv.uint64pow10" .u64 Lib.pow10Tab ∧ ∃ tp p, w.var? Tryz.prog "strconv.ErrRange" = some #[.iface tp p]

theorem Tabs.stays {w w' : World} (h : Tabs w) (hb : Below w.heap.size w w') : Tabs w' := by
  obtain ⟨h1, tp, p, h2⟩ := h
  exact ⟨tab_stays gPow h1 hb (Nat.le_refl _), tp, p, var_stays gRange h2 hb (Nat.le_refl _)⟩

theorem below_grown (w : World) (k : Nat) (os : Array Obj) : Below w.heap.size w (Sort.grow (w.drewN k) os) :=
  ⟨rfl, rfl, rfl, by show w.heap.size ≤ (w.heap ++ os).size; rw [Array.size_append]; omega, fun j hj => by show (w.heap ++ os)[j]? = w.heap[j]?; rw [Array.getElem?_append_left hj]⟩

theorem nDigits_le20 (u : Nat) (h : u < 18446744073709551616) : Lib.nDigits u ≤ 20 := by
  rcases Nat.eq_zero_or_pos u with h0 | h0
  · subst h0; rw [Lib.nDigits_small (by omega)]; omega
  · have := Lib.numDigits_eq u h0 h; split at this <;> omega

theorem itoa_len (n : Int) (h0 : -9223372036854775808 ≤ n) (h1 : n ≤ 9223372036854775807) : (Lib.itoa n).length ≤ 21 := by
  unfold Lib.itoa
  split
  · have := nDigits_le20 n.natAbs (by omega); rw [List.length_cons, Lib.decDigits_length]; omega
  · have := nDigits_le20 n.toNat (by omega); rw [Lib.decDigits_length]; omega

theorem itoa_any (n : Int) (h0 : -9223372036854775808 ≤ n) (h1 : n ≤ 9223372036854775807) (w : World) (ht : Tabs w) :
    Calls Tryz.prog 73 #[.int .i64 n] w fun e w' => e = .returned (.string ⟨(Lib.itoa n).toArray⟩) ∧ Below w.heap.size w w' := by
  refine (Tryz.strconv_Itoa n h0 h1 w ht.1).mono ?_
  rintro e w' ⟨rfl, k, os, rfl⟩
  exact ⟨rfl, below_grown w k os⟩

theorem bcat (a b : List UInt8) (s : ByteArray) (hs : s = ⟨b.toArray⟩) : (⟨a.toArray⟩ : ByteArray) ++ s = ⟨(a ++ b).toArray⟩ := by rw [hs]; exact ByteArray.mk_append_mk a b

set_option maxHeartbeats 400000 in
theorem number_any (n : Int) (h0 : -9223372036854775808 ≤ n) (h1 : n ≤ 9223372036854775807) (w : World) (ht : Tabs w) :
    Calls Tryz.prog 61 #[.int .i64 n] w fun e w' => e = .returned (.string ⟨(Lib.itoa n ++ [59]).toArray⟩) ∧ Below w.heap.size w w' := by
  have hl := itoa_len n h0 h1
  go_enter Tryz.func61, Tryz.ntmps61
  go_wp2_with (go_at_call 73; refine (itoa_any n h0 h1 _ ht).mono ?_)
  rintro e w1 ⟨rfl, hb⟩
  go_wp2
  go_ret
  exact ⟨congrArg (fun s => Ending.returned (.string s)) (bcat _ [59] _ rfl), hb⟩

theorem conv1 (W : World) (c : Int) : (convert 97 9 (.slice (some ⟨W.heap.size, 0, none⟩) 1 1)).run Tryz.prog (W.alloc (.cells #[.int .u8 c] 5)) = .ok (.string ⟨#[UInt8.ofNat c.toNat]⟩) (W.alloc (.cells #[.int .u8 c] 5)) :=
  run_convert_bytes_arg (P := Tryz.prog) (W.alloc (.cells #[.int .u8 c] 5)) 97 5 Tryz.underlying97 Tryz.underlying5 W.heap.size 0 1 1 [c] rfl (fun i hi => by
    have hi0 : i = 0 := by omega
    subst hi0
    simp) 9 Tryz.underlying9

set_option maxHeartbeats 400000 in
theorem digits_small (u : Nat) (hu : u < 10) (w : World) :
    Calls Tryz.prog 60 #[.int .i64 u] w fun e w' => e = .returned (.string ⟨(Lib.decDigits u).toArray⟩) ∧ Below w.heap.size w w' := by
  have hc := conv1
  rw [Lib.decDigits_one hu]
  go_enter Tryz.func60, Tryz.ntmps60
  go_wp2
  go_ret
  exact ⟨rfl, below_alloc1 w _⟩

theorem bcell {W w1 : World} (hb : Below W.heap.size W w1) : (∀ b o, b < W.heap.size → w1.cell? ⟨b, o, none⟩ = W.cell? ⟨b, o, none⟩) ∧ (∀ b o, b < W.heap.size → w1.frozen? ⟨b, o, none⟩ = W.frozen? ⟨b, o, none⟩) :=
  ⟨fun b o h => hb.cell (p := ⟨b, o, none⟩) h, fun b o h => hb.frozen (p := ⟨b, o, none⟩) h⟩

theorem conv1c (c : Int) (W : World) (g : Nat) (h : W.cell? ⟨g, 0, none⟩ = some (.int .u8 c)) : (convert 97 9 (.slice (some ⟨g, 0, none⟩) 1 1)).run Tryz.prog W = .ok (.string ⟨#[UInt8.ofNat c.toNat]⟩) W :=
  run_convert_bytes_arg (P := Tryz.prog) W 97 5 Tryz.underlying97 Tryz.underlying5 g 0 1 1 [c] rfl (fun i hi => by
    have hi0 : i = 0 := by omega
    subst hi0
    simpa using h) 9 Tryz.underlying9

theorem byte_of (u : Nat) : IntKind.u8.wrap (IntKind.i64.wrap (48 + (u : Int).tmod 10)) = 48 + ((u % 10 : Nat) : Int) := by
  have e : (u : Int).tmod 10 = ((u % 10 : Nat) : Int) := by rw [Int.tmod_eq_emod_of_nonneg (by omega)]; omega
  have h10 : u % 10 < 10 := Nat.mod_lt _ (by decide)
  rw [e, IntKind.wrap_i64, IntKind.wrap_u8]
  omega

theorem below_drew1 {w w' : World} (h : Below w.drew.heap.size w.drew w') : Below w.heap.size w w' := ⟨h.os, h.tape, h.output, h.size, h.block⟩
theorem below_first {w w' : World} (o : Obj) (h : Below (w.alloc o).drew.heap.size (w.alloc o).drew w') : Below w.heap.size w w' :=
  (below_alloc1 w o).drew.trans (h.mono (by show w.heap.size ≤ (w.alloc o).heap.size; simp))

set_option maxHeartbeats 1000000 in
theorem digits_any : ∀ (u : Nat), u ≤ 9223372036854775807 → ∀ (w : World),
    Calls Tryz.prog 60 #[.int .i64 u] w fun e w' => e = .returned (.string ⟨(Lib.decDigits u).toArray⟩) ∧ Below w.heap.size w w' := by
  intro u
  induction u using Nat.strongRecOn with
  | ind u ih =>
  intro hu w
  by_cases h10 : u < 10
  · exact digits_small u h10 w
  have ih' := ih (u / 10) (by omega) (by omega)
  clear ih
  have hl : (Lib.decDigits (u / 10)).length ≤ 20 := by rw [Lib.decDigits_length]; exact nDigits_le20 _ (by omega)
  have hd : Lib.decDigits u = Lib.decDigits (u / 10) ++ [UInt8.ofNat (48 + u % 10)] := by rw [Lib.decDigits, dif_neg h10]
  rw [hd]
  clear hd
  have H : Hid (∀ (a : Int), a = ((u / 10 : Nat) : Int) → ∀ (w : World), Calls Tryz.prog 60 #[.int .i64 a] w fun e w' => e = .returned (.string ⟨(Lib.decDigits (u / 10)).toArray⟩) ∧ Below w.heap.size w w') := by
    intro a ha; subst ha; exact ih'
  clear ih'
  generalize Lib.decDigits (u / 10) = l at *
  have hc := conv1c (IntKind.u8.wrap (IntKind.i64.wrap (48 + (u : Int).tmod 10)))
  have hw : IntKind.i64.wrap ((u : Int) / 10) = ((u / 10 : Nat) : Int) := by rw [IntKind.wrap_i64]; omega
  have HW : Hid (IntKind.i64.wrap ((u : Int) / 10) = ((u / 10 : Nat) : Int)) := hw
  clear hw
  have HC : Hid ((⟨l.toArray⟩ : ByteArray) ++ ⟨#[UInt8.ofNat (48 + (u : Int) % 10).toNat]⟩ = ⟨(l ++ [UInt8.ofNat (48 + u % 10)]).toArray⟩) :=
    bcat l [UInt8.ofNat (48 + u % 10)] _ (by rw [show (48 + (u : Int) % 10).toNat = 48 + u % 10 by omega])
  go_enter Tryz.func60, Tryz.ntmps60
  go_wp2
  go_region_with (go_at_call 60; refine (H.out _ HW.out _).mono ?_; rintro e w' ⟨rfl, hb⟩; obtain ⟨hcc, hff⟩ := bcell hb)
  all_goals go_wp2
  all_goals go_ret
  all_goals refine ⟨congrArg (fun s => Ending.returned (Value.string s)) HC.out, ?_⟩
  all_goals first | exact below_first _ hb | exact (below_drew1 hb).alloc hb.size _

/-- The reference's Digits, at an int from 0 on. -/
theorem digits_int (a : Int) (u : Nat) (ha : a = u) (hu : u ≤ 9223372036854775807) (w : World) :
    Calls Tryz.prog 60 #[.int .i64 a] w fun e w' => e = .returned (.string ⟨(Lib.decDigits u).toArray⟩) ∧ Below w.heap.size w w' := by
  subst ha; exact digits_any u hu w

set_option maxHeartbeats 400000 in
theorem refNumber_pos (n : Int) (h0 : 0 ≤ n) (h1 : n ≤ 9223372036854775807) (w : World) :
    Calls Tryz.prog 42 #[.int .i64 n] w fun e w' => e = .returned (.string ⟨(Lib.itoa n ++ [59]).toArray⟩) ∧ Below w.heap.size w w' := by
  have hi : Lib.itoa n = Lib.decDigits n.toNat := by unfold Lib.itoa; rw [if_neg (by omega)]
  rw [hi]
  have hl : (Lib.decDigits n.toNat).length ≤ 20 := by rw [Lib.decDigits_length]; exact nDigits_le20 _ (by omega)
  clear hi
  go_enter Tryz.func42, Tryz.ntmps42
  go_wp2_with (go_at_call 60; refine (digits_int n n.toNat (by omega) (by omega) _).mono ?_)
  rintro e w1 ⟨rfl, hb⟩
  go_wp2
  go_ret
  exact ⟨congrArg (fun s => Ending.returned (Value.string s)) (bcat _ [59] _ rfl), hb⟩

theorem tdiv_neg (u : Nat) : (-(u : Int)).tdiv 10 = -((u / 10 : Nat) : Int) := by
  rw [Int.neg_tdiv, Int.tdiv_eq_ediv_of_nonneg (by omega)]; omega
theorem tmod_neg (u : Nat) : (-(u : Int)).tmod 10 = -((u % 10 : Nat) : Int) := by
  rw [Int.neg_tmod, Int.tmod_eq_emod_of_nonneg (by omega)]; omega
theorem w64_id (a : Int) (h0 : 0 ≤ a) (h1 : a ≤ 9223372036854775807) : wrap64 a = a := by unfold wrap64; omega

theorem below_two {w w1 w2 : World} (h1 : Below w.heap.size w w1) (h2 : Below w1.heap.size w1 w2) : Below w.heap.size w w2 := h1.trans (h2.mono h1.size)

set_option maxHeartbeats 400000 in
theorem refNumber_neg1 (u : Nat) (h0 : 1 ≤ u) (h1 : u < 10) (w : World) :
    Calls Tryz.prog 42 #[.int .i64 (-(u : Int))] w fun e w' => e = .returned (.string ⟨(Lib.itoa (-(u : Int)) ++ [59]).toArray⟩) ∧ Below w.heap.size w w' := by
  have hi : Lib.itoa (-(u : Int)) = 45 :: Lib.decDigits u := by unfold Lib.itoa; rw [if_pos (by omega), Int.natAbs_neg, Int.natAbs_natCast]
  rw [hi]
  have hl : (Lib.decDigits u).length ≤ 20 := by rw [Lib.decDigits_length]; exact nDigits_le20 _ (by omega)
  clear hi
  have hq : ((-(u : Int)).tdiv 10 == 0) = true := by rw [tdiv_neg, beq_iff_eq]; omega
  have hn : -(u : Int) < 0 := by omega
  go_enter Tryz.func42, Tryz.ntmps42
  go_wp2_with fail
  refine (digits_int _ u (by omega) (by omega) _).mono ?_
  rintro e w1 ⟨rfl, hb⟩
  go_wp2
  go_ret
  exact ⟨congrArg (fun s => Ending.returned (Value.string s)) (by rw [bcat _ [59] _ rfl]; rfl), hb⟩

end Go.Proofs.YtnhnjdldgaaeoaaGreatDoor.Lay

/-
  Plain facts on bytes: digits, numbers as digits and back, what stands at a place.
-/
namespace Go.Proofs.YtnhnjdldgaaeoaaGreatDoor
open Go

/-- Is it a digit? -/
def isDig (c : UInt8) : Bool := decide (48 ≤ c.toNat) && decide (c.toNat ≤ 57)

/-- How many digits stand ahead? -/
def digRun (r : List UInt8) : Nat := (r.takeWhile isDig).length

theorem digRun_le (r : List UInt8) : digRun r ≤ r.length := by
  unfold digRun; exact List.Sublist.length_le (List.takeWhile_sublist _)

theorem take_digRun (r : List UInt8) : r.take (digRun r) = r.takeWhile isDig := by
  unfold digRun
  induction r with
  | nil => simp
  | cons c r ih =>
    rw [List.takeWhile_cons]
    by_cases h : isDig c = true
    · simp [h, ih]
    · simp [h]

theorem digRun_all (r : List UInt8) : ∀ c ∈ r.take (digRun r), isDig c = true := by
  rw [take_digRun]
  intro c hc
  have := List.all_takeWhile (p := isDig) (l := r)
  rw [List.all_eq_true] at this
  exact this c hc

theorem digRun_at (r : List UInt8) (j : Nat) (h : j < digRun r) : isDig (r.getD j 0) = true := by
  have hl := digRun_le r
  have e : r.getD j 0 = (r.take (digRun r))[j]'(by simp; omega) := by simp [List.getD, show j < r.length by omega]
  rw [e]
  exact digRun_all r _ (List.getElem_mem _)

theorem digRun_append (l : List UInt8) (hl : ∀ c ∈ l, isDig c = true) (c : UInt8) (hc : isDig c = false) (r : List UInt8) : digRun (l ++ c :: r) = l.length := by
  induction l with
  | nil => simp [digRun, hc]
  | cons x l ih =>
    have hx := hl x (by simp)
    have := ih (fun y hy => hl y (by simp [hy]))
    simp only [digRun, List.cons_append, List.takeWhile_cons, hx, if_true, List.length_cons] at *
    omega

theorem digRun_stop (r : List UInt8) (h : digRun r < r.length) : isDig (r.getD (digRun r) 0) = false := by
  induction r with
  | nil => simp at h
  | cons c r ih =>
    by_cases hc : isDig c = true
    · have e : digRun (c :: r) = digRun r + 1 := by simp [digRun, hc]
      rw [e] at h ⊢
      simp only [List.length_cons] at h
      simpa using ih (by omega)
    · have e : digRun (c :: r) = 0 := by simp [digRun, hc]
      rw [e]
      simpa using hc

/-! ### Digits as a number -/

theorem parse_append (l r : List UInt8) : ∀ (acc m : Nat), Lib.parseUint10 acc l = .ok m → Lib.parseUint10 acc (l ++ r) = Lib.parseUint10 m r := by
  induction l with
  | nil => intro acc m h; simp [Lib.parseUint10] at h; subst h; rfl
  | cons c l ih =>
    intro acc m h
    simp only [Lib.parseUint10, List.cons_append] at h ⊢
    split at h
    · rename_i hd
      rw [if_pos hd]
      split at h
      · cases h
      · rename_i h1
        rw [if_neg h1]
        split at h
        · cases h
        · rename_i h2
          rw [if_neg h2]
          exact ih _ _ h
    · cases h

theorem parse_prefix (l r : List UInt8) : ∀ (acc m : Nat), Lib.parseUint10 acc (l ++ r) = .ok m → ∃ k, Lib.parseUint10 acc l = .ok k := by
  induction l with
  | nil => intro acc m h; exact ⟨acc, rfl⟩
  | cons c l ih =>
    intro acc m h
    simp only [Lib.parseUint10, List.cons_append] at h ⊢
    split at h
    · rename_i hd
      rw [if_pos hd]
      split at h
      · cases h
      · rename_i h1
        rw [if_neg h1]
        split at h
        · cases h
        · rename_i h2
          rw [if_neg h2]
          exact ih _ _ h
    · cases h

theorem parse_digits (l : List UInt8) (hl : ∀ c ∈ l, isDig c = true) : ∀ acc, (∃ u, Lib.parseUint10 acc l = .ok u) ∨ Lib.parseUint10 acc l = .range := by
  induction l with
  | nil => intro acc; exact .inl ⟨acc, rfl⟩
  | cons c l ih =>
    intro acc
    have hc := hl c (by simp)
    simp only [isDig, Bool.and_eq_true, decide_eq_true_eq] at hc
    simp only [Lib.parseUint10]
    rw [if_pos hc]
    split
    · exact .inr rfl
    · split
      · exact .inr rfl
      · exact ih (fun y hy => hl y (by simp [hy])) _

theorem dig_byte (d : Nat) (h : d < 10) : (UInt8.ofNat (48 + d)).toNat = 48 + d := by
  rw [UInt8.toNat_ofNat']; omega

theorem parse_one (acc d : Nat) (hd : d < 10) (h : acc * 10 + d < 18446744073709551616) : Lib.parseUint10 acc [UInt8.ofNat (48 + d)] = .ok (acc * 10 + d) := by
  have e := dig_byte d hd
  simp only [Lib.parseUint10, e]
  rw [if_pos (by omega), if_neg (by omega), if_neg (by omega)]
  congr 1; omega

theorem parse_dec : ∀ (u : Nat), u < 18446744073709551616 → Lib.parseUint10 0 (Lib.decDigits u) = .ok u := by
  intro u
  induction u using Nat.strongRecOn with
  | ind u ih =>
  intro hu
  by_cases h : u < 10
  · rw [Lib.decDigits_one h, parse_one 0 u h (by omega)]; simp
  · rw [Lib.decDigits, dif_neg h, parse_append _ _ 0 (u / 10) (ih _ (by omega) (by omega)), parse_one _ _ (Nat.mod_lt _ (by decide)) (by omega)]
    congr 1; omega

theorem dec_digits (u : Nat) : ∀ c ∈ Lib.decDigits u, isDig c = true := by
  induction u using Nat.strongRecOn with
  | ind u ih =>
  by_cases h : u < 10
  · rw [Lib.decDigits_one h]
    intro c hc
    simp only [List.mem_singleton] at hc
    subst hc
    have := dig_byte u h
    simp [isDig]; omega
  · rw [Lib.decDigits, dif_neg h]
    intro c hc
    rw [List.mem_append] at hc
    rcases hc with hc | hc
    · exact ih _ (by omega) c hc
    · simp only [List.mem_singleton] at hc
      subst hc
      have := dig_byte (u % 10) (Nat.mod_lt _ (by decide))
      simp [isDig]; omega

theorem dec_ne (u : Nat) : Lib.decDigits u ≠ [] := by
  intro h
  have := Lib.decDigits_length u
  have h1 := Lib.nDigits_pos u
  rw [h] at this
  simp at this
  omega

/-- The first of several digits is no 0. -/
theorem dec_head : ∀ (u : Nat), 10 ≤ u → (Lib.decDigits u).getD 0 0 ≠ 48 := by
  intro u
  induction u using Nat.strongRecOn with
  | ind u ih =>
  intro h
  rw [Lib.decDigits, dif_neg (by omega)]
  by_cases h2 : u / 10 < 10
  · rw [Lib.decDigits_one h2]
    have e := dig_byte (u / 10) h2
    intro hc
    have := congrArg UInt8.toNat hc
    simp at this
    omega
  · have := ih (u / 10) (by omega) (by omega)
    have hne := dec_ne (u / 10)
    cases hd : Lib.decDigits (u / 10) with
    | nil => exact absurd hd hne
    | cons x l => rw [hd] at this; simpa using this

/-- Digits without a needless 0 are their number's. -/
theorem dec_parse (n : Nat) : ∀ (l : List UInt8), l.length = n → l ≠ [] → (∀ c ∈ l, isDig c = true) → (1 < l.length → l.getD 0 0 ≠ 48) → ∀ u, Lib.parseUint10 0 l = .ok u → Lib.decDigits u = l := by
  induction n with
  | zero => intro l h hne; simp at h; exact absurd h hne
  | succ n ih =>
    intro l hl hne hd h0 u hu
    obtain ⟨l', c, rfl⟩ : ∃ l' c, l = l' ++ [c] := ⟨l.dropLast, l.getLast hne, (List.dropLast_concat_getLast hne).symm⟩
    have hc : isDig c = true := hd c (by simp)
    simp only [isDig, Bool.and_eq_true, decide_eq_true_eq] at hc
    have hcb : UInt8.ofNat (48 + (c.toNat - 48)) = c := by
      rw [show 48 + (c.toNat - 48) = c.toNat by omega]; exact UInt8.ofNat_toNat
    obtain ⟨m, hm⟩ := parse_prefix l' [c] 0 u hu
    rw [parse_append l' [c] 0 m hm] at hu
    simp only [Lib.parseUint10] at hu
    rw [if_pos hc] at hu
    split at hu
    · cases hu
    split at hu
    · cases hu
    injection hu with hu
    by_cases hl' : l' = []
    · subst hl'
      simp [Lib.parseUint10] at hm
      subst hm
      have : u = c.toNat - 48 := by omega
      subst this
      rw [Lib.decDigits_one (by omega), hcb]; rfl
    · have hih := ih l' (by simp at hl; omega) hl' (fun x hx => hd x (by simp [hx])) (fun h1 => by
        have := h0 (by simp; omega)
        cases l' with
        | nil => exact absurd rfl hl'
        | cons x r => simpa using this) m hm
      have hm0 : 1 ≤ m := by
        rcases Nat.eq_zero_or_pos m with h | h
        · subst h
          have e : Lib.decDigits 0 = [48] := by rw [Lib.decDigits_one (by omega)]; rfl
          rw [e] at hih
          subst hih
          exact absurd rfl (h0 (by simp))
        · exact h
      have e1 : u / 10 = m := by omega
      have e2 : u % 10 = c.toNat - 48 := by omega
      rw [Lib.decDigits, dif_neg (by omega), e1, e2, hcb, hih]

/-! ### What stands at a place -/

/-- What is wrong with the digits that stand ahead: 5: all ends behind them; 6: there is none, the byte behind them is another one, the first of several is 0; 0: nothing. -/
def eodErr (r : List UInt8) (stop : UInt8) : Nat :=
  if digRun r = r.length then 5
  else if digRun r = 0 ∨ r.getD (digRun r) 0 ≠ stop ∨ (1 < digRun r ∧ r.getD 0 0 = 48) then 6
  else 0

theorem eodErr_le (r : List UInt8) (stop : UInt8) : eodErr r stop ≤ 6 := by unfold eodErr; split <;> (try split) <;> omega

/-- Does a '-' stand ahead? -/
def isNeg (r : List UInt8) : Bool := r.getD 0 0 == 45
def negLen (r : List UInt8) : Nat := if isNeg r then 1 else 0

/-- What a parsed number comes to: the error, the number, how many bytes. -/
def numOf (x : Lib.NumEnd Int) (c : Nat) : Nat × Int × Nat :=
  match x with
  | .ok v => (0, v, c)
  | _ => (4, 0, 0)

/-- A number: the error, the number, how many bytes. -/
def readNum (r : List UInt8) : Nat × Int × Nat :=
  if eodErr (r.drop (negLen r)) 59 ≠ 0 then (eodErr (r.drop (negLen r)) 59, 0, 0)
  else if isNeg r ∧ (r.drop (negLen r)).getD 0 0 = 48 then (6, 0, 0)
  else numOf (Lib.atoiAll (r.take (negLen r + digRun (r.drop (negLen r))))) (negLen r + digRun (r.drop (negLen r)) + 1)

theorem eod_of (l : List UInt8) (hl : ∀ c ∈ l, isDig c = true) (hne : l ≠ []) (h0 : 1 < l.length → l.getD 0 0 ≠ 48) (stop : UInt8) (hs : isDig stop = false) (rest : List UInt8) :
    eodErr (l ++ stop :: rest) stop = 0 ∧ digRun (l ++ stop :: rest) = l.length := by
  have e := digRun_append l hl stop hs rest
  refine ⟨?_, e⟩
  unfold eodErr
  rw [e, if_neg (by simp), if_neg]
  intro h
  have hlen : 0 < l.length := List.length_pos_iff.2 hne
  rcases h with h | h | ⟨h1, h2⟩
  · omega
  · exact h (by simp [List.getD])
  · cases l with
    | nil => exact hne rfl
    | cons x l => exact h0 h1 (by simpa using h2)

theorem isDig_ne {c : UInt8} (h : isDig c = true) : c ≠ 45 ∧ c ≠ 43 ∧ c.toNat ≠ 45 ∧ c.toNat ≠ 43 := by
  simp only [isDig, Bool.and_eq_true, decide_eq_true_eq] at h
  refine ⟨fun e => ?_, fun e => ?_, by omega, by omega⟩
  · subst e; revert h; decide
  · subst e; revert h; decide

theorem dec_head1 (u : Nat) (h : 1 < (Lib.decDigits u).length) : (Lib.decDigits u).getD 0 0 ≠ 48 := by
  apply dec_head
  rcases Nat.lt_or_ge u 10 with h1 | h1
  · rw [Lib.decDigits_one h1] at h; simp at h
  · exact h1

theorem dec_headNz (u : Nat) (h : 1 ≤ u) : (Lib.decDigits u).getD 0 0 ≠ 48 := by
  rcases Nat.lt_or_ge u 10 with h1 | h1
  · rw [Lib.decDigits_one h1]
    have e := dig_byte u h1
    intro hc
    have := congrArg UInt8.toNat hc
    simp at this
    omega
  · exact dec_head u h1

theorem atoi_dec (u : Nat) (h : u ≤ 9223372036854775807) : Lib.atoiAll (Lib.decDigits u) = .ok (u : Int) := by
  have hp := parse_dec u (by omega)
  have hd := dec_digits u
  cases hl : Lib.decDigits u with
  | nil => exact absurd hl (dec_ne u)
  | cons c r =>
    rw [hl] at hp hd
    have hc := isDig_ne (hd c (by simp))
    simp only [Lib.atoiAll]
    rw [if_neg (by omega)]
    simp only [Lib.parseMag]
    rw [if_neg (by simp), hp]
    simp only
    rw [if_neg (by omega), if_neg (by omega), if_neg hc.2.2.1]

theorem atoi_negdec (u : Nat) (h : u ≤ 9223372036854775808) : Lib.atoiAll (45 :: Lib.decDigits u) = .ok (-(u : Int)) := by
  have hp := parse_dec u (by omega)
  simp only [Lib.atoiAll]
  rw [if_pos (Or.inr (by decide))]
  simp only [Lib.parseMag]
  rw [if_neg (dec_ne u), hp]
  have h2 : ¬ 9223372036854775808 < u := by omega
  simp [h2]

/-- What was laid is read as it was. -/
theorem readNum_back (n : Int) (h0 : -9223372036854775808 ≤ n) (h1 : n ≤ 9223372036854775807) (rest : List UInt8) :
    readNum (Lib.itoa n ++ 59 :: rest) = (0, n, (Lib.itoa n).length + 1) := by
  by_cases hn : n < 0
  · have e : Lib.itoa n = 45 :: Lib.decDigits n.natAbs := by unfold Lib.itoa; rw [if_pos hn]
    have hneg : isNeg (45 :: Lib.decDigits n.natAbs ++ 59 :: rest) = true := by simp [isNeg]
    have hnl : negLen (45 :: Lib.decDigits n.natAbs ++ 59 :: rest) = 1 := by unfold negLen; rw [if_pos hneg]
    have hdr : (45 :: Lib.decDigits n.natAbs ++ 59 :: rest).drop 1 = Lib.decDigits n.natAbs ++ 59 :: rest := rfl
    obtain ⟨he, hd⟩ := eod_of (Lib.decDigits n.natAbs) (dec_digits _) (dec_ne _) (dec_head1 _) 59 (by decide) rest
    rw [e]
    unfold readNum
    rw [hnl, hdr, he, hd, if_neg (by simp), if_neg]
    · have ht : (45 :: Lib.decDigits n.natAbs ++ 59 :: rest).take (1 + (Lib.decDigits n.natAbs).length) = 45 :: Lib.decDigits n.natAbs := by
        rw [Nat.add_comm, List.cons_append, List.take_succ_cons, List.take_left']; rfl
      rw [ht, atoi_negdec _ (by omega)]
      simp only [numOf, List.length_cons]
      rw [show -(n.natAbs : Int) = n by omega, Nat.add_comm 1]
    · rintro ⟨-, h⟩
      refine dec_headNz n.natAbs (by omega) ?_
      cases hl : Lib.decDigits n.natAbs with
      | nil => exact absurd hl (dec_ne _)
      | cons c r => rw [hl] at h; simpa using h
  · have e : Lib.itoa n = Lib.decDigits n.toNat := by unfold Lib.itoa; rw [if_neg hn]
    have hneg : isNeg (Lib.decDigits n.toNat ++ 59 :: rest) = false := by
      cases hl : Lib.decDigits n.toNat with
      | nil => exact absurd hl (dec_ne _)
      | cons c r =>
        have hc := isDig_ne (dec_digits n.toNat c (by rw [hl]; simp))
        simp [isNeg, hc.1]
    have hnl : negLen (Lib.decDigits n.toNat ++ 59 :: rest) = 0 := by unfold negLen; rw [hneg]; rfl
    obtain ⟨he, hd⟩ := eod_of (Lib.decDigits n.toNat) (dec_digits _) (dec_ne _) (dec_head1 _) 59 (by decide) rest
    rw [e]
    unfold readNum
    rw [hnl, List.drop_zero, he, hd, if_neg (by simp), if_neg (by simp [hneg])]
    have ht : (Lib.decDigits n.toNat ++ 59 :: rest).take (0 + (Lib.decDigits n.toNat).length) = Lib.decDigits n.toNat := by
      rw [Nat.zero_add, List.take_left']; rfl
    rw [ht, atoi_dec _ (by omega)]
    simp only [numOf]
    rw [show ((n.toNat : Nat) : Int) = n by omega, Nat.zero_add]

end Go.Proofs.YtnhnjdldgaaeoaaGreatDoor

/-
  What lay.ReadNumber answers, at every place of every text.
-/
namespace Go.Proofs.YtnhnjdldgaaeoaaGreatDoor.Lay
open Go.RowKit Go.Joins
set_option maxRecDepth 100000

set_option maxHeartbeats 400000 in
theorem place_yes (s : ByteArray) (p : Nat) (h : p ≤ s.size) (w : World) :
    Calls Tryz.prog 65 #[.string s, .int .i64 p] w fun e w' => e = .returned (.bool true) ∧ w' = w := by
  have h1 : decide ((p : Int) ≤ (s.size : Int)) = true := by simp; omega
  go_enter Tryz.func65, Tryz.ntmps65
  go_wp2
  go_ret
  exact ⟨rfl, rfl⟩

set_option maxHeartbeats 400000 in
theorem place_no (s : ByteArray) (p : Int) (h : p < 0 ∨ (s.size : Int) < p) (w : World) :
    Calls Tryz.prog 65 #[.string s, .int .i64 p] w fun e w' => e = .returned (.bool false) ∧ w' = w := by
  by_cases h0 : 0 ≤ p
  · have h1 : decide (p ≤ (s.size : Int)) = false := by simp; omega
    have h2 : decide (0 ≤ p) = true := by simp; omega
    go_enter Tryz.func65, Tryz.ntmps65
    go_wp2
    go_ret
    exact ⟨rfl, rfl⟩
  · have h2 : decide (0 ≤ p) = false := by simp; omega
    go_enter Tryz.func65, Tryz.ntmps65
    go_wp2
    go_ret
    exact ⟨rfl, rfl⟩

theorem byte_at (s : ByteArray) (i : Nat) (h : i < s.size) : s.data.toList.getD i 0 = s[i] := by
  have h' : i < s.data.toList.length := by simpa using h
  rw [List.getD, List.getElem?_eq_getElem h']
  rfl
theorem byte_drop (s : ByteArray) (p k : Nat) (h : p + k < s.size) : (s.data.toList.drop p).getD k 0 = s[p + k] := by
  rw [← byte_at s (p + k) h]; simp [List.getD]

/-- The place behind the digits, or 0 beside an error. -/
def eodTo (p : Nat) (r : List UInt8) (stop : UInt8) : Nat := if eodErr r stop = 0 then p + digRun r else 0
theorem eodTo_err {p : Nat} {r : List UInt8} {c : UInt8} {n : Nat} (h : eodErr r c = n) (hn : n ≠ 0) : eodTo p r c = 0 := by unfold eodTo; rw [if_neg (by omega)]
theorem eodTo_ok {p : Nat} {r : List UInt8} {c : UInt8} (h : eodErr r c = 0) : eodTo p r c = p + digRun r := by unfold eodTo; rw [if_pos h]

theorem ret_two {a b a' b' : Int} (h1 : a = a') (h2 : b = b') : Ending.returned (.tuple #[.int .i64 a, .int .i64 b]) = .returned (.tuple #[.int .i64 a', .int .i64 b']) := by rw [h1, h2]

set_option maxHeartbeats 1000000 in
theorem eod_any (s : ByteArray) (p : Nat) (h : p ≤ s.size) (c : UInt8) (hs : s.size ≤ maxLen) (w : World) (r : List UInt8) (HR : Hid (s.data.toList.drop p = r)) :
    Calls Tryz.prog 67 #[.string s, .int .i64 p, .int .u8 c.toNat] w fun e w' => e = .returned (.tuple #[.int .i64 (eodTo p r c), .int .i64 (eodErr r c)]) ∧ w' = w := by
  unfold maxLen at hs
  have hl := digRun_le r
  have hl2 : r.length = s.size - p := by rw [← HR.out]; simp
  have HD := digRun_at r
  have HS := digRun_stop r
  go_enter Tryz.func67, Tryz.ntmps67
  go_wp2
  go_loop [8] (fun i => ∃ k : Nat, k ≤ digRun r ∧ i = .int .i64 ((p + k : Nat) : Int)) (fun i => s.size - (intOf i).toNat)
  case atStart => exact ⟨0, Nat.zero_le _, rfl⟩
  case round =>
    obtain ⟨k, hk, rfl⟩ := hrel
    by_cases hlt : k < digRun r
    · have hd := HD k hlt
      have hps : p + k < s.size := by omega
      rw [← HR.out, byte_drop s p k hps] at hd
      simp only [isDig, Bool.and_eq_true, decide_eq_true_eq] at hd
      obtain ⟨hd1, hd2⟩ := hd
      clear HD HS
      go_wp2
      go_round
      case rel => exact ⟨k + 1, by omega, by go_num⟩
      case measure => simp [intOf]; omega
    · have hke : k = digRun r := by omega
      subst hke
      clear HD
      by_cases hend : digRun r = r.length
      · have hps : p + digRun r = s.size := by omega
        have HE : Hid (eodErr r c = 5) := by show _ = _; unfold eodErr; rw [if_pos hend]
        have hq : (((p : Int) + (digRun r : Int)) == (s.size : Int)) = true := by rw [beq_iff_eq]; omega
        have hq2 : ¬ ((p : Int) + (digRun r : Int)) < (s.size : Int) := by omega
        clear HS
        go_wp2
        go_ret2
        exact ⟨ret_two (by rw [eodTo_err HE.out (by decide)]; rfl) (by rw [HE.out]; rfl), rfl⟩
      · have hps : p + digRun r < s.size := by omega
        have hst := HS (by omega)
        have hgd : r.getD (digRun r) 0 = s[p + digRun r] := by have := byte_drop s p (digRun r) hps; rw [HR.out] at this; exact this
        have hp : p < s.size := by omega
        rw [hgd] at hst
        have hg0 : r.getD 0 0 = s[p] := by have := byte_drop s p 0 (by omega); rw [HR.out] at this; exact this
        have HE : Hid (eodErr r c = if digRun r = 0 ∨ s[p + digRun r] ≠ c ∨ (1 < digRun r ∧ s[p] = 48) then 6 else 0) := by show _ = _; unfold eodErr; rw [if_neg hend, hgd, hg0]
        clear HS hgd hg0
        have hq : (((p : Int) + (digRun r : Int)) == (s.size : Int)) = false := by rw [beq_eq_false_iff_ne]; omega
        have hnd : ((s[p + digRun r].toNat : Int) < 48) ∨ (57 < (s[p + digRun r].toNat : Int)) := by
          simp only [isDig, Bool.and_eq_false_iff, decide_eq_false_iff_not] at hst; omega
        clear hst
        by_cases h0 : digRun r = 0
        · have HE6 : Hid (eodErr r c = 6) := by show _ = _; rw [HE.out, if_pos (Or.inl h0)]
          have hb : (((p : Int) + (digRun r : Int)) == (p : Int)) = true := by rw [beq_iff_eq]; omega
          have hb1 : ¬ 1 < (p : Int) + (digRun r : Int) - (p : Int) := by omega
          clear HE h0
          rcases hnd with hnd | hnd
          all_goals
            go_wp2
            go_ret2
            exact ⟨ret_two (by rw [eodTo_err HE6.out (by decide)]; rfl) (by rw [HE6.out]; rfl), rfl⟩
        · have hb : (((p : Int) + (digRun r : Int)) == (p : Int)) = false := by rw [beq_eq_false_iff_ne]; omega
          by_cases hc : s[p + digRun r] = c
          · have hcb : ((s[p + digRun r].toNat : Int) != (c.toNat : Int)) = false := by rw [hc]; simp
            by_cases h1 : 1 < digRun r
            · have hb1 : 1 < (p : Int) + (digRun r : Int) - (p : Int) := by omega
              by_cases hz : s[p] = 48
              · have HE6 : Hid (eodErr r c = 6) := by show _ = _; rw [HE.out, if_pos (Or.inr (Or.inr ⟨h1, hz⟩))]
                have hzb : ((s[p].toNat : Int) == 48) = true := by rw [beq_iff_eq, hz]; rfl
                clear HE h0 hc hz
                rcases hnd with hnd | hnd
                all_goals
                  go_wp2
                  go_ret2
                  exact ⟨ret_two (by rw [eodTo_err HE6.out (by decide)]; rfl) (by rw [HE6.out]; rfl), rfl⟩
              · have HE0 : Hid (eodErr r c = 0) := by show _ = _; rw [HE.out, if_neg]; exact fun h' => h'.elim h0 (fun h' => h'.elim (fun h' => h' hc) (fun h' => hz h'.2))
                have hzb : ((s[p].toNat : Int) == 48) = false := by
                  rw [beq_eq_false_iff_ne]; intro h'; apply hz; apply UInt8.toNat_inj.1; show _ = 48; omega
                clear HE h0 hc hz
                rcases hnd with hnd | hnd
                all_goals
                  go_wp2
                  go_ret2
                  exact ⟨ret_two (by rw [eodTo_ok HE0.out]; omega) (by rw [HE0.out]; rfl), rfl⟩
            · have hb1 : ¬ 1 < (p : Int) + (digRun r : Int) - (p : Int) := by omega
              have HE0 : Hid (eodErr r c = 0) := by show _ = _; rw [HE.out, if_neg]; exact fun h' => h'.elim h0 (fun h' => h'.elim (fun h' => h' hc) (fun h' => h1 h'.1))
              clear HE h0 hc h1
              rcases hnd with hnd | hnd
              all_goals
                go_wp2
                go_ret2
                exact ⟨ret_two (by rw [eodTo_ok HE0.out]; omega) (by rw [HE0.out]; rfl), rfl⟩
          · have hcb : ((s[p + digRun r].toNat : Int) == (c.toNat : Int)) = false := by
              rw [beq_eq_false_iff_ne]; intro h'; apply hc; apply UInt8.toNat_inj.1; omega
            have hcn : ((s[p + digRun r].toNat : Int) != (c.toNat : Int)) = true := by rw [bne, hcb]; rfl
            have HE6 : Hid (eodErr r c = 6) := by show _ = _; rw [HE.out, if_pos (Or.inr (Or.inl hc))]
            clear HE h0 hc
            rcases hnd with hnd | hnd
            all_goals
              clear hcb
              by_cases h1 : 1 < (p : Int) + (digRun r : Int) - (p : Int)
              all_goals
                go_wp2
                all_goals
                  go_ret2
                  exact ⟨ret_two (by rw [eodTo_err HE6.out (by decide)]; rfl) (by rw [HE6.out]; rfl), rfl⟩
end Go.Proofs.YtnhnjdldgaaeoaaGreatDoor.Lay

/-
  What lay.ReadNumber answers, at every place of every text.
-/
namespace Go.Proofs.YtnhnjdldgaaeoaaGreatDoor.Lay
open Go.RowKit Go.Joins
set_option maxRecDepth 100000

theorem eod_ok (s : ByteArray) (q : Int) (p : Nat) (hq : q = p) (h : p ≤ s.size) (c : UInt8) (hs : s.size ≤ maxLen) (w : World) (r : List UInt8) (HR : Hid (s.data.toList.drop p = r)) (he : eodErr r c = 0) :
    Calls Tryz.prog 67 #[.string s, .int .i64 q, .int .u8 c.toNat] w fun e w' => e = .returned (.tuple #[.int .i64 ((p + digRun r : Nat) : Int), .int .i64 0]) ∧ w' = w := by
  subst hq
  refine (eod_any s p h c hs w r HR).mono ?_
  rintro e w' ⟨rfl, rfl⟩
  rw [eodTo_ok he, he]
  exact ⟨rfl, rfl⟩

theorem eod_bad (s : ByteArray) (q : Int) (p : Nat) (hq : q = p) (h : p ≤ s.size) (c : UInt8) (hs : s.size ≤ maxLen) (w : World) (r : List UInt8) (HR : Hid (s.data.toList.drop p = r)) (n : Nat) (he : eodErr r c = n) (hn : n ≠ 0) :
    Calls Tryz.prog 67 #[.string s, .int .i64 q, .int .u8 c.toNat] w fun e w' => e = .returned (.tuple #[.int .i64 0, .int .i64 n]) ∧ w' = w := by
  subst hq
  refine (eod_any s p h c hs w r HR).mono ?_
  rintro e w' ⟨rfl, rfl⟩
  rw [eodTo_err he hn, he]
  exact ⟨rfl, rfl⟩

theorem pre_minus (s : ByteArray) (p : Nat) (w : World) (b : Bool) (hb : isNeg (s.data.toList.drop p) = b) :
    Calls Tryz.prog 66 #[.string (s.extract p s.size), .string ⟨#[45]⟩] w fun e w' => e = .returned (.bool b) ∧ w' = w := by
  refine (Tryz.strings_HasPrefix _ _ w).mono ?_
  rintro e w' ⟨rfl, rfl⟩
  rw [Lib.extract_data, List.take_of_length_le (by simp), ← hb]
  refine ⟨?_, rfl⟩
  congr 2
  generalize s.data.toList.drop p = l
  cases l with
  | nil => rfl
  | cons x l => simp only [Lib.hasPrefix, isNeg, List.isPrefixOf, List.getD_cons_zero, Bool.and_true]; rw [Bool.eq_iff_iff, beq_iff_eq, beq_iff_eq]; exact eq_comm

set_option maxHeartbeats 400000 in
theorem rd_out (s : ByteArray) (p : Int) (h : p < 0 ∨ (s.size : Int) < p) (w : World) :
    Calls Tryz.prog 49 #[.string s, .int .i64 p] w fun e w' => e = .returned (.tuple #[.int .i64 0, .int .i64 0, .int .i64 3]) ∧ w' = w := by
  go_enter Tryz.func49, Tryz.ntmps49
  go_wp2_with fail
  refine (place_no s p h _).mono ?_
  rintro e w' ⟨rfl, rfl⟩
  go_wp2
  go_ret3
  exact ⟨rfl, rfl⟩

set_option maxHeartbeats 400000 in
theorem rd_negbad (s : ByteArray) (p : Nat) (h : p < s.size) (hs : s.size ≤ maxLen) (hneg : isNeg (s.data.toList.drop p) = true) (r : List UInt8) (HR : Hid (s.data.toList.drop (p + 1) = r)) (n : Nat) (he : eodErr r 59 = n) (hn : n ≠ 0) (w : World) :
    Calls Tryz.prog 49 #[.string s, .int .i64 p] w fun e w' => e = .returned (.tuple #[.int .i64 0, .int .i64 0, .int .i64 n]) ∧ w' = w := by
  have HS : Hid (s.size ≤ maxLen) := hs
  unfold maxLen at hs
  have HE : Hid (eodErr r 59 = n) := he
  have HG : Hid (isNeg (s.data.toList.drop p) = true) := hneg
  have hnb : ((n : Int) != 0) = true := by rw [bne_iff_ne]; omega
  clear he hneg
  go_enter Tryz.func49, Tryz.ntmps49
  go_wp2_with fail
  refine (place_yes s p (by omega) _).mono ?_
  rintro e w' ⟨rfl, hw⟩
  subst hw
  go_wp2_with fail
  refine (pre_minus s p _ true HG.out).mono ?_
  rintro e w' ⟨rfl, hw⟩
  subst hw
  go_wp2_with fail
  refine (eod_bad s _ (p + 1) (by omega) (by omega) 59 HS.out _ r HR n HE.out hn).mono ?_
  rintro e w' ⟨rfl, hw⟩
  subst hw
  go_wp2
  go_ret3
  exact ⟨rfl, rfl⟩

set_option maxHeartbeats 400000 in
theorem rd_posbad (s : ByteArray) (p : Nat) (h : p ≤ s.size) (hs : s.size ≤ maxLen) (hneg : isNeg (s.data.toList.drop p) = false) (r : List UInt8) (HR : Hid (s.data.toList.drop p = r)) (n : Nat) (he : eodErr r 59 = n) (hn : n ≠ 0) (w : World) :
    Calls Tryz.prog 49 #[.string s, .int .i64 p] w fun e w' => e = .returned (.tuple #[.int .i64 0, .int .i64 0, .int .i64 n]) ∧ w' = w := by
  have HS : Hid (s.size ≤ maxLen) := hs
  unfold maxLen at hs
  have HE : Hid (eodErr r 59 = n) := he
  have HG : Hid (isNeg (s.data.toList.drop p) = false) := hneg
  have hnb : ((n : Int) != 0) = true := by rw [bne_iff_ne]; omega
  clear he hneg
  go_enter Tryz.func49, Tryz.ntmps49
  go_wp2_with fail
  refine (place_yes s p (by omega) _).mono ?_
  rintro e w' ⟨rfl, hw⟩
  subst hw
  go_wp2_with fail
  refine (pre_minus s p _ false HG.out).mono ?_
  rintro e w' ⟨rfl, hw⟩
  subst hw
  go_wp2_with fail
  refine (eod_bad s _ p (by omega) (by omega) 59 HS.out _ r HR n HE.out hn).mono ?_
  rintro e w' ⟨rfl, hw⟩
  subst hw
  go_wp2
  go_ret3
  exact ⟨rfl, rfl⟩

set_option maxHeartbeats 400000 in
theorem rd_negzero (s : ByteArray) (p : Nat) (hs : s.size ≤ maxLen) (hneg : isNeg (s.data.toList.drop p) = true) (r : List UInt8) (HR : Hid (s.data.toList.drop (p + 1) = r)) (he : eodErr r 59 = 0) (h1 : p + 1 < s.size) (hz : s[p + 1] = 48) (w : World) :
    Calls Tryz.prog 49 #[.string s, .int .i64 p] w fun e w' => e = .returned (.tuple #[.int .i64 0, .int .i64 0, .int .i64 6]) ∧ w' = w := by
  have HS : Hid (s.size ≤ maxLen) := hs
  unfold maxLen at hs
  have HE : Hid (eodErr r 59 = 0) := he
  have HG : Hid (isNeg (s.data.toList.drop p) = true) := hneg
  have hzb : ((s[p + 1].toNat : Int) == 48) = true := by rw [beq_iff_eq, hz]; rfl
  clear he hneg hz
  go_enter Tryz.func49, Tryz.ntmps49
  go_wp2_with fail
  refine (place_yes s p (by omega) _).mono ?_
  rintro e w' ⟨rfl, hw⟩
  subst hw
  go_wp2_with fail
  refine (pre_minus s p _ true HG.out).mono ?_
  rintro e w' ⟨rfl, hw⟩
  subst hw
  go_wp2_with fail
  refine (eod_ok s _ (p + 1) (by omega) (by omega) 59 HS.out _ r HR HE.out).mono ?_
  rintro e w' ⟨rfl, hw⟩
  subst hw
  go_wp2
  go_ret3
  exact ⟨rfl, rfl⟩

/-- What Atoi answers at digits, with or without a '-'. -/
theorem atoi_at (x : ByteArray) (l : List UInt8) (hx : x.data.toList = l) (hlim : x.size ≤ 281474976710656) (hl : (∃ v, Lib.atoiAll l = .ok v) ∨ Lib.atoiAll l = .range) (w : World) (ht : Tabs w) :
    Calls Tryz.prog 68 #[.string x] w fun e w' => ((∃ v, Lib.atoiAll l = .ok v ∧ e = .returned (.tuple #[.int .i64 v, .nilIface])) ∨ (Lib.atoiAll l = .range ∧ ∃ v tt pp, e = .returned (.tuple #[.int .i64 v, .iface tt pp]))) ∧ Below w.heap.size w w' := by
  subst hx
  rcases hl with ⟨v, hv⟩ | hr
  · refine (Tryz.strconv_Atoi_ok x (by omega) v hv w).mono ?_
    rintro e w' ⟨rfl, hw⟩
    refine ⟨.inl ⟨v, hv, rfl⟩, ?_⟩
    rcases hw with rfl | ⟨t, rfl⟩
    · exact Below.refl _ _
    · exact below_bytesWorld _ _ _ _ (Nat.le_refl _)
  · obtain ⟨tp, p, hvar⟩ := ht.2
    refine (Tryz.strconv_Atoi_range_var x hlim hr tp p w hvar).mono ?_
    rintro e w' ⟨N, rfl, -, -, hb⟩
    exact ⟨.inr ⟨hr, _, _, _, rfl⟩, hb⟩

theorem extract_size (s : ByteArray) (a b : Nat) : (s.extract a b).size ≤ s.size := by
  have h := congrArg List.length (Lib.extract_data s a b)
  rw [List.length_take, List.length_drop] at h
  have e1 : (s.extract a b).data.toList.length = (s.extract a b).size := by rw [Array.length_toList]; rfl
  have e2 : s.data.toList.length = s.size := by rw [Array.length_toList]; rfl
  omega

set_option maxHeartbeats 400000 in
theorem rd_neg (s : ByteArray) (p : Nat) (hs : s.size ≤ 281474976710656) (hneg : isNeg (s.data.toList.drop p) = true) (r : List UInt8) (HR : Hid (s.data.toList.drop (p + 1) = r)) (he : eodErr r 59 = 0) (h1 : p + 1 < s.size) (hz : s[p + 1] ≠ 48)
    (l : List UInt8) (hlt : (s.data.toList.drop p).take (1 + digRun r) = l) (hl : (∃ v, Lib.atoiAll l = .ok v) ∨ Lib.atoiAll l = .range) (w : World) (ht : Tabs w) :
    Calls Tryz.prog 49 #[.string s, .int .i64 p] w fun e w' => ((∃ v, Lib.atoiAll l = .ok v ∧ e = .returned (.tuple #[.int .i64 v, .int .i64 ((p + (1 + digRun r + 1) : Nat) : Int), .int .i64 0])) ∨ (Lib.atoiAll l = .range ∧ e = .returned (.tuple #[.int .i64 0, .int .i64 0, .int .i64 4]))) ∧ Below w.heap.size w w' := by
  have HS : Hid (s.size ≤ maxLen) := by show s.size ≤ 9223372036854775807; omega
  have HE : Hid (eodErr r 59 = 0) := he
  have HG : Hid (isNeg (s.data.toList.drop p) = true) := hneg
  have HL : Hid ((s.data.toList.drop p).take (1 + digRun r) = l) := hlt
  have hzb : ((s[p + 1].toNat : Int) == 48) = false := by
    rw [beq_eq_false_iff_ne]; intro h'; apply hz; apply UInt8.toNat_inj.1; show _ = 48; omega
  have hdl := digRun_le r
  have hrl : r.length = s.size - (p + 1) := by rw [← HR.out]; simp
  have hde : p + 1 + digRun r ≤ s.size := by omega
  have HLL : Hid ((∃ v, Lib.atoiAll l = .ok v) ∨ Lib.atoiAll l = .range) := hl
  clear he hneg hz hlt hl hrl
  go_enter Tryz.func49, Tryz.ntmps49
  go_wp2_with fail
  refine (place_yes s p (by omega) _).mono ?_
  rintro e w' ⟨rfl, hw⟩
  subst hw
  go_wp2_with fail
  refine (pre_minus s p _ true HG.out).mono ?_
  rintro e w' ⟨rfl, hw⟩
  subst hw
  go_wp2_with fail
  refine (eod_ok s _ (p + 1) (by omega) (by omega) 59 HS.out _ r HR HE.out).mono ?_
  rintro e w' ⟨rfl, hw⟩
  subst hw
  go_wp2_with fail
  refine (atoi_at (s.extract p (p + 1 + digRun r)) l (by rw [Lib.extract_data, show p + 1 + digRun r - p = 1 + digRun r by omega]; exact HL.out) (Nat.le_trans (extract_size _ _ _) hs) HLL.out _ ht).mono ?_
  rintro e w2 ⟨(⟨v, hv, rfl⟩ | ⟨hr, v, tt, pp, rfl⟩), hb⟩
  · have HV : Hid (Lib.atoiAll l = .ok v) := hv
    clear hv HLL
    go_wp2
    go_ret3
    exact ⟨.inl ⟨v, HV.out, by simp; omega⟩, hb⟩
  · have HV : Hid (Lib.atoiAll l = .range) := hr
    clear hr HLL
    go_wp2
    go_ret3
    exact ⟨.inr ⟨HV.out, rfl⟩, hb⟩

set_option maxHeartbeats 400000 in
theorem rd_pos (s : ByteArray) (p : Nat) (hs : s.size ≤ 281474976710656) (hneg : isNeg (s.data.toList.drop p) = false) (r : List UInt8) (HR : Hid (s.data.toList.drop p = r)) (he : eodErr r 59 = 0) (h1 : p ≤ s.size)
    (l : List UInt8) (hlt : (s.data.toList.drop p).take (0 + digRun r) = l) (hl : (∃ v, Lib.atoiAll l = .ok v) ∨ Lib.atoiAll l = .range) (w : World) (ht : Tabs w) :
    Calls Tryz.prog 49 #[.string s, .int .i64 p] w fun e w' => ((∃ v, Lib.atoiAll l = .ok v ∧ e = .returned (.tuple #[.int .i64 v, .int .i64 ((p + (0 + digRun r + 1) : Nat) : Int), .int .i64 0])) ∨ (Lib.atoiAll l = .range ∧ e = .returned (.tuple #[.int .i64 0, .int .i64 0, .int .i64 4]))) ∧ Below w.heap.size w w' := by
  have HS : Hid (s.size ≤ maxLen) := by show s.size ≤ 9223372036854775807; omega
  have HE : Hid (eodErr r 59 = 0) := he
  have HG : Hid (isNeg (s.data.toList.drop p) = false) := hneg
  have HL : Hid ((s.data.toList.drop p).take (0 + digRun r) = l) := hlt
  have hdl := digRun_le r
  have hrl : r.length = s.size - p := by rw [← HR.out]; simp
  have hde : p + digRun r ≤ s.size := by omega
  have HLL : Hid ((∃ v, Lib.atoiAll l = .ok v) ∨ Lib.atoiAll l = .range) := hl
  clear he hneg hlt hl hrl
  go_enter Tryz.func49, Tryz.ntmps49
  go_wp2_with fail
  refine (place_yes s p (by omega) _).mono ?_
  rintro e w' ⟨rfl, hw⟩
  subst hw
  go_wp2_with fail
  refine (pre_minus s p _ false HG.out).mono ?_
  rintro e w' ⟨rfl, hw⟩
  subst hw
  go_wp2_with fail
  refine (eod_ok s _ p (by omega) (by omega) 59 HS.out _ r HR HE.out).mono ?_
  rintro e w' ⟨rfl, hw⟩
  subst hw
  go_wp2_with fail
  refine (atoi_at (s.extract p (p + digRun r)) l (by rw [Lib.extract_data, show p + digRun r - p = 0 + digRun r by omega]; exact HL.out) (Nat.le_trans (extract_size _ _ _) hs) HLL.out _ ht).mono ?_
  rintro e w2 ⟨(⟨v, hv, rfl⟩ | ⟨hr, v, tt, pp, rfl⟩), hb⟩
  · have HV : Hid (Lib.atoiAll l = .ok v) := hv
    clear hv HLL
    go_wp2
    go_ret3
    exact ⟨.inl ⟨v, HV.out, by simp; omega⟩, hb⟩
  · have HV : Hid (Lib.atoiAll l = .range) := hr
    clear hr HLL
    go_wp2
    go_ret3
    exact ⟨.inr ⟨HV.out, rfl⟩, hb⟩

/-- The place behind a number, or 0 beside an error. -/
def numTo (p : Nat) (r : List UInt8) : Nat := if (readNum r).1 = 0 then p + (readNum r).2.2 else 0

theorem atoi_digits (l : List UInt8) (hl : ∀ c ∈ l, isDig c = true) (hne : l ≠ []) : (∃ v, Lib.atoiAll l = .ok v) ∨ Lib.atoiAll l = .range := by
  have hp := parse_digits l hl 0
  cases l with
  | nil => exact absurd rfl hne
  | cons c r =>
    have hc := isDig_ne (hl c (by simp))
    simp only [Lib.atoiAll]
    rw [if_neg (by omega)]
    simp only [Lib.parseMag]
    rw [if_neg (by simp)]
    rcases hp with ⟨u, hu⟩ | hu
    · rw [hu]
      simp only
      split
      · exact .inr rfl
      · split
        · exact .inr rfl
        · exact .inl ⟨_, rfl⟩
    · rw [hu]; exact .inr rfl

theorem atoi_negdigits (l : List UInt8) (hl : ∀ c ∈ l, isDig c = true) (hne : l ≠ []) : (∃ v, Lib.atoiAll (45 :: l) = .ok v) ∨ Lib.atoiAll (45 :: l) = .range := by
  have hp := parse_digits l hl 0
  simp only [Lib.atoiAll]
  rw [if_pos (Or.inr (by decide))]
  simp only [Lib.parseMag]
  rw [if_neg hne]
  rcases hp with ⟨u, hu⟩ | hu
  · rw [hu]
    simp only
    split
    · exact .inr rfl
    · split
      · exact .inr rfl
      · exact .inl ⟨_, rfl⟩
  · rw [hu]; exact .inr rfl

theorem eod_zero {r : List UInt8} {c : UInt8} (h : eodErr r c = 0) : 0 < digRun r ∧ digRun r < r.length ∧ r.getD (digRun r) 0 = c ∧ (1 < digRun r → r.getD 0 0 ≠ 48) := by
  unfold eodErr at h
  have hl := digRun_le r
  split at h
  · omega
  · split at h
    · omega
    · rename_i h1 h2
      refine ⟨?_, by omega, ?_, ?_⟩
      · rcases Nat.eq_zero_or_pos (digRun r) with h3 | h3
        · exact absurd (Or.inl h3) h2
        · exact h3
      · by_cases h3 : r.getD (digRun r) 0 = c
        · exact h3
        · exact absurd (Or.inr (Or.inl h3)) h2
      · intro h3 h4; exact h2 (Or.inr (Or.inr ⟨h3, h4⟩))

theorem neg_form {r : List UInt8} (h : isNeg r = true) : ∃ r', r = 45 :: r' := by
  cases r with
  | nil => simp [isNeg] at h
  | cons c r => simp [isNeg] at h; exact ⟨r, by rw [h]⟩

theorem readNumber_any (s : ByteArray) (p : Nat) (h : p ≤ s.size) (hs : s.size ≤ 281474976710656) (w : World) (ht : Tabs w) (r : List UInt8) (hr : s.data.toList.drop p = r) :
    Calls Tryz.prog 49 #[.string s, .int .i64 p] w fun e w' => e = .returned (.tuple #[.int .i64 (readNum r).2.1, .int .i64 (numTo p r), .int .i64 (readNum r).1]) ∧ Below w.heap.size w w' := by
  have hlen : r.length = s.size - p := by rw [← hr]; simp
  have hsm : s.size ≤ maxLen := by show s.size ≤ 9223372036854775807; omega
  cases hneg : isNeg r with
  | true =>
    obtain ⟨r', rfl⟩ := neg_form hneg
    have hp : p < s.size := by simp at hlen; omega
    have hr' : s.data.toList.drop (p + 1) = r' := by rw [← List.drop_drop, hr]; rfl
    have hnl : negLen (45 :: r') = 1 := by unfold negLen; rw [if_pos hneg]
    have hd : (45 :: r').drop 1 = r' := rfl
    by_cases he : eodErr r' 59 = 0
    · obtain ⟨k0, k1, -, -⟩ := eod_zero he
      have h1 : p + 1 < s.size := by simp at hlen; omega
      have hg : r'.getD 0 0 = s[p + 1] := by rw [← byte_drop s (p + 1) 0 (by omega), hr']
      by_cases hz : s[p + 1] = 48
      · have e : readNum (45 :: r') = (6, 0, 0) := by
          unfold readNum; rw [hnl, hd, he, if_neg (by simp), if_pos ⟨hneg, by rw [hg, hz]⟩]
        refine (rd_negzero s p hsm (by rw [hr]; exact hneg) r' hr' he h1 hz w).mono ?_
        rintro e w' ⟨rfl, rfl⟩
        rw [show numTo p (45 :: r') = 0 by unfold numTo; rw [‹readNum _ = _›]; rfl, ‹readNum _ = _›]
        exact ⟨rfl, Below.refl _ _⟩
      · have ht1 : (45 :: r').take (1 + digRun r') = 45 :: r'.take (digRun r') := by rw [Nat.add_comm, List.take_succ_cons]
        have hl := atoi_negdigits (r'.take (digRun r')) (digRun_all r') (by intro h0; have := congrArg List.length h0; rw [List.length_take, List.length_nil] at this; omega)
        refine (rd_neg s p hs (by rw [hr]; exact hneg) r' hr' he h1 hz (45 :: r'.take (digRun r')) (by rw [hr, ht1]) hl w ht).mono ?_
        have e0 : readNum (45 :: r') = numOf (Lib.atoiAll (45 :: r'.take (digRun r'))) (1 + digRun r' + 1) := by
          unfold readNum; rw [hnl, hd, he, if_neg (by simp), if_neg (by rw [hg]; exact fun h' => hz h'.2), ht1]
        rintro e w' ⟨(⟨v, hv, rfl⟩ | ⟨hv, rfl⟩), hb⟩
        · rw [hv] at e0
          simp only [numOf] at e0
          rw [show numTo p (45 :: r') = p + (1 + digRun r' + 1) by unfold numTo; rw [e0]; rfl, e0]
          exact ⟨rfl, hb⟩
        · rw [hv] at e0
          simp only [numOf] at e0
          rw [show numTo p (45 :: r') = 0 by unfold numTo; rw [e0]; rfl, e0]
          exact ⟨rfl, hb⟩
    · have e0 : readNum (45 :: r') = (eodErr r' 59, 0, 0) := by unfold readNum; rw [hnl, hd, if_pos he]
      refine (rd_negbad s p hp hsm (by rw [hr]; exact hneg) r' hr' _ rfl he w).mono ?_
      rintro e w' ⟨rfl, rfl⟩
      rw [show numTo p (45 :: r') = 0 by unfold numTo; rw [e0, if_neg he], e0]
      exact ⟨rfl, Below.refl _ _⟩
  | false =>
    have hnl : negLen r = 0 := by unfold negLen; rw [hneg]; rfl
    by_cases he : eodErr r 59 = 0
    · obtain ⟨k0, k1, -, -⟩ := eod_zero he
      have hl := atoi_digits (r.take (digRun r)) (digRun_all r) (by intro h0; have := congrArg List.length h0; rw [List.length_take, List.length_nil] at this; omega)
      refine (rd_pos s p hs (by rw [hr]; exact hneg) r hr he h (r.take (digRun r)) (by rw [hr, Nat.zero_add]) hl w ht).mono ?_
      have e0 : readNum r = numOf (Lib.atoiAll (r.take (digRun r))) (0 + digRun r + 1) := by
        unfold readNum; rw [hnl, List.drop_zero, he, if_neg (by simp), if_neg (by rw [hneg]; simp), Nat.zero_add]
      rintro e w' ⟨(⟨v, hv, rfl⟩ | ⟨hv, rfl⟩), hb⟩
      · rw [hv] at e0
        simp only [numOf] at e0
        rw [show numTo p r = p + (0 + digRun r + 1) by unfold numTo; rw [e0]; rfl, e0]
        exact ⟨rfl, hb⟩
      · rw [hv] at e0
        simp only [numOf] at e0
        rw [show numTo p r = 0 by unfold numTo; rw [e0]; rfl, e0]
        exact ⟨rfl, hb⟩
    · have e0 : readNum r = (eodErr r 59, 0, 0) := by unfold readNum; rw [hnl, List.drop_zero, if_pos he]
      refine (rd_posbad s p h hsm (by rw [hr]; exact hneg) r hr _ rfl he w).mono ?_
      rintro e w' ⟨rfl, rfl⟩
      rw [show numTo p r = 0 by unfold numTo; rw [e0, if_neg he], e0]
      exact ⟨rfl, Below.refl _ _⟩

end Go.Proofs.YtnhnjdldgaaeoaaGreatDoor.Lay

/-
  A number read digit by digit, below 0, as the reference reads it, is the number that the library's Atoi reads. No program plays a part.
-/
namespace Go.Proofs.YtnhnjdldgaaeoaaGreatDoor
open Go
set_option maxRecDepth 100000

/-- The number that digits are, behind a number. -/
def valF (m : Nat) (l : List UInt8) : Nat := l.foldl (fun n c => n * 10 + (c.toNat - 48)) m
theorem valF_ge (l : List UInt8) : ∀ m, m ≤ valF m l := by
  induction l with
  | nil => intro m; exact Nat.le_refl _
  | cons c r ih =>
    intro m
    have h := ih (m * 10 + (c.toNat - 48))
    show m ≤ valF (m * 10 + (c.toNat - 48)) r
    omega
theorem isDig_iff (c : UInt8) : isDig c = true ↔ 48 ≤ c.toNat ∧ c.toNat ≤ 57 := by
  unfold isDig
  simp
theorem parse_is (l : List UInt8) (hl : ∀ c ∈ l, isDig c = true) : ∀ m, m < 18446744073709551616 → Lib.parseUint10 m l = if valF m l < 18446744073709551616 then .ok (valF m l) else .range := by
  induction l with
  | nil => intro m hm; rw [Lib.parseUint10]; show _ = if m < _ then _ else _; rw [if_pos hm]; rfl
  | cons c r ih =>
    intro m hm
    have hd := (isDig_iff c).1 (hl c (by simp))
    have e : valF m (c :: r) = valF (m * 10 + (c.toNat - 48)) r := rfl
    have hg := valF_ge r (m * 10 + (c.toNat - 48))
    rw [Lib.parseUint10, if_pos hd, e]
    by_cases h1 : 1844674407370955162 ≤ m
    · rw [if_pos h1, if_neg (by omega)]
    · rw [if_neg h1]
      by_cases h2 : 18446744073709551616 ≤ m * 10 + (c.toNat - 48)
      · rw [if_pos h2, if_neg (by omega)]
      · rw [if_neg h2]
        exact ih (fun x hx => hl x (by simp [hx])) _ (by omega)
/-- The reference's way: below 0. -/
def rdF : Int → List UInt8 → Option Int
  | n, [] => some n
  | n, c :: r => if n < (-9223372036854775808 + ((c.toNat : Int) - 48)).tdiv 10 then none else rdF (n * 10 - ((c.toNat : Int) - 48)) r
theorem tdiv_ten (m d : Nat) (hd : d ≤ 9) : (-(m : Int)) < (-9223372036854775808 + (d : Int)).tdiv 10 ↔ 9223372036854775808 < m * 10 + d := by
  have e : (-9223372036854775808 + (d : Int)).tdiv 10 = -(((9223372036854775808 - d) / 10 : Nat) : Int) := by
    have h1 : (-9223372036854775808 + (d : Int)) = -((9223372036854775808 - d : Nat) : Int) := by omega
    rw [h1, Int.neg_tdiv]
    rfl
  rw [e]
  omega
theorem rdF_is (l : List UInt8) (hl : ∀ c ∈ l, isDig c = true) : ∀ m : Nat, m ≤ 9223372036854775808 → rdF (-(m : Int)) l = if valF m l ≤ 9223372036854775808 then some (-(valF m l : Int)) else none := by
  induction l with
  | nil => intro m hm; rw [rdF]; show _ = if m ≤ _ then _ else _; rw [if_pos hm]; rfl
  | cons c r ih =>
    intro m hm
    have hd := (isDig_iff c).1 (hl c (by simp))
    have e : valF m (c :: r) = valF (m * 10 + (c.toNat - 48)) r := rfl
    have hg := valF_ge r (m * 10 + (c.toNat - 48))
    have ec : (c.toNat : Int) - 48 = ((c.toNat - 48 : Nat) : Int) := by omega
    have ht := tdiv_ten m (c.toNat - 48) (by omega)
    rw [rdF, e, ec]
    by_cases h1 : 9223372036854775808 < m * 10 + (c.toNat - 48)
    · rw [if_pos (ht.2 h1), if_neg (by omega)]
    · rw [if_neg (fun h => h1 (ht.1 h))]
      have e2 : -(m : Int) * 10 - ((c.toNat - 48 : Nat) : Int) = -((m * 10 + (c.toNat - 48) : Nat) : Int) := by omega
      rw [e2]
      exact ih (fun x hx => hl x (by simp [hx])) _ (by omega)
/-- What the reference makes of it: the number, or it is too great. -/
def numR (neg : Bool) (x : Option Int) (c : Nat) : Nat × Int × Nat :=
  match x with
  | none => (4, 0, 0)
  | some n => if neg then (0, n, c) else if n = -9223372036854775808 then (4, 0, 0) else (0, -n, c)
theorem num_pos (l : List UInt8) (hl : ∀ c ∈ l, isDig c = true) (hne : l ≠ []) (c : Nat) : numOf (Lib.atoiAll l) c = numR false (rdF 0 l) c := by
  have hr := rdF_is l hl 0 (by omega)
  have hp := parse_is l hl 0 (by omega)
  simp only [Int.natCast_zero, Int.neg_zero] at hr
  rw [hr]
  match l, hne, hl, hp with
  | a :: r, _, hl, hp =>
    have hd := isDig_ne (hl a (by simp))
    unfold Lib.atoiAll Lib.parseMag
    simp only [hd.2.2.1, hd.2.2.2, or_self, if_false]
    rw [if_neg (by simp), hp]
    generalize valF 0 (a :: r) = v
    by_cases h1 : v < 18446744073709551616
    · rw [if_pos h1]
      by_cases h2 : 9223372036854775808 ≤ v
      · simp only [not_false_eq_true, true_and, if_pos h2]
        by_cases h3 : v ≤ 9223372036854775808
        · obtain rfl : v = 9223372036854775808 := by omega
          rfl
        · rw [if_neg h3]
          rfl
      · simp only [not_false_eq_true, true_and, if_neg h2, false_and, if_false]
        rw [if_pos (by omega)]
        simp only [numOf, numR, Bool.false_eq_true, if_false]
        rw [if_neg (by omega)]
        simp
    · rw [if_neg h1, if_neg (by omega)]
      rfl
theorem num_neg (l : List UInt8) (hl : ∀ c ∈ l, isDig c = true) (hne : l ≠ []) (c : Nat) : numOf (Lib.atoiAll (45 :: l)) c = numR true (rdF 0 l) c := by
  have hr := rdF_is l hl 0 (by omega)
  have hp := parse_is l hl 0 (by omega)
  simp only [Int.natCast_zero, Int.neg_zero] at hr
  rw [hr]
  have e45 : ((45 : UInt8).toNat = 45) = True := by simp
  unfold Lib.atoiAll Lib.parseMag
  simp only [e45, or_true, if_true]
  rw [if_neg hne, hp]
  generalize valF 0 l = v
  by_cases h1 : v < 18446744073709551616
  · rw [if_pos h1]
    by_cases h2 : 9223372036854775808 < v
    · simp only [not_true_eq_false, false_and, if_false, true_and, if_pos h2]
      rw [if_neg (by omega)]
      rfl
    · simp only [not_true_eq_false, false_and, if_false, true_and, if_neg h2]
      rw [if_pos (by omega)]
      rfl
  · rw [if_neg h1, if_neg (by omega)]
    rfl
theorem eod_pos {r : List UInt8} {c : UInt8} (h : eodErr r c = 0) : 0 < digRun r := by
  unfold eodErr at h
  by_cases h1 : digRun r = r.length
  · rw [if_pos h1] at h; cases h
  · rw [if_neg h1] at h
    by_cases h2 : digRun r = 0
    · rw [if_pos (.inl h2)] at h; cases h
    · omega
/-- What is read, by the reference's way. -/
theorem readNum_ref (r : List UInt8) : readNum r = if eodErr (r.drop (negLen r)) 59 ≠ 0 then (eodErr (r.drop (negLen r)) 59, 0, 0) else if isNeg r ∧ (r.drop (negLen r)).getD 0 0 = 48 then (6, 0, 0)
    else numR (isNeg r) (rdF 0 ((r.drop (negLen r)).take (digRun (r.drop (negLen r))))) (negLen r + digRun (r.drop (negLen r)) + 1) := by
  unfold readNum
  by_cases h1 : eodErr (r.drop (negLen r)) 59 = 0
  · have h1' : ¬ (eodErr (r.drop (negLen r)) 59 ≠ 0) := fun e => e h1
    simp only [if_neg h1']
    by_cases h2 : isNeg r ∧ (r.drop (negLen r)).getD 0 0 = 48
    · simp only [if_pos h2]
    · simp only [if_neg h2]
      have hp := eod_pos h1
      have hd := digRun_all (r.drop (negLen r))
      have hne : (r.drop (negLen r)).take (digRun (r.drop (negLen r))) ≠ [] := by
        intro e
        have h9 := congrArg List.length e
        have h8 := digRun_le (r.drop (negLen r))
        rw [List.length_take, List.length_nil] at h9
        omega
      cases hn : isNeg r with
      | false =>
        have e0 : negLen r = 0 := by unfold negLen; rw [hn]; rfl
        rw [e0] at hd hne ⊢
        simp only [List.drop_zero, Nat.zero_add] at hd hne ⊢
        exact num_pos _ hd hne _
      | true =>
        have e0 : negLen r = 1 := by unfold negLen; rw [hn]; rfl
        rw [e0] at hd hne ⊢
        obtain ⟨r', rfl⟩ : ∃ r', r = 45 :: r' := by
          cases r with
          | nil => simp [isNeg] at hn
          | cons a r' => simp [isNeg] at hn; exact ⟨r', by rw [hn]⟩
        simp only [List.drop_succ_cons, List.drop_zero] at hd hne ⊢
        rw [Nat.add_comm 1 (digRun r'), List.take_succ_cons]
        exact num_neg _ hd hne _
  · simp only [if_pos (show eodErr (r.drop (negLen r)) 59 ≠ 0 from h1)]
end Go.Proofs.YtnhnjdldgaaeoaaGreatDoor

/-
  What the reference's ReadNumber answers at place 0.
-/
namespace Go.Proofs.YtnhnjdldgaaeoaaGreatDoor
open Go Go.RowKit
set_option maxRecDepth 100000

/-- The place behind the digits that stand from a place on. -/
theorem refEnd_any (s : ByteArray) (p : Nat) (h : p ≤ s.size) (hs : s.size ≤ maxLen) (w : World) (r : List UInt8) (HR : Hid (s.data.toList.drop p = r)) (v : Int) (hv : v = p) :
    Calls Tryz.prog 50 #[.string s, .int .i64 v] w fun e w' => e = .returned (.int .i64 ((p + digRun r : Nat) : Int)) ∧ w' = w := by
  subst hv
  unfold maxLen at hs
  have hl := digRun_le r
  have hl2 : r.length = s.size - p := by rw [← HR.out]; simp
  have HD := digRun_at r
  have HS := digRun_stop r
  go_enter Tryz.func50, Tryz.ntmps50
  go_wp2
  go_loop [1] (fun i => ∃ k : Nat, k ≤ digRun r ∧ i = .int .i64 ((p + k : Nat) : Int)) (fun i => s.size - (intOf i).toNat)
  case atStart => exact ⟨0, Nat.zero_le _, rfl⟩
  case round =>
    obtain ⟨k, hk, rfl⟩ := hrel
    by_cases hlt : k < digRun r
    · have hd := HD k hlt
      have hps : p + k < s.size := by omega
      rw [← HR.out, Lay.byte_drop s p k hps] at hd
      simp only [isDig, Bool.and_eq_true, decide_eq_true_eq] at hd
      obtain ⟨hd1, hd2⟩ := hd
      clear HD HS
      go_wp2
      go_round
      case rel => exact ⟨k + 1, by omega, by go_num⟩
      case measure => simp [intOf]; omega
    · have hke : k = digRun r := by omega
      subst hke
      clear HD
      by_cases hend : digRun r = r.length
      · have hps : p + digRun r = s.size := by omega
        have hq2 : ¬ ((p : Int) + (digRun r : Int)) < (s.size : Int) := by omega
        clear HS
        go_wp2
        go_ret
        exact ⟨by simp, rfl⟩
      · have hps : p + digRun r < s.size := by omega
        have hst := HS (by omega)
        have hgd : r.getD (digRun r) 0 = s[p + digRun r] := by have := Lay.byte_drop s p (digRun r) hps; rw [HR.out] at this; exact this
        rw [hgd] at hst
        have hnd : ((s[p + digRun r].toNat : Int) < 48) ∨ (57 < (s[p + digRun r].toNat : Int)) := by
          simp only [isDig, Bool.and_eq_false_iff, decide_eq_false_iff_not] at hst; omega
        clear hst HS hgd
        rcases hnd with hnd | hnd
        all_goals
          go_wp2
          go_ret
          exact ⟨by simp, rfl⟩

/-- What is wrong with digits. -/
theorem refBad_any (s : ByteArray) (p : Nat) (h : p ≤ s.size) (c : UInt8) (hs : s.size ≤ maxLen) (w : World) (r : List UInt8) (HR : Hid (s.data.toList.drop p = r)) (v u : Int) (hv : v = p) (hu : u = ((p + digRun r : Nat) : Int)) :
    Calls Tryz.prog 51 #[.string s, .int .i64 v, .int .i64 u, .int .u8 c.toNat] w fun e w' => e = .returned (.int .i64 (eodErr r c)) ∧ w' = w := by
  subst hv hu
  unfold maxLen at hs
  have hl := digRun_le r
  have hl2 : r.length = s.size - p := by rw [← HR.out]; simp
  by_cases hend : digRun r = r.length
  · have hps : p + digRun r = s.size := by omega
    have HE : eodErr r c = 5 := by unfold eodErr; rw [if_pos hend]
    rw [HE, hps]
    go_enter Tryz.func51, Tryz.ntmps51
    go_wp2
    go_ret
    exact ⟨rfl, rfl⟩
  · have hps : p + digRun r < s.size := by omega
    have hp : p < s.size := by omega
    have hgd : r.getD (digRun r) 0 = s[p + digRun r] := by have := Lay.byte_drop s p (digRun r) hps; rw [HR.out] at this; exact this
    have hg0 : r.getD 0 0 = s[p] := by have := Lay.byte_drop s p 0 (by omega); rw [HR.out] at this; exact this
    have HE : Hid (eodErr r c = if digRun r = 0 ∨ s[p + digRun r] ≠ c ∨ (1 < digRun r ∧ s[p] = 48) then 6 else 0) := by show _ = _; unfold eodErr; rw [if_neg hend, hgd, hg0]
    have q0 : decide (((p + digRun r : Nat) : Int) < (s.size : Int)) = true := by simp; omega
    have q1 : decide ((s.size : Int) ≤ ((p + digRun r : Nat) : Int)) = false := by simp; omega
    clear hgd hg0
    by_cases h0 : digRun r = 0
    · have HE6 : eodErr r c = 6 := by rw [HE.out, if_pos (Or.inl h0)]
      rw [HE6]
      have hb : (((p + digRun r : Nat) : Int) == (p : Int)) = true := by rw [beq_iff_eq]; omega
      clear HE h0
      generalize p + digRun r = q at *
      go_enter Tryz.func51, Tryz.ntmps51
      go_wp2
      go_ret
      exact ⟨rfl, rfl⟩
    · have hb : (((p + digRun r : Nat) : Int) == (p : Int)) = false := by rw [beq_eq_false_iff_ne]; omega
      by_cases hc : s[p + digRun r] = c
      · have hcb : ((s[p + digRun r].toNat : Int) != (c.toNat : Int)) = false := by rw [hc]; simp
        by_cases h1 : 1 < digRun r
        · have hb1 : decide ((p : Int) + 1 < ((p + digRun r : Nat) : Int)) = true := by simp; omega
          by_cases hz : s[p] = 48
          · have HE6 : eodErr r c = 6 := by rw [HE.out, if_pos (Or.inr (Or.inr ⟨h1, hz⟩))]
            rw [HE6]
            have hzb : ((s[p].toNat : Int) == 48) = true := by rw [beq_iff_eq, hz]; rfl
            clear HE h0 hc hz
            generalize p + digRun r = q at *
            go_enter Tryz.func51, Tryz.ntmps51
            go_wp2
            go_ret
            exact ⟨rfl, rfl⟩
          · have HE0 : eodErr r c = 0 := by rw [HE.out, if_neg]; exact fun h' => h'.elim h0 (fun h' => h'.elim (fun h' => h' hc) (fun h' => hz h'.2))
            rw [HE0]
            have hzb : ((s[p].toNat : Int) == 48) = false := by
              rw [beq_eq_false_iff_ne]; intro h'; apply hz; apply UInt8.toNat_inj.1; show _ = 48; omega
            clear HE h0 hc hz
            generalize p + digRun r = q at *
            go_enter Tryz.func51, Tryz.ntmps51
            go_wp2
            go_ret
            exact ⟨rfl, rfl⟩
        · have hb1 : decide ((p : Int) + 1 < ((p + digRun r : Nat) : Int)) = false := by simp; omega
          have HE0 : eodErr r c = 0 := by rw [HE.out, if_neg]; exact fun h' => h'.elim h0 (fun h' => h'.elim (fun h' => h' hc) (fun h' => h1 h'.1))
          rw [HE0]
          clear HE h0 hc
          generalize p + digRun r = q at *
          go_enter Tryz.func51, Tryz.ntmps51
          go_wp2
          go_ret
          exact ⟨rfl, rfl⟩
      · have hcn : ((s[p + digRun r].toNat : Int) != (c.toNat : Int)) = true := by
          rw [bne_iff_ne]; intro h'; apply hc; apply UInt8.toNat_inj.1; omega
        have HE6 : eodErr r c = 6 := by rw [HE.out, if_pos (Or.inr (Or.inl hc))]
        rw [HE6]
        clear HE h0 hc
        generalize p + digRun r = q at *
        go_enter Tryz.func51, Tryz.ntmps51
        go_wp2
        go_ret
        exact ⟨rfl, rfl⟩
end Go.Proofs.YtnhnjdldgaaeoaaGreatDoor

/-
  What the reference's Number answers, for every int.
-/
namespace Go.Proofs.YtnhnjdldgaaeoaaGreatDoor.Lay
open Go.RowKit Go.Joins
set_option maxRecDepth 100000

set_option maxHeartbeats 400000 in
theorem refNumber_neg2 (u : Nat) (h0 : 10 ≤ u) (h1 : u ≤ 9223372036854775808) (w : World) :
    Calls Tryz.prog 42 #[.int .i64 (-(u : Int))] w fun e w' => e = .returned (.string ⟨(Lib.itoa (-(u : Int)) ++ [59]).toArray⟩) ∧ Below w.heap.size w w' := by
  have hi : Lib.itoa (-(u : Int)) = 45 :: (Lib.decDigits (u / 10) ++ Lib.decDigits (u % 10)) := by
    unfold Lib.itoa
    rw [if_pos (by omega), Int.natAbs_neg, Int.natAbs_natCast, Lib.decDigits, dif_neg (by omega), Lib.decDigits_one (Nat.mod_lt u (by decide))]
  rw [hi]
  have hl : (Lib.decDigits (u / 10)).length ≤ 20 := by rw [Lib.decDigits_length]; exact nDigits_le20 _ (by omega)
  have hl' : (Lib.decDigits (u % 10)).length ≤ 20 := by rw [Lib.decDigits_length]; exact nDigits_le20 _ (by omega)
  clear hi
  have hq : ((-(u : Int)).tdiv 10 == 0) = false := by rw [tdiv_neg, beq_eq_false_iff_ne]; omega
  have hn : -(u : Int) < 0 := by omega
  go_enter Tryz.func42, Tryz.ntmps42
  go_wp2_with fail
  refine (digits_int _ (u / 10) (by omega) (by omega) _).mono ?_
  rintro e w1 ⟨rfl, hb⟩
  go_wp2_with fail
  refine (digits_int _ (u % 10) (by omega) (by omega) _).mono ?_
  rintro e w2 ⟨rfl, hb2⟩
  go_wp2
  go_ret
  refine ⟨congrArg (fun s => Ending.returned (Value.string s)) ?_, below_two hb hb2⟩
  rw [bcat [45] (Lib.decDigits (u / 10)) _ rfl, bcat ([45] ++ Lib.decDigits (u / 10)) (Lib.decDigits (u % 10)) _ rfl, bcat ([45] ++ Lib.decDigits (u / 10) ++ Lib.decDigits (u % 10)) [59] _ rfl]
  simp

theorem refNumber_any (n : Int) (h0 : -9223372036854775808 ≤ n) (h1 : n ≤ 9223372036854775807) (w : World) :
    Calls Tryz.prog 42 #[.int .i64 n] w fun e w' => e = .returned (.string ⟨(Lib.itoa n ++ [59]).toArray⟩) ∧ Below w.heap.size w w' := by
  by_cases hn : 0 ≤ n
  · exact refNumber_pos n hn h1 w
  · obtain ⟨u, rfl⟩ : ∃ u : Nat, n = -(u : Int) := ⟨n.natAbs, by omega⟩
    by_cases h10 : u < 10
    · exact refNumber_neg1 u (by omega) h10 w
    · exact refNumber_neg2 u (by omega) (by omega) w
end Go.Proofs.YtnhnjdldgaaeoaaGreatDoor.Lay
