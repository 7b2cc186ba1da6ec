/-
  What the reference lays of texts, digests and numbers (R10.Text, Dig, Ints, Numbered, Asked), given what R01.Digits, R01.Number and R02.Bytes answer.
-/
import Derived.Test.YtpnnibddjopniaaGreatDoorJlw
import Derived.Test.YtpnnibddjopniaaGreatDoorJnb
import Derived.Lib.ItoaNum
import Derived.Lib.SmallJoins
import Derived.Test.YtpnnibddjopniaaGreatDoorLnum
import Derived.Test.YtpnnibddjopniaaGreatDoorGaw
import Derived.Test.YtpnnibddjopniaaGreatDoorJor
import Derived.Test.YtpnnibddjopniaaGreatDoorJbr
import Derived.Test.YtpnnibddjopniaaGreatDoorJcl
import Derived.Test.YtpnnibddjopniaaGreatDoorJbk
import Derived.Test.YtpnnibddjopniaaGreatDoorRows
import Derived.ProofKit
import Derived.OpenShut
import Derived.Deep.Slices
import Derived.LaidMore
import Derived.Stop.Joined
import Derived.Stop.LaidErr
import Derived.Lib.LaidTab
import Derived.Test.YtpnnibddjopniaaGreatDoorCards
import Derived.Test.YtpnnibddjopniaaGreatDoorTie
import Derived.SevenTiedAt
import Derived.SizedLaws
namespace Go.Proofs.YtpnnibddjopniaaGreatDoor.Ms
open Go Go.RowKit
set_option maxRecDepth 100000

/-- What R01.Digits, R01.Number and R02.Bytes answer. -/
def DigOk : Prop := ∀ (u : Nat), u ≤ 9223372036854775807 → ∀ (w : World), Calls Tryz.prog 63 #[.int .i64 u] w fun e w' => e = .returned (.string ⟨(Lib.decDigits u).toArray⟩) ∧ Below w.heap.size w w'
def NumOk : Prop := ∀ (n : Int), -9223372036854775808 ≤ n → n ≤ 9223372036854775807 → ∀ (w : World), Calls Tryz.prog 39 #[.int .i64 n] w fun e w' => e = .returned (.string ⟨(Lib.itoa n ++ [59]).toArray⟩) ∧ Below w.heap.size w w'
def BytOk : Prop := ∀ (l : List UInt8), l.length = 32 → ∀ (w : World), Calls Tryz.prog 34 #[.agg (dg l).toArray] w fun e w' => e = .returned (.string ⟨l.toArray⟩) ∧ Below w.heap.size w w'

set_option maxHeartbeats 2000000 in
theorem rtext_any (hD : DigOk) (s : List UInt8) (hs : s.length ≤ 1000000000) (w : World) : Calls Tryz.prog 36 #[.string ⟨s.toArray⟩] w fun e w' => e = .returned (.string ⟨(txtB s).toArray⟩) ∧ Below w.heap.size w w' := by
  have HD := hid (hD s.length (by omega) w)
  have hl := dec_len s.length (by omega)
  have hss : (⟨s.toArray⟩ : ByteArray).size = s.length := rfl
  unfold txtB
  generalize Lib.decDigits s.length = d at *
  have e1 := str_app d [58]
  have e2 := str_app (d ++ [58]) s
  have hds : (⟨d.toArray⟩ : ByteArray).size = d.length := rfl
  have hds2 : (⟨(d ++ [58]).toArray⟩ : ByteArray).size = d.length + 1 := by show (d ++ [58]).length = _; simp
  clear hD
  go_enter Tryz.func36, Tryz.ntmps36
  go_wp2_with fail
  refine HD.out.mono ?_
  rintro e w1 ⟨rfl, hb⟩
  have HB := hid hb
  clear hb
  go_wp2
  go_ret
  exact ⟨(by show Ending.returned (Value.string ⟨(d ++ 58 :: s).toArray⟩) = _; simp), HB.out⟩

set_option maxHeartbeats 2000000 in
theorem rdig_any (hD : DigOk) (hY : BytOk) (d : List UInt8) (hd : d.length = 32) (w : World) : Calls Tryz.prog 37 #[.agg (dg d).toArray] w fun e w' => e = .returned (.string ⟨(txtB d).toArray⟩) ∧ Below w.heap.size w w' := by
  have HB0 := hid (below_a1 w (.cells (dg d).toArray 23))
  have r0 := top_obj w (.cells (dg d).toArray 23)
  have S0 := hid (row_seg (off := 0) (A := []) (cs := dg d) (C := []) r0 (by simp) rfl)
  have Z0 : (Tryz.prog.info? 23).map (·.size) = some (dg d).length := by rw [dg_len, hd]; exact sizeDig
  have HY := hid (fun W => hY d hd W)
  have HT := hid (fun W => rtext_any hD d (by omega) W)
  generalize txtB d = t at *
  generalize dg d = D at *
  clear hD hY hd r0
  go_enter Tryz.func37, Tryz.ntmps37
  go_upto_region 1 with fail
  generalize w.alloc (.cells D.toArray 23) = W0 at *
  go_wp2_with (first | ((with_reducible refine wl_load 23 (.tmp 1) ?_ w.heap.size 0 ?_ ?_ D _ S0.out Tryz.underlying23 ?_ Z0 ?_); exact rfl; exact rfl; exact rfl; exact rfl))
  refine (HY.out _).mono ?_
  rintro e w1 ⟨rfl, hb⟩
  have HB1 := hid (below_two HB0.out hb)
  clear hb
  go_wp2_with fail
  refine (HT.out _).mono ?_
  rintro e w2 ⟨rfl, hb⟩
  have HB2 := hid (below_two HB1.out hb)
  clear hb
  go_wp2
  go_ret
  exact ⟨rfl, HB2.out⟩

set_option maxHeartbeats 2000000 in
theorem rnints_any (hN : NumOk) {w : World} {v : Value} {ks : List Int} (hv : IntsAt w v ks) (hk : ∀ n ∈ ks, I64 n) (hl : ks.length ≤ 1000000) : Calls Tryz.prog 35 #[v] w fun e w' => e = .returned (.string ⟨(intsB ks).toArray⟩) ∧ Below w.heap.size w w' := by
  have HV := hid hv
  obtain ⟨a, cap, rfl, -⟩ := hv
  have HN := hid hN
  have HK := hid hk
  have HB0 := hid (Below.refl w.heap.size w)
  clear hk hN
  go_enter Tryz.func35, Tryz.ntmps35
  go_wp2
  go_loopw [3, 4] (fun o i w' => ∃ j : Nat, j ≤ ks.length ∧ i = .int .i64 j ∧ o = .string ⟨(intsB (ks.take j)).toArray⟩ ∧ Hid (Below w.heap.size w w')) (fun _ i _ => ks.length - (intOf i).toNat)
  case atStart => exact ⟨0, by omega, rfl, rfl, HB0.out⟩
  case round =>
    obtain ⟨j, hj, rfl, rfl, HB⟩ := hrel
    by_cases hlt : j < ks.length
    · have d1 : decide ((j : Int) < (ks.length : Int)) = true := decide_eq_true (by omega)
      have d1' : decide (j < ks.length) = true := decide_eq_true hlt
      obtain ⟨a', c', e', hc⟩ := HV.out.kept HB.out
      cases e'
      obtain ⟨b, off, rfl, hcc⟩ := hc (fun e => by rw [e] at hlt; exact absurd hlt (Nat.not_lt_zero j))
      have cj : wr.cell? ⟨b, off + j, none⟩ = some (.int .i64 (ks.getD j 0)) := hcc j hlt
      have hmem : ks.getD j 0 ∈ ks := by simp [List.getD, hlt]
      have h64 := HK.out _ hmem
      have HNj := hid (fun W => HN.out (ks.getD j 0) h64.1 h64.2 W)
      have hn22 := numB_len _ h64
      have hol := intsB_len (ks.take j) (fun n hn => HK.out n (List.mem_of_mem_take hn))
      rw [List.length_take] at hol
      have HS := hid (intsB_snoc ks j hlt)
      have happ := str_app (intsB (ks.take j)) (numB (ks.getD j 0))
      have hnb : Lib.itoa (ks.getD j 0) ++ [59] = numB (ks.getD j 0) := rfl
      rw [hnb] at HNj
      generalize numB (ks.getD j 0) = nb at *
      generalize ks.getD j 0 = x at *
      generalize intsB (ks.take j) = o at *
      have hs1 : (⟨nb.toArray⟩ : ByteArray).size = nb.length := rfl
      have hs2 : (⟨o.toArray⟩ : ByteArray).size = o.length := rfl
      have ho2 : o.length ≤ 22000000 := by omega
      clear hc hcc hmem h64 HK HN hnb hol
      go_wp2_with fail
      refine (HNj.out _).mono ?_
      rintro e w1 ⟨rfl, hb⟩
      have HB1 := hid (below_two HB.out hb)
      clear hb
      go_wp2
      exact ⟨⟨j + 1, by omega, by go_num, by rw [HS.out], HB1.out⟩, by simp [intOf]; omega⟩
    · obtain rfl : j = ks.length := by omega
      have HT : Hid (intsB (ks.take ks.length) = intsB ks) := by show _ = _; rw [List.take_length]
      clear HN HK
      go_wp2
      go_ret
      exact ⟨by rw [← HT.out]; rfl, HB.out⟩

/-- What is tagged of a number and a text: texts that are too long as if they were empty. -/
def numberedB (n : Int) (s : List UInt8) : List UInt8 := numB n ++ txtB (if 16384 < s.length then [] else s)
set_option maxHeartbeats 2000000 in
theorem rnumbered_any (hD : DigOk) (hN : NumOk) (n : Int) (hn : I64 n) (s : List UInt8) (w : World) : Calls Tryz.prog 21 #[.int .i64 n, .string ⟨s.toArray⟩] w fun e w' => e = .returned (.string ⟨(numberedB n s).toArray⟩) ∧ Below w.heap.size w w' := by
  have HN := hid (hN n hn.1 hn.2 w)
  have hss : (⟨s.toArray⟩ : ByteArray).size = s.length := rfl
  have hnl := numB_len n hn
  have hnb : Lib.itoa n ++ [59] = numB n := rfl
  rw [hnb] at HN
  by_cases hl : 16384 < s.length
  · have e0 : numberedB n s = numB n ++ txtB [] := by unfold numberedB; rw [if_pos hl]
    rw [e0]
    have HT := hid (fun W => rtext_any hD [] (by decide) W)
    have htl : (txtB []).length ≤ 22 := by unfold txtB; have := dec_len ([] : List UInt8).length (by decide); simp at this ⊢; omega
    have d1 : decide ((16384 : Int) < (s.length : Int)) = true := decide_eq_true (by omega)
    have d1' : decide (16384 < s.length) = true := decide_eq_true hl
    have happ := str_app (numB n) (txtB [])
    generalize numB n = nb at *
    generalize txtB [] = t at *
    have hs1 : (⟨nb.toArray⟩ : ByteArray).size = nb.length := rfl
    have hs2 : (⟨t.toArray⟩ : ByteArray).size = t.length := rfl
    clear e0 hl hn hD hN hnb
    go_enter Tryz.func21, Tryz.ntmps21
    go_wp2_with fail
    refine HN.out.mono ?_
    rintro e w1 ⟨rfl, hb⟩
    have HB1 := hid hb
    clear hb
    go_wp2_with fail
    refine (HT.out _).mono ?_
    rintro e w2 ⟨rfl, hb⟩
    have HB2 := hid (below_two HB1.out hb)
    clear hb
    go_wp2
    go_ret
    exact ⟨rfl, HB2.out⟩
  · have e0 : numberedB n s = numB n ++ txtB s := by unfold numberedB; rw [if_neg hl]
    rw [e0]
    have HT := hid (fun W => rtext_any hD s (by omega) W)
    have htl : (txtB s).length ≤ 16500 := by unfold txtB; have := dec_len s.length (by omega); simp; omega
    have d1 : decide ((16384 : Int) < (s.length : Int)) = false := decide_eq_false (by omega)
    have d1' : decide (16384 < s.length) = false := decide_eq_false hl
    have happ := str_app (numB n) (txtB s)
    generalize numB n = nb at *
    generalize txtB s = t at *
    have hs1 : (⟨nb.toArray⟩ : ByteArray).size = nb.length := rfl
    have hs2 : (⟨t.toArray⟩ : ByteArray).size = t.length := rfl
    clear e0 hl hn hD hN hnb
    go_enter Tryz.func21, Tryz.ntmps21
    go_wp2_with fail
    refine HN.out.mono ?_
    rintro e w1 ⟨rfl, hb⟩
    have HB1 := hid hb
    clear hb
    go_wp2_with fail
    refine (HT.out _).mono ?_
    rintro e w2 ⟨rfl, hb⟩
    have HB2 := hid (below_two HB1.out hb)
    clear hb
    go_wp2
    go_ret
    exact ⟨rfl, HB2.out⟩

theorem ints_new (w : World) (ks : List Int) (k : Nat) (hk : ks.length = k) : IntsAt (w.alloc (.cells (ks.map nu).toArray 3)) (.slice (some ⟨w.heap.size, 0, none⟩) k k) ks := by
  subst hk
  refine ⟨_, _, rfl, fun _ => ⟨w.heap.size, 0, rfl, fun j hj => ?_⟩⟩
  rw [cell_of_row _ _ _ _ _ _ (top_obj w _), Nat.zero_add, List.getElem?_toArray]
  simp [List.getD, hj]
set_option maxHeartbeats 2000000 in
theorem rasked_any (hN : NumOk) (c : Int) (hc : I64 c) (x : Sub) (hx : x.Wf) (h1 : I64 x.number) (h2 : I64 x.kind) (h3 : I64 x.target) (w : World) :
    Calls Tryz.prog 19 #[.int .i64 c, .agg (subC x).toArray] w fun e w' => e = .returned (.string ⟨(intsB [c, x.number, x.kind, x.target]).toArray⟩) ∧ Below w.heap.size w w' := by
  have HB0 := hid (below_a1 w (.cells (subC x).toArray 25))
  have r0 := top_obj w (.cells (subC x).toArray 25)
  have c0 := srow_number r0 hx
  have c1 := srow_kind r0 hx
  have c2 := srow_target r0 hx
  have HI := hid (fun W => rnints_any hN (ints_new W [c, x.number, x.kind, x.target] 4 rfl) (by intro n hn; simp at hn; rcases hn with rfl | rfl | rfl | rfl; exact hc; exact h1; exact h2; exact h3) (by simp))
  generalize intsB [c, x.number, x.kind, x.target] = t at *
  generalize (subC x).toArray = S at *
  clear r0 hN hx
  go_enter Tryz.func19, Tryz.ntmps19
  go_upto_region 1 with fail
  generalize w.alloc (.cells S 25) = W0 at *
  have HB1 := hid (below_two HB0.out (below_a1 W0 (.cells ([c, x.number, x.kind, x.target].map nu).toArray 3)))
  go_wp2_with fail
  refine (HI.out _).mono ?_
  rintro e w1 ⟨rfl, hb⟩
  have HB2 := hid (below_two HB1.out hb)
  clear hb
  go_wp2
  go_ret
  exact ⟨rfl, HB2.out⟩
end Go.Proofs.YtpnnibddjopniaaGreatDoor.Ms

/-
  What the reference's Number answers, for every int.
-/
namespace Go.Proofs.YtpnnibddjopniaaGreatDoor.Lay
open Go.RowKit Go.Joins
set_option maxRecDepth 100000

set_option maxHeartbeats 400000 in
theorem refNumber_neg2 (u : Nat) (h0 : 10 ≤ u) (h1 : u ≤ 9223372036854775808) (w : World) :
    Calls Tryz.prog 39 #[.int .i64 (-(u : Int))] w fun e w' => e = .returned (.string ⟨(Lib.itoa (-(u : Int)) ++ [59]).toArray⟩) ∧ Below w.heap.size w w' := by
  have hi : Lib.itoa (-(u : Int)) = 45 :: (Lib.decDigits (u / 10) ++ Lib.decDigits (u % 10)) := by
    unfold Lib.itoa
    rw [if_pos (by omega), Int.natAbs_neg, Int.natAbs_natCast, Lib.decDigits, dif_neg (by omega), Lib.decDigits_one (Nat.mod_lt u (by decide))]
  rw [hi]
  have hl : (Lib.decDigits (u / 10)).length ≤ 20 := by rw [Lib.decDigits_length]; exact nDigits_le20 _ (by omega)
  have hl' : (Lib.decDigits (u % 10)).length ≤ 20 := by rw [Lib.decDigits_length]; exact nDigits_le20 _ (by omega)
  clear hi
  have hq : ((-(u : Int)).tdiv 10 == 0) = false := by rw [tdiv_neg, beq_eq_false_iff_ne]; omega
  have hn : -(u : Int) < 0 := by omega
  go_enter Tryz.func39, Tryz.ntmps39
  go_wp2_with fail
  refine (digits_int _ (u / 10) (by omega) (by omega) _).mono ?_
  rintro e w1 ⟨rfl, hb⟩
  go_wp2_with fail
  refine (digits_int _ (u % 10) (by omega) (by omega) _).mono ?_
  rintro e w2 ⟨rfl, hb2⟩
  go_wp2
  go_ret
  refine ⟨congrArg (fun s => Ending.returned (Value.string s)) ?_, below_two hb hb2⟩
  rw [bcat [45] (Lib.decDigits (u / 10)) _ rfl, bcat ([45] ++ Lib.decDigits (u / 10)) (Lib.decDigits (u % 10)) _ rfl, bcat ([45] ++ Lib.decDigits (u / 10) ++ Lib.decDigits (u % 10)) [59] _ rfl]
  simp

theorem refNumber_any (n : Int) (h0 : -9223372036854775808 ≤ n) (h1 : n ≤ 9223372036854775807) (w : World) :
    Calls Tryz.prog 39 #[.int .i64 n] w fun e w' => e = .returned (.string ⟨(Lib.itoa n ++ [59]).toArray⟩) ∧ Below w.heap.size w w' := by
  by_cases hn : 0 ≤ n
  · exact refNumber_pos n hn h1 w
  · obtain ⟨u, rfl⟩ : ∃ u : Nat, n = -(u : Int) := ⟨n.natAbs, by omega⟩
    by_cases h10 : u < 10
    · exact refNumber_neg1 u (by omega) h10 w
    · exact refNumber_neg2 u (by omega) (by omega) w
end Go.Proofs.YtpnnibddjopniaaGreatDoor.Lay

/-
  What is tagged: what msg.Asked, Data, BlobText and Version answer; the walk of MsgTexts.
-/
namespace Go.Proofs.YtpnnibddjopniaaGreatDoor.Ms
open Go Go.RowKit
set_option maxRecDepth 100000

theorem numOk : NumOk := fun n h0 h1 w => Lay.refNumber_any n h0 h1 w
theorem digOk : DigOk := fun u hu w => Lay.digits_any u hu w
theorem layT_len (s : List UInt8) : (layT s).length ≤ 16500 := by
  unfold layT
  split
  · have := txtB_len [] (by decide); simp at this ⊢; omega
  · have := txtB_len s (by omega); omega
def askB (c : Int) (x : Sub) : List UInt8 := numB c ++ numB x.number ++ numB x.kind ++ numB x.target
theorem askB_ints (c : Int) (x : Sub) : intsB [c, x.number, x.kind, x.target] = askB c x := by simp [intsB, askB]
theorem numbered_lay (n : Int) (s : List UInt8) : numberedB n s = numB n ++ layT s := rfl
set_option maxHeartbeats 1000000 in
theorem data_any (n : Int) (hn : I64 n) (s : List UInt8) (w : World) (ht : Tb w) : Calls Tryz.prog 20 #[nu n, st s] w fun e w' => e = .returned (st (numB n ++ layT s)) ∧ Below w.heap.size w w' := by
  have K1 := hid (Lay.number_any n hn.1 hn.2 w ht)
  have hnb : Lib.itoa n ++ [59] = numB n := rfl
  rw [hnb] at K1
  have K2 := hid (fun (W : World) (h : Below w.heap.size w W) => laytext_any s W (ht.stays h))
  have h1 := numB_len n hn
  have h2 := layT_len s
  have happ := str_app (numB n) (layT s)
  generalize numB n = nb at *
  generalize layT s = tb at *
  have hs1 : (⟨nb.toArray⟩ : ByteArray).size = nb.length := rfl
  have hs2 : (⟨tb.toArray⟩ : ByteArray).size = tb.length := rfl
  clear hn ht hnb
  go_enter Tryz.func20, Tryz.ntmps20
  go_wp2_with fail
  refine K1.out.mono ?_
  rintro e w1 ⟨rfl, hb⟩
  have HB1 := hid hb
  clear hb
  go_wp2_with fail
  refine (K2.out _ HB1.out).mono ?_
  rintro e w2 ⟨rfl, hb⟩
  have HB2 := hid (below_two HB1.out hb)
  clear hb
  go_wp2
  go_ret
  exact ⟨rfl, HB2.out⟩
set_option maxHeartbeats 1000000 in
theorem blobtext_any (n : Int) (hn : I64 n) (s : List UInt8) (w : World) (ht : Tb w) : Calls Tryz.prog 22 #[nu n, st s] w fun e w' => e = .returned (st (numB n ++ layT s)) ∧ Below w.heap.size w w' := by
  have K1 := hid (Lay.number_any n hn.1 hn.2 w ht)
  have hnb : Lib.itoa n ++ [59] = numB n := rfl
  rw [hnb] at K1
  have K2 := hid (fun (W : World) (h : Below w.heap.size w W) => laytext_any s W (ht.stays h))
  have h1 := numB_len n hn
  have h2 := layT_len s
  have happ := str_app (numB n) (layT s)
  generalize numB n = nb at *
  generalize layT s = tb at *
  have hs1 : (⟨nb.toArray⟩ : ByteArray).size = nb.length := rfl
  have hs2 : (⟨tb.toArray⟩ : ByteArray).size = tb.length := rfl
  clear hn ht hnb
  go_enter Tryz.func22, Tryz.ntmps22
  go_wp2_with fail
  refine K1.out.mono ?_
  rintro e w1 ⟨rfl, hb⟩
  have HB1 := hid hb
  clear hb
  go_wp2_with fail
  refine (K2.out _ HB1.out).mono ?_
  rintro e w2 ⟨rfl, hb⟩
  have HB2 := hid (below_two HB1.out hb)
  clear hb
  go_wp2
  go_ret
  exact ⟨rfl, HB2.out⟩
set_option maxHeartbeats 1000000 in
theorem version_any (n : Int) (hn : I64 n) (s : List UInt8) (w : World) (ht : Tb w) : Calls Tryz.prog 23 #[nu n, st s] w fun e w' => e = .returned (st (numB n ++ layT s)) ∧ Below w.heap.size w w' := by
  have K1 := hid (Lay.number_any n hn.1 hn.2 w ht)
  have hnb : Lib.itoa n ++ [59] = numB n := rfl
  rw [hnb] at K1
  have K2 := hid (fun (W : World) (h : Below w.heap.size w W) => laytext_any s W (ht.stays h))
  have h1 := numB_len n hn
  have h2 := layT_len s
  have happ := str_app (numB n) (layT s)
  generalize numB n = nb at *
  generalize layT s = tb at *
  have hs1 : (⟨nb.toArray⟩ : ByteArray).size = nb.length := rfl
  have hs2 : (⟨tb.toArray⟩ : ByteArray).size = tb.length := rfl
  clear hn ht hnb
  go_enter Tryz.func23, Tryz.ntmps23
  go_wp2_with fail
  refine K1.out.mono ?_
  rintro e w1 ⟨rfl, hb⟩
  have HB1 := hid hb
  clear hb
  go_wp2_with fail
  refine (K2.out _ HB1.out).mono ?_
  rintro e w2 ⟨rfl, hb⟩
  have HB2 := hid (below_two HB1.out hb)
  clear hb
  go_wp2
  go_ret
  exact ⟨rfl, HB2.out⟩
structure SubRng (x : Sub) : Prop where
  n : I64 x.number
  k : I64 x.kind
  t : I64 x.target
set_option maxHeartbeats 2000000 in
theorem asked_any (c : Int) (hc : I64 c) (x : Sub) (hx : x.Wf) (hr : SubRng x) (w : World) (ht : Tb w) : Calls Tryz.prog 18 #[nu c, .agg (subC x).toArray] w fun e w' => e = .returned (st (askB c x)) ∧ Below w.heap.size w w' := by
  have HB0 := hid (below_a1 w (.cells (subC x).toArray 25))
  have r0 := top_obj w (.cells (subC x).toArray 25)
  have c0 := srow_number r0 hx
  have c1 := srow_kind r0 hx
  have c2 := srow_target r0 hx
  have hT0 : Tb (w.alloc (.cells (subC x).toArray 25)) := ht.stays HB0.out
  have l0 := numB_len c hc
  have l1 := numB_len x.number hr.n
  have l2 := numB_len x.kind hr.k
  have l3 := numB_len x.target hr.t
  have K : ∀ n, I64 n → ∀ W, Tb W → ∀ dd os, Calls Tryz.prog 25 #[nu n] (Sort.grow (redrawn W dd) os) fun e w'' => e = .returned (st (numB n)) ∧ ∃ p : Regrown, w'' = Sort.grow (redrawn W p.d) p.os := fun n hn W hW dd os => Calls.regrown_of (Lay.number_any n hn.1 hn.2 _ (hW.stays (below_regrown W dd os)))
  have k0 := hid (K c hc _ hT0)
  have k1 := hid (K x.number hr.n _ hT0)
  have k2 := hid (K x.kind hr.k _ hT0)
  have k3 := hid (K x.target hr.t _ hT0)
  have p0 : ∀ dd os, (Sort.grow (redrawn (w.alloc (.cells (subC x).toArray 25)) dd) os).cell? ⟨w.heap.size, 0, none⟩ = some (nu x.number) := fun dd os => cell_regrown c0 _ _
  have p1 : ∀ dd os, (Sort.grow (redrawn (w.alloc (.cells (subC x).toArray 25)) dd) os).cell? ⟨w.heap.size, 1, none⟩ = some (nu x.kind) := fun dd os => cell_regrown c1 _ _
  have p2 : ∀ dd os, (Sort.grow (redrawn (w.alloc (.cells (subC x).toArray 25)) dd) os).cell? ⟨w.heap.size, 2, none⟩ = some (nu x.target) := fun dd os => cell_regrown c2 _ _
  have a1 := str_app (numB c) (numB x.number)
  have a2 := str_app (numB c ++ numB x.number) (numB x.kind)
  have a3 := str_app (numB c ++ numB x.number ++ numB x.kind) (numB x.target)
  unfold askB
  generalize numB c = n0 at *
  generalize numB x.number = n1 at *
  generalize numB x.kind = n2 at *
  generalize numB x.target = n3 at *
  generalize (subC x).toArray = S at *
  have s0 : (⟨n0.toArray⟩ : ByteArray).size = n0.length := rfl
  have s1 : (⟨n1.toArray⟩ : ByteArray).size = n1.length := rfl
  have s2 : (⟨n2.toArray⟩ : ByteArray).size = n2.length := rfl
  have s3 : (⟨n3.toArray⟩ : ByteArray).size = n3.length := rfl
  have s4 : (⟨(n0 ++ n1).toArray⟩ : ByteArray).size = n0.length + n1.length := by show (n0 ++ n1).length = _; simp
  have s5 : (⟨(n0 ++ n1 ++ n2).toArray⟩ : ByteArray).size = n0.length + n1.length + n2.length := by show (n0 ++ n1 ++ n2).length = _; simp; omega
  clear r0 K hT0 ht hx hr hc c0 c1 c2
  go_enter Tryz.func18, Tryz.ntmps18
  go_upto_region 1 with fail
  generalize w.alloc (.cells S 25) = W0 at *
  have hbg := hid (fun dq osq => below_two HB0.out (below_regrown W0 dq osq))
  refine wp_region_quiet_below (by kernel_rfl) (by kernel_rfl) ?_
  iterate 15 (first | go_big_quiet_step (first | exact k0.out _ _ | exact k1.out _ _ | exact k2.out _ _ | exact k3.out _ _) | quiet_step (first | exact k0.out _ _ | exact k1.out _ _ | exact k2.out _ _ | exact k3.out _ _))
  refine wpQuiet_nil ?_
  intro _ hw'
  obtain ⟨⟨dq, osq⟩, hw''⟩ := hw'
  subst hw''
  have HBq := hid (hbg.out dq osq)
  go_wp2
  go_ret
  exact ⟨by first | rfl | (simp [str_app]), HBq.out⟩
end Go.Proofs.YtpnnibddjopniaaGreatDoor.Ms

/-
  A region that draws its order, walked once by an invariant of what has come up; and the one that lays two submits, two numbers and two texts into variables.
-/
namespace Go.Proofs.YtpnnibddjopniaaGreatDoor.Ms
open Go Go.RowKit
set_option maxRecDepth 100000

/-- Which operations this law takes: unguarded, each waiting for elder ones alone. -/
def okEls (ops : Array Oper) : Bool :=
  (List.range ops.size).all fun i => match ops[i]? with
    | some o => o.guard.isNone && o.after.all (fun e => !Region.binds .any e || decide (e.on < i))
    | none => false
theorem okEls_at {ops : Array Oper} (h : okEls ops = true) {i : Nat} {o : Oper} (ho : ops[i]? = some o) : o.guard = none ∧ ∀ e ∈ o.after, Region.binds .any e = true → e.on < i := by
  have hi : i < ops.size := (Array.getElem?_eq_some_iff.1 ho).1
  unfold okEls at h
  rw [List.all_eq_true] at h
  have h1 := h i (List.mem_range.2 hi)
  rw [ho] at h1
  simp only [Bool.and_eq_true] at h1
  obtain ⟨h1, h3⟩ := h1
  refine ⟨by simpa using h1, ?_⟩
  intro e he hb
  rw [Array.all_eq_true_iff_forall_mem] at h3
  have := h3 e he
  simpa [hb] using this
/-- One more has come up. -/
def up (L : Nat → Bool) (i : Nat) : Nat → Bool := fun j => if i = j then true else L j
theorem up_self (L : Nat → Bool) (i : Nat) : up L i i = true := by simp [up]
theorem up_ne {L : Nat → Bool} {i j : Nat} (h : i ≠ j) : up L i j = L j := by simp [up, h]

section
variable {P : Program} {ops : Array Oper} {Q : Exit → Act → World → Prop} {a0 : Act} {w0 : World} {I : (Nat → Bool) → Act → World → Prop}
theorem all_els (hok : okEls ops = true) {listed : Array Bool} (hn : listed.size = ops.size) (hr : Region.ready .any ops listed = []) : ∀ n i, i < n → i < ops.size → listed.getD i true = true
  | 0, i, h, _ => absurd h (Nat.not_lt_zero i)
  | n + 1, i, _, hi => by
    cases hu : listed.getD i true with
    | true => rfl
    | false =>
      obtain ⟨o, ho⟩ : ∃ o, ops[i]? = some o := ⟨ops[i], Array.getElem?_eq_getElem hi⟩
      obtain ⟨-, he⟩ := okEls_at hok ho
      have hm := ready_of ho hu (fun e hm hb => by
        have hlt := he e hm hb
        have := all_els hok hn hr n e.on (by omega) (by omega)
        rw [listed_tf (by omega) false]
        exact this)
      rw [hr] at hm
      cases hm
theorem wpAny_inv (hok : okEls ops = true)
    (hstep : ∀ L a w i o, ops[i]? = some o → I L a w → L i = false → (∀ j, (o.after.any fun e => Region.binds .any e && e.on == j) = true → L j = true) → o.wp P a w (fun a' w' => I (up L i) a' w') Q)
    (hend : ∀ L a w, (∀ i, i < ops.size → L i = true) → I L a w → Q .normal a w) :
    ∀ (fuel : Nat) (listed : Array Bool) (a : Act) (w : World), listed.size = ops.size → (unl ops.size listed).length ≤ fuel → I (fun j => listed.getD j false) a w → wpAny P .any ops Q fuel listed a w := by
  have fin : ∀ (listed : Array Bool) (a : Act) (w : World), listed.size = ops.size → I (fun j => listed.getD j false) a w → (∀ i, i < ops.size → listed.getD i true = true) → Q .normal a w := by
    intro listed a w hn hm hall
    refine hend _ a w (fun i hi => ?_) hm
    show listed.getD i false = true
    rw [listed_tf (by omega) false]
    exact hall i hi
  intro fuel
  induction fuel with
  | zero =>
    intro listed a w hn hf hm
    have hall : ∀ i, i < ops.size → listed.getD i true = true := by
      intro i hi
      cases hu : listed.getD i true with
      | true => rfl
      | false =>
        have : i ∈ unl ops.size listed := mem_unl.2 ⟨hi, hu⟩
        have h0 : unl ops.size listed = [] := List.length_eq_zero_iff.1 (by omega)
        rw [h0] at this
        cases this
    refine ⟨?_, fin listed a w hn hm hall⟩
    cases hr : Region.ready .any ops listed with
    | nil => rfl
    | cons i l =>
      have hi : i ∈ Region.ready .any ops listed := by rw [hr]; simp
      obtain ⟨h1, h2, -⟩ := of_ready hi
      rw [hall i h1] at h2
      cases h2
  | succ fuel ih =>
    intro listed a w hn hf hm
    refine ⟨fun hr => fin listed a w hn hm (fun i hi => all_els hok hn hr (i + 1) i (by omega) hi), fun i hi => ?_⟩
    obtain ⟨h1, h2, h3⟩ := of_ready hi
    obtain ⟨o, ho⟩ : ∃ o, ops[i]? = some o := ⟨ops[i], Array.getElem?_eq_getElem h1⟩
    obtain ⟨hg, -⟩ := okEls_at hok ho
    have hw : Region.wanted o (yielded ops a.tmps) = true := by unfold Region.wanted; rw [hg]
    unfold wpOp
    rw [ho]
    simp only [hw, if_true]
    left
    refine Oper.wp_mono ?_ (hstep _ a w i o ho hm (by show listed.getD i false = false; rw [listed_tf (by omega) false]; exact h2) (fun j hj => ?_))
    · intro a' w' hI
      refine ih _ _ _ (by simp [hn]) (by have := unl_set hn (mem_unl.2 ⟨h1, h2⟩); omega) ?_
      have e : (fun j => (listed.setIfInBounds i true).getD j false) = up (fun j => listed.getD j false) i := funext fun j => getD_set listed i j false (by omega)
      rw [e]
      exact hI
    · rw [Array.any_eq_true'] at hj
      obtain ⟨e, he, hb⟩ := hj
      simp only [Bool.and_eq_true, beq_iff_eq] at hb
      rw [← hb.2]
      exact h3 o ho e he hb.1
/-- The law of the region. -/
theorem wp_region_inv {id : Nat} (I : (Nat → Bool) → Act → World → Prop) (hf : P.follows .mixedOrders = true) (hok : okEls ops = true) (h0 : ∀ w1, Below w0.heap.size w0 w1 → I (fun _ => false) a0 w1)
    (hstep : ∀ L a w i o, ops[i]? = some o → I L a w → L i = false → (∀ j, (o.after.any fun e => Region.binds .any e && e.on == j) = true → L j = true) → o.wp P a w (fun a' w' => I (up L i) a' w') Q)
    (hend : ∀ L a w, (∀ i, i < ops.size → L i = true) → I L a w → Q .normal a w) :
    (Code.region id ops true).wp P Q a0 w0 := by
  refine wp_region_any hf ?_
  refine wpAny_inv (I := I) hok hstep hend _ _ _ _ (by simp) ?_ ?_
  · have := List.length_filter_le (fun i => !(Array.replicate ops.size false).getD i true) (List.range ops.size)
    simpa [unl] using this
  · have e : (fun j => (Array.replicate ops.size false).getD j false) = fun _ => false := by
      funext j
      simp [Array.getD_eq_getD_getElem?, Array.getElem?_replicate]
      split <;> simp
    rw [e]
    exact h0 _ ⟨rfl, rfl, rfl, Nat.le_refl _, fun k hk => rfl⟩
end

section
variable {P : Program} {o : Oper} {a : Act} {w : World} {Q : Exit → Act → World → Prop} {K : Act → World → Prop}
theorem op_load (ty : TypeId) (x : Operand) (ho : o.op = .load ty x)
    (g off : Nat) (hx : a.eval x = .pointer (some ⟨g, off, none⟩)) (cs : List Value) (d : TypeDesc) (hc : ∀ j v, cs[j]? = some v → w.cell? ⟨g, off + j, none⟩ = some v)
    (hu : P.underlying ty = some d) (hd : (match d with | .struct _ | .array _ _ => true | _ => false) = true) (hi : (P.info? ty).map (·.size) = some cs.length)
    (h : K (a.put o.dst (.agg cs.toArray)) w) : o.wp P a w K Q := by
  have hl : (loadCells ⟨g, off, none⟩ cs.length).run P w = .ok cs.toArray w :=
    run_loadCells_list (P := P) w ⟨g, off, none⟩ cs (fun j v hv => by rw [add_none]; exact hc j v hv)
  cases hq : P.info? ty with
  | none => simp [hq] at hi
  | some i =>
    have hs : i.size = cs.length := by simpa [hq] using hi
    have hagg : (isAgg ty).run P w = .ok true w := by
      unfold isAgg
      rw [Sem.run_bind, run_underlying hu w]
      cases d <;> simp_all
    unfold Oper.wp execOp
    simp [ho, hx, Instr.loadAt, Instr.sureAddr, Sem.run_bind, loadVar, hagg, sizeOf, typeInfo, hq, hs, hl]
    exact h
theorem op_load1 (ty : TypeId) (x : Operand) (ho : o.op = .load ty x)
    (g off : Nat) (hx : a.eval x = .pointer (some ⟨g, off, none⟩)) (v : Value) (d : TypeDesc) (hc : w.cell? ⟨g, off, none⟩ = some v)
    (hu : P.underlying ty = some d) (hd : (match d with | .struct _ | .array _ _ => false | _ => true) = true)
    (h : K (a.put o.dst v) w) : o.wp P a w K Q := by
  have hagg : (isAgg ty).run P w = .ok false w := by
    unfold isAgg
    rw [Sem.run_bind, run_underlying hu w]
    cases d <;> simp_all
  unfold Oper.wp execOp
  simp [ho, hx, Instr.loadAt, Instr.sureAddr, Sem.run_bind, loadVar, hagg, hc]
  exact h
theorem op_alloc (ty : TypeId) (ho : o.op = .alloc ty) (z : Array Value) (hi : (P.info? ty).map (·.zero) = some (some (.agg z)))
    (h : K (a.put o.dst (.pointer (some ⟨w.heap.size, 0, none⟩))) (w.alloc (.cells z ty))) : o.wp P a w K Q := by
  cases hq : P.info? ty with
  | none => simp [hq] at hi
  | some i =>
    have hz : i.zero = some (.agg z) := by simpa [hq] using hi
    unfold Oper.wp execOp
    simp [ho, Instr.alloc, zeroValue, typeInfo, hq, hz, newVar, newRow, newObj, Sem.run_bind, Value.cells]
    exact h
theorem op_store (ty : TypeId) (x y : Operand) (ho : o.op = .store ty x y) (hn : o.dst = none)
    (g : Nat) (hx : a.eval x = .pointer (some ⟨g, 0, none⟩)) (cs old : List Value) (hy : a.eval y = .agg cs.toArray) (t : TypeId) (hg : w.heap[g]? = some (.cells old.toArray t))
    (hold : old.length = cs.length) (h1 : ∀ v ∈ cs, v.oneCell' = true) (hi : (P.info? ty).map (·.size) = some cs.length)
    (h : K a (w.setRow g cs.toArray)) : o.wp P a w K Q := by
  have e : (old.toArray.toList.take 0 ++ cs ++ old.toArray.toList.drop (0 + cs.length)) = cs := by
    simp [← hold]
  have hst := run_storeCells_at P g 0 t cs 0 old.toArray w hg (by simp; omega) h1
  rw [Nat.add_zero, e] at hst
  cases hq : P.info? ty with
  | none => simp [hq] at hi
  | some i =>
    have hs : i.size = cs.length := by simpa [hq] using hi
    unfold Oper.wp execOp
    simp [ho, hx, hy, Instr.storeAt, Instr.sureAddr, Sem.run_bind, storeVar, sizeOf, typeInfo, hq, hs, Value.cells]
    simp [hst]
    show K (a.put o.dst undef) _
    rw [hn]
    exact h
theorem op_fa (t : Tmp) (T : TypeId) (k g off d : Nat) (ho : o.op = .fieldAddr T (.tmp t) k) (hr : ∀ w, (Instr.fieldAt T (.pointer (some ⟨g, off, none⟩)) k).run P w = .ok (.pointer (some ⟨g, off + d, none⟩)) w)
    (hx : a.eval (.tmp t) = .pointer (some ⟨g, off, none⟩)) (h : K (a.put o.dst (.pointer (some ⟨g, off + d, none⟩))) w) : o.wp P a w K Q := by
  unfold Oper.wp execOp
  simp only [ho, hx, Sem.run_bind, hr, Result.andThen_ok, Sem.run_pure, Oper.upon]
  exact h
theorem op_assign (t : Tmp) (c : Value) (ho : o.op = .assign (.tmp t)) (hx : a.eval (.tmp t) = c) (h : K (a.put o.dst c) w) : o.wp P a w K Q := by
  unfold Oper.wp execOp
  simp only [ho, hx, Sem.run_pure, Oper.upon]
  exact h
end
end Go.Proofs.YtpnnibddjopniaaGreatDoor.Ms

/-
  The region that lays two submits, two numbers and two texts into variables, in whatever order: what has come up at each of its states.
-/
namespace Go.Proofs.YtpnnibddjopniaaGreatDoor.Ms
open Go Go.RowKit
set_option maxRecDepth 100000

/-- The slot that an operation of the region answers into (the two that make memory and the two that write it aside). -/
def dO (i : Nat) : Nat := if i < 12 then 10 + i else i - 11
structure Ap (S1 S2 : List Value) (c : Nat → Value) (a0 : Act) (w0 : World) (L : Nat → Bool) (a : Act) (w : World) : Prop where
  below : Below w0.heap.size w0 w
  size : a.tmps.size = 85
  defs : a.defers = a0.defers
  rest : ∀ t, (t < 3 ∨ t = 9 ∨ 21 < t) → a.tmps.getD t undef = a0.tmps.getD t undef
  vals : ∀ i, (i < 12 ∨ (16 ≤ i ∧ i < 20)) → L i = true → a.tmps.getD (dO i) undef = c i
  o1 : L 14 = true → L 12 = true
  o2 : L 15 = true → L 13 = true
  b1 : L 12 = true → ∃ g1 row, a.tmps.getD 3 undef = ptr g1 0 ∧ w0.heap.size ≤ g1 ∧ w.heap[g1]? = some (.cells (List.toArray row) 25) ∧ row.length = 68 ∧ (L 14 = true → row = S1)
  b2 : L 13 = true → ∃ g2 row, a.tmps.getD 4 undef = ptr g2 0 ∧ w0.heap.size ≤ g2 ∧ w.heap[g2]? = some (.cells (List.toArray row) 25) ∧ row.length = 68 ∧ (L 15 = true → row = S2)
  ne : L 12 = true → L 13 = true → ∀ g1 g2, a.tmps.getD 3 undef = ptr g1 0 → a.tmps.getD 4 undef = ptr g2 0 → g1 ≠ g2
section
variable {S1 S2 : List Value} {c : Nat → Value} {a0 : Act} {w0 : World} {L : Nat → Bool} {a : Act} {w : World}
theorem put_ne (a : Act) (d t : Nat) (v : Value) (h : d ≠ t) : (a.put (some d) v).tmps.getD t undef = a.tmps.getD t undef := by
  simp [Act.put, Array.getD_eq_getD_getElem?, h]
theorem put_eq (a : Act) (d : Nat) (v : Value) (h : d < a.tmps.size) : (a.put (some d) v).tmps.getD d undef = v := by
  simp [Act.put, h]
theorem put_size (a : Act) (d : Nat) (v : Value) : (a.put (some d) v).tmps.size = a.tmps.size := by simp [Act.put]
/-- An operation that only answers. -/
theorem Ap.val (h : Ap S1 S2 c a0 w0 L a w) (i : Nat) (hi : i < 12 ∨ (16 ≤ i ∧ i < 20)) : Ap S1 S2 c a0 w0 (up L i) (a.put (some (dO i)) (c i)) w := by
  have hd : (10 ≤ dO i ∧ dO i < 22) ∨ (5 ≤ dO i ∧ dO i < 9) := by unfold dO; split <;> omega
  have u : ∀ j, (12 ≤ j ∧ j < 16) → up L i j = L j := fun j hj => up_ne (by omega)
  refine ⟨h.below, (put_size _ _ _).trans h.size, h.defs, fun t ht => ?_, fun j hj hL => ?_, ?_, ?_, ?_, ?_, ?_⟩
  · rw [put_ne _ _ _ _ (by omega)]
    exact h.rest t ht
  · by_cases e : i = j
    · subst e
      exact put_eq _ _ _ (by rw [h.size]; omega)
    · rw [up_ne e] at hL
      rw [put_ne _ _ _ _ (by unfold dO; split <;> split <;> omega)]
      exact h.vals j hj hL
  · rw [u 14 (by omega), u 12 (by omega)]; exact h.o1
  · rw [u 15 (by omega), u 13 (by omega)]; exact h.o2
  · rw [u 14 (by omega), u 12 (by omega), put_ne _ _ _ _ (by omega)]; exact h.b1
  · rw [u 15 (by omega), u 13 (by omega), put_ne _ _ _ _ (by omega)]; exact h.b2
  · rw [u 12 (by omega), u 13 (by omega), put_ne _ _ _ _ (by omega), put_ne _ _ _ _ (by omega)]; exact h.ne
theorem row_lt {w : World} {k : Nat} {o : Obj} (h : w.heap[k]? = some o) : k < w.heap.size := (Array.getElem?_eq_some_iff.1 h).1
theorem Ap.new1 (h : Ap S1 S2 c a0 w0 L a w) (hL : L 12 = false) (z : List Value) (hz : z.length = 68) : Ap S1 S2 c a0 w0 (up L 12) (a.put (some 3) (ptr w.heap.size 0)) (w.alloc (.cells z.toArray 25)) := by
  have hB := below_a1 w (.cells z.toArray 25)
  refine ⟨h.below.trans (hB.mono h.below.size), (put_size _ _ _).trans h.size, h.defs, fun t ht => ?_, fun j hj hL' => ?_, fun _ => up_self _ _, ?_, fun _ => ?_, fun hL' => ?_, fun _ hL' g1 g2 h1 h2 => ?_⟩
  · rw [put_ne _ _ _ _ (by omega)]
    exact h.rest t ht
  · rw [up_ne (by omega)] at hL'
    rw [put_ne _ _ _ _ (by unfold dO; split <;> omega)]
    exact h.vals j hj hL'
  · rw [up_ne (by omega), up_ne (by omega)]; exact h.o2
  · refine ⟨w.heap.size, z, put_eq _ _ _ (by rw [h.size]; omega), h.below.size, top_obj _ _, hz, fun h14 => ?_⟩
    rw [up_ne (by omega)] at h14
    rw [h.o1 h14] at hL
    cases hL
  · rw [up_ne (by omega)] at hL'
    obtain ⟨g2, row, k1, k2, k3, k4, k5⟩ := h.b2 hL'
    refine ⟨g2, row, ?_, k2, row_kept k3 hB, k4, fun h15 => k5 (by rwa [up_ne (by omega)] at h15)⟩
    rw [put_ne _ _ _ _ (by omega)]
    exact k1
  · rw [up_ne (by omega)] at hL'
    obtain ⟨g3, row, k1, k2, k3, k4, k5⟩ := h.b2 hL'
    rw [put_eq _ _ _ (by rw [h.size]; omega)] at h1
    rw [put_ne _ _ _ _ (by omega), k1] at h2
    have := row_lt k3
    cases h1
    cases h2
    omega
theorem Ap.new2 (h : Ap S1 S2 c a0 w0 L a w) (hL : L 13 = false) (z : List Value) (hz : z.length = 68) : Ap S1 S2 c a0 w0 (up L 13) (a.put (some 4) (ptr w.heap.size 0)) (w.alloc (.cells z.toArray 25)) := by
  have hB := below_a1 w (.cells z.toArray 25)
  refine ⟨h.below.trans (hB.mono h.below.size), (put_size _ _ _).trans h.size, h.defs, fun t ht => ?_, fun j hj hL' => ?_, ?_, fun _ => up_self _ _, fun hL' => ?_, fun _ => ?_, fun hL' _ g1 g2 h1 h2 => ?_⟩
  · rw [put_ne _ _ _ _ (by omega)]
    exact h.rest t ht
  · rw [up_ne (by omega)] at hL'
    rw [put_ne _ _ _ _ (by unfold dO; split <;> omega)]
    exact h.vals j hj hL'
  · rw [up_ne (by omega), up_ne (by omega)]; exact h.o1
  · rw [up_ne (by omega)] at hL'
    obtain ⟨g1, row, k1, k2, k3, k4, k5⟩ := h.b1 hL'
    refine ⟨g1, row, ?_, k2, row_kept k3 hB, k4, fun h14 => k5 (by rwa [up_ne (by omega)] at h14)⟩
    rw [put_ne _ _ _ _ (by omega)]
    exact k1
  · refine ⟨w.heap.size, z, put_eq _ _ _ (by rw [h.size]; omega), h.below.size, top_obj _ _, hz, fun h15 => ?_⟩
    rw [up_ne (by omega)] at h15
    rw [h.o2 h15] at hL
    cases hL
  · rw [up_ne (by omega)] at hL'
    obtain ⟨g3, row, k1, k2, k3, k4, k5⟩ := h.b1 hL'
    rw [put_eq _ _ _ (by rw [h.size]; omega)] at h2
    rw [put_ne _ _ _ _ (by omega), k1] at h1
    have := row_lt k3
    cases h1
    cases h2
    omega
theorem below_set {w0 w : World} (h : Below w0.heap.size w0 w) (g : Nat) (hg : w0.heap.size ≤ g) (cs : Array Value) : Below w0.heap.size w0 (w.setRow g cs) :=
  h.trans ⟨rfl, rfl, rfl, by simp, fun k hk => setRow_other w g k cs (by omega)⟩
theorem Ap.put1 (h : Ap S1 S2 c a0 w0 L a w) (h12 : L 12 = true) (hs : S1.length = 68) : ∃ g row, a.tmps.getD 3 undef = ptr g 0 ∧ w.heap[g]? = some (.cells (List.toArray row) 25) ∧ row.length = 68 ∧ Ap S1 S2 c a0 w0 (up L 14) a (w.setRow g S1.toArray) := by
  obtain ⟨g, row, k1, k2, k3, k4, k5⟩ := h.b1 h12
  refine ⟨g, row, k1, k3, k4, below_set h.below g k2 _, h.size, h.defs, h.rest, fun j hj hL' => ?_, fun _ => ?_, ?_, fun _ => ?_, fun hL' => ?_, ?_⟩
  · rw [up_ne (by omega)] at hL'
    exact h.vals j hj hL'
  · rw [up_ne (by omega)]; exact h12
  · rw [up_ne (by omega), up_ne (by omega)]; exact h.o2
  · exact ⟨g, S1, k1, k2, setRow_heap w g _ _ _ (0, 0) k3, hs, fun _ => rfl⟩
  · rw [up_ne (by omega)] at hL'
    obtain ⟨g2, row2, m1, m2, m3, m4, m5⟩ := h.b2 hL'
    have hne := h.ne h12 hL' g g2 k1 m1
    refine ⟨g2, row2, m1, m2, ?_, m4, fun h15 => m5 (by rwa [up_ne (by omega)] at h15)⟩
    rw [setRow_other w g g2 _ (fun e => hne e.symm)]
    exact m3
  · rw [up_ne (by omega), up_ne (by omega)]; exact h.ne
theorem Ap.put2 (h : Ap S1 S2 c a0 w0 L a w) (h13 : L 13 = true) (hs : S2.length = 68) : ∃ g row, a.tmps.getD 4 undef = ptr g 0 ∧ w.heap[g]? = some (.cells (List.toArray row) 25) ∧ row.length = 68 ∧ Ap S1 S2 c a0 w0 (up L 15) a (w.setRow g S2.toArray) := by
  obtain ⟨g, row, k1, k2, k3, k4, k5⟩ := h.b2 h13
  refine ⟨g, row, k1, k3, k4, below_set h.below g k2 _, h.size, h.defs, h.rest, fun j hj hL' => ?_, ?_, fun _ => ?_, fun hL' => ?_, fun _ => ?_, ?_⟩
  · rw [up_ne (by omega)] at hL'
    exact h.vals j hj hL'
  · rw [up_ne (by omega), up_ne (by omega)]; exact h.o1
  · rw [up_ne (by omega)]; exact h13
  · rw [up_ne (by omega)] at hL'
    obtain ⟨g2, row2, m1, m2, m3, m4, m5⟩ := h.b1 hL'
    have hne := h.ne hL' h13 g2 g m1 k1
    refine ⟨g2, row2, m1, m2, ?_, m4, fun h14 => m5 (by rwa [up_ne (by omega)] at h14)⟩
    rw [setRow_other w g g2 _ hne]
    exact m3
  · exact ⟨g, S2, k1, k2, setRow_heap w g _ _ _ (0, 0) k3, hs, fun _ => rfl⟩
  · rw [up_ne (by omega), up_ne (by omega)]; exact h.ne
end
end Go.Proofs.YtpnnibddjopniaaGreatDoor.Ms

/-
  The walk of MsgApart.
-/
namespace Go.Proofs.YtpnnibddjopniaaGreatDoor.Ms
open Go Go.RowKit
set_option maxRecDepth 100000

theorem numB_apart {n m : Int} (hn : I64 n) (hm : I64 m) {r r' : List UInt8} (h : numB n ++ r = numB m ++ r') : n = m ∧ r = r' := by
  have h1 := num_back n hn r
  rw [h, num_back m hm r'] at h1
  have e : n = m := by
    injection h1 with _ h1
    injection h1 with h1 _
    exact h1.symm
  subst e
  exact ⟨rfl, List.append_cancel_left h⟩
theorem txtB_apart {s t : List UInt8} (hs : s.length ≤ 16384) (ht : t.length ≤ 16384) (h : txtB s = txtB t) : s = t := by
  have h1 := txt_back s hs []
  rw [h, txt_back t ht []] at h1
  injection h1 with _ h1
  injection h1 with h1 _
  exact h1.symm
theorem askB_apart {n m : Int} {x y : Sub} (hn : I64 n) (hm : I64 m) (hx : SubRng x) (hy : SubRng y) : askB n x = askB m y ↔ (n = m ∧ x.number = y.number ∧ x.kind = y.kind ∧ x.target = y.target) := by
  constructor
  · intro h
    unfold askB at h
    rw [List.append_assoc, List.append_assoc, List.append_assoc, List.append_assoc] at h
    obtain ⟨h0, h⟩ := numB_apart hn hm h
    obtain ⟨h1, h⟩ := numB_apart hx.n hy.n h
    obtain ⟨h2, h⟩ := numB_apart hx.k hy.k h
    have h3 := numB_apart (r := []) (r' := []) hx.t hy.t (by rw [h])
    exact ⟨h0, h1, h2, h3.1⟩
  · rintro ⟨h0, h1, h2, h3⟩
    unfold askB
    rw [h0, h1, h2, h3]
theorem datB_apart {n m : Int} {s t : List UInt8} (hn : I64 n) (hm : I64 m) (hs : s.length ≤ 16384) (ht : t.length ≤ 16384) : numB n ++ layT s = numB m ++ layT t ↔ (n = m ∧ s = t) := by
  constructor
  · intro h
    obtain ⟨h0, h⟩ := numB_apart hn hm h
    unfold layT at h
    rw [if_neg (by omega), if_neg (by omega)] at h
    exact ⟨h0, txtB_apart hs ht h⟩
  · rintro ⟨h0, h1⟩
    rw [h0, h1]

def sixC (x y : Sub) (n m : Int) (s t : List UInt8) : List Value := subC x ++ (subC y ++ ([nu n] ++ ([nu m] ++ ([st s] ++ ([st t] ++ [])))))
theorem fa49_0 (g : Nat) (w : World) : (Instr.fieldAt 49 (.pointer (some ⟨g, 0, none⟩)) 0).run Tryz.prog w = .ok (.pointer (some ⟨g, 0 + 0, none⟩)) w := by kernel_rfl
theorem fa49_1 (g : Nat) (w : World) : (Instr.fieldAt 49 (.pointer (some ⟨g, 0, none⟩)) 1).run Tryz.prog w = .ok (.pointer (some ⟨g, 0 + 68, none⟩)) w := by kernel_rfl
theorem fa49_2 (g : Nat) (w : World) : (Instr.fieldAt 49 (.pointer (some ⟨g, 0, none⟩)) 2).run Tryz.prog w = .ok (.pointer (some ⟨g, 0 + 136, none⟩)) w := by kernel_rfl
theorem fa49_3 (g : Nat) (w : World) : (Instr.fieldAt 49 (.pointer (some ⟨g, 0, none⟩)) 3).run Tryz.prog w = .ok (.pointer (some ⟨g, 0 + 137, none⟩)) w := by kernel_rfl
theorem fa49_4 (g : Nat) (w : World) : (Instr.fieldAt 49 (.pointer (some ⟨g, 0, none⟩)) 4).run Tryz.prog w = .ok (.pointer (some ⟨g, 0 + 138, none⟩)) w := by kernel_rfl
theorem fa49_5 (g : Nat) (w : World) : (Instr.fieldAt 49 (.pointer (some ⟨g, 0, none⟩)) 5).run Tryz.prog w = .ok (.pointer (some ⟨g, 0 + 139, none⟩)) w := by kernel_rfl
theorem tmps_of (A : Array Value) (l : List Value) (h : A.size = l.length) (he : ∀ t, t < l.length → A.getD t undef = l.getD t undef) : A = l.toArray := by
  apply Array.ext
  · simpa using h
  · intro i h1 h2
    have := he i (by omega)
    have hl : i < l.length := by omega
    simpa [h1, hl] using this
theorem tail_undef (X : List Value) (k j : Nat) (hX : X.length = 22) : (X ++ List.replicate k undef).getD (j + 22) undef = undef := by
  simp [List.getD, hX, List.getElem?_append_right, List.getElem?_replicate]
  split <;> rfl
theorem arr_getD (l : List Value) (i : Nat) : l.toArray.getD i undef = l.getD i undef := by simp
theorem zsub : ∃ z : List Value, z.length = 68 ∧ (Tryz.prog.info? 25).map (·.zero) = some (some (.agg z.toArray)) := ⟨subC zeroS, by kernel_rfl, by kernel_rfl⟩
def apC (g : Nat) (S1 S2 : List Value) (n m : Int) (s t : List UInt8) : List Value := [ptr g 0, .agg S1.toArray, ptr g 68, .agg S2.toArray, ptr g 136, nu n, ptr g 137, nu m, ptr g 138, st s, ptr g 139, st t, undef, undef, undef, undef, nu n, nu m, st s, st t]
set_option maxHeartbeats 4000000 in
theorem apart_walk (w : World) (ht : Tb w) (x y : Sub) (n m : Int) (s t : List UInt8) (hx : x.Wf) (hy : y.Wf) (hrx : SubRng x) (hry : SubRng y) (hn : I64 n) (hm : I64 m) :
    Calls Tryz.prog 8 #[.agg (sixC x y n m s t).toArray] w fun e w' => e = .returned (.bool true) ∧ Below w.heap.size w w' := by
  obtain ⟨z, hz, hzi⟩ := zsub
  have HB0 := hid (below_a1 w (.cells (sixC x y n m s t).toArray 49))
  have r0 := hid (top_obj w (.cells (sixC x y n m s t).toArray 49))
  have lx := subC_len hx
  have ly := subC_len hy
  have Zx : (Tryz.prog.info? 25).map (·.size) = some (subC x).length := by rw [lx]; exact sizeSub
  have Zy : (Tryz.prog.info? 25).map (·.size) = some (subC y).length := by rw [ly]; exact sizeSub
  go_enter Tryz.func8, Tryz.ntmps8
  go_upto_region 1 with fail
  generalize hW0 : w.alloc (.cells (sixC x y n m s t).toArray 49) = W0 at *
  have HR := hid (fun (w' : World) (h : Below W0.heap.size W0 w') => row_kept r0.out h)
  refine wp_region_inv (Ap (subC x) (subC y) (fun i => (apC w.heap.size (subC x) (subC y) n m s t).getD i undef) _ W0) (by kernel_rfl) (by kernel_rfl) (fun w1 hb => ⟨hb, rfl, rfl, fun _ _ => rfl, fun _ _ h => absurd h Bool.false_ne_true, fun h => absurd h Bool.false_ne_true, fun h => absurd h Bool.false_ne_true, fun h => absurd h Bool.false_ne_true, fun h => absurd h Bool.false_ne_true, fun h => absurd h Bool.false_ne_true⟩) ?_ ?_
  · intro L a w' i o ho hI hLi hdep
    have X1 : a.eval (.tmp 1) = ptr w.heap.size 0 := hI.rest 1 (by omega)
    have hrow := HR.out w' hI.below
    match i, ho with
    | 0, ho => cases ho; exact op_fa 1 49 0 w.heap.size 0 0 rfl (fun W => fa49_0 _ W) X1 (hI.val 0 (by omega))
    | 1, ho => cases ho; exact op_load 25 (.tmp 10) rfl w.heap.size 0 (hI.vals 0 (by omega) (hdep 0 (by kernel_rfl))) (subC x) _ (row_seg (off := 0) (A := []) (C := subC y ++ ([nu n] ++ ([nu m] ++ ([st s] ++ ([st t] ++ []))))) hrow (by simp [sixC]) (rfl)) Tryz.underlying25 rfl Zx (hI.val 1 (by omega))
    | 2, ho => cases ho; exact op_fa 1 49 1 w.heap.size 0 68 rfl (fun W => fa49_1 _ W) X1 (hI.val 2 (by omega))
    | 3, ho => cases ho; exact op_load 25 (.tmp 12) rfl w.heap.size 68 (hI.vals 2 (by omega) (hdep 2 (by kernel_rfl))) (subC y) _ (row_seg (off := 68) (A := subC x) (C := [nu n] ++ ([nu m] ++ ([st s] ++ ([st t] ++ [])))) hrow (by simp [sixC]) (lx)) Tryz.underlying25 rfl Zy (hI.val 3 (by omega))
    | 4, ho => cases ho; exact op_fa 1 49 2 w.heap.size 0 136 rfl (fun W => fa49_2 _ W) X1 (hI.val 4 (by omega))
    | 5, ho => cases ho; exact op_load1 3 (.tmp 14) rfl w.heap.size 136 (hI.vals 4 (by omega) (hdep 4 (by kernel_rfl))) (nu n) _ (row_cell (off := 136) (A := subC x ++ subC y) (C := [nu m] ++ ([st s] ++ ([st t] ++ []))) hrow (by simp [sixC]) (by simp [lx, ly])) Tryz.underlying3 rfl (hI.val 5 (by omega))
    | 6, ho => cases ho; exact op_fa 1 49 3 w.heap.size 0 137 rfl (fun W => fa49_3 _ W) X1 (hI.val 6 (by omega))
    | 7, ho => cases ho; exact op_load1 3 (.tmp 16) rfl w.heap.size 137 (hI.vals 6 (by omega) (hdep 6 (by kernel_rfl))) (nu m) _ (row_cell (off := 137) (A := subC x ++ (subC y ++ [nu n])) (C := [st s] ++ ([st t] ++ [])) hrow (by simp [sixC]) (by simp [lx, ly])) Tryz.underlying3 rfl (hI.val 7 (by omega))
    | 8, ho => cases ho; exact op_fa 1 49 4 w.heap.size 0 138 rfl (fun W => fa49_4 _ W) X1 (hI.val 8 (by omega))
    | 9, ho => cases ho; exact op_load1 9 (.tmp 18) rfl w.heap.size 138 (hI.vals 8 (by omega) (hdep 8 (by kernel_rfl))) (st s) _ (row_cell (off := 138) (A := subC x ++ (subC y ++ ([nu n] ++ [nu m]))) (C := [st t] ++ []) hrow (by simp [sixC]) (by simp [lx, ly])) Tryz.underlying9 rfl (hI.val 9 (by omega))
    | 10, ho => cases ho; exact op_fa 1 49 5 w.heap.size 0 139 rfl (fun W => fa49_5 _ W) X1 (hI.val 10 (by omega))
    | 11, ho => cases ho; exact op_load1 9 (.tmp 20) rfl w.heap.size 139 (hI.vals 10 (by omega) (hdep 10 (by kernel_rfl))) (st t) _ (row_cell (off := 139) (A := subC x ++ (subC y ++ ([nu n] ++ ([nu m] ++ [st s])))) (C := []) hrow (by simp [sixC]) (by simp [lx, ly])) Tryz.underlying9 rfl (hI.val 11 (by omega))
    | 12, ho => cases ho; exact op_alloc 25 rfl z.toArray hzi (hI.new1 hLi z hz)
    | 13, ho => cases ho; exact op_alloc 25 rfl z.toArray hzi (hI.new2 hLi z hz)
    | 14, ho =>
      cases ho
      obtain ⟨g, row, k1, k2, k3, k4⟩ := hI.put1 (hdep 12 (by kernel_rfl)) lx
      exact op_store 25 (.tmp 3) (.tmp 11) rfl rfl g k1 (subC x) row (hI.vals 1 (by omega) (hdep 1 (by kernel_rfl))) _ k2 (k3.trans lx.symm) (one_sub x) Zx k4
    | 15, ho =>
      cases ho
      obtain ⟨g, row, k1, k2, k3, k4⟩ := hI.put2 (hdep 13 (by kernel_rfl)) ly
      exact op_store 25 (.tmp 4) (.tmp 13) rfl rfl g k1 (subC y) row (hI.vals 3 (by omega) (hdep 3 (by kernel_rfl))) _ k2 (k3.trans ly.symm) (one_sub y) Zy k4
    | 16, ho => cases ho; exact op_assign 15 _ rfl (hI.vals 5 (by omega) (hdep 5 (by kernel_rfl))) (hI.val 16 (by omega))
    | 17, ho => cases ho; exact op_assign 17 _ rfl (hI.vals 7 (by omega) (hdep 7 (by kernel_rfl))) (hI.val 17 (by omega))
    | 18, ho => cases ho; exact op_assign 19 _ rfl (hI.vals 9 (by omega) (hdep 9 (by kernel_rfl))) (hI.val 18 (by omega))
    | 19, ho => cases ho; exact op_assign 21 _ rfl (hI.vals 11 (by omega) (hdep 11 (by kernel_rfl))) (hI.val 19 (by omega))
    | (i + 20), ho => exact absurd ho (by simp)
  · intro L a w1 hall hI
    obtain ⟨g1, row1, k1, k2, k3, -, k5⟩ := hI.b1 (hall 12 (by decide))
    obtain ⟨g2, row2, m1, m2, m3, -, m5⟩ := hI.b2 (hall 13 (by decide))
    obtain rfl := k5 (hall 14 (by decide))
    obtain rfl := m5 (hall 15 (by decide))
    have hA : a.tmps = ([.agg (sixC x y n m s t).toArray, ptr w.heap.size 0, .bool false, ptr g1 0, ptr g2 0, nu n, nu m, st s, st t, undef, ptr w.heap.size 0, .agg (subC x).toArray, ptr w.heap.size 68, .agg (subC y).toArray, ptr w.heap.size 136, nu n, ptr w.heap.size 137, nu m, ptr w.heap.size 138, st s, ptr w.heap.size 139, st t] ++ List.replicate 63 undef).toArray := by
      refine tmps_of _ _ hI.size fun t htl => ?_
      by_cases hq : 21 < t
      · refine (hI.rest t (by omega)).trans ?_
        obtain ⟨j, rfl⟩ : ∃ j, t = j + 22 := ⟨t - 22, by omega⟩
        rw [tail_undef _ 63 j rfl]
        exact (arr_getD ([.agg (sixC x y n m s t).toArray, ptr w.heap.size 0, .bool false, undef, undef, undef, undef, undef, undef, undef, undef, undef, undef, undef, undef, undef, undef, undef, undef, undef, undef, undef] ++ List.replicate 63 undef) _).trans (tail_undef _ 63 j rfl)
      · match t, hq with
        | 0, _ => exact hI.rest 0 (by omega)
        | 1, _ => exact hI.rest 1 (by omega)
        | 2, _ => exact hI.rest 2 (by omega)
        | 3, _ => exact k1
        | 4, _ => exact m1
        | 5, _ => exact hI.vals 16 (by omega) (hall 16 (by decide))
        | 6, _ => exact hI.vals 17 (by omega) (hall 17 (by decide))
        | 7, _ => exact hI.vals 18 (by omega) (hall 18 (by decide))
        | 8, _ => exact hI.vals 19 (by omega) (hall 19 (by decide))
        | 9, _ => exact hI.rest 9 (by omega)
        | 10, _ => exact hI.vals 0 (by omega) (hall 0 (by decide))
        | 11, _ => exact hI.vals 1 (by omega) (hall 1 (by decide))
        | 12, _ => exact hI.vals 2 (by omega) (hall 2 (by decide))
        | 13, _ => exact hI.vals 3 (by omega) (hall 3 (by decide))
        | 14, _ => exact hI.vals 4 (by omega) (hall 4 (by decide))
        | 15, _ => exact hI.vals 5 (by omega) (hall 5 (by decide))
        | 16, _ => exact hI.vals 6 (by omega) (hall 6 (by decide))
        | 17, _ => exact hI.vals 7 (by omega) (hall 7 (by decide))
        | 18, _ => exact hI.vals 8 (by omega) (hall 8 (by decide))
        | 19, _ => exact hI.vals 9 (by omega) (hall 9 (by decide))
        | 20, _ => exact hI.vals 10 (by omega) (hall 10 (by decide))
        | 21, _ => exact hI.vals 11 (by omega) (hall 11 (by decide))
        | (j + 22), hq => exact absurd (by omega) hq
    obtain ⟨tm, df⟩ := a
    obtain rfl : df = [] := hI.defs
    obtain rfl : tm = _ := hA
    have HB1 := hid (below_two HB0.out hI.below)
    clear hI hall HR r0 HB0
    simp only [List.replicate_succ, List.replicate_zero, List.cons_append, List.nil_append]
    have c10 := srow_number k3 hx
    have c11 := srow_kind k3 hx
    have c12 := srow_target k3 hx
    have c20 := srow_number m3 hy
    have c21 := srow_kind m3 hy
    have c22 := srow_target m3 hy
    have S1 := hid (row_seg (off := 0) (A := []) (cs := subC x) (C := []) k3 (by simp) rfl)
    have S2 := hid (row_seg (off := 0) (A := []) (cs := subC y) (C := []) m3 (by simp) rfl)
    have HT := hid (ht.stays HB1.out)
    have hs1 : (⟨s.toArray⟩ : ByteArray).size = s.length := rfl
    have ht1 : (⟨t.toArray⟩ : ByteArray).size = t.length := rfl
    have A0 := hid (fun W (hW : Tb W) dd os => Calls.regrown_of (awake_any _ (hW.stays (below_regrown W dd os))))
    have A1 := hid (fun W (hW : Tb W) dd os => Calls.regrown_of (asked_any n hn x hx hrx _ (hW.stays (below_regrown W dd os))))
    have A2 := hid (fun W (hW : Tb W) dd os => Calls.regrown_of (asked_any m hm y hy hry _ (hW.stays (below_regrown W dd os))))
    have A3 := hid (fun W (hW : Tb W) dd os => Calls.regrown_of (data_any n hn s _ (hW.stays (below_regrown W dd os))))
    have A4 := hid (fun W (hW : Tb W) dd os => Calls.regrown_of (data_any m hm t _ (hW.stays (below_regrown W dd os))))
    have EA := hid (askB_apart (n := n) (m := m) (x := x) (y := y) hn hm hrx hry)
    have ED := hid (fun h1 h2 => datB_apart (n := n) (m := m) (s := s) (t := t) hn hm h1 h2)
    have SS1 := hid (fun w' (hw : ∃ p : Regrown, w' = Sort.grow (redrawn w1 p.d) p.os) => (by obtain ⟨p, rfl⟩ := hw; exact fun i c hi => cell_regrown (S1.out i c hi) _ _ : ∀ i c, (subC x)[i]? = some c → w'.cell? ⟨g1, 0 + i, none⟩ = some c))
    have SS2 := hid (fun w' (hw : ∃ p : Regrown, w' = Sort.grow (redrawn w1 p.d) p.os) => (by obtain ⟨p, rfl⟩ := hw; exact fun i c hi => cell_regrown (S2.out i c hi) _ _ : ∀ i c, (subC y)[i]? = some c → w'.cell? ⟨g2, 0 + i, none⟩ = some c))
    have hbg := hid (fun dq osq => below_two HB1.out (below_regrown w1 dq osq))
    clear S1 S2 k1 m1 k2 m2 k3 m3 k5 m5 lx ly hz hzi hW0 ht hx hy hrx hry hn hm
    generalize (sixC x y n m s t).toArray = SX at *
    generalize subC x = Sx at *
    generalize subC y = Sy at *
    generalize x.number = x1 at *
    generalize x.kind = x2 at *
    generalize x.target = x3 at *
    generalize y.number = y1 at *
    generalize y.kind = y2 at *
    generalize y.target = y3 at *
    generalize askB n x = TX at *
    generalize askB m y = TY at *
    generalize numB n ++ layT s = DX at *
    generalize numB m ++ layT t = DY at *
    by_cases hs : 16384 < s.length
    · clear A0 A1 A2 A3 A4 SS1 SS2
      go_wp2_with fail
      refine (awake_any _ HT.out).mono ?_
      rintro e w2 ⟨rfl, hb⟩
      have HB2 := hid (below_two HB1.out hb)
      go_wp2
      go_ret
      exact ⟨rfl, HB2.out⟩
    by_cases hl : 16384 < t.length
    · clear A0 A1 A2 A3 A4 SS1 SS2
      go_wp2_with fail
      refine (awake_any _ HT.out).mono ?_
      rintro e w2 ⟨rfl, hb⟩
      have HB2 := hid (below_two HB1.out hb)
      go_wp2
      go_ret
      exact ⟨rfl, HB2.out⟩
    have ED2 := hid (ED.out (by omega) (by omega))
    clear ED
    by_cases h1 : n = m
    · subst h1
      by_cases hst : s = t
      · subst hst
        obtain rfl : DX = DY := ED2.out.2 ⟨rfl, rfl⟩
        clear ED2
        by_cases h2 : x1 = y1
        case neg => as_aux_lemma =>
          have tne : ¬ TX = TY := fun e => h2 (EA.out.1 e).2.1
          have tne2 : ¬ TY = TX := fun e => tne e.symm
          clear EA
          go_upto_region 5 with fail
          have B0 := hid (A0.out w1 HT.out)
          have B1 := hid (A1.out w1 HT.out)
          have B2 := hid (A2.out w1 HT.out)
          have B3 := hid (A3.out w1 HT.out)
          have B4 := hid (A4.out w1 HT.out)
          refine wp_region_quiet_below (by kernel_rfl) (by kernel_rfl) ?_
          (first | go_big_quiet_step (exact B0.out _ _) | quiet_step (exact B0.out _ _))
          iterate 2 (first | go_big_quiet_step (fail) | quiet_step (fail))
          refine wq_load 25 (.tmp 3) rfl g1 0 rfl rfl Sx _ (fun w' hw' => SS1.out w' hw') Tryz.underlying25 rfl Zx ?_
          simp only [Act.put, List.setIfInBounds_toArray, List.set_cons_zero, List.set_cons_succ]
          (first | go_big_quiet_step (exact B1.out _ _) | quiet_step (exact B1.out _ _))
          (first | go_big_quiet_step (fail) | quiet_step (fail))
          refine wq_load 25 (.tmp 4) rfl g2 0 rfl rfl Sy _ (fun w' hw' => SS2.out w' hw') Tryz.underlying25 rfl Zy ?_
          simp only [Act.put, List.setIfInBounds_toArray, List.set_cons_zero, List.set_cons_succ]
          (first | go_big_quiet_step (exact B2.out _ _) | quiet_step (exact B2.out _ _))
          iterate 7 (first | go_big_quiet_step (fail) | quiet_step (fail))
          (first | go_big_quiet_step (exact B3.out _ _) | quiet_step (exact B3.out _ _))
          iterate 2 (first | go_big_quiet_step (fail) | quiet_step (fail))
          (first | go_big_quiet_step (exact B4.out _ _) | quiet_step (exact B4.out _ _))
          iterate 12 (first | go_big_quiet_step (fail) | quiet_step (fail))
          refine wpQuiet_nil ?_
          intro _ hw'
          obtain ⟨⟨dq, osq⟩, hw''⟩ := hw'
          subst hw''
          have HBq := hid (hbg.out dq osq)
          go_wp2
          go_ret
          exact ⟨by first | rfl | (simp; done) | (simp [tne]; done) | (simp [bD, bS]; done) | (simp [tne, dne]; done) | (simp [tne, bD, bS]; done), HBq.out⟩
        subst h2
        by_cases h3 : x2 = y2
        case neg => as_aux_lemma =>
          have tne : ¬ TX = TY := fun e => h3 (EA.out.1 e).2.2.1
          have tne2 : ¬ TY = TX := fun e => tne e.symm
          clear EA
          go_upto_region 5 with fail
          have B0 := hid (A0.out w1 HT.out)
          have B1 := hid (A1.out w1 HT.out)
          have B2 := hid (A2.out w1 HT.out)
          have B3 := hid (A3.out w1 HT.out)
          have B4 := hid (A4.out w1 HT.out)
          refine wp_region_quiet_below (by kernel_rfl) (by kernel_rfl) ?_
          (first | go_big_quiet_step (exact B0.out _ _) | quiet_step (exact B0.out _ _))
          iterate 2 (first | go_big_quiet_step (fail) | quiet_step (fail))
          refine wq_load 25 (.tmp 3) rfl g1 0 rfl rfl Sx _ (fun w' hw' => SS1.out w' hw') Tryz.underlying25 rfl Zx ?_
          simp only [Act.put, List.setIfInBounds_toArray, List.set_cons_zero, List.set_cons_succ]
          (first | go_big_quiet_step (exact B1.out _ _) | quiet_step (exact B1.out _ _))
          (first | go_big_quiet_step (fail) | quiet_step (fail))
          refine wq_load 25 (.tmp 4) rfl g2 0 rfl rfl Sy _ (fun w' hw' => SS2.out w' hw') Tryz.underlying25 rfl Zy ?_
          simp only [Act.put, List.setIfInBounds_toArray, List.set_cons_zero, List.set_cons_succ]
          (first | go_big_quiet_step (exact B2.out _ _) | quiet_step (exact B2.out _ _))
          iterate 7 (first | go_big_quiet_step (fail) | quiet_step (fail))
          (first | go_big_quiet_step (exact B3.out _ _) | quiet_step (exact B3.out _ _))
          iterate 2 (first | go_big_quiet_step (fail) | quiet_step (fail))
          (first | go_big_quiet_step (exact B4.out _ _) | quiet_step (exact B4.out _ _))
          iterate 12 (first | go_big_quiet_step (fail) | quiet_step (fail))
          refine wpQuiet_nil ?_
          intro _ hw'
          obtain ⟨⟨dq, osq⟩, hw''⟩ := hw'
          subst hw''
          have HBq := hid (hbg.out dq osq)
          go_wp2
          go_ret
          exact ⟨by first | rfl | (simp; done) | (simp [tne]; done) | (simp [bD, bS]; done) | (simp [tne, dne]; done) | (simp [tne, bD, bS]; done), HBq.out⟩
        subst h3
        by_cases h4 : x3 = y3
        case neg => as_aux_lemma =>
          have tne : ¬ TX = TY := fun e => h4 (EA.out.1 e).2.2.2
          have tne2 : ¬ TY = TX := fun e => tne e.symm
          clear EA
          have e3 : (x3 == y3) = false := by simp [h4]
          go_upto_region 5 with fail
          have B0 := hid (A0.out w1 HT.out)
          have B1 := hid (A1.out w1 HT.out)
          have B2 := hid (A2.out w1 HT.out)
          have B3 := hid (A3.out w1 HT.out)
          have B4 := hid (A4.out w1 HT.out)
          refine wp_region_quiet_below (by kernel_rfl) (by kernel_rfl) ?_
          (first | go_big_quiet_step (exact B0.out _ _) | quiet_step (exact B0.out _ _))
          iterate 2 (first | go_big_quiet_step (fail) | quiet_step (fail))
          refine wq_load 25 (.tmp 3) rfl g1 0 rfl rfl Sx _ (fun w' hw' => SS1.out w' hw') Tryz.underlying25 rfl Zx ?_
          simp only [Act.put, List.setIfInBounds_toArray, List.set_cons_zero, List.set_cons_succ]
          (first | go_big_quiet_step (exact B1.out _ _) | quiet_step (exact B1.out _ _))
          (first | go_big_quiet_step (fail) | quiet_step (fail))
          refine wq_load 25 (.tmp 4) rfl g2 0 rfl rfl Sy _ (fun w' hw' => SS2.out w' hw') Tryz.underlying25 rfl Zy ?_
          simp only [Act.put, List.setIfInBounds_toArray, List.set_cons_zero, List.set_cons_succ]
          (first | go_big_quiet_step (exact B2.out _ _) | quiet_step (exact B2.out _ _))
          iterate 7 (first | go_big_quiet_step (fail) | quiet_step (fail))
          (first | go_big_quiet_step (exact B3.out _ _) | quiet_step (exact B3.out _ _))
          iterate 2 (first | go_big_quiet_step (fail) | quiet_step (fail))
          (first | go_big_quiet_step (exact B4.out _ _) | quiet_step (exact B4.out _ _))
          iterate 12 (first | go_big_quiet_step (fail) | quiet_step (fail))
          refine wpQuiet_nil ?_
          intro _ hw'
          obtain ⟨⟨dq, osq⟩, hw''⟩ := hw'
          subst hw''
          have HBq := hid (hbg.out dq osq)
          go_wp2
          go_ret
          exact ⟨by first | rfl | (simp; done) | (simp [tne]; done) | (simp [bD, bS]; done) | (simp [tne, dne]; done) | (simp [tne, bD, bS]; done), HBq.out⟩
        subst h4
        obtain rfl : TX = TY := EA.out.2 ⟨rfl, rfl, rfl, rfl⟩
        clear EA
        go_upto_region 5 with fail
        have B0 := hid (A0.out w1 HT.out)
        have B1 := hid (A1.out w1 HT.out)
        have B2 := hid (A2.out w1 HT.out)
        have B3 := hid (A3.out w1 HT.out)
        have B4 := hid (A4.out w1 HT.out)
        refine wp_region_quiet_below (by kernel_rfl) (by kernel_rfl) ?_
        (first | go_big_quiet_step (exact B0.out _ _) | quiet_step (exact B0.out _ _))
        iterate 2 (first | go_big_quiet_step (fail) | quiet_step (fail))
        refine wq_load 25 (.tmp 3) rfl g1 0 rfl rfl Sx _ (fun w' hw' => SS1.out w' hw') Tryz.underlying25 rfl Zx ?_
        simp only [Act.put, List.setIfInBounds_toArray, List.set_cons_zero, List.set_cons_succ]
        (first | go_big_quiet_step (exact B1.out _ _) | quiet_step (exact B1.out _ _))
        (first | go_big_quiet_step (fail) | quiet_step (fail))
        refine wq_load 25 (.tmp 4) rfl g2 0 rfl rfl Sy _ (fun w' hw' => SS2.out w' hw') Tryz.underlying25 rfl Zy ?_
        simp only [Act.put, List.setIfInBounds_toArray, List.set_cons_zero, List.set_cons_succ]
        (first | go_big_quiet_step (exact B2.out _ _) | quiet_step (exact B2.out _ _))
        iterate 7 (first | go_big_quiet_step (fail) | quiet_step (fail))
        (first | go_big_quiet_step (exact B3.out _ _) | quiet_step (exact B3.out _ _))
        iterate 2 (first | go_big_quiet_step (fail) | quiet_step (fail))
        (first | go_big_quiet_step (exact B4.out _ _) | quiet_step (exact B4.out _ _))
        iterate 12 (first | go_big_quiet_step (fail) | quiet_step (fail))
        refine wpQuiet_nil ?_
        intro _ hw'
        obtain ⟨⟨dq, osq⟩, hw''⟩ := hw'
        subst hw''
        have HBq := hid (hbg.out dq osq)
        go_wp2
        go_ret
        exact ⟨by first | rfl | (simp; done) | (simp [tne]; done) | (simp [bD, bS]; done) | (simp [tne, dne]; done) | (simp [tne, bD, bS]; done), HBq.out⟩
      · have dne : ¬ DX = DY := fun e => hst (ED2.out.1 e).2
        have dne2 : ¬ DY = DX := fun e => dne e.symm
        have hst2 : ¬ t = s := fun e => hst e.symm
        have bD : (DX == DY) = false := by simp [dne]
        have bS : (s == t) = false := by simp [hst]
        clear ED2
        by_cases h2 : x1 = y1
        case neg => as_aux_lemma =>
          have tne : ¬ TX = TY := fun e => h2 (EA.out.1 e).2.1
          have tne2 : ¬ TY = TX := fun e => tne e.symm
          clear EA
          go_upto_region 5 with fail
          have B0 := hid (A0.out w1 HT.out)
          have B1 := hid (A1.out w1 HT.out)
          have B2 := hid (A2.out w1 HT.out)
          have B3 := hid (A3.out w1 HT.out)
          have B4 := hid (A4.out w1 HT.out)
          refine wp_region_quiet_below (by kernel_rfl) (by kernel_rfl) ?_
          (first | go_big_quiet_step (exact B0.out _ _) | quiet_step (exact B0.out _ _))
          iterate 2 (first | go_big_quiet_step (fail) | quiet_step (fail))
          refine wq_load 25 (.tmp 3) rfl g1 0 rfl rfl Sx _ (fun w' hw' => SS1.out w' hw') Tryz.underlying25 rfl Zx ?_
          simp only [Act.put, List.setIfInBounds_toArray, List.set_cons_zero, List.set_cons_succ]
          (first | go_big_quiet_step (exact B1.out _ _) | quiet_step (exact B1.out _ _))
          (first | go_big_quiet_step (fail) | quiet_step (fail))
          refine wq_load 25 (.tmp 4) rfl g2 0 rfl rfl Sy _ (fun w' hw' => SS2.out w' hw') Tryz.underlying25 rfl Zy ?_
          simp only [Act.put, List.setIfInBounds_toArray, List.set_cons_zero, List.set_cons_succ]
          (first | go_big_quiet_step (exact B2.out _ _) | quiet_step (exact B2.out _ _))
          iterate 7 (first | go_big_quiet_step (fail) | quiet_step (fail))
          (first | go_big_quiet_step (exact B3.out _ _) | quiet_step (exact B3.out _ _))
          iterate 2 (first | go_big_quiet_step (fail) | quiet_step (fail))
          (first | go_big_quiet_step (exact B4.out _ _) | quiet_step (exact B4.out _ _))
          iterate 12 (first | go_big_quiet_step (fail) | quiet_step (fail))
          refine wpQuiet_nil ?_
          intro _ hw'
          obtain ⟨⟨dq, osq⟩, hw''⟩ := hw'
          subst hw''
          have HBq := hid (hbg.out dq osq)
          go_wp2
          go_ret
          exact ⟨by first | rfl | (simp; done) | (simp [tne]; done) | (simp [bD, bS]; done) | (simp [tne, dne]; done) | (simp [tne, bD, bS]; done), HBq.out⟩
        subst h2
        by_cases h3 : x2 = y2
        case neg => as_aux_lemma =>
          have tne : ¬ TX = TY := fun e => h3 (EA.out.1 e).2.2.1
          have tne2 : ¬ TY = TX := fun e => tne e.symm
          clear EA
          go_upto_region 5 with fail
          have B0 := hid (A0.out w1 HT.out)
          have B1 := hid (A1.out w1 HT.out)
          have B2 := hid (A2.out w1 HT.out)
          have B3 := hid (A3.out w1 HT.out)
          have B4 := hid (A4.out w1 HT.out)
          refine wp_region_quiet_below (by kernel_rfl) (by kernel_rfl) ?_
          (first | go_big_quiet_step (exact B0.out _ _) | quiet_step (exact B0.out _ _))
          iterate 2 (first | go_big_quiet_step (fail) | quiet_step (fail))
          refine wq_load 25 (.tmp 3) rfl g1 0 rfl rfl Sx _ (fun w' hw' => SS1.out w' hw') Tryz.underlying25 rfl Zx ?_
          simp only [Act.put, List.setIfInBounds_toArray, List.set_cons_zero, List.set_cons_succ]
          (first | go_big_quiet_step (exact B1.out _ _) | quiet_step (exact B1.out _ _))
          (first | go_big_quiet_step (fail) | quiet_step (fail))
          refine wq_load 25 (.tmp 4) rfl g2 0 rfl rfl Sy _ (fun w' hw' => SS2.out w' hw') Tryz.underlying25 rfl Zy ?_
          simp only [Act.put, List.setIfInBounds_toArray, List.set_cons_zero, List.set_cons_succ]
          (first | go_big_quiet_step (exact B2.out _ _) | quiet_step (exact B2.out _ _))
          iterate 7 (first | go_big_quiet_step (fail) | quiet_step (fail))
          (first | go_big_quiet_step (exact B3.out _ _) | quiet_step (exact B3.out _ _))
          iterate 2 (first | go_big_quiet_step (fail) | quiet_step (fail))
          (first | go_big_quiet_step (exact B4.out _ _) | quiet_step (exact B4.out _ _))
          iterate 12 (first | go_big_quiet_step (fail) | quiet_step (fail))
          refine wpQuiet_nil ?_
          intro _ hw'
          obtain ⟨⟨dq, osq⟩, hw''⟩ := hw'
          subst hw''
          have HBq := hid (hbg.out dq osq)
          go_wp2
          go_ret
          exact ⟨by first | rfl | (simp; done) | (simp [tne]; done) | (simp [bD, bS]; done) | (simp [tne, dne]; done) | (simp [tne, bD, bS]; done), HBq.out⟩
        subst h3
        by_cases h4 : x3 = y3
        case neg => as_aux_lemma =>
          have tne : ¬ TX = TY := fun e => h4 (EA.out.1 e).2.2.2
          have tne2 : ¬ TY = TX := fun e => tne e.symm
          clear EA
          have e3 : (x3 == y3) = false := by simp [h4]
          go_upto_region 5 with fail
          have B0 := hid (A0.out w1 HT.out)
          have B1 := hid (A1.out w1 HT.out)
          have B2 := hid (A2.out w1 HT.out)
          have B3 := hid (A3.out w1 HT.out)
          have B4 := hid (A4.out w1 HT.out)
          refine wp_region_quiet_below (by kernel_rfl) (by kernel_rfl) ?_
          (first | go_big_quiet_step (exact B0.out _ _) | quiet_step (exact B0.out _ _))
          iterate 2 (first | go_big_quiet_step (fail) | quiet_step (fail))
          refine wq_load 25 (.tmp 3) rfl g1 0 rfl rfl Sx _ (fun w' hw' => SS1.out w' hw') Tryz.underlying25 rfl Zx ?_
          simp only [Act.put, List.setIfInBounds_toArray, List.set_cons_zero, List.set_cons_succ]
          (first | go_big_quiet_step (exact B1.out _ _) | quiet_step (exact B1.out _ _))
          (first | go_big_quiet_step (fail) | quiet_step (fail))
          refine wq_load 25 (.tmp 4) rfl g2 0 rfl rfl Sy _ (fun w' hw' => SS2.out w' hw') Tryz.underlying25 rfl Zy ?_
          simp only [Act.put, List.setIfInBounds_toArray, List.set_cons_zero, List.set_cons_succ]
          (first | go_big_quiet_step (exact B2.out _ _) | quiet_step (exact B2.out _ _))
          iterate 7 (first | go_big_quiet_step (fail) | quiet_step (fail))
          (first | go_big_quiet_step (exact B3.out _ _) | quiet_step (exact B3.out _ _))
          iterate 2 (first | go_big_quiet_step (fail) | quiet_step (fail))
          (first | go_big_quiet_step (exact B4.out _ _) | quiet_step (exact B4.out _ _))
          iterate 12 (first | go_big_quiet_step (fail) | quiet_step (fail))
          refine wpQuiet_nil ?_
          intro _ hw'
          obtain ⟨⟨dq, osq⟩, hw''⟩ := hw'
          subst hw''
          have HBq := hid (hbg.out dq osq)
          go_wp2
          go_ret
          exact ⟨by first | rfl | (simp; done) | (simp [tne]; done) | (simp [bD, bS]; done) | (simp [tne, dne]; done) | (simp [tne, bD, bS]; done), HBq.out⟩
        subst h4
        obtain rfl : TX = TY := EA.out.2 ⟨rfl, rfl, rfl, rfl⟩
        clear EA
        go_upto_region 5 with fail
        have B0 := hid (A0.out w1 HT.out)
        have B1 := hid (A1.out w1 HT.out)
        have B2 := hid (A2.out w1 HT.out)
        have B3 := hid (A3.out w1 HT.out)
        have B4 := hid (A4.out w1 HT.out)
        refine wp_region_quiet_below (by kernel_rfl) (by kernel_rfl) ?_
        (first | go_big_quiet_step (exact B0.out _ _) | quiet_step (exact B0.out _ _))
        iterate 2 (first | go_big_quiet_step (fail) | quiet_step (fail))
        refine wq_load 25 (.tmp 3) rfl g1 0 rfl rfl Sx _ (fun w' hw' => SS1.out w' hw') Tryz.underlying25 rfl Zx ?_
        simp only [Act.put, List.setIfInBounds_toArray, List.set_cons_zero, List.set_cons_succ]
        (first | go_big_quiet_step (exact B1.out _ _) | quiet_step (exact B1.out _ _))
        (first | go_big_quiet_step (fail) | quiet_step (fail))
        refine wq_load 25 (.tmp 4) rfl g2 0 rfl rfl Sy _ (fun w' hw' => SS2.out w' hw') Tryz.underlying25 rfl Zy ?_
        simp only [Act.put, List.setIfInBounds_toArray, List.set_cons_zero, List.set_cons_succ]
        (first | go_big_quiet_step (exact B2.out _ _) | quiet_step (exact B2.out _ _))
        iterate 7 (first | go_big_quiet_step (fail) | quiet_step (fail))
        (first | go_big_quiet_step (exact B3.out _ _) | quiet_step (exact B3.out _ _))
        iterate 2 (first | go_big_quiet_step (fail) | quiet_step (fail))
        (first | go_big_quiet_step (exact B4.out _ _) | quiet_step (exact B4.out _ _))
        iterate 12 (first | go_big_quiet_step (fail) | quiet_step (fail))
        refine wpQuiet_nil ?_
        intro _ hw'
        obtain ⟨⟨dq, osq⟩, hw''⟩ := hw'
        subst hw''
        have HBq := hid (hbg.out dq osq)
        go_wp2
        go_ret
        exact ⟨by first | rfl | (simp; done) | (simp [tne]; done) | (simp [bD, bS]; done) | (simp [tne, dne]; done) | (simp [tne, bD, bS]; done), HBq.out⟩
    have dne : ¬ DX = DY := fun e => h1 (ED2.out.1 e).1
    have dne2 : ¬ DY = DX := fun e => dne e.symm
    have tne : ¬ TX = TY := fun e => h1 (EA.out.1 e).1
    have tne2 : ¬ TY = TX := fun e => tne e.symm
    have h12 : ¬ m = n := fun e => h1 e.symm
    clear EA ED2
    go_upto_region 5 with fail
    have B0 := hid (A0.out w1 HT.out)
    have B1 := hid (A1.out w1 HT.out)
    have B2 := hid (A2.out w1 HT.out)
    have B3 := hid (A3.out w1 HT.out)
    have B4 := hid (A4.out w1 HT.out)
    refine wp_region_quiet_below (by kernel_rfl) (by kernel_rfl) ?_
    (first | go_big_quiet_step (exact B0.out _ _) | quiet_step (exact B0.out _ _))
    iterate 2 (first | go_big_quiet_step (fail) | quiet_step (fail))
    refine wq_load 25 (.tmp 3) rfl g1 0 rfl rfl Sx _ (fun w' hw' => SS1.out w' hw') Tryz.underlying25 rfl Zx ?_
    simp only [Act.put, List.setIfInBounds_toArray, List.set_cons_zero, List.set_cons_succ]
    (first | go_big_quiet_step (exact B1.out _ _) | quiet_step (exact B1.out _ _))
    (first | go_big_quiet_step (fail) | quiet_step (fail))
    refine wq_load 25 (.tmp 4) rfl g2 0 rfl rfl Sy _ (fun w' hw' => SS2.out w' hw') Tryz.underlying25 rfl Zy ?_
    simp only [Act.put, List.setIfInBounds_toArray, List.set_cons_zero, List.set_cons_succ]
    (first | go_big_quiet_step (exact B2.out _ _) | quiet_step (exact B2.out _ _))
    iterate 7 (first | go_big_quiet_step (fail) | quiet_step (fail))
    (first | go_big_quiet_step (exact B3.out _ _) | quiet_step (exact B3.out _ _))
    iterate 2 (first | go_big_quiet_step (fail) | quiet_step (fail))
    (first | go_big_quiet_step (exact B4.out _ _) | quiet_step (exact B4.out _ _))
    iterate 12 (first | go_big_quiet_step (fail) | quiet_step (fail))
    refine wpQuiet_nil ?_
    intro _ hw'
    obtain ⟨⟨dq, osq⟩, hw''⟩ := hw'
    subst hw''
    have HBq := hid (hbg.out dq osq)
    go_wp2
    go_ret
    exact ⟨by first | rfl | (simp; done) | (simp [tne]; done) | (simp [bD, bS]; done) | (simp [tne, dne]; done) | (simp [tne, bD, bS]; done), HBq.out⟩
end Go.Proofs.YtpnnibddjopniaaGreatDoor.Ms

/-
  Submits, blobs, what is pending, replies and messages that came in, opened for a walk.
-/
namespace Go.Proofs.YtpnnibddjopniaaGreatDoor.Ms
open Go Go.ChangeShapes Go.WideShapes Go.ChangeAt Go.WideMaps Go.WideElems Go.RowKit
set_option maxRecDepth 100000

theorem laidOut : laidOutB Tryz.prog = true := by kernel_rfl
theorem cells_dig : Tryz.prog.cellsOf 23 = 32 := by kernel_rfl
theorem cells_byt : Tryz.prog.cellsOf 5 = 1 := by kernel_rfl
theorem cells_int : Tryz.prog.cellsOf 3 = 1 := by kernel_rfl
theorem cells_str : Tryz.prog.cellsOf 9 = 1 := by kernel_rfl
theorem cells_sub : Tryz.prog.cellsOf 25 = 68 := by kernel_rfl
theorem cells_pen : Tryz.prog.cellsOf 109 = 68 := by kernel_rfl
theorem cells_rep : Tryz.prog.cellsOf 28 = 103 := by kernel_rfl
theorem cells_blo : Tryz.prog.cellsOf 30 = 35 := by kernel_rfl
theorem cells_msg : Tryz.prog.cellsOf 33 = 275 := by kernel_rfl
theorem cells_ints : Tryz.prog.cellsOf 31 = 1 := by kernel_rfl
theorem cells_pens : Tryz.prog.cellsOf 26 = 1 := by kernel_rfl
theorem cells_six : Tryz.prog.cellsOf 49 = 140 := by kernel_rfl
theorem bytes_list : ∀ (cs : List Value), (∀ i, i < cs.length → ∃ n : Int, cs[i]? = some (.int .u8 n) ∧ 0 ≤ n ∧ n ≤ 255) → ∃ l : List UInt8, l.length = cs.length ∧ cs = dg l
  | [], _ => ⟨[], rfl, rfl⟩
  | c :: cs, h => by
    obtain ⟨n, hn, h0, h1⟩ := h 0 (by simp)
    obtain ⟨l, hl, hcs⟩ := bytes_list cs (fun i hi => by
      obtain ⟨m, hm, h2⟩ := h (i + 1) (by simpa using hi)
      exact ⟨m, by simpa using hm, h2⟩)
    refine ⟨UInt8.ofNat n.toNat :: l, by simp [hl], ?_⟩
    have hc : c = .int .u8 n := by simpa using hn
    have e : dg (UInt8.ofNat n.toNat :: l) = cb (UInt8.ofNat n.toNat) :: dg l := rfl
    rw [e, ← hcs, hc]
    congr 1
    unfold cb bv
    congr 1
    rw [UInt8.toNat_ofNat']
    omega
theorem stp (cs : List Value) (a b c : Nat) (h : a + b = c) : cs.drop a = (cs.drop a).take b ++ cs.drop c := by subst h; rw [← List.drop_drop]; exact (List.take_append_drop b _).symm
theorem at_some {α : Type} {xs : List α} {n : Nat} (i : Nat) (h : xs.length = n) (hi : i < n) : ∃ y, xs[i]? = some y := ⟨xs[i], List.getElem?_eq_getElem (by omega)⟩
section
variable {H : Type} {enc : TypeId × Value → H} {W : World} {held : Bool} {fuel : Nat} {cs : List Value} {x : DataW H × List MemPlace}
theorem int_c (h : DataW.trod enc Tryz.prog W 0 (fun _ => true) held fuel 3 cs = some x) : ∃ n, cs = [nu n] ∧ I64 n := by
  obtain ⟨n, e, -, hw⟩ := DataW.trod_int Tryz.underlying3 h
  exact ⟨n, e, bounds_i64 hw⟩
theorem str_c (h : DataW.trod enc Tryz.prog W 0 (fun _ => true) held fuel 9 cs = some x) : ∃ s : List UInt8, cs = [st s] := by
  obtain ⟨A, e, -, -⟩ := DataW.trod_string Tryz.underlying9 h
  exact ⟨A.data.toList, by rw [e]⟩
theorem dig_c (h : DataW.trod enc Tryz.prog W 0 (fun _ => true) held fuel 23 cs = some x) : ∃ l : List UInt8, cs = dg l ∧ l.length = 32 := by
  obtain ⟨xs, m, _, hx, hlen, hxl, hat⟩ := DataW.trod_array Tryz.underlying23 h
  rw [cells_dig] at hlen
  rw [cells_byt] at hat
  obtain ⟨l, hl, hcs⟩ := bytes_list cs (fun i hi => by
    have h1 := hat i (by omega)
    cases hq : xs[i]? with
    | none => rw [List.getElem?_eq_none_iff] at hq; omega
    | some x =>
      rw [hq] at h1
      obtain ⟨n, hn, -, hw⟩ := DataW.trod_int Tryz.underlying5 h1
      have h2 : cs[i]? = some (.int .u8 n) := by
        have := congrArg (·[0]?) hn
        simpa [List.getElem?_take, List.getElem?_drop] using this
      exact ⟨n, h2, bounds_u8 hw⟩)
  exact ⟨l, hcs, by omega⟩
theorem ints_c (h : DataW.trod enc Tryz.prog W 0 (fun _ => true) held fuel 31 cs = some x) : ∃ v ks, cs = [v] ∧ IntsAt W v ks ∧ (∀ n ∈ ks, I64 n) ∧ ks.length ≤ 9223372036854775807 := by
  rcases open_ints Tryz.underlying31 Tryz.underlying3 cells_int h with ⟨rfl, -⟩ | ⟨a, len, cap, zs, rfl, _, hl, hcm, hz, hk, hcell, hwf⟩
  · exact ⟨_, [], rfl, IntsAt.nil W, (fun n hn => by cases hn), Nat.zero_le _⟩
  · simp only [if_true] at hz
    have hlen : (zs.take len).length = len := by rw [List.length_take]; omega
    refine ⟨_, zs.take len, rfl, ⟨some a, cap, by rw [hlen], fun hne => ?_⟩, fun n hn => bounds_i64 (hwf n (List.mem_of_mem_take hn)), ?_⟩
    · have hpos : 0 < len := by
        rcases Nat.eq_zero_or_pos len with e | e
        · subst e; simp at hne
        · exact e
      obtain ⟨b, off, spot⟩ := a
      have hspot : spot = none := by simpa [Addr.add] using World.cell?_spot (hcell 0 (by omega))
      subst hspot
      refine ⟨b, off, rfl, fun j hj => ?_⟩
      rw [hlen] at hj
      have h9 := hcell j (by omega)
      rw [Go.WideShapes.add_plain] at h9
      rw [h9]
      have e : (zs.take len).getD j 0 = zs.getD j 0 := by simp [List.getD, hj]
      rw [e]
    · rw [hlen]
      have : cap ≤ 9223372036854775807 := hcm
      omega
theorem sub_c (h : DataW.trod enc Tryz.prog W 0 (fun _ => true) held fuel 25 cs = some x) : ∃ y : Sub, cs = subC y ∧ y.Wf ∧ SubRng y := by
  obtain ⟨xs, n, _, _, hl, hlen, hfs⟩ := DataW.trod_struct Tryz.underlying25 h
  rw [cells_sub] at hl
  have hxl : xs.length = 6 := hlen
  have g0 : DataW.trod enc Tryz.prog W 0 (fun _ => true) held n 3 ((cs.drop 0).take (Tryz.prog.cellsOf 3)) = xs[0]? := hfs 0 _ rfl
  rw [cells_int] at g0
  obtain ⟨y0, hy0⟩ := at_some 0 hxl (by decide)
  rw [hy0] at g0
  obtain ⟨a0, e0, b0⟩ := int_c g0
  have g1 : DataW.trod enc Tryz.prog W 0 (fun _ => true) held n 3 ((cs.drop 1).take (Tryz.prog.cellsOf 3)) = xs[1]? := hfs 1 _ rfl
  rw [cells_int] at g1
  obtain ⟨y1, hy1⟩ := at_some 1 hxl (by decide)
  rw [hy1] at g1
  obtain ⟨a1, e1, b1⟩ := int_c g1
  have g2 : DataW.trod enc Tryz.prog W 0 (fun _ => true) held n 3 ((cs.drop 2).take (Tryz.prog.cellsOf 3)) = xs[2]? := hfs 2 _ rfl
  rw [cells_int] at g2
  obtain ⟨y2, hy2⟩ := at_some 2 hxl (by decide)
  rw [hy2] at g2
  obtain ⟨a2, e2, b2⟩ := int_c g2
  have g3 : DataW.trod enc Tryz.prog W 0 (fun _ => true) held n 9 ((cs.drop 3).take (Tryz.prog.cellsOf 9)) = xs[3]? := hfs 3 _ rfl
  rw [cells_str] at g3
  obtain ⟨y3, hy3⟩ := at_some 3 hxl (by decide)
  rw [hy3] at g3
  obtain ⟨a3, e3⟩ := str_c g3
  have g4 : DataW.trod enc Tryz.prog W 0 (fun _ => true) held n 23 ((cs.drop 4).take (Tryz.prog.cellsOf 23)) = xs[4]? := hfs 4 _ rfl
  rw [cells_dig] at g4
  obtain ⟨y4, hy4⟩ := at_some 4 hxl (by decide)
  rw [hy4] at g4
  obtain ⟨a4, e4, b4⟩ := dig_c g4
  have g5 : DataW.trod enc Tryz.prog W 0 (fun _ => true) held n 23 ((cs.drop 36).take (Tryz.prog.cellsOf 23)) = xs[5]? := hfs 5 _ rfl
  rw [cells_dig] at g5
  obtain ⟨y5, hy5⟩ := at_some 5 hxl (by decide)
  rw [hy5] at g5
  obtain ⟨a5, e5, b5⟩ := dig_c g5
  have hcs : cs = [nu a0] ++ ([nu a1] ++ ([nu a2] ++ ([st a3] ++ (dg a4 ++ (dg a5 ++ []))))) := (stp cs 0 1 1 rfl).trans (congr (congrArg HAppend.hAppend e0) ((stp cs 1 1 2 rfl).trans (congr (congrArg HAppend.hAppend e1) ((stp cs 2 1 3 rfl).trans (congr (congrArg HAppend.hAppend e2) ((stp cs 3 1 4 rfl).trans (congr (congrArg HAppend.hAppend e3) ((stp cs 4 32 36 rfl).trans (congr (congrArg HAppend.hAppend e4) ((stp cs 36 32 68 rfl).trans (congr (congrArg HAppend.hAppend e5) (List.drop_eq_nil_of_le (by omega)))))))))))))
  refine ⟨⟨a0, a1, a2, a3, a4, a5⟩, ?_, ⟨b4, b5⟩, ⟨b0, b1, b2⟩⟩
  rw [hcs]; simp [subC]
theorem pen_c (h : DataW.trod enc Tryz.prog W 0 (fun _ => true) held fuel 109 cs = some x) : ∃ y : Pen, cs = penC y ∧ penOk y := by
  obtain ⟨xs, n, _, _, hl, hlen, hfs⟩ := DataW.trod_struct Tryz.underlying109 h
  rw [cells_pen] at hl
  have hxl : xs.length = 6 := hlen
  have g0 : DataW.trod enc Tryz.prog W 0 (fun _ => true) held n 3 ((cs.drop 0).take (Tryz.prog.cellsOf 3)) = xs[0]? := hfs 0 _ rfl
  rw [cells_int] at g0
  obtain ⟨y0, hy0⟩ := at_some 0 hxl (by decide)
  rw [hy0] at g0
  obtain ⟨a0, e0, b0⟩ := int_c g0
  have g1 : DataW.trod enc Tryz.prog W 0 (fun _ => true) held n 3 ((cs.drop 1).take (Tryz.prog.cellsOf 3)) = xs[1]? := hfs 1 _ rfl
  rw [cells_int] at g1
  obtain ⟨y1, hy1⟩ := at_some 1 hxl (by decide)
  rw [hy1] at g1
  obtain ⟨a1, e1, b1⟩ := int_c g1
  have g2 : DataW.trod enc Tryz.prog W 0 (fun _ => true) held n 3 ((cs.drop 2).take (Tryz.prog.cellsOf 3)) = xs[2]? := hfs 2 _ rfl
  rw [cells_int] at g2
  obtain ⟨y2, hy2⟩ := at_some 2 hxl (by decide)
  rw [hy2] at g2
  obtain ⟨a2, e2, b2⟩ := int_c g2
  have g3 : DataW.trod enc Tryz.prog W 0 (fun _ => true) held n 3 ((cs.drop 3).take (Tryz.prog.cellsOf 3)) = xs[3]? := hfs 3 _ rfl
  rw [cells_int] at g3
  obtain ⟨y3, hy3⟩ := at_some 3 hxl (by decide)
  rw [hy3] at g3
  obtain ⟨a3, e3, b3⟩ := int_c g3
  have g4 : DataW.trod enc Tryz.prog W 0 (fun _ => true) held n 23 ((cs.drop 4).take (Tryz.prog.cellsOf 23)) = xs[4]? := hfs 4 _ rfl
  rw [cells_dig] at g4
  obtain ⟨y4, hy4⟩ := at_some 4 hxl (by decide)
  rw [hy4] at g4
  obtain ⟨a4, e4, b4⟩ := dig_c g4
  have g5 : DataW.trod enc Tryz.prog W 0 (fun _ => true) held n 23 ((cs.drop 36).take (Tryz.prog.cellsOf 23)) = xs[5]? := hfs 5 _ rfl
  rw [cells_dig] at g5
  obtain ⟨y5, hy5⟩ := at_some 5 hxl (by decide)
  rw [hy5] at g5
  obtain ⟨a5, e5, b5⟩ := dig_c g5
  have hcs : cs = [nu a0] ++ ([nu a1] ++ ([nu a2] ++ ([nu a3] ++ (dg a4 ++ (dg a5 ++ []))))) := (stp cs 0 1 1 rfl).trans (congr (congrArg HAppend.hAppend e0) ((stp cs 1 1 2 rfl).trans (congr (congrArg HAppend.hAppend e1) ((stp cs 2 1 3 rfl).trans (congr (congrArg HAppend.hAppend e2) ((stp cs 3 1 4 rfl).trans (congr (congrArg HAppend.hAppend e3) ((stp cs 4 32 36 rfl).trans (congr (congrArg HAppend.hAppend e4) ((stp cs 36 32 68 rfl).trans (congr (congrArg HAppend.hAppend e5) (List.drop_eq_nil_of_le (by omega)))))))))))))
  refine ⟨⟨a0, a1, a2, a3, a4, a5⟩, ?_, ⟨b0, b1, b2, b3, b4, b5⟩⟩
  rw [hcs]; simp [penC]
theorem blo_c (h : DataW.trod enc Tryz.prog W 0 (fun _ => true) held fuel 30 cs = some x) : ∃ y : Blo, cs = bloC y ∧ y.Wf ∧ (I64 y.owner ∧ I64 y.number) := by
  obtain ⟨xs, n, _, _, hl, hlen, hfs⟩ := DataW.trod_struct Tryz.underlying30 h
  rw [cells_blo] at hl
  have hxl : xs.length = 4 := hlen
  have g0 : DataW.trod enc Tryz.prog W 0 (fun _ => true) held n 3 ((cs.drop 0).take (Tryz.prog.cellsOf 3)) = xs[0]? := hfs 0 _ rfl
  rw [cells_int] at g0
  obtain ⟨y0, hy0⟩ := at_some 0 hxl (by decide)
  rw [hy0] at g0
  obtain ⟨a0, e0, b0⟩ := int_c g0
  have g1 : DataW.trod enc Tryz.prog W 0 (fun _ => true) held n 3 ((cs.drop 1).take (Tryz.prog.cellsOf 3)) = xs[1]? := hfs 1 _ rfl
  rw [cells_int] at g1
  obtain ⟨y1, hy1⟩ := at_some 1 hxl (by decide)
  rw [hy1] at g1
  obtain ⟨a1, e1, b1⟩ := int_c g1
  have g2 : DataW.trod enc Tryz.prog W 0 (fun _ => true) held n 9 ((cs.drop 2).take (Tryz.prog.cellsOf 9)) = xs[2]? := hfs 2 _ rfl
  rw [cells_str] at g2
  obtain ⟨y2, hy2⟩ := at_some 2 hxl (by decide)
  rw [hy2] at g2
  obtain ⟨a2, e2⟩ := str_c g2
  have g3 : DataW.trod enc Tryz.prog W 0 (fun _ => true) held n 23 ((cs.drop 3).take (Tryz.prog.cellsOf 23)) = xs[3]? := hfs 3 _ rfl
  rw [cells_dig] at g3
  obtain ⟨y3, hy3⟩ := at_some 3 hxl (by decide)
  rw [hy3] at g3
  obtain ⟨a3, e3, b3⟩ := dig_c g3
  have hcs : cs = [nu a0] ++ ([nu a1] ++ ([st a2] ++ (dg a3 ++ []))) := (stp cs 0 1 1 rfl).trans (congr (congrArg HAppend.hAppend e0) ((stp cs 1 1 2 rfl).trans (congr (congrArg HAppend.hAppend e1) ((stp cs 2 1 3 rfl).trans (congr (congrArg HAppend.hAppend e2) ((stp cs 3 32 35 rfl).trans (congr (congrArg HAppend.hAppend e3) (List.drop_eq_nil_of_le (by omega)))))))))
  refine ⟨⟨a0, a1, a2, a3⟩, ?_, ⟨b3⟩, b0, b1⟩
  rw [hcs]; simp [bloC]
theorem pens_build (a : Addr) : ∀ (n : Nat), (∀ j, j < n → ∃ y : Pen, penOk y ∧ ∀ i c, (penC y)[i]? = some c → W.cell? ((a.add (j * 68)).add i) = some c) → ∃ ps : List Pen, ps.length = n ∧ (∀ p ∈ ps, penOk p) ∧ ∀ j, j < n → ∀ i c, (penC (ps.getD j noPen))[i]? = some c → W.cell? ((a.add (j * 68)).add i) = some c
  | 0, _ => ⟨[], rfl, (fun p hp => by cases hp), fun j hj => absurd hj (Nat.not_lt_zero j)⟩
  | n + 1, h => by
    obtain ⟨ps, h1, h2, h3⟩ := pens_build a n (fun j hj => h j (by omega))
    obtain ⟨y, hy, hc⟩ := h n (by omega)
    refine ⟨ps ++ [y], by simp [h1], ?_, fun j hj => ?_⟩
    · intro p hp
      rcases List.mem_append.1 hp with hp | hp
      · exact h2 p hp
      · simp at hp; subst hp; exact hy
    · by_cases e : j = n
      · subst e
        have : (ps ++ [y]).getD j noPen = y := by simp [List.getD, ← h1]
        rw [this]
        exact hc
      · have : (ps ++ [y]).getD j noPen = ps.getD j noPen := by simp [List.getD, List.getElem?_append_left (by omega : j < ps.length)]
        rw [this]
        exact h3 j (by omega)
theorem pens_c (h : DataW.trod enc Tryz.prog W 0 (fun _ => true) held fuel 26 cs = some x) : ∃ v ps, cs = [v] ∧ PensAt W v ps ∧ (∀ p ∈ ps, penOk p) ∧ ps.length ≤ 9223372036854775807 := by
  rcases Go.Deep.open_slice Tryz.underlying26 h with ⟨hcs, hx⟩ | ⟨a, len, cap, m, n, Df, Pf, hcs, hb, hl, hm, hmm, hx, hat⟩
  · exact ⟨_, [], hcs, PensAt.nil W, (fun n hn => by cases hn), Nat.zero_le _⟩
  · simp only [if_true] at hmm
    subst hmm
    obtain ⟨ps, p1, p2, p3⟩ := pens_build (W := W) a len (fun j hj => by
      obtain ⟨cs', hcs', ht⟩ := hat j (by omega)
      rw [cells_pen] at hcs'
      obtain ⟨y, rfl, hy⟩ := pen_c ht
      refine ⟨y, hy, fun i c hi => ?_⟩
      have h0 := (World.cells?_some hcs').2.2 i (by have := (List.getElem?_eq_some_iff.1 hi).1; have := penC_len (wf_of_ok hy); omega)
      rw [hi] at h0
      exact h0)
    refine ⟨_, ps, hcs, ⟨some a, m, by rw [p1], fun hne => ?_⟩, p2, ?_⟩
    · have hpos : 0 < len := by
        rcases Nat.eq_zero_or_pos len with e | e
        · exact absurd (List.length_eq_zero_iff.1 (p1.trans e)) hne
        · exact e
      obtain ⟨b, off, spot⟩ := a
      have hw0 := getD_wf (fun p hp => wf_of_ok (p2 p hp)) 0 (by omega)
      have h00 := p3 0 hpos 0 (nu (ps.getD 0 noPen).client) rfl
      have hspot : spot = none := by simpa [Addr.add] using World.cell?_spot h00
      subst hspot
      refine ⟨b, off, rfl, fun j hj i c hi => ?_⟩
      rw [p1] at hj
      have h9 := p3 j hj i c hi
      rw [Go.WideShapes.add_plain, Go.WideShapes.add_plain] at h9
      exact h9
    · rw [p1]
      have : m ≤ 9223372036854775807 := hm
      omega
theorem rep_c (h : DataW.trod enc Tryz.prog W 0 (fun _ => true) held fuel 28 cs = some x) : ∃ (y : Rep) (vP : Value), cs = repC y vP ∧ y.Wf ∧ (I64 y.number ∧ I64 y.last ∧ I64 y.vnum ∧ ∀ p ∈ y.pend, penOk p) ∧ PensAt W vP y.pend ∧ y.pend.length ≤ 9223372036854775807 := by
  obtain ⟨xs, n, _, _, hl, hlen, hfs⟩ := DataW.trod_struct Tryz.underlying28 h
  rw [cells_rep] at hl
  have hxl : xs.length = 10 := hlen
  have g0 : DataW.trod enc Tryz.prog W 0 (fun _ => true) held n 3 ((cs.drop 0).take (Tryz.prog.cellsOf 3)) = xs[0]? := hfs 0 _ rfl
  rw [cells_int] at g0
  obtain ⟨y0, hy0⟩ := at_some 0 hxl (by decide)
  rw [hy0] at g0
  obtain ⟨a0, e0, b0⟩ := int_c g0
  have g1 : DataW.trod enc Tryz.prog W 0 (fun _ => true) held n 3 ((cs.drop 1).take (Tryz.prog.cellsOf 3)) = xs[1]? := hfs 1 _ rfl
  rw [cells_int] at g1
  obtain ⟨y1, hy1⟩ := at_some 1 hxl (by decide)
  rw [hy1] at g1
  obtain ⟨a1, e1, b1⟩ := int_c g1
  have g2 : DataW.trod enc Tryz.prog W 0 (fun _ => true) held n 9 ((cs.drop 2).take (Tryz.prog.cellsOf 9)) = xs[2]? := hfs 2 _ rfl
  rw [cells_str] at g2
  obtain ⟨y2, hy2⟩ := at_some 2 hxl (by decide)
  rw [hy2] at g2
  obtain ⟨a2, e2⟩ := str_c g2
  have g3 : DataW.trod enc Tryz.prog W 0 (fun _ => true) held n 23 ((cs.drop 3).take (Tryz.prog.cellsOf 23)) = xs[3]? := hfs 3 _ rfl
  rw [cells_dig] at g3
  obtain ⟨y3, hy3⟩ := at_some 3 hxl (by decide)
  rw [hy3] at g3
  obtain ⟨a3, e3, b3⟩ := dig_c g3
  have g4 : DataW.trod enc Tryz.prog W 0 (fun _ => true) held n 26 ((cs.drop 35).take (Tryz.prog.cellsOf 26)) = xs[4]? := hfs 4 _ rfl
  rw [cells_pens] at g4
  obtain ⟨y4, hy4⟩ := at_some 4 hxl (by decide)
  rw [hy4] at g4
  obtain ⟨v4, a4, e4, b4, r4, l4⟩ := pens_c g4
  have g5 : DataW.trod enc Tryz.prog W 0 (fun _ => true) held n 3 ((cs.drop 36).take (Tryz.prog.cellsOf 3)) = xs[5]? := hfs 5 _ rfl
  rw [cells_int] at g5
  obtain ⟨y5, hy5⟩ := at_some 5 hxl (by decide)
  rw [hy5] at g5
  obtain ⟨a5, e5, b5⟩ := int_c g5
  have g6 : DataW.trod enc Tryz.prog W 0 (fun _ => true) held n 9 ((cs.drop 37).take (Tryz.prog.cellsOf 9)) = xs[6]? := hfs 6 _ rfl
  rw [cells_str] at g6
  obtain ⟨y6, hy6⟩ := at_some 6 hxl (by decide)
  rw [hy6] at g6
  obtain ⟨a6, e6⟩ := str_c g6
  have g7 : DataW.trod enc Tryz.prog W 0 (fun _ => true) held n 23 ((cs.drop 38).take (Tryz.prog.cellsOf 23)) = xs[7]? := hfs 7 _ rfl
  rw [cells_dig] at g7
  obtain ⟨y7, hy7⟩ := at_some 7 hxl (by decide)
  rw [hy7] at g7
  obtain ⟨a7, e7, b7⟩ := dig_c g7
  have g8 : DataW.trod enc Tryz.prog W 0 (fun _ => true) held n 9 ((cs.drop 70).take (Tryz.prog.cellsOf 9)) = xs[8]? := hfs 8 _ rfl
  rw [cells_str] at g8
  obtain ⟨y8, hy8⟩ := at_some 8 hxl (by decide)
  rw [hy8] at g8
  obtain ⟨a8, e8⟩ := str_c g8
  have g9 : DataW.trod enc Tryz.prog W 0 (fun _ => true) held n 23 ((cs.drop 71).take (Tryz.prog.cellsOf 23)) = xs[9]? := hfs 9 _ rfl
  rw [cells_dig] at g9
  obtain ⟨y9, hy9⟩ := at_some 9 hxl (by decide)
  rw [hy9] at g9
  obtain ⟨a9, e9, b9⟩ := dig_c g9
  have hcs : cs = [nu a0] ++ ([nu a1] ++ ([st a2] ++ (dg a3 ++ ([v4] ++ ([nu a5] ++ ([st a6] ++ (dg a7 ++ ([st a8] ++ (dg a9 ++ []))))))))) := (stp cs 0 1 1 rfl).trans (congr (congrArg HAppend.hAppend e0) ((stp cs 1 1 2 rfl).trans (congr (congrArg HAppend.hAppend e1) ((stp cs 2 1 3 rfl).trans (congr (congrArg HAppend.hAppend e2) ((stp cs 3 32 35 rfl).trans (congr (congrArg HAppend.hAppend e3) ((stp cs 35 1 36 rfl).trans (congr (congrArg HAppend.hAppend e4) ((stp cs 36 1 37 rfl).trans (congr (congrArg HAppend.hAppend e5) ((stp cs 37 1 38 rfl).trans (congr (congrArg HAppend.hAppend e6) ((stp cs 38 32 70 rfl).trans (congr (congrArg HAppend.hAppend e7) ((stp cs 70 1 71 rfl).trans (congr (congrArg HAppend.hAppend e8) ((stp cs 71 32 103 rfl).trans (congr (congrArg HAppend.hAppend e9) (List.drop_eq_nil_of_le (by omega)))))))))))))))))))))
  refine ⟨⟨a0, a1, a2, a3, a4, a5, a6, a7, a8, a9⟩, v4, ?_, ⟨b3, b7, b9, fun p hp => wf_of_ok (r4 p hp)⟩, ⟨b0, b1, b5, r4⟩, b4, l4⟩
  rw [hcs]; simp [repC]
theorem msg_c (h : DataW.trod enc Tryz.prog W 0 (fun _ => true) held fuel 33 cs = some x) : ∃ (m : Msg) (vP vN : Value), cs = msgC m vP vN ∧ m.Wf ∧ m.Rng ∧ PensAt W vP m.rep.pend ∧ IntsAt W vN m.nums ∧ Lens m := by
  obtain ⟨xs, n, _, _, hl, hlen, hfs⟩ := DataW.trod_struct Tryz.underlying33 h
  rw [cells_msg] at hl
  have hxl : xs.length = 10 := hlen
  have g0 : DataW.trod enc Tryz.prog W 0 (fun _ => true) held n 3 ((cs.drop 0).take (Tryz.prog.cellsOf 3)) = xs[0]? := hfs 0 _ rfl
  rw [cells_int] at g0
  obtain ⟨y0, hy0⟩ := at_some 0 hxl (by decide)
  rw [hy0] at g0
  obtain ⟨a0, e0, b0⟩ := int_c g0
  have g1 : DataW.trod enc Tryz.prog W 0 (fun _ => true) held n 3 ((cs.drop 1).take (Tryz.prog.cellsOf 3)) = xs[1]? := hfs 1 _ rfl
  rw [cells_int] at g1
  obtain ⟨y1, hy1⟩ := at_some 1 hxl (by decide)
  rw [hy1] at g1
  obtain ⟨a1, e1, b1⟩ := int_c g1
  have g2 : DataW.trod enc Tryz.prog W 0 (fun _ => true) held n 25 ((cs.drop 2).take (Tryz.prog.cellsOf 25)) = xs[2]? := hfs 2 _ rfl
  rw [cells_sub] at g2
  obtain ⟨y2, hy2⟩ := at_some 2 hxl (by decide)
  rw [hy2] at g2
  obtain ⟨a2, e2, b2, r2⟩ := sub_c g2
  have g3 : DataW.trod enc Tryz.prog W 0 (fun _ => true) held n 28 ((cs.drop 70).take (Tryz.prog.cellsOf 28)) = xs[3]? := hfs 3 _ rfl
  rw [cells_rep] at g3
  obtain ⟨y3, hy3⟩ := at_some 3 hxl (by decide)
  rw [hy3] at g3
  obtain ⟨a3, v3, e3, b3, r3, p3, l3⟩ := rep_c g3
  have g4 : DataW.trod enc Tryz.prog W 0 (fun _ => true) held n 9 ((cs.drop 173).take (Tryz.prog.cellsOf 9)) = xs[4]? := hfs 4 _ rfl
  rw [cells_str] at g4
  obtain ⟨y4, hy4⟩ := at_some 4 hxl (by decide)
  rw [hy4] at g4
  obtain ⟨a4, e4⟩ := str_c g4
  have g5 : DataW.trod enc Tryz.prog W 0 (fun _ => true) held n 3 ((cs.drop 174).take (Tryz.prog.cellsOf 3)) = xs[5]? := hfs 5 _ rfl
  rw [cells_int] at g5
  obtain ⟨y5, hy5⟩ := at_some 5 hxl (by decide)
  rw [hy5] at g5
  obtain ⟨a5, e5, b5⟩ := int_c g5
  have g6 : DataW.trod enc Tryz.prog W 0 (fun _ => true) held n 23 ((cs.drop 175).take (Tryz.prog.cellsOf 23)) = xs[6]? := hfs 6 _ rfl
  rw [cells_dig] at g6
  obtain ⟨y6, hy6⟩ := at_some 6 hxl (by decide)
  rw [hy6] at g6
  obtain ⟨a6, e6, b6⟩ := dig_c g6
  have g7 : DataW.trod enc Tryz.prog W 0 (fun _ => true) held n 23 ((cs.drop 207).take (Tryz.prog.cellsOf 23)) = xs[7]? := hfs 7 _ rfl
  rw [cells_dig] at g7
  obtain ⟨y7, hy7⟩ := at_some 7 hxl (by decide)
  rw [hy7] at g7
  obtain ⟨a7, e7, b7⟩ := dig_c g7
  have g8 : DataW.trod enc Tryz.prog W 0 (fun _ => true) held n 30 ((cs.drop 239).take (Tryz.prog.cellsOf 30)) = xs[8]? := hfs 8 _ rfl
  rw [cells_blo] at g8
  obtain ⟨y8, hy8⟩ := at_some 8 hxl (by decide)
  rw [hy8] at g8
  obtain ⟨a8, e8, b8, r8⟩ := blo_c g8
  have g9 : DataW.trod enc Tryz.prog W 0 (fun _ => true) held n 31 ((cs.drop 274).take (Tryz.prog.cellsOf 31)) = xs[9]? := hfs 9 _ rfl
  rw [cells_ints] at g9
  obtain ⟨y9, hy9⟩ := at_some 9 hxl (by decide)
  rw [hy9] at g9
  obtain ⟨v9, a9, e9, b9, r9, l9⟩ := ints_c g9
  have hcs : cs = [nu a0] ++ ([nu a1] ++ (subC a2 ++ (repC a3 v3 ++ ([st a4] ++ ([nu a5] ++ (dg a6 ++ (dg a7 ++ (bloC a8 ++ ([v9] ++ []))))))))) := (stp cs 0 1 1 rfl).trans (congr (congrArg HAppend.hAppend e0) ((stp cs 1 1 2 rfl).trans (congr (congrArg HAppend.hAppend e1) ((stp cs 2 68 70 rfl).trans (congr (congrArg HAppend.hAppend e2) ((stp cs 70 103 173 rfl).trans (congr (congrArg HAppend.hAppend e3) ((stp cs 173 1 174 rfl).trans (congr (congrArg HAppend.hAppend e4) ((stp cs 174 1 175 rfl).trans (congr (congrArg HAppend.hAppend e5) ((stp cs 175 32 207 rfl).trans (congr (congrArg HAppend.hAppend e6) ((stp cs 207 32 239 rfl).trans (congr (congrArg HAppend.hAppend e7) ((stp cs 239 35 274 rfl).trans (congr (congrArg HAppend.hAppend e8) ((stp cs 274 1 275 rfl).trans (congr (congrArg HAppend.hAppend e9) (List.drop_eq_nil_of_le (by omega)))))))))))))))))))))
  refine ⟨⟨a0, a1, a2, a3, a4, a5, a6, a7, a8, a9⟩, v3, v9, ?_, ⟨b2, b3, b6, b7, b8⟩, ⟨b0, b1, r2.n, r2.k, r2.t, r3.1, r3.2.1, r3.2.2.1, b5, r8.1, r8.2, r9, r3.2.2.2⟩, p3, b9, l3, l9⟩
  rw [hcs]; simp [msgC]
theorem sixC_def : True := trivial
end
section
variable {H : Type} {enc : TypeId × Value → H} {W : World} {v : Value} {d : DataW H} {p : List MemPlace}
theorem agg_of {v : Value} {l : List Value} (h : v.cells.toList = l) (hl : 1 < l.length) : v = .agg l.toArray := by
  cases v with
  | agg cs => simp only [Value.cells] at h; rw [← h, Array.toArray_toList]
  | _ => simp [Value.cells] at h; subst h; simp at hl
theorem open_sub (h : DataW.Trod enc Tryz.prog W 0 (fun _ => true) true 25 v d p) : ∃ y : Sub, v = .agg (subC y).toArray ∧ y.Wf ∧ SubRng y := by
  obtain ⟨fuel, hf⟩ := h
  obtain ⟨y, hc, h1, h2⟩ := sub_c hf
  exact ⟨y, agg_of hc (by rw [subC_len h1]; decide), h1, h2⟩
theorem open_msg (h : DataW.Trod enc Tryz.prog W 0 (fun _ => true) true 33 v d p) : ∃ (m : Msg) (vP vN : Value), v = .agg (msgC m vP vN).toArray ∧ m.Wf ∧ m.Rng ∧ PensAt W vP m.rep.pend ∧ IntsAt W vN m.nums ∧ Lens m := by
  obtain ⟨fuel, hf⟩ := h
  obtain ⟨m, vP, vN, hc, h1, h2, h3, h4, h5⟩ := msg_c hf
  exact ⟨m, vP, vN, agg_of hc (by rw [msgC_len h1]; decide), h1, h2, h3, h4, h5⟩
end
end Go.Proofs.YtpnnibddjopniaaGreatDoor.Ms

/-
  Two submits, two numbers and two texts that came in, opened for a walk.
-/
namespace Go.Proofs.YtpnnibddjopniaaGreatDoor.Ms
open Go Go.ChangeShapes Go.WideShapes Go.ChangeAt Go.WideMaps Go.WideElems Go.RowKit
set_option maxRecDepth 100000
section
variable {H : Type} {enc : TypeId × Value → H} {W : World} {held : Bool} {fuel : Nat} {cs : List Value} {x : DataW H × List MemPlace}
theorem six_c (h : DataW.trod enc Tryz.prog W 0 (fun _ => true) held fuel 49 cs = some x) : ∃ (a b : Sub) (n m : Int) (s t : List UInt8), cs = sixC a b n m s t ∧ a.Wf ∧ b.Wf ∧ SubRng a ∧ SubRng b ∧ I64 n ∧ I64 m := by
  obtain ⟨xs, n, _, _, hl, hlen, hfs⟩ := DataW.trod_struct Tryz.underlying49 h
  rw [cells_six] at hl
  have hxl : xs.length = 6 := hlen
  have g0 : DataW.trod enc Tryz.prog W 0 (fun _ => true) held n 25 ((cs.drop 0).take (Tryz.prog.cellsOf 25)) = xs[0]? := hfs 0 _ rfl
  rw [cells_sub] at g0
  obtain ⟨y0, hy0⟩ := at_some 0 hxl (by decide)
  rw [hy0] at g0
  obtain ⟨a0, e0, b0, r0⟩ := sub_c g0
  have g1 : DataW.trod enc Tryz.prog W 0 (fun _ => true) held n 25 ((cs.drop 68).take (Tryz.prog.cellsOf 25)) = xs[1]? := hfs 1 _ rfl
  rw [cells_sub] at g1
  obtain ⟨y1, hy1⟩ := at_some 1 hxl (by decide)
  rw [hy1] at g1
  obtain ⟨a1, e1, b1, r1⟩ := sub_c g1
  have g2 : DataW.trod enc Tryz.prog W 0 (fun _ => true) held n 3 ((cs.drop 136).take (Tryz.prog.cellsOf 3)) = xs[2]? := hfs 2 _ rfl
  rw [cells_int] at g2
  obtain ⟨y2, hy2⟩ := at_some 2 hxl (by decide)
  rw [hy2] at g2
  obtain ⟨a2, e2, b2⟩ := int_c g2
  have g3 : DataW.trod enc Tryz.prog W 0 (fun _ => true) held n 3 ((cs.drop 137).take (Tryz.prog.cellsOf 3)) = xs[3]? := hfs 3 _ rfl
  rw [cells_int] at g3
  obtain ⟨y3, hy3⟩ := at_some 3 hxl (by decide)
  rw [hy3] at g3
  obtain ⟨a3, e3, b3⟩ := int_c g3
  have g4 : DataW.trod enc Tryz.prog W 0 (fun _ => true) held n 9 ((cs.drop 138).take (Tryz.prog.cellsOf 9)) = xs[4]? := hfs 4 _ rfl
  rw [cells_str] at g4
  obtain ⟨y4, hy4⟩ := at_some 4 hxl (by decide)
  rw [hy4] at g4
  obtain ⟨a4, e4⟩ := str_c g4
  have g5 : DataW.trod enc Tryz.prog W 0 (fun _ => true) held n 9 ((cs.drop 139).take (Tryz.prog.cellsOf 9)) = xs[5]? := hfs 5 _ rfl
  rw [cells_str] at g5
  obtain ⟨y5, hy5⟩ := at_some 5 hxl (by decide)
  rw [hy5] at g5
  obtain ⟨a5, e5⟩ := str_c g5
  exact ⟨a0, a1, a2, a3, a4, a5, ((stp cs 0 68 68 rfl).trans (congr (congrArg HAppend.hAppend e0) ((stp cs 68 68 136 rfl).trans (congr (congrArg HAppend.hAppend e1) ((stp cs 136 1 137 rfl).trans (congr (congrArg HAppend.hAppend e2) ((stp cs 137 1 138 rfl).trans (congr (congrArg HAppend.hAppend e3) ((stp cs 138 1 139 rfl).trans (congr (congrArg HAppend.hAppend e4) ((stp cs 139 1 140 rfl).trans (congr (congrArg HAppend.hAppend e5) (List.drop_eq_nil_of_le (by omega)))))))))))))), b0, b1, r0, r1, b2, b3⟩
end
section
variable {H : Type} {enc : TypeId × Value → H} {W : World} {v : Value} {d : DataW H} {p : List MemPlace}
theorem open_six (h : DataW.Trod enc Tryz.prog W 0 (fun _ => true) true 49 v d p) : ∃ (a b : Sub) (n m : Int) (s t : List UInt8), v = .agg (sixC a b n m s t).toArray ∧ a.Wf ∧ b.Wf ∧ SubRng a ∧ SubRng b ∧ I64 n ∧ I64 m := by
  obtain ⟨fuel, hf⟩ := h
  obtain ⟨a, b, n, m, s, t, hc, h1, h2⟩ := six_c hf
  exact ⟨a, b, n, m, s, t, agg_of hc (by simp [sixC]; omega), h1, h2⟩
end
end Go.Proofs.YtpnnibddjopniaaGreatDoor.Ms

/-
  What the laid variables give the walks, and a start in which they lie so.
-/
namespace Go.Proofs.YtpnnibddjopniaaGreatDoor
open Go.ChangeShapes Go.WideShapes Go.ChangeAt Go.WideMaps Go.WideElems Go.RowKit

def laidAll : List (String × DataW Unit) := [("math/bits.deBruijn32tab", Rows.laid_math_bits_deBruijn32tab), ("math/bits.deBruijn64tab", Rows.laid_math_bits_deBruijn64tab), ("internal/strconv.uint64pow10", Rows.laid_internal_strconv_uint64pow10), ("strconv.ErrRange", Rows.laid_strconv_ErrRange), ("strconv.ErrSyntax", Rows.laid_strconv_ErrSyntax)]

theorem own : ownKnob Tryz.prog.godebug = none := by kernel_rfl
theorem tPow : (Tryz.prog.globals[2]?).map (·.type) = some 184 := by kernel_rfl
theorem tRange : (Tryz.prog.globals[1]?).map (·.type) = some 93 := by kernel_rfl
theorem door_met (os : Os) (args : Array Value) : laidMetH Tryz.prog laidAll ((World.doorLaid Tryz.prog 62 os).forCall (fun _ _ => 0) ⟨#[], args, []⟩).memory :=
  laidMetH_of_parts3 (fuel := 8) (laidMet_of_run' 8 (by kernel_rfl) (by kernel_rfl)) (by kernel_rfl) (by kernel_rfl)

theorem cells162 : Tryz.prog.cellsOf 162 = 1 := by kernel_rfl
theorem cells184 : Tryz.prog.cellsOf 184 = 20 := by kernel_rfl
theorem cells192 : Tryz.prog.cellsOf 192 = 1 := by kernel_rfl
theorem cells9 : Tryz.prog.cellsOf 9 = 1 := by kernel_rfl
theorem star : "*" ++ "errors.errorString" = "*errors.errorString" := by decide
theorem row190 (u : TypeId) (h : Tryz.prog.typeName? 3 u = some "*errors.errorString") : u = 190 :=
  typeName_ptr_named (nm := "errors.errorString") (by rw [star]; kernel_rfl) (by kernel_rfl) (by decide) u (by rw [star]; exact h)
theorem powData : (Rows.laid_internal_strconv_uint64pow10 : DataW Unit) = Lib.tabData .u64 Lib.pow10Tab := by kernel_rfl

theorem tabs_of_laid {W : World} (h : laidMetH Tryz.prog laidAll W) : Lay.Tabs W := by
  rw [MakeChecks.laidMetH_plain _ _ _ (by kernel_rfl)] at h
  have h2 := h.tail.tail
  rw [powData] at h2
  obtain ⟨a, s, hv, -, -, -⟩ := laid_sentinel h.tail.tail.tail Lay.gRange tRange Tryz.underlying93 row190 Tryz.underlying190 Tryz.underlying192 rfl rfl Tryz.underlying9 cells192 cells9
  exact ⟨Lib.tabIs_of_head Lay.gPow tPow Tryz.underlying184 Tryz.underlying162 cells162 cells184 h2, _, _, hv⟩

end Go.Proofs.YtpnnibddjopniaaGreatDoor

/-
  MsgApart answers true at every input. The package variables that are listed hold what the program's text lays (the card ties them).
-/
namespace Go.Proofs.YtpnnibddjopniaaGreatDoor
open Go.ChangeShapes Go.WideShapes Go.ChangeAt Go.WideMaps Go.WideElems Go.RowKit
open Go.ChangeMaps (open_string shut_string)
set_option maxRecDepth 100000

theorem msgApart_lifted (os : Os) (started : os.Started) (H : Type) (enc : TypeId × Value → H) :
    ReturnsInHanded {} Tryz.checked os 8 .any (fun w args => (Rows.msgApartSpec.pre enc Tryz.prog Tryz.f8 [] false w args ∧ laidMetH Tryz.prog laidAll w) ∧ sizedMet enc Tryz.prog Tryz.f8 (OpenSpec.ofChange Rows.msgApartSpec) false w args)
      (Rows.msgApartSpec.post enc Tryz.prog Tryz.f8 false true false false) := by
  refine returnsInHanded_of_change_and (C := Tryz.checked) (X := fun w _ => laidMetH Tryz.prog laidAll w) (fun _ _ _ hh h => h.of_heap hh) own started (by kernel_rfl) Tryz.func8
    (ChangeSpec.witness_shaped (enc := enc) (C := Tryz.checked) (os := os) (X := fun w _ => laidMetH Tryz.prog laidAll w) false (World.doorLaid Tryz.prog 62 os) #[.agg (Ms.sixC Ms.zeroS Ms.zeroS 0 0 [] []).toArray] 8 rfl (World.shaped_of_RefB (by kernel_rfl) (by kernel_rfl)) (by kernel_rfl) (by kernel_rfl) (by kernel_rfl) (door_met os _)) ?_
  intro W base args ds gs before hval0 hW _ hsz hL _
  have hval : ∀ (j : Nat) t v, Tryz.f8.params[j]? = some t → args[j]? = some v → Value.okWide Tryz.prog W .any base t v := hval0
  have hW' := hW
  obtain ⟨p, q, hA0, hV, rfl, hfz, hnd⟩ := hW
  have hA : DataW.TrodAll enc Tryz.prog W 0 (fun _ => true) true Tryz.f8.params.toList args.toList ds p := hA0
  rw [Tryz.params8] at hA hval hsz
  obtain ⟨v0, d0, rfl, rfl, h0⟩ := trodAll_one hA
  obtain ⟨rfl, rfl⟩ := trodVars_none hV
  obtain ⟨xa0, xb0, na0, nb0, sa0, sb0, rfl, ha0, hb0, hra0, hrb0, hna0, hnb0⟩ := Ms.open_six h0
  clear hA0 hval0
  simp only [List.append_nil] at hW'
  have hlt : ∀ x ∈ p, x.block < W.heap.size := fun x hx => by simpa using hW'.lt x (by simpa using hx)
  have hcall : Calls Tryz.prog 8 #[.agg (Ms.sixC xa0 xb0 na0 nb0 sa0 sb0).toArray] W fun e w' => e = .returned (.bool true) ∧ Below W.heap.size W w' := Ms.apart_walk W (tabs_of_laid hL) xa0 xb0 na0 nb0 sa0 sb0 ha0 hb0 hra0 hrb0 hna0 hnb0
  refine hcall.mono fun e W' ⟨he, hnx⟩ => ?_
  subst he
  refine ⟨_, rfl, _, _, _, [], p, [], hW', ?_, ?_, rfl, hnx.frame _, fun h => by cases h⟩
  · exact trodAll_mk1 (shut_bool Tryz.underlying4 _)
  · exact trodAll_mk1 (Below.trod Ms.laidOut (by kernel_rfl) (of_decide_eq_true (by kernel_rfl)) h0 hnx (fun x hx => hlt x (by simp [hx])))

theorem msgApart_holds : Rows.MsgApartSaid :=
  OpenClaim.holds_of_wide 8 Tryz.f8 rfl rfl rfl rfl rfl rfl rfl ⟨rfl, rfl, rfl, rfl, rfl⟩ rfl rfl rfl rfl rfl (by kernel_rfl) Tryz.func8 (by kernel_rfl)
    (of_decide_eq_true (by kernel_rfl)) (by unfold Func.isWrapper; rw [if_neg (of_decide_eq_false (by kernel_rfl))]; exact ⟨rfl, rfl⟩)
    (fun os started H enc _ => msgApart_lifted os started H enc)

theorem msgApart_card : Rows.MsgApartCardSaid :=
  Claim7.holds_tied_plain_at .later [] [.data, .data, .data, .sentinel, .sentinel] true (true, "d107ac4eeac63466ab8e3b0cff98229e42e80e4660ebec269d88c8f14d6c8631") true
    msgApart_holds (fun _ h => by cases h) (by kernel_rfl) (fun _ h => by cases h) msgApart_row_tie rfl ⟨rfl, rfl⟩ (by kernel_rfl) rfl
    (fun f fn hf hfn => by
      obtain rfl : f = 8 := Option.some.inj ((show Tryz.prog.funcNamed "affidavit/affidavitlaw10.MsgApart" = some 8 by kernel_rfl).symm.trans hf) |>.symm
      obtain rfl : fn = Tryz.f8 := (Option.some.inj (Tryz.func8.symm.trans hfn)).symm
      exact ⟨by kernel_rfl, fun j t ht => by
        rw [Tryz.params8] at ht
        have hm : t ∈ [49] := by simpa using Array.mem_of_getElem? ht
        have hall : ([49].all fun u => !Tryz.prog.wantsStandIn u) = true := by kernel_rfl
        exact (show Tryz.prog.wantsStandIn t = false by simpa using List.all_eq_true.1 hall t hm)⟩)
    (by kernel_rfl)
#print axioms msgApart_card
end Go.Proofs.YtpnnibddjopniaaGreatDoor
