/-
  What the reference lays of texts, digests and numbers (R10.Text, Dig, Ints, Numbered, Asked), given what R01.Digits, R01.Number and R02.Bytes answer.
-/
import Derived.Test.YtpnnibddjopniaaGreatDoorJlw
import Derived.Test.YtpnnibddjopniaaGreatDoorJnb
import Derived.Lib.ItoaNum
import Derived.Lib.SmallJoins
import Derived.Test.YtpnnibddjopniaaGreatDoorLnum
import Derived.Test.YtpnnibddjopniaaGreatDoorGaw
import Derived.Test.YtpnnibddjopniaaGreatDoorJsm
import Derived.Test.YtpnnibddjopniaaGreatDoorRows
import Derived.ProofKit
import Derived.OpenShut
import Derived.Deep.Slices
import Derived.LaidMore
import Derived.Stop.Joined
import Derived.Stop.LaidErr
import Derived.Lib.LaidTab
import Derived.Test.YtpnnibddjopniaaGreatDoorCards
import Derived.Test.YtpnnibddjopniaaGreatDoorTie
import Derived.SevenTiedAt
import Derived.SizedLaws
namespace Go.Proofs.YtpnnibddjopniaaGreatDoor.Ms
open Go Go.RowKit
set_option maxRecDepth 100000

/-- What R01.Digits, R01.Number and R02.Bytes answer. -/
def DigOk : Prop := ∀ (u : Nat), u ≤ 9223372036854775807 → ∀ (w : World), Calls Tryz.prog 63 #[.int .i64 u] w fun e w' => e = .returned (.string ⟨(Lib.decDigits u).toArray⟩) ∧ Below w.heap.size w w'
def NumOk : Prop := ∀ (n : Int), -9223372036854775808 ≤ n → n ≤ 9223372036854775807 → ∀ (w : World), Calls Tryz.prog 39 #[.int .i64 n] w fun e w' => e = .returned (.string ⟨(Lib.itoa n ++ [59]).toArray⟩) ∧ Below w.heap.size w w'
def BytOk : Prop := ∀ (l : List UInt8), l.length = 32 → ∀ (w : World), Calls Tryz.prog 34 #[.agg (dg l).toArray] w fun e w' => e = .returned (.string ⟨l.toArray⟩) ∧ Below w.heap.size w w'

set_option maxHeartbeats 2000000 in
theorem rtext_any (hD : DigOk) (s : List UInt8) (hs : s.length ≤ 1000000000) (w : World) : Calls Tryz.prog 36 #[.string ⟨s.toArray⟩] w fun e w' => e = .returned (.string ⟨(txtB s).toArray⟩) ∧ Below w.heap.size w w' := by
  have HD := hid (hD s.length (by omega) w)
  have hl := dec_len s.length (by omega)
  have hss : (⟨s.toArray⟩ : ByteArray).size = s.length := rfl
  unfold txtB
  generalize Lib.decDigits s.length = d at *
  have e1 := str_app d [58]
  have e2 := str_app (d ++ [58]) s
  have hds : (⟨d.toArray⟩ : ByteArray).size = d.length := rfl
  have hds2 : (⟨(d ++ [58]).toArray⟩ : ByteArray).size = d.length + 1 := by show (d ++ [58]).length = _; simp
  clear hD
  go_enter Tryz.func36, Tryz.ntmps36
  go_wp2_with fail
  refine HD.out.mono ?_
  rintro e w1 ⟨rfl, hb⟩
  have HB := hid hb
  clear hb
  go_wp2
  go_ret
  exact ⟨(by show Ending.returned (Value.string ⟨(d ++ 58 :: s).toArray⟩) = _; simp), HB.out⟩

set_option maxHeartbeats 2000000 in
theorem rdig_any (hD : DigOk) (hY : BytOk) (d : List UInt8) (hd : d.length = 32) (w : World) : Calls Tryz.prog 37 #[.agg (dg d).toArray] w fun e w' => e = .returned (.string ⟨(txtB d).toArray⟩) ∧ Below w.heap.size w w' := by
  have HB0 := hid (below_a1 w (.cells (dg d).toArray 23))
  have r0 := top_obj w (.cells (dg d).toArray 23)
  have S0 := hid (row_seg (off := 0) (A := []) (cs := dg d) (C := []) r0 (by simp) rfl)
  have Z0 : (Tryz.prog.info? 23).map (·.size) = some (dg d).length := by rw [dg_len, hd]; exact sizeDig
  have HY := hid (fun W => hY d hd W)
  have HT := hid (fun W => rtext_any hD d (by omega) W)
  generalize txtB d = t at *
  generalize dg d = D at *
  clear hD hY hd r0
  go_enter Tryz.func37, Tryz.ntmps37
  go_upto_region 1 with fail
  generalize w.alloc (.cells D.toArray 23) = W0 at *
  go_wp2_with (first | ((with_reducible refine wl_load 23 (.tmp 1) ?_ w.heap.size 0 ?_ ?_ D _ S0.out Tryz.underlying23 ?_ Z0 ?_); exact rfl; exact rfl; exact rfl; exact rfl))
  refine (HY.out _).mono ?_
  rintro e w1 ⟨rfl, hb⟩
  have HB1 := hid (below_two HB0.out hb)
  clear hb
  go_wp2_with fail
  refine (HT.out _).mono ?_
  rintro e w2 ⟨rfl, hb⟩
  have HB2 := hid (below_two HB1.out hb)
  clear hb
  go_wp2
  go_ret
  exact ⟨rfl, HB2.out⟩

set_option maxHeartbeats 2000000 in
theorem rnints_any (hN : NumOk) {w : World} {v : Value} {ks : List Int} (hv : IntsAt w v ks) (hk : ∀ n ∈ ks, I64 n) (hl : ks.length ≤ 1000000) : Calls Tryz.prog 35 #[v] w fun e w' => e = .returned (.string ⟨(intsB ks).toArray⟩) ∧ Below w.heap.size w w' := by
  have HV := hid hv
  obtain ⟨a, cap, rfl, -⟩ := hv
  have HN := hid hN
  have HK := hid hk
  have HB0 := hid (Below.refl w.heap.size w)
  clear hk hN
  go_enter Tryz.func35, Tryz.ntmps35
  go_wp2
  go_loopw [3, 4] (fun o i w' => ∃ j : Nat, j ≤ ks.length ∧ i = .int .i64 j ∧ o = .string ⟨(intsB (ks.take j)).toArray⟩ ∧ Hid (Below w.heap.size w w')) (fun _ i _ => ks.length - (intOf i).toNat)
  case atStart => exact ⟨0, by omega, rfl, rfl, HB0.out⟩
  case round =>
    obtain ⟨j, hj, rfl, rfl, HB⟩ := hrel
    by_cases hlt : j < ks.length
    · have d1 : decide ((j : Int) < (ks.length : Int)) = true := decide_eq_true (by omega)
      have d1' : decide (j < ks.length) = true := decide_eq_true hlt
      obtain ⟨a', c', e', hc⟩ := HV.out.kept HB.out
      cases e'
      obtain ⟨b, off, rfl, hcc⟩ := hc (fun e => by rw [e] at hlt; exact absurd hlt (Nat.not_lt_zero j))
      have cj : wr.cell? ⟨b, off + j, none⟩ = some (.int .i64 (ks.getD j 0)) := hcc j hlt
      have hmem : ks.getD j 0 ∈ ks := by simp [List.getD, hlt]
      have h64 := HK.out _ hmem
      have HNj := hid (fun W => HN.out (ks.getD j 0) h64.1 h64.2 W)
      have hn22 := numB_len _ h64
      have hol := intsB_len (ks.take j) (fun n hn => HK.out n (List.mem_of_mem_take hn))
      rw [List.length_take] at hol
      have HS := hid (intsB_snoc ks j hlt)
      have happ := str_app (intsB (ks.take j)) (numB (ks.getD j 0))
      have hnb : Lib.itoa (ks.getD j 0) ++ [59] = numB (ks.getD j 0) := rfl
      rw [hnb] at HNj
      generalize numB (ks.getD j 0) = nb at *
      generalize ks.getD j 0 = x at *
      generalize intsB (ks.take j) = o at *
      have hs1 : (⟨nb.toArray⟩ : ByteArray).size = nb.length := rfl
      have hs2 : (⟨o.toArray⟩ : ByteArray).size = o.length := rfl
      have ho2 : o.length ≤ 22000000 := by omega
      clear hc hcc hmem h64 HK HN hnb hol
      go_wp2_with fail
      refine (HNj.out _).mono ?_
      rintro e w1 ⟨rfl, hb⟩
      have HB1 := hid (below_two HB.out hb)
      clear hb
      go_wp2
      exact ⟨⟨j + 1, by omega, by go_num, by rw [HS.out], HB1.out⟩, by simp [intOf]; omega⟩
    · obtain rfl : j = ks.length := by omega
      have HT : Hid (intsB (ks.take ks.length) = intsB ks) := by show _ = _; rw [List.take_length]
      clear HN HK
      go_wp2
      go_ret
      exact ⟨by rw [← HT.out]; rfl, HB.out⟩

/-- What is tagged of a number and a text: texts that are too long as if they were empty. -/
def numberedB (n : Int) (s : List UInt8) : List UInt8 := numB n ++ txtB (if 16384 < s.length then [] else s)
set_option maxHeartbeats 2000000 in
theorem rnumbered_any (hD : DigOk) (hN : NumOk) (n : Int) (hn : I64 n) (s : List UInt8) (w : World) : Calls Tryz.prog 21 #[.int .i64 n, .string ⟨s.toArray⟩] w fun e w' => e = .returned (.string ⟨(numberedB n s).toArray⟩) ∧ Below w.heap.size w w' := by
  have HN := hid (hN n hn.1 hn.2 w)
  have hss : (⟨s.toArray⟩ : ByteArray).size = s.length := rfl
  have hnl := numB_len n hn
  have hnb : Lib.itoa n ++ [59] = numB n := rfl
  rw [hnb] at HN
  by_cases hl : 16384 < s.length
  · have e0 : numberedB n s = numB n ++ txtB [] := by unfold numberedB; rw [if_pos hl]
    rw [e0]
    have HT := hid (fun W => rtext_any hD [] (by decide) W)
    have htl : (txtB []).length ≤ 22 := by unfold txtB; have := dec_len ([] : List UInt8).length (by decide); simp at this ⊢; omega
    have d1 : decide ((16384 : Int) < (s.length : Int)) = true := decide_eq_true (by omega)
    have d1' : decide (16384 < s.length) = true := decide_eq_true hl
    have happ := str_app (numB n) (txtB [])
    generalize numB n = nb at *
    generalize txtB [] = t at *
    have hs1 : (⟨nb.toArray⟩ : ByteArray).size = nb.length := rfl
    have hs2 : (⟨t.toArray⟩ : ByteArray).size = t.length := rfl
    clear e0 hl hn hD hN hnb
    go_enter Tryz.func21, Tryz.ntmps21
    go_wp2_with fail
    refine HN.out.mono ?_
    rintro e w1 ⟨rfl, hb⟩
    have HB1 := hid hb
    clear hb
    go_wp2_with fail
    refine (HT.out _).mono ?_
    rintro e w2 ⟨rfl, hb⟩
    have HB2 := hid (below_two HB1.out hb)
    clear hb
    go_wp2
    go_ret
    exact ⟨rfl, HB2.out⟩
  · have e0 : numberedB n s = numB n ++ txtB s := by unfold numberedB; rw [if_neg hl]
    rw [e0]
    have HT := hid (fun W => rtext_any hD s (by omega) W)
    have htl : (txtB s).length ≤ 16500 := by unfold txtB; have := dec_len s.length (by omega); simp; omega
    have d1 : decide ((16384 : Int) < (s.length : Int)) = false := decide_eq_false (by omega)
    have d1' : decide (16384 < s.length) = false := decide_eq_false hl
    have happ := str_app (numB n) (txtB s)
    generalize numB n = nb at *
    generalize txtB s = t at *
    have hs1 : (⟨nb.toArray⟩ : ByteArray).size = nb.length := rfl
    have hs2 : (⟨t.toArray⟩ : ByteArray).size = t.length := rfl
    clear e0 hl hn hD hN hnb
    go_enter Tryz.func21, Tryz.ntmps21
    go_wp2_with fail
    refine HN.out.mono ?_
    rintro e w1 ⟨rfl, hb⟩
    have HB1 := hid hb
    clear hb
    go_wp2_with fail
    refine (HT.out _).mono ?_
    rintro e w2 ⟨rfl, hb⟩
    have HB2 := hid (below_two HB1.out hb)
    clear hb
    go_wp2
    go_ret
    exact ⟨rfl, HB2.out⟩

theorem ints_new (w : World) (ks : List Int) (k : Nat) (hk : ks.length = k) : IntsAt (w.alloc (.cells (ks.map nu).toArray 3)) (.slice (some ⟨w.heap.size, 0, none⟩) k k) ks := by
  subst hk
  refine ⟨_, _, rfl, fun _ => ⟨w.heap.size, 0, rfl, fun j hj => ?_⟩⟩
  rw [cell_of_row _ _ _ _ _ _ (top_obj w _), Nat.zero_add, List.getElem?_toArray]
  simp [List.getD, hj]
set_option maxHeartbeats 2000000 in
theorem rasked_any (hN : NumOk) (c : Int) (hc : I64 c) (x : Sub) (hx : x.Wf) (h1 : I64 x.number) (h2 : I64 x.kind) (h3 : I64 x.target) (w : World) :
    Calls Tryz.prog 19 #[.int .i64 c, .agg (subC x).toArray] w fun e w' => e = .returned (.string ⟨(intsB [c, x.number, x.kind, x.target]).toArray⟩) ∧ Below w.heap.size w w' := by
  have HB0 := hid (below_a1 w (.cells (subC x).toArray 25))
  have r0 := top_obj w (.cells (subC x).toArray 25)
  have c0 := srow_number r0 hx
  have c1 := srow_kind r0 hx
  have c2 := srow_target r0 hx
  have HI := hid (fun W => rnints_any hN (ints_new W [c, x.number, x.kind, x.target] 4 rfl) (by intro n hn; simp at hn; rcases hn with rfl | rfl | rfl | rfl; exact hc; exact h1; exact h2; exact h3) (by simp))
  generalize intsB [c, x.number, x.kind, x.target] = t at *
  generalize (subC x).toArray = S at *
  clear r0 hN hx
  go_enter Tryz.func19, Tryz.ntmps19
  go_upto_region 1 with fail
  generalize w.alloc (.cells S 25) = W0 at *
  have HB1 := hid (below_two HB0.out (below_a1 W0 (.cells ([c, x.number, x.kind, x.target].map nu).toArray 3)))
  go_wp2_with fail
  refine (HI.out _).mono ?_
  rintro e w1 ⟨rfl, hb⟩
  have HB2 := hid (below_two HB1.out hb)
  clear hb
  go_wp2
  go_ret
  exact ⟨rfl, HB2.out⟩
end Go.Proofs.YtpnnibddjopniaaGreatDoor.Ms

/-
  What the reference's Number answers, for every int.
-/
namespace Go.Proofs.YtpnnibddjopniaaGreatDoor.Lay
open Go.RowKit Go.Joins
set_option maxRecDepth 100000

set_option maxHeartbeats 400000 in
theorem refNumber_neg2 (u : Nat) (h0 : 10 ≤ u) (h1 : u ≤ 9223372036854775808) (w : World) :
    Calls Tryz.prog 39 #[.int .i64 (-(u : Int))] w fun e w' => e = .returned (.string ⟨(Lib.itoa (-(u : Int)) ++ [59]).toArray⟩) ∧ Below w.heap.size w w' := by
  have hi : Lib.itoa (-(u : Int)) = 45 :: (Lib.decDigits (u / 10) ++ Lib.decDigits (u % 10)) := by
    unfold Lib.itoa
    rw [if_pos (by omega), Int.natAbs_neg, Int.natAbs_natCast, Lib.decDigits, dif_neg (by omega), Lib.decDigits_one (Nat.mod_lt u (by decide))]
  rw [hi]
  have hl : (Lib.decDigits (u / 10)).length ≤ 20 := by rw [Lib.decDigits_length]; exact nDigits_le20 _ (by omega)
  have hl' : (Lib.decDigits (u % 10)).length ≤ 20 := by rw [Lib.decDigits_length]; exact nDigits_le20 _ (by omega)
  clear hi
  have hq : ((-(u : Int)).tdiv 10 == 0) = false := by rw [tdiv_neg, beq_eq_false_iff_ne]; omega
  have hn : -(u : Int) < 0 := by omega
  go_enter Tryz.func39, Tryz.ntmps39
  go_wp2_with fail
  refine (digits_int _ (u / 10) (by omega) (by omega) _).mono ?_
  rintro e w1 ⟨rfl, hb⟩
  go_wp2_with fail
  refine (digits_int _ (u % 10) (by omega) (by omega) _).mono ?_
  rintro e w2 ⟨rfl, hb2⟩
  go_wp2
  go_ret
  refine ⟨congrArg (fun s => Ending.returned (Value.string s)) ?_, below_two hb hb2⟩
  rw [bcat [45] (Lib.decDigits (u / 10)) _ rfl, bcat ([45] ++ Lib.decDigits (u / 10)) (Lib.decDigits (u % 10)) _ rfl, bcat ([45] ++ Lib.decDigits (u / 10) ++ Lib.decDigits (u % 10)) [59] _ rfl]
  simp

theorem refNumber_any (n : Int) (h0 : -9223372036854775808 ≤ n) (h1 : n ≤ 9223372036854775807) (w : World) :
    Calls Tryz.prog 39 #[.int .i64 n] w fun e w' => e = .returned (.string ⟨(Lib.itoa n ++ [59]).toArray⟩) ∧ Below w.heap.size w w' := by
  by_cases hn : 0 ≤ n
  · exact refNumber_pos n hn h1 w
  · obtain ⟨u, rfl⟩ : ∃ u : Nat, n = -(u : Int) := ⟨n.natAbs, by omega⟩
    by_cases h10 : u < 10
    · exact refNumber_neg1 u (by omega) h10 w
    · exact refNumber_neg2 u (by omega) (by omega) w
end Go.Proofs.YtpnnibddjopniaaGreatDoor.Lay

/-
  What is tagged: what msg.Asked, Data, BlobText and Version answer; the walk of MsgTexts.
-/
namespace Go.Proofs.YtpnnibddjopniaaGreatDoor.Ms
open Go Go.RowKit
set_option maxRecDepth 100000

theorem numOk : NumOk := fun n h0 h1 w => Lay.refNumber_any n h0 h1 w
theorem digOk : DigOk := fun u hu w => Lay.digits_any u hu w
theorem layT_len (s : List UInt8) : (layT s).length ≤ 16500 := by
  unfold layT
  split
  · have := txtB_len [] (by decide); simp at this ⊢; omega
  · have := txtB_len s (by omega); omega
def askB (c : Int) (x : Sub) : List UInt8 := numB c ++ numB x.number ++ numB x.kind ++ numB x.target
theorem askB_ints (c : Int) (x : Sub) : intsB [c, x.number, x.kind, x.target] = askB c x := by simp [intsB, askB]
theorem numbered_lay (n : Int) (s : List UInt8) : numberedB n s = numB n ++ layT s := rfl
set_option maxHeartbeats 1000000 in
theorem data_any (n : Int) (hn : I64 n) (s : List UInt8) (w : World) (ht : Tb w) : Calls Tryz.prog 20 #[nu n, st s] w fun e w' => e = .returned (st (numB n ++ layT s)) ∧ Below w.heap.size w w' := by
  have K1 := hid (Lay.number_any n hn.1 hn.2 w ht)
  have hnb : Lib.itoa n ++ [59] = numB n := rfl
  rw [hnb] at K1
  have K2 := hid (fun (W : World) (h : Below w.heap.size w W) => laytext_any s W (ht.stays h))
  have h1 := numB_len n hn
  have h2 := layT_len s
  have happ := str_app (numB n) (layT s)
  generalize numB n = nb at *
  generalize layT s = tb at *
  have hs1 : (⟨nb.toArray⟩ : ByteArray).size = nb.length := rfl
  have hs2 : (⟨tb.toArray⟩ : ByteArray).size = tb.length := rfl
  clear hn ht hnb
  go_enter Tryz.func20, Tryz.ntmps20
  go_wp2_with fail
  refine K1.out.mono ?_
  rintro e w1 ⟨rfl, hb⟩
  have HB1 := hid hb
  clear hb
  go_wp2_with fail
  refine (K2.out _ HB1.out).mono ?_
  rintro e w2 ⟨rfl, hb⟩
  have HB2 := hid (below_two HB1.out hb)
  clear hb
  go_wp2
  go_ret
  exact ⟨rfl, HB2.out⟩
set_option maxHeartbeats 1000000 in
theorem blobtext_any (n : Int) (hn : I64 n) (s : List UInt8) (w : World) (ht : Tb w) : Calls Tryz.prog 22 #[nu n, st s] w fun e w' => e = .returned (st (numB n ++ layT s)) ∧ Below w.heap.size w w' := by
  have K1 := hid (Lay.number_any n hn.1 hn.2 w ht)
  have hnb : Lib.itoa n ++ [59] = numB n := rfl
  rw [hnb] at K1
  have K2 := hid (fun (W : World) (h : Below w.heap.size w W) => laytext_any s W (ht.stays h))
  have h1 := numB_len n hn
  have h2 := layT_len s
  have happ := str_app (numB n) (layT s)
  generalize numB n = nb at *
  generalize layT s = tb at *
  have hs1 : (⟨nb.toArray⟩ : ByteArray).size = nb.length := rfl
  have hs2 : (⟨tb.toArray⟩ : ByteArray).size = tb.length := rfl
  clear hn ht hnb
  go_enter Tryz.func22, Tryz.ntmps22
  go_wp2_with fail
  refine K1.out.mono ?_
  rintro e w1 ⟨rfl, hb⟩
  have HB1 := hid hb
  clear hb
  go_wp2_with fail
  refine (K2.out _ HB1.out).mono ?_
  rintro e w2 ⟨rfl, hb⟩
  have HB2 := hid (below_two HB1.out hb)
  clear hb
  go_wp2
  go_ret
  exact ⟨rfl, HB2.out⟩
set_option maxHeartbeats 1000000 in
theorem version_any (n : Int) (hn : I64 n) (s : List UInt8) (w : World) (ht : Tb w) : Calls Tryz.prog 23 #[nu n, st s] w fun e w' => e = .returned (st (numB n ++ layT s)) ∧ Below w.heap.size w w' := by
  have K1 := hid (Lay.number_any n hn.1 hn.2 w ht)
  have hnb : Lib.itoa n ++ [59] = numB n := rfl
  rw [hnb] at K1
  have K2 := hid (fun (W : World) (h : Below w.heap.size w W) => laytext_any s W (ht.stays h))
  have h1 := numB_len n hn
  have h2 := layT_len s
  have happ := str_app (numB n) (layT s)
  generalize numB n = nb at *
  generalize layT s = tb at *
  have hs1 : (⟨nb.toArray⟩ : ByteArray).size = nb.length := rfl
  have hs2 : (⟨tb.toArray⟩ : ByteArray).size = tb.length := rfl
  clear hn ht hnb
  go_enter Tryz.func23, Tryz.ntmps23
  go_wp2_with fail
  refine K1.out.mono ?_
  rintro e w1 ⟨rfl, hb⟩
  have HB1 := hid hb
  clear hb
  go_wp2_with fail
  refine (K2.out _ HB1.out).mono ?_
  rintro e w2 ⟨rfl, hb⟩
  have HB2 := hid (below_two HB1.out hb)
  clear hb
  go_wp2
  go_ret
  exact ⟨rfl, HB2.out⟩
structure SubRng (x : Sub) : Prop where
  n : I64 x.number
  k : I64 x.kind
  t : I64 x.target
set_option maxHeartbeats 2000000 in
theorem asked_any (c : Int) (hc : I64 c) (x : Sub) (hx : x.Wf) (hr : SubRng x) (w : World) (ht : Tb w) : Calls Tryz.prog 18 #[nu c, .agg (subC x).toArray] w fun e w' => e = .returned (st (askB c x)) ∧ Below w.heap.size w w' := by
  have HB0 := hid (below_a1 w (.cells (subC x).toArray 25))
  have r0 := top_obj w (.cells (subC x).toArray 25)
  have c0 := srow_number r0 hx
  have c1 := srow_kind r0 hx
  have c2 := srow_target r0 hx
  have hT0 : Tb (w.alloc (.cells (subC x).toArray 25)) := ht.stays HB0.out
  have l0 := numB_len c hc
  have l1 := numB_len x.number hr.n
  have l2 := numB_len x.kind hr.k
  have l3 := numB_len x.target hr.t
  have K : ∀ n, I64 n → ∀ W, Tb W → ∀ dd os, Calls Tryz.prog 25 #[nu n] (Sort.grow (redrawn W dd) os) fun e w'' => e = .returned (st (numB n)) ∧ ∃ p : Regrown, w'' = Sort.grow (redrawn W p.d) p.os := fun n hn W hW dd os => Calls.regrown_of (Lay.number_any n hn.1 hn.2 _ (hW.stays (below_regrown W dd os)))
  have k0 := hid (K c hc _ hT0)
  have k1 := hid (K x.number hr.n _ hT0)
  have k2 := hid (K x.kind hr.k _ hT0)
  have k3 := hid (K x.target hr.t _ hT0)
  have p0 : ∀ dd os, (Sort.grow (redrawn (w.alloc (.cells (subC x).toArray 25)) dd) os).cell? ⟨w.heap.size, 0, none⟩ = some (nu x.number) := fun dd os => cell_regrown c0 _ _
  have p1 : ∀ dd os, (Sort.grow (redrawn (w.alloc (.cells (subC x).toArray 25)) dd) os).cell? ⟨w.heap.size, 1, none⟩ = some (nu x.kind) := fun dd os => cell_regrown c1 _ _
  have p2 : ∀ dd os, (Sort.grow (redrawn (w.alloc (.cells (subC x).toArray 25)) dd) os).cell? ⟨w.heap.size, 2, none⟩ = some (nu x.target) := fun dd os => cell_regrown c2 _ _
  have a1 := str_app (numB c) (numB x.number)
  have a2 := str_app (numB c ++ numB x.number) (numB x.kind)
  have a3 := str_app (numB c ++ numB x.number ++ numB x.kind) (numB x.target)
  unfold askB
  generalize numB c = n0 at *
  generalize numB x.number = n1 at *
  generalize numB x.kind = n2 at *
  generalize numB x.target = n3 at *
  generalize (subC x).toArray = S at *
  have s0 : (⟨n0.toArray⟩ : ByteArray).size = n0.length := rfl
  have s1 : (⟨n1.toArray⟩ : ByteArray).size = n1.length := rfl
  have s2 : (⟨n2.toArray⟩ : ByteArray).size = n2.length := rfl
  have s3 : (⟨n3.toArray⟩ : ByteArray).size = n3.length := rfl
  have s4 : (⟨(n0 ++ n1).toArray⟩ : ByteArray).size = n0.length + n1.length := by show (n0 ++ n1).length = _; simp
  have s5 : (⟨(n0 ++ n1 ++ n2).toArray⟩ : ByteArray).size = n0.length + n1.length + n2.length := by show (n0 ++ n1 ++ n2).length = _; simp; omega
  clear r0 K hT0 ht hx hr hc c0 c1 c2
  go_enter Tryz.func18, Tryz.ntmps18
  go_upto_region 1 with fail
  generalize w.alloc (.cells S 25) = W0 at *
  have hbg := hid (fun dq osq => below_two HB0.out (below_regrown W0 dq osq))
  refine wp_region_quiet_below (by kernel_rfl) (by kernel_rfl) ?_
  iterate 15 (first | go_big_quiet_step (first | exact k0.out _ _ | exact k1.out _ _ | exact k2.out _ _ | exact k3.out _ _) | quiet_step (first | exact k0.out _ _ | exact k1.out _ _ | exact k2.out _ _ | exact k3.out _ _))
  refine wpQuiet_nil ?_
  intro _ hw'
  obtain ⟨⟨dq, osq⟩, hw''⟩ := hw'
  subst hw''
  have HBq := hid (hbg.out dq osq)
  go_wp2
  go_ret
  exact ⟨by first | rfl | (simp [str_app]), HBq.out⟩
end Go.Proofs.YtpnnibddjopniaaGreatDoor.Ms

/-
  The walk of MsgSame.
-/
namespace Go.Proofs.YtpnnibddjopniaaGreatDoor.Ms
open Go Go.RowKit
set_option maxRecDepth 100000

theorem sameM_comm (a b : Msg) : sameM b a = sameM a b := by
  rw [Bool.eq_iff_iff, sameM_iff, sameM_iff]
  exact ⟨fun h => h.symm, fun h => h.symm⟩
set_option maxHeartbeats 4000000 in
theorem same_walk (w : World) (ht : Tb w) (a : Msg) (vP vN : Value) (ha : a.Wf) (hp : PensAt w vP a.rep.pend) (hn : IntsAt w vN a.nums) (hl : Lens a) (b : Msg) (vQ vM : Value) (hb : b.Wf) (hq : PensAt w vQ b.rep.pend) (hm : IntsAt w vM b.nums) (hk : Lens b) :
    Calls Tryz.prog 6 #[.agg (msgC a vP vN).toArray, .agg (msgC b vQ vM).toArray] w fun e w' => e = .returned (.bool true) ∧ Below w.heap.size w w' := by
  have HB0 : Hid (Below w.heap.size w ((w.alloc (.cells (msgC a vP vN).toArray 33)).alloc (.cells (msgC b vQ vM).toArray 33))) := (below_a1 w _).alloc (by simp) _
  have R0 : ((w.alloc (.cells (msgC a vP vN).toArray 33)).alloc (.cells (msgC b vQ vM).toArray 33)).heap[w.heap.size]? = some (.cells (msgC a vP vN).toArray 33) := heap_alloc2_old w _ _
  have R1 : ((w.alloc (.cells (msgC a vP vN).toArray 33)).alloc (.cells (msgC b vQ vM).toArray 33)).heap[w.heap.size + 1]? = some (.cells (msgC b vQ vM).toArray 33) := heap_alloc2_new w _ _
  have S0 := hid (row_seg (off := 0) (A := []) (cs := msgC a vP vN) (C := []) R0 (by simp) rfl)
  have S1 := hid (row_seg (off := 0) (A := []) (cs := msgC b vQ vM) (C := []) R1 (by simp) rfl)
  have Z0 : (Tryz.prog.info? 33).map (·.size) = some (msgC a vP vN).length := by rw [msgC_len ha]; exact sizeMsg
  have Z1 : (Tryz.prog.info? 33).map (·.size) = some (msgC b vQ vM).length := by rw [msgC_len hb]; exact sizeMsg
  have A0 := hid (fun W (hW : Below w.heap.size w W) dd os => Calls.regrown_of (awake_any (Sort.grow (redrawn W dd) os) (ht.stays (below_two hW (below_regrown W dd os)))))
  have A1 := hid (fun W (hW : Below w.heap.size w W) dd os => Calls.regrown_of (msame_any (w := Sort.grow (redrawn W dd) os) ha hb (hp.kept (below_two hW (below_regrown W dd os))) (hq.kept (below_two hW (below_regrown W dd os))) (hn.kept (below_two hW (below_regrown W dd os))) (hm.kept (below_two hW (below_regrown W dd os))) hl.1 hl.2))
  have A2 := hid (fun W (hW : Below w.heap.size w W) dd os => Calls.regrown_of (same_any (w := Sort.grow (redrawn W dd) os) ha hb (hp.kept (below_two hW (below_regrown W dd os))) (hq.kept (below_two hW (below_regrown W dd os))) (hn.kept (below_two hW (below_regrown W dd os))) (hm.kept (below_two hW (below_regrown W dd os))) hl.1 hl.2))
  have A3 := hid (fun W (hW : Below w.heap.size w W) dd os => Calls.regrown_of (msame_any (w := Sort.grow (redrawn W dd) os) ha ha (hp.kept (below_two hW (below_regrown W dd os))) (hp.kept (below_two hW (below_regrown W dd os))) (hn.kept (below_two hW (below_regrown W dd os))) (hn.kept (below_two hW (below_regrown W dd os))) hl.1 hl.2))
  have A4 := hid (fun W (hW : Below w.heap.size w W) dd os => Calls.regrown_of (msame_any (w := Sort.grow (redrawn W dd) os) hb ha (hq.kept (below_two hW (below_regrown W dd os))) (hp.kept (below_two hW (below_regrown W dd os))) (hm.kept (below_two hW (below_regrown W dd os))) (hn.kept (below_two hW (below_regrown W dd os))) hk.1 hk.2))
  have e3 : sameM a a = true := (sameM_iff a a).2 rfl
  rw [e3] at A3
  rw [sameM_comm a b] at A4
  generalize sameM a b = r at *
  generalize msgC a vP vN = VA at *
  generalize msgC b vQ vM = VB at *
  clear R0 R1 ht hp hq hn hm hl hk ha hb e3
  go_enter Tryz.func6, Tryz.ntmps6
  go_upto_region 1 with fail
  generalize (w.alloc (.cells VA.toArray 33)).alloc (.cells VB.toArray 33) = W0 at *
  obtain ⟨g0, hg0⟩ : ∃ g0, g0 = w.heap.size := ⟨_, rfl⟩
  obtain ⟨g1, hg1⟩ : ∃ g1, g1 = w.heap.size + 1 := ⟨_, rfl⟩
  rw [← hg1] at S1 ⊢
  rw [← hg0] at S0 ⊢
  clear hg0 hg1
  have hbg := hid (fun dq osq => below_two HB0.out (below_regrown W0 dq osq))
  have T0 := hid (fun w' (hw : ∃ p : Regrown, w' = Sort.grow (redrawn W0 p.d) p.os) => (by obtain ⟨p, rfl⟩ := hw; exact fun i c hi => cell_regrown (S0.out i c hi) _ _ : ∀ i c, VA[i]? = some c → w'.cell? ⟨g0, 0 + i, none⟩ = some c))
  have T1 := hid (fun w' (hw : ∃ p : Regrown, w' = Sort.grow (redrawn W0 p.d) p.os) => (by obtain ⟨p, rfl⟩ := hw; exact fun i c hi => cell_regrown (S1.out i c hi) _ _ : ∀ i c, VB[i]? = some c → w'.cell? ⟨g1, 0 + i, none⟩ = some c))
  have B0 := hid (A0.out W0 HB0.out)
  have B1 := hid (A1.out W0 HB0.out)
  have B2 := hid (A2.out W0 HB0.out)
  have B3 := hid (A3.out W0 HB0.out)
  have B4 := hid (A4.out W0 HB0.out)
  clear A0 A1 A2 A3 A4 S0 S1
  refine wp_region_quiet_below (by kernel_rfl) (by kernel_rfl) ?_
  (first | go_big_quiet_step (exact B0.out _ _) | quiet_step (exact B0.out _ _))
  iterate 1 (first | go_big_quiet_step (fail) | quiet_step (fail))
  refine wq_load 33 (.tmp 2) rfl g0 0 rfl rfl VA _ (fun w' hw' => T0.out w' hw') Tryz.underlying33 rfl Z0 ?_
  simp only [Act.put, List.setIfInBounds_toArray, List.set_cons_zero, List.set_cons_succ]
  refine wq_load 33 (.tmp 3) rfl g1 0 rfl rfl VB _ (fun w' hw' => T1.out w' hw') Tryz.underlying33 rfl Z1 ?_
  simp only [Act.put, List.setIfInBounds_toArray, List.set_cons_zero, List.set_cons_succ]
  (first | go_big_quiet_step (exact B1.out _ _) | quiet_step (exact B1.out _ _))
  refine wq_load 33 (.tmp 2) rfl g0 0 rfl rfl VA _ (fun w' hw' => T0.out w' hw') Tryz.underlying33 rfl Z0 ?_
  simp only [Act.put, List.setIfInBounds_toArray, List.set_cons_zero, List.set_cons_succ]
  refine wq_load 33 (.tmp 3) rfl g1 0 rfl rfl VB _ (fun w' hw' => T1.out w' hw') Tryz.underlying33 rfl Z1 ?_
  simp only [Act.put, List.setIfInBounds_toArray, List.set_cons_zero, List.set_cons_succ]
  (first | go_big_quiet_step (exact B2.out _ _) | quiet_step (exact B2.out _ _))
  iterate 3 (first | go_big_quiet_step (fail) | quiet_step (fail))
  refine wq_load 33 (.tmp 2) rfl g0 0 rfl rfl VA _ (fun w' hw' => T0.out w' hw') Tryz.underlying33 rfl Z0 ?_
  simp only [Act.put, List.setIfInBounds_toArray, List.set_cons_zero, List.set_cons_succ]
  refine wq_load 33 (.tmp 2) rfl g0 0 rfl rfl VA _ (fun w' hw' => T0.out w' hw') Tryz.underlying33 rfl Z0 ?_
  simp only [Act.put, List.setIfInBounds_toArray, List.set_cons_zero, List.set_cons_succ]
  (first | go_big_quiet_step (exact B3.out _ _) | quiet_step (exact B3.out _ _))
  iterate 2 (first | go_big_quiet_step (fail) | quiet_step (fail))
  refine wq_load 33 (.tmp 3) rfl g1 0 rfl rfl VB _ (fun w' hw' => T1.out w' hw') Tryz.underlying33 rfl Z1 ?_
  simp only [Act.put, List.setIfInBounds_toArray, List.set_cons_zero, List.set_cons_succ]
  refine wq_load 33 (.tmp 2) rfl g0 0 rfl rfl VA _ (fun w' hw' => T0.out w' hw') Tryz.underlying33 rfl Z0 ?_
  simp only [Act.put, List.setIfInBounds_toArray, List.set_cons_zero, List.set_cons_succ]
  (first | go_big_quiet_step (exact B4.out _ _) | quiet_step (exact B4.out _ _))
  refine wq_load 33 (.tmp 2) rfl g0 0 rfl rfl VA _ (fun w' hw' => T0.out w' hw') Tryz.underlying33 rfl Z0 ?_
  simp only [Act.put, List.setIfInBounds_toArray, List.set_cons_zero, List.set_cons_succ]
  refine wq_load 33 (.tmp 3) rfl g1 0 rfl rfl VB _ (fun w' hw' => T1.out w' hw') Tryz.underlying33 rfl Z1 ?_
  simp only [Act.put, List.setIfInBounds_toArray, List.set_cons_zero, List.set_cons_succ]
  (first | go_big_quiet_step (exact B1.out _ _) | quiet_step (exact B1.out _ _))
  iterate 3 (first | go_big_quiet_step (fail) | quiet_step (fail))
  refine wpQuiet_nil ?_
  intro _ hw'
  obtain ⟨⟨dq, osq⟩, hw''⟩ := hw'
  subst hw''
  have HBq := hid (hbg.out dq osq)
  go_wp2
  go_ret
  exact ⟨rfl, HBq.out⟩
end Go.Proofs.YtpnnibddjopniaaGreatDoor.Ms

/-
  Submits, blobs, what is pending, replies and messages that came in, opened for a walk.
-/
namespace Go.Proofs.YtpnnibddjopniaaGreatDoor.Ms
open Go Go.ChangeShapes Go.WideShapes Go.ChangeAt Go.WideMaps Go.WideElems Go.RowKit
set_option maxRecDepth 100000

theorem laidOut : laidOutB Tryz.prog = true := by kernel_rfl
theorem cells_dig : Tryz.prog.cellsOf 23 = 32 := by kernel_rfl
theorem cells_byt : Tryz.prog.cellsOf 5 = 1 := by kernel_rfl
theorem cells_int : Tryz.prog.cellsOf 3 = 1 := by kernel_rfl
theorem cells_str : Tryz.prog.cellsOf 9 = 1 := by kernel_rfl
theorem cells_sub : Tryz.prog.cellsOf 25 = 68 := by kernel_rfl
theorem cells_pen : Tryz.prog.cellsOf 109 = 68 := by kernel_rfl
theorem cells_rep : Tryz.prog.cellsOf 28 = 103 := by kernel_rfl
theorem cells_blo : Tryz.prog.cellsOf 30 = 35 := by kernel_rfl
theorem cells_msg : Tryz.prog.cellsOf 33 = 275 := by kernel_rfl
theorem cells_ints : Tryz.prog.cellsOf 31 = 1 := by kernel_rfl
theorem cells_pens : Tryz.prog.cellsOf 26 = 1 := by kernel_rfl
theorem cells_six : Tryz.prog.cellsOf 49 = 140 := by kernel_rfl
theorem bytes_list : ∀ (cs : List Value), (∀ i, i < cs.length → ∃ n : Int, cs[i]? = some (.int .u8 n) ∧ 0 ≤ n ∧ n ≤ 255) → ∃ l : List UInt8, l.length = cs.length ∧ cs = dg l
  | [], _ => ⟨[], rfl, rfl⟩
  | c :: cs, h => by
    obtain ⟨n, hn, h0, h1⟩ := h 0 (by simp)
    obtain ⟨l, hl, hcs⟩ := bytes_list cs (fun i hi => by
      obtain ⟨m, hm, h2⟩ := h (i + 1) (by simpa using hi)
      exact ⟨m, by simpa using hm, h2⟩)
    refine ⟨UInt8.ofNat n.toNat :: l, by simp [hl], ?_⟩
    have hc : c = .int .u8 n := by simpa using hn
    have e : dg (UInt8.ofNat n.toNat :: l) = cb (UInt8.ofNat n.toNat) :: dg l := rfl
    rw [e, ← hcs, hc]
    congr 1
    unfold cb bv
    congr 1
    rw [UInt8.toNat_ofNat']
    omega
theorem stp (cs : List Value) (a b c : Nat) (h : a + b = c) : cs.drop a = (cs.drop a).take b ++ cs.drop c := by subst h; rw [← List.drop_drop]; exact (List.take_append_drop b _).symm
theorem at_some {α : Type} {xs : List α} {n : Nat} (i : Nat) (h : xs.length = n) (hi : i < n) : ∃ y, xs[i]? = some y := ⟨xs[i], List.getElem?_eq_getElem (by omega)⟩
section
variable {H : Type} {enc : TypeId × Value → H} {W : World} {held : Bool} {fuel : Nat} {cs : List Value} {x : DataW H × List MemPlace}
theorem int_c (h : DataW.trod enc Tryz.prog W 0 (fun _ => true) held fuel 3 cs = some x) : ∃ n, cs = [nu n] ∧ I64 n := by
  obtain ⟨n, e, -, hw⟩ := DataW.trod_int Tryz.underlying3 h
  exact ⟨n, e, bounds_i64 hw⟩
theorem str_c (h : DataW.trod enc Tryz.prog W 0 (fun _ => true) held fuel 9 cs = some x) : ∃ s : List UInt8, cs = [st s] := by
  obtain ⟨A, e, -, -⟩ := DataW.trod_string Tryz.underlying9 h
  exact ⟨A.data.toList, by rw [e]⟩
theorem dig_c (h : DataW.trod enc Tryz.prog W 0 (fun _ => true) held fuel 23 cs = some x) : ∃ l : List UInt8, cs = dg l ∧ l.length = 32 := by
  obtain ⟨xs, m, _, hx, hlen, hxl, hat⟩ := DataW.trod_array Tryz.underlying23 h
  rw [cells_dig] at hlen
  rw [cells_byt] at hat
  obtain ⟨l, hl, hcs⟩ := bytes_list cs (fun i hi => by
    have h1 := hat i (by omega)
    cases hq : xs[i]? with
    | none => rw [List.getElem?_eq_none_iff] at hq; omega
    | some x =>
      rw [hq] at h1
      obtain ⟨n, hn, -, hw⟩ := DataW.trod_int Tryz.underlying5 h1
      have h2 : cs[i]? = some (.int .u8 n) := by
        have := congrArg (·[0]?) hn
        simpa [List.getElem?_take, List.getElem?_drop] using this
      exact ⟨n, h2, bounds_u8 hw⟩)
  exact ⟨l, hcs, by omega⟩
theorem ints_c (h : DataW.trod enc Tryz.prog W 0 (fun _ => true) held fuel 31 cs = some x) : ∃ v ks, cs = [v] ∧ IntsAt W v ks ∧ (∀ n ∈ ks, I64 n) ∧ ks.length ≤ 9223372036854775807 := by
  rcases open_ints Tryz.underlying31 Tryz.underlying3 cells_int h with ⟨rfl, -⟩ | ⟨a, len, cap, zs, rfl, _, hl, hcm, hz, hk, hcell, hwf⟩
  · exact ⟨_, [], rfl, IntsAt.nil W, (fun n hn => by cases hn), Nat.zero_le _⟩
  · simp only [if_true] at hz
    have hlen : (zs.take len).length = len := by rw [List.length_take]; omega
    refine ⟨_, zs.take len, rfl, ⟨some a, cap, by rw [hlen], fun hne => ?_⟩, fun n hn => bounds_i64 (hwf n (List.mem_of_mem_take hn)), ?_⟩
    · have hpos : 0 < len := by
        rcases Nat.eq_zero_or_pos len with e | e
        · subst e; simp at hne
        · exact e
      obtain ⟨b, off, spot⟩ := a
      have hspot : spot = none := by simpa [Addr.add] using World.cell?_spot (hcell 0 (by omega))
      subst hspot
      refine ⟨b, off, rfl, fun j hj => ?_⟩
      rw [hlen] at hj
      have h9 := hcell j (by omega)
      rw [Go.WideShapes.add_plain] at h9
      rw [h9]
      have e : (zs.take len).getD j 0 = zs.getD j 0 := by simp [List.getD, hj]
      rw [e]
    · rw [hlen]
      have : cap ≤ 9223372036854775807 := hcm
      omega
theorem sub_c (h : DataW.trod enc Tryz.prog W 0 (fun _ => true) held fuel 25 cs = some x) : ∃ y : Sub, cs = subC y ∧ y.Wf ∧ SubRng y := by
  obtain ⟨xs, n, _, _, hl, hlen, hfs⟩ := DataW.trod_struct Tryz.underlying25 h
  rw [cells_sub] at hl
  have hxl : xs.length = 6 := hlen
  have g0 : DataW.trod enc Tryz.prog W 0 (fun _ => true) held n 3 ((cs.drop 0).take (Tryz.prog.cellsOf 3)) = xs[0]? := hfs 0 _ rfl
  rw [cells_int] at g0
  obtain ⟨y0, hy0⟩ := at_some 0 hxl (by decide)
  rw [hy0] at g0
  obtain ⟨a0, e0, b0⟩ := int_c g0
  have g1 : DataW.trod enc Tryz.prog W 0 (fun _ => true) held n 3 ((cs.drop 1).take (Tryz.prog.cellsOf 3)) = xs[1]? := hfs 1 _ rfl
  rw [cells_int] at g1
  obtain ⟨y1, hy1⟩ := at_some 1 hxl (by decide)
  rw [hy1] at g1
  obtain ⟨a1, e1, b1⟩ := int_c g1
  have g2 : DataW.trod enc Tryz.prog W 0 (fun _ => true) held n 3 ((cs.drop 2).take (Tryz.prog.cellsOf 3)) = xs[2]? := hfs 2 _ rfl
  rw [cells_int] at g2
  obtain ⟨y2, hy2⟩ := at_some 2 hxl (by decide)
  rw [hy2] at g2
  obtain ⟨a2, e2, b2⟩ := int_c g2
  have g3 : DataW.trod enc Tryz.prog W 0 (fun _ => true) held n 9 ((cs.drop 3).take (Tryz.prog.cellsOf 9)) = xs[3]? := hfs 3 _ rfl
  rw [cells_str] at g3
  obtain ⟨y3, hy3⟩ := at_some 3 hxl (by decide)
  rw [hy3] at g3
  obtain ⟨a3, e3⟩ := str_c g3
  have g4 : DataW.trod enc Tryz.prog W 0 (fun _ => true) held n 23 ((cs.drop 4).take (Tryz.prog.cellsOf 23)) = xs[4]? := hfs 4 _ rfl
  rw [cells_dig] at g4
  obtain ⟨y4, hy4⟩ := at_some 4 hxl (by decide)
  rw [hy4] at g4
  obtain ⟨a4, e4, b4⟩ := dig_c g4
  have g5 : DataW.trod enc Tryz.prog W 0 (fun _ => true) held n 23 ((cs.drop 36).take (Tryz.prog.cellsOf 23)) = xs[5]? := hfs 5 _ rfl
  rw [cells_dig] at g5
  obtain ⟨y5, hy5⟩ := at_some 5 hxl (by decide)
  rw [hy5] at g5
  obtain ⟨a5, e5, b5⟩ := dig_c g5
  have hcs : cs = [nu a0] ++ ([nu a1] ++ ([nu a2] ++ ([st a3] ++ (dg a4 ++ (dg a5 ++ []))))) := (stp cs 0 1 1 rfl).trans (congr (congrArg HAppend.hAppend e0) ((stp cs 1 1 2 rfl).trans (congr (congrArg HAppend.hAppend e1) ((stp cs 2 1 3 rfl).trans (congr (congrArg HAppend.hAppend e2) ((stp cs 3 1 4 rfl).trans (congr (congrArg HAppend.hAppend e3) ((stp cs 4 32 36 rfl).trans (congr (congrArg HAppend.hAppend e4) ((stp cs 36 32 68 rfl).trans (congr (congrArg HAppend.hAppend e5) (List.drop_eq_nil_of_le (by omega)))))))))))))
  refine ⟨⟨a0, a1, a2, a3, a4, a5⟩, ?_, ⟨b4, b5⟩, ⟨b0, b1, b2⟩⟩
  rw [hcs]; simp [subC]
theorem pen_c (h : DataW.trod enc Tryz.prog W 0 (fun _ => true) held fuel 109 cs = some x) : ∃ y : Pen, cs = penC y ∧ penOk y := by
  obtain ⟨xs, n, _, _, hl, hlen, hfs⟩ := DataW.trod_struct Tryz.underlying109 h
  rw [cells_pen] at hl
  have hxl : xs.length = 6 := hlen
  have g0 : DataW.trod enc Tryz.prog W 0 (fun _ => true) held n 3 ((cs.drop 0).take (Tryz.prog.cellsOf 3)) = xs[0]? := hfs 0 _ rfl
  rw [cells_int] at g0
  obtain ⟨y0, hy0⟩ := at_some 0 hxl (by decide)
  rw [hy0] at g0
  obtain ⟨a0, e0, b0⟩ := int_c g0
  have g1 : DataW.trod enc Tryz.prog W 0 (fun _ => true) held n 3 ((cs.drop 1).take (Tryz.prog.cellsOf 3)) = xs[1]? := hfs 1 _ rfl
  rw [cells_int] at g1
  obtain ⟨y1, hy1⟩ := at_some 1 hxl (by decide)
  rw [hy1] at g1
  obtain ⟨a1, e1, b1⟩ := int_c g1
  have g2 : DataW.trod enc Tryz.prog W 0 (fun _ => true) held n 3 ((cs.drop 2).take (Tryz.prog.cellsOf 3)) = xs[2]? := hfs 2 _ rfl
  rw [cells_int] at g2
  obtain ⟨y2, hy2⟩ := at_some 2 hxl (by decide)
  rw [hy2] at g2
  obtain ⟨a2, e2, b2⟩ := int_c g2
  have g3 : DataW.trod enc Tryz.prog W 0 (fun _ => true) held n 3 ((cs.drop 3).take (Tryz.prog.cellsOf 3)) = xs[3]? := hfs 3 _ rfl
  rw [cells_int] at g3
  obtain ⟨y3, hy3⟩ := at_some 3 hxl (by decide)
  rw [hy3] at g3
  obtain ⟨a3, e3, b3⟩ := int_c g3
  have g4 : DataW.trod enc Tryz.prog W 0 (fun _ => true) held n 23 ((cs.drop 4).take (Tryz.prog.cellsOf 23)) = xs[4]? := hfs 4 _ rfl
  rw [cells_dig] at g4
  obtain ⟨y4, hy4⟩ := at_some 4 hxl (by decide)
  rw [hy4] at g4
  obtain ⟨a4, e4, b4⟩ := dig_c g4
  have g5 : DataW.trod enc Tryz.prog W 0 (fun _ => true) held n 23 ((cs.drop 36).take (Tryz.prog.cellsOf 23)) = xs[5]? := hfs 5 _ rfl
  rw [cells_dig] at g5
  obtain ⟨y5, hy5⟩ := at_some 5 hxl (by decide)
  rw [hy5] at g5
  obtain ⟨a5, e5, b5⟩ := dig_c g5
  have hcs : cs = [nu a0] ++ ([nu a1] ++ ([nu a2] ++ ([nu a3] ++ (dg a4 ++ (dg a5 ++ []))))) := (stp cs 0 1 1 rfl).trans (congr (congrArg HAppend.hAppend e0) ((stp cs 1 1 2 rfl).trans (congr (congrArg HAppend.hAppend e1) ((stp cs 2 1 3 rfl).trans (congr (congrArg HAppend.hAppend e2) ((stp cs 3 1 4 rfl).trans (congr (congrArg HAppend.hAppend e3) ((stp cs 4 32 36 rfl).trans (congr (congrArg HAppend.hAppend e4) ((stp cs 36 32 68 rfl).trans (congr (congrArg HAppend.hAppend e5) (List.drop_eq_nil_of_le (by omega)))))))))))))
  refine ⟨⟨a0, a1, a2, a3, a4, a5⟩, ?_, ⟨b0, b1, b2, b3, b4, b5⟩⟩
  rw [hcs]; simp [penC]
theorem blo_c (h : DataW.trod enc Tryz.prog W 0 (fun _ => true) held fuel 30 cs = some x) : ∃ y : Blo, cs = bloC y ∧ y.Wf ∧ (I64 y.owner ∧ I64 y.number) := by
  obtain ⟨xs, n, _, _, hl, hlen, hfs⟩ := DataW.trod_struct Tryz.underlying30 h
  rw [cells_blo] at hl
  have hxl : xs.length = 4 := hlen
  have g0 : DataW.trod enc Tryz.prog W 0 (fun _ => true) held n 3 ((cs.drop 0).take (Tryz.prog.cellsOf 3)) = xs[0]? := hfs 0 _ rfl
  rw [cells_int] at g0
  obtain ⟨y0, hy0⟩ := at_some 0 hxl (by decide)
  rw [hy0] at g0
  obtain ⟨a0, e0, b0⟩ := int_c g0
  have g1 : DataW.trod enc Tryz.prog W 0 (fun _ => true) held n 3 ((cs.drop 1).take (Tryz.prog.cellsOf 3)) = xs[1]? := hfs 1 _ rfl
  rw [cells_int] at g1
  obtain ⟨y1, hy1⟩ := at_some 1 hxl (by decide)
  rw [hy1] at g1
  obtain ⟨a1, e1, b1⟩ := int_c g1
  have g2 : DataW.trod enc Tryz.prog W 0 (fun _ => true) held n 9 ((cs.drop 2).take (Tryz.prog.cellsOf 9)) = xs[2]? := hfs 2 _ rfl
  rw [cells_str] at g2
  obtain ⟨y2, hy2⟩ := at_some 2 hxl (by decide)
  rw [hy2] at g2
  obtain ⟨a2, e2⟩ := str_c g2
  have g3 : DataW.trod enc Tryz.prog W 0 (fun _ => true) held n 23 ((cs.drop 3).take (Tryz.prog.cellsOf 23)) = xs[3]? := hfs 3 _ rfl
  rw [cells_dig] at g3
  obtain ⟨y3, hy3⟩ := at_some 3 hxl (by decide)
  rw [hy3] at g3
  obtain ⟨a3, e3, b3⟩ := dig_c g3
  have hcs : cs = [nu a0] ++ ([nu a1] ++ ([st a2] ++ (dg a3 ++ []))) := (stp cs 0 1 1 rfl).trans (congr (congrArg HAppend.hAppend e0) ((stp cs 1 1 2 rfl).trans (congr (congrArg HAppend.hAppend e1) ((stp cs 2 1 3 rfl).trans (congr (congrArg HAppend.hAppend e2) ((stp cs 3 32 35 rfl).trans (congr (congrArg HAppend.hAppend e3) (List.drop_eq_nil_of_le (by omega)))))))))
  refine ⟨⟨a0, a1, a2, a3⟩, ?_, ⟨b3⟩, b0, b1⟩
  rw [hcs]; simp [bloC]
theorem pens_build (a : Addr) : ∀ (n : Nat), (∀ j, j < n → ∃ y : Pen, penOk y ∧ ∀ i c, (penC y)[i]? = some c → W.cell? ((a.add (j * 68)).add i) = some c) → ∃ ps : List Pen, ps.length = n ∧ (∀ p ∈ ps, penOk p) ∧ ∀ j, j < n → ∀ i c, (penC (ps.getD j noPen))[i]? = some c → W.cell? ((a.add (j * 68)).add i) = some c
  | 0, _ => ⟨[], rfl, (fun p hp => by cases hp), fun j hj => absurd hj (Nat.not_lt_zero j)⟩
  | n + 1, h => by
    obtain ⟨ps, h1, h2, h3⟩ := pens_build a n (fun j hj => h j (by omega))
    obtain ⟨y, hy, hc⟩ := h n (by omega)
    refine ⟨ps ++ [y], by simp [h1], ?_, fun j hj => ?_⟩
    · intro p hp
      rcases List.mem_append.1 hp with hp | hp
      · exact h2 p hp
      · simp at hp; subst hp; exact hy
    · by_cases e : j = n
      · subst e
        have : (ps ++ [y]).getD j noPen = y := by simp [List.getD, ← h1]
        rw [this]
        exact hc
      · have : (ps ++ [y]).getD j noPen = ps.getD j noPen := by simp [List.getD, List.getElem?_append_left (by omega : j < ps.length)]
        rw [this]
        exact h3 j (by omega)
theorem pens_c (h : DataW.trod enc Tryz.prog W 0 (fun _ => true) held fuel 26 cs = some x) : ∃ v ps, cs = [v] ∧ PensAt W v ps ∧ (∀ p ∈ ps, penOk p) ∧ ps.length ≤ 9223372036854775807 := by
  rcases Go.Deep.open_slice Tryz.underlying26 h with ⟨hcs, hx⟩ | ⟨a, len, cap, m, n, Df, Pf, hcs, hb, hl, hm, hmm, hx, hat⟩
  · exact ⟨_, [], hcs, PensAt.nil W, (fun n hn => by cases hn), Nat.zero_le _⟩
  · simp only [if_true] at hmm
    subst hmm
    obtain ⟨ps, p1, p2, p3⟩ := pens_build (W := W) a len (fun j hj => by
      obtain ⟨cs', hcs', ht⟩ := hat j (by omega)
      rw [cells_pen] at hcs'
      obtain ⟨y, rfl, hy⟩ := pen_c ht
      refine ⟨y, hy, fun i c hi => ?_⟩
      have h0 := (World.cells?_some hcs').2.2 i (by have := (List.getElem?_eq_some_iff.1 hi).1; have := penC_len (wf_of_ok hy); omega)
      rw [hi] at h0
      exact h0)
    refine ⟨_, ps, hcs, ⟨some a, m, by rw [p1], fun hne => ?_⟩, p2, ?_⟩
    · have hpos : 0 < len := by
        rcases Nat.eq_zero_or_pos len with e | e
        · exact absurd (List.length_eq_zero_iff.1 (p1.trans e)) hne
        · exact e
      obtain ⟨b, off, spot⟩ := a
      have hw0 := getD_wf (fun p hp => wf_of_ok (p2 p hp)) 0 (by omega)
      have h00 := p3 0 hpos 0 (nu (ps.getD 0 noPen).client) rfl
      have hspot : spot = none := by simpa [Addr.add] using World.cell?_spot h00
      subst hspot
      refine ⟨b, off, rfl, fun j hj i c hi => ?_⟩
      rw [p1] at hj
      have h9 := p3 j hj i c hi
      rw [Go.WideShapes.add_plain, Go.WideShapes.add_plain] at h9
      exact h9
    · rw [p1]
      have : m ≤ 9223372036854775807 := hm
      omega
theorem rep_c (h : DataW.trod enc Tryz.prog W 0 (fun _ => true) held fuel 28 cs = some x) : ∃ (y : Rep) (vP : Value), cs = repC y vP ∧ y.Wf ∧ (I64 y.number ∧ I64 y.last ∧ I64 y.vnum ∧ ∀ p ∈ y.pend, penOk p) ∧ PensAt W vP y.pend ∧ y.pend.length ≤ 9223372036854775807 := by
  obtain ⟨xs, n, _, _, hl, hlen, hfs⟩ := DataW.trod_struct Tryz.underlying28 h
  rw [cells_rep] at hl
  have hxl : xs.length = 10 := hlen
  have g0 : DataW.trod enc Tryz.prog W 0 (fun _ => true) held n 3 ((cs.drop 0).take (Tryz.prog.cellsOf 3)) = xs[0]? := hfs 0 _ rfl
  rw [cells_int] at g0
  obtain ⟨y0, hy0⟩ := at_some 0 hxl (by decide)
  rw [hy0] at g0
  obtain ⟨a0, e0, b0⟩ := int_c g0
  have g1 : DataW.trod enc Tryz.prog W 0 (fun _ => true) held n 3 ((cs.drop 1).take (Tryz.prog.cellsOf 3)) = xs[1]? := hfs 1 _ rfl
  rw [cells_int] at g1
  obtain ⟨y1, hy1⟩ := at_some 1 hxl (by decide)
  rw [hy1] at g1
  obtain ⟨a1, e1, b1⟩ := int_c g1
  have g2 : DataW.trod enc Tryz.prog W 0 (fun _ => true) held n 9 ((cs.drop 2).take (Tryz.prog.cellsOf 9)) = xs[2]? := hfs 2 _ rfl
  rw [cells_str] at g2
  obtain ⟨y2, hy2⟩ := at_some 2 hxl (by decide)
  rw [hy2] at g2
  obtain ⟨a2, e2⟩ := str_c g2
  have g3 : DataW.trod enc Tryz.prog W 0 (fun _ => true) held n 23 ((cs.drop 3).take (Tryz.prog.cellsOf 23)) = xs[3]? := hfs 3 _ rfl
  rw [cells_dig] at g3
  obtain ⟨y3, hy3⟩ := at_some 3 hxl (by decide)
  rw [hy3] at g3
  obtain ⟨a3, e3, b3⟩ := dig_c g3
  have g4 : DataW.trod enc Tryz.prog W 0 (fun _ => true) held n 26 ((cs.drop 35).take (Tryz.prog.cellsOf 26)) = xs[4]? := hfs 4 _ rfl
  rw [cells_pens] at g4
  obtain ⟨y4, hy4⟩ := at_some 4 hxl (by decide)
  rw [hy4] at g4
  obtain ⟨v4, a4, e4, b4, r4, l4⟩ := pens_c g4
  have g5 : DataW.trod enc Tryz.prog W 0 (fun _ => true) held n 3 ((cs.drop 36).take (Tryz.prog.cellsOf 3)) = xs[5]? := hfs 5 _ rfl
  rw [cells_int] at g5
  obtain ⟨y5, hy5⟩ := at_some 5 hxl (by decide)
  rw [hy5] at g5
  obtain ⟨a5, e5, b5⟩ := int_c g5
  have g6 : DataW.trod enc Tryz.prog W 0 (fun _ => true) held n 9 ((cs.drop 37).take (Tryz.prog.cellsOf 9)) = xs[6]? := hfs 6 _ rfl
  rw [cells_str] at g6
  obtain ⟨y6, hy6⟩ := at_some 6 hxl (by decide)
  rw [hy6] at g6
  obtain ⟨a6, e6⟩ := str_c g6
  have g7 : DataW.trod enc Tryz.prog W 0 (fun _ => true) held n 23 ((cs.drop 38).take (Tryz.prog.cellsOf 23)) = xs[7]? := hfs 7 _ rfl
  rw [cells_dig] at g7
  obtain ⟨y7, hy7⟩ := at_some 7 hxl (by decide)
  rw [hy7] at g7
  obtain ⟨a7, e7, b7⟩ := dig_c g7
  have g8 : DataW.trod enc Tryz.prog W 0 (fun _ => true) held n 9 ((cs.drop 70).take (Tryz.prog.cellsOf 9)) = xs[8]? := hfs 8 _ rfl
  rw [cells_str] at g8
  obtain ⟨y8, hy8⟩ := at_some 8 hxl (by decide)
  rw [hy8] at g8
  obtain ⟨a8, e8⟩ := str_c g8
  have g9 : DataW.trod enc Tryz.prog W 0 (fun _ => true) held n 23 ((cs.drop 71).take (Tryz.prog.cellsOf 23)) = xs[9]? := hfs 9 _ rfl
  rw [cells_dig] at g9
  obtain ⟨y9, hy9⟩ := at_some 9 hxl (by decide)
  rw [hy9] at g9
  obtain ⟨a9, e9, b9⟩ := dig_c g9
  have hcs : cs = [nu a0] ++ ([nu a1] ++ ([st a2] ++ (dg a3 ++ ([v4] ++ ([nu a5] ++ ([st a6] ++ (dg a7 ++ ([st a8] ++ (dg a9 ++ []))))))))) := (stp cs 0 1 1 rfl).trans (congr (congrArg HAppend.hAppend e0) ((stp cs 1 1 2 rfl).trans (congr (congrArg HAppend.hAppend e1) ((stp cs 2 1 3 rfl).trans (congr (congrArg HAppend.hAppend e2) ((stp cs 3 32 35 rfl).trans (congr (congrArg HAppend.hAppend e3) ((stp cs 35 1 36 rfl).trans (congr (congrArg HAppend.hAppend e4) ((stp cs 36 1 37 rfl).trans (congr (congrArg HAppend.hAppend e5) ((stp cs 37 1 38 rfl).trans (congr (congrArg HAppend.hAppend e6) ((stp cs 38 32 70 rfl).trans (congr (congrArg HAppend.hAppend e7) ((stp cs 70 1 71 rfl).trans (congr (congrArg HAppend.hAppend e8) ((stp cs 71 32 103 rfl).trans (congr (congrArg HAppend.hAppend e9) (List.drop_eq_nil_of_le (by omega)))))))))))))))))))))
  refine ⟨⟨a0, a1, a2, a3, a4, a5, a6, a7, a8, a9⟩, v4, ?_, ⟨b3, b7, b9, fun p hp => wf_of_ok (r4 p hp)⟩, ⟨b0, b1, b5, r4⟩, b4, l4⟩
  rw [hcs]; simp [repC]
theorem msg_c (h : DataW.trod enc Tryz.prog W 0 (fun _ => true) held fuel 33 cs = some x) : ∃ (m : Msg) (vP vN : Value), cs = msgC m vP vN ∧ m.Wf ∧ m.Rng ∧ PensAt W vP m.rep.pend ∧ IntsAt W vN m.nums ∧ Lens m := by
  obtain ⟨xs, n, _, _, hl, hlen, hfs⟩ := DataW.trod_struct Tryz.underlying33 h
  rw [cells_msg] at hl
  have hxl : xs.length = 10 := hlen
  have g0 : DataW.trod enc Tryz.prog W 0 (fun _ => true) held n 3 ((cs.drop 0).take (Tryz.prog.cellsOf 3)) = xs[0]? := hfs 0 _ rfl
  rw [cells_int] at g0
  obtain ⟨y0, hy0⟩ := at_some 0 hxl (by decide)
  rw [hy0] at g0
  obtain ⟨a0, e0, b0⟩ := int_c g0
  have g1 : DataW.trod enc Tryz.prog W 0 (fun _ => true) held n 3 ((cs.drop 1).take (Tryz.prog.cellsOf 3)) = xs[1]? := hfs 1 _ rfl
  rw [cells_int] at g1
  obtain ⟨y1, hy1⟩ := at_some 1 hxl (by decide)
  rw [hy1] at g1
  obtain ⟨a1, e1, b1⟩ := int_c g1
  have g2 : DataW.trod enc Tryz.prog W 0 (fun _ => true) held n 25 ((cs.drop 2).take (Tryz.prog.cellsOf 25)) = xs[2]? := hfs 2 _ rfl
  rw [cells_sub] at g2
  obtain ⟨y2, hy2⟩ := at_some 2 hxl (by decide)
  rw [hy2] at g2
  obtain ⟨a2, e2, b2, r2⟩ := sub_c g2
  have g3 : DataW.trod enc Tryz.prog W 0 (fun _ => true) held n 28 ((cs.drop 70).take (Tryz.prog.cellsOf 28)) = xs[3]? := hfs 3 _ rfl
  rw [cells_rep] at g3
  obtain ⟨y3, hy3⟩ := at_some 3 hxl (by decide)
  rw [hy3] at g3
  obtain ⟨a3, v3, e3, b3, r3, p3, l3⟩ := rep_c g3
  have g4 : DataW.trod enc Tryz.prog W 0 (fun _ => true) held n 9 ((cs.drop 173).take (Tryz.prog.cellsOf 9)) = xs[4]? := hfs 4 _ rfl
  rw [cells_str] at g4
  obtain ⟨y4, hy4⟩ := at_some 4 hxl (by decide)
  rw [hy4] at g4
  obtain ⟨a4, e4⟩ := str_c g4
  have g5 : DataW.trod enc Tryz.prog W 0 (fun _ => true) held n 3 ((cs.drop 174).take (Tryz.prog.cellsOf 3)) = xs[5]? := hfs 5 _ rfl
  rw [cells_int] at g5
  obtain ⟨y5, hy5⟩ := at_some 5 hxl (by decide)
  rw [hy5] at g5
  obtain ⟨a5, e5, b5⟩ := int_c g5
  have g6 : DataW.trod enc Tryz.prog W 0 (fun _ => true) held n 23 ((cs.drop 175).take (Tryz.prog.cellsOf 23)) = xs[6]? := hfs 6 _ rfl
  rw [cells_dig] at g6
  obtain ⟨y6, hy6⟩ := at_some 6 hxl (by decide)
  rw [hy6] at g6
  obtain ⟨a6, e6, b6⟩ := dig_c g6
  have g7 : DataW.trod enc Tryz.prog W 0 (fun _ => true) held n 23 ((cs.drop 207).take (Tryz.prog.cellsOf 23)) = xs[7]? := hfs 7 _ rfl
  rw [cells_dig] at g7
  obtain ⟨y7, hy7⟩ := at_some 7 hxl (by decide)
  rw [hy7] at g7
  obtain ⟨a7, e7, b7⟩ := dig_c g7
  have g8 : DataW.trod enc Tryz.prog W 0 (fun _ => true) held n 30 ((cs.drop 239).take (Tryz.prog.cellsOf 30)) = xs[8]? := hfs 8 _ rfl
  rw [cells_blo] at g8
  obtain ⟨y8, hy8⟩ := at_some 8 hxl (by decide)
  rw [hy8] at g8
  obtain ⟨a8, e8, b8, r8⟩ := blo_c g8
  have g9 : DataW.trod enc Tryz.prog W 0 (fun _ => true) held n 31 ((cs.drop 274).take (Tryz.prog.cellsOf 31)) = xs[9]? := hfs 9 _ rfl
  rw [cells_ints] at g9
  obtain ⟨y9, hy9⟩ := at_some 9 hxl (by decide)
  rw [hy9] at g9
  obtain ⟨v9, a9, e9, b9, r9, l9⟩ := ints_c g9
  have hcs : cs = [nu a0] ++ ([nu a1] ++ (subC a2 ++ (repC a3 v3 ++ ([st a4] ++ ([nu a5] ++ (dg a6 ++ (dg a7 ++ (bloC a8 ++ ([v9] ++ []))))))))) := (stp cs 0 1 1 rfl).trans (congr (congrArg HAppend.hAppend e0) ((stp cs 1 1 2 rfl).trans (congr (congrArg HAppend.hAppend e1) ((stp cs 2 68 70 rfl).trans (congr (congrArg HAppend.hAppend e2) ((stp cs 70 103 173 rfl).trans (congr (congrArg HAppend.hAppend e3) ((stp cs 173 1 174 rfl).trans (congr (congrArg HAppend.hAppend e4) ((stp cs 174 1 175 rfl).trans (congr (congrArg HAppend.hAppend e5) ((stp cs 175 32 207 rfl).trans (congr (congrArg HAppend.hAppend e6) ((stp cs 207 32 239 rfl).trans (congr (congrArg HAppend.hAppend e7) ((stp cs 239 35 274 rfl).trans (congr (congrArg HAppend.hAppend e8) ((stp cs 274 1 275 rfl).trans (congr (congrArg HAppend.hAppend e9) (List.drop_eq_nil_of_le (by omega)))))))))))))))))))))
  refine ⟨⟨a0, a1, a2, a3, a4, a5, a6, a7, a8, a9⟩, v3, v9, ?_, ⟨b2, b3, b6, b7, b8⟩, ⟨b0, b1, r2.n, r2.k, r2.t, r3.1, r3.2.1, r3.2.2.1, b5, r8.1, r8.2, r9, r3.2.2.2⟩, p3, b9, l3, l9⟩
  rw [hcs]; simp [msgC]
theorem sixC_def : True := trivial
end
section
variable {H : Type} {enc : TypeId × Value → H} {W : World} {v : Value} {d : DataW H} {p : List MemPlace}
theorem agg_of {v : Value} {l : List Value} (h : v.cells.toList = l) (hl : 1 < l.length) : v = .agg l.toArray := by
  cases v with
  | agg cs => simp only [Value.cells] at h; rw [← h, Array.toArray_toList]
  | _ => simp [Value.cells] at h; subst h; simp at hl
theorem open_sub (h : DataW.Trod enc Tryz.prog W 0 (fun _ => true) true 25 v d p) : ∃ y : Sub, v = .agg (subC y).toArray ∧ y.Wf ∧ SubRng y := by
  obtain ⟨fuel, hf⟩ := h
  obtain ⟨y, hc, h1, h2⟩ := sub_c hf
  exact ⟨y, agg_of hc (by rw [subC_len h1]; decide), h1, h2⟩
theorem open_msg (h : DataW.Trod enc Tryz.prog W 0 (fun _ => true) true 33 v d p) : ∃ (m : Msg) (vP vN : Value), v = .agg (msgC m vP vN).toArray ∧ m.Wf ∧ m.Rng ∧ PensAt W vP m.rep.pend ∧ IntsAt W vN m.nums ∧ Lens m := by
  obtain ⟨fuel, hf⟩ := h
  obtain ⟨m, vP, vN, hc, h1, h2, h3, h4, h5⟩ := msg_c hf
  exact ⟨m, vP, vN, agg_of hc (by rw [msgC_len h1]; decide), h1, h2, h3, h4, h5⟩
end
end Go.Proofs.YtpnnibddjopniaaGreatDoor.Ms

/-
  What the laid variables give the walks, and a start in which they lie so.
-/
namespace Go.Proofs.YtpnnibddjopniaaGreatDoor
open Go.ChangeShapes Go.WideShapes Go.ChangeAt Go.WideMaps Go.WideElems Go.RowKit

def laidAll : List (String × DataW Unit) := [("math/bits.deBruijn32tab", Rows.laid_math_bits_deBruijn32tab), ("math/bits.deBruijn64tab", Rows.laid_math_bits_deBruijn64tab), ("internal/strconv.uint64pow10", Rows.laid_internal_strconv_uint64pow10), ("strconv.ErrRange", Rows.laid_strconv_ErrRange), ("strconv.ErrSyntax", Rows.laid_strconv_ErrSyntax)]

theorem own : ownKnob Tryz.prog.godebug = none := by kernel_rfl
theorem tPow : (Tryz.prog.globals[2]?).map (·.type) = some 184 := by kernel_rfl
theorem tRange : (Tryz.prog.globals[1]?).map (·.type) = some 93 := by kernel_rfl
theorem door_met (os : Os) (args : Array Value) : laidMetH Tryz.prog laidAll ((World.doorLaid Tryz.prog 62 os).forCall (fun _ _ => 0) ⟨#[], args, []⟩).memory :=
  laidMetH_of_parts3 (fuel := 8) (laidMet_of_run' 8 (by kernel_rfl) (by kernel_rfl)) (by kernel_rfl) (by kernel_rfl)

theorem cells162 : Tryz.prog.cellsOf 162 = 1 := by kernel_rfl
theorem cells184 : Tryz.prog.cellsOf 184 = 20 := by kernel_rfl
theorem cells192 : Tryz.prog.cellsOf 192 = 1 := by kernel_rfl
theorem cells9 : Tryz.prog.cellsOf 9 = 1 := by kernel_rfl
theorem star : "*" ++ "errors.errorString" = "*errors.errorString" := by decide
theorem row190 (u : TypeId) (h : Tryz.prog.typeName? 3 u = some "*errors.errorString") : u = 190 :=
  typeName_ptr_named (nm := "errors.errorString") (by rw [star]; kernel_rfl) (by kernel_rfl) (by decide) u (by rw [star]; exact h)
theorem powData : (Rows.laid_internal_strconv_uint64pow10 : DataW Unit) = Lib.tabData .u64 Lib.pow10Tab := by kernel_rfl

theorem tabs_of_laid {W : World} (h : laidMetH Tryz.prog laidAll W) : Lay.Tabs W := by
  rw [MakeChecks.laidMetH_plain _ _ _ (by kernel_rfl)] at h
  have h2 := h.tail.tail
  rw [powData] at h2
  obtain ⟨a, s, hv, -, -, -⟩ := laid_sentinel h.tail.tail.tail Lay.gRange tRange Tryz.underlying93 row190 Tryz.underlying190 Tryz.underlying192 rfl rfl Tryz.underlying9 cells192 cells9
  exact ⟨Lib.tabIs_of_head Lay.gPow tPow Tryz.underlying184 Tryz.underlying162 cells162 cells184 h2, _, _, hv⟩

end Go.Proofs.YtpnnibddjopniaaGreatDoor

/-
  MsgSame answers true at every input. The package variables that are listed hold what the program's text lays (the card ties them).
-/
namespace Go.Proofs.YtpnnibddjopniaaGreatDoor
open Go.ChangeShapes Go.WideShapes Go.ChangeAt Go.WideMaps Go.WideElems Go.RowKit
open Go.ChangeMaps (open_string shut_string)
set_option maxRecDepth 100000

theorem msgSame_lifted (os : Os) (started : os.Started) (H : Type) (enc : TypeId × Value → H) :
    ReturnsInHanded {} Tryz.checked os 6 .any (fun w args => (Rows.msgSameSpec.pre enc Tryz.prog Tryz.f6 [] false w args ∧ laidMetH Tryz.prog laidAll w) ∧ sizedMet enc Tryz.prog Tryz.f6 (OpenSpec.ofChange Rows.msgSameSpec) false w args)
      (Rows.msgSameSpec.post enc Tryz.prog Tryz.f6 false true false false) := by
  refine returnsInHanded_of_change_and (C := Tryz.checked) (X := fun w _ => laidMetH Tryz.prog laidAll w) (fun _ _ _ hh h => h.of_heap hh) own started (by kernel_rfl) Tryz.func6
    (ChangeSpec.witness_shaped (enc := enc) (C := Tryz.checked) (os := os) (X := fun w _ => laidMetH Tryz.prog laidAll w) false (World.doorLaid Tryz.prog 62 os) #[.agg (Ms.msgC (Ms.zeroM 0 0) (.slice none 0 0) (.slice none 0 0)).toArray, .agg (Ms.msgC (Ms.zeroM 0 0) (.slice none 0 0) (.slice none 0 0)).toArray] 8 rfl (World.shaped_of_RefB (by kernel_rfl) (by kernel_rfl)) (by kernel_rfl) (by kernel_rfl) (by kernel_rfl) (door_met os _)) ?_
  intro W base args ds gs before hval0 hW _ hsz hL _
  have hval : ∀ (j : Nat) t v, Tryz.f6.params[j]? = some t → args[j]? = some v → Value.okWide Tryz.prog W .any base t v := hval0
  have hW' := hW
  obtain ⟨p, q, hA0, hV, rfl, hfz, hnd⟩ := hW
  have hA : DataW.TrodAll enc Tryz.prog W 0 (fun _ => true) true Tryz.f6.params.toList args.toList ds p := hA0
  rw [Tryz.params6] at hA hval hsz
  obtain ⟨v0, v1, d0, d1, p0, p1, rfl, rfl, rfl, h0, h1⟩ := trodAll_two hA
  obtain ⟨rfl, rfl⟩ := trodVars_none hV
  obtain ⟨m0, vP0, vN0, rfl, hw0, hr0, hp0, hn0, hl0⟩ := Ms.open_msg h0
  obtain ⟨m1, vP1, vN1, rfl, hw1, hr1, hp1, hn1, hl1⟩ := Ms.open_msg h1
  clear hA0 hval0
  simp only [List.append_nil] at hW'
  have hlt : ∀ x ∈ p0 ++ p1, x.block < W.heap.size := fun x hx => by simpa using hW'.lt x (by simpa using hx)
  have hcall : Calls Tryz.prog 6 #[.agg (Ms.msgC m0 vP0 vN0).toArray, .agg (Ms.msgC m1 vP1 vN1).toArray] W fun e w' => e = .returned (.bool true) ∧ Below W.heap.size W w' := Ms.same_walk W (tabs_of_laid hL) m0 vP0 vN0 hw0 hp0 hn0 hl0 m1 vP1 vN1 hw1 hp1 hn1 hl1
  refine hcall.mono fun e W' ⟨he, hnx⟩ => ?_
  subst he
  refine ⟨_, rfl, _, _, _, [], p0 ++ p1, [], hW', ?_, ?_, rfl, hnx.frame _, fun h => by cases h⟩
  · exact trodAll_mk1 (shut_bool Tryz.underlying4 _)
  · exact trodAll_mk2 (Below.trod Ms.laidOut (by kernel_rfl) (of_decide_eq_true (by kernel_rfl)) h0 hnx (fun x hx => hlt x (by simp [hx]))) (Below.trod Ms.laidOut (by kernel_rfl) (of_decide_eq_true (by kernel_rfl)) h1 hnx (fun x hx => hlt x (by simp [hx])))

theorem msgSame_holds : Rows.MsgSameSaid :=
  OpenClaim.holds_of_wide 6 Tryz.f6 rfl rfl rfl rfl rfl rfl rfl ⟨rfl, rfl, rfl, rfl, rfl⟩ rfl rfl rfl rfl rfl (by kernel_rfl) Tryz.func6 (by kernel_rfl)
    (of_decide_eq_true (by kernel_rfl)) (by unfold Func.isWrapper; rw [if_neg (of_decide_eq_false (by kernel_rfl))]; exact ⟨rfl, rfl⟩)
    (fun os started H enc _ => msgSame_lifted os started H enc)

theorem msgSame_card : Rows.MsgSameCardSaid :=
  Claim7.holds_tied_plain_at .later [] [.data, .data, .data, .sentinel, .sentinel] true (true, "d107ac4eeac63466ab8e3b0cff98229e42e80e4660ebec269d88c8f14d6c8631") true
    msgSame_holds (fun _ h => by cases h) (by kernel_rfl) (fun _ h => by cases h) msgSame_row_tie rfl ⟨rfl, rfl⟩ (by kernel_rfl) rfl
    (fun f fn hf hfn => by
      obtain rfl : f = 6 := Option.some.inj ((show Tryz.prog.funcNamed "affidavit/affidavitlaw10.MsgSame" = some 6 by kernel_rfl).symm.trans hf) |>.symm
      obtain rfl : fn = Tryz.f6 := (Option.some.inj (Tryz.func6.symm.trans hfn)).symm
      exact ⟨by kernel_rfl, fun j t ht => by
        rw [Tryz.params6] at ht
        have hm : t ∈ [33, 33] := by simpa using Array.mem_of_getElem? ht
        have hall : ([33, 33].all fun u => !Tryz.prog.wantsStandIn u) = true := by kernel_rfl
        exact (show Tryz.prog.wantsStandIn t = false by simpa using List.all_eq_true.1 hall t hm)⟩)
    (by kernel_rfl)
#print axioms msgSame_card
end Go.Proofs.YtpnnibddjopniaaGreatDoor
