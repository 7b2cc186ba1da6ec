/-
  LayLays answers true at every text, every list of ints, every list of texts: lay.Text, lay.Numbers and lay.Texts lay them as the document's own bytes, or say that they are too big. The package variables of strconv and math/bits that are listed hold what the program's text lays (the card ties them).
-/
import Derived.Test.YtldhhbkdhcidcaaDoorLaid
import Derived.Test.YtldhhbkdhcidcaaDoorAll
import Derived.Test.YtldhhbkdhcidcaaDoorOpen
import Derived.Test.YtldhhbkdhcidcaaDoorCards
import Derived.Test.YtldhhbkdhcidcaaDoorTie
import Derived.SevenTiedAt
namespace Go.Proofs.YtldhhbkdhcidcaaDoor
open Go.ChangeShapes Go.WideShapes Go.ChangeAt Go.WideMaps Go.WideElems Go.RowKit
open Go.ChangeMaps (open_string shut_string)
set_option maxRecDepth 100000

set_option maxHeartbeats 1000000 in
theorem layLays_small (s : ByteArray) (a1 : Option Addr) (len1 cap1 : Nat) (zs : List Int) (a2 : Option Addr) (len2 cap2 : Nat) (Xs : List ByteArray) (w : World) (ht : Tabs w) (hi : IntsAt w a1 len1 zs) (hx : TextsAt w a2 len2 Xs)
    (hb1 : len1 ≤ 600) (hb2 : len2 ≤ 600) :
    Calls Tryd.prog 4 #[.string s, .slice a1 len1 cap1, .slice a2 len2 cap2] w fun e w' => e = .returned (.bool true) ∧ Below w.heap.size w w' := by
  have d1 : decide (600 < (len1 : Int)) = false := by simp; omega
  have d2 : decide (600 < (len2 : Int)) = false := by simp; omega
  go_enter Tryd.func4, Tryd.ntmps4
  go_wp2_with fail
  refine (text12 s _ ht).mono ?_
  rintro e w1 ⟨rfl, h1⟩
  have HB1 : Hid (Below w.heap.size w w1) := h1
  clear h1
  go_wp2_with fail
  refine (text13 s _).mono ?_
  rintro e w2 ⟨rfl, h2⟩
  have HB2 : Hid (Below w.heap.size w w2) := below_two HB1.out h2
  clear h2 HB1
  go_wp2_with fail
  refine (numbers14 a1 len1 cap1 zs _ (hi.stays HB2.out) (ht.stays HB2.out)).mono ?_
  rintro e w3 ⟨rfl, h3⟩
  have HB3 : Hid (Below w.heap.size w w3) := below_two HB2.out h3
  clear h3 HB2
  go_wp2_with fail
  refine (numbers15 a1 len1 cap1 zs _ (hi.stays HB3.out)).mono ?_
  rintro e w4 ⟨rfl, h4⟩
  have HB4 : Hid (Below w.heap.size w w4) := below_two HB3.out h4
  clear h4 HB3
  go_wp2_with fail
  refine (texts16 a2 len2 cap2 Xs _ (hx.stays HB4.out) (ht.stays HB4.out)).mono ?_
  rintro e w5 ⟨rfl, h5⟩
  have HB5 : Hid (Below w.heap.size w w5) := below_two HB4.out h5
  clear h5 HB4
  go_wp2_with fail
  refine (texts17 a2 len2 cap2 Xs _ (hx.stays HB5.out)).mono ?_
  rintro e w6 ⟨rfl, h6⟩
  have HB6 : Hid (Below w.heap.size w w6) := below_two HB5.out h6
  clear h6 HB5
  go_wp2_with fail
  refine (awake_any _ (ht.stays HB6.out)).mono ?_
  rintro e w7 ⟨rfl, h7⟩
  have HB7 : Hid (Below w.heap.size w w7) := below_two HB6.out h7
  clear h7 HB6
  go_wp2
  go_ret
  exact ⟨rfl, HB7.out⟩

set_option maxHeartbeats 1000000 in
theorem layLays_great (s : ByteArray) (a1 : Option Addr) (len1 cap1 : Nat) (a2 : Option Addr) (len2 cap2 : Nat) (w : World) (ht : Tabs w)
    (hb : 600 < len1 ∨ 600 < len2) :
    Calls Tryd.prog 4 #[.string s, .slice a1 len1 cap1, .slice a2 len2 cap2] w fun e w' => e = .returned (.bool true) ∧ Below w.heap.size w w' := by
  by_cases d0 : 600 < len1
  · have d1 : decide (600 < (len1 : Int)) = true := by simp; omega
    clear hb d0
    go_enter Tryd.func4, Tryd.ntmps4
    go_wp2_with fail
    refine (text12 s _ ht).mono ?_
    rintro e w1 ⟨rfl, h1⟩
    have HB1 : Hid (Below w.heap.size w w1) := h1
    clear h1
    go_wp2_with fail
    refine (text13 s _).mono ?_
    rintro e w2 ⟨rfl, h2⟩
    have HB2 : Hid (Below w.heap.size w w2) := below_two HB1.out h2
    clear h2 HB1
    go_wp2_with fail
    refine (awake_any _ (ht.stays HB2.out)).mono ?_
    rintro e w7 ⟨rfl, h7⟩
    have HB7 : Hid (Below w.heap.size w w7) := below_two HB2.out h7
    clear h7 HB2
    go_wp2
    go_ret
    exact ⟨rfl, HB7.out⟩
  · have d1 : decide (600 < (len1 : Int)) = false := by simp; omega
    have d2 : decide (600 < (len2 : Int)) = true := by simp; omega
    clear hb d0
    go_enter Tryd.func4, Tryd.ntmps4
    go_wp2_with fail
    refine (text12 s _ ht).mono ?_
    rintro e w1 ⟨rfl, h1⟩
    have HB1 : Hid (Below w.heap.size w w1) := h1
    clear h1
    go_wp2_with fail
    refine (text13 s _).mono ?_
    rintro e w2 ⟨rfl, h2⟩
    have HB2 : Hid (Below w.heap.size w w2) := below_two HB1.out h2
    clear h2 HB1
    go_wp2_with fail
    refine (awake_any _ (ht.stays HB2.out)).mono ?_
    rintro e w7 ⟨rfl, h7⟩
    have HB7 : Hid (Below w.heap.size w w7) := below_two HB2.out h7
    clear h7 HB2
    go_wp2
    go_ret
    exact ⟨rfl, HB7.out⟩

theorem layLays_lifted (os : Os) (started : os.Started) (H : Type) (enc : TypeId × Value → H) :
    ReturnsInHanded {} Tryd.checked os 4 .any (fun w args => (Rows.layLaysSpec.pre enc Tryd.prog Tryd.f4 [] false w args ∧ laidMetH Tryd.prog laid5 w) ∧ sizedMet enc Tryd.prog Tryd.f4 (OpenSpec.ofChange Rows.layLaysSpec) false w args)
      (Rows.layLaysSpec.post enc Tryd.prog Tryd.f4 false true false false) := by
  refine returnsInHanded_of_change_and (C := Tryd.checked) (X := fun w _ => laidMetH Tryd.prog laid5 w) (fun _ _ _ hh h => h.of_heap hh) own started (by kernel_rfl) Tryd.func4
    (ChangeSpec.witness_shaped (enc := enc) (C := Tryd.checked) (os := os) (X := fun w _ => laidMetH Tryd.prog laid5 w) false (World.doorLaid Tryd.prog 62 os) #[.string ⟨#[]⟩, .slice none 0 0, .slice none 0 0] 8 rfl (World.shaped_of_RefB (by kernel_rfl) (by kernel_rfl)) (by kernel_rfl) (by kernel_rfl) (by kernel_rfl) (door_met os _)) ?_
  intro W base args ds gs before hval0 hW _ _ hL _
  have hval : ∀ (j : Nat) t v, Tryd.f4.params[j]? = some t → args[j]? = some v → Value.okWide Tryd.prog W .any base t v := hval0
  have hW' := hW
  obtain ⟨p, q, hA0, hV, rfl, hfz, hnd⟩ := hW
  have hA : DataW.TrodAll enc Tryd.prog W 0 (fun _ => true) true Tryd.f4.params.toList args.toList ds p := hA0
  rw [Tryd.params4] at hA hval
  obtain ⟨v0, v1, v2, d0, d1, d2, p0, p1, p2, rfl, rfl, rfl, h0, h1, h2⟩ := trodAll_three hA
  obtain ⟨rfl, rfl⟩ := trodVars_none hV
  obtain ⟨s, rfl, rfl, rfl, hs⟩ := open_string Tryd.underlying9 (hval 0 9 v0 rfl rfl) h0
  obtain ⟨a1, len1, cap1, rfl⟩ := okWide_slice Tryd.underlying25 (hval 1 25 v1 rfl rfl)
  obtain ⟨a2, len2, cap2, rfl⟩ := okWide_slice Tryd.underlying26 (hval 2 26 v2 rfl rfl)
  clear hA0 hval0
  simp only [List.append_nil] at hW'
  have hlt : ∀ x ∈ [] ++ (p1 ++ p2), x.block < W.heap.size := fun x hx => by simpa using hW'.lt x (by simpa using hx)
  obtain ⟨zs, hzs⟩ := intsAt_of h1
  obtain ⟨Xs, hXs⟩ := textsAt_of h2
  have hcall : Calls Tryd.prog 4 #[.string s, .slice a1 len1 cap1, .slice a2 len2 cap2] W fun e w' => e = .returned (.bool true) ∧ Below W.heap.size W w' := by
    by_cases hb : 600 < len1 ∨ 600 < len2
    · exact layLays_great s a1 len1 cap1 a2 len2 cap2 W (tabs_of_laid hL) hb
    · exact layLays_small s a1 len1 cap1 zs a2 len2 cap2 Xs W (tabs_of_laid hL) hzs hXs (by omega) (by omega)
  refine hcall.mono fun e W' ⟨he, hnx⟩ => ?_
  subst he
  refine ⟨_, rfl, _, _, _, [], [] ++ (p1 ++ p2), [], hW', ?_, ?_, rfl, hnx.frame _, fun h => by cases h⟩
  · exact trodAll_mk1 (shut_bool Tryd.underlying4 _)
  · exact trodAll_mk3 (shut_string Tryd.underlying9 hs) (Below.trod laidOut (by kernel_rfl) (of_decide_eq_true (by kernel_rfl)) h1 hnx (fun x hx => hlt x (by simp [hx]))) (Below.trod laidOut (by kernel_rfl) (of_decide_eq_true (by kernel_rfl)) h2 hnx (fun x hx => hlt x (by simp [hx])))

theorem layLays_holds : Rows.LayLaysSaid :=
  OpenClaim.holds_of_wide 4 Tryd.f4 rfl rfl rfl rfl rfl rfl rfl ⟨rfl, rfl, rfl, rfl, rfl⟩ rfl rfl rfl rfl rfl (by kernel_rfl) Tryd.func4 (by kernel_rfl)
    (of_decide_eq_true (by kernel_rfl)) (by unfold Func.isWrapper; rw [if_neg (of_decide_eq_false (by kernel_rfl))]; exact ⟨rfl, rfl⟩)
    (fun os started H enc _ => layLays_lifted os started H enc)

theorem layLays_card : Rows.LayLaysCardSaid :=
  Claim7.holds_tied_plain_at .later [] [.data, .data, .data, .sentinel, .sentinel] true (true, "12c80bc3cd18b6c0677e91ed3832e863d7c75c57cf1e487faac2dd52cfc0463c") true
    layLays_holds (fun _ h => by cases h) (by kernel_rfl) (fun _ h => by cases h) layLays_row_tie rfl ⟨rfl, rfl⟩ (by kernel_rfl) rfl
    (fun f fn hf hfn => by
      obtain rfl : f = 4 := Option.some.inj ((show Tryd.prog.funcNamed "affidavit/affidavitlaw01.LayLays" = some 4 by kernel_rfl).symm.trans hf) |>.symm
      obtain rfl : fn = Tryd.f4 := (Option.some.inj (Tryd.func4.symm.trans hfn)).symm
      exact ⟨by kernel_rfl, fun j t ht => by
        rw [Tryd.params4] at ht
        have hm : t ∈ [9, 25, 26] := by simpa using Array.mem_of_getElem? ht
        have hall : ([9, 25, 26].all fun u => !Tryd.prog.wantsStandIn u) = true := by kernel_rfl
        exact (show Tryd.prog.wantsStandIn t = false by simpa using List.all_eq_true.1 hall t hm)⟩)
    (by kernel_rfl)
#print axioms layLays_card
end Go.Proofs.YtldhhbkdhcidcaaDoor
