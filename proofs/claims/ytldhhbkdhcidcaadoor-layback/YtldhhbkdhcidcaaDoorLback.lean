/-
  LayBack answers true at every number, text, list of ints and list of texts, whatever stands ahead and behind: what was laid is read as it was. The package variables of strconv and math/bits that are listed hold what the program's text lays (the card ties them).
-/
import Derived.Test.YtldhhbkdhcidcaaDoorWback
import Derived.Test.YtldhhbkdhcidcaaDoorOpen
import Derived.Test.YtldhhbkdhcidcaaDoorCards
import Derived.Test.YtldhhbkdhcidcaaDoorTie
import Derived.SevenTiedAt
namespace Go.Proofs.YtldhhbkdhcidcaaDoor
open Go.ChangeShapes Go.WideShapes Go.ChangeAt Go.WideMaps Go.WideElems Go.RowKit Go.Joins
open Go.ChangeMaps (open_string shut_string)
set_option maxRecDepth 100000

set_option maxHeartbeats 1000000 in
theorem layBack_great (A B : ByteArray) (N : Int) (S : ByteArray) (a1 : Option Addr) (len1 cap1 : Nat) (a2 : Option Addr) (len2 cap2 : Nat) (hAB : 5000 < A.size ∨ 5000 < B.size) (w : World) (ht : Tabs w) :
    Calls Tryd.prog 6 #[.agg #[.string A, .string B, .int .i64 N, .string S, .slice a1 len1 cap1, .slice a2 len2 cap2]] w fun e w' => e = .returned (.bool true) ∧ Below w.heap.size w w' := by
  have HB0 : Hid (Below w.heap.size w (w.alloc (.cells #[.string A, .string B, .int .i64 N, .string S, .slice a1 len1 cap1, .slice a2 len2 cap2] 45))) := below_alloc1 w _
  by_cases h1 : 5000 < A.size
  · have dA : decide (5000 < (A.size : Int)) = true := by simp; omega
    clear hAB
    go_enter Tryd.func6, Tryd.ntmps6
    go_wp2_with fail
    refine (awake_any _ (ht.stays HB0.out)).mono ?_
    rintro e w1 ⟨rfl, hb1⟩
    have HB : Hid (Below w.heap.size w w1) := below_two HB0.out hb1
    clear hb1 HB0
    go_wp2
    go_ret
    exact ⟨rfl, HB.out⟩
  · have dA : decide (5000 < (A.size : Int)) = false := by simp; omega
    have dB : decide (5000 < (B.size : Int)) = true := by simp; omega
    clear hAB
    go_enter Tryd.func6, Tryd.ntmps6
    go_wp2_with fail
    refine (awake_any _ (ht.stays HB0.out)).mono ?_
    rintro e w1 ⟨rfl, hb1⟩
    have HB : Hid (Below w.heap.size w w1) := below_two HB0.out hb1
    clear hb1 HB0
    go_wp2
    go_ret
    exact ⟨rfl, HB.out⟩

theorem cells45 : Tryd.prog.cellsOf 45 = 6 := by kernel_rfl
theorem cells25 : Tryd.prog.cellsOf 25 = 1 := by kernel_rfl
theorem cells26 : Tryd.prog.cellsOf 26 = 1 := by kernel_rfl
theorem array6 {α : Type} {cs : Array α} (h : cs.size = 6) : ∃ c0 c1 c2 c3 c4 c5, cs = #[c0, c1, c2, c3, c4, c5] := by
  obtain ⟨l⟩ := cs
  match l, h with
  | [c0, c1, c2, c3, c4, c5], _ => exact ⟨c0, c1, c2, c3, c4, c5, rfl⟩

theorem list6 {α : Type} {l : List α} (h : l.length = 6) : ∃ c0 c1 c2 c3 c4 c5, l = [c0, c1, c2, c3, c4, c5] := by
  match l, h with
  | [c0, c1, c2, c3, c4, c5], _ => exact ⟨c0, c1, c2, c3, c4, c5, rfl⟩

theorem open45 {H : Type} {enc : TypeId × Value → H} {W : World} {base : Nat} {v : Value} {d : DataW H} {p : List MemPlace} (hv : Value.okWide Tryd.prog W .any base 45 v) (h : DataW.Trod enc Tryd.prog W 0 (fun _ => true) true 45 v d p) :
    ∃ (A B : ByteArray) (N : Int) (S : ByteArray) (a1 : Option Addr) (len1 cap1 : Nat) (a2 : Option Addr) (len2 cap2 : Nat) (zs : List Int) (Xs : List ByteArray),
      v = .agg #[.string A, .string B, .int .i64 N, .string S, .slice a1 len1 cap1, .slice a2 len2 cap2] ∧ (-9223372036854775808 ≤ N ∧ N ≤ 9223372036854775807) ∧ IntsAt W a1 len1 zs ∧ TextsAt W a2 len2 Xs := by
  obtain ⟨cs, rfl, hsz⟩ := okWide_struct Tryd.underlying45 hv
  obtain ⟨c0, c1, c2, c3, c4, c5, rfl⟩ := array6 (hsz.trans cells45)
  obtain ⟨fuel, hf⟩ := h
  obtain ⟨xs, n, _, _, hl, hlen, hfs⟩ := DataW.trod_struct Tryd.underlying45 hf
  obtain ⟨y0, y1, y2, y3, y4, y5, rfl⟩ := list6 (show xs.length = 6 from hlen)
  have g0 : DataW.trod enc Tryd.prog W 0 (fun _ => true) true n 9 [c0] = some y0 := by simpa [Value.cells, cells9] using hfs 0 _ rfl
  have g1 : DataW.trod enc Tryd.prog W 0 (fun _ => true) true n 9 [c1] = some y1 := by simpa [Value.cells, cells9] using hfs 1 _ rfl
  have g2 : DataW.trod enc Tryd.prog W 0 (fun _ => true) true n 3 [c2] = some y2 := by simpa [Value.cells, cells3] using hfs 2 _ rfl
  have g3 : DataW.trod enc Tryd.prog W 0 (fun _ => true) true n 9 [c3] = some y3 := by simpa [Value.cells, cells9] using hfs 3 _ rfl
  have g4 : DataW.trod enc Tryd.prog W 0 (fun _ => true) true n 25 [c4] = some y4 := by simpa [Value.cells, cells25] using hfs 4 _ rfl
  have g5 : DataW.trod enc Tryd.prog W 0 (fun _ => true) true n 26 [c5] = some y5 := by simpa [Value.cells, cells26] using hfs 5 _ rfl
  obtain ⟨A, e0, -, -⟩ := DataW.trod_string Tryd.underlying9 g0
  obtain ⟨B, e1, -, -⟩ := DataW.trod_string Tryd.underlying9 g1
  obtain ⟨N, e2, -, wN⟩ := DataW.trod_int Tryd.underlying3 g2
  obtain ⟨S, e3, -, -⟩ := DataW.trod_string Tryd.underlying9 g3
  obtain ⟨a1, len1, cap1, e4⟩ := slice_form Tryd.underlying25 g4
  obtain ⟨a2, len2, cap2, e5⟩ := slice_form Tryd.underlying26 g5
  simp only [List.cons.injEq, and_true] at e0 e1 e2 e3 e4 e5
  subst e0 e1 e2 e3 e4 e5
  obtain ⟨zs, hzs⟩ := intsAt_of (enc := enc) (d := y4.1) (p := y4.2) ⟨n, by simpa [Value.cells] using g4⟩
  obtain ⟨Xs, hXs⟩ := textsAt_of (enc := enc) (d := y5.1) (p := y5.2) ⟨n, by simpa [Value.cells] using g5⟩
  exact ⟨A, B, N, S, a1, len1, cap1, a2, len2, cap2, zs, Xs, rfl, bounds_i64 wN, hzs, hXs⟩

theorem layBack_lifted (os : Os) (started : os.Started) (H : Type) (enc : TypeId × Value → H) :
    ReturnsInHanded {} Tryd.checked os 6 .any (fun w args => (Rows.layBackSpec.pre enc Tryd.prog Tryd.f6 [] false w args ∧ laidMetH Tryd.prog laid5 w) ∧ sizedMet enc Tryd.prog Tryd.f6 (OpenSpec.ofChange Rows.layBackSpec) false w args)
      (Rows.layBackSpec.post enc Tryd.prog Tryd.f6 false true false false) := by
  refine returnsInHanded_of_change_and (C := Tryd.checked) (X := fun w _ => laidMetH Tryd.prog laid5 w) (fun _ _ _ hh h => h.of_heap hh) own started (by kernel_rfl) Tryd.func6
    (ChangeSpec.witness_shaped (enc := enc) (C := Tryd.checked) (os := os) (X := fun w _ => laidMetH Tryd.prog laid5 w) false (World.doorLaid Tryd.prog 62 os) #[.agg #[.string ⟨#[]⟩, .string ⟨#[]⟩, .int .i64 0, .string ⟨#[]⟩, .slice none 0 0, .slice none 0 0]] 8 rfl (World.shaped_of_RefB (by kernel_rfl) (by kernel_rfl)) (by kernel_rfl) (by kernel_rfl) (by kernel_rfl) (door_met os _)) ?_
  intro W base args ds gs before hval0 hW _ _ hL _
  have hval : ∀ (j : Nat) t v, Tryd.f6.params[j]? = some t → args[j]? = some v → Value.okWide Tryd.prog W .any base t v := hval0
  have hW' := hW
  obtain ⟨p, q, hA0, hV, rfl, hfz, hnd⟩ := hW
  have hA : DataW.TrodAll enc Tryd.prog W 0 (fun _ => true) true Tryd.f6.params.toList args.toList ds p := hA0
  rw [Tryd.params6] at hA hval
  obtain ⟨v0, d0, rfl, rfl, h0⟩ := trodAll_one hA
  obtain ⟨rfl, rfl⟩ := trodVars_none hV
  have h0k := h0
  clear hA0 hval0
  simp only [List.append_nil] at hW'
  have hlt : ∀ x ∈ p, x.block < W.heap.size := fun x hx => by simpa using hW'.lt x hx
  obtain ⟨A, B, N, S, a1, len1, cap1, a2, len2, cap2, zs, Xs, rfl, hN, hin, htx⟩ := open45 (hval 0 45 v0 rfl rfl) h0
  have hcall : Calls Tryd.prog 6 #[.agg #[.string A, .string B, .int .i64 N, .string S, .slice a1 len1 cap1, .slice a2 len2 cap2]] W fun e w' => e = .returned (.bool true) ∧ Below W.heap.size W w' := by
    by_cases hAB : 5000 < A.size ∨ 5000 < B.size
    · exact layBack_great A B N S a1 len1 cap1 a2 len2 cap2 hAB W (tabs_of_laid hL)
    · exact layBack_small A B N hN S a1 len1 cap1 zs a2 len2 cap2 Xs (by omega) (by omega) W (tabs_of_laid hL) hin htx
  refine hcall.mono fun e W' ⟨he, hnx⟩ => ?_
  subst he
  refine ⟨_, rfl, _, _, _, [], p, [], hW', ?_, ?_, rfl, hnx.frame _, fun h => by cases h⟩
  · exact trodAll_mk1 (shut_bool Tryd.underlying4 _)
  · exact trodAll_mk1 (Below.trod laidOut (by kernel_rfl) (of_decide_eq_true (by kernel_rfl)) h0k hnx hlt)

theorem layBack_holds : Rows.LayBackSaid :=
  OpenClaim.holds_of_wide 6 Tryd.f6 rfl rfl rfl rfl rfl rfl rfl ⟨rfl, rfl, rfl, rfl, rfl⟩ rfl rfl rfl rfl rfl (by kernel_rfl) Tryd.func6 (by kernel_rfl)
    (of_decide_eq_true (by kernel_rfl)) (by unfold Func.isWrapper; rw [if_neg (of_decide_eq_false (by kernel_rfl))]; exact ⟨rfl, rfl⟩)
    (fun os started H enc _ => layBack_lifted os started H enc)

theorem layBack_card : Rows.LayBackCardSaid :=
  Claim7.holds_tied_plain_at .later [] [.data, .data, .data, .sentinel, .sentinel] true (true, "12c80bc3cd18b6c0677e91ed3832e863d7c75c57cf1e487faac2dd52cfc0463c") true
    layBack_holds (fun _ h => by cases h) (by kernel_rfl) (fun _ h => by cases h) layBack_row_tie rfl ⟨rfl, rfl⟩ (by kernel_rfl) rfl
    (fun f fn hf hfn => by
      obtain rfl : f = 6 := Option.some.inj ((show Tryd.prog.funcNamed "affidavit/affidavitlaw01.LayBack" = some 6 by kernel_rfl).symm.trans hf) |>.symm
      obtain rfl : fn = Tryd.f6 := (Option.some.inj (Tryd.func6.symm.trans hfn)).symm
      exact ⟨by kernel_rfl, fun j t ht => by
        rw [Tryd.params6] at ht
        have hm : t ∈ [45] := by simpa using Array.mem_of_getElem? ht
        have hall : ([45].all fun u => !Tryd.prog.wantsStandIn u) = true := by kernel_rfl
        exact (show Tryd.prog.wantsStandIn t = false by simpa using List.all_eq_true.1 hall t hm)⟩)
    (by kernel_rfl)
#print axioms layBack_card
end Go.Proofs.YtldhhbkdhcidcaaDoor
