/-
  NonceDoes answers true at every input. The package variables that are listed hold what the program's text lays (the card ties them). (Numbers, acts and lists of them that came in are opened first.)
-/
import Derived.Test.YtnhnjdldgaaeoaaGreatDoorRows
import Derived.Test.YtnhnjdldgaaeoaaGreatDoorGlay
import Derived.ProofKit
import Derived.LaidMore
import Derived.OpenShut
import Derived.Stop.Joined
import Derived.Stop.LaidErr
import Derived.Lib.LaidTab
import Derived.Test.YtnhnjdldgaaeoaaGreatDoorIrw
import Derived.WalkKit
import Derived.Deep.Slices
import Derived.Test.YtnhnjdldgaaeoaaGreatDoorGval
import Derived.Test.YtnhnjdldgaaeoaaGreatDoorWzd
import Derived.Test.YtnhnjdldgaaeoaaGreatDoorCards
import Derived.Test.YtnhnjdldgaaeoaaGreatDoorTie
import Derived.SevenTiedAt
import Derived.SizedLaws
namespace Go.Proofs.YtnhnjdldgaaeoaaGreatDoor
open Go.ChangeShapes Go.WideShapes Go.ChangeAt Go.WideMaps Go.WideElems Go.RowKit

def laidAll : List (String × DataW Unit) := [("math/bits.deBruijn32tab", Rows.laid_math_bits_deBruijn32tab), ("math/bits.deBruijn64tab", Rows.laid_math_bits_deBruijn64tab), ("internal/strconv.uint64pow10", Rows.laid_internal_strconv_uint64pow10), ("strconv.ErrRange", Rows.laid_strconv_ErrRange), ("strconv.ErrSyntax", Rows.laid_strconv_ErrSyntax)]

theorem own : ownKnob Tryz.prog.godebug = none := by kernel_rfl
theorem tPow : (Tryz.prog.globals[2]?).map (·.type) = some 155 := by kernel_rfl
theorem tRange : (Tryz.prog.globals[1]?).map (·.type) = some 120 := by kernel_rfl
theorem door_met (os : Os) (args : Array Value) : laidMetH Tryz.prog laidAll ((World.doorLaid Tryz.prog 62 os).forCall (fun _ _ => 0) ⟨#[], args, []⟩).memory :=
  laidMetH_of_parts3 (fuel := 8) (laidMet_of_run' 8 (by kernel_rfl) (by kernel_rfl)) (by kernel_rfl) (by kernel_rfl)

theorem cells100 : Tryz.prog.cellsOf 100 = 1 := by kernel_rfl
theorem cells155 : Tryz.prog.cellsOf 155 = 20 := by kernel_rfl
theorem cells153 : Tryz.prog.cellsOf 153 = 1 := by kernel_rfl
theorem cells9 : Tryz.prog.cellsOf 9 = 1 := by kernel_rfl
theorem star : "*" ++ "errors.errorString" = "*errors.errorString" := by decide
theorem row151 (u : TypeId) (h : Tryz.prog.typeName? 3 u = some "*errors.errorString") : u = 151 :=
  typeName_ptr_named (nm := "errors.errorString") (by rw [star]; kernel_rfl) (by kernel_rfl) (by decide) u (by rw [star]; exact h)
theorem powData : (Rows.laid_internal_strconv_uint64pow10 : DataW Unit) = Lib.tabData .u64 Lib.pow10Tab := by kernel_rfl

theorem tabs_of_laid {W : World} (h : laidMetH Tryz.prog laidAll W) : Lay.Tabs W := by
  rw [MakeChecks.laidMetH_plain _ _ _ (by kernel_rfl)] at h
  have h2 := h.tail.tail
  rw [powData] at h2
  obtain ⟨a, s, hv, -, -, -⟩ := laid_sentinel h.tail.tail.tail Lay.gRange tRange Tryz.underlying120 row151 Tryz.underlying151 Tryz.underlying153 rfl rfl Tryz.underlying9 cells153 cells9
  exact ⟨Lib.tabIs_of_head Lay.gPow tPow Tryz.underlying155 Tryz.underlying100 cells100 cells155 h2, _, _, hv⟩

end Go.Proofs.YtnhnjdldgaaeoaaGreatDoor

/-
  Numbers that came in, opened for a walk.
-/
namespace Go.Proofs.YtnhnjdldgaaeoaaGreatDoor
open Go.ChangeShapes Go.WideShapes Go.ChangeAt Go.WideMaps Go.WideElems Go.RowKit
set_option maxRecDepth 100000

theorem laidOut : laidOutB Tryz.prog = true := by kernel_rfl
theorem cells3 : Tryz.prog.cellsOf 3 = 1 := by kernel_rfl
theorem cells43 : Tryz.prog.cellsOf 43 = 1 := by kernel_rfl
section
variable {H : Type} {enc : TypeId × Value → H} {W : World} {base : Nat} {sp : Nat → Bool} {held : Bool} {fuel : Nat} {cs : List Value} {x : DataW H × List MemPlace}

theorem ints_cells (h : DataW.trod enc Tryz.prog W 0 (fun _ => true) held fuel 43 cs = some x) : ∃ v ks, cs = [v] ∧ IntsAt W v ks := by
  rcases open_ints Tryz.underlying43 Tryz.underlying3 cells3 h with ⟨rfl, -⟩ | ⟨a, len, cap, zs, rfl, _, hl, _, hz, -, hcell, -⟩
  · exact ⟨_, [], rfl, none, 0, rfl, Nat.le_refl _, fun h => absurd rfl h⟩
  · simp only [if_true] at hz
    have hlen : (zs.take len).length = len := by rw [List.length_take]; omega
    refine ⟨_, zs.take len, rfl, some a, cap, by rw [hlen], by rw [hlen]; exact hl, fun hne => ?_⟩
    have hpos : 0 < len := by
      rcases Nat.eq_zero_or_pos len with e | e
      · subst e; simp at hne
      · exact e
    obtain ⟨b, off, spot⟩ := a
    have hspot : spot = none := by simpa [Addr.add] using World.cell?_spot (hcell 0 (by omega))
    subst hspot
    refine ⟨b, off, rfl, fun j x hj => ?_⟩
    have hj' : j < len := by have := (List.getElem?_eq_some_iff.1 hj).1; omega
    have h9 := hcell j (by omega)
    rw [Go.WideShapes.add_plain] at h9
    rw [h9]
    rw [List.getElem?_take, if_pos hj'] at hj
    simp [List.getD, hj]

end

theorem open_ints' {H : Type} {enc : TypeId × Value → H} {W : World} {base : Nat} {v : Value} {d : DataW H} {p : List MemPlace} (hv : Value.okWide Tryz.prog W .any base 43 v)
    (h : DataW.Trod enc Tryz.prog W 0 (fun _ => true) true 43 v d p) : ∃ ks, IntsAt W v ks := by
  obtain ⟨a, len, cap, rfl⟩ := okWide_slice Tryz.underlying43 hv
  obtain ⟨fuel, hf⟩ := h
  obtain ⟨v, ks, hcs, hI⟩ := ints_cells hf
  simp only [Value.cells, List.cons.injEq, and_true] at hcs
  subst hcs
  exact ⟨ks, hI⟩
end Go.Proofs.YtnhnjdldgaaeoaaGreatDoor

/-
  Acts and lists of them that came in, opened for a walk.
-/
namespace Go.Proofs.YtnhnjdldgaaeoaaGreatDoor
open Go.ChangeShapes Go.WideShapes Go.ChangeAt Go.WideMaps Go.WideElems Go.RowKit
set_option maxRecDepth 100000

theorem cells45 : Tryz.prog.cellsOf 45 = 4 := by kernel_rfl
section
variable {H : Type} {enc : TypeId × Value → H} {W : World} {base : Nat} {sp : Nat → Bool} {held : Bool} {fuel : Nat} {cs : List Value} {x : DataW H × List MemPlace}
theorem list4 {α : Type} {l : List α} (h : l.length = 4) : ∃ c0 c1 c2 c3, l = [c0, c1, c2, c3] := by
  match l, h with
  | [c0, c1, c2, c3], _ => exact ⟨c0, c1, c2, c3, rfl⟩

theorem act_cells (h : DataW.trod enc Tryz.prog W 0 (fun _ => true) held fuel 45 cs = some x) : ∃ (k i : Int) (t : List UInt8) (v : Value) (ks : List Int), cs = [.int .i64 k, .int .i64 i, .string ⟨t.toArray⟩, v] ∧ i < 9223372036854775808 ∧ IntsAt W v ks := by
  obtain ⟨xs, n, _, _, hl, hlen, hfs⟩ := DataW.trod_struct Tryz.underlying45 h
  rw [cells45] at hl
  obtain ⟨c0, c1, c2, c3, rfl⟩ := list4 hl
  obtain ⟨y0, y1, y2, y3, rfl⟩ := list4 (show xs.length = 4 from hlen)
  have g0 : DataW.trod enc Tryz.prog W 0 (fun _ => true) held n 3 [c0] = some y0 := by simpa [cells3] using hfs 0 _ rfl
  have g1 : DataW.trod enc Tryz.prog W 0 (fun _ => true) held n 3 [c1] = some y1 := by simpa [cells3] using hfs 1 _ rfl
  have g2 : DataW.trod enc Tryz.prog W 0 (fun _ => true) held n 9 [c2] = some y2 := by simpa [cells9] using hfs 2 _ rfl
  have g3 : DataW.trod enc Tryz.prog W 0 (fun _ => true) held n 43 [c3] = some y3 := by simpa [cells43] using hfs 3 _ rfl
  obtain ⟨k, e0, -, -⟩ := DataW.trod_int Tryz.underlying3 g0
  obtain ⟨i, e1, -, w1⟩ := DataW.trod_int Tryz.underlying3 g1
  obtain ⟨A, e2, -, -⟩ := DataW.trod_string Tryz.underlying9 g2
  obtain ⟨v, ks, e3, hI⟩ := ints_cells g3
  simp only [List.cons.injEq, and_true] at e0 e1 e2 e3
  subst e0 e1 e2 e3
  exact ⟨k, i, A.data.toList, c3, ks, by simp, by have := (bounds_i64 w1).2; omega, hI⟩
end
theorem open_acts {H : Type} {enc : TypeId × Value → H} {W : World} {base : Nat} {v : Value} {d : DataW H} {p : List MemPlace} (hv : Value.okWide Tryz.prog W .any base 22 v)
    (h : DataW.Trod enc Tryz.prog W 0 (fun _ => true) true 22 v d p) : ∃ a len cap, v = .slice a len cap ∧ ActsAt W a len := by
  obtain ⟨a, len, cap, rfl⟩ := okWide_slice Tryz.underlying22 hv
  obtain ⟨fuel, hf⟩ := h
  refine ⟨a, len, cap, rfl, ?_⟩
  rcases Go.Deep.open_slice Tryz.underlying22 hf with ⟨hcs, hx⟩ | ⟨a', len', cap', m, n, Df, Pf, hcs, hb, hl, hm, hmm, hx, hat⟩
  · simp [Value.cells] at hcs
    obtain ⟨rfl, rfl, rfl⟩ := hcs
    exact fun j hj => by omega
  · simp [Value.cells] at hcs
    obtain ⟨rfl, rfl, rfl⟩ := hcs
    simp only [if_true] at hmm
    subst hmm
    intro j hj
    obtain ⟨cs, hcs, ht⟩ := hat j (by omega)
    rw [cells45] at hcs
    obtain ⟨k, i, t, u, ks, rfl, hi, hI⟩ := act_cells ht
    have hcell := (World.cells?_some hcs).2.2
    obtain ⟨b, off, spot⟩ := a'
    have hspot : spot = none := by
      obtain ⟨cs0, hcs0, ht0⟩ := hat 0 (by omega)
      rw [cells45] at hcs0
      obtain ⟨k0, i0, t0, u0, ks0, rfl, -⟩ := act_cells ht0
      have h0 := (World.cells?_some hcs0).2.2 0 (by omega)
      have h1 : ([Value.int .i64 k0, .int .i64 i0, .string ⟨t0.toArray⟩, u0])[0]? = some (.int .i64 k0) := rfl
      rw [h1] at h0
      simpa [Addr.add] using World.cell?_spot h0
    subst hspot
    refine ⟨b, off, k, i, t, u, ks, rfl, fun c y hy => ?_, hi, hI⟩
    have hc4 : c < 4 := by have := (List.getElem?_eq_some_iff.1 hy).1; simpa using this
    have h0 := hcell c hc4
    rw [hy, Go.WideShapes.add_plain, Go.WideShapes.add_plain] at h0
    exact h0
end Go.Proofs.YtnhnjdldgaaeoaaGreatDoor

/-
  NonceDoes answers true at every input. The package variables that are listed hold what the program's text lays (the card ties them).
-/
namespace Go.Proofs.YtnhnjdldgaaeoaaGreatDoor
open Go.ChangeShapes Go.WideShapes Go.ChangeAt Go.WideMaps Go.WideElems Go.RowKit
open Go.ChangeMaps (open_string shut_string)
set_option maxRecDepth 100000

theorem nonceDoes_lifted (os : Os) (started : os.Started) (H : Type) (enc : TypeId × Value → H) :
    ReturnsInHanded {} Tryz.checked os 3 .any (fun w args => (Rows.nonceDoesSpec.pre enc Tryz.prog Tryz.f3 [] false w args ∧ laidMetH Tryz.prog laidAll w) ∧ sizedMet enc Tryz.prog Tryz.f3 (OpenSpec.ofChange Rows.nonceDoesSpec) false w args)
      (Rows.nonceDoesSpec.post enc Tryz.prog Tryz.f3 false true false false) := by
  refine returnsInHanded_of_change_and (C := Tryz.checked) (X := fun w _ => laidMetH Tryz.prog laidAll w) (fun _ _ _ hh h => h.of_heap hh) own started (by kernel_rfl) Tryz.func3
    (ChangeSpec.witness_shaped (enc := enc) (C := Tryz.checked) (os := os) (X := fun w _ => laidMetH Tryz.prog laidAll w) false (World.doorLaid Tryz.prog 62 os) #[.slice none 0 0] 8 rfl (World.shaped_of_RefB (by kernel_rfl) (by kernel_rfl)) (by kernel_rfl) (by kernel_rfl) (by kernel_rfl) (door_met os _)) ?_
  intro W base args ds gs before hval0 hW _ hsz hL _
  have hval : ∀ (j : Nat) t v, Tryz.f3.params[j]? = some t → args[j]? = some v → Value.okWide Tryz.prog W .any base t v := hval0
  have hW' := hW
  obtain ⟨p, q, hA0, hV, rfl, hfz, hnd⟩ := hW
  have hA : DataW.TrodAll enc Tryz.prog W 0 (fun _ => true) true Tryz.f3.params.toList args.toList ds p := hA0
  rw [Tryz.params3] at hA hval hsz
  obtain ⟨v0, d0, rfl, rfl, h0⟩ := trodAll_one hA
  obtain ⟨rfl, rfl⟩ := trodVars_none hV
  obtain ⟨a0, len0, cap0, rfl, hAc0⟩ := open_acts (hval 0 22 v0 rfl rfl) h0
  clear hA0 hval0
  simp only [List.append_nil] at hW'
  have hlt : ∀ x ∈ p, x.block < W.heap.size := fun x hx => by simpa using hW'.lt x (by simpa using hx)
  have hcall : Calls Tryz.prog 3 #[.slice a0 len0 cap0] W fun e w' => e = .returned (.bool true) ∧ Below W.heap.size W w' := does_walk W (tabs_of_laid hL) a0 len0 cap0 hAc0
  refine hcall.mono fun e W' ⟨he, hnx⟩ => ?_
  subst he
  refine ⟨_, rfl, _, _, _, [], p, [], hW', ?_, ?_, rfl, hnx.frame _, fun h => by cases h⟩
  · exact trodAll_mk1 (shut_bool Tryz.underlying4 _)
  · exact trodAll_mk1 (Below.trod laidOut (by kernel_rfl) (of_decide_eq_true (by kernel_rfl)) h0 hnx (fun x hx => hlt x (by simp [hx])))

theorem nonceDoes_holds : Rows.NonceDoesSaid :=
  OpenClaim.holds_of_wide 3 Tryz.f3 rfl rfl rfl rfl rfl rfl rfl ⟨rfl, rfl, rfl, rfl, rfl⟩ rfl rfl rfl rfl rfl (by kernel_rfl) Tryz.func3 (by kernel_rfl)
    (of_decide_eq_true (by kernel_rfl)) (by unfold Func.isWrapper; rw [if_neg (of_decide_eq_false (by kernel_rfl))]; exact ⟨rfl, rfl⟩)
    (fun os started H enc _ => nonceDoes_lifted os started H enc)

theorem nonceDoes_card : Rows.NonceDoesCardSaid :=
  Claim7.holds_tied_plain_at .later [] [.data, .data, .data, .sentinel, .sentinel] true (true, "1835b57b0590b146b9033eace0b36ee0edb7668c41bd9c1bbfccf4d8ad7f5101") true
    nonceDoes_holds (fun _ h => by cases h) (by kernel_rfl) (fun _ h => by cases h) nonceDoes_row_tie rfl ⟨rfl, rfl⟩ (by kernel_rfl) rfl
    (fun f fn hf hfn => by
      obtain rfl : f = 3 := Option.some.inj ((show Tryz.prog.funcNamed "affidavit/affidavitlaw08.NonceDoes" = some 3 by kernel_rfl).symm.trans hf) |>.symm
      obtain rfl : fn = Tryz.f3 := (Option.some.inj (Tryz.func3.symm.trans hfn)).symm
      exact ⟨by kernel_rfl, fun j t ht => by
        rw [Tryz.params3] at ht
        have hm : t ∈ [22] := by simpa using Array.mem_of_getElem? ht
        have hall : ([22].all fun u => !Tryz.prog.wantsStandIn u) = true := by kernel_rfl
        exact (show Tryz.prog.wantsStandIn t = false by simpa using List.all_eq_true.1 hall t hm)⟩)
    (by kernel_rfl)
#print axioms nonceDoes_card
end Go.Proofs.YtnhnjdldgaaeoaaGreatDoor
