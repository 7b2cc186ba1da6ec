/-
  law15.UstorReads: at every client and text the law answers true.
-/
import Derived.Test.YtekfcbedlokidaaGreatDoorH39
import Derived.Test.YtekfcbedlokidaaGreatDoorH38
import Derived.Test.YtekfcbedlokidaaGreatDoorH41
import Derived.Test.YtekfcbedlokidaaGreatDoorRows
import Derived.Test.YtekfcbedlokidaaGreatDoorH05
import Derived.Test.YtekfcbedlokidaaGreatDoorH16
import Derived.ProofKit
import Derived.LaidMore
import Derived.OpenShut
import Derived.Stop.Joined
import Derived.Stop.LaidErr
import Derived.Lib.LaidTab
namespace Go.Proofs.YtekfcbedlokidaaGreatDoor.Ms
open Go Go.RowKit
set_option maxRecDepth 100000
theorem readU_fit (seed : List UInt8) (n : Nat) (me : Int) (s : List UInt8) (h : readE n me s = 0) : (readU seed me s).view.length ≤ 16384 ∧ (readU seed me s).value.length ≤ 16384 ∧ (readU seed me s).asked.value.length ≤ 16384 ∧ I64 (readU seed me s).asked.number ∧ I64 (readU seed me s).asked.kind ∧ I64 (readU seed me s).asked.target := by
  have hf : fE s = 0 := Decidable.byContradiction fun e => by unfold readE at h; rw [if_pos e] at h; exact e h
  obtain ⟨h3, h31, h7⟩ := fE_waits s hf
  obtain ⟨-, a2, a3, -⟩ := k3_at s h3
  unfold readU
  by_cases hz : (k3 s).1 = 0
  · rw [if_pos hz]
    exact ⟨a2, a3, Nat.zero_le _, i64_zero, i64_zero, i64_zero⟩
  · rw [if_neg hz]
    have ho : (k3 s).1 = 1 := by rcases h31 with e | e; exact e; exact absurd e hz
    obtain ⟨-, -, -, i5, i6, -⟩ := k7_at s (h7 ho)
    have hcl := Hist.cnt_le (k1 s).1 me
    refine ⟨a2, a3, a3, ⟨?_, ?_⟩, i5, i6⟩
    · show -9223372036854775808 ≤ (Hist.cnt (k1 s).1 me : Int) + 1
      omega
    · show (Hist.cnt (k1 s).1 me : Int) + 1 ≤ 9223372036854775807
      omega
set_option maxHeartbeats 16000000 in
theorem ureads_any (w : World) (hK : Ktab w) (hT : Lay.Tabs w) (me : Int) (t : List UInt8) :
    Calls Tryz.prog 4 #[nu me, st t] w fun e w' => e = .returned (.bool true) ∧ Below w.heap.size w w' := by
  have hz : (⟨t.toArray⟩ : ByteArray).size = t.length := rfl
  have HR : Hid (Calls Tryz.prog 8 #[.string ⟨#[115, 101, 101, 100]⟩, nu 3] w fun e w' => ∃ p h g b, e = .returned (.tuple #[.pointer (some ⟨p, 0, none⟩), .int .i64 0]) ∧ NewRing w w' p h g b [115, 101, 101, 100] 3) := new_ok [115, 101, 101, 100] (by decide) 3 (by decide) (by decide) w hK hT
  have HX : Hid (∀ W, Calls Tryz.prog 9 #[.string ⟨#[115, 101, 101, 100]⟩, nu 3] W fun e w' => ∃ x, e = .returned (.tuple #[.pointer (some ⟨x, 0, none⟩), .int .i64 0]) ∧ RefAt w' x [115, 101, 101, 100] 3 (.slice none 0 0) [] ∧ Below W.heap.size W w' ∧ W.heap.size ≤ x) := fun W => rnew_ok [115, 101, 101, 100] (by decide) 3 (by decide) (by decide) W
  have HAw := hid (fun W (hb : Below w.heap.size w W) => uawake_any W (hK.stays hb hK.pos) (hT.stays hb))
  have KT : Hid (∀ W, Below w.heap.size w W → Ktab W ∧ Lay.Tabs W) := fun W hb => ⟨hK.stays hb hK.pos, hT.stays hb⟩
  clear hK hT
  go_enter Tryz.func4, Tryz.ntmps4
  go_wp2_with fail
  refine HR.out.mono ?_
  rintro e W1 ⟨p, h, g, b, rfl, q⟩
  have R1 := hid q.ring
  have LO1 := hid q.low
  have hbw := q.far
  clear q HR
  go_wp2_with fail
  refine (HX.out _).mono ?_
  rintro e W2 ⟨x, rfl, rx, hb2, hx⟩
  have LO2 := hid (LO1.out.trans (hb2.mono LO1.out.size))
  have R2 : Hid (RgL W2 p h g b [115, 101, 101, 100] 3 []) := ⟨by decide, by decide, R1.out.kept hb2, (KT.out _ LO2.out).1, (KT.out _ LO2.out).2⟩
  have X2 := hid rx
  have hbx : x ≠ b := by have := R1.out.book.lt; omega
  have hxw : w.heap.size ≤ x := Nat.le_trans LO1.out.size hx
  clear rx hb2 hx R1 LO1 HX
  by_cases hl : 3000 < t.length
  · have d1 : decide ((3000 : Int) < (t.length : Int)) = true := decide_eq_true (by omega)
    have d3 : decide (3000 < t.length) = true := decide_eq_true hl
    clear hl
    go_wp2_with fail
    refine (HAw.out _ LO2.out).mono ?_
    rintro e W3 ⟨rfl, hb⟩
    have LO3 := hid (LO2.out.trans (hb.mono LO2.out.size))
    clear hb
    go_wp2
    go_ret
    exact ⟨rfl, LO3.out⟩
  · have d1 : decide ((3000 : Int) < (t.length : Int)) = false := decide_eq_false (by omega)
    have d3 : decide (3000 < t.length) = false := decide_eq_false hl
    have ht : t.length ≤ 281474976710656 := by omega
    clear hl
    cases hm : hasB 3 me
    · have HU := hid (uread_bad (t := t) R2.out.rg hm)
      unfold hasB at hm
      by_cases h0 : me < 0
      · have e0 : decide (me < 0) = true := decide_eq_true h0
        clear hm h0
        go_wp2_with fail
        refine HU.out.mono ?_
        rintro e w1 ⟨rfl, hw1⟩
        subst w1
        go_wp2_with fail
        refine (HAw.out _ LO2.out).mono ?_
        rintro e W3 ⟨rfl, hb⟩
        have LO3 := hid (LO2.out.trans (hb.mono LO2.out.size))
        clear hb
        go_wp2
        go_ret
        exact ⟨rfl, LO3.out⟩
      · have e0 : decide (me < 0) = false := decide_eq_false h0
        have e2 : decide (2 < me) = true := by
          refine decide_eq_true ?_
          rw [decide_eq_true (by omega : 0 ≤ me), Bool.true_and, decide_eq_false_iff_not] at hm
          omega
        clear hm h0
        go_wp2_with fail
        refine HU.out.mono ?_
        rintro e w1 ⟨rfl, hw1⟩
        subst w1
        go_wp2_with fail
        refine (HAw.out _ LO2.out).mono ?_
        rintro e W3 ⟨rfl, hb⟩
        have LO3 := hid (LO2.out.trans (hb.mono LO2.out.size))
        clear hb
        go_wp2
        go_ret
        exact ⟨rfl, LO3.out⟩
    · have hme : 0 ≤ me ∧ me < 3 := by
        unfold hasB at hm
        rw [Bool.and_eq_true, decide_eq_true_eq, decide_eq_true_eq] at hm
        exact ⟨hm.1, by omega⟩
      have e0 : decide (me < 0) = false := decide_eq_false (by omega)
      have e2 : decide (2 < me) = false := decide_eq_false (by omega)
      have HU0 := hid (uread_any (t := t) R2.out hm (by decide) ht)
      have HY0 := hid (fun W v (r : RefAt W x [115, 101, 101, 100] 3 v []) => rread_any (t := t) r (by decide) (by decide) hm ht)
      clear hme
      by_cases hE : readE 3 me t = 0
      · have HU : Hid (Calls Tryz.prog 11 #[pt p 0, nu me, st t] W2 fun e w' => e = .returned (.tuple #[pt W2.heap.size 0, nu 0]) ∧ UAt w' W2.heap.size p (readU [115, 101, 101, 100] me t) ∧ Touch b W2 w' ∧ ∃ L', Book w' b L') := HU0.out.mono (fun e w' q => ⟨by rw [q.1]; unfold readV; rw [hE, if_pos rfl]; rfl, q.2.1 hE, q.2.2.1, q.2.2.2⟩)
        have HY : Hid (∀ W v, RefAt W x [115, 101, 101, 100] 3 v [] → Calls Tryz.prog 12 #[pt x 0, nu me, st t] W fun e w' => ∃ Y, W.heap.size ≤ Y ∧ e = .returned (.tuple #[pt Y 0, nu 0]) ∧ RuAt w' Y x (readU [115, 101, 101, 100] me t) ∧ Touch x W w') := fun W v r => (HY0.out W v r).mono (fun e w' q => by
          obtain ⟨Y, y1, y2, y3, y4⟩ := q
          exact ⟨Y, y1, by rw [y2, if_pos hE, hE]; rfl, y3 hE, y4⟩)
        obtain ⟨f1, f2, f3, f4, f5, f6⟩ := readU_fit [115, 101, 101, 100] 3 me t hE
        have hbz := readU_busy [115, 101, 101, 100] 3 me t hE
        have hby := read_bytes [115, 101, 101, 100] 3 me t hE
        have HB : Hid (∀ W, Below w.heap.size w W → UAt W W2.heap.size p (readU [115, 101, 101, 100] me t) → Calls Tryz.prog 13 #[pt W2.heap.size 0] W fun e w' => e = .returned (st t) ∧ Below W.heap.size W w') := fun W hb u => by
          have hh := ubytes_any u f1 f2 f3 f4 f5 f6 (KT.out _ hb).2
          rw [hby] at hh
          exact hh
        clear HU0 HY0 hm f1 f2 f3 f4 f5 f6 hby hE
        generalize readU [115, 101, 101, 100] me t = U at *
        have hG2 := LO2.out.size
        obtain ⟨G, hGe⟩ : ∃ G, G = W2.heap.size := ⟨_, rfl⟩
        rw [← hGe] at HU HB hG2
        have hxl : x < G := by rw [hGe]; exact row_lt X2.out.obj
        have hge2 := hid hGe
        clear hGe
        go_wp2_with fail
        refine HU.out.mono ?_
        rintro e W3 ⟨rfl, u3, t3, L3, k3'⟩
        have LO3 := hid (LO2.out.trans (t3.below hbw LO2.out.size))
        have U3 := hid u3
        have X3 := hid (X2.out.other R2.out.ring.book t3)
        clear u3 t3 k3' HU X2 R2 LO2
        go_wp2_with fail
        refine (HY.out _ _ X3.out).mono ?_
        rintro e W4 ⟨Y, hY, rfl, y4, t4⟩
        have LO4 := hid (LO3.out.trans (t4.below hxw LO3.out.size))
        have U4 : Hid (UAt W4 G p U) := ⟨row_touch U3.out.row t4 (by omega), U3.out.wf⟩
        have Y4 := hid y4
        clear y4 t4 HY X3 LO3 U3
        go_wp2_with fail
        refine (HAw.out _ LO4.out).mono ?_
        rintro e W5 ⟨rfl, hb5⟩
        have LO5 := hid (LO4.out.trans (hb5.mono LO4.out.size))
        have U5 := hid (U4.out.kept hb5)
        have Y5 := hid (Y4.out.kept hb5)
        clear hb5 U4 Y4 LO4 hY
        go_upto_region 11 with fail
        have H1 := regr (w := W5) (fun W hb => HB.out W (LO5.out.trans (hb.mono LO5.out.size)) (U5.out.kept hb))
        have H2 := regr (w := W5) (fun W hb => (uview_any (U5.out.kept hb)).mono (fun e w' q => (⟨q.1, q.2 ▸ Below.refl _ _⟩ : e = .returned (st U.view) ∧ Below W.heap.size W w')))
        have H3 := regr (w := W5) (fun W hb => (uvalue_any (U5.out.kept hb)).mono (fun e w' q => (⟨q.1, q.2 ▸ Below.refl _ _⟩ : e = .returned (st U.value) ∧ Below W.heap.size W w')))
        have H4 := regr (w := W5) (fun W hb => (ubusy_any (U5.out.kept hb)).mono (fun e w' q => (⟨by rw [q.1, hbz], q.2 ▸ Below.refl _ _⟩ : e = .returned (.bool (decide (0 < U.asked.number))) ∧ Below W.heap.size W w')))
        have hc2 : ∀ dd os, (Sort.grow (redrawn W5 dd) os).cell? ⟨Y, 2, none⟩ = some (st U.view) := fun dd os => cell_regrown Y5.out.c2 _ _
        have hc3 : ∀ dd os, (Sort.grow (redrawn W5 dd) os).cell? ⟨Y, 3, none⟩ = some (st U.value) := fun dd os => cell_regrown Y5.out.c3 _ _
        have hc4 : ∀ dd os, (Sort.grow (redrawn W5 dd) os).cell? ⟨Y, 4, none⟩ = some (nu U.asked.number) := fun dd os => cell_regrown (Y5.out.c4 0 _ rfl) _ _
        clear U5 Y5 HB hbz
        generalize U.view = vw at *
        generalize U.value = vl at *
        generalize U.asked.number = nn at *
        by_cases hn : 0 < nn
        · have dn : decide (0 < nn) = true := decide_eq_true hn
          rw [dn] at H4
          clear hn
          refine wp_region_quiet_below (by kernel_rfl) (by kernel_rfl) ?_
          repeat (first | go_big_quiet_step (exact H1.out _ _) | quiet_step (exact H1.out _ _) | go_big_quiet_step (exact H2.out _ _) | quiet_step (exact H2.out _ _) | go_big_quiet_step (exact H3.out _ _) | quiet_step (exact H3.out _ _) | go_big_quiet_step (exact H4.out _ _) | quiet_step (exact H4.out _ _))
          refine wpQuiet_nil ?_
          intro _ hw'
          obtain ⟨⟨dq, osq⟩, hw''⟩ := hw'
          subst hw''
          have LO6 := hid (LO5.out.trans ((below_regrown W5 dq osq).mono LO5.out.size))
          clear hc2 hc3 hc4 H1 H2 H3 H4
          go_wp2
          go_ret
          exact ⟨by first | rfl | trivial, LO6.out⟩
        · have dn : decide (0 < nn) = false := decide_eq_false hn
          rw [dn] at H4
          clear hn
          refine wp_region_quiet_below (by kernel_rfl) (by kernel_rfl) ?_
          repeat (first | go_big_quiet_step (exact H1.out _ _) | quiet_step (exact H1.out _ _) | go_big_quiet_step (exact H2.out _ _) | quiet_step (exact H2.out _ _) | go_big_quiet_step (exact H3.out _ _) | quiet_step (exact H3.out _ _) | go_big_quiet_step (exact H4.out _ _) | quiet_step (exact H4.out _ _))
          refine wpQuiet_nil ?_
          intro _ hw'
          obtain ⟨⟨dq, osq⟩, hw''⟩ := hw'
          subst hw''
          have LO6 := hid (LO5.out.trans ((below_regrown W5 dq osq).mono LO5.out.size))
          clear hc2 hc3 hc4 H1 H2 H3 H4
          go_wp2
          go_ret
          exact ⟨by first | rfl | trivial, LO6.out⟩
      · have HU : Hid (Calls Tryz.prog 11 #[pt p 0, nu me, st t] W2 fun e w' => e = .returned (.tuple #[.pointer none, nu (readE 3 me t : Int)]) ∧ Touch b W2 w' ∧ ∃ L', Book w' b L') := HU0.out.mono (fun e w' q => ⟨by rw [q.1]; unfold readV; rw [if_neg hE], q.2.2.1, q.2.2.2⟩)
        have HY : Hid (∀ W v, RefAt W x [115, 101, 101, 100] 3 v [] → Calls Tryz.prog 12 #[pt x 0, nu me, st t] W fun e w' => e = .returned (.tuple #[.pointer none, nu (readE 3 me t : Int)]) ∧ Touch x W w') := fun W v r => (HY0.out W v r).mono (fun e w' q => by
          obtain ⟨Y, y1, y2, y3, y4⟩ := q
          exact ⟨by rw [y2, if_neg hE], y4⟩)
        clear HU0 HY0 hm hE
        generalize (readE 3 me t : Int) = E at *
        go_wp2_with fail
        refine HU.out.mono ?_
        rintro e W3 ⟨rfl, t3, L3, k3'⟩
        have LO3 := hid (LO2.out.trans (t3.below hbw LO2.out.size))
        have X3 := hid (X2.out.other R2.out.ring.book t3)
        clear t3 k3' HU X2 R2 LO2
        go_wp2_with fail
        refine (HY.out _ _ X3.out).mono ?_
        rintro e W4 ⟨rfl, t4⟩
        have LO4 := hid (LO3.out.trans (t4.below hxw LO3.out.size))
        clear t4 HY X3 LO3
        go_wp2_with fail
        refine (HAw.out _ LO4.out).mono ?_
        rintro e W5 ⟨rfl, hb5⟩
        have LO5 := hid (LO4.out.trans (hb5.mono LO4.out.size))
        clear hb5 LO4
        go_upto_region 11 with fail
        refine wp_region_quiet_below (by kernel_rfl) (by kernel_rfl) ?_
        repeat (first | go_big_quiet_step (fail) | quiet_step (fail))
        refine wpQuiet_nil ?_
        intro _ hw'
        obtain ⟨⟨dq, osq⟩, hw''⟩ := hw'
        subst hw''
        have LO6 := hid (LO5.out.trans ((below_regrown W5 dq osq).mono LO5.out.size))
        go_wp2
        go_ret
        exact ⟨by first | rfl | trivial, LO6.out⟩
end Go.Proofs.YtekfcbedlokidaaGreatDoor.Ms
namespace Go.Proofs.YtekfcbedlokidaaGreatDoor
open Go.ChangeShapes Go.WideShapes Go.ChangeAt Go.WideMaps Go.WideElems Go.RowKit
def laidAll : List (String × DataW Unit) := [("math/bits.deBruijn32tab", Rows.laid_math_bits_deBruijn32tab), ("math/bits.deBruijn64tab", Rows.laid_math_bits_deBruijn64tab), ("affidavit/sum.constants", Rows.laid_affidavit_sum_constants), ("internal/strconv.uint64pow10", Rows.laid_internal_strconv_uint64pow10), ("strconv.ErrRange", Rows.laid_strconv_ErrRange), ("strconv.ErrSyntax", Rows.laid_strconv_ErrSyntax)]
theorem own : ownKnob Tryz.prog.godebug = none := by kernel_rfl
theorem tPow : (Tryz.prog.globals[1]?).map (·.type) = some 263 := by kernel_rfl
theorem tRange : (Tryz.prog.globals[3]?).map (·.type) = some 212 := by kernel_rfl
theorem door_met (os : Os) (args : Array Value) : laidMetH Tryz.prog laidAll ((World.doorLaid Tryz.prog 67 os).forCall (fun _ _ => 0) ⟨#[], args, []⟩).memory :=
  laidMetH_of_parts3 (fuel := 8) (laidMet_of_run' 8 (by kernel_rfl) (by kernel_rfl)) (by kernel_rfl) (by kernel_rfl)
theorem cells209 : Tryz.prog.cellsOf 209 = 1 := by kernel_rfl
theorem cells263 : Tryz.prog.cellsOf 263 = 20 := by kernel_rfl
theorem cells298 : Tryz.prog.cellsOf 298 = 1 := by kernel_rfl
theorem cells9 : Tryz.prog.cellsOf 9 = 1 := by kernel_rfl
theorem star : "*" ++ "errors.errorString" = "*errors.errorString" := by decide
theorem row296 (u : TypeId) (h : Tryz.prog.typeName? 3 u = some "*errors.errorString") : u = 296 :=
  typeName_ptr_named (nm := "errors.errorString") (by rw [star]; kernel_rfl) (by kernel_rfl) (by decide) u (by rw [star]; exact h)
theorem powData : (Rows.laid_internal_strconv_uint64pow10 : DataW Unit) = Lib.tabData .u64 Lib.pow10Tab := by kernel_rfl
theorem tabs_of_laid {W : World} (h : laidMetH Tryz.prog laidAll W) : Lay.Tabs W := by
  rw [MakeChecks.laidMetH_plain _ _ _ (by kernel_rfl)] at h
  have h2 := h.tail.tail.tail
  rw [powData] at h2
  obtain ⟨a, s, hv, -, -, -⟩ := laid_sentinel h.tail.tail.tail.tail Lay.gRange tRange Tryz.underlying212 row296 Tryz.underlying296 Tryz.underlying298 rfl rfl Tryz.underlying9 cells298 cells9
  exact ⟨Lib.tabIs_of_head Lay.gPow tPow Tryz.underlying263 Tryz.underlying209 cells209 cells263 h2, _, _, hv⟩
theorem gTab : Tryz.prog.globalNamed "affidavit/sum.constants" = some 0 := by kernel_rfl
theorem tTab : (Tryz.prog.globals[0]?).map (·.type) = some 232 := by kernel_rfl
theorem tTab_e : Tryz.prog.cellsOf 203 = 1 := by kernel_rfl
theorem tTab_t : Tryz.prog.cellsOf 232 = 64 := by kernel_rfl
theorem tabData1 : (Rows.laid_affidavit_sum_constants : DataW Unit) = Lib.tabData .u32 (kks.map wv) := by kernel_rfl
theorem ktab_of_laid {W : World} (h : laidMetH Tryz.prog laidAll W) : Ktab W := by
  rw [MakeChecks.laidMetH_plain _ _ _ (by kernel_rfl)] at h
  have h2 := h.tail.tail
  rw [tabData1] at h2
  have h1 := Lib.tabIs_of_head gTab tTab Tryz.underlying232 Tryz.underlying203 tTab_e tTab_t h2
  unfold Lib.TabIs World.var? at h1
  rw [gTab] at h1
  simp only [Option.bind_some] at h1
  cases hh : W.heap[0]? with
  | none => rw [hh] at h1; simp at h1
  | some o =>
    rw [hh] at h1
    cases o with
    | cells cs t fr =>
      simp only [Option.some.injEq] at h1
      subst h1
      refine ⟨t, fr, ?_⟩
      rw [hh, List.map_map]
      rfl
    | _ => simp at h1
end Go.Proofs.YtekfcbedlokidaaGreatDoor
