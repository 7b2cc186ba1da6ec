/-
  HistForks answers true: the first two of a list that do not fit.
-/
import Derived.Test.YtpgelodcdclchaaHap
import Derived.Test.YtpgelodcdclchaaHlw
import Derived.Test.YtpgelodcdclchaaHref
import Derived.Lib.QuietBelow
import Derived.BigQuiet
namespace Go.Proofs.Ytpgelodcdclchaa.Hist
open Go Go.RowKit
set_option maxRecDepth 100000

/-- The texts that HistForks looks at. -/
def cutL (ls : List (List UInt8)) : List (List UInt8) := (ls.take 12).map fun t => t.take 700
theorem cutL_len (ls : List (List UInt8)) : (cutL ls).length = min 12 ls.length := by simp [cutL]
theorem cutL_at (ls : List (List UInt8)) (j : Nat) (h : j < (cutL ls).length) : (cutL ls).getD j [] = (ls.getD j []).take 700 := by
  have h' : j < 12 ∧ j < ls.length := by rw [cutL_len] at h; omega
  unfold cutL
  simp [List.getD, h'.1, h'.2]
theorem cutL_short (ls : List (List UInt8)) (j : Nat) : ((cutL ls).getD j []).length ≤ 700 := by
  by_cases h : j < (cutL ls).length
  · rw [cutL_at ls j h, List.length_take]; omega
  · have e : (cutL ls).getD j [] = [] := by simp [List.getD, List.getElem?_eq_none (by omega : (cutL ls).length ≤ j)]
    rw [e]; simp
theorem scells_step (T : List (List UInt8)) (j : Nat) (h : j < T.length) : scells (T.take j) ++ [.string ⟨(T.getD j []).toArray⟩] = scells (T.take (j + 1)) := by
  unfold scells
  rw [List.take_succ_eq_append_getElem h, List.map_append]
  simp [List.getD, h]
theorem cell_regrown' {w : World} {p : Addr} {v : Value} (h : w.cell? p = some v) (d : Nat) (os : Array Obj) : (Sort.grow (redrawn w d) os).cell? p = some v := cell_regrown h d os

set_option maxHeartbeats 8000000 in
theorem forks_walk (ls : List (List UInt8)) (a : Option Addr) (cap : Nat) (hcap : ls.length ≤ cap) (hmx : ls.length ≤ 9223372036854775807) (w : World) (hs : StrsAt w a ls) :
    Calls Try.prog 8 #[.slice a ls.length cap] w fun e w' => e = .returned (.bool true) ∧ Below w.heap.size w w' := by
  have HW := hid (fun t W => few_any t W)
  have HA := hid (fun W => awake_any W)
  have HTs := hid (cutL_short ls)
  have HTa := hid (cutL_at ls)
  have hTl := cutL_len ls
  have HF := hid (fun (W : World) (b : Option Addr) (cp : Nat) (hq : StrsAt W b (cutL ls)) => fork_any cp hq (by rw [hTl]; omega) (fun j => by have := HTs.out j; omega))
  have HS := hid hs
  generalize cutL ls = T at *
  have hTb : T.length ≤ 12 := by omega
  clear hs
  have HO0 : Hid (w.ownsRow w.heap.size 9 1 (.slice none 0 0) 0 (scells (T.take 0))) := World.ownsRow_nil _ _ _ _
  have HB0 := hid (Below.refl w.heap.size w)
  by_cases hl : 12 < ls.length
  · as_aux_lemma =>
    have hT : T.length = 12 := by omega
    have d0 : decide ((12 : Int) < (ls.length : Int)) = true := decide_eq_true (by omega)
    have d0' : decide (12 < ls.length) = true := decide_eq_true hl
    go_enter Try.func8, Try.ntmps8
    go_wp2
    go_loopw [3, 4] (fun v i w' => ∃ j : Nat, j ≤ T.length ∧ i = .int .i64 j ∧ Hid (w'.ownsRow w.heap.size 9 1 v j (scells (T.take j))) ∧ Hid (Below w.heap.size w w')) (fun _ i _ => T.length - (intOf i).toNat)
    case atStart => exact ⟨0, by omega, rfl, HO0.out, HB0.out⟩
    case round =>
      obtain ⟨j, hj, rfl, HR, HB⟩ := hrel
      by_cases hlt : j < T.length
      · as_aux_lemma =>
        have d1 : decide ((j : Int) < (12 : Int)) = true := decide_eq_true (by omega)
        have d1' : decide (j < 12) = true := decide_eq_true (by omega)
        have hne : ls ≠ [] := fun e => absurd (show ls.length = 0 by rw [e]; rfl) (by omega)
        obtain ⟨b, off, rfl, hc⟩ := HS.out.kept HB.out hne
        have cj := hc j (by omega)
        have HWj := hid (fun W => HW.out (ls.getD j []) W)
        have e1 := HTa.out j hlt
        rw [← e1] at HWj
        have HSt := hid (scells_step T j hlt)
        generalize ls.getD j [] = y at *
        generalize T.getD j [] = x at *
        have hsz := HB.out.size
        obtain ⟨ao, cp, hv⟩ := own_form HR.out
        subst hv
        clear hc HF HA HTs HTa HW e1 HS hne HO0 HB0
        have HlT := hid hlt
        have hj12 : j < 12 := by omega
        have hjN : j < 12 := by omega
        clear hlt hj hT hTl d0 d0'
        go_wp2_with fail
        refine (HWj.out _).mono ?_
        rintro e v1 ⟨rfl, hw⟩
        subst v1
        go_wp2_with (first | (at_builtin; refine wpList_push (W := wr) rfl (.tmp 20) (.tmp 26) 39 9 rfl _ 16 Try.underlying39 info9 rfl (by omega) w.heap.size (.slice ao j cp) (.string ⟨x.toArray⟩) j (scells (T.take j)) rfl rfl HR.out rfl (by omega) hsz ?_; intro v3 w3 hr3 hg3 hat3; have HB3 : Hid (Below w.heap.size w w3) := (HB.out.alloc hsz _).grown hg3 (by simp; omega) (own_ge HR.out); have HR3 := hid hr3; clear hr3 hg3 hat3))
        rw [HSt.out] at HR3
        have hlt := HlT.out
        exact ⟨⟨j + 1, by omega, by go_num, HR3.out, HB3.out⟩, by simp [intOf]; omega⟩
      · as_aux_lemma =>
        obtain rfl : j = T.length := by omega
        have d1 : decide ((T.length : Int) < (12 : Int)) = false := decide_eq_false (by omega)
        have d1' : decide (T.length < 12) = false := decide_eq_false (by omega)
        obtain ⟨ao, cp, hv⟩ := own_form HR.out
        subst hv
        have HR1 := HR.out
        rw [List.take_length] at HR1
        have HSm := hid (strs_of_own rfl HR1)
        have HFm := hid (HF.out wr ao cp HSm.out)
        clear HR HR1 HF HS HO0 HB0 HTa HW hTl hT
        go_wp2_with fail
        refine HFm.out.mono ?_
        rintro e w2 ⟨⟨p, q, rfl, hfk⟩, hb2⟩
        have HB2 := hid (below_two HB.out hb2)
        have HSk := hid (HSm.out.kept hb2)
        have HK := hid hfk
        clear hfk hb2 HFm HSm HB
        go_wp2
        go_loopw [7] (fun v w' => ∃ k : Nat, k ≤ T.length ∧ v = .int .i64 k ∧ Hid (∀ k', k' < k → ∀ j, j < k' → fitB (T.getD j []) (T.getD k' []) = true) ∧ Hid (StrsAt w' ao T) ∧ Hid (Below w.heap.size w w')) (fun v _ => T.length - (intOf v).toNat)
        case atStart => exact ⟨0, by omega, rfl, fun k' hk' => absurd hk' (Nat.not_lt_zero k'), HSk.out, HB2.out⟩
        case round =>
          obtain ⟨k, hk, rfl, HN, HSr, HBr⟩ := hrel
          by_cases hkl : k < T.length
          · have dk : decide ((k : Int) < (T.length : Int)) = true := decide_eq_true (by omega)
            have dk' : decide (k < T.length) = true := decide_eq_true hkl
            go_wp2
            go_loopw [8] (fun v w' => ∃ i : Nat, i ≤ k ∧ v = .int .i64 i ∧ Hid (∀ j, j < i → fitB (T.getD j []) (T.getD k []) = true) ∧ Hid (StrsAt w' ao T) ∧ Hid (Below w.heap.size w w')) (fun v _ => k - (intOf v).toNat)
            case atStart => exact ⟨0, by omega, rfl, fun j hj => absurd hj (Nat.not_lt_zero j), HSr.out, HBr.out⟩
            case round =>
              obtain ⟨i, hi, rfl, HM, HSi, HBi⟩ := hrel
              by_cases hik : i < k
              · have di : decide ((i : Int) < (k : Int)) = true := decide_eq_true (by omega)
                have di' : decide (i < k) = true := decide_eq_true hik
                have hil : i < T.length := by omega
                obtain ⟨b, off, rfl, hc⟩ := HSi.out (fun e => absurd (show T.length = 0 by rw [e]; rfl) (by omega))
                have ci : ∀ dd os, (Sort.grow (redrawn wr dd) os).cell? ⟨b, off + i, none⟩ = some (.string ⟨(T.getD i []).toArray⟩) := fun dd os => cell_regrown (hc i hil) _ _
                have ck : ∀ dd os, (Sort.grow (redrawn wr dd) os).cell? ⟨b, off + k, none⟩ = some (.string ⟨(T.getD k []).toArray⟩) := fun dd os => cell_regrown (hc k hkl) _ _
                have HC : Hid (∀ dd os, Calls Try.prog 22 #[.string ⟨(T.getD i []).toArray⟩, .string ⟨(T.getD k []).toArray⟩] (Sort.grow (redrawn wr dd) os) fun e w'' => e = .returned (.bool (fitB (T.getD i []) (T.getD k []))) ∧ ∃ p : Regrown, w'' = Sort.grow (redrawn wr p.d) p.os) :=
                  fun dd os => Calls.regrown_of (rfit_any _ _ (by have := HTs.out i; omega) (by have := HTs.out k; omega) _)
                have HBg := hid (fun dq osq => HBi.out.trans ((below_regrown wr dq osq).mono HBi.out.size))
                have HSg := hid (fun dq osq => HSi.out.kept (below_regrown wr dq osq))
                cases hf : fitB (T.getD i []) (T.getD k []) with
                | true => as_aux_lemma =>
                  rw [hf] at HC
                  have HM' : Hid (∀ j, j < i + 1 → fitB (T.getD j []) (T.getD k []) = true) := fun j hj => by
                    by_cases e : j = i
                    · rw [e]; exact hf
                    · exact HM.out j (by omega)
                  clear hc HSi HBi HM hf HTs HA HN HK HSr HBr HSk HB2
                  generalize T.getD i [] = y at *
                  generalize T.getD k [] = z at *
                  go_wp2_with fail
                  refine wp_region_quiet_below (by kernel_rfl) (by kernel_rfl) ?_
                  repeat (first | go_big_quiet_step (exact HC.out _ _) | quiet_step (exact HC.out _ _))
                  refine wpQuiet_nil ?_
                  intro _ hw'
                  obtain ⟨⟨dq, osq⟩, hw''⟩ := hw'
                  subst hw''
                  have HBq := hid (HBg.out dq osq)
                  have HSq := hid (HSg.out dq osq)
                  generalize Sort.grow (redrawn wr dq) osq = w5 at *
                  clear HBg HSg HC ci ck
                  go_wp2
                  exact ⟨⟨i + 1, by omega, by go_num, HM'.out, HSq.out, HBq.out⟩, by simp [intOf]; omega⟩
                | false => as_aux_lemma =>
                  rw [hf] at HC
                  obtain ⟨hp, hq⟩ := HK.out.found hkl hik hf HM.out HN.out
                  subst hp
                  subst hq
                  clear hc HSi HBi HM hf HTs HN HK HSr HBr HSk HB2 HSg
                  generalize T.getD i [] = y at *
                  generalize T.getD k [] = z at *
                  go_wp2_with fail
                  refine wp_region_quiet_below (by kernel_rfl) (by kernel_rfl) ?_
                  repeat (first | go_big_quiet_step (exact HC.out _ _) | quiet_step (exact HC.out _ _))
                  refine wpQuiet_nil ?_
                  intro _ hw'
                  obtain ⟨⟨dq, osq⟩, hw''⟩ := hw'
                  subst hw''
                  have HBq := hid (HBg.out dq osq)
                  generalize Sort.grow (redrawn wr dq) osq = w5 at *
                  clear HBg HC ci ck
                  go_wp2_with fail
                  refine (HA.out _).mono ?_
                  rintro e w6 ⟨rfl, hb6⟩
                  have HB6 := hid (below_two HBq.out hb6)
                  clear hb6
                  go_wp2
                  go_ret
                  exact ⟨rfl, HB6.out⟩
              · as_aux_lemma =>
                have e : i = k := by omega
                subst e
                have di : decide ((i : Int) < (i : Int)) = false := decide_eq_false (by omega)
                have HN' : Hid (∀ k', k' < i + 1 → ∀ j, j < k' → fitB (T.getD j []) (T.getD k' []) = true) := fun k' hk' j hj => by
                  by_cases e : k' = i
                  · rw [e]; rw [e] at hj; exact HM.out j hj
                  · exact HN.out k' (by omega) j hj
                clear HM HN HTs HA HK HSr HBr HSk HB2
                go_wp2
                exact ⟨⟨i + 1, by omega, by go_num, HN'.out, HSi.out, HBi.out⟩, by simp [intOf]; omega⟩
          · as_aux_lemma =>
            have e : k = T.length := by omega
            subst e
            have dk : decide ((T.length : Int) < (T.length : Int)) = false := decide_eq_false (by omega)
            obtain ⟨hp, hq⟩ := HK.out.not HN.out
            subst hp
            subst hq
            clear HN HTs HK HSr HSk HB2
            go_wp2_with fail
            refine (HA.out _).mono ?_
            rintro e w6 ⟨rfl, hb6⟩
            have HB6 := hid (below_two HBr.out hb6)
            clear hb6
            go_wp2
            go_ret
            exact ⟨rfl, HB6.out⟩
  · as_aux_lemma =>
    have hT : T.length = ls.length := by omega
    have d0 : decide ((12 : Int) < (ls.length : Int)) = false := decide_eq_false (by omega)
    have d0' : decide (12 < ls.length) = false := decide_eq_false hl
    go_enter Try.func8, Try.ntmps8
    go_wp2
    go_loopw [3, 4] (fun v i w' => ∃ j : Nat, j ≤ T.length ∧ i = .int .i64 j ∧ Hid (w'.ownsRow w.heap.size 9 1 v j (scells (T.take j))) ∧ Hid (Below w.heap.size w w')) (fun _ i _ => T.length - (intOf i).toNat)
    case atStart => exact ⟨0, by omega, rfl, HO0.out, HB0.out⟩
    case round =>
      obtain ⟨j, hj, rfl, HR, HB⟩ := hrel
      by_cases hlt : j < T.length
      · as_aux_lemma =>
        have d1 : decide ((j : Int) < (ls.length : Int)) = true := decide_eq_true (by omega)
        have d1' : decide (j < ls.length) = true := decide_eq_true (by omega)
        have hne : ls ≠ [] := fun e => absurd (show ls.length = 0 by rw [e]; rfl) (by omega)
        obtain ⟨b, off, rfl, hc⟩ := HS.out.kept HB.out hne
        have cj := hc j (by omega)
        have HWj := hid (fun W => HW.out (ls.getD j []) W)
        have e1 := HTa.out j hlt
        rw [← e1] at HWj
        have HSt := hid (scells_step T j hlt)
        generalize ls.getD j [] = y at *
        generalize T.getD j [] = x at *
        have hsz := HB.out.size
        obtain ⟨ao, cp, hv⟩ := own_form HR.out
        subst hv
        clear hc HF HA HTs HTa HW e1 HS hne HO0 HB0
        have HlT := hid hlt
        have hj12 : j < 12 := by omega
        have hjN : j < ls.length := by omega
        clear hlt hj hT hTl d0 d0'
        go_wp2_with fail
        refine (HWj.out _).mono ?_
        rintro e v1 ⟨rfl, hw⟩
        subst v1
        go_wp2_with (first | (at_builtin; refine wpList_push (W := wr) rfl (.tmp 20) (.tmp 26) 39 9 rfl _ 16 Try.underlying39 info9 rfl (by omega) w.heap.size (.slice ao j cp) (.string ⟨x.toArray⟩) j (scells (T.take j)) rfl rfl HR.out rfl (by omega) hsz ?_; intro v3 w3 hr3 hg3 hat3; have HB3 : Hid (Below w.heap.size w w3) := (HB.out.alloc hsz _).grown hg3 (by simp; omega) (own_ge HR.out); have HR3 := hid hr3; clear hr3 hg3 hat3))
        rw [HSt.out] at HR3
        have hlt := HlT.out
        exact ⟨⟨j + 1, by omega, by go_num, HR3.out, HB3.out⟩, by simp [intOf]; omega⟩
      · as_aux_lemma =>
        obtain rfl : j = T.length := by omega
        have d1 : decide ((T.length : Int) < (ls.length : Int)) = false := decide_eq_false (by omega)
        have d1' : decide (T.length < ls.length) = false := decide_eq_false (by omega)
        obtain ⟨ao, cp, hv⟩ := own_form HR.out
        subst hv
        have HR1 := HR.out
        rw [List.take_length] at HR1
        have HSm := hid (strs_of_own rfl HR1)
        have HFm := hid (HF.out wr ao cp HSm.out)
        clear HR HR1 HF HS HO0 HB0 HTa HW hTl hT
        go_wp2_with fail
        refine HFm.out.mono ?_
        rintro e w2 ⟨⟨p, q, rfl, hfk⟩, hb2⟩
        have HB2 := hid (below_two HB.out hb2)
        have HSk := hid (HSm.out.kept hb2)
        have HK := hid hfk
        clear hfk hb2 HFm HSm HB
        go_wp2
        go_loopw [7] (fun v w' => ∃ k : Nat, k ≤ T.length ∧ v = .int .i64 k ∧ Hid (∀ k', k' < k → ∀ j, j < k' → fitB (T.getD j []) (T.getD k' []) = true) ∧ Hid (StrsAt w' ao T) ∧ Hid (Below w.heap.size w w')) (fun v _ => T.length - (intOf v).toNat)
        case atStart => exact ⟨0, by omega, rfl, fun k' hk' => absurd hk' (Nat.not_lt_zero k'), HSk.out, HB2.out⟩
        case round =>
          obtain ⟨k, hk, rfl, HN, HSr, HBr⟩ := hrel
          by_cases hkl : k < T.length
          · have dk : decide ((k : Int) < (T.length : Int)) = true := decide_eq_true (by omega)
            have dk' : decide (k < T.length) = true := decide_eq_true hkl
            go_wp2
            go_loopw [8] (fun v w' => ∃ i : Nat, i ≤ k ∧ v = .int .i64 i ∧ Hid (∀ j, j < i → fitB (T.getD j []) (T.getD k []) = true) ∧ Hid (StrsAt w' ao T) ∧ Hid (Below w.heap.size w w')) (fun v _ => k - (intOf v).toNat)
            case atStart => exact ⟨0, by omega, rfl, fun j hj => absurd hj (Nat.not_lt_zero j), HSr.out, HBr.out⟩
            case round =>
              obtain ⟨i, hi, rfl, HM, HSi, HBi⟩ := hrel
              by_cases hik : i < k
              · have di : decide ((i : Int) < (k : Int)) = true := decide_eq_true (by omega)
                have di' : decide (i < k) = true := decide_eq_true hik
                have hil : i < T.length := by omega
                obtain ⟨b, off, rfl, hc⟩ := HSi.out (fun e => absurd (show T.length = 0 by rw [e]; rfl) (by omega))
                have ci : ∀ dd os, (Sort.grow (redrawn wr dd) os).cell? ⟨b, off + i, none⟩ = some (.string ⟨(T.getD i []).toArray⟩) := fun dd os => cell_regrown (hc i hil) _ _
                have ck : ∀ dd os, (Sort.grow (redrawn wr dd) os).cell? ⟨b, off + k, none⟩ = some (.string ⟨(T.getD k []).toArray⟩) := fun dd os => cell_regrown (hc k hkl) _ _
                have HC : Hid (∀ dd os, Calls Try.prog 22 #[.string ⟨(T.getD i []).toArray⟩, .string ⟨(T.getD k []).toArray⟩] (Sort.grow (redrawn wr dd) os) fun e w'' => e = .returned (.bool (fitB (T.getD i []) (T.getD k []))) ∧ ∃ p : Regrown, w'' = Sort.grow (redrawn wr p.d) p.os) :=
                  fun dd os => Calls.regrown_of (rfit_any _ _ (by have := HTs.out i; omega) (by have := HTs.out k; omega) _)
                have HBg := hid (fun dq osq => HBi.out.trans ((below_regrown wr dq osq).mono HBi.out.size))
                have HSg := hid (fun dq osq => HSi.out.kept (below_regrown wr dq osq))
                cases hf : fitB (T.getD i []) (T.getD k []) with
                | true => as_aux_lemma =>
                  rw [hf] at HC
                  have HM' : Hid (∀ j, j < i + 1 → fitB (T.getD j []) (T.getD k []) = true) := fun j hj => by
                    by_cases e : j = i
                    · rw [e]; exact hf
                    · exact HM.out j (by omega)
                  clear hc HSi HBi HM hf HTs HA HN HK HSr HBr HSk HB2
                  generalize T.getD i [] = y at *
                  generalize T.getD k [] = z at *
                  go_wp2_with fail
                  refine wp_region_quiet_below (by kernel_rfl) (by kernel_rfl) ?_
                  repeat (first | go_big_quiet_step (exact HC.out _ _) | quiet_step (exact HC.out _ _))
                  refine wpQuiet_nil ?_
                  intro _ hw'
                  obtain ⟨⟨dq, osq⟩, hw''⟩ := hw'
                  subst hw''
                  have HBq := hid (HBg.out dq osq)
                  have HSq := hid (HSg.out dq osq)
                  generalize Sort.grow (redrawn wr dq) osq = w5 at *
                  clear HBg HSg HC ci ck
                  go_wp2
                  exact ⟨⟨i + 1, by omega, by go_num, HM'.out, HSq.out, HBq.out⟩, by simp [intOf]; omega⟩
                | false => as_aux_lemma =>
                  rw [hf] at HC
                  obtain ⟨hp, hq⟩ := HK.out.found hkl hik hf HM.out HN.out
                  subst hp
                  subst hq
                  clear hc HSi HBi HM hf HTs HN HK HSr HBr HSk HB2 HSg
                  generalize T.getD i [] = y at *
                  generalize T.getD k [] = z at *
                  go_wp2_with fail
                  refine wp_region_quiet_below (by kernel_rfl) (by kernel_rfl) ?_
                  repeat (first | go_big_quiet_step (exact HC.out _ _) | quiet_step (exact HC.out _ _))
                  refine wpQuiet_nil ?_
                  intro _ hw'
                  obtain ⟨⟨dq, osq⟩, hw''⟩ := hw'
                  subst hw''
                  have HBq := hid (HBg.out dq osq)
                  generalize Sort.grow (redrawn wr dq) osq = w5 at *
                  clear HBg HC ci ck
                  go_wp2_with fail
                  refine (HA.out _).mono ?_
                  rintro e w6 ⟨rfl, hb6⟩
                  have HB6 := hid (below_two HBq.out hb6)
                  clear hb6
                  go_wp2
                  go_ret
                  exact ⟨rfl, HB6.out⟩
              · as_aux_lemma =>
                have e : i = k := by omega
                subst e
                have di : decide ((i : Int) < (i : Int)) = false := decide_eq_false (by omega)
                have HN' : Hid (∀ k', k' < i + 1 → ∀ j, j < k' → fitB (T.getD j []) (T.getD k' []) = true) := fun k' hk' j hj => by
                  by_cases e : k' = i
                  · rw [e]; rw [e] at hj; exact HM.out j hj
                  · exact HN.out k' (by omega) j hj
                clear HM HN HTs HA HK HSr HBr HSk HB2
                go_wp2
                exact ⟨⟨i + 1, by omega, by go_num, HN'.out, HSi.out, HBi.out⟩, by simp [intOf]; omega⟩
          · as_aux_lemma =>
            have e : k = T.length := by omega
            subst e
            have dk : decide ((T.length : Int) < (T.length : Int)) = false := decide_eq_false (by omega)
            obtain ⟨hp, hq⟩ := HK.out.not HN.out
            subst hp
            subst hq
            clear HN HTs HK HSr HSk HB2
            go_wp2_with fail
            refine (HA.out _).mono ?_
            rintro e w6 ⟨rfl, hb6⟩
            have HB6 := hid (below_two HBr.out hb6)
            clear hb6
            go_wp2
            go_ret
            exact ⟨rfl, HB6.out⟩
end Go.Proofs.Ytpgelodcdclchaa.Hist
