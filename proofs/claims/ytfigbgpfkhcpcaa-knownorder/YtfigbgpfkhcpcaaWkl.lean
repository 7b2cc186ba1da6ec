/-
  The walk of KnownLines: words and owns are beginnings of the longest view, and counted operations stand at the same place in all.
-/
import Derived.Test.YtfigbgpfkhcpcaaWkd
namespace Go.Proofs.Ytfigbgpfkhcpcaa.Kn
open Go Go.RowKit
set_option maxRecDepth 100000

set_option maxHeartbeats 16000000 in
theorem lines_bad {w : World} (n me : Int) {ad : Option Addr} {len cap : Nat}
    (HM : Hid (∀ W, Below w.heap.size w W → Calls Try.prog 9 #[nu n, nu me, .slice ad len cap] W fun e w' => e = .returned (.tuple #[.pointer none, .pointer none, .bool true]) ∧ Below W.heap.size W w'))
    (HA : Hid (∀ W, Calls Try.prog 10 #[] W fun e w' => e = .returned (.bool true) ∧ Below W.heap.size W w')) :
    Calls Try.prog 4 #[nu n, nu me, .slice ad len cap] w fun e w' => e = .returned (.bool true) ∧ Below w.heap.size w w' := by
  go_enter Try.func4, Try.ntmps4
  go_wp2_with fail
  refine (HM.out _ (Below.refl _ _)).mono ?_
  rintro e W2 ⟨rfl, b2⟩
  have B2 := hid b2
  clear b2 HM
  go_wp2_with fail
  refine (HA.out _).mono ?_
  rintro e W3 ⟨rfl, b3⟩
  have B3 := hid (below_twoY B2.out b3 B2.out.size)
  clear b3
  go_wp2_with fail
  refine (HA.out _).mono ?_
  rintro e W4 ⟨rfl, b4⟩
  have B4 := hid (below_twoY B3.out b4 B3.out.size)
  clear b4
  go_wp2
  go_ret
  exact ⟨rfl, B4.out⟩
set_option maxHeartbeats 16000000 in
theorem lines_core {w : World} (n : Nat) (me : Int) {ad : Option Addr} {len cap : Nat} {T : List UInt8} {by' : Int} {tg : List UInt8} (ht : tg.length = 32) (hn8 : n ≤ 8) {S : Nat → Nat → World → Prop} {wd ow : Int → List UInt8} {SL : List Int} {ct : Nat → Nat} {pl : Nat → Int} {D0 : List Value}
    (HM : Hid (∀ W, Below w.heap.size w W → Calls Try.prog 9 #[nu n, nu me, .slice ad len cap] W fun e w' => ∃ p q, e = .returned (.tuple #[pt p 0, pt q 0, .bool true]) ∧ S p q w' ∧ Below W.heap.size W w'))
    (HA : Hid (∀ W, Calls Try.prog 10 #[] W fun e w' => e = .returned (.bool true) ∧ Below W.heap.size W w'))
    (HK : Hid (∀ p q W W', S p q W → Below W.heap.size W W' → S p q W'))
    (HW : Hid (∀ p q W c, S p q W → Calls Try.prog 11 #[pt p 0, nu c] W fun e w' => e = .returned (st (wd c)) ∧ Below W.heap.size W w'))
    (HO : Hid (∀ p q W c, S p q W → Calls Try.prog 13 #[pt p 0, nu c] W fun e w' => e = .returned (st (ow c)) ∧ Below W.heap.size W w'))
    (HL : Hid (∀ p q W, S p q W → Calls Try.prog 15 #[pt p 0] W fun e w' => e = .returned (.tuple #[st T, nu by', .agg (dg tg).toArray]) ∧ Below W.heap.size W w'))
    (HS : Hid (∀ p q W, S p q W → Calls Try.prog 18 #[pt p 0] W fun e w' => ∃ g, e = .returned (.slice (some ⟨g, 0, none⟩) n n) ∧ w'.heap[g]? = some (.cells (ic SL).toArray 3) ∧ Below W.heap.size W w'))
    (HSL : Hid (SL.length = n ∧ ∀ k, k < n → SL.getD k 0 = (ct k : Int)))
    (HG1 : Hid (∀ c W, Calls Try.prog 24 #[st T, st (wd c)] W fun e w' => e = .returned (.bool true) ∧ Below W.heap.size W w'))
    (HG2 : Hid (∀ c W, Calls Try.prog 24 #[st (wd c), st (ow c)] W fun e w' => e = .returned (.bool true) ∧ Below W.heap.size W w'))
    (HCt : Hid (∀ (k : Nat) W, Calls Try.prog 25 #[st (wd (k : Int)), nu me] W fun e w' => e = .returned (nu (ct k)) ∧ Below W.heap.size W w'))
    (HP1 : Hid (∀ (k m : Nat) W, 1 ≤ m → m ≤ ct k → Calls Try.prog 26 #[st (wd (k : Int)), nu me, nu m] W fun e w' => e = .returned (nu (pl m)) ∧ Below W.heap.size W w'))
    (HP2 : Hid (∀ (m : Nat) W, Calls Try.prog 26 #[st T, nu me, nu m] W fun e w' => e = .returned (nu (pl m)) ∧ Below W.heap.size W w'))
    (hD0 : dg (List.replicate 32 0) = D0) :
    Calls Try.prog 4 #[nu n, nu me, .slice ad len cap] w fun e w' => e = .returned (.bool true) ∧ Below w.heap.size w w' := by
  have hz := zeroDg
  have ZD := hid (sizeDg ht)
  have OD := hid (one_dg tg)
  have LD : Hid (D0.length = (dg tg).length) := hid (by rw [← hD0, dg_len, dg_len, ht, List.length_replicate])
  rw [hD0] at hz
  clear hD0
  go_enter Try.func4, Try.ntmps4
  go_wp2_with fail
  refine (HM.out _ (Below.refl _ _)).mono ?_
  rintro e W2 ⟨p, q, rfl, s2, b2⟩
  have B2 := hid b2
  have S2' := hid s2
  clear b2 HM s2
  go_wp2_with fail
  refine (HA.out _).mono ?_
  rintro e W3 ⟨rfl, b3⟩
  have B3 := hid (below_twoY B2.out b3 B2.out.size)
  have S3 := hid (HK.out _ _ _ _ S2'.out b3)
  clear b3 S2' B2 HA
  go_wp2_with fail
  refine (HL.out _ _ _ S3.out).mono ?_
  rintro e W4 ⟨rfl, b4⟩
  have S4 := hid (HK.out _ _ _ _ S3.out b4)
  have B4 := hid (below_twoY B3.out b4 B3.out.size)
  clear b4 B3 S3
  obtain ⟨X, hX⟩ : ∃ X, W4.heap.size = X := ⟨_, rfl⟩
  have T5 := hid (top_obj W4 (.cells D0.toArray 32))
  have B5 := hid (below_a1 W4 (.cells D0.toArray 32))
  rw [hX] at T5
  have HXe := hid hX
  clear hX
  go_upto_region 5 with (first
    | ((with_reducible refine wl_alloc 32 ?_ ?_ D0.toArray hz ?_); exact rfl; exact rfl; rw [HXe.out]; try simp only [Act.put, List.setIfInBounds_toArray, List.set_cons_zero, List.set_cons_succ])
    | ((with_reducible refine wl_put 32 (.tmp 12) (.tmp 44) ?_ ?_ X 0 ?_ ?_ [] (dg tg) D0 [] ?_ 32 (row_nilY T5.out) rfl LD.out OD.out ZD.out ?_); exact rfl; exact rfl; exact rfl; exact rfl; exact rfl; intro W6 r6 b6))
  have b6' := b6.below B5.out (by rw [HXe.out]; exact Nat.le_refl _)
  have S6 := hid (HK.out _ _ _ _ S4.out b6')
  have B6 := hid (below_twoY B4.out b6' B4.out.size)
  clear r6 b6 b6' T5 B5 S4 B4 HXe
  go_wp2_with fail
  refine (HS.out _ _ _ S6.out).mono ?_
  rintro e W7 ⟨g, rfl, r7, b7⟩
  have S7 := hid (HK.out _ _ _ _ S6.out b7)
  have B7 := hid (below_twoY B6.out b7 B6.out.size)
  have R7 := hid r7
  clear b7 r7 S6 B6 HS HL
  go_wp2
  go_loopw [14] (fun i wr => ∃ k : Nat, k ≤ n ∧ i = nu k ∧ Hid (S p q wr) ∧ Hid (wr.heap[g]? = some (.cells (ic SL).toArray 3)) ∧ Hid (Below w.heap.size w wr)) (fun i _ => n - (intOf i).toNat)
  case atStart => exact ⟨0, by omega, rfl, S7, R7, B7⟩
  case round =>
    obtain ⟨k, hk, rfl, HS', HR, HBl⟩ := hrel
    by_cases hlt : k < n
    · have d1 : decide ((k : Int) < (n : Int)) = true := decide_eq_true (by omega)
      have d1' : decide (k < n) = true := decide_eq_true hlt
      clear S7 R7 B7
      go_wp2_with fail
      refine (HW.out _ _ _ _ HS'.out).mono ?_
      rintro e W8 ⟨rfl, b8⟩
      have S8 := hid (HK.out _ _ _ _ HS'.out b8)
      have B8 := hid (below_twoY HBl.out b8 HBl.out.size)
      have R8 := hid (row_kept HR.out b8)
      clear b8 HS' HBl HR
      go_upto_region 10 with fail
      have hsa := HSL.out.2 k hlt
      have hsl := HSL.out.1
      have p0 : ∀ dd os, (Sort.grow (redrawn W8 dd) os).cell? ⟨g, 0 + k, none⟩ = some (nu (ct k)) := fun dd os => cell_regrown (by rw [← hsa]; exact ic_at R8.out k (by omega)) _ _
      have p0' : ∀ dd os, (Sort.grow (redrawn W8 dd) os).cell? ⟨g, k, none⟩ = some (nu (ct k)) := fun dd os => by have := p0 dd os; rwa [Nat.zero_add] at this
      have G1 : Hid (∀ d os, Calls Try.prog 24 #[st T, st (wd (k : Int))] (Sort.grow (redrawn W8 d) os) fun e w'' => e = .returned (.bool true) ∧ ∃ p : Regrown, w'' = Sort.grow (redrawn W8 p.d) p.os) := fun d os => Calls.regrown_of (HG1.out _ _)
      have G2 : Hid (∀ d os, Calls Try.prog 24 #[st (wd (k : Int)), st (ow (k : Int))] (Sort.grow (redrawn W8 d) os) fun e w'' => e = .returned (.bool true) ∧ ∃ p : Regrown, w'' = Sort.grow (redrawn W8 p.d) p.os) := fun d os => Calls.regrown_of (HG2.out _ _)
      have G3 : Hid (∀ d os, Calls Try.prog 13 #[pt p 0, nu (k : Int)] (Sort.grow (redrawn W8 d) os) fun e w'' => e = .returned (st (ow (k : Int))) ∧ ∃ p : Regrown, w'' = Sort.grow (redrawn W8 p.d) p.os) := fun d os => Calls.regrown_of (HO.out _ _ _ _ (HK.out _ _ _ _ S8.out (below_regrown W8 d os)))
      have G4 : Hid (∀ d os, Calls Try.prog 25 #[st (wd (k : Int)), nu me] (Sort.grow (redrawn W8 d) os) fun e w'' => e = .returned (nu (ct k)) ∧ ∃ p : Regrown, w'' = Sort.grow (redrawn W8 p.d) p.os) := fun d os => Calls.regrown_of (HCt.out _ _)
      have HPk := hid (fun (m : Nat) W h1 h2 => HP1.out k m W h1 h2)
      have HWr := hid (fun (W : World) (h : W.heap[g]? = some (.cells (ic SL).toArray 3)) => (by rw [← hsa]; exact ic_at h k (by omega) : W.cell? ⟨g, 0 + k, none⟩ = some (nu (ct k))))
      generalize hck : ct k = ck at *
      generalize hwk : wd (k : Int) = wk at *
      generalize hok : ow (k : Int) = ok at *
      refine wp_region_quiet_below (by kernel_rfl) (by kernel_rfl) ?_
      iterate 2 (first | go_big_quiet_step (fail) | quiet_step (fail))
      (first | go_big_quiet_step (exact G1.out _ _) | quiet_step (exact G1.out _ _))
      iterate 5 (first | go_big_quiet_step (fail) | quiet_step (fail))
      (first | go_big_quiet_step (exact G3.out _ _) | quiet_step (exact G3.out _ _))
      (first | go_big_quiet_step (exact G2.out _ _) | quiet_step (exact G2.out _ _))
      iterate 15 (first | go_big_quiet_step (fail) | quiet_step (fail))
      (first | go_big_quiet_step (exact G4.out _ _) | quiet_step (exact G4.out _ _))
      iterate 2 (first | go_big_quiet_step (fail) | quiet_step (fail))
      refine wpQuiet_nil ?_
      intro _ hw'
      obtain ⟨⟨dq, osq⟩, hw''⟩ := hw'
      subst hw''
      have bq := below_regrown W8 dq osq
      have S9 := hid (HK.out _ _ _ _ S8.out bq)
      have B9 := hid (below_twoY B8.out bq B8.out.size)
      have R9 := hid (row_kept R8.out bq)
      generalize Sort.grow (redrawn W8 dq) osq = W9 at *
      clear bq p0 p0' G1 G2 G3 G4 S8 B8 R8
      clear hsa hck hwk hok
      go_wp2
      go_loopw [16] (fun i wr => ∃ m : Nat, 1 ≤ m ∧ m ≤ 30 ∧ i = nu m ∧ Hid (S p q wr) ∧ Hid (wr.heap[g]? = some (.cells (ic SL).toArray 3)) ∧ Hid (Below w.heap.size w wr)) (fun i _ => 30 - (intOf i).toNat)
      case atStart => exact ⟨1, by omega, by omega, rfl, S9, R9, B9⟩
      case round =>
        obtain ⟨m, hm1, hm30, rfl, HS2, HR2, HB2⟩ := hrel
        have c0 := HWr.out _ HR2.out
        have c1 := c0
        rw [Nat.zero_add] at c1
        by_cases hm : m ≤ ck
        · have e1 : decide ((m : Int) ≤ (ck : Int)) = true := decide_eq_true (by omega)
          have e1' : decide (m ≤ ck) = true := decide_eq_true hm
          by_cases hm3 : m < 30
          · have e2 : decide ((m : Int) < 30) = true := decide_eq_true (by omega)
            have e2' : decide (m < 30) = true := decide_eq_true hm3
            have Q1 := hid (fun W => HPk.out m W hm1 hm)
            clear S9 R9 B9
            go_wp2_with fail
            refine (Q1.out _).mono ?_
            rintro e V1 ⟨rfl, v1⟩
            have S10 := hid (HK.out _ _ _ _ HS2.out v1)
            have B10 := hid (below_twoY HB2.out v1 HB2.out.size)
            have R10 := hid (row_kept HR2.out v1)
            clear v1 c0 c1
            go_wp2_with fail
            refine (HP2.out m _).mono ?_
            rintro e V2 ⟨rfl, v2⟩
            have S11 := hid (HK.out _ _ _ _ S10.out v2)
            have B11 := hid (below_twoY B10.out v2 B10.out.size)
            have R11 := hid (row_kept R10.out v2)
            clear v2 S10 B10 R10
            go_wp2
            exact ⟨⟨m + 1, by omega, by omega, by go_num, S11, R11, B11⟩, by simp [intOf]; omega⟩
          · have e2 : decide ((m : Int) < 30) = false := decide_eq_false (by omega)
            have e2' : decide (m < 30) = false := decide_eq_false hm3
            go_wp2
            exact ⟨⟨k + 1, by omega, by go_num, HS2, HR2, HB2⟩, by simp [intOf]; omega⟩
        · have e1 : decide ((m : Int) ≤ (ck : Int)) = false := decide_eq_false (by omega)
          have e1' : decide (m ≤ ck) = false := decide_eq_false hm
          go_wp2
          exact ⟨⟨k + 1, by omega, by go_num, HS2, HR2, HB2⟩, by simp [intOf]; omega⟩
    · have d1 : decide ((k : Int) < (n : Int)) = false := decide_eq_false (by omega)
      have d1' : decide (k < n) = false := decide_eq_false hlt
      go_wp2
      go_ret
      exact ⟨rfl, HBl.out⟩
theorem lines_walk (w : World) (n me : Int) {ad : Option Addr} {M : List Ln} {cap : Nat} (hM : LinesAt w ad M) :
    Calls Try.prog 4 #[nu n, nu me, .slice ad M.length cap] w fun e w' => e = .returned (.bool true) ∧ Below w.heap.size w w' := by
  by_cases hb : n < 2 ∨ 8 < n ∨ me < 0 ∨ n ≤ me
  · exact lines_bad n me (hid fun W _ => (made_bad n me hb (a := ad) (M := M) (cap := cap) (w := W)).mono fun e w' h => ⟨h.1, h.2 ▸ Below.refl _ _⟩) (hid fun W => awake_any W)
  · obtain ⟨n', rfl⟩ : ∃ n' : Nat, n = (n' : Int) := ⟨n.toNat, by omega⟩
    obtain ⟨me', rfl⟩ : ∃ m' : Nat, me = (m' : Int) := ⟨me.toNat, by omega⟩
    obtain ⟨L, hL⟩ : ∃ L, allL n' (fewL M) = L := ⟨_, rfl⟩
    have hpi : PI n' L := by
      rw [← hL]
      exact all_pi _ _ fun x hx => hM.1 x (few_mem M x hx)
    have hl512 := hpi.long
    have hwl : ∀ c, (word L c).length ≤ 512 := fun c => Nat.le_trans (word_long L c).length_le hl512
    refine lines_core (S := fun p q W => KAt W p n' me' L) (T := longL L) (by' := (topL L).byc) (tg := (topL L).tag) (wd := fun c => word L c) (ow := fun c => ownv L c) (SL := stL n' me' L) (ct := fun k => Hist.cnt (word L (k : Int)) me') (pl := fun m => Hist.placeI (longL L) me' m) n' me' hpi.tag (by omega) ?_ (hid fun W => awake_any W)
      (hid fun p q W W' h b => h.kept b)
      (hid fun p q W c h => word_any h c)
      (hid fun p q W c h => own_any h c)
      (hid fun p q W h => longest_any h)
      (hid fun p q W h => by
        refine (stable_any h).mono ?_
        rintro e w' ⟨g, rfl, -, hg, b⟩
        exact ⟨g, rfl, hg, b⟩)
      (hid ⟨st_len n' me' L, fun k hk => st_at n' me' L hk⟩)
      (hid fun c W => by
        have hg : Hist.goesB (longL L) (word L c) = true := (Hist.goes_pre _ _).2 (word_long L c)
        exact (Hist.rgoes_any _ _ (by omega) W).mono fun e w' h => by rw [hg] at h; first | exact ⟨h.1, h.2 ▸ Below.refl _ _⟩ | exact h)
      (hid fun c W => by
        have hg : Hist.goesB (word L c) (ownv L c) = true := (Hist.goes_pre _ _).2 (own_word L c)
        exact (Hist.rgoes_any _ _ (by have := hwl c; omega) W).mono fun e w' h => by rw [hg] at h; first | exact ⟨h.1, h.2 ▸ Below.refl _ _⟩ | exact h)
      (hid fun k W => (Hist.rcount_any _ (by have := hwl (k : Int); omega) _ W).mono fun e w' h => by first | exact ⟨h.1, h.2 ▸ Below.refl _ _⟩ | exact h)
      (hid fun k m W h1 h2 => by
        obtain ⟨z, hz⟩ := word_long L (k : Int)
        have hp : Hist.placeI (longL L) me' m = Hist.placeI (word L (k : Int)) me' m := by
          rw [← hz]
          exact Hist.place_app _ _ _ m h1 h2
        refine (Hist.rplace_any _ (by have := hwl (k : Int); omega) _ _ W).mono fun e w' h => ?_
        rw [← hp] at h
        first | exact ⟨h.1, h.2 ▸ Below.refl _ _⟩ | exact h)
      (hid fun m W => (Hist.rplace_any _ (by omega) _ _ W).mono fun e w' h => by first | exact ⟨h.1, h.2 ▸ Below.refl _ _⟩ | exact h)
      rfl
    refine hid fun W hb' => ?_
    refine (made_ok n' me' (by omega) (by omega) (by omega) (hM.kept hb')).mono ?_
    rintro e w' ⟨p, q, v, rfl, k, r, -, -, b'⟩
    rw [hL] at k
    exact ⟨p, q, rfl, k, b'⟩
end Go.Proofs.Ytfigbgpfkhcpcaa.Kn
