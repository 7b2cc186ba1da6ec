/-
  What hist.Fork answers: the first two of a list that do not fit.
-/
import Derived.Test.YtpgelodcdclchaaHpf
import Derived.Test.YtpgelodcdclchaaHgo
namespace Go.Proofs.Ytpgelodcdclchaa.Hist
open Go Go.RowKit
set_option maxRecDepth 100000

/-- A list of texts in memory. -/
def StrsAt (w : World) (a : Option Addr) (ls : List (List UInt8)) : Prop := ls ≠ [] → ∃ b off, a = some ⟨b, off, none⟩ ∧ ∀ j, j < ls.length → w.cell? ⟨b, off + j, none⟩ = some (.string ⟨(ls.getD j []).toArray⟩)
theorem StrsAt.kept {w w' : World} {a : Option Addr} {ls : List (List UInt8)} (h : StrsAt w a ls) (hb : Below w.heap.size w w') : StrsAt w' a ls := fun hne => by
  obtain ⟨b, off, rfl, hc⟩ := h hne
  exact ⟨b, off, rfl, fun j hj => (hb.cell (p := ⟨b, off + j, none⟩) (World.block_lt_of_cell? w _ (hc j hj))).trans (hc j hj)⟩

section
variable {w : World} {bh : Nat} {h : List UInt8} {a : Option Addr} {ls : List (List UInt8)}
set_option maxHeartbeats 2000000 in
theorem fork1_any (x : List UInt8) (hb : w.heap[bh]? = some (.cells #[.string ⟨h.toArray⟩] 9)) : Calls Try.prog 31 #[.string ⟨x.toArray⟩, .pointer (some ⟨bh, 0, none⟩)] w fun e w' => e = .returned (.bool (!fitB x h)) ∧ w' = w := by
  have c0 : w.cell? ⟨bh, 0, none⟩ = some (.string ⟨h.toArray⟩) := by rw [cell_of_row _ _ _ _ _ _ hb]; rfl
  have HF := hid (fit_any x h w)
  generalize fitB x h = r at *
  clear hb
  go_enter Try.func31, Try.ntmps31
  go_wp2_with fail
  refine HF.out.mono ?_
  rintro e w1 ⟨rfl, hw⟩
  subst w1
  go_wp2
  go_ret
  exact ⟨rfl, rfl⟩

set_option maxHeartbeats 2000000 in
theorem index_found (cap : Nat) (hs : StrsAt w a ls) (hb : w.heap[bh]? = some (.cells #[.string ⟨h.toArray⟩] 9)) (hl : ls.length < 9223372036854775807) (i : Nat) (hi : i < ls.length) (hn : fitB (ls.getD i []) h = false) (h1 : ∀ j, j < i → fitB (ls.getD j []) h = true) :
    Calls Try.prog 30 #[.slice a ls.length cap, .func (.func 31) #[] #[.pointer (some ⟨bh, 0, none⟩)]] w fun e w' => e = .returned (.int .i64 i) ∧ w' = w := by
  obtain ⟨b, off, rfl, hc⟩ := hs (by intro e; rw [e] at hi; exact absurd hi (Nat.not_lt_zero i))
  have HF := hid (fun x => fork1_any (w := w) x hb)
  have HC := hid hc
  have HN := hid hn
  have H1 := hid h1
  clear hs hb hc hn h1
  go_enter Try.func30, Try.ntmps30
  go_wp2
  go_loopw [8] (fun v w' => ∃ j : Nat, j ≤ i ∧ v = .int .i64 j ∧ w' = w) (fun v _ => i - (intOf v).toNat)
  case atStart => exact ⟨0, by omega, rfl, rfl⟩
  case round =>
    obtain ⟨j, hj, rfl, hw⟩ := hrel
    subst wr
    have d1 : decide ((j : Int) < (ls.length : Int)) = true := by simp; omega
    have cj := HC.out j (by omega)
    by_cases hlt : j < i
    · have HFj := hid (HF.out (ls.getD j []))
      rw [H1.out j hlt] at HFj
      generalize ls.getD j [] = x at *
      clear HF HC HN H1
      go_wp2_with fail
      refine HFj.out.mono ?_
      rintro e w1 ⟨rfl, hw⟩
      subst w1
      go_wp2
      exact ⟨⟨j + 1, by omega, by go_num, trivial⟩, by simp [intOf]; omega⟩
    · obtain rfl : j = i := by omega
      have HFj := hid (HF.out (ls.getD j []))
      rw [HN.out] at HFj
      generalize ls.getD j [] = x at *
      clear HF HC HN H1
      go_wp2_with fail
      refine HFj.out.mono ?_
      rintro e w1 ⟨rfl, hw⟩
      subst w1
      go_wp2
      go_ret
      exact ⟨rfl, rfl⟩

set_option maxHeartbeats 2000000 in
theorem fork_any (cap : Nat) (hs : StrsAt w a ls) (hl : ls.length < 9223372036854775807) (hsz : ∀ j, (ls.getD j []).length < 9223372036854775807) :
    Calls Try.prog 26 #[.slice a ls.length cap] w fun e w' => (∃ p q : Int, e = .returned (.tuple #[.int .i64 p, .int .i64 q]) ∧ IsFork ls p q) ∧ Below w.heap.size w w' := by
  have HS := hid hs
  have HZ := hid hsz
  have HB0 := hid (Below.refl w.heap.size w)
  clear hs hsz
  go_enter Try.func26, Try.ntmps26
  go_wp2
  go_loopw [4, 10] (fun v i w' => ∃ (k : Nat) (L : List UInt8), k ≤ ls.length ∧ i = .int .i64 k ∧ v = .string ⟨L.toArray⟩ ∧ Hid (FInv ls k L) ∧ Hid (Below w.heap.size w w')) (fun _ i _ => ls.length - (intOf i).toNat)
  case atStart => exact ⟨0, [], by omega, rfl, rfl, FInv.zero ls, HB0.out⟩
  case round =>
    obtain ⟨k, L, hk, rfl, rfl, HI, HB⟩ := hrel
    by_cases hlt : k < ls.length
    · have d1 : decide ((k : Int) < (ls.length : Int)) = true := by simp; omega
      have hne : ls ≠ [] := by intro e; rw [e] at hlt; exact absurd hlt (Nat.not_lt_zero k)
      have hs1 := HS.out.kept HB.out
      obtain ⟨b, off, rfl, hc⟩ := hs1 hne
      have ck := hc k hlt
      have HFt := hid (fun W => fit_any L (ls.getD k []) W)
      have hb1 : Below wr.heap.size wr (wr.alloc (.cells #[.string ⟨(ls.getD k []).toArray⟩] 9)) := (Below.refl _ wr).alloc (Nat.le_refl _) _
      have HB1 := hid (below_two HB.out hb1)
      have HS2 := hid (hs1.kept hb1)
      have HT := hid (top_obj wr (.cells #[.string ⟨(ls.getD k []).toArray⟩] 9))
      have hLs : (⟨L.toArray⟩ : ByteArray).size = L.length := rfl
      have hks : (⟨(ls.getD k []).toArray⟩ : ByteArray).size = (ls.getD k []).length := rfl
      cases hf : fitB L (ls.getD k []) with
      | true =>
        rw [hf] at HFt
        by_cases hg : L.length < (ls.getD k []).length
        · have HI2 := hid (HI.out.long hf hg)
          have d2 : decide ((L.length : Int) < ((ls.getD k []).length : Int)) = true := decide_eq_true (by omega)
          have d3 : decide (L.length < (ls.getD k []).length) = true := decide_eq_true hg
          clear HI hf hg hs1 hc hb1 HS2 HT
          generalize ls.getD k [] = x at *
          go_wp2_with fail
          refine (HFt.out _).mono ?_
          rintro e w1 ⟨rfl, hw⟩
          subst w1
          go_wp2
          exact ⟨⟨k + 1, x, by omega, by go_num, rfl, HI2.out, HB1.out⟩, by simp [intOf]; omega⟩
        · have HI2 := hid (HI.out.same hf hg)
          have d2 : decide ((L.length : Int) < ((ls.getD k []).length : Int)) = false := decide_eq_false (by omega)
          have d3 : decide (L.length < (ls.getD k []).length) = false := decide_eq_false hg
          clear HI hf hg hs1 hc hb1 HS2 HT
          generalize ls.getD k [] = x at *
          go_wp2_with fail
          refine (HFt.out _).mono ?_
          rintro e w1 ⟨rfl, hw⟩
          subst w1
          go_wp2
          exact ⟨⟨k + 1, L, by omega, by go_num, rfl, HI2.out, HB1.out⟩, by simp [intOf]; omega⟩
      | false =>
        rw [hf] at HFt
        obtain ⟨i, hi, h1, h2, hfk⟩ := HI.out.bad hlt hf
        have HIx := hid (index_found cap HS2.out HT.out hl i hi h1 h2)
        have HK := hid hfk
        clear HI hf hs1 hc hb1 HS2 HT hi h1 h2 hfk
        generalize ls.getD k [] = x at *
        go_wp2_with fail
        refine (HFt.out _).mono ?_
        rintro e w1 ⟨rfl, hw⟩
        subst w1
        go_wp2_with fail
        refine HIx.out.mono ?_
        rintro e w1 ⟨rfl, hw⟩
        subst w1
        go_wp2
        go_ret2
        exact ⟨⟨_, _, rfl, HK.out⟩, HB1.out⟩
    · obtain rfl : k = ls.length := by omega
      have HK := hid HI.out.done
      clear HI
      go_wp2
      go_ret2
      exact ⟨⟨_, _, rfl, HK.out⟩, HB.out⟩
end
end Go.Proofs.Ytpgelodcdclchaa.Hist
