/-
  The document's store in memory: where a blob stands, how many and how many bytes an owner has.
-/
import Derived.Test.YtjpclmkkccffhaaBnm
namespace Go.Proofs.Ytjpclmkkccffhaa.Bl
open Go Go.RowKit Go.Maps
set_option maxRecDepth 100000

def flatB (L : List Blo) : List Value := L.flatMap bloC
theorem flat_len : ∀ {L : List Blo}, (∀ b ∈ L, b.Wf) → (flatB L).length = L.length * 35
  | [], _ => rfl
  | b :: L, h => by
    have ih := flat_len (L := L) (fun x hx => h x (by simp [hx]))
    unfold flatB at ih ⊢
    rw [List.flatMap_cons, List.length_append, ih, bloC_len (h b (by simp)), List.length_cons]
    omega
theorem flat_app (L M : List Blo) : flatB (L ++ M) = flatB L ++ flatB M := by simp [flatB]
theorem flat_one (b : Blo) : flatB [b] = bloC b := by simp [flatB]
theorem flat_cut {L : List Blo} {k : Nat} (hk : k < L.length) : flatB L = flatB (L.take k) ++ (bloC L[k] ++ flatB (L.drop (k + 1))) := by
  have e : L = L.take k ++ ([L[k]] ++ L.drop (k + 1)) := by
    rw [List.singleton_append, ← List.drop_eq_getElem_cons hk, List.take_append_drop]
  conv => lhs; rw [e]
  rw [flat_app, flat_app, flat_one]
/-- A list of blobs of one's own. -/
abbrev OwnB (w : World) (base : Nat) (v : Value) (L : List Blo) : Prop := w.ownsRow base 33 35 v L.length (flatB L)
/-- The document's store in block r: its list v. -/
structure RfAt (w : World) (r : Nat) (v : Value) (L : List Blo) : Prop where
  obj : w.heap[r]? = some (.cells #[v] 45)
  row : OwnB w 0 v L
  inv : Inv L
section
variable {w w' : World} {r : Nat} {v : Value} {L : List Blo}
theorem RfAt.cell (h : RfAt w r v L) : w.cell? ⟨r, 0, none⟩ = some v := by rw [cell_of_row _ _ _ _ _ _ h.obj]; rfl
theorem RfAt.kp {X : List Nat} (h : RfAt w r v L) (hk : Kp X w w') (h1 : r ∉ X) (h2 : ∀ k, v.ownBlock = some k → k ∉ X) : RfAt w' r v L :=
  ⟨hk.row h.obj h1, own_same h.row (fun k hv => hk.block k (own_lt h.row k hv) (h2 k hv)), h.inv⟩
theorem RfAt.kept (h : RfAt w r v L) (hb : Below w.heap.size w w') : RfAt w' r v L := h.kp (X := []) (Kp.of hb) (by simp) (by simp)
/-- The list's own row is neither the store nor what a map lies in. -/
theorem own_ne {b base : Nat} {o : Obj} (h : OwnB w base v L) (hb : w.heap[b]? = some o) (ho : ∀ cur, o ≠ .cells cur 33 (0, 0)) : ∀ k, v.ownBlock = some k → k ≠ b := by
  intro k hk e
  subst e
  rcases h.2 with ⟨rfl, -⟩ | ⟨g, cap, cur, rfl, hg, h2, -⟩
  · cases hk
  · cases hk
    rw [hb] at h2
    cases h2
    exact ho cur rfl
theorem RfAt.ne (h : RfAt w r v L) : ∀ k, v.ownBlock = some k → k ≠ r := own_ne h.row h.obj (by intro cur e; cases e)
/-- What the k-th blob's cells hold. -/
theorem OwnB.at (h : OwnB w 0 v L) (hI : Inv L) {k : Nat} (hk : k < L.length) : ∃ g cap, v = .slice (some ⟨g, 0, none⟩) L.length cap ∧ ∀ j c, (bloC L[k])[j]? = some c → w.cell? ⟨g, k * 35 + j, none⟩ = some c := by
  rcases h.2 with ⟨-, h0⟩ | ⟨g, cap, cur, rfl, hg, h2, -, -, hcur, htk⟩
  · omega
  · refine ⟨g, cap, rfl, fun j c hj => ?_⟩
    have hjl : j < 35 := by
      have := (List.getElem?_eq_some_iff.1 hj).1
      rwa [bloC_len (hI.ok _ (List.getElem_mem hk)).2] at this
    have h1 : (flatB L)[k * 35 + j]? = some c := by
      rw [flat_cut hk]
      refine mid_at _ _ _ (k * 35) j c ?_ hj
      rw [flat_len (fun b hb => (hI.ok b (List.take_subset _ _ hb)).2)]
      simp
      omega
    rw [← htk, List.getElem?_take_of_lt (by
      have : (k + 1) * 35 ≤ L.length * 35 := Nat.mul_le_mul_right 35 hk
      omega)] at h1
    rw [cell_of_row _ _ _ _ _ _ h2]
    simpa using h1
theorem OwnB.nil_val (h : OwnB w 0 v L) : ∃ a cap, v = .slice a L.length cap := by
  rcases h.2 with ⟨rfl, h0⟩ | ⟨g, cap, cur, rfl, -⟩
  · exact ⟨none, 0, by rw [h0]⟩
  · exact ⟨_, _, rfl⟩
end
/-- A blob's place; below 0: there is none. -/
def atI (L : List Blo) (o n : Int) : Int := match L.findIdx? (hitB o n) with | some i => (i : Int) | none => -1
theorem any_take_succ {L : List Blo} {k : Nat} (hk : k < L.length) (p : Blo → Bool) : (L.take (k + 1)).any p = ((L.take k).any p || p L[k]) := by
  rw [List.take_succ_eq_append_getElem hk, List.any_append]
  simp
theorem atI_here {L : List Blo} {k : Nat} {o n : Int} (hk : k < L.length) (h0 : (L.take k).any (hitB o n) = false) (h1 : hitB o n L[k] = true) : atI L o n = k := by
  unfold atI
  have : L.findIdx? (hitB o n) = some k := by
    rw [List.findIdx?_eq_some_iff_getElem]
    refine ⟨hk, h1, fun j hj => ?_⟩
    have := List.any_eq_false.1 h0 L[j] (List.mem_take_iff_getElem.2 ⟨j, by omega, rfl⟩)
    simpa using this
  rw [this]
theorem atI_none {L : List Blo} {o n : Int} (h0 : L.any (hitB o n) = false) : atI L o n = -1 := by
  unfold atI
  have : L.findIdx? (hitB o n) = none := by
    rw [List.findIdx?_eq_none_iff]
    intro x hx
    have := List.any_eq_false.1 h0 x hx
    simpa using this
  rw [this]

set_option maxHeartbeats 2000000 in
theorem at_any {w : World} {r : Nat} {v : Value} {L : List Blo} (h : RfAt w r v L) (o n : Int) : Calls Try.prog 27 #[ptr r 0, nu o, nu n] w fun e w' => e = .returned (nu (atI L o n)) ∧ w' = w := by
  have H := hid h
  have c0 := h.cell
  have hL := h.inv.len
  obtain ⟨va, vc, hv⟩ := h.row.nil_val
  subst hv
  clear h
  go_enter Try.func27, Try.ntmps27
  go_wp2
  go_loopw [7] (fun i wr => ∃ k : Nat, k ≤ L.length ∧ i = nu k ∧ Hid ((L.take k).any (hitB o n) = false) ∧ wr = w) (fun i _ => L.length - (intOf i).toNat)
  case atStart => exact ⟨0, by omega, rfl, hid (by simp), rfl⟩
  case round =>
    obtain ⟨k, hk, rfl, HN, hwr⟩ := hrel
    subst wr
    by_cases hlt : k < L.length
    · have d1 : decide ((k : Int) < (L.length : Int)) = true := by simpa using hlt
      obtain ⟨g, cap, e1, hc⟩ := H.out.row.at H.out.inv hlt
      cases e1
      have b0 : w.cell? ⟨g, k * 35, none⟩ = some (nu L[k].owner) := hc 0 _ rfl
      have b1 : w.cell? ⟨g, k * 35 + 1, none⟩ = some (nu L[k].number) := hc 1 _ rfl
      have HA := hid (any_take_succ hlt (hitB o n))
      have HX := hid (fun h1 => atI_here hlt HN.out (o := o) (n := n) h1)
      have HI := hid (hitB_iff o n L[k])
      clear hc
      generalize L[k] = b at *
      by_cases hbo : b.owner = o
      · have d2 : (b.owner == o) = true := by simp [hbo]
        by_cases hbn : b.number = n
        · have d3 : (b.number == n) = true := by simp [hbn]
          have HR := hid (HX.out (HI.out.2 ⟨hbo, hbn⟩))
          clear HX HI HA hbo hbn
          go_wp2
          go_ret
          exact ⟨by rw [HR.out]; rfl, rfl⟩
        · have d3 : (b.number == n) = false := by simp [hbn]
          have hh : hitB o n b = false := by simp [hitB, hbn]
          have HN2 : Hid ((L.take (k + 1)).any (hitB o n) = false) := by
            show _ = _
            rw [HA.out, HN.out, hh]
            rfl
          clear HX HI HA hbo hbn hh
          go_wp2
          go_roundw
          case rel => exact ⟨k + 1, by omega, by go_num, HN2, trivial⟩
          case measure => simp [intOf]; omega
      · have d2 : (b.owner == o) = false := by simp [hbo]
        have hh : hitB o n b = false := by simp [hitB, hbo]
        have HN2 : Hid ((L.take (k + 1)).any (hitB o n) = false) := by
          show _ = _
          rw [HA.out, HN.out, hh]
          rfl
        clear HX HI HA hbo hh
        go_wp2
        go_roundw
        case rel => exact ⟨k + 1, by omega, by go_num, HN2, trivial⟩
        case measure => simp [intOf]; omega
    · have d1 : decide ((k : Int) < (L.length : Int)) = false := by simpa using hlt
      have HR : Hid (atI L o n = -1) := by
        have h1 := HN.out
        rw [List.take_of_length_le (by omega)] at h1
        exact atI_none h1
      go_wp2
      go_ret
      exact ⟨by rw [HR.out]; rfl, rfl⟩
theorem cnt_take {L : List Blo} {k : Nat} (hk : k < L.length) (o : Int) : cntO (L.take (k + 1)) o = cntO (L.take k) o + (if L[k].owner = o then 1 else 0) := by
  rw [List.take_succ_eq_append_getElem hk, cnt_snoc]
theorem byt_take {L : List Blo} {k : Nat} (hk : k < L.length) (o : Int) : bytO (L.take (k + 1)) o = bytO (L.take k) o + (if L[k].owner = o then L[k].cipher.length else 0) := by
  rw [List.take_succ_eq_append_getElem hk, byt_snoc]
set_option maxHeartbeats 2000000 in
theorem rused_any {w : World} {r : Nat} {v : Value} {L : List Blo} (h : RfAt w r v L) (o : Int) : Calls Try.prog 18 #[ptr r 0, nu o] w fun e w' => e = .returned (.tuple #[nu (cntO L o), nu (bytO L o)]) ∧ w' = w := by
  have H := hid h
  have c0 := h.cell
  have hL := h.inv.len
  obtain ⟨va, vc, hv⟩ := h.row.nil_val
  subst hv
  clear h
  go_enter Try.func18, Try.ntmps18
  go_wp2
  go_loopw [6, 7, 8] (fun c b i wr => ∃ k : Nat, k ≤ L.length ∧ c = nu (cntO (L.take k) o) ∧ b = nu (bytO (L.take k) o) ∧ i = nu k ∧ wr = w) (fun _ _ i _ => L.length - (intOf i).toNat)
  case atStart => exact ⟨0, by omega, rfl, rfl, rfl, rfl⟩
  case round =>
    obtain ⟨k, hk, rfl, rfl, rfl, hwr⟩ := hrel
    subst wr
    by_cases hlt : k < L.length
    · have d1 : decide ((k : Int) < (L.length : Int)) = true := by simpa using hlt
      obtain ⟨g, cap, e1, hc⟩ := H.out.row.at H.out.inv hlt
      cases e1
      have b0 : w.cell? ⟨g, k * 35, none⟩ = some (nu L[k].owner) := hc 0 _ rfl
      have b2 : w.cell? ⟨g, k * 35 + 2, none⟩ = some (st L[k].cipher) := hc 2 _ rfl
      have hcl := cnt_le (dn := L.take (k + 1)) (left := L.drop (k + 1)) (L := L) (by rw [List.take_append_drop]) H.out.inv o
      have HC := hid (cnt_take hlt o)
      have HB := hid (byt_take hlt o)
      rw [HC.out, HB.out] at hcl
      have hsz : (⟨L[k].cipher.toArray⟩ : ByteArray).size = L[k].cipher.length := rfl
      clear hc
      generalize L[k] = b at *
      by_cases hbo : b.owner = o
      · have d2 : (b.owner == o) = true := by simp [hbo]
        rw [if_pos hbo] at HC HB
        rw [if_pos hbo, if_pos hbo] at hcl
        clear hbo
        go_wp2
        go_roundw
        case rel => exact ⟨k + 1, by omega, by rw [HC.out]; go_num, by rw [HB.out]; go_num, by go_num, trivial⟩
        case measure => simp [intOf]; omega
      · have d2 : (b.owner == o) = false := by simp [hbo]
        have HC' : Hid (cntO (L.take (k + 1)) o = cntO (L.take k) o) := by
          show _ = _
          rw [HC.out, if_neg hbo]; rfl
        have HB' : Hid (bytO (L.take (k + 1)) o = bytO (L.take k) o) := by
          show _ = _
          rw [HB.out, if_neg hbo]; rfl
        clear hbo hcl
        go_wp2
        go_roundw
        case rel => exact ⟨k + 1, by omega, by rw [HC'.out], by rw [HB'.out], by go_num, trivial⟩
        case measure => simp [intOf]; omega
    · have d1 : decide ((k : Int) < (L.length : Int)) = false := by simpa using hlt
      have hke : L.take k = L := List.take_of_length_le (by omega)
      have HR : Hid (cntO (L.take k) o = cntO L o ∧ bytO (L.take k) o = bytO L o) := by
        show _ ∧ _
        rw [hke]
        exact ⟨rfl, rfl⟩
      clear hke
      go_wp2
      go_ret2
      exact ⟨by rw [← HR.out.1, ← HR.out.2]; rfl, rfl⟩
end Go.Proofs.Ytjpclmkkccffhaa.Bl
