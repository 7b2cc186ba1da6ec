/-
  What the reference answers: Word, Own, Longest.
-/
import Derived.Test.YtfigbgpfkhcpcaaIin
namespace Go.Proofs.Ytfigbgpfkhcpcaa.Kn
open Go Go.RowKit
set_option maxRecDepth 100000

theorem fold_take {α : Type} (F : α → Ln → α) (z : α) (L : List Ln) (k : Nat) (hk : k < L.length) : (L.take (k + 1)).foldl F z = F ((L.take k).foldl F z) L[k] := by
  rw [List.take_succ_eq_append_getElem hk, List.foldl_append]
  rfl
theorem RAt.at {w : World} {q n me : Nat} {v : Value} {L : List Ln} (h : RAt w q v n me L) {k : Nat} (hk : k < L.length) : ∃ g cap, v = .slice (some ⟨g, 0, none⟩) L.length cap ∧ ∀ j c, (lnC L[k])[j]? = some c → w.cell? ⟨g, k * 35 + j, none⟩ = some c := OwnB.at h.row h.inv.wf hk
set_option maxHeartbeats 4000000 in
theorem rword_any {w : World} {q n me : Nat} {v : Value} {L : List Ln} (h : RAt w q v n me L) (c : Int) : Calls Try.prog 12 #[pt q 0, nu c] w fun e w' => e = .returned (st (word L c)) ∧ w' = w := by
  rw [← h.inv.word c]
  have H := hid h
  have c2 := h.c2
  have hL := h.len
  obtain ⟨va, vc, hv⟩ := h.row.nil_val
  subst hv
  clear h
  go_enter Try.func12, Try.ntmps12
  go_wp2
  go_loopw [5, 6] (fun o i wr => ∃ k : Nat, k ≤ L.length ∧ o = st (rwd (L.take k) c) ∧ i = nu k ∧ wr = w) (fun _ i _ => L.length - (intOf i).toNat)
  case atStart => exact ⟨0, by omega, rfl, rfl, rfl⟩
  case round =>
    obtain ⟨k, hk, rfl, rfl, hwr⟩ := hrel
    subst wr
    by_cases hlt : k < L.length
    · have d1 : decide ((k : Int) < (L.length : Int)) = true := by simpa using hlt
      obtain ⟨g, cap, e1, hc⟩ := H.out.at hlt
      cases e1
      have b0 : w.cell? ⟨g, k * 35, none⟩ = some (nu L[k].fro) := hc 0 _ rfl
      have b1 : w.cell? ⟨g, k * 35 + 1, none⟩ = some (nu L[k].byc) := hc 1 _ rfl
      have b2 : w.cell? ⟨g, k * 35 + 2, none⟩ = some (st L[k].view) := hc 2 _ rfl
      have HS : Hid (rwd (L.take (k + 1)) c = rwF c (rwd (L.take k) c) L[k]) := fold_take (rwF c) [] L k hlt
      have hvl : L[k].view.length ≤ 512 := right_len ((okB_iff _ _).1 (H.out.inv.ok _ (List.getElem_mem hlt))).2.2.1
      have hsz : (⟨L[k].view.toArray⟩ : ByteArray).size = L[k].view.length := rfl
      clear hc
      generalize L[k] = b at *
      have hsz2 : ∀ T : List UInt8, (⟨T.toArray⟩ : ByteArray).size = T.length := fun _ => rfl
      have hol := hsz2 (rwd (L.take k) c)
      clear hsz2
      generalize rwd (L.take k) c = T at *
      unfold rwF at HS
      by_cases hf : b.fro = c
      · have d2 : (b.fro == c) = true := by simp [hf]
        by_cases hln : T.length < b.view.length
        · have d3 : decide ((T.length : Int) < (b.view.length : Int)) = true := decide_eq_true (by omega)
          have d3b : decide (T.length < b.view.length) = true := decide_eq_true (by omega)
          have HS2 : Hid (rwd (L.take (k + 1)) c = b.view) := by
            show _ = _
            rw [HS.out]
            simp [*]
          clear HS H
          go_wp2
          go_roundw
          case rel => exact ⟨k + 1, by omega, by rw [HS2.out], by go_num, trivial⟩
          case measure => simp [intOf]; omega
        · have d3 : decide ((T.length : Int) < (b.view.length : Int)) = false := decide_eq_false (by omega)
          have d3b : decide (T.length < b.view.length) = false := decide_eq_false (by omega)
          have HS2 : Hid (rwd (L.take (k + 1)) c = T) := by
            show _ = _
            rw [HS.out]
            simp [*]
          clear HS H
          go_wp2
          go_roundw
          case rel => exact ⟨k + 1, by omega, by rw [HS2.out], by go_num, trivial⟩
          case measure => simp [intOf]; omega
      · have d2 : (b.fro == c) = false := by simp [hf]
        have HS2 : Hid (rwd (L.take (k + 1)) c = T) := by
          show _ = _
          rw [HS.out]
          simp [*]
        clear HS H
        go_wp2
        go_roundw
        case rel => exact ⟨k + 1, by omega, by rw [HS2.out], by go_num, trivial⟩
        case measure => simp [intOf]; omega
    · have d1 : decide ((k : Int) < (L.length : Int)) = false := by simpa using hlt
      have hke : L.take k = L := List.take_of_length_le (by omega)
      rw [hke]
      clear hke H
      go_wp2
      go_ret
      exact ⟨rfl, rfl⟩
set_option maxHeartbeats 4000000 in
theorem rown_any {w : World} {q n me : Nat} {v : Value} {L : List Ln} (h : RAt w q v n me L) (c : Int) : Calls Try.prog 14 #[pt q 0, nu c] w fun e w' => e = .returned (st (ownv L c)) ∧ w' = w := by
  rw [← h.inv.own c]
  have H := hid h
  have c2 := h.c2
  have hL := h.len
  obtain ⟨va, vc, hv⟩ := h.row.nil_val
  subst hv
  clear h
  go_enter Try.func14, Try.ntmps14
  go_wp2
  go_loopw [5, 6] (fun o i wr => ∃ k : Nat, k ≤ L.length ∧ o = st (rod (L.take k) c) ∧ i = nu k ∧ wr = w) (fun _ i _ => L.length - (intOf i).toNat)
  case atStart => exact ⟨0, by omega, rfl, rfl, rfl⟩
  case round =>
    obtain ⟨k, hk, rfl, rfl, hwr⟩ := hrel
    subst wr
    by_cases hlt : k < L.length
    · have d1 : decide ((k : Int) < (L.length : Int)) = true := by simpa using hlt
      obtain ⟨g, cap, e1, hc⟩ := H.out.at hlt
      cases e1
      have b0 : w.cell? ⟨g, k * 35, none⟩ = some (nu L[k].fro) := hc 0 _ rfl
      have b1 : w.cell? ⟨g, k * 35 + 1, none⟩ = some (nu L[k].byc) := hc 1 _ rfl
      have b2 : w.cell? ⟨g, k * 35 + 2, none⟩ = some (st L[k].view) := hc 2 _ rfl
      have HS : Hid (rod (L.take (k + 1)) c = roF c (rod (L.take k) c) L[k]) := fold_take (roF c) [] L k hlt
      have hvl : L[k].view.length ≤ 512 := right_len ((okB_iff _ _).1 (H.out.inv.ok _ (List.getElem_mem hlt))).2.2.1
      have hsz : (⟨L[k].view.toArray⟩ : ByteArray).size = L[k].view.length := rfl
      clear hc
      generalize L[k] = b at *
      have hsz2 : ∀ T : List UInt8, (⟨T.toArray⟩ : ByteArray).size = T.length := fun _ => rfl
      have hol := hsz2 (rod (L.take k) c)
      clear hsz2
      generalize rod (L.take k) c = T at *
      unfold roF at HS
      by_cases hf : b.fro = c
      · have d2 : (b.fro == c) = true := by simp [hf]
        by_cases hb : b.byc = c
        · have d4 : (b.byc == c) = true := by simp [hb]
          by_cases hln : T.length < b.view.length
          · have d3 : decide ((T.length : Int) < (b.view.length : Int)) = true := decide_eq_true (by omega)
            have d3b : decide (T.length < b.view.length) = true := decide_eq_true (by omega)
            have HS2 : Hid (rod (L.take (k + 1)) c = b.view) := by
              show _ = _
              rw [HS.out]
              simp [*]
            clear HS H
            go_wp2
            go_roundw
            case rel => exact ⟨k + 1, by omega, by rw [HS2.out], by go_num, trivial⟩
            case measure => simp [intOf]; omega
          · have d3 : decide ((T.length : Int) < (b.view.length : Int)) = false := decide_eq_false (by omega)
            have d3b : decide (T.length < b.view.length) = false := decide_eq_false (by omega)
            have HS2 : Hid (rod (L.take (k + 1)) c = T) := by
              show _ = _
              rw [HS.out]
              simp [*]
            clear HS H
            go_wp2
            go_roundw
            case rel => exact ⟨k + 1, by omega, by rw [HS2.out], by go_num, trivial⟩
            case measure => simp [intOf]; omega
        · have d4 : (b.byc == c) = false := by simp [hb]
          have HS2 : Hid (rod (L.take (k + 1)) c = T) := by
            show _ = _
            rw [HS.out]
            simp [*]
          clear HS H
          go_wp2
          go_roundw
          case rel => exact ⟨k + 1, by omega, by rw [HS2.out], by go_num, trivial⟩
          case measure => simp [intOf]; omega
      · have d2 : (b.fro == c) = false := by simp [hf]
        have HS2 : Hid (rod (L.take (k + 1)) c = T) := by
          show _ = _
          rw [HS.out]
          simp [*]
        clear HS H
        go_wp2
        go_roundw
        case rel => exact ⟨k + 1, by omega, by rw [HS2.out], by go_num, trivial⟩
        case measure => simp [intOf]; omega
    · have d1 : decide ((k : Int) < (L.length : Int)) = false := by simpa using hlt
      have hke : L.take k = L := List.take_of_length_le (by omega)
      rw [hke]
      clear hke H
      go_wp2
      go_ret
      exact ⟨rfl, rfl⟩
end Go.Proofs.Ytfigbgpfkhcpcaa.Kn
