/-
  What the reference answers of two replies (R10.SameReply): whether they are the same.
-/
import Derived.Test.YtekfcbedlokidaaGreatDoorH02
namespace Go.Proofs.YtekfcbedlokidaaGreatDoor.Ms
open Go Go.RowKit
set_option maxRecDepth 100000
theorem sameL_len {α : Type} (f : α → α → Bool) (hf : ∀ x y, f x y = true ↔ x = y) (xs ys : List α) (h : xs.length ≠ ys.length) : sameL f xs ys = false := by
  rw [Bool.eq_false_iff]
  intro e
  exact h (by rw [(sameL_iff f hf xs ys).1 e])
theorem sameL_at {α : Type} (f : α → α → Bool) (hf : ∀ x y, f x y = true ↔ x = y) (d : α) (xs ys : List α) (j : Nat) (h : f (xs.getD j d) (ys.getD j d) = false) : sameL f xs ys = false := by
  rw [Bool.eq_false_iff]
  intro e
  rw [(sameL_iff f hf xs ys).1 e, (hf _ _).2 rfl] at h
  cases h
theorem getD_wf {ps : List Pen} (h : ∀ p ∈ ps, p.Wf) (j : Nat) (hj : j < ps.length) : (ps.getD j noPen).Wf := by
  have e : ps.getD j noPen = ps[j] := by simp [List.getD, hj]
  rw [e]
  exact h _ (List.getElem_mem hj)
theorem sameR_number {a b : Rep} (h : (a.number == b.number) = false) : sameR a b = false := by unfold sameR; rw [h]; simp
theorem sameR_last {a b : Rep} (h : (a.last == b.last) = false) : sameR a b = false := by unfold sameR; rw [h]; simp
theorem sameR_view {a b : Rep} (h : (a.view == b.view) = false) : sameR a b = false := by unfold sameR; rw [h]; simp
theorem sameR_commit {a b : Rep} (h : (a.commit == b.commit) = false) : sameR a b = false := by unfold sameR; rw [h]; simp
theorem sameR_vnum {a b : Rep} (h : (a.vnum == b.vnum) = false) : sameR a b = false := by unfold sameR; rw [h]; simp
theorem sameR_value {a b : Rep} (h : (a.value == b.value) = false) : sameR a b = false := by unfold sameR; rw [h]; simp
theorem sameR_data {a b : Rep} (h : (a.data == b.data) = false) : sameR a b = false := by unfold sameR; rw [h]; simp
theorem sameR_seen {a b : Rep} (h : (a.seen == b.seen) = false) : sameR a b = false := by unfold sameR; rw [h]; simp
theorem sameR_stag {a b : Rep} (h : (a.stag == b.stag) = false) : sameR a b = false := by unfold sameR; rw [h]; simp
theorem sameR_pend {a b : Rep} (h : sameL sameP a.pend b.pend = false) : sameR a b = false := by unfold sameR; rw [h]; simp
open Go Go.RowKit
set_option maxRecDepth 100000
theorem sameM_kind {a b : Msg} (h : (a.kind == b.kind) = false) : sameM a b = false := by unfold sameM; rw [h]; simp
theorem sameM_client {a b : Msg} (h : (a.client == b.client) = false) : sameM a b = false := by unfold sameM; rw [h]; simp
theorem sameM_sub {a b : Msg} (h : sameS a.sub b.sub = false) : sameM a b = false := by unfold sameM; rw [h]; simp
theorem sameM_rep {a b : Msg} (h : sameR a.rep b.rep = false) : sameM a b = false := by unfold sameM; rw [h]; simp
theorem sameM_view {a b : Msg} (h : (a.view == b.view) = false) : sameM a b = false := by unfold sameM; rw [h]; simp
theorem sameM_who {a b : Msg} (h : (a.who == b.who) = false) : sameM a b = false := by unfold sameM; rw [h]; simp
theorem sameM_tag {a b : Msg} (h : (a.tag == b.tag) = false) : sameM a b = false := by unfold sameM; rw [h]; simp
theorem sameM_own {a b : Msg} (h : (a.own == b.own) = false) : sameM a b = false := by unfold sameM; rw [h]; simp
theorem sameM_blob {a b : Msg} (h : sameB a.blob b.blob = false) : sameM a b = false := by unfold sameM; rw [h]; simp
theorem sameM_nums {a b : Msg} (h : (a.nums == b.nums) = false) : sameM a b = false := by unfold sameM; rw [h]; simp
theorem sameM_all {a b : Msg} (h0 : (a.kind == b.kind) = true) (h1 : (a.client == b.client) = true) (h2 : sameS a.sub b.sub = true) (h3 : sameR a.rep b.rep = true) (h4 : (a.view == b.view) = true) (h5 : (a.who == b.who) = true) (h6 : (a.tag == b.tag) = true) (h7 : (a.own == b.own) = true) (h8 : sameB a.blob b.blob = true) (h9 : (a.nums == b.nums) = true) : sameM a b = true := by unfold sameM; rw [h0, h1, h2, h3, h4, h5, h6, h7, h8, h9]; rfl
end Go.Proofs.YtekfcbedlokidaaGreatDoor.Ms
