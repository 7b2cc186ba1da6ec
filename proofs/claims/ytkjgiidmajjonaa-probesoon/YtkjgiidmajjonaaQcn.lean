/-
  Which entries a prober's heap holds, as plain data. No program plays a part.
-/
import Derived.Test.YtkjgiidmajjonaaQpl
namespace Go.Proofs.Ytkjgiidmajjonaa.Kn
open Go
set_option maxRecDepth 100000

/-- What waits: each other client at its tick, the read (8) at its own. -/
def canon (n me : Nat) (p : Pb) : List En := ((List.range n).filter (fun c => decide (c ≠ me))).map (fun (c : Nat) => (duI p.due (c : Int), (c : Int))) ++ [(duI p.due (me : Int), 8)]
structure HPs (n me : Nat) (p : Pb) (L : List En) : Prop where
  hp : Hp L L.length
  perm : L.Perm (canon n me p)
  len : p.due.length = n
section
variable {n me : Nat} {p p' : Pb} {L L' : List En}
theorem canon_mem (e : En) : e ∈ canon n me p ↔ (∃ c : Nat, (c < n ∧ c ≠ me) ∧ e = (duI p.due (c : Int), (c : Int))) ∨ e = (duI p.due (me : Int), 8) := by
  unfold canon
  rw [List.mem_append, List.mem_singleton, List.mem_map]
  constructor
  · rintro (⟨c, hc, rfl⟩ | h)
    · simp at hc
      exact .inl ⟨c, hc, rfl⟩
    · exact .inr h
  · rintro (⟨c, hc, rfl⟩ | h)
    · exact .inl ⟨c, by simpa using hc, rfl⟩
    · exact .inr h
theorem canon_who : (canon n me p).map (·.2) = ((List.range n).filter (fun c => decide (c ≠ me))).map (fun c => ((c : Nat) : Int)) ++ [8] := by
  unfold canon
  rw [List.map_append, List.map_map]
  rfl
theorem canon_nodup (hn : n ≤ 8) : ((canon n me p).map (·.2)).Nodup := by
  rw [canon_who, List.nodup_append]
  refine ⟨?_, by simp, ?_⟩
  · rw [List.nodup_iff_pairwise_ne, List.pairwise_map]
    exact List.Pairwise.imp (fun {a b : Nat} (h : a ≠ b) (e : (a : Int) = (b : Int)) => h (by omega)) (List.Pairwise.filter _ (List.nodup_iff_pairwise_ne.1 List.nodup_range))
  · intro a ha b hb
    rw [List.mem_singleton] at hb
    rw [List.mem_map] at ha
    obtain ⟨c, hc, rfl⟩ := ha
    simp at hc
    omega
theorem canon_len : (canon n me p).length ≤ n + 1 := by
  unfold canon
  rw [List.length_append, List.length_map]
  have := List.length_filter_le (fun c => decide (c ≠ me)) (List.range n)
  rw [List.length_range] at this
  rw [List.length_singleton]
  omega
theorem canon_map (f : En → En) (h1 : ∀ c : Nat, c < n → c ≠ me → f (duI p.due (c : Int), (c : Int)) = (duI p'.due (c : Int), (c : Int))) (h2 : f (duI p.due (me : Int), 8) = (duI p'.due (me : Int), 8)) : (canon n me p).map f = canon n me p' := by
  unfold canon
  rw [List.map_append, List.map_map, List.map_singleton, h2]
  congr 1
  refine List.map_congr_left fun c hc => ?_
  simp at hc
  exact h1 c hc.1 hc.2
def updE (x t : Int) (e : En) : En := if e.2 = x then (t, x) else e
theorem set_upd {x : Int} (t : Int) : ∀ {L : List En} {k : Nat}, (L.map (·.2)).Nodup → k < L.length → (at_ L k).2 = x → L.set k (t, x) = L.map (updE x t)
  | [], k, _, hk, _ => by simp at hk
  | a :: L, 0, hn, _, hx => by
    rw [List.map_cons, List.nodup_cons] at hn
    have ha : a.2 = x := hx
    show (t, x) :: L = updE x t a :: L.map (updE x t)
    have e1 : updE x t a = (t, x) := by unfold updE; rw [if_pos ha]
    have e2 : L.map (updE x t) = L := by
      conv => rhs; rw [← List.map_id L]
      refine List.map_congr_left fun e he => ?_
      unfold updE
      rw [if_neg (fun h => hn.1 (by rw [ha, ← h]; exact List.mem_map_of_mem he))]
      rfl
    rw [e1, e2]
  | a :: L, k + 1, hn, hk, hx => by
    rw [List.map_cons, List.nodup_cons] at hn
    have hk' : k < L.length := by simpa using hk
    have hx' : (at_ L k).2 = x := hx
    have hm : x ∈ L.map (·.2) := by
      rw [← hx', at_get hk']
      exact List.mem_map_of_mem (List.getElem_mem hk')
    show a :: L.set k (t, x) = updE x t a :: L.map (updE x t)
    rw [set_upd t hn.2 hk' hx']
    have e1 : updE x t a = a := by unfold updE; rw [if_neg (fun h => hn.1 (by rw [h]; exact hm))]
    rw [e1]
theorem HPs.nodup (h : HPs n me p L) (hn : n ≤ 8) : (L.map (·.2)).Nodup := (h.perm.map (·.2)).nodup_iff.2 (canon_nodup hn)
theorem HPs.short (h : HPs n me p L) (hn : n ≤ 8) : L.length ≤ 9 := by
  have := canon_len (n := n) (me := me) (p := p)
  rw [h.perm.length_eq]
  omega
theorem HPs.pos (h : HPs n me p L) : L.length ≠ 0 := by
  rw [h.perm.length_eq]
  unfold canon
  simp
theorem HPs.has (h : HPs n me p L) {c : Int} (hc : othB n me c = true) : c ∈ L.map (·.2) := by
  obtain ⟨⟨c0, c1⟩, c2⟩ := (oth_iff _ _ _).1 hc
  obtain ⟨k, rfl⟩ : ∃ k : Nat, c = (k : Int) := ⟨c.toNat, by omega⟩
  have : ((duI p.due (k : Int), (k : Int)) : En) ∈ L := h.perm.mem_iff.2 ((canon_mem _).2 (.inl ⟨k, ⟨by omega, by omega⟩, rfl⟩))
  exact List.mem_map_of_mem (f := fun e : En => e.2) this
theorem HPs.has8 (h : HPs n me p L) : (8 : Int) ∈ L.map (·.2) := by
  have : ((duI p.due (me : Int), 8) : En) ∈ L := h.perm.mem_iff.2 ((canon_mem _).2 (.inr rfl))
  exact List.mem_map_of_mem (f := fun e : En => e.2) this
theorem HPs.at (h : HPs n me p L) (hn : n ≤ 8) {k : Nat} (hk : k < L.length) {c : Int} (hc : othB n me c = true) (hx : (at_ L k).2 = c) : (at_ L k).1 = duI p.due c := by
  have hm : at_ L k ∈ canon n me p := h.perm.mem_iff.1 (by rw [at_get hk]; exact List.getElem_mem hk)
  obtain ⟨⟨c0, c1⟩, c2⟩ := (oth_iff _ _ _).1 hc
  rcases (canon_mem _).1 hm with ⟨j, hj, e⟩ | e
  · rw [e] at hx ⊢
    show duI p.due (j : Int) = _
    rw [show (j : Int) = c from hx]
  · rw [e] at hx
    have : (8 : Int) = c := hx
    omega
theorem HPs.heard (h : HPs n me p L) (hn : n ≤ 8) {c : Int} (hc : othB n me c = true) {k : Nat} (hk : k < L.length) (hx : (at_ L k).2 = c) (hp : L'.Perm (L.set k (p.now + 4, c))) (hh : Hp L' L'.length) : HPs n me (heardPb n me p c) L' := by
  refine ⟨hh, ?_, heard_len h.len c⟩
  obtain ⟨⟨c0, c1⟩, c2⟩ := (oth_iff _ _ _).1 hc
  rw [set_upd _ (h.nodup hn) hk hx] at hp
  refine hp.trans ((h.perm.map _).trans ?_)
  rw [canon_map (p' := heardPb n me p c)]
  · intro j hj hj2
    rw [heard_at h.len c _ (by omega)]
    unfold updE
    by_cases e : (j : Int) = c
    · rw [if_pos e, if_pos ⟨e, hc⟩, e]
    · rw [if_neg e, if_neg (fun h => e h.1)]
  · rw [heard_at h.len c _ (by omega)]
    unfold updE
    rw [if_neg (by show ¬ (8 : Int) = c; omega), if_neg (fun h => by omega)]
theorem HPs.asked (h : HPs n me p L) (hn : n ≤ 8) (hm : me < n) {k : Nat} (hk : k < L.length) (hx : (at_ L k).2 = 8) (hp : L'.Perm (L.set k (p.now + 7, 8))) (hh : Hp L' L'.length) : HPs n me (askedPb me p) L' := by
  refine ⟨hh, ?_, asked_len h.len⟩
  rw [set_upd _ (h.nodup hn) hk hx] at hp
  refine hp.trans ((h.perm.map _).trans ?_)
  rw [canon_map (p' := askedPb me p)]
  · intro j hj hj2
    rw [asked_at h.len (by omega) _ (by omega)]
    unfold updE
    rw [if_neg (by show ¬ (j : Int) = 8; omega), if_neg (by omega)]
  · rw [asked_at h.len (by omega) _ (by omega), if_pos rfl]
    unfold updE
    rw [if_pos rfl]
end
end Go.Proofs.Ytkjgiidmajjonaa.Kn
