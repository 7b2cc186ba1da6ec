/-
  What a tick leaves, as plain data.
-/
import Derived.Test.YtkjgiidmajjonaaQal
namespace Go.Proofs.Ytkjgiidmajjonaa.Kn
open Go
set_option maxRecDepth 100000

/-- Who is asked, out of those who are due. -/
def askL (T : List En) : List Int := (T.filter (fun e => decide (e.2 ≠ 8))).map (fun e => e.2)
/-- Is a read among them, and me not busy? -/
def rdB (busy : Bool) (T : List En) : Bool := !busy && T.any (fun e => e.2 == 8)
/-- As it is put back. -/
def updT (now : Int) (busy : Bool) (e : En) : En := if e.2 = 8 then (if busy then e else (now + 7, 8)) else (now + 4, e.2)
theorem askL_snoc (T : List En) (e : En) : askL (T ++ [e]) = askL T ++ (if e.2 = 8 then [] else [e.2]) := by
  unfold askL
  rw [List.filter_append, List.map_append]
  by_cases h : e.2 = 8
  · rw [if_pos h]; simp [h]
  · rw [if_neg h]; simp [h]
theorem rdB_snoc (busy : Bool) (T : List En) (e : En) : rdB busy (T ++ [e]) = (rdB busy T || (!busy && (e.2 == 8))) := by
  unfold rdB
  rw [List.any_append]
  cases busy <;> simp
section
variable {n me : Nat} {p : Pb} {L L' T M : List En} {busy : Bool}
theorem tk_mem (hP : HPs n me p L) {now : Int} (hI : TkI now L T M) (e : En) : e ∈ canon n me p ↔ e ∈ T ∨ e ∈ M := by
  rw [← hP.perm.mem_iff, ← hI.perm.mem_iff, List.mem_append]
theorem tk_nodup (hP : HPs n me p L) (hn : n ≤ 8) {now : Int} (hI : TkI now L T M) : (T.map (fun e : En => e.2)).Nodup := by
  have h1 := hP.nodup hn
  have h2 := (hI.perm.map (fun e : En => e.2)).nodup_iff.2 h1
  rw [List.map_append, List.nodup_append] at h2
  exact h2.1
theorem tick_out (hP : HPs n me p L) (hn : n ≤ 8) (hI : TkI (p.now + 1) L T M) (hl : ∀ e ∈ M, p.now + 1 < e.1) : outT n me p = askL T := by
  unfold outT
  have hmem := tk_mem hP hI
  refine out_is (fun x => ⟨fun hx => ?_, fun hx => ?_⟩) ?_
  · unfold askL at hx
    rw [List.mem_map] at hx
    obtain ⟨e, he, rfl⟩ := hx
    rw [List.mem_filter] at he
    have h8 : e.2 ≠ 8 := by simpa using he.2
    have hd := hI.due e he.1
    rcases (canon_mem e).1 ((hmem e).2 (.inl he.1)) with ⟨c, hc, rfl⟩ | rfl
    · exact ⟨⟨⟨by show (0 : Int) ≤ (c : Int); omega, by show (c : Int) < n; omega⟩, by show (c : Int) ≠ me; omega⟩, hd⟩
    · exact absurd rfl h8
  · obtain ⟨⟨⟨h0, h1⟩, h2⟩, h3⟩ := hx
    obtain ⟨c, rfl⟩ : ∃ c : Nat, x = (c : Int) := ⟨x.toNat, by omega⟩
    have hc : ((duI p.due (c : Int), (c : Int)) : En) ∈ canon n me p := (canon_mem _).2 (.inl ⟨c, ⟨by omega, by omega⟩, rfl⟩)
    rcases (hmem _).1 hc with hT | hM
    · unfold askL
      rw [List.mem_map]
      refine ⟨_, List.mem_filter.2 ⟨hT, ?_⟩, rfl⟩
      show decide ((c : Int) ≠ 8) = true
      exact decide_eq_true (by omega)
    · have : p.now + 1 < duI p.due (c : Int) := hl _ hM
      omega
  · unfold askL
    rw [List.pairwise_map]
    have hnd := tk_nodup hP hn hI
    rw [List.nodup_iff_pairwise_ne, List.pairwise_map] at hnd
    have hb := List.Pairwise.filter (fun e : En => decide (e.2 ≠ 8)) (hI.pw.and hnd)
    refine List.Pairwise.imp_of_mem (fun {a b} ha hb h => ?_) hb
    rw [List.mem_filter] at ha hb
    have a8 : a.2 ≠ 8 := by simpa using ha.2
    have b8 : b.2 ≠ 8 := by simpa using hb.2
    have ea : a.1 = duI p.due a.2 := by
      rcases (canon_mem a).1 ((hmem a).2 (.inl ha.1)) with ⟨c, hc, rfl⟩ | rfl
      · rfl
      · exact absurd rfl a8
    have eb : b.1 = duI p.due b.2 := by
      rcases (canon_mem b).1 ((hmem b).2 (.inl hb.1)) with ⟨c, hc, rfl⟩ | rfl
      · rfl
      · exact absurd rfl b8
    obtain ⟨h1, h2⟩ := h
    unfold leE at h1
    unfold lexB
    rw [← ea, ← eb]
    omega
theorem tick_rd (hP : HPs n me p L) (hn : n ≤ 8) (hI : TkI (p.now + 1) L T M) (hl : ∀ e ∈ M, p.now + 1 < e.1) : rdB busy T = readT me busy p := by
  unfold rdB readT
  congr 1
  have hmem := tk_mem hP hI
  have hc : ((duI p.due (me : Int), 8) : En) ∈ canon n me p := (canon_mem _).2 (.inr rfl)
  by_cases hd : duI p.due (me : Int) ≤ p.now + 1
  · rw [decide_eq_true hd, List.any_eq_true]
    rcases (hmem _).1 hc with hT | hM
    · exact ⟨_, hT, rfl⟩
    · have : p.now + 1 < duI p.due (me : Int) := hl _ hM
      omega
  · rw [decide_eq_false hd, List.any_eq_false]
    intro e he h8
    have h8' : e.2 = 8 := by simpa using h8
    have hdue := hI.due e he
    rcases (canon_mem e).1 ((hmem e).2 (.inl he)) with ⟨c, hc, rfl⟩ | rfl
    · have : (c : Int) = 8 := h8'
      omega
    · exact hd hdue
theorem tick_hps (hP : HPs n me p L) (hn : n ≤ 8) (hm : me < n) (hI : TkI (p.now + 1) L T M) (hl : ∀ e ∈ M, p.now + 1 < e.1) (hp : L'.Perm (T.map (updT (p.now + 1) busy) ++ M)) (hh : Hp L' L'.length) : HPs n me (tickP n me busy p) L' := by
  refine ⟨hh, hp.trans ?_, tick_len hP.len busy⟩
  have hmm : (0 : Int) ≤ (me : Int) ∧ (me : Int) < n := by omega
  have e1 : T.map (updT (p.now + 1) busy) = T.map (fun e => if e.1 ≤ p.now + 1 then updT (p.now + 1) busy e else e) := List.map_congr_left fun e he => by rw [if_pos (hI.due e he)]
  have e2 : M = M.map (fun e => if e.1 ≤ p.now + 1 then updT (p.now + 1) busy e else e) := by
    conv => lhs; rw [← List.map_id M]
    refine List.map_congr_left fun e he => ?_
    rw [if_neg (by have := hl e he; omega)]
    rfl
  rw [e1]
  conv => lhs; rw [e2]
  rw [← List.map_append]
  refine ((hI.perm.trans hP.perm).map _).trans ?_
  rw [canon_map (p' := tickP n me busy p)]
  · intro c hc hcm
    rw [tick_other hP.len hmm busy c (by omega) (by omega)]
    by_cases hd : duI p.due (c : Int) ≤ p.now + 1
    · rw [if_pos hd, if_pos hd]
      unfold updT
      rw [if_neg (by show ¬ (c : Int) = 8; omega)]
      show (p.now + 1 + 4, (c : Int)) = _
      rw [show p.now + 1 + 4 = p.now + 5 by omega]
    · rw [if_neg hd, if_neg hd]
  · rw [tick_me hP.len hmm busy]
    unfold readT
    by_cases hd : duI p.due (me : Int) ≤ p.now + 1
    · rw [if_pos hd, decide_eq_true hd]
      unfold updT
      rw [if_pos rfl]
      cases busy with
      | true => rfl
      | false =>
        show (p.now + 1 + 7, (8 : Int)) = (p.now + 8, 8)
        rw [show p.now + 1 + 7 = p.now + 8 by omega]
    · rw [if_neg hd, decide_eq_false hd, Bool.and_false]
      rfl
end
end Go.Proofs.Ytkjgiidmajjonaa.Kn
