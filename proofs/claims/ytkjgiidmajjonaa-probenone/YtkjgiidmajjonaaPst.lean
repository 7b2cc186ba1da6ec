/-
  What a prober's calls do, as plain data, and what the laws of layer 17 ask of it. No program plays a part.
-/
import Derived.Test.YtkjgiidmajjonaaPpl
namespace Go.Proofs.Ytkjgiidmajjonaa.Kn
open Go
set_option maxRecDepth 100000

/-- A prober: the tick, whose register comes next, when each is due (of me: a read). -/
structure Pb where
  now : Int
  next : Int
  due : List Int
def newPb (n me : Nat) : Pb := ⟨0, ((me + 1) % n : Nat), (List.replicate n 4).set me 7⟩
def heardPb (n me : Int) (p : Pb) (c : Int) : Pb := if othB n me c then ⟨p.now, p.next, p.due.set c.toNat (p.now + 4)⟩ else p
def askedPb (me : Int) (p : Pb) : Pb := ⟨p.now, p.next, p.due.set me.toNat (p.now + 7)⟩
def setAll (v : Int) : List Int → List Int → List Int
  | d, [] => d
  | d, x :: l => setAll v (d.set x.toNat v) l
def nxP (n me r : Int) : Int := if (r + 1) % n = me then (me + 1) % n else (r + 1) % n
def outT (n : Nat) (me : Int) (p : Pb) : List Int := outP n me (p.now + 1) p.due
def dueT (n : Nat) (me : Int) (p : Pb) : List Int := setAll (p.now + 1 + 4) p.due (outT n me p)
def readT (me : Int) (busy : Bool) (p : Pb) : Bool := !busy && decide (duI p.due me ≤ p.now + 1)
def tickN (me : Int) (busy : Bool) (p : Pb) : Int := if readT me busy p then p.next else -1
def tickP (n : Nat) (me : Int) (busy : Bool) (p : Pb) : Pb := if readT me busy p then ⟨p.now + 1, nxP n me p.next, (dueT n me p).set me.toNat (p.now + 1 + 7)⟩ else ⟨p.now + 1, p.next, dueT n me p⟩

theorem du_set (d : List Int) (c x v : Int) (hc : 0 ≤ c) (hl : c < d.length) (hx : 0 ≤ x) : duI (d.set c.toNat v) x = if x = c then v else duI d x := by
  unfold duI
  rw [List.getD_eq_getElem?_getD, List.getD_eq_getElem?_getD, List.getElem?_set]
  by_cases e : x = c
  · subst e
    rw [if_pos rfl, if_pos (by omega), if_pos rfl]
    rfl
  · rw [if_neg (by omega), if_neg e]
theorem setAll_len (v : Int) : ∀ (l d : List Int), (setAll v d l).length = d.length
  | [], _ => rfl
  | x :: l, d => by
    show (setAll v (d.set x.toNat v) l).length = _
    rw [setAll_len v l, List.length_set]
theorem setAll_at (v c : Int) (hc : 0 ≤ c) : ∀ (l d : List Int), (∀ x ∈ l, 0 ≤ x ∧ x < d.length) → duI (setAll v d l) c = if c ∈ l then v else duI d c
  | [], d, _ => by simp [setAll]
  | x :: l, d, h => by
    have hx := h x (by simp)
    show duI (setAll v (d.set x.toNat v) l) c = _
    rw [setAll_at v c hc l _ (fun y hy => by rw [List.length_set]; exact h y (by simp [hy])), du_set d x c v hx.1 hx.2 hc]
    by_cases e : c = x
    · subst e
      simp
    · by_cases e2 : c ∈ l
      · simp [e2]
      · simp [e, e2]
section
variable {n : Nat} {me : Int} {p : Pb}
theorem out_rng (h : p.due.length = n) : ∀ x ∈ outT n me p, 0 ≤ x ∧ x < p.due.length := fun x hx => by
  have := (out_mem x).1 hx
  omega
theorem dueT_len (h : p.due.length = n) : (dueT n me p).length = n := by unfold dueT; rw [setAll_len, h]
theorem dueT_at (h : p.due.length = n) (c : Int) (h0 : 0 ≤ c) : duI (dueT n me p) c = if ((c < n) ∧ c ≠ me) ∧ duI p.due c ≤ p.now + 1 then p.now + 5 else duI p.due c := by
  unfold dueT
  rw [setAll_at _ _ h0 _ _ (out_rng h)]
  have hm := out_mem (n := n) (me := me) (now := p.now + 1) (d := p.due) c
  by_cases e : c ∈ outT n me p
  · have := hm.1 e
    rw [if_pos e, if_pos ⟨⟨this.1.1.2, this.1.2⟩, this.2⟩]
    omega
  · rw [if_neg e, if_neg (fun k => e (hm.2 ⟨⟨⟨h0, k.1.1⟩, k.1.2⟩, k.2⟩))]
theorem tick_len (h : p.due.length = n) (b : Bool) : (tickP n me b p).due.length = n := by
  unfold tickP
  split
  · show ((dueT n me p).set _ _).length = n
    rw [List.length_set, dueT_len h]
  · exact dueT_len h
theorem heard_len (h : p.due.length = n) (c : Int) : (heardPb n me p c).due.length = n := by
  unfold heardPb
  split
  · show (p.due.set _ _).length = n
    rw [List.length_set, h]
  · exact h
theorem asked_len (h : p.due.length = n) : (askedPb me p).due.length = n := by
  show (p.due.set _ _).length = n
  rw [List.length_set, h]
theorem new_len (n me : Nat) : (newPb n me).due.length = n := by simp [newPb]
theorem tick_now (b : Bool) : (tickP n me b p).now = p.now + 1 := by unfold tickP; split <;> rfl
theorem heard_now (c : Int) : (heardPb n me p c).now = p.now := by unfold heardPb; split <;> rfl
theorem tick_next (b : Bool) : (tickP n me b p).next = if readT me b p then nxP n me p.next else p.next := by unfold tickP; split <;> rfl
theorem heard_next (c : Int) : (heardPb n me p c).next = p.next := by unfold heardPb; split <;> rfl
theorem tick_other (h : p.due.length = n) (hm : 0 ≤ me ∧ me < n) (b : Bool) (c : Int) (h0 : 0 ≤ c ∧ c < n) (hc : c ≠ me) : duI (tickP n me b p).due c = if duI p.due c ≤ p.now + 1 then p.now + 5 else duI p.due c := by
  have e : duI (dueT n me p) c = if duI p.due c ≤ p.now + 1 then p.now + 5 else duI p.due c := by
    rw [dueT_at h c h0.1]
    by_cases hd : duI p.due c ≤ p.now + 1
    · rw [if_pos ⟨⟨h0.2, hc⟩, hd⟩, if_pos hd]
    · rw [if_neg (fun k => hd k.2), if_neg hd]
  unfold tickP
  split
  · show duI ((dueT n me p).set _ _) c = _
    rw [du_set _ _ _ _ hm.1 (by rw [dueT_len h]; exact hm.2) h0.1, if_neg hc, e]
  · exact e
theorem tick_me (h : p.due.length = n) (hm : 0 ≤ me ∧ me < n) (b : Bool) : duI (tickP n me b p).due me = if readT me b p then p.now + 8 else duI p.due me := by
  unfold tickP
  split
  · show duI ((dueT n me p).set _ _) me = _
    rw [du_set _ _ _ _ hm.1 (by rw [dueT_len h]; exact hm.2) hm.1, if_pos rfl]
    omega
  · show duI (dueT n me p) me = _
    rw [dueT_at h me hm.1, if_neg (fun k => k.1.2 rfl)]
theorem heard_at (h : p.due.length = n) (c x : Int) (hx : 0 ≤ x) : duI (heardPb n me p c).due x = if x = c ∧ othB n me c = true then p.now + 4 else duI p.due x := by
  unfold heardPb
  cases ho : othB n me c with
  | false => simp
  | true =>
    have hc := (oth_iff _ _ _).1 ho
    rw [if_pos rfl]
    show duI (p.due.set _ _) x = _
    rw [du_set _ _ _ _ hc.1.1 (by rw [h]; exact hc.1.2) hx]
    simp
theorem asked_at (h : p.due.length = n) (hm : 0 ≤ me ∧ me < n) (x : Int) (hx : 0 ≤ x) : duI (askedPb me p).due x = if x = me then p.now + 7 else duI p.due x := by
  show duI (p.due.set _ _) x = _
  exact du_set _ _ _ _ hm.1 (by rw [h]; exact hm.2) hx
theorem new_at (n me : Nat) (hm : me < n) (x : Int) (hx : 0 ≤ x ∧ x < n) : duI (newPb n me).due x = if x = me then 7 else 4 := by
  show duI ((List.replicate n 4).set me 7) x = _
  have := du_set (List.replicate n 4) (me : Int) x 7 (by omega) (by rw [List.length_replicate]; omega) hx.1
  rw [Int.toNat_natCast] at this
  rw [this]
  split
  · rfl
  · unfold duI
    have : x.toNat < n := by omega
    simp [List.getD, this]
end
/-- Who is quiet for q ticks, of whom the law ProbeSoon speaks (four clients, me 1). -/
structure SoonI (c : Int) (q : Nat) (p : Pb) : Prop where
  len : p.due.length = 4
  at_ : c ≠ 1 → duI p.due c = p.now - q + 4 ∧ q ≤ 3
theorem soon_new (c : Int) (hc : 0 ≤ c ∧ c < 4) : SoonI c 0 (newPb 4 1) := ⟨rfl, fun h => ⟨by rw [new_at 4 1 (by decide) c hc, if_neg (by simpa using h)]; rfl, by decide⟩⟩
theorem soon_heard {c : Int} {q : Nat} {p : Pb} (h : SoonI c q p) (hc : 0 ≤ c ∧ c < 4) (x : Int) : SoonI c (if x = c then 0 else q) (heardPb (4 : Nat) 1 p x) := by
  refine ⟨heard_len h.len x, fun h1 => ?_⟩
  have ha := h.at_ h1
  rw [heard_at h.len x c hc.1, heard_now]
  by_cases e : x = c
  · subst e
    have ho : othB ((4 : Nat) : Int) 1 x = true := (oth_iff _ _ _).2 ⟨⟨hc.1, by have := hc.2; omega⟩, h1⟩
    rw [if_pos ⟨rfl, ho⟩, if_pos rfl]
    omega
  · rw [if_neg (fun k => e k.1.symm), if_neg e]
    exact ha
theorem soon_asked {c : Int} {q : Nat} {p : Pb} (h : SoonI c q p) (hc : 0 ≤ c ∧ c < 4) : SoonI c q (askedPb 1 p) := by
  refine ⟨asked_len h.len, fun h1 => ?_⟩
  have ha := h.at_ h1
  rw [asked_at h.len (by decide) c hc.1, if_neg h1]
  exact ha
theorem soon_out {c : Int} {q : Nat} {p : Pb} (h : SoonI c q p) (hc : 0 ≤ c ∧ c < 4) : c ∈ outT 4 1 p ↔ c ≠ 1 ∧ q + 1 = 4 := by
  unfold outT
  rw [out_mem]
  constructor
  · intro k
    have ha := h.at_ k.1.2
    exact ⟨k.1.2, by omega⟩
  · rintro ⟨h1, h2⟩
    have ha := h.at_ h1
    exact ⟨⟨⟨hc.1, by have := hc.2; omega⟩, h1⟩, by omega⟩
theorem soon_tick {c : Int} {q : Nat} {p : Pb} (h : SoonI c q p) (hc : 0 ≤ c ∧ c < 4) (b : Bool) : SoonI c (if c ∈ outT 4 1 p then 0 else q + 1) (tickP 4 1 b p) := by
  refine ⟨tick_len h.len b, fun h1 => ?_⟩
  have ha := h.at_ h1
  rw [tick_other h.len (by decide) b c ⟨hc.1, by have := hc.2; omega⟩ h1, tick_now]
  by_cases hm : c ∈ outT 4 1 p
  · have := (soon_out h hc).1 hm
    rw [if_pos hm, if_pos (by omega)]
    omega
  · rw [if_neg hm]
    have : ¬ (q + 1 = 4) := fun k => hm ((soon_out h hc).2 ⟨h1, k⟩)
    rw [if_neg (by omega)]
    omega
/-- How long me has asked for nothing, of which the law ProbeIdle speaks (three clients, me 2). -/
structure IdleI (q : Nat) (p : Pb) : Prop where
  len : p.due.length = 3
  at_ : duI p.due 2 = p.now - q + 7
  nxt : 0 ≤ p.next
theorem nxP_pos (n me r : Int) (hn : 0 < n) : 0 ≤ nxP n me r := by
  unfold nxP
  have h1 := Int.emod_nonneg (r + 1) (by omega : n ≠ 0)
  have h2 := Int.emod_nonneg (me + 1) (by omega : n ≠ 0)
  split <;> omega
theorem idle_new : IdleI 0 (newPb 3 2) := ⟨rfl, rfl, by decide⟩
theorem idle_heard {q : Nat} {p : Pb} (h : IdleI q p) (x : Int) : IdleI q (heardPb (3 : Nat) 2 p x) := by
  refine ⟨heard_len h.len x, ?_, by rw [heard_next]; exact h.nxt⟩
  rw [heard_at h.len x 2 (by decide), heard_now, if_neg (fun k => ?_), h.at_]
  exact ((oth_iff _ _ _).1 k.2).2 k.1.symm
theorem idle_asked {q : Nat} {p : Pb} (h : IdleI q p) : IdleI 0 (askedPb 2 p) := by
  refine ⟨asked_len h.len, ?_, h.nxt⟩
  rw [asked_at h.len (by decide) 2 (by decide), if_pos rfl]
  show p.now + 7 = p.now - ((0 : Nat) : Int) + 7
  omega
theorem idle_read {q : Nat} {p : Pb} (h : IdleI q p) (b : Bool) : readT 2 b p = (decide (7 ≤ q + 1) && !b) := by
  unfold readT
  rw [h.at_, Bool.and_comm]
  congr 1
  by_cases e : 7 ≤ q + 1
  · rw [decide_eq_true e, decide_eq_true (by omega)]
  · rw [decide_eq_false e, decide_eq_false (by omega)]
theorem idle_tick {q : Nat} {p : Pb} (h : IdleI q p) (b : Bool) : IdleI (if readT 2 b p then 0 else q + 1) (tickP 3 2 b p) := by
  have ha := h.at_
  refine ⟨tick_len h.len b, ?_, ?_⟩
  · rw [tick_me h.len (by decide) b, tick_now]
    cases hr : readT 2 b p with
    | true =>
      rw [if_pos rfl, if_pos rfl]
      omega
    | false =>
      rw [if_neg (by decide), if_neg (by decide)]
      omega
  · rw [tick_next]
    split
    · exact nxP_pos _ _ _ (by decide)
    · exact h.nxt
theorem idle_num {q : Nat} {p : Pb} (h : IdleI q p) (b : Bool) : decide (0 ≤ tickN 2 b p) = readT 2 b p := by
  unfold tickN
  cases readT 2 b p with
  | true => exact decide_eq_true h.nxt
  | false => rfl
end Go.Proofs.Ytkjgiidmajjonaa.Kn
