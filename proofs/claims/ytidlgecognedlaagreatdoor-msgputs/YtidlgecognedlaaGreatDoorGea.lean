/-
  A server's registers in plain words: what is submitted, what is committed, the order. No program plays a part.
-/
import Derived.Test.YtidlgecognedlaaGreatDoorJrz
import Derived.Test.YtidlgecognedlaaGreatDoorJbr
import Derived.Orders
import Derived.Maps.AppendAt
import Derived.Great.BuildSlice
import Derived.OwnWalk
namespace Go.Proofs.YtidlgecognedlaaGreatDoor.Ms
open Go
set_option maxRecDepth 100000

/-- What one client asked, was answered, and did. -/
structure Reg where
  asked : Sub
  ans : Rep
  view : List UInt8
  tag : List UInt8
def zeroG : Reg := ⟨zeroS, zeroR, [], zeroD⟩
/-- Registers. -/
structure Rs where
  n : Nat
  regs : List Reg
  long : List UInt8
  ltag : List UInt8
  who : Int
  pend : List Pen
def newR (n : Nat) : Rs := ⟨n, List.replicate 8 zeroG, [], zeroD, -1, []⟩
def hasB (n : Nat) (c : Int) : Bool := decide (0 ≤ c) && decide (c < (n : Int))
def Rs.reg (R : Rs) (c : Int) : Reg := R.regs.getD c.toNat zeroG
def subM (c : Int) (x : Sub) : Msg := { zeroM 1 c with sub := x }
def comM (c : Int) (v t : List UInt8) : Msg := { zeroM 3 c with view := v, tag := t }
def by8 (c : Int) : UInt8 := UInt8.ofNat c.toNat
def subOk (R : Rs) (c : Int) (x : Sub) : Bool := hasB R.n c && (hasB R.n x.target && mayB (subM c x))
/-- What is pending, each with its client's tag. -/
def provenL (R : Rs) : List Pen := R.pend.map fun p => { p with proof := (R.reg p.client).tag }
def ansR (R : Rs) (x : Sub) : Rep :=
  if x.kind = 2 then ⟨x.number, R.who, R.long, R.ltag, provenL R, (R.reg x.target).asked.number, (R.reg x.target).asked.value, (R.reg x.target).asked.data, (R.reg x.target).view, (R.reg x.target).tag⟩
  else ⟨x.number, R.who, R.long, R.ltag, provenL R, 0, [], zeroD, [], zeroD⟩
def fullB (R : Rs) : Bool := decide (512 ≤ R.long.length + R.pend.length) || decide (8 ≤ R.pend.length)
def penOf (c : Int) (x : Sub) : Pen := ⟨c, x.number, x.kind, x.target, x.asked, zeroD⟩
def subE (R : Rs) (c : Int) (x : Sub) : Int :=
  if subOk R c x = false then 2 else if x.number = (R.reg c).asked.number then (if sameS x (R.reg c).asked = true then 0 else 10)
  else if x.number ≠ (R.reg c).asked.number + 1 then 3 else if fullB R = true then 11 else 0
def subY (R : Rs) (c : Int) (x : Sub) : Rep := if subE R c x ≠ 0 then zeroR else if x.number = (R.reg c).asked.number then (R.reg c).ans else ansR R x
/-- The registers behind a submit that is new. -/
def subN (R : Rs) (c : Int) (x : Sub) : Rs := { R with regs := R.regs.set c.toNat { R.reg c with asked := x, ans := ansR R x }, pend := R.pend ++ [penOf c x] }
def subR (R : Rs) (c : Int) (x : Sub) : Rs := if subE R c x ≠ 0 then R else if x.number = (R.reg c).asked.number then R else subN R c x
def lastI (v : List UInt8) : Int := bv (v.getD (v.length - 1) 0)
def comOk (R : Rs) (c : Int) (v t : List UInt8) : Bool := hasB R.n c && mayB (comM c v t)
def isOp (c k : Int) (p : Pen) : Bool := p.client == c && p.number == k
/-- What is left behind the client's own operation. -/
def cutP (c k : Int) (l : List Pen) : List Pen := match l.findIdx? (isOp c k) with
  | none => l
  | some i => l.drop (i + 1)
def comE (R : Rs) (c : Int) (v t : List UInt8) : Int :=
  if comOk R c v t = false then 2 else if lastI v ≠ c ∨ (Hist.cnt v c : Int) ≠ (R.reg c).asked.number then 3
  else if (Hist.cnt (R.reg c).view c : Int) = (R.reg c).asked.number then 10 else 0
def comS (R : Rs) (c : Int) (v t : List UInt8) : Rs := { R with regs := R.regs.set c.toNat { R.reg c with view := v, tag := t } }
def comL (R : Rs) (c : Int) (v t : List UInt8) : Rs := { comS R c v t with long := v, ltag := t, who := c, pend := cutP c (R.reg c).asked.number R.pend }
def comR (R : Rs) (c : Int) (v t : List UInt8) : Rs := if comE R c v t ≠ 0 then R else if R.long.length < v.length then comL R c v t else comS R c v t
def orderR (R : Rs) : List UInt8 := R.long ++ R.pend.map fun p => by8 p.client
def afterR (y : Rep) (c : Int) : List UInt8 := (y.view ++ y.pend.map fun p => by8 p.client) ++ [by8 c]
def numR (R : Rs) (c : Int) : Int := if hasB R.n c = true then (R.reg c).asked.number else 0
def viewR (R : Rs) (c : Int) : List UInt8 := if hasB R.n c = true then (R.reg c).view else []

/-! ### What always holds -/
structure GOk (g : Reg) : Prop where
  asked : g.asked.Wf
  ans : g.ans.Wf
  tag : g.tag.length = 32
  num : 0 ≤ g.asked.number ∧ g.asked.number ≤ 512
  value : g.asked.value.length ≤ 256
  view : g.view.length ≤ 512
  apend : g.ans.pend.length ≤ 8
  aview : g.ans.view.length ≤ 512
  acl : ∀ p ∈ g.ans.pend, 0 ≤ p.client ∧ p.client < 8
structure PdOk (n : Nat) (p : Pen) : Prop where
  wf : p.Wf
  cl : 0 ≤ p.client ∧ p.client < (n : Int)
  num : 1 ≤ p.number ∧ p.number ≤ 512
structure RInv (R : Rs) : Prop where
  n : 2 ≤ R.n ∧ R.n ≤ 8
  len : R.regs.length = 8
  regs : ∀ g ∈ R.regs, GOk g
  long : R.long.length ≤ 512
  ltag : R.ltag.length = 32
  who : -1 ≤ R.who ∧ R.who < 8
  plen : R.pend.length ≤ 8
  pend : ∀ p ∈ R.pend, PdOk R.n p
theorem zeroG_ok : GOk zeroG := ⟨⟨rfl, rfl⟩, ⟨rfl, rfl, rfl, fun p hp => by cases hp⟩, rfl, ⟨by decide, by decide⟩, by decide, by decide, by decide, by decide, fun p hp => by cases hp⟩
theorem hasB_iff (n : Nat) (c : Int) : hasB n c = true ↔ 0 ≤ c ∧ c < (n : Int) := by simp [hasB]
theorem RInv.reg {R : Rs} (h : RInv R) (c : Int) : GOk (R.reg c) := by
  unfold Rs.reg
  by_cases hc : c.toNat < R.regs.length
  · rw [List.getD_eq_getElem?_getD, List.getElem?_eq_getElem hc]
    exact h.regs _ (List.getElem_mem hc)
  · rw [List.getD_eq_getElem?_getD, List.getElem?_eq_none (by omega)]
    exact zeroG_ok
theorem RInv.new (n : Nat) (h : 2 ≤ n ∧ n ≤ 8) : RInv (newR n) :=
  ⟨h, rfl, fun g hg => by rw [List.eq_of_mem_replicate hg]; exact zeroG_ok, by simp [newR], rfl, ⟨by simp [newR], by simp [newR]⟩, by simp [newR], fun p hp => by cases hp⟩
theorem mem_set_cases {α : Type} {l : List α} {i : Nat} {a x : α} (h : x ∈ l.set i a) : x ∈ l ∨ x = a := List.mem_or_eq_of_mem_set h
theorem provenL_len (R : Rs) : (provenL R).length = R.pend.length := by simp [provenL]
theorem provenL_wf {R : Rs} (h : RInv R) : ∀ p ∈ provenL R, p.Wf := by
  intro p hp
  simp only [provenL, List.mem_map] at hp
  obtain ⟨q, hq, rfl⟩ := hp
  exact ⟨(h.pend q hq).wf.asked, (h.reg q.client).tag⟩
theorem ansR_wf {R : Rs} (h : RInv R) (x : Sub) : (ansR R x).Wf := by
  unfold ansR
  split
  · exact ⟨h.ltag, (h.reg x.target).asked.data, (h.reg x.target).tag, provenL_wf h⟩
  · exact ⟨h.ltag, rfl, rfl, provenL_wf h⟩
theorem ansR_pend (R : Rs) (x : Sub) : (ansR R x).pend = provenL R := by unfold ansR; split <;> rfl
theorem ansR_view (R : Rs) (x : Sub) : (ansR R x).view = R.long := by unfold ansR; split <;> rfl
theorem sub_may (c : Int) (x : Sub) : mayB (subM c x) = (inB c 0 7 && subB x) := by
  rw [Bool.eq_iff_iff]
  have hr : restB (subM c x) = true := by
    unfold restB
    rw [sameM_iff]
    rcases fields_cases (1 : Int) with ⟨_, e⟩ | ⟨h, _⟩ | ⟨h, _⟩ | ⟨h, _⟩ | ⟨h, _⟩ | ⟨h, _⟩ | ⟨h, _⟩ | ⟨h, _⟩ | ⟨h, _⟩
    · show emptyAll (fieldsM 1) (subM c x) = zeroM 1 0
      rw [e]
      obtain ⟨s1, s2, s3, s4, s5, s6⟩ := x
      simp [subM, subFs, emptyAll, fClient, fSNumber, fSKind, fSTarget, fSValue, fSAsked, fSData, Slot.zero, Val.n, Val.s, Val.d, zeroM, zeroS]
    all_goals omega
  unfold mayB
  rw [hr]
  simp [partsB, subM, zeroM]
theorem com_may (c : Int) (v t : List UInt8) : mayB (comM c v t) = (inB c 0 7 && viewB v) := by
  rw [Bool.eq_iff_iff]
  have hr : restB (comM c v t) = true := by
    unfold restB
    rw [sameM_iff]
    rcases fields_cases (3 : Int) with ⟨h, _⟩ | ⟨h, _⟩ | ⟨_, e⟩ | ⟨h, _⟩ | ⟨h, _⟩ | ⟨h, _⟩ | ⟨h, _⟩ | ⟨h, _⟩ | ⟨h, _⟩
    · omega
    · omega
    · show emptyAll (fieldsM 3) (comM c v t) = zeroM 3 0
      rw [e]
      simp [comM, comFs, emptyAll, fClient, fView, fTag, Slot.zero, Val.n, Val.s, Val.d, zeroM, zeroS]
    all_goals omega
  unfold mayB
  rw [hr]
  simp [partsB, comM, zeroM]
theorem subOk_parts {R : Rs} {c : Int} {x : Sub} (h : subOk R c x = true) : (0 ≤ c ∧ c < (R.n : Int)) ∧ (0 ≤ x.target ∧ x.target < (R.n : Int)) ∧ (1 ≤ x.number ∧ x.number ≤ 512) ∧ (1 ≤ x.kind ∧ x.kind ≤ 2) ∧ x.value.length ≤ 256 := by
  unfold subOk at h
  rw [sub_may] at h
  simp only [Bool.and_eq_true, hasB_iff, inB_iff, subB, asksB, decide_eq_true_eq] at h
  omega
theorem viewB_parts {v : List UInt8} (h : viewB v = true) : v ≠ [] ∧ v.length ≤ 512 ∧ ∀ b ∈ v, bv b < 8 := by
  unfold viewB Hist.rightB at h
  simp only [Bool.and_eq_true, bne_iff_ne, decide_eq_true_eq, List.all_eq_true] at h
  exact ⟨h.1, h.2.1.2, h.2.2⟩
theorem comOk_parts {R : Rs} {c : Int} {v t : List UInt8} (h : comOk R c v t = true) : (0 ≤ c ∧ c < (R.n : Int)) ∧ v ≠ [] ∧ v.length ≤ 512 ∧ ∀ b ∈ v, bv b < 8 := by
  unfold comOk at h
  rw [com_may] at h
  simp only [Bool.and_eq_true, hasB_iff, inB_iff] at h
  exact ⟨h.1, viewB_parts h.2.2⟩
theorem subE_zero {R : Rs} {c : Int} {x : Sub} (h : subE R c x = 0) : subOk R c x = true := by
  unfold subE at h
  cases e : subOk R c x
  · rw [if_pos e] at h; cases h
  · rfl
theorem subE_new {R : Rs} {c : Int} {x : Sub} (h : subE R c x = 0) (hn : x.number ≠ (R.reg c).asked.number) : x.number = (R.reg c).asked.number + 1 ∧ fullB R = false := by
  unfold subE at h
  have hk : subOk R c x = true := subE_zero (by unfold subE; exact h)
  rw [if_neg (by rw [hk]; simp), if_neg hn] at h
  by_cases h1 : x.number ≠ (R.reg c).asked.number + 1
  · rw [if_pos h1] at h; cases h
  · rw [if_neg h1] at h
    cases e : fullB R
    · exact ⟨by omega, rfl⟩
    · rw [if_pos e] at h; cases h
theorem RInv.subN {R : Rs} (h : RInv R) {c : Int} {x : Sub} (hx : x.Wf) (hok : subOk R c x = true) (hf : fullB R = false) : RInv (subN R c x) := by
  obtain ⟨h1, h2, h3, h4, h5⟩ := subOk_parts hok
  have hn := h.n
  simp only [fullB, Bool.or_eq_false_iff, decide_eq_false_iff_not] at hf
  refine ⟨h.n, by simpa [Ms.subN] using h.len, fun g hg => ?_, h.long, h.ltag, h.who, ?_, fun p hp => ?_⟩
  · rcases mem_set_cases hg with hg | rfl
    · exact h.regs g hg
    · have hg := h.reg c
      refine ⟨hx, ansR_wf h x, hg.tag, ⟨by simp only; omega, h3.2⟩, h5, hg.view, ?_, ?_, ?_⟩
      · simp only [ansR_pend, provenL_len]
        exact h.plen
      · simp only [ansR_view]
        exact h.long
      · simp only [ansR_pend]
        intro p hp
        simp only [provenL, List.mem_map] at hp
        obtain ⟨q, hq, rfl⟩ := hp
        have := (h.pend q hq).cl
        exact ⟨this.1, by simp only; omega⟩
  · simp only [Ms.subN, List.length_append, List.length_cons, List.length_nil]
    omega
  · simp only [Ms.subN, List.mem_append, List.mem_cons, List.not_mem_nil, or_false] at hp
    rcases hp with hp | rfl
    · exact h.pend p hp
    · exact ⟨⟨hx.asked, rfl⟩, h1, h3⟩
theorem RInv.subR {R : Rs} (h : RInv R) {c : Int} {x : Sub} (hx : x.Wf) : RInv (subR R c x) := by
  unfold Ms.subR
  by_cases h0 : subE R c x ≠ 0
  · rw [if_pos h0]; exact h
  · rw [if_neg h0]
    have h0' : subE R c x = 0 := by omega
    by_cases h1 : x.number = (R.reg c).asked.number
    · rw [if_pos h1]; exact h
    · rw [if_neg h1]
      exact h.subN hx (subE_zero h0') (subE_new h0' h1).2
theorem comE_zero {R : Rs} {c : Int} {v t : List UInt8} (h : comE R c v t = 0) : comOk R c v t = true ∧ lastI v = c ∧ (Hist.cnt v c : Int) = (R.reg c).asked.number ∧ (Hist.cnt (R.reg c).view c : Int) ≠ (R.reg c).asked.number := by
  unfold comE at h
  cases e : comOk R c v t
  · rw [if_pos e] at h; cases h
  · rw [if_neg (by rw [e]; simp)] at h
    by_cases h1 : lastI v ≠ c ∨ (Hist.cnt v c : Int) ≠ (R.reg c).asked.number
    · rw [if_pos h1] at h; cases h
    · rw [if_neg h1] at h
      by_cases h2 : (Hist.cnt (R.reg c).view c : Int) = (R.reg c).asked.number
      · rw [if_pos h2] at h; cases h
      · exact ⟨rfl, by omega, by omega, h2⟩
theorem cutP_sub (c k : Int) (l : List Pen) : ∃ m, cutP c k l = l.drop m := by
  unfold cutP
  split
  · exact ⟨0, rfl⟩
  · exact ⟨_, rfl⟩
theorem RInv.comS {R : Rs} (h : RInv R) {c : Int} {v t : List UInt8} (ht : t.length = 32) (hv : v.length ≤ 512) : RInv (comS R c v t) := by
  refine ⟨h.n, by simpa [Ms.comS] using h.len, fun g hg => ?_, h.long, h.ltag, h.who, h.plen, h.pend⟩
  rcases mem_set_cases hg with hg | rfl
  · exact h.regs g hg
  · have hg := h.reg c
    exact ⟨hg.asked, hg.ans, ht, hg.num, hg.value, hv, hg.apend, hg.aview, hg.acl⟩
theorem RInv.comL {R : Rs} (h : RInv R) {c : Int} {v t : List UInt8} (ht : t.length = 32) (hv : v.length ≤ 512) (hc : 0 ≤ c ∧ c < 8) : RInv (comL R c v t) := by
  have h1 := h.comS (c := c) ht hv
  obtain ⟨m, hm⟩ := cutP_sub c (R.reg c).asked.number R.pend
  refine ⟨h1.n, h1.len, h1.regs, hv, ht, ⟨by simp only [Ms.comL]; omega, hc.2⟩, ?_, fun p hp => ?_⟩
  · have := h.plen
    simp only [Ms.comL, hm, List.length_drop]
    omega
  · simp only [Ms.comL, hm] at hp
    exact h.pend p (List.mem_of_mem_drop hp)
theorem RInv.comR {R : Rs} (h : RInv R) {c : Int} {v t : List UInt8} (ht : t.length = 32) : RInv (comR R c v t) := by
  unfold Ms.comR
  by_cases h0 : comE R c v t ≠ 0
  · rw [if_pos h0]; exact h
  · rw [if_neg h0]
    obtain ⟨h1, -⟩ := comE_zero (by omega : comE R c v t = 0)
    obtain ⟨h2, -, h3, -⟩ := comOk_parts h1
    have := h.n
    split
    · exact h.comL ht h3 ⟨h2.1, by omega⟩
    · exact h.comS ht h3
theorem reg_nat (R : Rs) (j : Nat) : R.reg (j : Int) = R.regs.getD j zeroG := rfl
theorem by8_val (c : Int) (h : 0 ≤ c ∧ c < 256) : bv (by8 c) = c := by
  unfold bv by8
  rw [UInt8.toNat_ofNat']
  omega
end Go.Proofs.YtidlgecognedlaaGreatDoor.Ms

/-
  Registers as a row of cells: where everything lies; lists of what is pending that somebody owns; what a call leaves as it was.
-/
namespace Go.Proofs.YtidlgecognedlaaGreatDoor.Ms
open Go Go.RowKit
set_option maxRecDepth 100000

/-- Nothing but the blocks X has changed of what there was. -/
structure Kp (X : List Nat) (w w' : World) : Prop where
  os : w'.os = w.os
  tape : w'.tape = w.tape
  output : w'.output = w.output
  size : w.heap.size ≤ w'.heap.size
  block : ∀ k, k < w.heap.size → k ∉ X → w'.heap[k]? = w.heap[k]?
theorem heap_oldA (w : World) (o : Obj) (i : Nat) (h : i < w.heap.size) : (w.alloc o).heap[i]? = w.heap[i]? := by
  show (w.heap.push o)[i]? = w.heap[i]?
  rw [Array.getElem?_push, if_neg (Nat.ne_of_lt h)]
theorem Kp.refl (X : List Nat) (w : World) : Kp X w w := ⟨rfl, rfl, rfl, Nat.le_refl _, fun _ _ _ => rfl⟩
theorem Kp.trans {X : List Nat} {a b c : World} (h : Kp X a b) (k : Kp X b c) : Kp X a c :=
  ⟨k.os.trans h.os, k.tape.trans h.tape, k.output.trans h.output, Nat.le_trans h.size k.size, fun i hi hp => (k.block i (Nat.lt_of_lt_of_le hi h.size) hp).trans (h.block i hi hp)⟩
theorem Kp.drop {X Y : List Nat} {w w' : World} (h : Kp X w w') (hX : ∀ x ∈ X, x ∈ Y ∨ w.heap.size ≤ x) : Kp Y w w' :=
  ⟨h.os, h.tape, h.output, h.size, fun k hk hp => h.block k hk (fun hx => by rcases hX k hx with e | e; exact hp e; omega)⟩
theorem Kp.then {X Y : List Nat} {a b c : World} (h : Kp X a b) (k : Kp Y b c) (hY : ∀ x ∈ Y, x ∈ X ∨ a.heap.size ≤ x) : Kp X a c :=
  ⟨k.os.trans h.os, k.tape.trans h.tape, k.output.trans h.output, Nat.le_trans h.size k.size, fun i hi hp => (k.block i (Nat.lt_of_lt_of_le hi h.size) (fun hx => by rcases hY i hx with e | e; exact hp e; omega)).trans (h.block i hi hp)⟩
theorem Kp.of {X : List Nat} {w w' : World} (h : Below w.heap.size w w') : Kp X w w' := ⟨h.os, h.tape, h.output, h.size, fun k hk _ => h.block k hk⟩
theorem Kp.below {X : List Nat} {B : Nat} {w w' : World} (h : Kp X w w') (h1 : ∀ x ∈ X, B ≤ x) (h2 : B ≤ w.heap.size) : Below B w w' :=
  ⟨h.os, h.tape, h.output, h.size, fun k hk => h.block k (by omega) (fun hx => by have := h1 k hx; omega)⟩
theorem Kp.setRow {X : List Nat} {a w : World} (h : Kp X a w) (g : Nat) (cs : Array Value) (hg : g ∈ X ∨ a.heap.size ≤ g) : Kp X a (w.setRow g cs) := by
  refine ⟨h.os, h.tape, h.output, by simpa using h.size, fun k hk hx => ?_⟩
  rw [← h.block k hk hx]
  refine setRow_other w g k cs ?_
  rintro rfl
  rcases hg with e | e
  · exact hx e
  · omega
theorem Kp.but {X : List Nat} {a w w' : World} {b : Nat} (h : Kp X a w) (hb : But b w w') (hg : b ∈ X ∨ a.heap.size ≤ b) : Kp X a w' := by
  refine ⟨hb.os.trans h.os, hb.tape.trans h.tape, hb.output.trans h.output, by rw [hb.size]; exact h.size, fun k hk hx => ?_⟩
  rw [← h.block k hk hx]
  refine hb.block k ?_
  rintro rfl
  rcases hg with e | e
  · exact hx e
  · omega
theorem Kp.setCell {X : List Nat} {a w : World} (h : Kp X a w) (p : Addr) (v : Value) (hg : p.block ∈ X ∨ a.heap.size ≤ p.block) : Kp X a (w.setCell p v) := by
  refine ⟨h.os, h.tape, h.output, by simpa [World.setCell] using h.size, fun k hk hx => ?_⟩
  rw [← h.block k hk hx]
  refine heap_setCell_other w p k v ?_
  rintro rfl
  rcases hg with e | e
  · exact hx e
  · omega
theorem Kp.drewN {X : List Nat} {a w : World} (h : Kp X a w) (n : Nat) : Kp X a (w.drewN n) := ⟨h.os, h.tape, h.output, h.size, h.block⟩
theorem Kp.drew {X : List Nat} {a w : World} (h : Kp X a w) : Kp X a w.drew := ⟨h.os, h.tape, h.output, h.size, h.block⟩
theorem Kp.alloc {X : List Nat} {a w : World} (h : Kp X a w) (o : Obj) : Kp X a (w.alloc o) :=
  ⟨h.os, h.tape, h.output, by have := h.size; simp; omega, fun k hk hx => (heap_oldA w o k (by have := h.size; omega)).trans (h.block k hk hx)⟩
theorem row_ltA {w : World} {k : Nat} {o : Obj} (hr : w.heap[k]? = some o) : k < w.heap.size := (Array.getElem?_eq_some_iff.1 hr).1
theorem Kp.row {X : List Nat} {w w' : World} (h : Kp X w w') {k : Nat} {o : Obj} (hr : w.heap[k]? = some o) (hk : k ∉ X) : w'.heap[k]? = some o :=
  (h.block k (row_ltA hr) hk).trans hr
theorem Kp.grown {X : List Nat} {a w w' : World} {row : Option Nat} (h : Kp X a w) (hg : w.grownBy w' row) (hr : ∀ k, row = some k → k ∈ X ∨ a.heap.size ≤ k) : Kp X a w' :=
  ⟨hg.os.trans h.os, hg.tape.trans h.tape, hg.output.trans h.output, Nat.le_trans h.size hg.size, fun k hk hx => (hg.block k (by have := h.size; omega) (fun e => by rcases hr k e.symm with q | q; exact hx q; omega)).trans (h.block k hk hx)⟩

/-! ### Lists of what is pending that somebody owns -/
def flatQ (ps : List Pen) : List Value := ps.flatMap penC
theorem flatQ_len {ps : List Pen} (h : ∀ p ∈ ps, p.Wf) : (flatQ ps).length = ps.length * 68 := by
  induction ps with
  | nil => rfl
  | cons a l ih =>
    have := ih (fun p hp => h p (by simp [hp]))
    simp only [flatQ, List.flatMap_cons, List.length_append, penC_len (h a (by simp)), List.length_cons] at this ⊢
    omega
theorem one_flat (ps : List Pen) : ∀ v ∈ flatQ ps, v.oneCell' = true := by
  intro v hv
  simp only [flatQ, List.mem_flatMap] at hv
  obtain ⟨p, -, hp⟩ := hv
  exact one_pen p v hp
theorem flatQ_at {ps : List Pen} (h : ∀ p ∈ ps, p.Wf) : ∀ j, j < ps.length → ∀ i c, (penC (ps.getD j noPen))[i]? = some c → (flatQ ps)[j * 68 + i]? = some c := by
  induction ps with
  | nil => intro j hj; cases hj
  | cons a l ih =>
    intro j hj i c hc
    have ha := penC_len (h a (by simp))
    simp only [flatQ, List.flatMap_cons]
    cases j with
    | zero =>
      simp only [List.getD_cons_zero] at hc
      rw [Nat.zero_mul, Nat.zero_add, List.getElem?_append_left (List.getElem?_eq_some_iff.1 hc).1]
      exact hc
    | succ j =>
      simp only [List.getD_cons_succ] at hc
      rw [List.getElem?_append_right (by rw [ha]; omega), ha, show (j + 1) * 68 + i - 68 = j * 68 + i by omega]
      exact ih (fun p hp => h p (by simp [hp])) j (by simpa using hj) i c hc
def OwnP (w : World) (v : Value) (ps : List Pen) : Prop := w.ownsRow 0 113 68 v ps.length (flatQ ps)
theorem OwnP.nil (w : World) : OwnP w (.slice none 0 0) [] := World.ownsRow_nil w 0 _ _
theorem OwnP.kp {X : List Nat} {w w' : World} {v : Value} {ps : List Pen} (h : OwnP w v ps) (hk : Kp X w w') (hv : ∀ b, v.ownBlock = some b → b ∉ X) : OwnP w' v ps := by
  obtain ⟨h1, h2⟩ := h
  refine ⟨h1, ?_⟩
  rcases h2 with h2 | ⟨g, cap, cur, rfl, h3, h4, h5⟩
  · exact .inl h2
  · exact .inr ⟨g, cap, cur, rfl, h3, hk.row h4 (hv g rfl), h5⟩
theorem OwnP.kept {w w' : World} {v : Value} {ps : List Pen} (h : OwnP w v ps) (hb : Below w.heap.size w w') : OwnP w' v ps := h.kp (X := []) (Kp.of hb) (fun _ _ => by simp)
theorem OwnP.lt {w : World} {v : Value} {ps : List Pen} (h : OwnP w v ps) : ∀ b, v.ownBlock = some b → b < w.heap.size := fun b hb => (World.ownsRow.lt h b hb).2
theorem OwnP.one {w : World} {v : Value} {ps : List Pen} (h : OwnP w v ps) : v.oneCell' = true := by
  rcases h.2 with ⟨rfl, -⟩ | ⟨g, cap, cur, rfl, -⟩ <;> rfl
theorem OwnP.form {w : World} {v : Value} {ps : List Pen} (h : OwnP w v ps) : (v = .slice none 0 0 ∧ ps = []) ∨ ∃ g cap cur, v = .slice (some ⟨g, 0, none⟩) ps.length cap ∧ w.heap[g]? = some (.cells cur 113 (0, 0)) ∧ ps.length ≤ cap ∧ cap ≤ maxLen ∧ cur.size = cap * 68 ∧ cur.toList.take (ps.length * 68) = flatQ ps := by
  rcases h.2 with ⟨e, h0⟩ | ⟨g, cap, cur, e, -, h4⟩
  · exact .inl ⟨e, List.eq_nil_of_length_eq_zero h0⟩
  · exact .inr ⟨g, cap, cur, e, h4⟩
theorem OwnP.cell {w : World} {g n cap : Nat} {ps : List Pen} (h : OwnP w (.slice (some ⟨g, 0, none⟩) n cap) ps) : ∀ j u, (flatQ ps)[j]? = some u → w.cell? ⟨g, j, none⟩ = some u := by
  intro j u hj
  have := World.ownsRow.cells h (g := g) rfl j u hj
  rwa [add_none, Nat.zero_add] at this
theorem OwnP.pens {w : World} {v : Value} {ps : List Pen} (h : OwnP w v ps) (hw : ∀ p ∈ ps, p.Wf) : PensAt w v ps := by
  rcases h.form with ⟨rfl, rfl⟩ | ⟨g, cap, cur, rfl, h4, -⟩
  · exact PensAt.nil w
  · refine ⟨_, cap, rfl, fun _ => ⟨g, 0, rfl, fun j hj i c hc => ?_⟩⟩
    rw [Nat.zero_add]
    exact h.cell _ _ (flatQ_at hw j hj i c hc)

/-! ### The row -/
def regC (g : Reg) (v : Value) : List Value := subC g.asked ++ (repC g.ans v ++ ([st g.view] ++ dg g.tag))
def regsC : List Reg → List Value → List Value
  | g :: gs, v :: vs => regC g v ++ regsC gs vs
  | _, _ => []
def donC (v t : List UInt8) : List Value := [st v] ++ dg t
def tailC (R : Rs) (vP : Value) : List Value := donC R.long R.ltag ++ ([nu R.who] ++ [vP])
def rowR (R : Rs) (vs : List Value) (vP : Value) : List Value := [nu (R.n : Int)] ++ (regsC R.regs vs ++ tailC R vP)
theorem regC_len {g : Reg} (h : GOk g) (v : Value) : (regC g v).length = 204 := by
  simp [regC, subC_len h.asked, repC_len h.ans, dg_len, h.tag]
theorem regsC_len : ∀ (gs : List Reg) (vs : List Value), (∀ g ∈ gs, GOk g) → gs.length = vs.length → (regsC gs vs).length = gs.length * 204
  | [], [], _, _ => rfl
  | [], _ :: _, _, h => by simp at h
  | _ :: _, [], _, h => by simp at h
  | g :: gs, v :: vs, hg, h => by
    have := regsC_len gs vs (fun x hx => hg x (by simp [hx])) (by simpa using h)
    simp only [regsC, List.length_append, regC_len (hg g (by simp)), this, List.length_cons]
    omega
theorem regsC_split : ∀ (gs : List Reg) (vs : List Value) (c : Nat), c < gs.length → gs.length = vs.length →
    regsC gs vs = regsC (gs.take c) (vs.take c) ++ (regC (gs.getD c zeroG) (vs.getD c undef) ++ regsC (gs.drop (c + 1)) (vs.drop (c + 1)))
  | [], _, c, h, _ => by simp at h
  | _ :: _, [], _, _, h => by simp at h
  | g :: gs, v :: vs, 0, _, _ => by simp [regsC]
  | g :: gs, v :: vs, c + 1, hc, h => by
    have := regsC_split gs vs c (by simpa using hc) (by simpa using h)
    simp only [List.take_succ_cons, List.drop_succ_cons, List.getD_cons_succ, regsC, List.append_assoc]
    rw [this]
theorem take_set_lt {α : Type} (l : List α) (c : Nat) (a : α) : (l.set c a).take c = l.take c := by
  rw [List.take_set_of_le (Nat.le_refl c)]
theorem drop_set_lt {α : Type} (l : List α) (c : Nat) (a : α) : (l.set c a).drop (c + 1) = l.drop (c + 1) := by
  rw [List.drop_set_of_lt (by omega)]
theorem getD_set_same {α : Type} (l : List α) (c : Nat) (a d : α) (h : c < l.length) : (l.set c a).getD c d = a := by
  rw [List.getD_eq_getElem?_getD, List.getElem?_set_self h]
  rfl
theorem getD_set_other {α : Type} (l : List α) (c i : Nat) (a d : α) (h : i ≠ c) : (l.set c a).getD i d = l.getD i d := by
  rw [List.getD_eq_getElem?_getD, List.getD_eq_getElem?_getD, List.getElem?_set_ne (Ne.symm h)]
def preC (R : Rs) (vs : List Value) (c : Nat) : List Value := [nu (R.n : Int)] ++ regsC (R.regs.take c) (vs.take c)
def posC (R : Rs) (vs : List Value) (vP : Value) (c : Nat) : List Value := regsC (R.regs.drop (c + 1)) (vs.drop (c + 1)) ++ tailC R vP
theorem row_split {R : Rs} (h : RInv R) {vs : List Value} (hv : vs.length = 8) (vP : Value) {c : Nat} (hc : c < 8) :
    rowR R vs vP = preC R vs c ++ (regC (R.regs.getD c zeroG) (vs.getD c undef) ++ posC R vs vP c) ∧ (preC R vs c).length = 1 + c * 204 := by
  have hl := h.len
  constructor
  · unfold rowR preC posC
    rw [regsC_split R.regs vs c (by omega) (by omega)]
    simp only [List.append_assoc]
  · unfold preC
    rw [List.length_append, regsC_len _ _ (fun g hg => h.regs g (List.mem_of_mem_take hg)) (by simp; omega)]
    simp
    omega
theorem row_set_reg {R R' : Rs} (h : RInv R) {vs : List Value} (hv : vs.length = 8) (vP : Value) {c : Nat} (hc : c < 8) (g : Reg) (v : Value) (e1 : R'.n = R.n) (e2 : R'.regs = R.regs.set c g) (e3 : tailC R' vP = tailC R vP) :
    rowR R' (vs.set c v) vP = preC R vs c ++ (regC g v ++ posC R vs vP c) := by
  have hl := h.len
  unfold rowR preC posC
  rw [e1, e2, e3, regsC_split (R.regs.set c g) (vs.set c v) c (by simp; omega) (by simp; omega), take_set_lt, take_set_lt, drop_set_lt, drop_set_lt, getD_set_same _ _ _ _ (by omega), getD_set_same _ _ _ _ (by omega)]
  simp only [List.append_assoc]
theorem head_len {R : Rs} (h : RInv R) {vs : List Value} (hv : vs.length = 8) : ([nu (R.n : Int)] ++ regsC R.regs vs).length = 1633 := by
  have hl := h.len
  rw [List.length_append, regsC_len _ _ h.regs (by omega), hl]
  rfl
theorem row_tail (R : Rs) (vs : List Value) (vP : Value) : rowR R vs vP = ([nu (R.n : Int)] ++ regsC R.regs vs) ++ tailC R vP := by simp [rowR]
theorem donC_len {v t : List UInt8} (h : t.length = 32) : (donC v t).length = 33 := by simp [donC, dg_len, h]
theorem one_don (v t : List UInt8) : ∀ x ∈ donC v t, x.oneCell' = true := by
  intro x hx
  simp only [donC, List.mem_append, List.mem_cons, List.not_mem_nil, or_false] at hx
  rcases hx with rfl | hx
  · rfl
  · exact one_dg _ x hx

structure RA (w : World) (p : Nat) (q rs : List Nat) (R : Rs) (vs : List Value) (vP : Value) : Prop where
  inv : RInv R
  vlen : vs.length = 8
  row : w.heap[p]? = some (.cells (rowR R vs vP).toArray 111)
  reps : ∀ i, i < 8 → OwnP w (vs.getD i undef) (R.regs.getD i zeroG).ans.pend
  rblk : ∀ i, i < 8 → ∀ b, (vs.getD i undef).ownBlock = some b → b ∈ rs
  own : OwnP w vP R.pend
  blk : ∀ b, vP.ownBlock = some b → b ∈ q
  ne : p ∉ q ∧ p ∉ rs ∧ ∀ b ∈ q, b ∉ rs
  lt : ∀ b ∈ q ++ rs, b < w.heap.size
section
variable {w w' : World} {p : Nat} {q rs X : List Nat} {R : Rs} {vs : List Value} {vP : Value}
theorem RA.kp (h : RA w p q rs R vs vP) (hk : Kp X w w') (hX : ∀ b ∈ p :: (q ++ rs), b ∉ X) : RA w' p q rs R vs vP :=
  ⟨h.inv, h.vlen, hk.row h.row (hX p (by simp)), fun i hi => (h.reps i hi).kp hk (fun b hb => hX b (by simp [h.rblk i hi b hb])), h.rblk, h.own.kp hk (fun b hb => hX b (by simp [h.blk b hb])), h.blk, h.ne, fun b hb => Nat.lt_of_lt_of_le (h.lt b hb) hk.size⟩
theorem RA.kept (h : RA w p q rs R vs vP) (hb : Below w.heap.size w w') : RA w' p q rs R vs vP := h.kp (X := []) (Kp.of hb) (fun _ _ => by simp)
theorem RA.cn (h : RA w p q rs R vs vP) : w.cell? ⟨p, 0, none⟩ = some (nu (R.n : Int)) := row_cell (A := []) (C := regsC R.regs vs ++ tailC R vP) h.row (by simp [rowR]) rfl
theorem RA.tail_seg (h : RA w p q rs R vs vP) {A cs C : List Value} {k : Nat} (e : tailC R vP = A ++ (cs ++ C)) (hA : A.length = k) : ∀ j v, cs[j]? = some v → w.cell? ⟨p, 1633 + k + j, none⟩ = some v :=
  row_seg (A := ([nu (R.n : Int)] ++ regsC R.regs vs) ++ A) (cs := cs) (C := C) h.row (by rw [row_tail, e]; simp only [List.append_assoc]) (by rw [List.length_append, head_len h.inv h.vlen, hA])
theorem RA.long (h : RA w p q rs R vs vP) : w.cell? ⟨p, 1633, none⟩ = some (st R.long) := h.tail_seg (A := []) (cs := [st R.long]) (C := dg R.ltag ++ ([nu R.who] ++ [vP])) (k := 0) (by simp [tailC, donC]) rfl 0 _ rfl
theorem RA.ltag (h : RA w p q rs R vs vP) : ∀ j v, (dg R.ltag)[j]? = some v → w.cell? ⟨p, 1634 + j, none⟩ = some v := h.tail_seg (A := [st R.long]) (cs := dg R.ltag) (C := [nu R.who] ++ [vP]) (k := 1) (by simp [tailC, donC]) rfl
theorem RA.done (h : RA w p q rs R vs vP) : ∀ j v, (donC R.long R.ltag)[j]? = some v → w.cell? ⟨p, 1633 + j, none⟩ = some v := h.tail_seg (A := []) (cs := donC R.long R.ltag) (C := [nu R.who] ++ [vP]) (k := 0) (by simp [tailC]) rfl
theorem RA.who (h : RA w p q rs R vs vP) : w.cell? ⟨p, 1666, none⟩ = some (nu R.who) := h.tail_seg (A := donC R.long R.ltag) (cs := [nu R.who]) (C := [vP]) (k := 33) (by simp [tailC]) (donC_len h.inv.ltag) 0 _ rfl
theorem RA.pnd (h : RA w p q rs R vs vP) : w.cell? ⟨p, 1667, none⟩ = some vP := h.tail_seg (A := donC R.long R.ltag ++ [nu R.who]) (cs := [vP]) (C := []) (k := 34) (by simp [tailC]) (by rw [List.length_append, donC_len h.inv.ltag]; rfl) 0 _ rfl
theorem RA.reg_seg (h : RA w p q rs R vs vP) {c : Nat} (hc : c < 8) {A cs C : List Value} {k : Nat} (e : regC (R.regs.getD c zeroG) (vs.getD c undef) = A ++ (cs ++ C)) (hA : A.length = k) : ∀ j v, cs[j]? = some v → w.cell? ⟨p, 1 + c * 204 + k + j, none⟩ = some v := by
  obtain ⟨e1, e2⟩ := row_split h.inv h.vlen vP hc
  exact row_seg (A := preC R vs c ++ A) (cs := cs) (C := C ++ posC R vs vP c) h.row (by rw [e1, e]; simp only [List.append_assoc]) (by rw [List.length_append, e2, hA])
theorem RA.asked (h : RA w p q rs R vs vP) {c : Nat} (hc : c < 8) : ∀ j v, (subC (R.regs.getD c zeroG).asked)[j]? = some v → w.cell? ⟨p, 1 + c * 204 + j, none⟩ = some v := h.reg_seg hc (A := []) (cs := subC (R.regs.getD c zeroG).asked) (k := 0) rfl rfl
theorem RA.anum (h : RA w p q rs R vs vP) {c : Nat} (hc : c < 8) : w.cell? ⟨p, 1 + c * 204, none⟩ = some (nu (R.regs.getD c zeroG).asked.number) := h.asked hc 0 _ rfl
theorem RA.aval (h : RA w p q rs R vs vP) {c : Nat} (hc : c < 8) : w.cell? ⟨p, 1 + c * 204 + 3, none⟩ = some (st (R.regs.getD c zeroG).asked.value) := h.asked hc 3 _ rfl
theorem RA.adata (h : RA w p q rs R vs vP) {c : Nat} (hc : c < 8) : ∀ j v, (dg (R.regs.getD c zeroG).asked.data)[j]? = some v → w.cell? ⟨p, 1 + c * 204 + 36 + j, none⟩ = some v := by
  have hg : GOk (R.regs.getD c zeroG) := h.inv.reg (c : Int)
  refine h.reg_seg hc (A := [nu (R.regs.getD c zeroG).asked.number, nu (R.regs.getD c zeroG).asked.kind, nu (R.regs.getD c zeroG).asked.target, st (R.regs.getD c zeroG).asked.value] ++ dg (R.regs.getD c zeroG).asked.asked) (C := repC (R.regs.getD c zeroG).ans (vs.getD c undef) ++ ([st (R.regs.getD c zeroG).view] ++ dg (R.regs.getD c zeroG).tag)) (k := 36) ?_ ?_
  · simp only [regC, subC, List.append_assoc]
  · rw [List.length_append, dg_len, hg.asked.asked]; rfl
theorem RA.ans (h : RA w p q rs R vs vP) {c : Nat} (hc : c < 8) : ∀ j v, (repC (R.regs.getD c zeroG).ans (vs.getD c undef))[j]? = some v → w.cell? ⟨p, 1 + c * 204 + 68 + j, none⟩ = some v :=
  h.reg_seg hc (A := subC (R.regs.getD c zeroG).asked) rfl (subC_len (h.inv.reg (c : Int)).asked)
theorem RA.view (h : RA w p q rs R vs vP) {c : Nat} (hc : c < 8) : w.cell? ⟨p, 1 + c * 204 + 171, none⟩ = some (st (R.regs.getD c zeroG).view) := by
  have hg : GOk (R.regs.getD c zeroG) := h.inv.reg (c : Int)
  refine h.reg_seg hc (A := subC (R.regs.getD c zeroG).asked ++ repC (R.regs.getD c zeroG).ans (vs.getD c undef)) (cs := [st (R.regs.getD c zeroG).view]) (C := dg (R.regs.getD c zeroG).tag) (k := 171) ?_ ?_ 0 _ rfl
  · simp only [regC, List.append_assoc]
  · rw [List.length_append, subC_len hg.asked, repC_len hg.ans]
theorem RA.tag (h : RA w p q rs R vs vP) {c : Nat} (hc : c < 8) : ∀ j v, (dg (R.regs.getD c zeroG).tag)[j]? = some v → w.cell? ⟨p, 1 + c * 204 + 172 + j, none⟩ = some v := by
  have hg : GOk (R.regs.getD c zeroG) := h.inv.reg (c : Int)
  refine h.reg_seg hc (A := subC (R.regs.getD c zeroG).asked ++ (repC (R.regs.getD c zeroG).ans (vs.getD c undef) ++ [st (R.regs.getD c zeroG).view])) (cs := dg (R.regs.getD c zeroG).tag) (C := []) (k := 172) ?_ ?_
  · simp only [regC, List.append_assoc, List.append_nil]
  · rw [List.length_append, List.length_append, subC_len hg.asked, repC_len hg.ans]; rfl
theorem RA.last (h : RA w p q rs R vs vP) {c : Nat} (hc : c < 8) : ∀ j v, (donC (R.regs.getD c zeroG).view (R.regs.getD c zeroG).tag)[j]? = some v → w.cell? ⟨p, 1 + c * 204 + 171 + j, none⟩ = some v := by
  have hg : GOk (R.regs.getD c zeroG) := h.inv.reg (c : Int)
  refine h.reg_seg hc (A := subC (R.regs.getD c zeroG).asked ++ repC (R.regs.getD c zeroG).ans (vs.getD c undef)) (cs := donC (R.regs.getD c zeroG).view (R.regs.getD c zeroG).tag) (C := []) (k := 171) ?_ ?_
  · simp only [regC, donC, List.append_assoc, List.append_nil]
  · rw [List.length_append, subC_len hg.asked, repC_len hg.ans]
end
/-- Registers in memory, within the blocks F. -/
def RX (w : World) (p : Nat) (F : List Nat) (R : Rs) : Prop := ∃ q rs vs vP, RA w p q rs R vs vP ∧ (∀ b ∈ p :: (q ++ rs), b ∈ F) ∧ ∀ b ∈ F, b < w.heap.size
theorem RX.kp {w w' : World} {p : Nat} {F X : List Nat} {R : Rs} (h : RX w p F R) (hk : Kp X w w') (hX : ∀ b ∈ F, b ∉ X) : RX w' p F R := by
  obtain ⟨q, rs, vs, vP, h1, h2, h3⟩ := h
  exact ⟨q, rs, vs, vP, h1.kp hk (fun b hb => hX b (h2 b hb)), h2, fun b hb => Nat.lt_of_lt_of_le (h3 b hb) hk.size⟩
theorem RX.kept {w w' : World} {p : Nat} {F : List Nat} {R : Rs} (h : RX w p F R) (hb : Below w.heap.size w w') : RX w' p F R := h.kp (X := []) (Kp.of hb) (fun _ _ => by simp)
theorem RX.inv {w : World} {p : Nat} {F : List Nat} {R : Rs} (h : RX w p F R) : RInv R := by
  obtain ⟨q, rs, vs, vP, h1, -⟩ := h
  exact h1.inv
end Go.Proofs.YtidlgecognedlaaGreatDoor.Ms

/-
  Regions that draw their order, walked once; single operations of such a region; lists that are built. No program plays a part.
-/
namespace Go.Proofs.YtidlgecognedlaaGreatDoor.Ms
open Go Go.RowKit
set_option maxRecDepth 100000

abbrev pt (g off : Nat) : Value := .pointer (some ⟨g, off, none⟩)
section
variable {ops : Array Oper}
def unlB (n : Nat) (listed : Array Bool) : List Nat := (List.range n).filter fun i => !listed.getD i true
theorem mem_unlB {n : Nat} {listed : Array Bool} {i : Nat} : i ∈ unlB n listed ↔ i < n ∧ listed.getD i true = false := by simp [unlB]
theorem getB_set (l : Array Bool) (i j : Nat) (d : Bool) (hi : i < l.size) : (l.setIfInBounds i true).getD j d = if i = j then true else l.getD j d := by
  by_cases h : i = j
  · subst h
    simp [Array.getD_eq_getD_getElem?, hi]
  · simp [Array.getD_eq_getD_getElem?, h]
theorem unl_setB {n : Nat} {listed : Array Bool} {i : Nat} (hn : listed.size = n) (hi : i ∈ unlB n listed) : (unlB n (listed.setIfInBounds i true)).length < (unlB n listed).length := by
  have hlt := (mem_unlB.1 hi).1
  have e : unlB n (listed.setIfInBounds i true) = (unlB n listed).filter (fun j => j != i) := by
    unfold unlB
    rw [List.filter_filter]
    apply List.filter_congr
    intro j _
    rw [getB_set listed i j true (by omega)]
    by_cases h : i = j
    · subst h; simp
    · have h' : j ≠ i := fun e => h e.symm
      simp [h, h']
  rw [e]
  have := List.length_filter_lt_length_iff_exists (p := fun j => j != i) (l := unlB n listed)
  exact this.2 ⟨i, hi, by simp⟩
theorem of_readyB {listed : Array Bool} {i : Nat} (h : i ∈ Region.ready .any ops listed) : i < ops.size ∧ listed.getD i true = false ∧ ∀ o, ops[i]? = some o → ∀ e ∈ o.after, Region.binds .any e = true → listed.getD e.on false = true := by
  unfold Region.ready at h
  simp only [List.mem_filter, List.mem_range, Bool.and_eq_true, Bool.not_eq_true'] at h
  refine ⟨h.1, h.2.1, fun o ho e he hb => ?_⟩
  have h3 := h.2.2
  rw [ho] at h3
  simp only [Option.map_some, Option.getD_some, Array.all_eq_true_iff_forall_mem] at h3
  have := h3 e he
  simpa [hb] using this
theorem ready_ofB {listed : Array Bool} {i : Nat} {o : Oper} (ho : ops[i]? = some o) (hu : listed.getD i true = false) (h : ∀ e ∈ o.after, Region.binds .any e = true → listed.getD e.on false = true) : i ∈ Region.ready .any ops listed := by
  unfold Region.ready
  simp only [List.mem_filter, List.mem_range, Bool.and_eq_true, Bool.not_eq_true']
  refine ⟨(Array.getElem?_eq_some_iff.1 ho).1, hu, ?_⟩
  rw [ho]
  simp only [Option.map_some, Option.getD_some, Array.all_eq_true_iff_forall_mem]
  intro e he
  by_cases hb : Region.binds .any e = true
  · simp [h e he hb]
  · simp [hb]
theorem listed_tfB {l : Array Bool} {i : Nat} (hi : i < l.size) (d : Bool) : l.getD i d = l.getD i true := by simp [hi]
end
/-- Which operations this law takes: unguarded, each waiting for elder ones alone. -/
def okEls (ops : Array Oper) : Bool :=
  (List.range ops.size).all fun i => match ops[i]? with
    | some o => o.guard.isNone && o.after.all (fun e => !Region.binds .any e || decide (e.on < i))
    | none => false
theorem okEls_at {ops : Array Oper} (h : okEls ops = true) {i : Nat} {o : Oper} (ho : ops[i]? = some o) : o.guard = none ∧ ∀ e ∈ o.after, Region.binds .any e = true → e.on < i := by
  have hi : i < ops.size := (Array.getElem?_eq_some_iff.1 ho).1
  unfold okEls at h
  rw [List.all_eq_true] at h
  have h1 := h i (List.mem_range.2 hi)
  rw [ho] at h1
  simp only [Bool.and_eq_true] at h1
  obtain ⟨h1, h3⟩ := h1
  refine ⟨by simpa using h1, ?_⟩
  intro e he hb
  rw [Array.all_eq_true_iff_forall_mem] at h3
  have := h3 e he
  simpa [hb] using this
/-- One more has come up. -/
def up (L : Nat → Bool) (i : Nat) : Nat → Bool := fun j => if i = j then true else L j
theorem up_self (L : Nat → Bool) (i : Nat) : up L i i = true := by simp [up]
theorem up_ne {L : Nat → Bool} {i j : Nat} (h : i ≠ j) : up L i j = L j := by simp [up, h]

section
variable {P : Program} {ops : Array Oper} {Q : Exit → Act → World → Prop} {a0 : Act} {w0 : World} {I : (Nat → Bool) → Act → World → Prop}
theorem all_els (hok : okEls ops = true) {listed : Array Bool} (hn : listed.size = ops.size) (hr : Region.ready .any ops listed = []) : ∀ n i, i < n → i < ops.size → listed.getD i true = true
  | 0, i, h, _ => absurd h (Nat.not_lt_zero i)
  | n + 1, i, _, hi => by
    cases hu : listed.getD i true with
    | true => rfl
    | false =>
      obtain ⟨o, ho⟩ : ∃ o, ops[i]? = some o := ⟨ops[i], Array.getElem?_eq_getElem hi⟩
      obtain ⟨-, he⟩ := okEls_at hok ho
      have hm := ready_ofB ho hu (fun e hm hb => by
        have hlt := he e hm hb
        have := all_els hok hn hr n e.on (by omega) (by omega)
        rw [listed_tfB (by omega) false]
        exact this)
      rw [hr] at hm
      cases hm
theorem wpAny_inv (hok : okEls ops = true)
    (hstep : ∀ L a w i o, ops[i]? = some o → I L a w → L i = false → (∀ j, (o.after.any fun e => Region.binds .any e && e.on == j) = true → L j = true) → o.wp P a w (fun a' w' => I (up L i) a' w') Q)
    (hend : ∀ L a w, (∀ i, i < ops.size → L i = true) → I L a w → Q .normal a w) :
    ∀ (fuel : Nat) (listed : Array Bool) (a : Act) (w : World), listed.size = ops.size → (unlB ops.size listed).length ≤ fuel → I (fun j => listed.getD j false) a w → wpAny P .any ops Q fuel listed a w := by
  have fin : ∀ (listed : Array Bool) (a : Act) (w : World), listed.size = ops.size → I (fun j => listed.getD j false) a w → (∀ i, i < ops.size → listed.getD i true = true) → Q .normal a w := by
    intro listed a w hn hm hall
    refine hend _ a w (fun i hi => ?_) hm
    show listed.getD i false = true
    rw [listed_tfB (by omega) false]
    exact hall i hi
  intro fuel
  induction fuel with
  | zero =>
    intro listed a w hn hf hm
    have hall : ∀ i, i < ops.size → listed.getD i true = true := by
      intro i hi
      cases hu : listed.getD i true with
      | true => rfl
      | false =>
        have : i ∈ unlB ops.size listed := mem_unlB.2 ⟨hi, hu⟩
        have h0 : unlB ops.size listed = [] := List.length_eq_zero_iff.1 (by omega)
        rw [h0] at this
        cases this
    refine ⟨?_, fin listed a w hn hm hall⟩
    cases hr : Region.ready .any ops listed with
    | nil => rfl
    | cons i l =>
      have hi : i ∈ Region.ready .any ops listed := by rw [hr]; simp
      obtain ⟨h1, h2, -⟩ := of_readyB hi
      rw [hall i h1] at h2
      cases h2
  | succ fuel ih =>
    intro listed a w hn hf hm
    refine ⟨fun hr => fin listed a w hn hm (fun i hi => all_els hok hn hr (i + 1) i (by omega) hi), fun i hi => ?_⟩
    obtain ⟨h1, h2, h3⟩ := of_readyB hi
    obtain ⟨o, ho⟩ : ∃ o, ops[i]? = some o := ⟨ops[i], Array.getElem?_eq_getElem h1⟩
    obtain ⟨hg, -⟩ := okEls_at hok ho
    have hw : Region.wanted o (yielded ops a.tmps) = true := by unfold Region.wanted; rw [hg]
    unfold wpOp
    rw [ho]
    simp only [hw, if_true]
    left
    refine Oper.wp_mono ?_ (hstep _ a w i o ho hm (by show listed.getD i false = false; rw [listed_tfB (by omega) false]; exact h2) (fun j hj => ?_))
    · intro a' w' hI
      refine ih _ _ _ (by simp [hn]) (by have := unl_setB hn (mem_unlB.2 ⟨h1, h2⟩); omega) ?_
      have e : (fun j => (listed.setIfInBounds i true).getD j false) = up (fun j => listed.getD j false) i := funext fun j => getB_set listed i j false (by omega)
      rw [e]
      exact hI
    · rw [Array.any_eq_true'] at hj
      obtain ⟨e, he, hb⟩ := hj
      simp only [Bool.and_eq_true, beq_iff_eq] at hb
      rw [← hb.2]
      exact h3 o ho e he hb.1
/-- The law of the region. -/
theorem wp_region_inv {id : Nat} (I : (Nat → Bool) → Act → World → Prop) (hf : P.follows .mixedOrders = true) (hok : okEls ops = true) (h0 : ∀ w1, Below w0.heap.size w0 w1 → I (fun _ => false) a0 w1)
    (hstep : ∀ L a w i o, ops[i]? = some o → I L a w → L i = false → (∀ j, (o.after.any fun e => Region.binds .any e && e.on == j) = true → L j = true) → o.wp P a w (fun a' w' => I (up L i) a' w') Q)
    (hend : ∀ L a w, (∀ i, i < ops.size → L i = true) → I L a w → Q .normal a w) :
    (Code.region id ops true).wp P Q a0 w0 := by
  refine wp_region_any hf ?_
  refine wpAny_inv (I := I) hok hstep hend _ _ _ _ (by simp) ?_ ?_
  · have := List.length_filter_le (fun i => !(Array.replicate ops.size false).getD i true) (List.range ops.size)
    simpa [unlB] using this
  · have e : (fun j => (Array.replicate ops.size false).getD j false) = fun _ => false := by
      funext j
      simp [Array.getD_eq_getD_getElem?, Array.getElem?_replicate]
      split <;> simp
    rw [e]
    exact h0 _ ⟨rfl, rfl, rfl, Nat.le_refl _, fun k hk => rfl⟩
end

section
variable {P : Program} {o : Oper} {a : Act} {w : World} {Q : Exit → Act → World → Prop} {K : Act → World → Prop}
theorem op_load (ty : TypeId) (x : Operand) (ho : o.op = .load ty x)
    (g off : Nat) (hx : a.eval x = .pointer (some ⟨g, off, none⟩)) (cs : List Value) (d : TypeDesc) (hc : ∀ j v, cs[j]? = some v → w.cell? ⟨g, off + j, none⟩ = some v)
    (hu : P.underlying ty = some d) (hd : (match d with | .struct _ | .array _ _ => true | _ => false) = true) (hi : (P.info? ty).map (·.size) = some cs.length)
    (h : K (a.put o.dst (.agg cs.toArray)) w) : o.wp P a w K Q := by
  have hl : (loadCells ⟨g, off, none⟩ cs.length).run P w = .ok cs.toArray w :=
    run_loadCells_list (P := P) w ⟨g, off, none⟩ cs (fun j v hv => by rw [add_none]; exact hc j v hv)
  cases hq : P.info? ty with
  | none => simp [hq] at hi
  | some i =>
    have hs : i.size = cs.length := by simpa [hq] using hi
    have hagg : (isAgg ty).run P w = .ok true w := by
      unfold isAgg
      rw [Sem.run_bind, run_underlying hu w]
      cases d <;> simp_all
    unfold Oper.wp execOp
    simp [ho, hx, Instr.loadAt, Instr.sureAddr, Sem.run_bind, loadVar, hagg, sizeOf, typeInfo, hq, hs, hl]
    exact h
theorem op_load1 (ty : TypeId) (x : Operand) (ho : o.op = .load ty x)
    (g off : Nat) (hx : a.eval x = .pointer (some ⟨g, off, none⟩)) (v : Value) (d : TypeDesc) (hc : w.cell? ⟨g, off, none⟩ = some v)
    (hu : P.underlying ty = some d) (hd : (match d with | .struct _ | .array _ _ => false | _ => true) = true)
    (h : K (a.put o.dst v) w) : o.wp P a w K Q := by
  have hagg : (isAgg ty).run P w = .ok false w := by
    unfold isAgg
    rw [Sem.run_bind, run_underlying hu w]
    cases d <;> simp_all
  unfold Oper.wp execOp
  simp [ho, hx, Instr.loadAt, Instr.sureAddr, Sem.run_bind, loadVar, hagg, hc]
  exact h
theorem op_alloc (ty : TypeId) (ho : o.op = .alloc ty) (z : Array Value) (hi : (P.info? ty).map (·.zero) = some (some (.agg z)))
    (h : K (a.put o.dst (.pointer (some ⟨w.heap.size, 0, none⟩))) (w.alloc (.cells z ty))) : o.wp P a w K Q := by
  cases hq : P.info? ty with
  | none => simp [hq] at hi
  | some i =>
    have hz : i.zero = some (.agg z) := by simpa [hq] using hi
    unfold Oper.wp execOp
    simp [ho, Instr.alloc, zeroValue, typeInfo, hq, hz, newVar, newRow, newObj, Sem.run_bind, Value.cells]
    exact h
theorem op_store (ty : TypeId) (x y : Operand) (ho : o.op = .store ty x y) (hn : o.dst = none)
    (g : Nat) (hx : a.eval x = .pointer (some ⟨g, 0, none⟩)) (cs old : List Value) (hy : a.eval y = .agg cs.toArray) (t : TypeId) (hg : w.heap[g]? = some (.cells old.toArray t))
    (hold : old.length = cs.length) (h1 : ∀ v ∈ cs, v.oneCell' = true) (hi : (P.info? ty).map (·.size) = some cs.length)
    (h : K a (w.setRow g cs.toArray)) : o.wp P a w K Q := by
  have e : (old.toArray.toList.take 0 ++ cs ++ old.toArray.toList.drop (0 + cs.length)) = cs := by
    simp [← hold]
  have hst := run_storeCells_at P g 0 t cs 0 old.toArray w hg (by simp; omega) h1
  rw [Nat.add_zero, e] at hst
  cases hq : P.info? ty with
  | none => simp [hq] at hi
  | some i =>
    have hs : i.size = cs.length := by simpa [hq] using hi
    unfold Oper.wp execOp
    simp [ho, hx, hy, Instr.storeAt, Instr.sureAddr, Sem.run_bind, storeVar, sizeOf, typeInfo, hq, hs, Value.cells]
    simp [hst]
    show K (a.put o.dst undef) _
    rw [hn]
    exact h
theorem op_fa (t : Tmp) (T : TypeId) (k g off d : Nat) (ho : o.op = .fieldAddr T (.tmp t) k) (hr : ∀ w, (Instr.fieldAt T (.pointer (some ⟨g, off, none⟩)) k).run P w = .ok (.pointer (some ⟨g, off + d, none⟩)) w)
    (hx : a.eval (.tmp t) = .pointer (some ⟨g, off, none⟩)) (h : K (a.put o.dst (.pointer (some ⟨g, off + d, none⟩))) w) : o.wp P a w K Q := by
  unfold Oper.wp execOp
  simp only [ho, hx, Sem.run_bind, hr, Result.andThen_ok, Sem.run_pure, Oper.upon]
  exact h
theorem op_assign (t : Tmp) (c : Value) (ho : o.op = .assign (.tmp t)) (hx : a.eval (.tmp t) = c) (h : K (a.put o.dst c) w) : o.wp P a w K Q := by
  unfold Oper.wp execOp
  simp only [ho, hx, Sem.run_pure, Oper.upon]
  exact h
end

/-! ### The law with slots -/
def dstOf (ops : Array Oper) (i : Nat) : Option Tmp := (ops[i]?).bind (·.dst)
def waits (o : Oper) (j : Nat) : Bool := o.after.any fun e => Region.binds .any e && e.on == j
/-- Unguarded, each with a slot of its own or with none, each waiting for elder ones alone. -/
def okMd (ops : Array Oper) (N : Nat) : Bool :=
  okEls ops && (List.range ops.size).all fun i => match dstOf ops i with
    | some d => decide (d < N) && (List.range ops.size).all (fun j => j == i || dstOf ops j != some d)
    | none => true
theorem dst_lt {ops : Array Oper} {i : Nat} {d : Tmp} (h : dstOf ops i = some d) : i < ops.size := by
  unfold dstOf at h
  cases ho : ops[i]? with
  | none => rw [ho] at h; cases h
  | some o => exact (Array.getElem?_eq_some_iff.1 ho).1
theorem okMd_at {ops : Array Oper} {N : Nat} (h : okMd ops N = true) : okEls ops = true ∧ ∀ i d, dstOf ops i = some d → d < N ∧ ∀ j, dstOf ops j = some d → j = i := by
  unfold okMd at h
  rw [Bool.and_eq_true, List.all_eq_true] at h
  refine ⟨h.1, fun i d hd => ?_⟩
  have h1 := h.2 i (List.mem_range.2 (dst_lt hd))
  rw [hd] at h1
  simp only [Bool.and_eq_true, decide_eq_true_eq, List.all_eq_true, List.mem_range] at h1
  refine ⟨h1.1, fun j hj => ?_⟩
  have := h1.2 j (dst_lt hj)
  simpa [hj] using this
/-- Whoever writes the slot t is i itself, or waits for it. -/
def keepOk (ops : Array Oper) (i : Nat) (t : Tmp) : Bool := (List.range ops.size).all fun j => match ops[j]? with
  | some oj => oj.dst != some t || (j == i || waits oj i)
  | none => true
/-- Nobody writes the slot t. -/
def noneW (ops : Array Oper) (t : Tmp) : Bool := (List.range ops.size).all fun j => dstOf ops j != some t
structure Md (ops : Array Oper) (N : Nat) (a0 : Act) (val : (Nat → Bool) → Nat → Value → World → Prop) (J : (Nat → Bool) → World → Prop) (L : Nat → Bool) (a : Act) (w : World) : Prop where
  size : a.tmps.size = N
  defs : a.defers = a0.defers
  kept : ∀ t, (∀ i, L i = true → dstOf ops i ≠ some t) → a.tmps.getD t undef = a0.tmps.getD t undef
  done : ∀ i d, L i = true → dstOf ops i = some d → val L i (a.tmps.getD d undef) w
  clos : ∀ i o, ops[i]? = some o → L i = true → ∀ j, waits o j = true → L j = true
  inv : J L w
def Owe (P : Program) (ops : Array Oper) (Q : Exit → Act → World → Prop) (N : Nat) (a0 : Act) (val : (Nat → Bool) → Nat → Value → World → Prop) (J : (Nat → Bool) → World → Prop) (i : Nat) (o : Oper) : Prop :=
  ∀ L a w, L i = false → (∀ j, waits o j = true → L j = true) → (∀ j oj, ops[j]? = some oj → waits oj i = true → L j = false) → J L w → a.tmps.size = N →
    (∀ t, keepOk ops i t = true → a.tmps.getD t undef = a0.tmps.getD t undef) → (∀ j d, L j = true → dstOf ops j = some d → val L j (a.tmps.getD d undef) w) →
    o.wp P a w (fun a' w' => ∃ v, a' = a.put o.dst v ∧ (o.dst.isSome = true → val (up L i) i v w') ∧ J (up L i) w' ∧ ∀ j d, L j = true → dstOf ops j = some d → val (up L i) j (a.tmps.getD d undef) w') Q
theorem put_ne (a : Act) (d t : Nat) (v : Value) (h : d ≠ t) : (a.put (some d) v).tmps.getD t undef = a.tmps.getD t undef := by
  simp [Act.put, Array.getD_eq_getD_getElem?, h]
theorem put_eq (a : Act) (d : Nat) (v : Value) (h : d < a.tmps.size) : (a.put (some d) v).tmps.getD d undef = v := by
  simp [Act.put, h]
theorem put_size (a : Act) (d : Option Nat) (v : Value) : (a.put d v).tmps.size = a.tmps.size := by
  cases d <;> simp [Act.put]
theorem put_defs (a : Act) (d : Option Nat) (v : Value) : (a.put d v).defers = a.defers := by cases d <;> rfl
section
variable {P : Program} {ops : Array Oper} {Q : Exit → Act → World → Prop} {N : Nat} {a0 : Act} {w0 : World} {val : (Nat → Bool) → Nat → Value → World → Prop} {J : (Nat → Bool) → World → Prop} {L : Nat → Bool} {a : Act} {w w' : World} {i : Nat} {o : Oper}
theorem Md.not (hm : Md ops N a0 val J L a w) (hLi : L i = false) : ∀ j oj, ops[j]? = some oj → waits oj i = true → L j = false := by
  intro j oj hoj hwj
  cases e : L j
  · rfl
  · rw [hm.clos j oj hoj e i hwj] at hLi
    cases hLi
theorem Md.keepAt (hm : Md ops N a0 val J L a w) (hLi : L i = false) (t : Tmp) (ht : keepOk ops i t = true) : a.tmps.getD t undef = a0.tmps.getD t undef := by
  refine hm.kept t (fun j hj hdj => ?_)
  unfold keepOk at ht
  rw [List.all_eq_true] at ht
  have h1 := ht j (List.mem_range.2 (dst_lt hdj))
  cases hoj : ops[j]? with
  | none => unfold dstOf at hdj; rw [hoj] at hdj; cases hdj
  | some oj =>
    rw [hoj] at h1
    have e : oj.dst = some t := by unfold dstOf at hdj; rw [hoj] at hdj; exact hdj
    simp only [e, bne_self_eq_false, Bool.false_or, Bool.or_eq_true, beq_iff_eq] at h1
    rcases h1 with rfl | h1
    · rw [hj] at hLi; cases hLi
    · rw [hm.not hLi j oj hoj h1] at hj; cases hj
theorem Md.step (hok : okMd ops N = true) (hm : Md ops N a0 val J L a w) (ho : ops[i]? = some o) (hw : ∀ j, waits o j = true → L j = true) {v : Value} (hv : o.dst.isSome = true → val (up L i) i v w') (hJ : J (up L i) w') (hmono : ∀ j d, L j = true → dstOf ops j = some d → val (up L i) j (a.tmps.getD d undef) w') :
    Md ops N a0 val J (up L i) (a.put o.dst v) w' := by
  obtain ⟨-, hd⟩ := okMd_at hok
  have hdi : dstOf ops i = o.dst := by unfold dstOf; rw [ho]; rfl
  refine ⟨(put_size _ _ _).trans hm.size, (put_defs _ _ _).trans hm.defs, fun t ht => ?_, fun j d hj hdj => ?_, fun j oj hoj hj x hx => ?_, hJ⟩
  · have h1 := ht i (up_self L i)
    rw [hdi] at h1
    have h2 := hm.kept t (fun j hj => ht j (by unfold up; split <;> first | rfl | exact hj))
    rw [← h2]
    cases e : o.dst with
    | none => rfl
    | some d => exact put_ne _ _ _ _ (fun e2 => h1 (by rw [e, e2]))
  · by_cases hij : i = j
    · subst hij
      rw [hdi] at hdj
      rw [hdj]
      rw [put_eq _ _ _ (by rw [hm.size]; exact (hd i d (hdi.trans hdj)).1)]
      exact hv (by rw [hdj]; rfl)
    · rw [up_ne hij] at hj
      have hne : o.dst ≠ some d := fun e => hij ((hd j d hdj).2 i (hdi.trans e))
      have e2 : (a.put o.dst v).tmps.getD d undef = a.tmps.getD d undef := by
        cases e : o.dst with
        | none => rfl
        | some d' => exact put_ne _ _ _ _ (fun e2 => hne (by rw [e, e2]))
      rw [e2]
      exact hmono j d hj hdj
  · by_cases hij : i = j
    · subst hij
      rw [ho] at hoj
      cases hoj
      unfold up
      split
      · rfl
      · exact hw x hx
    · rw [up_ne hij] at hj
      unfold up
      split
      · rfl
      · exact hm.clos j oj hoj hj x hx
theorem wp_region_md {id : Nat} (val : (Nat → Bool) → Nat → Value → World → Prop) (J : (Nat → Bool) → World → Prop) (hf : P.follows .mixedOrders = true) (hok : okMd ops N = true) (hN : a0.tmps.size = N) (h0 : ∀ w1, Below w0.heap.size w0 w1 → J (fun _ => false) w1)
    (hown : ∀ i o, ops[i]? = some o → Owe P ops Q N a0 val J i o)
    (hend : ∀ L a w, (∀ i, i < ops.size → L i = true) → J L w → a.tmps.size = N → a.defers = a0.defers → (∀ t, noneW ops t = true → a.tmps.getD t undef = a0.tmps.getD t undef) → (∀ i d, dstOf ops i = some d → val L i (a.tmps.getD d undef) w) → Q .normal a w) :
    (Code.region id ops true).wp P Q a0 w0 := by
  refine wp_region_inv (Md ops N a0 val J) hf (okMd_at hok).1 (fun w1 hw1 => ⟨hN, rfl, fun _ _ => rfl, by simp, by simp, h0 w1 hw1⟩) ?_ ?_
  · intro L a w i o ho hm hLi hw
    refine Oper.wp_mono ?_ (hown i o ho L a w hLi hw (hm.not hLi) hm.inv hm.size (hm.keepAt hLi) hm.done)
    rintro a' w' ⟨v, rfl, hv, hJ, hmono⟩
    exact hm.step hok ho hw hv hJ hmono
  · intro L a w hall hm
    refine hend L a w hall hm.inv hm.size hm.defs (fun t ht => hm.kept t (fun i _ e => ?_)) (fun i d hdi => hm.done i d (hall i (dst_lt hdi)) hdi)
    unfold noneW at ht
    rw [List.all_eq_true] at ht
    have := ht i (List.mem_range.2 (dst_lt e))
    simp [e] at this

/-! ### All but the last only make memory -/
/-- The last one waits for all others. -/
def lastOk (ops : Array Oper) (n : Nat) : Bool := decide (n + 1 = ops.size) && (List.range n).all fun i => match ops[n]? with
  | some o => waits o i || (List.range n).any (fun j => waits o j && (match ops[j]? with | some oj => waits oj i | none => false))
  | none => false
def OweG (P : Program) (ops : Array Oper) (Q : Exit → Act → World → Prop) (a0 : Act) (w0 : World) (val : Nat → Value → World → Prop) (i : Nat) (o : Oper) : Prop :=
  ∀ a w, Below w0.heap.size w0 w → (∀ t, keepOk ops i t = true → a.tmps.getD t undef = a0.tmps.getD t undef) → (∀ j d, waits o j = true → dstOf ops j = some d → val j (a.tmps.getD d undef) w) →
    o.wp P a w (fun a' w' => ∃ v, a' = a.put o.dst v ∧ val i v w' ∧ Below w.heap.size w w') Q
theorem wp_region_grow {id : Nat} (n : Nat) (val : Nat → Value → World → Prop) (hf : P.follows .mixedOrders = true) (hok : okMd ops N = true) (hlast : lastOk ops n = true) (hN : a0.tmps.size = N)
    (hmono : ∀ i v w w', val i v w → Below w.heap.size w w' → val i v w')
    (hown : ∀ i o, i < n → ops[i]? = some o → OweG P ops Q a0 w0 val i o)
    (hlo : ∀ o a w, ops[n]? = some o → Below w0.heap.size w0 w → a.tmps.size = N → a.defers = a0.defers → (∀ t, keepOk ops n t = true → a.tmps.getD t undef = a0.tmps.getD t undef) → (∀ i d, i < n → dstOf ops i = some d → val i (a.tmps.getD d undef) w) → o.wp P a w (Q .normal) Q) :
    (Code.region id ops true).wp P Q a0 w0 := by
  have hsz : n + 1 = ops.size ∧ ∀ i, i < n → ∀ o, ops[n]? = some o → waits o i = true ∨ ∃ j oj, waits o j = true ∧ ops[j]? = some oj ∧ waits oj i = true := by
    unfold lastOk at hlast
    rw [Bool.and_eq_true, decide_eq_true_eq, List.all_eq_true] at hlast
    refine ⟨hlast.1, fun i hi o ho => ?_⟩
    have h1 := hlast.2 i (List.mem_range.2 hi)
    rw [ho] at h1
    simp only [Bool.or_eq_true, List.any_eq_true, List.mem_range, Bool.and_eq_true] at h1
    rcases h1 with h1 | ⟨j, -, h1, h2⟩
    · exact Or.inl h1
    · cases hoj : ops[j]? with
      | none => rw [hoj] at h2; cases h2
      | some oj => rw [hoj] at h2; exact Or.inr ⟨j, oj, h1, hoj, h2⟩
  refine wp_region_inv (fun L a w => (L n = true → Q .normal a w ∧ ∀ i, i < ops.size → L i = true) ∧ (L n = false → Md ops N a0 (fun _ => val) (fun _ w => Below w0.heap.size w0 w) L a w)) hf (okMd_at hok).1 (fun w1 hw1 => ⟨fun h => Bool.noConfusion h, fun _ => ⟨hN, rfl, fun _ _ => rfl, by simp, by simp, hw1⟩⟩) ?_ ?_
  · intro L a w i o ho hI hLi hw
    have hi : i < ops.size := (Array.getElem?_eq_some_iff.1 ho).1
    cases hLn : L n with
    | true =>
      rw [(hI.1 hLn).2 i hi] at hLi
      cases hLi
    | false =>
      have hm := hI.2 hLn
      by_cases hin : i = n
      · subst hin
        have hall : ∀ j, j < i → L j = true := by
          intro j hj
          rcases hsz.2 j hj o ho with h1 | ⟨k, ok, h1, h2, h3⟩
          · exact hw j h1
          · exact hm.clos k ok h2 (hw k h1) j h3
        refine Oper.wp_mono ?_ (hlo o a w ho hm.inv hm.size hm.defs (hm.keepAt hLi) (fun j d hj hd => hm.done j d (hall j hj) hd))
        intro a' w' hQ
        refine ⟨fun _ => ⟨hQ, fun j hj => ?_⟩, fun h => ?_⟩
        · unfold up
          split
          · rfl
          · exact hall j (by omega)
        · rw [up_self] at h
          cases h
      · have hil : i < n := by omega
        refine Oper.wp_mono ?_ (hown i o hil ho a w hm.inv (hm.keepAt hLi) (fun j d hj hd => hm.done j d (hw j hj) hd))
        rintro a' w' ⟨v, rfl, hv, hB⟩
        refine ⟨fun h => ?_, fun _ => hm.step hok ho hw (fun _ => hv) (hm.inv.trans (hB.mono hm.inv.size)) (fun j d hj hd => hmono j _ _ _ (hm.done j d hj hd) hB)⟩
        rw [up_ne hin, hLn] at h
        cases h
  · intro L a w hall hI
    exact (hI.1 (hall n (by omega))).1
end
section
variable {P : Program} {o : Oper} {a : Act} {w : World} {Q : Exit → Act → World → Prop} {K : Act → World → Prop}
theorem op_move (t : Tmp) (c : Value) (ho : o.op = .move (.tmp t)) (hx : a.tmps.getD t undef = c) (h : K (a.put o.dst c) w) : o.wp P a w K Q := by
  have hx' : a.eval (.tmp t) = c := hx
  unfold Oper.wp execOp
  simp only [ho, hx', Sem.run_pure, Oper.upon]
  exact h
theorem op_nil (t : Tmp) (g off : Nat) (ho : o.op = .nilCheck (.tmp t)) (hx : a.tmps.getD t undef = pt g off) (h : K (a.put o.dst (pt g off)) w) : o.wp P a w K Q := by
  have hx' : a.eval (.tmp t) = pt g off := hx
  unfold Oper.wp execOp
  simp only [ho, hx', Sem.run_pure, Oper.upon]
  exact h
theorem op_extract (t : Tmp) (k : Nat) (vs : Array Value) (c : Value) (ho : o.op = .extract (.tmp t) k) (hx : a.tmps.getD t undef = .tuple vs) (hc : vs[k]? = some c) (h : K (a.put o.dst c) w) : o.wp P a w K Q := by
  have hx' : a.eval (.tmp t) = .tuple vs := hx
  unfold Oper.wp execOp
  simp [ho, hx', Instr.extract, hc]
  exact h
theorem op_len (t : Tmp) (T : TypeId) (n : Nat) (ho : o.op = Op.call { callee := Callee.builtin Builtin.len, args := #[.tmp t], argTypes := #[T] }) (v : Value) (hx : a.tmps.getD t undef = v) (hr : ∀ ty, (Builtin.len_ #[T] ty #[v]).run P w = .ok (nu n) w) (h : K (a.put o.dst (nu n)) w) : o.wp P a w K Q := by
  have hx' : a.eval (.tmp t) = v := hx
  unfold Oper.wp execOp
  simp [ho, resolve, invoke, builtin, hx', hr, Result.andThen]
  exact h
end
/-- The frame behind a region whose slots are known. -/
theorem frame_at {ops : Array Oper} {A : Array Value} {c : Nat → Value} (hv : ∀ i d, dstOf ops i = some d → A.getD d undef = c i) : ∀ (l : List Nat) (B : Array Value), B.size = A.size → (∀ t, t < A.size → (∀ i ∈ l, dstOf ops i ≠ some t) → B.getD t undef = A.getD t undef) →
    l.foldl (fun B i => match dstOf ops i with | some d => B.setIfInBounds d (c i) | none => B) B = A
  | [], B, hs, hB => by
    apply Array.ext hs
    intro i h1 h2
    have := hB i h2 (by simp)
    simpa [h1, h2] using this
  | i :: l, B, hs, hB => by
    rw [List.foldl_cons]
    cases e : dstOf ops i with
    | none =>
      refine frame_at hv l B hs (fun t ht hl => hB t ht (fun j hj => ?_))
      rcases List.mem_cons.1 hj with rfl | hj
      · rw [e]; simp
      · exact hl j hj
    | some d =>
      refine frame_at hv l (B.setIfInBounds d (c i)) (by simpa using hs) (fun t ht hl => ?_)
      by_cases hd : d = t
      · subst hd
        rw [hv i d e]
        have : d < B.size := by rw [hs]; exact ht
        simp [this]
      · have h1 := hB t ht (fun j hj => by
          rcases List.mem_cons.1 hj with rfl | hj
          · rw [e]; simpa using hd
          · exact hl j hj)
        rw [← h1]
        simp [Array.getD_eq_getD_getElem?, hd]
theorem frame_of {ops : Array Oper} {a a0 : Act} {c : Nat → Value} (hs : a.tmps.size = a0.tmps.size) (hk : ∀ t, noneW ops t = true → a.tmps.getD t undef = a0.tmps.getD t undef) (hv : ∀ i d, dstOf ops i = some d → a.tmps.getD d undef = c i) :
    a.tmps = (List.range ops.size).foldl (fun B i => match dstOf ops i with | some d => B.setIfInBounds d (c i) | none => B) a0.tmps := by
  refine (frame_at hv _ _ hs.symm (fun t _ hl => (hk t ?_).symm)).symm
  unfold noneW
  rw [List.all_eq_true]
  intro j hj
  have := hl j hj
  simpa using this
/-- What the slots hold: those of S something that hangs on what has come up, the others one value each. -/
def vS (S : List Nat) (vs : (Nat → Bool) → Nat → Value → World → Prop) (cs : List Value) (L : Nat → Bool) (i : Nat) (v : Value) (w : World) : Prop := if i ∈ S then vs L i v w else v = cs.getD i undef
section
variable {P : Program} {ops : Array Oper} {Q : Exit → Act → World → Prop} {N : Nat} {a0 : Act} {w0 : World} {S : List Nat} {vs : (Nat → Bool) → Nat → Value → World → Prop} {cs : List Value}
theorem vS_c {L : Nat → Bool} {i : Nat} {v : Value} {w : World} (h : vS S vs cs L i v w) (hi : i ∉ S) : v = cs.getD i undef := by
  unfold vS at h
  rwa [if_neg hi] at h
theorem vS_s {L : Nat → Bool} {i : Nat} {v : Value} {w : World} (h : vS S vs cs L i v w) (hi : i ∈ S) : vs L i v w := by
  unfold vS at h
  rwa [if_pos hi] at h
def Cst (ops : Array Oper) (S : List Nat) (cs : List Value) (a : Act) (o : Oper) : Prop := ∀ j d, waits o j = true → j ∉ S → dstOf ops j = some d → a.tmps.getD d undef = cs.getD j undef
def Kpt (ops : Array Oper) (a0 a : Act) (i : Nat) : Prop := ∀ t, keepOk ops i t = true → a.tmps.getD t undef = a0.tmps.getD t undef
/-- An operation that only answers. -/
def OweC (P : Program) (ops : Array Oper) (Q : Exit → Act → World → Prop) (a0 : Act) (w0 : World) (S : List Nat) (cs : List Value) (i : Nat) (o : Oper) : Prop :=
  ∀ (a : Act) (w : World), Below w0.heap.size w0 w → Kpt ops a0 a i → Cst ops S cs a o → ∀ K : Act → World → Prop, K (a.put o.dst (cs.getD i undef)) w → o.wp P a w K Q
/-- An operation that makes memory. -/
def OweS (P : Program) (ops : Array Oper) (Q : Exit → Act → World → Prop) (a0 : Act) (w0 : World) (S : List Nat) (vs : (Nat → Bool) → Nat → Value → World → Prop) (cs : List Value) (i : Nat) (o : Oper) : Prop :=
  ∀ (L : Nat → Bool) (a : Act) (w : World), L i = false → (∀ j, waits o j = true → L j = true) → (∀ j oj, ops[j]? = some oj → waits oj i = true → L j = false) → (∀ j oj, ops[j]? = some oj → L j = true → ∀ q, waits oj q = true → L q = true) → Below w0.heap.size w0 w → Kpt ops a0 a i → Cst ops S cs a o →
    (∀ j d, L j = true → j ∈ S → dstOf ops j = some d → vs L j (a.tmps.getD d undef) w) →
    o.wp P a w (fun a' w' => ∃ v, a' = a.put o.dst v ∧ vs (up L i) i v w' ∧ Below w0.heap.size w0 w' ∧ ∀ j d, L j = true → j ∈ S → dstOf ops j = some d → vs (up L i) j (a.tmps.getD d undef) w') Q
theorem wp_region_chain {id : Nat} (n : Nat) (S : List Nat) (vs : (Nat → Bool) → Nat → Value → World → Prop) (cs : List Value) (hf : P.follows .mixedOrders = true) (hok : okMd ops N = true) (hlast : lastOk ops n = true) (hN : a0.tmps.size = N)
    (hvs : ∀ i, i ∉ S → i < n → ∀ L j u w, vs L j u w → vs (up L i) j u w)
    (hc : ∀ i o, i < n → i ∉ S → ops[i]? = some o → OweC P ops Q a0 w0 S cs i o)
    (hs : ∀ i o, i < n → i ∈ S → ops[i]? = some o → OweS P ops Q a0 w0 S vs cs i o)
    (hlo : ∀ L o a w, (∀ i, i < n → L i = true) → L n = false → ops[n]? = some o → Below w0.heap.size w0 w → a.tmps.size = N → a.defers = a0.defers → Kpt ops a0 a n → (∀ i d, i < n → i ∉ S → dstOf ops i = some d → a.tmps.getD d undef = cs.getD i undef) → (∀ i d, i < n → i ∈ S → dstOf ops i = some d → vs L i (a.tmps.getD d undef) w) → o.wp P a w (Q .normal) Q) :
    (Code.region id ops true).wp P Q a0 w0 := by
  have hsz : n + 1 = ops.size ∧ ∀ i, i < n → ∀ o, ops[n]? = some o → waits o i = true ∨ ∃ j oj, waits o j = true ∧ ops[j]? = some oj ∧ waits oj i = true := by
    unfold lastOk at hlast
    rw [Bool.and_eq_true, decide_eq_true_eq, List.all_eq_true] at hlast
    refine ⟨hlast.1, fun i hi o ho => ?_⟩
    have h1 := hlast.2 i (List.mem_range.2 hi)
    rw [ho] at h1
    simp only [Bool.or_eq_true, List.any_eq_true, List.mem_range, Bool.and_eq_true] at h1
    rcases h1 with h1 | ⟨j, -, h1, h2⟩
    · exact Or.inl h1
    · cases hoj : ops[j]? with
      | none => rw [hoj] at h2; cases h2
      | some oj => rw [hoj] at h2; exact Or.inr ⟨j, oj, h1, hoj, h2⟩
  refine wp_region_inv (fun L a w => (L n = true → Q .normal a w ∧ ∀ i, i < ops.size → L i = true) ∧ (L n = false → Md ops N a0 (vS S vs cs) (fun _ w => Below w0.heap.size w0 w) L a w)) hf (okMd_at hok).1 (fun w1 hw1 => ⟨fun h => Bool.noConfusion h, fun _ => ⟨hN, rfl, fun _ _ => rfl, by simp, by simp, hw1⟩⟩) ?_ ?_
  · intro L a w i o ho hI hLi hw
    have hi : i < ops.size := (Array.getElem?_eq_some_iff.1 ho).1
    cases hLn : L n with
    | true =>
      rw [(hI.1 hLn).2 i hi] at hLi
      cases hLi
    | false =>
      have hm := hI.2 hLn
      by_cases hin : i = n
      · subst hin
        have hall : ∀ j, j < i → L j = true := by
          intro j hj
          rcases hsz.2 j hj o ho with h1 | ⟨k, ok, h1, h2, h3⟩
          · exact hw j h1
          · exact hm.clos k ok h2 (hw k h1) j h3
        refine Oper.wp_mono ?_ (hlo L o a w hall hLn ho hm.inv hm.size hm.defs (hm.keepAt hLi) (fun j d hj hjs hd => vS_c (hm.done j d (hall j hj) hd) hjs) (fun j d hj hjs hd => vS_s (hm.done j d (hall j hj) hd) hjs))
        intro a' w' hQ
        refine ⟨fun _ => ⟨hQ, fun j hj => ?_⟩, fun h => ?_⟩
        · unfold up
          split
          · rfl
          · exact hall j (by omega)
        · rw [up_self] at h
          cases h
      · have hil : i < n := by omega
        have hcst : Cst ops S cs a o := fun j d hj hjs hd => vS_c (hm.done j d (hw j hj) hd) hjs
        by_cases hiS : i ∈ S
        · refine Oper.wp_mono ?_ (hs i o hil hiS ho L a w hLi hw (hm.not hLi) hm.clos hm.inv (hm.keepAt hLi) hcst (fun j d hj hjs hd => vS_s (hm.done j d hj hd) hjs))
          rintro a' w' ⟨v, rfl, hv, hB, hmono⟩
          refine ⟨fun h => ?_, fun _ => hm.step hok ho hw (fun _ => ?_) hB (fun j d hj hd => ?_)⟩
          · rw [up_ne hin, hLn] at h
            cases h
          · unfold vS
            rw [if_pos hiS]
            exact hv
          · have h0 := hm.done j d hj hd
            unfold vS at h0 ⊢
            by_cases hjs : j ∈ S
            · rw [if_pos hjs]
              exact hmono j d hj hjs hd
            · rw [if_neg hjs] at h0 ⊢
              exact h0
        · refine hc i o hil hiS ho a w hm.inv (hm.keepAt hLi) hcst _ ⟨fun h => ?_, fun _ => hm.step hok ho hw (fun _ => ?_) hm.inv (fun j d hj hd => ?_)⟩
          · rw [up_ne hin, hLn] at h
            cases h
          · unfold vS
            rw [if_neg hiS]
          · have h0 := hm.done j d hj hd
            unfold vS at h0 ⊢
            by_cases hjs : j ∈ S
            · rw [if_pos hjs] at h0 ⊢
              exact hvs i hiS hil L j _ w h0
            · rw [if_neg hjs] at h0 ⊢
              exact h0
  · intro L a w hall hI
    exact (hI.1 (hall n (by omega))).1
end
/-- A piece of a list: m elements, whose cells are news. -/
def Pc (w : World) (size : Nat) (x : Value) (m : Nat) (news : List Value) : Prop := news.length = m * size ∧ ∃ a c, x = .slice a m c ∧ (m ≠ 0 → ∃ ad, a = some ad ∧ ∀ j u, news[j]? = some u → w.cell? (ad.add j) = some u)
section
variable {P : Program} {w : World} {o : Oper} {a : Act} {Q : Exit → Act → World → Prop} {K : Act → World → Prop}
theorem run_append_pc (base : Nat) (t ty e : TypeId) (z : Value) (size bytes : Nat) (ht : P.underlying t = some (.slice e)) (hinfo : (P.info? e).map (fun i => (i.zero, i.size, i.bytes)) = some (some z, size, bytes)) (hzs : z.cells.size = size) (hsz : 0 < size)
    (v x : Value) (n m : Nat) (xs news : List Value) (hown : w.ownsRow base e size v n xs) (hp : Pc w size x m news) (h1 : ∀ u ∈ news, u.oneCell' = true) (hnm : n + m ≤ 1000000) (hby : bytes ≤ 1000) (hbase : base ≤ w.heap.size) :
    ∃ v' w', (Builtin.append_ #[t, t] ty #[v, x]).run P w = .ok v' w' ∧ w'.ownsRow base e size v' (n + m) (xs ++ news) ∧ w.grownBy w' v.ownBlock ∧ (v'.ownBlock = v.ownBlock ∨ v'.ownBlock = some w.heap.size) := by
  obtain ⟨i, hi, hz0, hz1, hz2⟩ := info_parts hinfo
  obtain ⟨hl, ax, c, rfl, hc⟩ := hp
  have hb : (n + m) * bytes ≤ 140737488355328 := by
    have := Nat.mul_le_mul hnm hby
    omega
  cases ax with
  | some ad =>
    have hnews : ∀ j u, news[j]? = some u → w.cell? (ad.add j) = some u := by
      intro j u hj
      by_cases hm : m = 0
      · subst hm
        have : news = [] := List.eq_nil_of_length_eq_zero (by simpa using hl)
        rw [this] at hj
        simp at hj
      · obtain ⟨ad', e1, h2⟩ := hc hm
        cases e1
        exact h2 j u hj
    obtain ⟨v', w', g1, g2, g3, -, g5⟩ := run_append_own_at (P := P) w base t ty e i z size bytes ht hi hz0 hz1 hz2 hzs hsz v n xs hown ad m c news hl hnews h1 (by unfold maxLen; omega) hb hbase
    exact ⟨v', w', g1, g2, g3, g5⟩
  | none =>
    have hm : m = 0 := by
      by_cases hm : m = 0
      · exact hm
      · obtain ⟨ad', e1, -⟩ := hc hm
        cases e1
    subst hm
    have hn : news = [] := List.eq_nil_of_length_eq_zero (by simpa using hl)
    subst hn
    refine ⟨v, w, ?_, by simpa using hown, ⟨rfl, rfl, rfl, Nat.le_refl _, fun _ _ _ => rfl⟩, Or.inl rfl⟩
    rcases hown.2 with ⟨rfl, rfl⟩ | ⟨g, cap, cur, rfl, -, -, hnc, -⟩
    · simp [Builtin.append_, run_underlying ht, sizeOf, typeInfo, hi, Builtin.lenOf, Builtin.firstCells]
    · simp [Builtin.append_, run_underlying ht, sizeOf, typeInfo, hi, Builtin.lenOf, Builtin.firstCells, hnc, storeCells]
theorem op_append (s x : Tmp) (base : Nat) (t e : TypeId) (z : Value) (size bytes : Nat) (ho : o.op = .call { callee := .builtin .append, args := #[.tmp s, .tmp x], argTypes := #[t, t] }) (ht : P.underlying t = some (.slice e)) (hinfo : (P.info? e).map (fun i => (i.zero, i.size, i.bytes)) = some (some z, size, bytes)) (hzs : z.cells.size = size) (hsz : 0 < size)
    (n m : Nat) (xs news : List Value) (hown : w.ownsRow base e size (a.tmps.getD s undef) n xs) (hp : Pc w size (a.tmps.getD x undef) m news) (h1 : ∀ u ∈ news, u.oneCell' = true) (hnm : n + m ≤ 1000000) (hby : bytes ≤ 1000) (hbase : base ≤ w.heap.size)
    (h : ∀ v' w', w'.ownsRow base e size v' (n + m) (xs ++ news) → w.grownBy w' (a.tmps.getD s undef).ownBlock → K (a.put o.dst v') w') : o.wp P a w K Q := by
  obtain ⟨v', w', hr, g1, g2, -⟩ := run_append_pc (P := P) (w := w) base t o.type e z size bytes ht hinfo hzs hsz _ _ n m xs news hown hp h1 hnm hby hbase
  have e1 : a.eval (.tmp s) = a.tmps.getD s undef := rfl
  have e2 : a.eval (.tmp x) = a.tmps.getD x undef := rfl
  unfold Oper.wp execOp
  simp only [ho, resolve, invoke, builtin, Sem.run_bind, Sem.run_pure, Result.andThen_ok, List.map_toArray, List.map_cons, List.map_nil, e1, e2, hr]
  exact h v' w' g1 g2
theorem op_bs0 (t e : TypeId) (ho : o.op = .buildSlice t 0 #[]) (ht : P.underlying t = some (.slice e)) (size : Nat) (hi : (P.info? e).map (·.size) = some size)
    (h : K (a.put o.dst (.slice (some ⟨w.heap.size, 0, none⟩) 0 0)) (w.alloc (.cells #[] e))) : o.wp P a w K Q := by
  cases hq : P.info? e with
  | none => simp [hq] at hi
  | some i =>
    have e0 : Array.map (fun _ => (default : Value)) (Array.range 0) = #[] := by simp
    have hr : (Instr.buildSlice t 0 #[]).run P w = .ok (.slice (some ⟨w.heap.size, 0, none⟩) 0 0) (w.alloc (.cells #[] e)) := by
      simp [Instr.buildSlice, run_underlying ht, sizeOf, typeInfo, hq, Instr.fill, newRow]
      rw [e0]
    unfold Oper.wp execOp
    simp only [ho, List.map_toArray, List.map_nil, Sem.run_bind, hr, Result.andThen_ok, Sem.run_pure]
    exact h
theorem op_bs1 (t e : TypeId) (y : Tmp) (ho : o.op = .buildSlice t 1 #[(0, .tmp y)]) (ht : P.underlying t = some (.slice e)) (z : Value) (size bytes : Nat) (hinfo : (P.info? e).map (fun i => (i.zero, i.size, i.bytes)) = some (some z, size, bytes)) (hsz : 0 < size) (hsm : size ≤ 1000)
    (v : Value) (hy : a.tmps.getD y undef = v) (cs : Array Value) (hcs : v.cells = cs) (hs : cs.size = size)
    (h : K (a.put o.dst (.slice (some ⟨w.heap.size, 0, none⟩) 1 1)) (w.alloc (.cells cs e))) : o.wp P a w K Q := by
  obtain ⟨i, hi, hz0, hz1, hz2⟩ := info_parts hinfo
  have hfill := Great.fill_whole (s := size) hsz [v] ((Array.range (1 * size)).map (z.cells[· % z.cells.size]!)) (by simp [hcs, hs]) (by simp)
  have e1 : ([v].flatMap fun v => v.cells.toList).toArray = cs := by simp [hcs]
  rw [e1] at hfill
  have ey : a.eval (.tmp y) = v := hy
  refine wp_buildSlice t e 1 _ ho cs i z ht hi hz0 (by rw [hz1]; omega) (by rw [hz1]; omega) (by rw [hz1]; simpa [ey] using hfill) h
theorem run_cutTo (t e : TypeId) (ht : P.underlying t = some (.slice e)) (size : Nat) (hi : (P.info? e).map (·.size) = some size) (ax : Option Addr) (len cap k : Nat) (hk : k ≤ cap) :
    (Instr.slice t (.slice ax len cap) none (some (nu k)) none).run P w = .ok (.slice (if cap = 0 then ax else ax.map (·.add 0)) k cap) w := by
  cases hq : P.info? e with
  | none => simp [hq] at hi
  | some i =>
    simp [Instr.slice, run_underlying ht, Instr.sliceBounds, Instr.sliceBound, asIntOf, sizeOf, typeInfo, hq]
    intro h
    omega
theorem run_cutFrom (t e : TypeId) (ht : P.underlying t = some (.slice e)) (size : Nat) (hi : (P.info? e).map (·.size) = some size) (ax : Option Addr) (len cap k : Nat) (hk : k ≤ len) :
    (Instr.slice t (.slice ax len cap) (some (nu k)) none none).run P w = .ok (.slice (if cap = k then ax else ax.map (·.add (k * size))) (len - k) (cap - k)) w := by
  cases hq : P.info? e with
  | none => simp [hq] at hi
  | some i =>
    have hs : i.size = size := by simpa [hq] using hi
    simp [Instr.slice, run_underlying ht, Instr.sliceBounds, Instr.sliceBound, asIntOf, sizeOf, typeInfo, hq, hs]
    intro h
    omega
theorem op_cutTo (x y : Tmp) (t e : TypeId) (ho : o.op = .slice t (.tmp x) none (some (.tmp y)) none) (ht : P.underlying t = some (.slice e)) (size : Nat) (hi : (P.info? e).map (·.size) = some size) (ax : Option Addr) (len cap k : Nat) (hk : k ≤ cap)
    (hx : a.tmps.getD x undef = .slice ax len cap) (hy : a.tmps.getD y undef = nu k) (h : K (a.put o.dst (.slice (if cap = 0 then ax else ax.map (·.add 0)) k cap)) w) : o.wp P a w K Q := by
  have ex : a.eval (.tmp x) = .slice ax len cap := hx
  have ey : a.eval (.tmp y) = nu k := hy
  unfold Oper.wp execOp
  simp [ho, ex, ey, Instr.sliceAt, run_underlying ht, run_cutTo (w := w) t e ht size hi ax len cap k hk]
  exact h
theorem op_cutFrom (x y : Tmp) (t e : TypeId) (ho : o.op = .slice t (.tmp x) (some (.tmp y)) none none) (ht : P.underlying t = some (.slice e)) (size : Nat) (hi : (P.info? e).map (·.size) = some size) (ax : Option Addr) (len cap k : Nat) (hk : k ≤ len)
    (hx : a.tmps.getD x undef = .slice ax len cap) (hy : a.tmps.getD y undef = nu k) (h : K (a.put o.dst (.slice (if cap = k then ax else ax.map (·.add (k * size))) (len - k) (cap - k))) w) : o.wp P a w K Q := by
  have ex : a.eval (.tmp x) = .slice ax len cap := hx
  have ey : a.eval (.tmp y) = nu k := hy
  unfold Oper.wp execOp
  simp [ho, ex, ey, Instr.sliceAt, run_underlying ht, run_cutFrom (w := w) t e ht size hi ax len cap k hk]
  exact h
end
/-- Pieces of a list of one's own. -/
theorem own_pc {w : World} {base e size n : Nat} {v : Value} {xs : List Value} (h : w.ownsRow base e size v n xs) : Pc w size v n xs := by
  refine ⟨h.1, ?_⟩
  have hc : ∀ {g : Nat}, v.ownBlock = some g → _ := fun {g} hg => h.cells (g := g) hg
  rcases h.2 with ⟨rfl, h0⟩ | ⟨g, cap, cur, rfl, -⟩
  · exact ⟨none, 0, by rw [h0], fun h => absurd h0 h⟩
  · exact ⟨_, cap, rfl, fun _ => ⟨_, rfl, hc rfl⟩⟩
theorem pc_kept {w w' : World} {size m : Nat} {x : Value} {news : List Value} {B : Nat} (h : Pc w size x m news) (hb : Below B w w') (hlt : ∀ k, x.ownBlock = some k → k < B) (hg : ∀ ad m' c, x = .slice (some ad) m' c → ad.block < B) : Pc w' size x m news := by
  obtain ⟨hl, ax, c, rfl, hc⟩ := h
  refine ⟨hl, ax, c, rfl, fun hm => ?_⟩
  obtain ⟨ad, rfl, h1⟩ := hc hm
  refine ⟨ad, rfl, fun j u hj => ?_⟩
  have h2 := h1 j u hj
  have : (ad.add j).block = ad.block := by unfold Addr.add; split <;> rfl
  rw [← h2]
  exact hb.cell (p := ad.add j) (by rw [this]; exact hg ad m c rfl)
section
variable {P : Program} {ops : Array Oper} {Q : Exit → Act → World → Prop} {N : Nat} {a0 : Act} {w0 : World}
def Csts (ops : Array Oper) (cs : List Value) (a : Act) (o : Oper) : Prop := ∀ j d, waits o j = true → dstOf ops j = some d → a.tmps.getD d undef = cs.getD j undef
theorem wp_region_two {id : Nat} (c1 c2 : Nat) (cs : List Value) (R J0 J1 J2 : World → Prop) (hf : P.follows .mixedOrders = true) (hok : okMd ops N = true) (hN : a0.tmps.size = N)
    (hc12 : ∀ o, ops[c2]? = some o → waits o c1 = true) (hne : c1 ≠ c2)
    (h0 : ∀ w1, Below w0.heap.size w0 w1 → J0 w1) (r0 : ∀ w, J0 w → R w) (r1 : ∀ w, J1 w → R w) (r2 : ∀ w, J2 w → R w)
    (hp : ∀ i o, i ≠ c1 → i ≠ c2 → ops[i]? = some o → ∀ (a : Act) (w : World), R w → Kpt ops a0 a i → Csts ops cs a o → ∀ K : Act → World → Prop, K (a.put o.dst (cs.getD i undef)) w → o.wp P a w K Q)
    (h1 : ∀ o, ops[c1]? = some o → ∀ (a : Act) (w : World), J0 w → Kpt ops a0 a c1 → Csts ops cs a o → ∀ K : Act → World → Prop, (∀ w', J1 w' → K (a.put o.dst (cs.getD c1 undef)) w') → o.wp P a w K Q)
    (h2 : ∀ o, ops[c2]? = some o → ∀ (a : Act) (w : World), J1 w → Kpt ops a0 a c2 → Csts ops cs a o → ∀ K : Act → World → Prop, (∀ w', J2 w' → K (a.put o.dst (cs.getD c2 undef)) w') → o.wp P a w K Q)
    (hlt : c1 < ops.size ∧ c2 < ops.size)
    (hend : ∀ a w, J2 w → a.tmps.size = N → a.defers = a0.defers → (∀ t, noneW ops t = true → a.tmps.getD t undef = a0.tmps.getD t undef) → (∀ i d, dstOf ops i = some d → a.tmps.getD d undef = cs.getD i undef) → Q .normal a w) :
    (Code.region id ops true).wp P Q a0 w0 := by
  refine wp_region_md (N := N) (fun _ i v _ => v = cs.getD i undef) (fun L w => (L c1 = false → J0 w) ∧ (L c1 = true → L c2 = false → J1 w) ∧ (L c2 = true → J2 w)) hf hok hN (fun w1 hw => ⟨fun _ => h0 w1 hw, fun h => Bool.noConfusion h, fun h => Bool.noConfusion h⟩) ?_ ?_
  · intro i o ho L a w hLi hw hnot hJ hs hk hv
    have hcs : Csts ops cs a o := fun j d hj hd => hv j d (hw j hj) hd
    by_cases e1 : i = c1
    · subst e1
      have h2f : L c2 = false := by
        cases h2c : ops[c2]? with
        | none => exact absurd hlt.2 (by have := Array.getElem?_eq_none_iff.1 h2c; omega)
        | some o2 => exact hnot c2 o2 h2c (hc12 o2 h2c)
      refine h1 o ho a w (hJ.1 hLi) hk hcs _ (fun w' hJ1 => ⟨_, rfl, fun _ => rfl, ⟨fun h => ?_, fun _ _ => hJ1, fun h => ?_⟩, fun j d hj hd => hv j d hj hd⟩)
      · rw [up_self] at h
        cases h
      · rw [up_ne hne, h2f] at h
        cases h
    · by_cases e2 : i = c2
      · subst e2
        have h1t : L c1 = true := hw c1 (hc12 o ho)
        refine h2 o ho a w (hJ.2.1 h1t hLi) hk hcs _ (fun w' hJ2 => ⟨_, rfl, fun _ => rfl, ⟨fun h => ?_, fun _ h => ?_, fun _ => hJ2⟩, fun j d hj hd => hv j d hj hd⟩)
        · rw [up_ne (fun e => hne e.symm), h1t] at h
          cases h
        · rw [up_self] at h
          cases h
      · have hR : R w := by
          cases h1c : L c1 with
          | false => exact r0 w (hJ.1 h1c)
          | true =>
            cases h2c : L c2 with
            | false => exact r1 w (hJ.2.1 h1c h2c)
            | true => exact r2 w (hJ.2.2 h2c)
        refine hp i o e1 e2 ho a w hR hk hcs _ ⟨_, rfl, fun _ => rfl, ?_, fun j d hj hd => hv j d hj hd⟩
        show (up L i c1 = false → J0 w) ∧ (up L i c1 = true → up L i c2 = false → J1 w) ∧ (up L i c2 = true → J2 w)
        rw [up_ne e1, up_ne e2]
        exact hJ
  · intro L a w hall hJ hs hd hk hv
    exact hend a w (hJ.2.2 (hall c2 hlt.2)) hs hd hk hv
end
section
variable {P : Program} {o : Oper} {a : Act} {w : World} {Q : Exit → Act → World → Prop} {K : Act → World → Prop}
theorem op_call (f : FuncId) (xs : List Operand) (ts : Array TypeId) (vs : Array Value) (v : Value) (ho : o.op = .call { callee := .value (.func f), args := xs.toArray, argTypes := ts }) (hc : ∀ args w, (callFunc f args).run P w = .ok (.enter f args) w) (hx : (xs.map a.eval).toArray = vs)
    {J : World → Prop} (hm : Calls P f vs w fun e w' => e = .returned v ∧ J w') (h : ∀ w', J w' → K (a.put o.dst v) w') : o.wp P a w K Q := by
  unfold Oper.wp execOp
  have e : (do let d ← resolve a.eval { callee := .value (.func f), args := xs.toArray, argTypes := ts } o.type; invoke d.target d.args : Sem Next).run P w = .ok (.enter f vs) w := by
    have e0 : a.eval (.func f) = .func (.func f) #[] #[] := rfl
    simp [resolve, Deferred.ofValue, invoke, hc, e0, hx]
  simp only [ho]
  rw [e]
  simp only [Oper.upon]
  refine hm.mono ?_
  rintro e w' ⟨rfl, hJ⟩
  exact h w' hJ
theorem op_eqlI (x y : Tmp) (T R : TypeId) (m n : Int) (ho : o.op = .binOp .eql T (.tmp x) (.tmp y) R) (hx : a.tmps.getD x undef = nu m) (hy : a.tmps.getD y undef = nu n) (h : K (a.put o.dst (.bool (m == n))) w) : o.wp P a w K Q := by
  have ex : a.eval (.tmp x) = nu m := hx
  have ey : a.eval (.tmp y) = nu n := hy
  unfold Oper.wp execOp
  simp [ho, ex, ey, eqGuard, binOp]
  exact h
theorem op_neqI (x y : Tmp) (T R : TypeId) (m n : Int) (ho : o.op = .binOp .neq T (.tmp x) (.tmp y) R) (hx : a.tmps.getD x undef = nu m) (hy : a.tmps.getD y undef = nu n) (h : K (a.put o.dst (.bool (!(m == n)))) w) : o.wp P a w K Q := by
  have ex : a.eval (.tmp x) = nu m := hx
  have ey : a.eval (.tmp y) = nu n := hy
  unfold Oper.wp execOp
  simp [ho, ex, ey, eqGuard, binOp]
  exact h
end
/-! ### Stores of one cell, and into the midst of a row -/
theorem cells_one {v : Value} (h : v.oneCell' = true) : v.cells = #[v] := by
  cases v <;> first | rfl | (exact absurd h (by simp [Value.oneCell']))
theorem run_store1 {P : Program} {w : World} {g off : Nat} {A C : List Value} {old v : Value} {t ty : TypeId} (hg : w.heap[g]? = some (.cells (A ++ ([old] ++ C)).toArray t)) (hA : A.length = off) (h1 : v.oneCell' = true) (hi : (P.info? ty).map (·.size) = some 1) :
    (storeVar ty ⟨g, off, none⟩ v).run P w = .ok () (w.setRow g (A ++ ([v] ++ C)).toArray) := by
  have e : ((A ++ ([old] ++ C)).toArray.toList.take off ++ [v] ++ (A ++ ([old] ++ C)).toArray.toList.drop (off + [v].length)) = A ++ ([v] ++ C) := by
    subst hA
    simp
  have hst := run_storeCells_at P g off t [v] 0 (A ++ ([old] ++ C)).toArray w hg (by subst hA; simp) (by simpa using h1)
  rw [Nat.add_zero, e] at hst
  cases hq : P.info? ty with
  | none => simp [hq] at hi
  | some i =>
    have hs : i.size = 1 := by simpa [hq] using hi
    simp [storeVar, sizeOf, typeInfo, hq, hs, cells_one h1]
    simpa using hst
section
variable {P : Program} {ops : Array Oper} {rest : List Oper} {o : Oper} {a : Act} {w : World} {Q : Exit → Act → World → Prop} {K : Act → World → Prop}
theorem wl_put1 (ty : TypeId) (x y : Operand) (ho : o.op = .store ty x y) (hn : o.dst = none) (g off : Nat) (hx : a.eval x = .pointer (some ⟨g, off, none⟩)) (hw : Region.wanted o (yielded ops a.tmps) = true)
    (A C : List Value) (old v : Value) (hy : a.eval y = v) (t : TypeId) (hg : w.heap[g]? = some (.cells (A ++ ([old] ++ C)).toArray t)) (hA : A.length = off) (h1 : v.oneCell' = true) (hi : (P.info? ty).map (·.size) = some 1)
    (h : ∀ w1, w1.heap[g]? = some (.cells (A ++ ([v] ++ C)).toArray t) → But g w w1 → wpList P ops Q rest a w1) : wpList P ops Q (o :: rest) a w := by
  refine BigFrame.wpList_want hw fun K hK => ?_
  have h' := hK _ _ (h _ (setRow_heap w g _ (A ++ ([v] ++ C)).toArray t (0, 0) hg) (but_setRow w g _))
  unfold Oper.wp execOp
  simp only [ho, hx, hy, Instr.storeAt, Instr.sureAddr, Sem.run_bind, Sem.run_pure, Result.andThen_ok, run_store1 hg hA h1 hi]
  show K (a.put o.dst undef) _
  rw [hn]
  exact h'
theorem op_put1 (ty : TypeId) (x y : Tmp) (ho : o.op = .store ty (.tmp x) (.tmp y)) (hn : o.dst = none) (g off : Nat) (hx : a.tmps.getD x undef = pt g off)
    (A C : List Value) (old v : Value) (hy : a.tmps.getD y undef = v) (t : TypeId) (hg : w.heap[g]? = some (.cells (A ++ ([old] ++ C)).toArray t)) (hA : A.length = off) (h1 : v.oneCell' = true) (hi : (P.info? ty).map (·.size) = some 1)
    (h : ∀ w1, w1.heap[g]? = some (.cells (A ++ ([v] ++ C)).toArray t) → But g w w1 → K a w1) : o.wp P a w K Q := by
  have ex : a.eval (.tmp x) = pt g off := hx
  have ey : a.eval (.tmp y) = v := hy
  have h' := h _ (setRow_heap w g _ (A ++ ([v] ++ C)).toArray t (0, 0) hg) (but_setRow w g _)
  unfold Oper.wp execOp
  simp only [ho, ex, ey, Instr.storeAt, Instr.sureAddr, Sem.run_bind, Sem.run_pure, Result.andThen_ok, run_store1 hg hA h1 hi]
  show K (a.put o.dst undef) _
  rw [hn]
  exact h'
theorem op_put (ty : TypeId) (x y : Tmp) (ho : o.op = .store ty (.tmp x) (.tmp y)) (hn : o.dst = none) (g off : Nat) (hx : a.tmps.getD x undef = pt g off)
    (A cs old C : List Value) (hy : a.tmps.getD y undef = .agg cs.toArray) (t : TypeId) (hg : w.heap[g]? = some (.cells (A ++ (old ++ C)).toArray t)) (hA : A.length = off) (hold : old.length = cs.length) (h1 : ∀ v ∈ cs, v.oneCell' = true) (hi : (P.info? ty).map (·.size) = some cs.length)
    (h : ∀ w1, w1.heap[g]? = some (.cells (A ++ (cs ++ C)).toArray t) → But g w w1 → K a w1) : o.wp P a w K Q := by
  have ex : a.eval (.tmp x) = pt g off := hx
  have ey : a.eval (.tmp y) = .agg cs.toArray := hy
  have e : ((A ++ (old ++ C)).toArray.toList.take off ++ cs ++ (A ++ (old ++ C)).toArray.toList.drop (off + cs.length)) = A ++ (cs ++ C) := by
    subst hA
    simp [← hold, List.append_assoc]
  have h' := h _ (setRow_heap w g _ (A ++ (cs ++ C)).toArray t (0, 0) hg) (but_setRow w g _)
  have hst := run_storeCells_at P g off t cs 0 (A ++ (old ++ C)).toArray w hg (by subst hA; simp; omega) h1
  rw [Nat.add_zero, e] at hst
  cases hq : P.info? ty with
  | none => simp [hq] at hi
  | some i =>
    have hs : i.size = cs.length := by simpa [hq] using hi
    unfold Oper.wp execOp
    simp [ho, ex, ey, Instr.storeAt, Instr.sureAddr, Sem.run_bind, storeVar, sizeOf, typeInfo, hq, hs, Value.cells]
    simp [hst]
    show K (a.put o.dst undef) _
    rw [hn]
    exact h'
theorem op_build (ty : TypeId) (xs : Array (Nat × Operand)) (ho : o.op = .build ty xs) (z : Value) (hr : (Instr.build ty (xs.map fun x => (x.1, a.eval x.2))).run P w = .ok z w) (h : K (a.put o.dst z) w) : o.wp P a w K Q := by
  unfold Oper.wp execOp
  simp only [ho, Sem.run_bind, hr, Result.andThen_ok, Sem.run_pure]
  exact h
theorem op_indexA (x y : Tmp) (t e : TypeId) (n : Nat) (ho : o.op = .indexAddr t (.tmp x) (.tmp y)) (ht : P.underlying t = some (.array n e)) (size : Nat) (hi : (P.info? e).map (·.size) = some size) (g off k : Nat) (hk : k < n)
    (hx : a.tmps.getD x undef = pt g off) (hy : a.tmps.getD y undef = nu k) (h : K (a.put o.dst (pt g (off + k * size))) w) : o.wp P a w K Q := by
  have ex : a.eval (.tmp x) = pt g off := hx
  have ey : a.eval (.tmp y) = nu k := hy
  cases hq : P.info? e with
  | none => simp [hq] at hi
  | some i =>
    have hs : i.size = size := by simpa [hq] using hi
    unfold Oper.wp execOp
    simp [ho, ex, ey, Instr.indexAt, Instr.sureAddr, asIntOf, run_underlying ht, sizeOf, typeInfo, hq, hs, hk, add_none]
    exact h
theorem op_indexS (x y : Tmp) (t e : TypeId) (ho : o.op = .indexAddr t (.tmp x) (.tmp y)) (ht : P.underlying t = some (.slice e)) (size : Nat) (hi : (P.info? e).map (·.size) = some size) (g off len cap k : Nat) (hk : k < len)
    (hx : a.tmps.getD x undef = .slice (some ⟨g, off, none⟩) len cap) (hy : a.tmps.getD y undef = nu k) (h : K (a.put o.dst (pt g (off + k * size))) w) : o.wp P a w K Q := by
  have ex : a.eval (.tmp x) = .slice (some ⟨g, off, none⟩) len cap := hx
  have ey : a.eval (.tmp y) = nu k := hy
  cases hq : P.info? e with
  | none => simp [hq] at hi
  | some i =>
    have hs : i.size = size := by simpa [hq] using hi
    unfold Oper.wp execOp
    simp [ho, ex, ey, Instr.indexAt, asIntOf, run_underlying ht, sizeOf, typeInfo, hq, hs, hk, add_none]
    exact h
end
end Go.Proofs.YtidlgecognedlaaGreatDoor.Ms

/-
  Registers: New, made, has, full, Number, View.
-/
namespace Go.Proofs.YtidlgecognedlaaGreatDoor.Ms
open Go Go.RowKit
set_option maxRecDepth 100000

theorem below_dn {B : Nat} {w w' : World} (h : Below B w w') (n : Nat) : Below B w (w'.drewN n) := ⟨h.os, h.tape, h.output, h.size, h.block⟩
section
variable {w : World} {p : Nat} {q rs : List Nat} {R : Rs} {vs : List Value} {vP : Value}
set_option maxHeartbeats 2000000 in
theorem made_any (h : RA w p q rs R vs vP) : Calls Tryz.prog 61 #[.pointer (some ⟨p, 0, none⟩)] w fun e w' => e = .returned (.bool true) ∧ w' = w := by
  have c0 := h.cn
  have hn := h.inv.n
  have h0 : decide (0 < R.n) = true := decide_eq_true (by omega)
  clear h hn
  go_enter Tryz.func61, Tryz.ntmps61
  go_wp2
  go_ret
  exact ⟨rfl, rfl⟩
set_option maxHeartbeats 2000000 in
theorem made_nil (w : World) : Calls Tryz.prog 61 #[.pointer none] w fun e w' => e = .returned (.bool false) ∧ w' = w := by
  go_enter Tryz.func61, Tryz.ntmps61
  go_wp2
  go_ret
  exact ⟨rfl, rfl⟩
set_option maxHeartbeats 2000000 in
theorem has_any (h : RA w p q rs R vs vP) (c : Int) : Calls Tryz.prog 62 #[.pointer (some ⟨p, 0, none⟩), nu c] w fun e w' => e = .returned (.bool (hasB R.n c)) ∧ w' = w := by
  have c0 := h.cn
  unfold hasB
  clear h
  by_cases h : 0 ≤ c
  · have d1 : decide (0 ≤ c) = true := decide_eq_true h
    rw [d1, Bool.true_and]
    clear h
    go_enter Tryz.func62, Tryz.ntmps62
    go_wp2
    go_ret
    exact ⟨rfl, rfl⟩
  · have d1 : decide (0 ≤ c) = false := decide_eq_false h
    rw [d1, Bool.false_and]
    clear h
    go_enter Tryz.func62, Tryz.ntmps62
    go_wp2
    go_ret
    exact ⟨rfl, rfl⟩
set_option maxHeartbeats 2000000 in
theorem num_reg (h : RA w p q rs R vs vP) (c : Int) : Calls Tryz.prog 19 #[.pointer (some ⟨p, 0, none⟩), nu c] w fun e w' => e = .returned (nu (numR R c)) ∧ w' = w := by
  have HM := hid (made_any h)
  have HH := hid (has_any h c)
  cases hb : hasB R.n c with
  | false =>
    have HN : Hid (numR R c = 0) := by show _ = _; unfold numR; rw [hb]; rfl
    rw [hb] at HH
    clear h hb
    go_enter Tryz.func19, Tryz.ntmps19
    go_wp2_with fail
    refine HM.out.mono ?_
    rintro e w1 ⟨rfl, hw1⟩
    subst w1
    go_wp2_with fail
    refine HH.out.mono ?_
    rintro e w1 ⟨rfl, hw1⟩
    subst w1
    go_wp2
    go_ret
    exact ⟨by rw [HN.out]; rfl, rfl⟩
  | true =>
    have HN : Hid (numR R c = (R.reg c).asked.number) := by show _ = _; unfold numR; rw [hb]; rfl
    rw [hb] at HH
    have hc := (hasB_iff R.n c).1 hb
    have hn := h.inv.n
    clear hb
    obtain ⟨k, rfl⟩ : ∃ k : Nat, c = (k : Int) := ⟨c.toNat, by omega⟩
    have hk : k < 8 := by omega
    have ca := h.anum hk
    rw [reg_nat] at HN
    clear h hc hn
    go_enter Tryz.func19, Tryz.ntmps19
    go_wp2_with fail
    refine HM.out.mono ?_
    rintro e w1 ⟨rfl, hw1⟩
    subst w1
    go_wp2_with fail
    refine HH.out.mono ?_
    rintro e w1 ⟨rfl, hw1⟩
    subst w1
    go_wp2
    go_ret
    exact ⟨by rw [HN.out]; rfl, rfl⟩
set_option maxHeartbeats 2000000 in
theorem view_reg (h : RA w p q rs R vs vP) (c : Int) : Calls Tryz.prog 25 #[.pointer (some ⟨p, 0, none⟩), nu c] w fun e w' => e = .returned (st (viewR R c)) ∧ w' = w := by
  have HM := hid (made_any h)
  have HH := hid (has_any h c)
  cases hb : hasB R.n c with
  | false =>
    have HN : Hid (viewR R c = []) := by show _ = _; unfold viewR; rw [hb]; rfl
    rw [hb] at HH
    clear h hb
    go_enter Tryz.func25, Tryz.ntmps25
    go_wp2_with fail
    refine HM.out.mono ?_
    rintro e w1 ⟨rfl, hw1⟩
    subst w1
    go_wp2_with fail
    refine HH.out.mono ?_
    rintro e w1 ⟨rfl, hw1⟩
    subst w1
    go_wp2
    go_ret
    exact ⟨by rw [HN.out]; rfl, rfl⟩
  | true =>
    have HN : Hid (viewR R c = (R.reg c).view) := by show _ = _; unfold viewR; rw [hb]; rfl
    rw [hb] at HH
    have hc := (hasB_iff R.n c).1 hb
    have hn := h.inv.n
    clear hb
    obtain ⟨k, rfl⟩ : ∃ k : Nat, c = (k : Int) := ⟨c.toNat, by omega⟩
    have hk : k < 8 := by omega
    have ca := h.view hk
    rw [reg_nat] at HN
    clear h hc hn
    go_enter Tryz.func25, Tryz.ntmps25
    go_wp2_with fail
    refine HM.out.mono ?_
    rintro e w1 ⟨rfl, hw1⟩
    subst w1
    go_wp2_with fail
    refine HH.out.mono ?_
    rintro e w1 ⟨rfl, hw1⟩
    subst w1
    go_wp2
    go_ret
    exact ⟨by rw [HN.out]; rfl, rfl⟩
set_option maxHeartbeats 2000000 in
theorem num_nil (w : World) (c : Int) : Calls Tryz.prog 19 #[.pointer none, nu c] w fun e w' => e = .returned (nu 0) ∧ w' = w := by
  have HM := hid (made_nil w)
  go_enter Tryz.func19, Tryz.ntmps19
  go_wp2_with fail
  refine HM.out.mono ?_
  rintro e w1 ⟨rfl, hw1⟩
  subst w1
  go_wp2
  go_ret
  exact ⟨rfl, rfl⟩
set_option maxHeartbeats 2000000 in
theorem view_nil (w : World) (c : Int) : Calls Tryz.prog 25 #[.pointer none, nu c] w fun e w' => e = .returned (st []) ∧ w' = w := by
  have HM := hid (made_nil w)
  go_enter Tryz.func25, Tryz.ntmps25
  go_wp2_with fail
  refine HM.out.mono ?_
  rintro e w1 ⟨rfl, hw1⟩
  subst w1
  go_wp2
  go_ret
  exact ⟨rfl, rfl⟩
theorem OwnP.len {w : World} {v : Value} {ps : List Pen} (h : OwnP w v ps) : ∃ a cap, v = .slice a ps.length cap := by
  rcases h.form with ⟨rfl, rfl⟩ | ⟨g, cap, cur, rfl, -⟩
  · exact ⟨_, _, rfl⟩
  · exact ⟨_, _, rfl⟩
set_option maxHeartbeats 4000000 in
theorem full_any (h : RA w p q rs R vs vP) : Calls Tryz.prog 65 #[.pointer (some ⟨p, 0, none⟩)] w fun e w' => e = .returned (.bool (fullB R)) ∧ Below w.heap.size w w' := by
  have c1 := h.long
  have c2 := h.pnd
  have hl := h.inv.long
  have hp := h.inv.plen
  obtain ⟨a, cap, rfl⟩ := h.own.len
  unfold fullB
  clear h
  generalize R.pend.length = m at *
  generalize R.long = L at *
  have hs : (⟨L.toArray⟩ : ByteArray).size = L.length := rfl
  generalize L.length = l at *
  cases d1 : decide (512 ≤ l + m) with
  | true =>
    have d1' : decide ((512 : Int) ≤ (l : Int) + (m : Int)) = true := by
      have := of_decide_eq_true d1
      exact decide_eq_true (by omega)
    rw [Bool.true_or]
    go_enter Tryz.func65, Tryz.ntmps65
    go_upto_region 1 with fail
    go_quiet (fail)
    go_wp2
    go_ret
    exact ⟨rfl, below_dn (Below.refl _ _) _⟩
  | false =>
    have d1' : decide ((512 : Int) ≤ (l : Int) + (m : Int)) = false := by
      have := of_decide_eq_false d1
      exact decide_eq_false (by omega)
    rw [Bool.false_or]
    have d2 : decide (8 ≤ m) = decide ((8 : Int) ≤ (m : Int)) := by
      by_cases h : 8 ≤ m
      · rw [decide_eq_true h, decide_eq_true (by omega)]
      · rw [decide_eq_false h, decide_eq_false (by omega)]
    rw [d2]
    clear d2
    go_enter Tryz.func65, Tryz.ntmps65
    go_upto_region 1 with fail
    go_quiet (fail)
    go_wp2
    go_ret
    exact ⟨rfl, below_dn (Below.refl _ _) _⟩
end
section
variable {P : Program} {ops : Array Oper} {rest : List Oper} {o : Oper} {a : Act} {w : World} {Q : Exit → Act → World → Prop}
theorem wl_buildL (ty : TypeId) (l : List (Nat × Operand)) (ho : o.op = .build ty l.toArray) (hw : Region.wanted o (yielded ops a.tmps) = true) (z : Array Value) (hr : (Instr.build ty (l.map fun x => (x.1, a.eval x.2)).toArray).run P w = .ok (.agg z) w)
    (h : wpList P ops Q rest (a.put o.dst (.agg z)) w) : wpList P ops Q (o :: rest) a w := by
  refine BigFrame.wpList_want hw fun K hK => ?_
  have h' := hK _ _ h
  unfold Oper.wp execOp
  simp only [ho, List.map_toArray, Sem.run_bind, hr, Result.andThen_ok, Sem.run_pure]
  exact h'
end
theorem new_cells (n : Nat) : (Tryz.zeroCells111.setIfInBounds 0 (nu (n : Int))).setIfInBounds 1666 (Value.int IntKind.i64 (-1)) = (rowR (newR n) (List.replicate 8 (.slice none 0 0)) (.slice none 0 0)).toArray := by kernel_rfl
theorem zero_one : ∀ i, i < 8 → (List.replicate 8 (Value.slice none 0 0)).getD i undef = .slice none 0 0 := by
  intro i hi
  rw [List.getD_eq_getElem?_getD, List.getElem?_replicate_of_lt hi]
  rfl
theorem zero_reg (n i : Nat) (hi : i < 8) : (newR n).regs.getD i zeroG = zeroG := by
  show (List.replicate 8 zeroG).getD i zeroG = zeroG
  rw [List.getD_eq_getElem?_getD, List.getElem?_replicate_of_lt hi]
  rfl
theorem new_row (W : World) (n : Nat) (hn : 2 ≤ n ∧ n ≤ 8) (w' : World) (hr : w'.heap[W.heap.size]? = some (.cells (rowR (newR n) (List.replicate 8 (.slice none 0 0)) (.slice none 0 0)).toArray 111)) : RA w' W.heap.size [] [] (newR n) (List.replicate 8 (.slice none 0 0)) (.slice none 0 0) := by
  refine ⟨RInv.new n hn, by simp, hr, fun i hi => ?_, fun i hi b hb => ?_, OwnP.nil _, (fun b hb => by cases hb), ⟨by simp, by simp, by simp⟩, by simp⟩
  · rw [zero_one i hi, zero_reg n i hi]
    exact OwnP.nil _
  · rw [zero_one i hi] at hb
    cases hb
set_option maxHeartbeats 4000000 in
theorem rnew_ok (w : World) (n : Nat) (hn : 2 ≤ n ∧ n ≤ 8) : Calls Tryz.prog 14 #[nu (n : Int)] w fun e w' => e = .returned (.tuple #[.pointer (some ⟨w.heap.size, 0, none⟩), nu 0]) ∧ RX w' w.heap.size [w.heap.size] (newR n) ∧ Below w.heap.size w w' := by
  have HB := hid (new_cells n)
  have HN := hid (fun W' hr => new_row w n hn W' hr)
  have d1 : decide ((n : Int) < 2) = false := decide_eq_false (by omega)
  have d2 : decide ((8 : Int) < (n : Int)) = false := decide_eq_false (by omega)
  have d3 : decide (n < 2) = false := decide_eq_false (by omega)
  have d4 : decide (8 < n) = false := decide_eq_false (by omega)
  clear hn
  obtain ⟨V, hV⟩ : ∃ V, V = rowR (newR n) (List.replicate 8 (.slice none 0 0)) (.slice none 0 0) := ⟨_, rfl⟩
  rw [← hV] at HB HN
  clear hV
  go_enter Tryz.func14, Tryz.ntmps14
  go_wp2
  go_ret2
  refine ⟨rfl, ⟨[], [], _, _, HN.out _ ?_, by simp, by simp⟩, below_a1 w _⟩
  rw [HB.out]
  exact top_obj w _
set_option maxHeartbeats 4000000 in
theorem rnew_bad (w : World) (n : Int) (hn : ¬ (2 ≤ n ∧ n ≤ 8)) : Calls Tryz.prog 14 #[nu n] w fun e w' => e = .returned (.tuple #[.pointer none, nu 2]) ∧ w' = w := by
  by_cases h2 : n < 2
  · have d1 : decide (n < 2) = true := decide_eq_true h2
    clear hn h2
    go_enter Tryz.func14, Tryz.ntmps14
    go_wp2
    go_ret2
    exact ⟨rfl, rfl⟩
  · have d1 : decide (n < 2) = false := decide_eq_false h2
    have d2 : decide (8 < n) = true := decide_eq_true (by omega)
    clear hn h2
    go_enter Tryz.func14, Tryz.ntmps14
    go_wp2
    go_ret2
    exact ⟨rfl, rfl⟩
end Go.Proofs.YtidlgecognedlaaGreatDoor.Ms
