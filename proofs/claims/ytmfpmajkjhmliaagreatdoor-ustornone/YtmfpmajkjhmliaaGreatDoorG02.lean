/-
  Which messages may be, what any bytes are, and that messages go there and back: in plain words. No program plays a part.
-/
import Derived.Test.YtmfpmajkjhmliaaGreatDoorG01
namespace Go.Proofs.YtmfpmajkjhmliaaGreatDoor.Ms
open Go
set_option maxRecDepth 100000
def inB (n a b : Int) : Bool := decide (a ≤ n) && decide (n ≤ b)
def asksB (n k t : Int) : Bool := inB n 1 512 && (inB k 1 2 && inB t 0 7)
def okAt (l : List Int) (i : Nat) : Bool := inB (l.getD i 0) 0 1099511627776 && (decide (i = 0) || decide (l.getD (i - 1) 0 < l.getD i 0))
def numsB (l : List Int) : Bool := (List.range l.length).all (okAt l) && inB (l.length : Int) 1 64
def penB (p : Pen) : Bool := inB p.client 0 7 && asksB p.number p.kind p.target
def viewOk (r : Rep) : Bool := !((r.view == [] && r.last != -1) || (r.view != [] && r.last == -1))
def chainB (r : Rep) : Bool := inB r.number 1 512 && (inB r.last (-1) 7 && (Hist.rightB r.view 8 && (Hist.rightB r.seen 8 && (decide (r.pend.length ≤ 8) && (inB r.vnum 0 512 && decide (r.value.length ≤ 256))))))
def repB (r : Rep) : Bool := r.pend.all penB && (viewOk r && chainB r)
def subB (x : Sub) : Bool := asksB x.number x.kind x.target && decide (x.value.length ≤ 256)
def viewB (v : List UInt8) : Bool := (v != []) && Hist.rightB v 8
def bloB (b : Blo) : Bool := inB b.owner 0 7 && (inB b.number 0 1099511627776 && decide (b.cipher.length ≤ 4096))
def partsB (m : Msg) : Bool :=
  if m.kind = 1 then subB m.sub else if m.kind = 2 then repB m.rep else if m.kind = 3 then viewB m.view else if m.kind = 4 ∨ m.kind = 6 then bloB m.blob else
  if m.kind = 5 ∨ m.kind = 7 ∨ m.kind = 8 then numsB m.nums else if m.kind = 9 then true else if m.kind = 10 then inB m.who 0 7 && viewB m.view else if m.kind = 11 then true else false
def restB (m : Msg) : Bool := sameM (emptyAll (fieldsM m.kind) m) (zeroM m.kind 0)
def mayB (m : Msg) : Bool := inB m.client 0 7 && (partsB m && restB m)
theorem fields_cases (k : Int) : (k = 1 ∧ fieldsM k = subFs) ∨ (k = 2 ∧ fieldsM k = repFs) ∨ (k = 3 ∧ fieldsM k = comFs) ∨ ((k = 4 ∨ k = 6) ∧ fieldsM k = bloFs) ∨ ((k = 5 ∨ k = 7 ∨ k = 8) ∧ fieldsM k = lstFs) ∨ (k = 9 ∧ fieldsM k = proFs) ∨ (k = 10 ∧ fieldsM k = verFs) ∨ (k = 11 ∧ fieldsM k = alaFs) ∨ ((k < 1 ∨ 11 < k) ∧ fieldsM k = []) := by
  unfold fieldsM
  by_cases h1 : k = 1
  · exact .inl ⟨h1, by rw [if_pos h1]⟩
  by_cases h2 : k = 2
  · exact .inr (.inl ⟨h2, by rw [if_neg h1, if_pos h2]⟩)
  by_cases h3 : k = 3
  · exact .inr (.inr (.inl ⟨h3, by rw [if_neg h1, if_neg h2, if_pos h3]⟩))
  by_cases h4 : k = 4 ∨ k = 6
  · exact .inr (.inr (.inr (.inl ⟨h4, by rw [if_neg h1, if_neg h2, if_neg h3, if_pos h4]⟩)))
  by_cases h5 : k = 5 ∨ k = 7 ∨ k = 8
  · exact .inr (.inr (.inr (.inr (.inl ⟨h5, by rw [if_neg h1, if_neg h2, if_neg h3, if_neg h4, if_pos h5]⟩))))
  by_cases h6 : k = 9
  · exact .inr (.inr (.inr (.inr (.inr (.inl ⟨h6, by rw [if_neg h1, if_neg h2, if_neg h3, if_neg h4, if_neg h5, if_pos h6]⟩)))))
  by_cases h7 : k = 10
  · exact .inr (.inr (.inr (.inr (.inr (.inr (.inl ⟨h7, by rw [if_neg h1, if_neg h2, if_neg h3, if_neg h4, if_neg h5, if_neg h6, if_pos h7]⟩))))))
  by_cases h8 : k = 11
  · exact .inr (.inr (.inr (.inr (.inr (.inr (.inr (.inl ⟨h8, by rw [if_neg h1, if_neg h2, if_neg h3, if_neg h4, if_neg h5, if_neg h6, if_neg h7, if_pos h8]⟩)))))))
  · exact .inr (.inr (.inr (.inr (.inr (.inr (.inr (.inr ⟨by omega, by rw [if_neg h1, if_neg h2, if_neg h3, if_neg h4, if_neg h5, if_neg h6, if_neg h7, if_neg h8]⟩)))))))
theorem inB_iff (n a b : Int) : inB n a b = true ↔ a ≤ n ∧ n ≤ b := by simp [inB]
theorem right_len (h : List UInt8) (n : Int) (hr : Hist.rightB h n = true) : h.length ≤ 512 := by
  unfold Hist.rightB at hr
  simp at hr
  omega
theorem wf_pens {r : Rep} (hw : r.Wf) (hb : r.pend.all penB = true) : ∀ p ∈ r.pend, penOk p := by
  intro p hp
  rw [List.all_eq_true] at hb
  have h := hb p hp
  have w := hw.pend p hp
  simp only [penB, asksB, Bool.and_eq_true, inB_iff] at h
  exact ⟨⟨by omega, by omega⟩, ⟨by omega, by omega⟩, ⟨by omega, by omega⟩, ⟨by omega, by omega⟩, w.asked, w.proof⟩
theorem nums_ok {l : List Int} (h : numsB l = true) : l.length ≤ 64 ∧ ∀ n ∈ l, 0 ≤ n ∧ n ≤ 1099511627776 := by
  simp only [numsB, Bool.and_eq_true, inB_iff, List.all_eq_true] at h
  refine ⟨by omega, fun n hn => ?_⟩
  obtain ⟨i, hi, rfl⟩ := List.getElem_of_mem hn
  have := h.1 i (List.mem_range.2 hi)
  simp only [okAt, Bool.and_eq_true, inB_iff] at this
  have e : l.getD i 0 = l[i] := by simp [List.getD, hi]
  rw [e] at this
  exact this.1
theorem may_fits {m : Msg} (hw : m.Wf) (h : mayB m = true) : (1 ≤ m.kind ∧ m.kind ≤ 11) ∧ ∀ g ∈ fieldsM m.kind, (g.get m).slot = g.slot ∧ okVal (g.get m) := by
  simp only [mayB, Bool.and_eq_true, inB_iff] at h
  obtain ⟨hc, hp, -⟩ := h
  have hC : okVal (.num m.client) := ⟨by omega, by omega⟩
  rcases fields_cases m.kind with ⟨k, e⟩ | ⟨k, e⟩ | ⟨k, e⟩ | ⟨k, e⟩ | ⟨k, e⟩ | ⟨k, e⟩ | ⟨k, e⟩ | ⟨k, e⟩ | ⟨k, e⟩ <;> rw [e]
  · refine ⟨by omega, ?_⟩
    simp only [partsB, if_pos k, subB, asksB, Bool.and_eq_true, inB_iff, decide_eq_true_eq] at hp
    intro g hg
    simp only [subFs, List.mem_cons, List.not_mem_nil, or_false] at hg
    rcases hg with rfl | rfl | rfl | rfl | rfl | rfl | rfl
    · exact ⟨rfl, hC⟩
    · exact ⟨rfl, by show _ ≤ m.sub.number; omega, by show m.sub.number ≤ _; omega⟩
    · exact ⟨rfl, by show _ ≤ m.sub.kind; omega, by show m.sub.kind ≤ _; omega⟩
    · exact ⟨rfl, by show _ ≤ m.sub.target; omega, by show m.sub.target ≤ _; omega⟩
    · exact ⟨rfl, by show m.sub.value.length ≤ _; omega⟩
    · exact ⟨rfl, hw.sub.asked⟩
    · exact ⟨rfl, hw.sub.data⟩
  · refine ⟨by omega, ?_⟩
    simp only [partsB, k] at hp
    simp only [show ((2 : Int) = 1) = False by simp, if_false, if_true, repB, chainB, Bool.and_eq_true, inB_iff, decide_eq_true_eq] at hp
    obtain ⟨h1, -, h2, h3, h4, h5, h6, h7, h8⟩ := hp
    have h4' := right_len _ _ h4
    have h5' := right_len _ _ h5
    intro g hg
    simp only [repFs, List.mem_cons, List.not_mem_nil, or_false] at hg
    rcases hg with rfl | rfl | rfl | rfl | rfl | rfl | rfl | rfl | rfl | rfl
    · exact ⟨rfl, by show _ ≤ m.rep.number; omega, by show m.rep.number ≤ _; omega⟩
    · exact ⟨rfl, by show _ ≤ m.rep.last; omega, by show m.rep.last ≤ _; omega⟩
    · exact ⟨rfl, by show m.rep.view.length ≤ _; omega⟩
    · exact ⟨rfl, hw.rep.commit⟩
    · exact ⟨rfl, h6, wf_pens hw.rep h1⟩
    · exact ⟨rfl, by show _ ≤ m.rep.vnum; omega, by show m.rep.vnum ≤ _; omega⟩
    · exact ⟨rfl, by show m.rep.value.length ≤ _; omega⟩
    · exact ⟨rfl, hw.rep.data⟩
    · exact ⟨rfl, by show m.rep.seen.length ≤ _; omega⟩
    · exact ⟨rfl, hw.rep.stag⟩
  · refine ⟨by omega, ?_⟩
    simp only [partsB, k] at hp
    simp only [show ((3 : Int) = 1) = False by simp, show ((3 : Int) = 2) = False by simp, if_false, if_true, viewB, Bool.and_eq_true] at hp
    have h4' := right_len _ _ hp.2
    intro g hg
    simp only [comFs, List.mem_cons, List.not_mem_nil, or_false] at hg
    rcases hg with rfl | rfl | rfl
    · exact ⟨rfl, hC⟩
    · exact ⟨rfl, by show m.view.length ≤ _; omega⟩
    · exact ⟨rfl, hw.tag⟩
  · refine ⟨by omega, ?_⟩
    simp only [partsB, if_neg (by omega : ¬ m.kind = 1), if_neg (by omega : ¬ m.kind = 2), if_neg (by omega : ¬ m.kind = 3), if_pos k, bloB, Bool.and_eq_true, inB_iff, decide_eq_true_eq] at hp
    intro g hg
    simp only [bloFs, List.mem_cons, List.not_mem_nil, or_false] at hg
    rcases hg with rfl | rfl | rfl | rfl
    · exact ⟨rfl, by show _ ≤ m.blob.owner; omega, by show m.blob.owner ≤ _; omega⟩
    · exact ⟨rfl, by show _ ≤ m.blob.number; omega, by show m.blob.number ≤ _; omega⟩
    · exact ⟨rfl, by show m.blob.cipher.length ≤ _; omega⟩
    · exact ⟨rfl, hw.blob.tag⟩
  · refine ⟨by omega, ?_⟩
    simp only [partsB, if_neg (by omega : ¬ m.kind = 1), if_neg (by omega : ¬ m.kind = 2), if_neg (by omega : ¬ m.kind = 3), if_neg (by omega : ¬ (m.kind = 4 ∨ m.kind = 6)), if_pos k] at hp
    obtain ⟨h1, h2⟩ := nums_ok hp
    intro g hg
    simp only [lstFs, List.mem_cons, List.not_mem_nil, or_false] at hg
    rcases hg with rfl | rfl
    · exact ⟨rfl, hC⟩
    · exact ⟨rfl, by show m.nums.length ≤ _; omega, fun n hn => ⟨by have := h2 n hn; omega, by have := h2 n hn; omega⟩⟩
  · refine ⟨by omega, ?_⟩
    intro g hg
    simp only [proFs, List.mem_cons, List.not_mem_nil, or_false] at hg
    subst hg
    exact ⟨rfl, hC⟩
  · refine ⟨by omega, ?_⟩
    simp only [partsB, if_neg (by omega : ¬ m.kind = 1), if_neg (by omega : ¬ m.kind = 2), if_neg (by omega : ¬ m.kind = 3), if_neg (by omega : ¬ (m.kind = 4 ∨ m.kind = 6)), if_neg (by omega : ¬ (m.kind = 5 ∨ m.kind = 7 ∨ m.kind = 8)), if_neg (by omega : ¬ m.kind = 9), if_pos k, viewB, Bool.and_eq_true, inB_iff] at hp
    have h4' := right_len _ _ hp.2.2
    intro g hg
    simp only [verFs, List.mem_cons, List.not_mem_nil, or_false] at hg
    rcases hg with rfl | rfl | rfl | rfl | rfl
    · exact ⟨rfl, hC⟩
    · exact ⟨rfl, by show _ ≤ m.who; omega, by show m.who ≤ _; omega⟩
    · exact ⟨rfl, by show m.view.length ≤ _; omega⟩
    · exact ⟨rfl, hw.tag⟩
    · exact ⟨rfl, hw.own⟩
  · refine ⟨by omega, ?_⟩
    intro g hg
    simp only [alaFs, List.mem_cons, List.not_mem_nil, or_false] at hg
    rcases hg with rfl | rfl
    · exact ⟨rfl, hC⟩
    · exact ⟨rfl, hw.own⟩
  · simp only [partsB, if_neg (by omega : ¬ m.kind = 1), if_neg (by omega : ¬ m.kind = 2), if_neg (by omega : ¬ m.kind = 3), if_neg (by omega : ¬ (m.kind = 4 ∨ m.kind = 6)), if_neg (by omega : ¬ (m.kind = 5 ∨ m.kind = 7 ∨ m.kind = 8)), if_neg (by omega : ¬ m.kind = 9), if_neg (by omega : ¬ m.kind = 10), if_neg (by omega : ¬ m.kind = 11)] at hp
    exact absurd hp Bool.false_ne_true
open Go
set_option maxRecDepth 100000
structure Msg.Rng (m : Msg) : Prop where
  kind : I64 m.kind
  client : I64 m.client
  sn : I64 m.sub.number
  sk : I64 m.sub.kind
  st : I64 m.sub.target
  rn : I64 m.rep.number
  rl : I64 m.rep.last
  rv : I64 m.rep.vnum
  who : I64 m.who
  bo : I64 m.blob.owner
  bn : I64 m.blob.number
  ns : ∀ n ∈ m.nums, I64 n
  ps : ∀ p ∈ m.rep.pend, penOk p
theorem i64_zero : I64 0 := ⟨by decide, by decide⟩
theorem zeroD_len : zeroD.length = 32 := rfl
theorem zeroM_wf (k c : Int) : (zeroM k c).Wf := ⟨⟨rfl, rfl⟩, ⟨rfl, rfl, rfl, fun p hp => by cases hp⟩, rfl, rfl, ⟨rfl⟩⟩
theorem wf_of_ok {p : Pen} (h : penOk p) : p.Wf := ⟨h.asked, h.proof⟩
open Go
set_option maxRecDepth 100000
def hasB (n : Nat) (c : Int) : Bool := decide (0 ≤ c) && decide (c < (n : Int))
def subM (c : Int) (x : Sub) : Msg := { zeroM 1 c with sub := x }
def comM (c : Int) (v t : List UInt8) : Msg := { zeroM 3 c with view := v, tag := t }
def by8 (c : Int) : UInt8 := UInt8.ofNat c.toNat
theorem by8_val (c : Int) (h : 0 ≤ c ∧ c < 256) : bv (by8 c) = c := by
  unfold bv by8
  rw [UInt8.toNat_ofNat']
  omega
end Go.Proofs.YtmfpmajkjhmliaaGreatDoor.Ms
