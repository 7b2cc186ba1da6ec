/-
  Which messages may be, what any bytes are, and that messages go there and back: in plain words. No program plays a part.
-/
import Derived.Test.YtoneoocihfjfgaaGreatDoorG01
namespace Go.Proofs.YtoneoocihfjfgaaGreatDoor.Ms
open Go
set_option maxRecDepth 100000
def inB (n a b : Int) : Bool := decide (a ≤ n) && decide (n ≤ b)
def asksB (n k t : Int) : Bool := inB n 1 512 && (inB k 1 2 && inB t 0 7)
def okAt (l : List Int) (i : Nat) : Bool := inB (l.getD i 0) 0 1099511627776 && (decide (i = 0) || decide (l.getD (i - 1) 0 < l.getD i 0))
def numsB (l : List Int) : Bool := (List.range l.length).all (okAt l) && inB (l.length : Int) 1 64
def penB (p : Pen) : Bool := inB p.client 0 7 && asksB p.number p.kind p.target
def viewOk (r : Rep) : Bool := !((r.view == [] && r.last != -1) || (r.view != [] && r.last == -1))
def chainB (r : Rep) : Bool := inB r.number 1 512 && (inB r.last (-1) 7 && (Hist.rightB r.view 8 && (Hist.rightB r.seen 8 && (decide (r.pend.length ≤ 8) && (inB r.vnum 0 512 && decide (r.value.length ≤ 256))))))
def repB (r : Rep) : Bool := r.pend.all penB && (viewOk r && chainB r)
def subB (x : Sub) : Bool := asksB x.number x.kind x.target && decide (x.value.length ≤ 256)
def viewB (v : List UInt8) : Bool := (v != []) && Hist.rightB v 8
def bloB (b : Blo) : Bool := inB b.owner 0 7 && (inB b.number 0 1099511627776 && decide (b.cipher.length ≤ 4096))
def partsB (m : Msg) : Bool :=
  if m.kind = 1 then subB m.sub else if m.kind = 2 then repB m.rep else if m.kind = 3 then viewB m.view else if m.kind = 4 ∨ m.kind = 6 then bloB m.blob else
  if m.kind = 5 ∨ m.kind = 7 ∨ m.kind = 8 then numsB m.nums else if m.kind = 9 then true else if m.kind = 10 then inB m.who 0 7 && viewB m.view else if m.kind = 11 then true else false
def restB (m : Msg) : Bool := sameM (emptyAll (fieldsM m.kind) m) (zeroM m.kind 0)
def mayB (m : Msg) : Bool := inB m.client 0 7 && (partsB m && restB m)
theorem fields_cases (k : Int) : (k = 1 ∧ fieldsM k = subFs) ∨ (k = 2 ∧ fieldsM k = repFs) ∨ (k = 3 ∧ fieldsM k = comFs) ∨ ((k = 4 ∨ k = 6) ∧ fieldsM k = bloFs) ∨ ((k = 5 ∨ k = 7 ∨ k = 8) ∧ fieldsM k = lstFs) ∨ (k = 9 ∧ fieldsM k = proFs) ∨ (k = 10 ∧ fieldsM k = verFs) ∨ (k = 11 ∧ fieldsM k = alaFs) ∨ ((k < 1 ∨ 11 < k) ∧ fieldsM k = []) := by
  unfold fieldsM
  by_cases h1 : k = 1
  · exact .inl ⟨h1, by rw [if_pos h1]⟩
  by_cases h2 : k = 2
  · exact .inr (.inl ⟨h2, by rw [if_neg h1, if_pos h2]⟩)
  by_cases h3 : k = 3
  · exact .inr (.inr (.inl ⟨h3, by rw [if_neg h1, if_neg h2, if_pos h3]⟩))
  by_cases h4 : k = 4 ∨ k = 6
  · exact .inr (.inr (.inr (.inl ⟨h4, by rw [if_neg h1, if_neg h2, if_neg h3, if_pos h4]⟩)))
  by_cases h5 : k = 5 ∨ k = 7 ∨ k = 8
  · exact .inr (.inr (.inr (.inr (.inl ⟨h5, by rw [if_neg h1, if_neg h2, if_neg h3, if_neg h4, if_pos h5]⟩))))
  by_cases h6 : k = 9
  · exact .inr (.inr (.inr (.inr (.inr (.inl ⟨h6, by rw [if_neg h1, if_neg h2, if_neg h3, if_neg h4, if_neg h5, if_pos h6]⟩)))))
  by_cases h7 : k = 10
  · exact .inr (.inr (.inr (.inr (.inr (.inr (.inl ⟨h7, by rw [if_neg h1, if_neg h2, if_neg h3, if_neg h4, if_neg h5, if_neg h6, if_pos h7]⟩))))))
  by_cases h8 : k = 11
  · exact .inr (.inr (.inr (.inr (.inr (.inr (.inr (.inl ⟨h8, by rw [if_neg h1, if_neg h2, if_neg h3, if_neg h4, if_neg h5, if_neg h6, if_neg h7, if_pos h8]⟩)))))))
  · exact .inr (.inr (.inr (.inr (.inr (.inr (.inr (.inr ⟨by omega, by rw [if_neg h1, if_neg h2, if_neg h3, if_neg h4, if_neg h5, if_neg h6, if_neg h7, if_neg h8]⟩)))))))
theorem inB_iff (n a b : Int) : inB n a b = true ↔ a ≤ n ∧ n ≤ b := by simp [inB]
theorem right_len (h : List UInt8) (n : Int) (hr : Hist.rightB h n = true) : h.length ≤ 512 := by
  unfold Hist.rightB at hr
  simp at hr
  omega
theorem wf_pens {r : Rep} (hw : r.Wf) (hb : r.pend.all penB = true) : ∀ p ∈ r.pend, penOk p := by
  intro p hp
  rw [List.all_eq_true] at hb
  have h := hb p hp
  have w := hw.pend p hp
  simp only [penB, asksB, Bool.and_eq_true, inB_iff] at h
  exact ⟨⟨by omega, by omega⟩, ⟨by omega, by omega⟩, ⟨by omega, by omega⟩, ⟨by omega, by omega⟩, w.asked, w.proof⟩
theorem nums_ok {l : List Int} (h : numsB l = true) : l.length ≤ 64 ∧ ∀ n ∈ l, 0 ≤ n ∧ n ≤ 1099511627776 := by
  simp only [numsB, Bool.and_eq_true, inB_iff, List.all_eq_true] at h
  refine ⟨by omega, fun n hn => ?_⟩
  obtain ⟨i, hi, rfl⟩ := List.getElem_of_mem hn
  have := h.1 i (List.mem_range.2 hi)
  simp only [okAt, Bool.and_eq_true, inB_iff] at this
  have e : l.getD i 0 = l[i] := by simp [List.getD, hi]
  rw [e] at this
  exact this.1
theorem may_fits {m : Msg} (hw : m.Wf) (h : mayB m = true) : (1 ≤ m.kind ∧ m.kind ≤ 11) ∧ ∀ g ∈ fieldsM m.kind, (g.get m).slot = g.slot ∧ okVal (g.get m) := by
  simp only [mayB, Bool.and_eq_true, inB_iff] at h
  obtain ⟨hc, hp, -⟩ := h
  have hC : okVal (.num m.client) := ⟨by omega, by omega⟩
  rcases fields_cases m.kind with ⟨k, e⟩ | ⟨k, e⟩ | ⟨k, e⟩ | ⟨k, e⟩ | ⟨k, e⟩ | ⟨k, e⟩ | ⟨k, e⟩ | ⟨k, e⟩ | ⟨k, e⟩ <;> rw [e]
  · refine ⟨by omega, ?_⟩
    simp only [partsB, if_pos k, subB, asksB, Bool.and_eq_true, inB_iff, decide_eq_true_eq] at hp
    intro g hg
    simp only [subFs, List.mem_cons, List.not_mem_nil, or_false] at hg
    rcases hg with rfl | rfl | rfl | rfl | rfl | rfl | rfl
    · exact ⟨rfl, hC⟩
    · exact ⟨rfl, by show _ ≤ m.sub.number; omega, by show m.sub.number ≤ _; omega⟩
    · exact ⟨rfl, by show _ ≤ m.sub.kind; omega, by show m.sub.kind ≤ _; omega⟩
    · exact ⟨rfl, by show _ ≤ m.sub.target; omega, by show m.sub.target ≤ _; omega⟩
    · exact ⟨rfl, by show m.sub.value.length ≤ _; omega⟩
    · exact ⟨rfl, hw.sub.asked⟩
    · exact ⟨rfl, hw.sub.data⟩
  · refine ⟨by omega, ?_⟩
    simp only [partsB, k] at hp
    simp only [show ((2 : Int) = 1) = False by simp, if_false, if_true, repB, chainB, Bool.and_eq_true, inB_iff, decide_eq_true_eq] at hp
    obtain ⟨h1, -, h2, h3, h4, h5, h6, h7, h8⟩ := hp
    have h4' := right_len _ _ h4
    have h5' := right_len _ _ h5
    intro g hg
    simp only [repFs, List.mem_cons, List.not_mem_nil, or_false] at hg
    rcases hg with rfl | rfl | rfl | rfl | rfl | rfl | rfl | rfl | rfl | rfl
    · exact ⟨rfl, by show _ ≤ m.rep.number; omega, by show m.rep.number ≤ _; omega⟩
    · exact ⟨rfl, by show _ ≤ m.rep.last; omega, by show m.rep.last ≤ _; omega⟩
    · exact ⟨rfl, by show m.rep.view.length ≤ _; omega⟩
    · exact ⟨rfl, hw.rep.commit⟩
    · exact ⟨rfl, h6, wf_pens hw.rep h1⟩
    · exact ⟨rfl, by show _ ≤ m.rep.vnum; omega, by show m.rep.vnum ≤ _; omega⟩
    · exact ⟨rfl, by show m.rep.value.length ≤ _; omega⟩
    · exact ⟨rfl, hw.rep.data⟩
    · exact ⟨rfl, by show m.rep.seen.length ≤ _; omega⟩
    · exact ⟨rfl, hw.rep.stag⟩
  · refine ⟨by omega, ?_⟩
    simp only [partsB, k] at hp
    simp only [show ((3 : Int) = 1) = False by simp, show ((3 : Int) = 2) = False by simp, if_false, if_true, viewB, Bool.and_eq_true] at hp
    have h4' := right_len _ _ hp.2
    intro g hg
    simp only [comFs, List.mem_cons, List.not_mem_nil, or_false] at hg
    rcases hg with rfl | rfl | rfl
    · exact ⟨rfl, hC⟩
    · exact ⟨rfl, by show m.view.length ≤ _; omega⟩
    · exact ⟨rfl, hw.tag⟩
  · refine ⟨by omega, ?_⟩
    simp only [partsB, if_neg (by omega : ¬ m.kind = 1), if_neg (by omega : ¬ m.kind = 2), if_neg (by omega : ¬ m.kind = 3), if_pos k, bloB, Bool.and_eq_true, inB_iff, decide_eq_true_eq] at hp
    intro g hg
    simp only [bloFs, List.mem_cons, List.not_mem_nil, or_false] at hg
    rcases hg with rfl | rfl | rfl | rfl
    · exact ⟨rfl, by show _ ≤ m.blob.owner; omega, by show m.blob.owner ≤ _; omega⟩
    · exact ⟨rfl, by show _ ≤ m.blob.number; omega, by show m.blob.number ≤ _; omega⟩
    · exact ⟨rfl, by show m.blob.cipher.length ≤ _; omega⟩
    · exact ⟨rfl, hw.blob.tag⟩
  · refine ⟨by omega, ?_⟩
    simp only [partsB, if_neg (by omega : ¬ m.kind = 1), if_neg (by omega : ¬ m.kind = 2), if_neg (by omega : ¬ m.kind = 3), if_neg (by omega : ¬ (m.kind = 4 ∨ m.kind = 6)), if_pos k] at hp
    obtain ⟨h1, h2⟩ := nums_ok hp
    intro g hg
    simp only [lstFs, List.mem_cons, List.not_mem_nil, or_false] at hg
    rcases hg with rfl | rfl
    · exact ⟨rfl, hC⟩
    · exact ⟨rfl, by show m.nums.length ≤ _; omega, fun n hn => ⟨by have := h2 n hn; omega, by have := h2 n hn; omega⟩⟩
  · refine ⟨by omega, ?_⟩
    intro g hg
    simp only [proFs, List.mem_cons, List.not_mem_nil, or_false] at hg
    subst hg
    exact ⟨rfl, hC⟩
  · refine ⟨by omega, ?_⟩
    simp only [partsB, if_neg (by omega : ¬ m.kind = 1), if_neg (by omega : ¬ m.kind = 2), if_neg (by omega : ¬ m.kind = 3), if_neg (by omega : ¬ (m.kind = 4 ∨ m.kind = 6)), if_neg (by omega : ¬ (m.kind = 5 ∨ m.kind = 7 ∨ m.kind = 8)), if_neg (by omega : ¬ m.kind = 9), if_pos k, viewB, Bool.and_eq_true, inB_iff] at hp
    have h4' := right_len _ _ hp.2.2
    intro g hg
    simp only [verFs, List.mem_cons, List.not_mem_nil, or_false] at hg
    rcases hg with rfl | rfl | rfl | rfl | rfl
    · exact ⟨rfl, hC⟩
    · exact ⟨rfl, by show _ ≤ m.who; omega, by show m.who ≤ _; omega⟩
    · exact ⟨rfl, by show m.view.length ≤ _; omega⟩
    · exact ⟨rfl, hw.tag⟩
    · exact ⟨rfl, hw.own⟩
  · refine ⟨by omega, ?_⟩
    intro g hg
    simp only [alaFs, List.mem_cons, List.not_mem_nil, or_false] at hg
    rcases hg with rfl | rfl
    · exact ⟨rfl, hC⟩
    · exact ⟨rfl, hw.own⟩
  · simp only [partsB, if_neg (by omega : ¬ m.kind = 1), if_neg (by omega : ¬ m.kind = 2), if_neg (by omega : ¬ m.kind = 3), if_neg (by omega : ¬ (m.kind = 4 ∨ m.kind = 6)), if_neg (by omega : ¬ (m.kind = 5 ∨ m.kind = 7 ∨ m.kind = 8)), if_neg (by omega : ¬ m.kind = 9), if_neg (by omega : ¬ m.kind = 10), if_neg (by omega : ¬ m.kind = 11)] at hp
    exact absurd hp Bool.false_ne_true
open Go
set_option maxRecDepth 100000
structure Msg.Rng (m : Msg) : Prop where
  kind : I64 m.kind
  client : I64 m.client
  sn : I64 m.sub.number
  sk : I64 m.sub.kind
  st : I64 m.sub.target
  rn : I64 m.rep.number
  rl : I64 m.rep.last
  rv : I64 m.rep.vnum
  who : I64 m.who
  bo : I64 m.blob.owner
  bn : I64 m.blob.number
  ns : ∀ n ∈ m.nums, I64 n
  ps : ∀ p ∈ m.rep.pend, penOk p
theorem i64_zero : I64 0 := ⟨by decide, by decide⟩
theorem zeroD_len : zeroD.length = 32 := rfl
theorem zeroM_wf (k c : Int) : (zeroM k c).Wf := ⟨⟨rfl, rfl⟩, ⟨rfl, rfl, rfl, fun p hp => by cases hp⟩, rfl, rfl, ⟨rfl⟩⟩
theorem zeroM_rng (k c : Int) (hk : I64 k) (hc : I64 c) : (zeroM k c).Rng :=
  ⟨hk, hc, i64_zero, i64_zero, i64_zero, i64_zero, i64_zero, i64_zero, i64_zero, i64_zero, i64_zero, (fun n hn => by cases hn), (fun p hp => by cases hp)⟩
theorem wf_of_ok {p : Pen} (h : penOk p) : p.Wf := ⟨h.asked, h.proof⟩
def bareM (m : Msg) : Msg :=
  if m.kind = 1 then { m with sub := zeroS } else if m.kind = 2 then { m with rep := zeroR } else if m.kind = 3 then { m with view := [], tag := zeroD } else
  if m.kind = 4 ∨ m.kind = 6 then { m with blob := zeroB } else if m.kind = 5 ∨ m.kind = 7 ∨ m.kind = 8 then { m with nums := [] } else
  if m.kind = 10 then { m with who := 0, view := [], tag := zeroD, own := zeroD } else if m.kind = 11 then { m with own := zeroD } else m
def refParts (m : Msg) : Bool :=
  if m.kind = 1 then subB m.sub else if m.kind = 2 then (m.client == 0) && repB m.rep else if m.kind = 3 then viewB m.view else if m.kind = 4 ∨ m.kind = 6 then (m.client == 0) && bloB m.blob else
  if m.kind = 5 ∨ m.kind = 7 ∨ m.kind = 8 then numsB m.nums else if m.kind = 10 then inB m.who 0 7 && viewB m.view else true
def rightM (m : Msg) : Bool := inB m.kind 1 11 && (inB m.client 0 7 && (sameM (bareM m) (zeroM m.kind m.client) && refParts m))
theorem may_right (m : Msg) : mayB m = rightM m := by
  rw [Bool.eq_iff_iff]
  unfold mayB rightM restB
  simp only [Bool.and_eq_true, sameM_iff, inB_iff]
  obtain ⟨k, c, ⟨s1, s2, s3, s4, s5, s6⟩, ⟨r1, r2, r3, r4, r5, r6, r7, r8, r9, r10⟩, vw, wh, tg, ow, ⟨b1, b2, b3, b4⟩, ns⟩ := m
  simp only
  rcases fields_cases k with ⟨hk, e⟩ | ⟨hk, e⟩ | ⟨hk, e⟩ | ⟨hk, e⟩ | ⟨hk, e⟩ | ⟨hk, e⟩ | ⟨hk, e⟩ | ⟨hk, e⟩ | ⟨hk, e⟩ <;> rw [e]
  · subst hk
    simp only [partsB, refParts, bareM, if_true, subFs, emptyAll, fClient, fSNumber, fSKind, fSTarget, fSValue, fSAsked, fSData, Slot.zero, Val.n, Val.s, Val.d, zeroM, zeroS, Msg.mk.injEq]
    constructor <;> (intro h; simp_all)
  · subst hk
    simp only [partsB, refParts, bareM, show ((2 : Int) = 1) = False by simp, if_false, if_true, repFs, emptyAll, fRNumber, fRLast, fRView, fRCommit, fRPend, fRVnum, fRValue, fRData, fRSeen, fRTag, Slot.zero, Val.n, Val.s, Val.d, Val.p, zeroM, zeroR, Msg.mk.injEq, Bool.and_eq_true, beq_iff_eq]
    constructor <;> (intro h; simp_all)
  · subst hk
    simp only [partsB, refParts, bareM, show ((3 : Int) = 1) = False by simp, show ((3 : Int) = 2) = False by simp, if_false, if_true, comFs, emptyAll, fClient, fView, fTag, Slot.zero, Val.n, Val.s, Val.d, zeroM, Msg.mk.injEq]
    constructor <;> (intro h; simp_all)
  · simp only [partsB, refParts, bareM, if_neg (by omega : ¬ k = 1), if_neg (by omega : ¬ k = 2), if_neg (by omega : ¬ k = 3), if_pos hk, bloFs, emptyAll, fBOwner, fBNumber, fBCipher, fBTag, Slot.zero, Val.n, Val.s, Val.d, zeroM, zeroB, Msg.mk.injEq, Bool.and_eq_true, beq_iff_eq]
    have hk' : 1 ≤ k ∧ k ≤ 11 := by omega
    constructor <;> (intro h; simp_all)
  · simp only [partsB, refParts, bareM, if_neg (by omega : ¬ k = 1), if_neg (by omega : ¬ k = 2), if_neg (by omega : ¬ k = 3), if_neg (by omega : ¬ (k = 4 ∨ k = 6)), if_pos hk, lstFs, emptyAll, fClient, fNums, Slot.zero, Val.n, Val.l, zeroM, Msg.mk.injEq]
    have hk' : 1 ≤ k ∧ k ≤ 11 := by omega
    constructor <;> (intro h; simp_all)
  · subst hk
    simp only [partsB, refParts, bareM, show ((9 : Int) = 1) = False by simp, show ((9 : Int) = 2) = False by simp, show ((9 : Int) = 3) = False by simp, show ((9 : Int) = 4 ∨ (9 : Int) = 6) = False by simp, show ((9 : Int) = 5 ∨ (9 : Int) = 7 ∨ (9 : Int) = 8) = False by simp, show ((9 : Int) = 10) = False by simp, show ((9 : Int) = 11) = False by simp, if_false, if_true, proFs, emptyAll, fClient, Slot.zero, Val.n, zeroM, Msg.mk.injEq]
    constructor <;> (intro h; simp_all)
  · subst hk
    simp only [partsB, refParts, bareM, show ((10 : Int) = 1) = False by simp, show ((10 : Int) = 2) = False by simp, show ((10 : Int) = 3) = False by simp, show ((10 : Int) = 4 ∨ (10 : Int) = 6) = False by simp, show ((10 : Int) = 5 ∨ (10 : Int) = 7 ∨ (10 : Int) = 8) = False by simp, show ((10 : Int) = 9) = False by simp, if_false, if_true, verFs, emptyAll, fClient, fBy, fView, fTag, fOwn, Slot.zero, Val.n, Val.s, Val.d, zeroM, Msg.mk.injEq]
    constructor <;> (intro h; simp_all)
  · subst hk
    simp only [partsB, refParts, bareM, show ((11 : Int) = 1) = False by simp, show ((11 : Int) = 2) = False by simp, show ((11 : Int) = 3) = False by simp, show ((11 : Int) = 4 ∨ (11 : Int) = 6) = False by simp, show ((11 : Int) = 5 ∨ (11 : Int) = 7 ∨ (11 : Int) = 8) = False by simp, show ((11 : Int) = 9) = False by simp, show ((11 : Int) = 10) = False by simp, if_false, if_true, alaFs, emptyAll, fClient, fOwn, Slot.zero, Val.n, Val.d, zeroM, Msg.mk.injEq]
    constructor <;> (intro h; simp_all)
  · simp only [partsB, if_neg (by omega : ¬ k = 1), if_neg (by omega : ¬ k = 2), if_neg (by omega : ¬ k = 3), if_neg (by omega : ¬ (k = 4 ∨ k = 6)), if_neg (by omega : ¬ (k = 5 ∨ k = 7 ∨ k = 8)), if_neg (by omega : ¬ k = 9), if_neg (by omega : ¬ k = 10), if_neg (by omega : ¬ k = 11)]
    constructor
    · rintro ⟨-, h, -⟩
      exact absurd h Bool.false_ne_true
    · rintro ⟨h, -⟩
      omega
open Go
set_option maxRecDepth 100000
structure Reg where
  asked : Sub
  ans : Rep
  view : List UInt8
  tag : List UInt8
def zeroG : Reg := ⟨zeroS, zeroR, [], zeroD⟩
structure Rs where
  n : Nat
  regs : List Reg
  long : List UInt8
  ltag : List UInt8
  who : Int
  pend : List Pen
def newR (n : Nat) : Rs := ⟨n, List.replicate 8 zeroG, [], zeroD, -1, []⟩
def hasB (n : Nat) (c : Int) : Bool := decide (0 ≤ c) && decide (c < (n : Int))
def Rs.reg (R : Rs) (c : Int) : Reg := R.regs.getD c.toNat zeroG
def subM (c : Int) (x : Sub) : Msg := { zeroM 1 c with sub := x }
def comM (c : Int) (v t : List UInt8) : Msg := { zeroM 3 c with view := v, tag := t }
def by8 (c : Int) : UInt8 := UInt8.ofNat c.toNat
def subOk (R : Rs) (c : Int) (x : Sub) : Bool := hasB R.n c && (hasB R.n x.target && mayB (subM c x))
def provenL (R : Rs) : List Pen := R.pend.map fun p => { p with proof := (R.reg p.client).tag }
def ansR (R : Rs) (x : Sub) : Rep :=
  if x.kind = 2 then ⟨x.number, R.who, R.long, R.ltag, provenL R, (R.reg x.target).asked.number, (R.reg x.target).asked.value, (R.reg x.target).asked.data, (R.reg x.target).view, (R.reg x.target).tag⟩
  else ⟨x.number, R.who, R.long, R.ltag, provenL R, 0, [], zeroD, [], zeroD⟩
def fullB (R : Rs) : Bool := decide (512 ≤ R.long.length + R.pend.length) || decide (8 ≤ R.pend.length)
def penOf (c : Int) (x : Sub) : Pen := ⟨c, x.number, x.kind, x.target, x.asked, zeroD⟩
def subE (R : Rs) (c : Int) (x : Sub) : Int :=
  if subOk R c x = false then 2 else if x.number = (R.reg c).asked.number then (if sameS x (R.reg c).asked = true then 0 else 10)
  else if x.number ≠ (R.reg c).asked.number + 1 then 3 else if fullB R = true then 11 else 0
def subY (R : Rs) (c : Int) (x : Sub) : Rep := if subE R c x ≠ 0 then zeroR else if x.number = (R.reg c).asked.number then (R.reg c).ans else ansR R x
def subN (R : Rs) (c : Int) (x : Sub) : Rs := { R with regs := R.regs.set c.toNat { R.reg c with asked := x, ans := ansR R x }, pend := R.pend ++ [penOf c x] }
def subR (R : Rs) (c : Int) (x : Sub) : Rs := if subE R c x ≠ 0 then R else if x.number = (R.reg c).asked.number then R else subN R c x
def lastI (v : List UInt8) : Int := bv (v.getD (v.length - 1) 0)
def comOk (R : Rs) (c : Int) (v t : List UInt8) : Bool := hasB R.n c && mayB (comM c v t)
def isOp (c k : Int) (p : Pen) : Bool := p.client == c && p.number == k
def cutP (c k : Int) (l : List Pen) : List Pen := match l.findIdx? (isOp c k) with
  | none => l
  | some i => l.drop (i + 1)
def comE (R : Rs) (c : Int) (v t : List UInt8) : Int :=
  if comOk R c v t = false then 2 else if lastI v ≠ c ∨ (Hist.cnt v c : Int) ≠ (R.reg c).asked.number then 3
  else if (Hist.cnt (R.reg c).view c : Int) = (R.reg c).asked.number then 10 else 0
def comS (R : Rs) (c : Int) (v t : List UInt8) : Rs := { R with regs := R.regs.set c.toNat { R.reg c with view := v, tag := t } }
def comL (R : Rs) (c : Int) (v t : List UInt8) : Rs := { comS R c v t with long := v, ltag := t, who := c, pend := cutP c (R.reg c).asked.number R.pend }
def comR (R : Rs) (c : Int) (v t : List UInt8) : Rs := if comE R c v t ≠ 0 then R else if R.long.length < v.length then comL R c v t else comS R c v t
def orderR (R : Rs) : List UInt8 := R.long ++ R.pend.map fun p => by8 p.client
def afterR (y : Rep) (c : Int) : List UInt8 := (y.view ++ y.pend.map fun p => by8 p.client) ++ [by8 c]
def numR (R : Rs) (c : Int) : Int := if hasB R.n c = true then (R.reg c).asked.number else 0
def viewR (R : Rs) (c : Int) : List UInt8 := if hasB R.n c = true then (R.reg c).view else []
structure GOk (g : Reg) : Prop where
  asked : g.asked.Wf
  ans : g.ans.Wf
  tag : g.tag.length = 32
  num : 0 ≤ g.asked.number ∧ g.asked.number ≤ 512
  value : g.asked.value.length ≤ 256
  view : g.view.length ≤ 512
  apend : g.ans.pend.length ≤ 8
  aview : g.ans.view.length ≤ 512
  acl : ∀ p ∈ g.ans.pend, 0 ≤ p.client ∧ p.client < 8
structure PdOk (n : Nat) (p : Pen) : Prop where
  wf : p.Wf
  cl : 0 ≤ p.client ∧ p.client < (n : Int)
  num : 1 ≤ p.number ∧ p.number ≤ 512
structure RInv (R : Rs) : Prop where
  n : 2 ≤ R.n ∧ R.n ≤ 8
  len : R.regs.length = 8
  regs : ∀ g ∈ R.regs, GOk g
  long : R.long.length ≤ 512
  ltag : R.ltag.length = 32
  who : -1 ≤ R.who ∧ R.who < 8
  plen : R.pend.length ≤ 8
  pend : ∀ p ∈ R.pend, PdOk R.n p
theorem zeroG_ok : GOk zeroG := ⟨⟨rfl, rfl⟩, ⟨rfl, rfl, rfl, fun p hp => by cases hp⟩, rfl, ⟨by decide, by decide⟩, by decide, by decide, by decide, by decide, fun p hp => by cases hp⟩
theorem hasB_iff (n : Nat) (c : Int) : hasB n c = true ↔ 0 ≤ c ∧ c < (n : Int) := by simp [hasB]
theorem RInv.reg {R : Rs} (h : RInv R) (c : Int) : GOk (R.reg c) := by
  unfold Rs.reg
  by_cases hc : c.toNat < R.regs.length
  · rw [List.getD_eq_getElem?_getD, List.getElem?_eq_getElem hc]
    exact h.regs _ (List.getElem_mem hc)
  · rw [List.getD_eq_getElem?_getD, List.getElem?_eq_none (by omega)]
    exact zeroG_ok
theorem RInv.new (n : Nat) (h : 2 ≤ n ∧ n ≤ 8) : RInv (newR n) :=
  ⟨h, rfl, fun g hg => by rw [List.eq_of_mem_replicate hg]; exact zeroG_ok, by simp [newR], rfl, ⟨by simp [newR], by simp [newR]⟩, by simp [newR], fun p hp => by cases hp⟩
theorem mem_set_cases {α : Type} {l : List α} {i : Nat} {a x : α} (h : x ∈ l.set i a) : x ∈ l ∨ x = a := List.mem_or_eq_of_mem_set h
theorem provenL_len (R : Rs) : (provenL R).length = R.pend.length := by simp [provenL]
theorem provenL_wf {R : Rs} (h : RInv R) : ∀ p ∈ provenL R, p.Wf := by
  intro p hp
  simp only [provenL, List.mem_map] at hp
  obtain ⟨q, hq, rfl⟩ := hp
  exact ⟨(h.pend q hq).wf.asked, (h.reg q.client).tag⟩
theorem ansR_wf {R : Rs} (h : RInv R) (x : Sub) : (ansR R x).Wf := by
  unfold ansR
  split
  · exact ⟨h.ltag, (h.reg x.target).asked.data, (h.reg x.target).tag, provenL_wf h⟩
  · exact ⟨h.ltag, rfl, rfl, provenL_wf h⟩
theorem ansR_pend (R : Rs) (x : Sub) : (ansR R x).pend = provenL R := by unfold ansR; split <;> rfl
theorem ansR_view (R : Rs) (x : Sub) : (ansR R x).view = R.long := by unfold ansR; split <;> rfl
theorem sub_may (c : Int) (x : Sub) : mayB (subM c x) = (inB c 0 7 && subB x) := by
  rw [Bool.eq_iff_iff]
  have hr : restB (subM c x) = true := by
    unfold restB
    rw [sameM_iff]
    rcases fields_cases (1 : Int) with ⟨_, e⟩ | ⟨h, _⟩ | ⟨h, _⟩ | ⟨h, _⟩ | ⟨h, _⟩ | ⟨h, _⟩ | ⟨h, _⟩ | ⟨h, _⟩ | ⟨h, _⟩
    · show emptyAll (fieldsM 1) (subM c x) = zeroM 1 0
      rw [e]
      obtain ⟨s1, s2, s3, s4, s5, s6⟩ := x
      simp [subM, subFs, emptyAll, fClient, fSNumber, fSKind, fSTarget, fSValue, fSAsked, fSData, Slot.zero, Val.n, Val.s, Val.d, zeroM, zeroS]
    all_goals omega
  unfold mayB
  rw [hr]
  simp [partsB, subM, zeroM]
theorem com_may (c : Int) (v t : List UInt8) : mayB (comM c v t) = (inB c 0 7 && viewB v) := by
  rw [Bool.eq_iff_iff]
  have hr : restB (comM c v t) = true := by
    unfold restB
    rw [sameM_iff]
    rcases fields_cases (3 : Int) with ⟨h, _⟩ | ⟨h, _⟩ | ⟨_, e⟩ | ⟨h, _⟩ | ⟨h, _⟩ | ⟨h, _⟩ | ⟨h, _⟩ | ⟨h, _⟩ | ⟨h, _⟩
    · omega
    · omega
    · show emptyAll (fieldsM 3) (comM c v t) = zeroM 3 0
      rw [e]
      simp [comM, comFs, emptyAll, fClient, fView, fTag, Slot.zero, Val.n, Val.s, Val.d, zeroM, zeroS]
    all_goals omega
  unfold mayB
  rw [hr]
  simp [partsB, comM, zeroM]
theorem subOk_parts {R : Rs} {c : Int} {x : Sub} (h : subOk R c x = true) : (0 ≤ c ∧ c < (R.n : Int)) ∧ (0 ≤ x.target ∧ x.target < (R.n : Int)) ∧ (1 ≤ x.number ∧ x.number ≤ 512) ∧ (1 ≤ x.kind ∧ x.kind ≤ 2) ∧ x.value.length ≤ 256 := by
  unfold subOk at h
  rw [sub_may] at h
  simp only [Bool.and_eq_true, hasB_iff, inB_iff, subB, asksB, decide_eq_true_eq] at h
  omega
theorem viewB_parts {v : List UInt8} (h : viewB v = true) : v ≠ [] ∧ v.length ≤ 512 ∧ ∀ b ∈ v, bv b < 8 := by
  unfold viewB Hist.rightB at h
  simp only [Bool.and_eq_true, bne_iff_ne, decide_eq_true_eq, List.all_eq_true] at h
  exact ⟨h.1, h.2.1.2, h.2.2⟩
theorem comOk_parts {R : Rs} {c : Int} {v t : List UInt8} (h : comOk R c v t = true) : (0 ≤ c ∧ c < (R.n : Int)) ∧ v ≠ [] ∧ v.length ≤ 512 ∧ ∀ b ∈ v, bv b < 8 := by
  unfold comOk at h
  rw [com_may] at h
  simp only [Bool.and_eq_true, hasB_iff, inB_iff] at h
  exact ⟨h.1, viewB_parts h.2.2⟩
theorem RInv.subN {R : Rs} (h : RInv R) {c : Int} {x : Sub} (hx : x.Wf) (hok : subOk R c x = true) (hf : fullB R = false) : RInv (subN R c x) := by
  obtain ⟨h1, h2, h3, h4, h5⟩ := subOk_parts hok
  have hn := h.n
  simp only [fullB, Bool.or_eq_false_iff, decide_eq_false_iff_not] at hf
  refine ⟨h.n, by simpa [Ms.subN] using h.len, fun g hg => ?_, h.long, h.ltag, h.who, ?_, fun p hp => ?_⟩
  · rcases mem_set_cases hg with hg | rfl
    · exact h.regs g hg
    · have hg := h.reg c
      refine ⟨hx, ansR_wf h x, hg.tag, ⟨by simp only; omega, h3.2⟩, h5, hg.view, ?_, ?_, ?_⟩
      · simp only [ansR_pend, provenL_len]
        exact h.plen
      · simp only [ansR_view]
        exact h.long
      · simp only [ansR_pend]
        intro p hp
        simp only [provenL, List.mem_map] at hp
        obtain ⟨q, hq, rfl⟩ := hp
        have := (h.pend q hq).cl
        exact ⟨this.1, by simp only; omega⟩
  · simp only [Ms.subN, List.length_append, List.length_cons, List.length_nil]
    omega
  · simp only [Ms.subN, List.mem_append, List.mem_cons, List.not_mem_nil, or_false] at hp
    rcases hp with hp | rfl
    · exact h.pend p hp
    · exact ⟨⟨hx.asked, rfl⟩, h1, h3⟩
theorem cutP_sub (c k : Int) (l : List Pen) : ∃ m, cutP c k l = l.drop m := by
  unfold cutP
  split
  · exact ⟨0, rfl⟩
  · exact ⟨_, rfl⟩
theorem RInv.comS {R : Rs} (h : RInv R) {c : Int} {v t : List UInt8} (ht : t.length = 32) (hv : v.length ≤ 512) : RInv (comS R c v t) := by
  refine ⟨h.n, by simpa [Ms.comS] using h.len, fun g hg => ?_, h.long, h.ltag, h.who, h.plen, h.pend⟩
  rcases mem_set_cases hg with hg | rfl
  · exact h.regs g hg
  · have hg := h.reg c
    exact ⟨hg.asked, hg.ans, ht, hg.num, hg.value, hv, hg.apend, hg.aview, hg.acl⟩
theorem RInv.comL {R : Rs} (h : RInv R) {c : Int} {v t : List UInt8} (ht : t.length = 32) (hv : v.length ≤ 512) (hc : 0 ≤ c ∧ c < 8) : RInv (comL R c v t) := by
  have h1 := h.comS (c := c) ht hv
  obtain ⟨m, hm⟩ := cutP_sub c (R.reg c).asked.number R.pend
  refine ⟨h1.n, h1.len, h1.regs, hv, ht, ⟨by simp only [Ms.comL]; omega, hc.2⟩, ?_, fun p hp => ?_⟩
  · have := h.plen
    simp only [Ms.comL, hm, List.length_drop]
    omega
  · simp only [Ms.comL, hm] at hp
    exact h.pend p (List.mem_of_mem_drop hp)
theorem reg_nat (R : Rs) (j : Nat) : R.reg (j : Int) = R.regs.getD j zeroG := rfl
theorem by8_val (c : Int) (h : 0 ≤ c ∧ c < 256) : bv (by8 c) = c := by
  unfold bv by8
  rw [UInt8.toNat_ofNat']
  omega
end Go.Proofs.YtoneoocihfjfgaaGreatDoor.Ms
