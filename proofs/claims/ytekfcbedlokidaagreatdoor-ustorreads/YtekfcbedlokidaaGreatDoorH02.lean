/-
  Which messages may be, what any bytes are, and that messages go there and back: in plain words. No program plays a part.
-/
import Derived.Test.YtekfcbedlokidaaGreatDoorH01
import Derived.Test.YtekfcbedlokidaaGreatDoorChecked
import Derived.DeepKeys
import Derived.Laws.StructEq
import Derived.WalkKit
import Derived.Laws.Rows
import Derived.Laws.CopyRow
import Derived.Laws.AppendOwn
import Derived.Below
import Derived.BigQuiet
import Derived.Lib.QuietBelow
import Derived.Deep.CutBlock
import Derived.Deep.CutRange
namespace Go.Proofs.YtekfcbedlokidaaGreatDoor.Ms
open Go
set_option maxRecDepth 100000
def inB (n a b : Int) : Bool := decide (a ≤ n) && decide (n ≤ b)
def asksB (n k t : Int) : Bool := inB n 1 512 && (inB k 1 2 && inB t 0 7)
def okAt (l : List Int) (i : Nat) : Bool := inB (l.getD i 0) 0 1099511627776 && (decide (i = 0) || decide (l.getD (i - 1) 0 < l.getD i 0))
def numsB (l : List Int) : Bool := (List.range l.length).all (okAt l) && inB (l.length : Int) 1 64
def penB (p : Pen) : Bool := inB p.client 0 7 && asksB p.number p.kind p.target
def viewOk (r : Rep) : Bool := !((r.view == [] && r.last != -1) || (r.view != [] && r.last == -1))
def chainB (r : Rep) : Bool := inB r.number 1 512 && (inB r.last (-1) 7 && (Hist.rightB r.view 8 && (Hist.rightB r.seen 8 && (decide (r.pend.length ≤ 8) && (inB r.vnum 0 512 && decide (r.value.length ≤ 256))))))
def repB (r : Rep) : Bool := r.pend.all penB && (viewOk r && chainB r)
def subB (x : Sub) : Bool := asksB x.number x.kind x.target && decide (x.value.length ≤ 256)
def viewB (v : List UInt8) : Bool := (v != []) && Hist.rightB v 8
def bloB (b : Blo) : Bool := inB b.owner 0 7 && (inB b.number 0 1099511627776 && decide (b.cipher.length ≤ 4096))
def partsB (m : Msg) : Bool :=
  if m.kind = 1 then subB m.sub else if m.kind = 2 then repB m.rep else if m.kind = 3 then viewB m.view else if m.kind = 4 ∨ m.kind = 6 then bloB m.blob else
  if m.kind = 5 ∨ m.kind = 7 ∨ m.kind = 8 then numsB m.nums else if m.kind = 9 then true else if m.kind = 10 then inB m.who 0 7 && viewB m.view else if m.kind = 11 then true else false
def restB (m : Msg) : Bool := sameM (emptyAll (fieldsM m.kind) m) (zeroM m.kind 0)
def mayB (m : Msg) : Bool := inB m.client 0 7 && (partsB m && restB m)
theorem fields_cases (k : Int) : (k = 1 ∧ fieldsM k = subFs) ∨ (k = 2 ∧ fieldsM k = repFs) ∨ (k = 3 ∧ fieldsM k = comFs) ∨ ((k = 4 ∨ k = 6) ∧ fieldsM k = bloFs) ∨ ((k = 5 ∨ k = 7 ∨ k = 8) ∧ fieldsM k = lstFs) ∨ (k = 9 ∧ fieldsM k = proFs) ∨ (k = 10 ∧ fieldsM k = verFs) ∨ (k = 11 ∧ fieldsM k = alaFs) ∨ ((k < 1 ∨ 11 < k) ∧ fieldsM k = []) := by
  unfold fieldsM
  by_cases h1 : k = 1
  · exact .inl ⟨h1, by rw [if_pos h1]⟩
  by_cases h2 : k = 2
  · exact .inr (.inl ⟨h2, by rw [if_neg h1, if_pos h2]⟩)
  by_cases h3 : k = 3
  · exact .inr (.inr (.inl ⟨h3, by rw [if_neg h1, if_neg h2, if_pos h3]⟩))
  by_cases h4 : k = 4 ∨ k = 6
  · exact .inr (.inr (.inr (.inl ⟨h4, by rw [if_neg h1, if_neg h2, if_neg h3, if_pos h4]⟩)))
  by_cases h5 : k = 5 ∨ k = 7 ∨ k = 8
  · exact .inr (.inr (.inr (.inr (.inl ⟨h5, by rw [if_neg h1, if_neg h2, if_neg h3, if_neg h4, if_pos h5]⟩))))
  by_cases h6 : k = 9
  · exact .inr (.inr (.inr (.inr (.inr (.inl ⟨h6, by rw [if_neg h1, if_neg h2, if_neg h3, if_neg h4, if_neg h5, if_pos h6]⟩)))))
  by_cases h7 : k = 10
  · exact .inr (.inr (.inr (.inr (.inr (.inr (.inl ⟨h7, by rw [if_neg h1, if_neg h2, if_neg h3, if_neg h4, if_neg h5, if_neg h6, if_pos h7]⟩))))))
  by_cases h8 : k = 11
  · exact .inr (.inr (.inr (.inr (.inr (.inr (.inr (.inl ⟨h8, by rw [if_neg h1, if_neg h2, if_neg h3, if_neg h4, if_neg h5, if_neg h6, if_neg h7, if_pos h8]⟩)))))))
  · exact .inr (.inr (.inr (.inr (.inr (.inr (.inr (.inr ⟨by omega, by rw [if_neg h1, if_neg h2, if_neg h3, if_neg h4, if_neg h5, if_neg h6, if_neg h7, if_neg h8]⟩)))))))
theorem inB_iff (n a b : Int) : inB n a b = true ↔ a ≤ n ∧ n ≤ b := by simp [inB]
theorem right_len (h : List UInt8) (n : Int) (hr : Hist.rightB h n = true) : h.length ≤ 512 := by
  unfold Hist.rightB at hr
  simp at hr
  omega
theorem wf_pens {r : Rep} (hw : r.Wf) (hb : r.pend.all penB = true) : ∀ p ∈ r.pend, penOk p := by
  intro p hp
  rw [List.all_eq_true] at hb
  have h := hb p hp
  have w := hw.pend p hp
  simp only [penB, asksB, Bool.and_eq_true, inB_iff] at h
  exact ⟨⟨by omega, by omega⟩, ⟨by omega, by omega⟩, ⟨by omega, by omega⟩, ⟨by omega, by omega⟩, w.asked, w.proof⟩
theorem nums_ok {l : List Int} (h : numsB l = true) : l.length ≤ 64 ∧ ∀ n ∈ l, 0 ≤ n ∧ n ≤ 1099511627776 := by
  simp only [numsB, Bool.and_eq_true, inB_iff, List.all_eq_true] at h
  refine ⟨by omega, fun n hn => ?_⟩
  obtain ⟨i, hi, rfl⟩ := List.getElem_of_mem hn
  have := h.1 i (List.mem_range.2 hi)
  simp only [okAt, Bool.and_eq_true, inB_iff] at this
  have e : l.getD i 0 = l[i] := by simp [List.getD, hi]
  rw [e] at this
  exact this.1
theorem may_fits {m : Msg} (hw : m.Wf) (h : mayB m = true) : (1 ≤ m.kind ∧ m.kind ≤ 11) ∧ ∀ g ∈ fieldsM m.kind, (g.get m).slot = g.slot ∧ okVal (g.get m) := by
  simp only [mayB, Bool.and_eq_true, inB_iff] at h
  obtain ⟨hc, hp, -⟩ := h
  have hC : okVal (.num m.client) := ⟨by omega, by omega⟩
  rcases fields_cases m.kind with ⟨k, e⟩ | ⟨k, e⟩ | ⟨k, e⟩ | ⟨k, e⟩ | ⟨k, e⟩ | ⟨k, e⟩ | ⟨k, e⟩ | ⟨k, e⟩ | ⟨k, e⟩ <;> rw [e]
  · refine ⟨by omega, ?_⟩
    simp only [partsB, if_pos k, subB, asksB, Bool.and_eq_true, inB_iff, decide_eq_true_eq] at hp
    intro g hg
    simp only [subFs, List.mem_cons, List.not_mem_nil, or_false] at hg
    rcases hg with rfl | rfl | rfl | rfl | rfl | rfl | rfl
    · exact ⟨rfl, hC⟩
    · exact ⟨rfl, by show _ ≤ m.sub.number; omega, by show m.sub.number ≤ _; omega⟩
    · exact ⟨rfl, by show _ ≤ m.sub.kind; omega, by show m.sub.kind ≤ _; omega⟩
    · exact ⟨rfl, by show _ ≤ m.sub.target; omega, by show m.sub.target ≤ _; omega⟩
    · exact ⟨rfl, by show m.sub.value.length ≤ _; omega⟩
    · exact ⟨rfl, hw.sub.asked⟩
    · exact ⟨rfl, hw.sub.data⟩
  · refine ⟨by omega, ?_⟩
    simp only [partsB, k] at hp
    simp only [show ((2 : Int) = 1) = False by simp, if_false, if_true, repB, chainB, Bool.and_eq_true, inB_iff, decide_eq_true_eq] at hp
    obtain ⟨h1, -, h2, h3, h4, h5, h6, h7, h8⟩ := hp
    have h4' := right_len _ _ h4
    have h5' := right_len _ _ h5
    intro g hg
    simp only [repFs, List.mem_cons, List.not_mem_nil, or_false] at hg
    rcases hg with rfl | rfl | rfl | rfl | rfl | rfl | rfl | rfl | rfl | rfl
    · exact ⟨rfl, by show _ ≤ m.rep.number; omega, by show m.rep.number ≤ _; omega⟩
    · exact ⟨rfl, by show _ ≤ m.rep.last; omega, by show m.rep.last ≤ _; omega⟩
    · exact ⟨rfl, by show m.rep.view.length ≤ _; omega⟩
    · exact ⟨rfl, hw.rep.commit⟩
    · exact ⟨rfl, h6, wf_pens hw.rep h1⟩
    · exact ⟨rfl, by show _ ≤ m.rep.vnum; omega, by show m.rep.vnum ≤ _; omega⟩
    · exact ⟨rfl, by show m.rep.value.length ≤ _; omega⟩
    · exact ⟨rfl, hw.rep.data⟩
    · exact ⟨rfl, by show m.rep.seen.length ≤ _; omega⟩
    · exact ⟨rfl, hw.rep.stag⟩
  · refine ⟨by omega, ?_⟩
    simp only [partsB, k] at hp
    simp only [show ((3 : Int) = 1) = False by simp, show ((3 : Int) = 2) = False by simp, if_false, if_true, viewB, Bool.and_eq_true] at hp
    have h4' := right_len _ _ hp.2
    intro g hg
    simp only [comFs, List.mem_cons, List.not_mem_nil, or_false] at hg
    rcases hg with rfl | rfl | rfl
    · exact ⟨rfl, hC⟩
    · exact ⟨rfl, by show m.view.length ≤ _; omega⟩
    · exact ⟨rfl, hw.tag⟩
  · refine ⟨by omega, ?_⟩
    simp only [partsB, if_neg (by omega : ¬ m.kind = 1), if_neg (by omega : ¬ m.kind = 2), if_neg (by omega : ¬ m.kind = 3), if_pos k, bloB, Bool.and_eq_true, inB_iff, decide_eq_true_eq] at hp
    intro g hg
    simp only [bloFs, List.mem_cons, List.not_mem_nil, or_false] at hg
    rcases hg with rfl | rfl | rfl | rfl
    · exact ⟨rfl, by show _ ≤ m.blob.owner; omega, by show m.blob.owner ≤ _; omega⟩
    · exact ⟨rfl, by show _ ≤ m.blob.number; omega, by show m.blob.number ≤ _; omega⟩
    · exact ⟨rfl, by show m.blob.cipher.length ≤ _; omega⟩
    · exact ⟨rfl, hw.blob.tag⟩
  · refine ⟨by omega, ?_⟩
    simp only [partsB, if_neg (by omega : ¬ m.kind = 1), if_neg (by omega : ¬ m.kind = 2), if_neg (by omega : ¬ m.kind = 3), if_neg (by omega : ¬ (m.kind = 4 ∨ m.kind = 6)), if_pos k] at hp
    obtain ⟨h1, h2⟩ := nums_ok hp
    intro g hg
    simp only [lstFs, List.mem_cons, List.not_mem_nil, or_false] at hg
    rcases hg with rfl | rfl
    · exact ⟨rfl, hC⟩
    · exact ⟨rfl, by show m.nums.length ≤ _; omega, fun n hn => ⟨by have := h2 n hn; omega, by have := h2 n hn; omega⟩⟩
  · refine ⟨by omega, ?_⟩
    intro g hg
    simp only [proFs, List.mem_cons, List.not_mem_nil, or_false] at hg
    subst hg
    exact ⟨rfl, hC⟩
  · refine ⟨by omega, ?_⟩
    simp only [partsB, if_neg (by omega : ¬ m.kind = 1), if_neg (by omega : ¬ m.kind = 2), if_neg (by omega : ¬ m.kind = 3), if_neg (by omega : ¬ (m.kind = 4 ∨ m.kind = 6)), if_neg (by omega : ¬ (m.kind = 5 ∨ m.kind = 7 ∨ m.kind = 8)), if_neg (by omega : ¬ m.kind = 9), if_pos k, viewB, Bool.and_eq_true, inB_iff] at hp
    have h4' := right_len _ _ hp.2.2
    intro g hg
    simp only [verFs, List.mem_cons, List.not_mem_nil, or_false] at hg
    rcases hg with rfl | rfl | rfl | rfl | rfl
    · exact ⟨rfl, hC⟩
    · exact ⟨rfl, by show _ ≤ m.who; omega, by show m.who ≤ _; omega⟩
    · exact ⟨rfl, by show m.view.length ≤ _; omega⟩
    · exact ⟨rfl, hw.tag⟩
    · exact ⟨rfl, hw.own⟩
  · refine ⟨by omega, ?_⟩
    intro g hg
    simp only [alaFs, List.mem_cons, List.not_mem_nil, or_false] at hg
    rcases hg with rfl | rfl
    · exact ⟨rfl, hC⟩
    · exact ⟨rfl, hw.own⟩
  · simp only [partsB, if_neg (by omega : ¬ m.kind = 1), if_neg (by omega : ¬ m.kind = 2), if_neg (by omega : ¬ m.kind = 3), if_neg (by omega : ¬ (m.kind = 4 ∨ m.kind = 6)), if_neg (by omega : ¬ (m.kind = 5 ∨ m.kind = 7 ∨ m.kind = 8)), if_neg (by omega : ¬ m.kind = 9), if_neg (by omega : ¬ m.kind = 10), if_neg (by omega : ¬ m.kind = 11)] at hp
    exact absurd hp Bool.false_ne_true
open Go
set_option maxRecDepth 100000
structure Msg.Rng (m : Msg) : Prop where
  kind : I64 m.kind
  client : I64 m.client
  sn : I64 m.sub.number
  sk : I64 m.sub.kind
  st : I64 m.sub.target
  rn : I64 m.rep.number
  rl : I64 m.rep.last
  rv : I64 m.rep.vnum
  who : I64 m.who
  bo : I64 m.blob.owner
  bn : I64 m.blob.number
  ns : ∀ n ∈ m.nums, I64 n
  ps : ∀ p ∈ m.rep.pend, penOk p
theorem i64_zero : I64 0 := ⟨by decide, by decide⟩
theorem zeroD_len : zeroD.length = 32 := rfl
theorem zeroM_wf (k c : Int) : (zeroM k c).Wf := ⟨⟨rfl, rfl⟩, ⟨rfl, rfl, rfl, fun p hp => by cases hp⟩, rfl, rfl, ⟨rfl⟩⟩
theorem wf_of_ok {p : Pen} (h : penOk p) : p.Wf := ⟨h.asked, h.proof⟩
open Go
set_option maxRecDepth 100000
structure Reg where
  asked : Sub
  ans : Rep
  view : List UInt8
  tag : List UInt8
def zeroG : Reg := ⟨zeroS, zeroR, [], zeroD⟩
structure Rs where
  n : Nat
  regs : List Reg
  long : List UInt8
  ltag : List UInt8
  who : Int
  pend : List Pen
def hasB (n : Nat) (c : Int) : Bool := decide (0 ≤ c) && decide (c < (n : Int))
def Rs.reg (R : Rs) (c : Int) : Reg := R.regs.getD c.toNat zeroG
def subM (c : Int) (x : Sub) : Msg := { zeroM 1 c with sub := x }
def comM (c : Int) (v t : List UInt8) : Msg := { zeroM 3 c with view := v, tag := t }
def by8 (c : Int) : UInt8 := UInt8.ofNat c.toNat
def lastI (v : List UInt8) : Int := bv (v.getD (v.length - 1) 0)
def numR (R : Rs) (c : Int) : Int := if hasB R.n c = true then (R.reg c).asked.number else 0
theorem by8_val (c : Int) (h : 0 ≤ c ∧ c < 256) : bv (by8 c) = c := by
  unfold bv by8
  rw [UInt8.toNat_ofNat']
  omega
open Go Go.RowKit
set_option maxRecDepth 100000
theorem bv_eq (a b : UInt8) : (bv a == bv b) = decide (a = b) := by
  unfold bv
  by_cases h : a = b
  · subst h; simp
  · have : ¬ a.toNat = b.toNat := fun e => h (UInt8.toNat_inj.1 e)
    simp [h]; omega
theorem cb_at (b : List UInt8) (i : Nat) (hi : i < b.length) : (dg b)[i]? = some (.int .u8 (bv (b.getD i 0))) := by
  simp [dg, List.getD, cb, List.getElem?_eq_getElem hi]
theorem eqItems_bytes {P : Program} (w : World) (e : TypeId) (k : IntKind) (he : P.underlying e = some (.int k)) (x y : List UInt8) (d : Nat) : ∀ is : List Nat, (∀ i ∈ is, i < x.length ∧ i < y.length) →
    (Op.eqItems (d + 1) e 1 (dg x).toArray (dg y).toArray is).run P w = .ok (decide (∀ i ∈ is, x.getD i 0 = y.getD i 0)) w
  | [], _ => by simp [Op.eqItems]
  | i :: is, h => by
    have hx : ((dg x).toArray)[i * 1]? = some (.int .u8 (bv (x.getD i 0))) := by
      rw [Nat.mul_one, List.getElem?_toArray]; exact cb_at x i (h i (by simp)).1
    have hy : ((dg y).toArray)[i * 1]? = some (.int .u8 (bv (y.getD i 0))) := by
      rw [Nat.mul_one, List.getElem?_toArray]; exact cb_at y i (h i (by simp)).2
    have hagg : (isAgg e).run P w = .ok false w := by
      unfold isAgg
      rw [Sem.run_bind, run_underlying he w]
      simp
    have px : (part e (dg x).toArray (i * 1)).run P w = .ok (.int .u8 (bv (x.getD i 0))) w := by
      unfold part
      rw [Sem.run_bind, hagg]
      simp only [Result.andThen_ok, Bool.false_eq_true, if_false, hx, Sem.run_pure]
    have py : (part e (dg y).toArray (i * 1)).run P w = .ok (.int .u8 (bv (y.getD i 0))) w := by
      unfold part
      rw [Sem.run_bind, hagg]
      simp only [Result.andThen_ok, Bool.false_eq_true, if_false, hy, Sem.run_pure]
    have pe : (Op.equalIn (d + 1) e (.int .u8 (bv (x.getD i 0))) (.int .u8 (bv (y.getD i 0)))).run P w = .ok (decide (x.getD i 0 = y.getD i 0)) w := by
      unfold Op.equalIn
      rw [Sem.run_bind, run_underlying he w]
      simp only [Result.andThen_ok, if_true, Sem.run_pure, bv_eq]
    have ih := eqItems_bytes w e k he x y d is (fun j hj => h j (by simp [hj]))
    unfold Op.eqItems
    simp only [Sem.run_bind, px, py, pe, Result.andThen_ok]
    by_cases hh : x.getD i 0 = y.getD i 0
    · simp only [hh, decide_true, Bool.not_true, Bool.false_eq_true, if_false, ih, List.forall_mem_cons, true_and]
    · simp only [hh, decide_false, Bool.not_false, if_true, List.forall_mem_cons, false_and, Sem.run_pure]
theorem same_all (x y : List UInt8) (n : Nat) (hx : x.length = n) (hy : y.length = n) : (∀ i ∈ List.range n, x.getD i 0 = y.getD i 0) ↔ x = y := by
  constructor
  · intro h
    apply List.ext_getElem (by omega)
    intro i h1 h2
    have := h i (by simp; omega)
    simpa [List.getD, List.getElem?_eq_getElem h1, List.getElem?_eq_getElem h2] using this
  · rintro rfl i _; rfl
theorem equalIn_dig (w : World) (d : Nat) (x y : List UInt8) (hx : x.length = 32) (hy : y.length = 32) :
    (Op.equalIn (d + 2) 23 (.agg (dg x).toArray) (.agg (dg y).toArray)).run Tryz.prog w = .ok (x == y) w := by
  have hs : (Tryz.prog.info? 5).map (·.size) = some 1 := by kernel_rfl
  cases hq : Tryz.prog.info? 5 with
  | none => simp [hq] at hs
  | some i =>
    have hi : i.size = 1 := by simpa [hq] using hs
    have hc : Tryz.prog.cellsOf 5 = 1 := by simp [Program.cellsOf, hq, hi]
    rw [run_equalIn_array w (d + 1) _ _ Tryz.underlying23 hq, hc, eqItems_bytes w 5 _ Tryz.underlying5 x y d _ (by intro j hj; simp at hj; omega)]
    simp only [same_all x y 32 hx hy]
    by_cases e : x = y <;> simp [e]
theorem part_cell {P : Program} (w : World) (t : TypeId) (d : TypeDesc) (cs : Array Value) (off : Nat) (v : Value) (hu : P.underlying t = some d) (hd : (match d with | .struct _ | .array _ _ => true | _ => false) = false) (hv : cs[off]? = some v) :
    (part t cs off).run P w = .ok v w := by
  have hagg : (isAgg t).run P w = .ok false w := by
    unfold isAgg
    rw [Sem.run_bind, run_underlying hu w]
    cases d <;> simp_all
  unfold part
  rw [Sem.run_bind, hagg]
  simp only [Result.andThen_ok, Bool.false_eq_true, if_false, hv, Sem.run_pure]
theorem part_seg {P : Program} (w : World) (t : TypeId) (d : TypeDesc) (A cs C : List Value) (off : Nat) (hA : A.length = off) (hu : P.underlying t = some d) (hd : (match d with | .struct _ | .array _ _ => true | _ => false) = true) (hs : (P.info? t).map (·.size) = some cs.length) :
    (part t (A ++ (cs ++ C)).toArray off).run P w = .ok (.agg cs.toArray) w := by
  have hagg : (isAgg t).run P w = .ok true w := by
    unfold isAgg
    rw [Sem.run_bind, run_underlying hu w]
    cases d <;> simp_all
  cases hq : P.info? t with
  | none => simp [hq] at hs
  | some i =>
    have hi : i.size = cs.length := by simpa [hq] using hs
    unfold part
    rw [Sem.run_bind, hagg]
    simp only [Result.andThen_ok, if_true, Sem.run_bind, sizeOf, typeInfo]
    simp [hq, hi]
    subst hA
    simp
def EachEq (P : Program) (w : World) (d : Nat) (xs ys : Array Value) : List Field → List Bool → Prop
  | [], [] => True
  | f :: fs, b :: bs => (f.name ≠ "_" ∧ ∃ a c, (part f.type xs f.offset).run P w = .ok a w ∧ (part f.type ys f.offset).run P w = .ok c w ∧ (Op.equalIn d f.type a c).run P w = .ok b w) ∧ EachEq P w d xs ys fs bs
  | _, _ => False
theorem eqFields_run {P : Program} (w : World) (d : Nat) (xs ys : Array Value) : ∀ (fs : List Field) (bs : List Bool), EachEq P w d xs ys fs bs → (Op.eqFields d xs ys fs).run P w = .ok (bs.all id) w
  | [], [], _ => by simp [Op.eqFields]
  | [], _ :: _, h => h.elim
  | _ :: _, [], h => h.elim
  | f :: fs, b :: bs, ⟨⟨hn, a, c, h1, h2, h3⟩, ht⟩ => by
    have ih := eqFields_run w d xs ys fs bs ht
    unfold Op.eqFields
    rw [if_pos hn]
    simp only [Sem.run_bind, h1, h2, h3, Result.andThen_ok]
    cases b
    · simp
    · simp [ih]
theorem sizeDig : (Tryz.prog.info? 23).map (·.size) = some 32 := by kernel_rfl
theorem part_int (w : World) (cs : List Value) (off : Nat) (n : Int) (h : cs[off]? = some (nu n)) : (part 3 cs.toArray off).run Tryz.prog w = .ok (nu n) w := part_cell w 3 _ _ off _ Tryz.underlying3 rfl (by simpa using h)
theorem part_str (w : World) (cs : List Value) (off : Nat) (s : List UInt8) (h : cs[off]? = some (st s)) : (part 9 cs.toArray off).run Tryz.prog w = .ok (st s) w := part_cell w 9 _ _ off _ Tryz.underlying9 rfl (by simpa using h)
theorem part_dig (w : World) (L A C : List Value) (x : List UInt8) (off : Nat) (hx : x.length = 32) (hL : L = A ++ (dg x ++ C)) (hA : A.length = off) : (part 23 L.toArray off).run Tryz.prog w = .ok (.agg (dg x).toArray) w := by
  subst hL
  exact part_seg w _ _ A (dg x) C off hA Tryz.underlying23 rfl (by rw [dg_len, hx]; exact sizeDig)
theorem equalIn_int (w : World) (d : Nat) (a b : Int) : (Op.equalIn (d + 1) 3 (nu a) (nu b)).run Tryz.prog w = .ok (a == b) w := run_equalIn_int w d 3 _ _ a b Tryz.underlying3
theorem equalIn_str (w : World) (d : Nat) (a b : List UInt8) : (Op.equalIn (d + 1) 9 (st a) (st b)).run Tryz.prog w = .ok (a == b) w := by
  unfold st
  rw [run_equalIn_string w d 9 _ _ Tryz.underlying9, ByteArray.toList_eq, ByteArray.toList_eq]
theorem equal_sub (w : World) (a b : Sub) (ha : a.Wf) (hb : b.Wf) : (Op.equalIn 10000 25 (.agg (subC a).toArray) (.agg (subC b).toArray)).run Tryz.prog w = .ok (sameS a b) w := by
  rw [show (10000 : Nat) = 9997 + 2 + 1 from rfl, run_equalIn_struct w (9997 + 2) 25 _ _ (by kernel_rfl) (by kernel_rfl)]
  rw [eqFields_run w (9997 + 2) _ _ _ [a.number == b.number, a.kind == b.kind, a.target == b.target, a.value == b.value, a.asked == b.asked, a.data == b.data] ?_]
  · simp [sameS]
  · simp only [Program.fieldsOf, Tryz.underlying25]
    refine ⟨⟨by decide, _, _, part_int w _ 0 a.number rfl, part_int w _ 0 b.number rfl, equalIn_int w _ _ _⟩, ⟨by decide, _, _, part_int w _ 1 a.kind rfl, part_int w _ 1 b.kind rfl, equalIn_int w _ _ _⟩, ⟨by decide, _, _, part_int w _ 2 a.target rfl, part_int w _ 2 b.target rfl, equalIn_int w _ _ _⟩,
      ⟨by decide, _, _, part_str w _ 3 a.value rfl, part_str w _ 3 b.value rfl, equalIn_str w _ _ _⟩, ⟨by decide, _, _, part_dig w _ _ (dg a.data) a.asked 4 ha.asked rfl rfl, part_dig w _ _ (dg b.data) b.asked 4 hb.asked rfl rfl, equalIn_dig w _ _ _ ha.asked hb.asked⟩,
      ⟨by decide, _, _, part_dig w _ ([nu a.number, nu a.kind, nu a.target, st a.value] ++ dg a.asked) [] a.data 36 ha.data (by simp [subC]) (by simp [dg_len, ha.asked]), part_dig w _ ([nu b.number, nu b.kind, nu b.target, st b.value] ++ dg b.asked) [] b.data 36 hb.data (by simp [subC]) (by simp [dg_len, hb.asked]), equalIn_dig w _ _ _ ha.data hb.data⟩, trivial⟩
theorem equal_pen (w : World) (a b : Pen) (ha : a.Wf) (hb : b.Wf) : (Op.equalIn 10000 32 (.agg (penC a).toArray) (.agg (penC b).toArray)).run Tryz.prog w = .ok (sameP a b) w := by
  rw [show (10000 : Nat) = 9997 + 2 + 1 from rfl, run_equalIn_struct w (9997 + 2) 32 _ _ (by kernel_rfl) (by kernel_rfl)]
  rw [eqFields_run w (9997 + 2) _ _ _ [a.client == b.client, a.number == b.number, a.kind == b.kind, a.target == b.target, a.asked == b.asked, a.proof == b.proof] ?_]
  · simp [sameP]
  · simp only [Program.fieldsOf, Tryz.underlying32]
    refine ⟨⟨by decide, _, _, part_int w _ 0 a.client rfl, part_int w _ 0 b.client rfl, equalIn_int w _ _ _⟩, ⟨by decide, _, _, part_int w _ 1 a.number rfl, part_int w _ 1 b.number rfl, equalIn_int w _ _ _⟩, ⟨by decide, _, _, part_int w _ 2 a.kind rfl, part_int w _ 2 b.kind rfl, equalIn_int w _ _ _⟩,
      ⟨by decide, _, _, part_int w _ 3 a.target rfl, part_int w _ 3 b.target rfl, equalIn_int w _ _ _⟩, ⟨by decide, _, _, part_dig w _ _ (dg a.proof) a.asked 4 ha.asked rfl rfl, part_dig w _ _ (dg b.proof) b.asked 4 hb.asked rfl rfl, equalIn_dig w _ _ _ ha.asked hb.asked⟩,
      ⟨by decide, _, _, part_dig w _ ([nu a.client, nu a.number, nu a.kind, nu a.target] ++ dg a.asked) [] a.proof 36 ha.proof (by simp [penC]) (by simp [dg_len, ha.asked]), part_dig w _ ([nu b.client, nu b.number, nu b.kind, nu b.target] ++ dg b.asked) [] b.proof 36 hb.proof (by simp [penC]) (by simp [dg_len, hb.asked]), equalIn_dig w _ _ _ ha.proof hb.proof⟩, trivial⟩
theorem equal_blo (w : World) (a b : Blo) (ha : a.Wf) (hb : b.Wf) : (Op.equalIn 10000 94 (.agg (bloC a).toArray) (.agg (bloC b).toArray)).run Tryz.prog w = .ok (sameB a b) w := by
  rw [show (10000 : Nat) = 9997 + 2 + 1 from rfl, run_equalIn_struct w (9997 + 2) 94 _ _ (by kernel_rfl) (by kernel_rfl)]
  rw [eqFields_run w (9997 + 2) _ _ _ [a.owner == b.owner, a.number == b.number, a.cipher == b.cipher, a.tag == b.tag] ?_]
  · simp [sameB]
  · simp only [Program.fieldsOf, Tryz.underlying94]
    refine ⟨⟨by decide, _, _, part_int w _ 0 a.owner rfl, part_int w _ 0 b.owner rfl, equalIn_int w _ _ _⟩, ⟨by decide, _, _, part_int w _ 1 a.number rfl, part_int w _ 1 b.number rfl, equalIn_int w _ _ _⟩,
      ⟨by decide, _, _, part_str w _ 2 a.cipher rfl, part_str w _ 2 b.cipher rfl, equalIn_str w _ _ _⟩, ⟨by decide, _, _, part_dig w _ [nu a.owner, nu a.number, st a.cipher] [] a.tag 3 ha.tag (by simp [bloC]) rfl, part_dig w _ [nu b.owner, nu b.number, st b.cipher] [] b.tag 3 hb.tag (by simp [bloC]) rfl, equalIn_dig w _ _ _ ha.tag hb.tag⟩, trivial⟩
theorem equal_dig (w : World) (a b : List UInt8) (ha : a.length = 32) (hb : b.length = 32) : (Op.equalIn 10000 23 (.agg (dg a).toArray) (.agg (dg b).toArray)).run Tryz.prog w = .ok (a == b) w := equalIn_dig w 9998 a b ha hb
open Go Go.RowKit
set_option maxRecDepth 100000
theorem row_seg {w : World} {g : Nat} {L A cs C : List Value} {t : TypeId} {off : Nat} (h : w.heap[g]? = some (.cells L.toArray t)) (hL : L = A ++ (cs ++ C)) (hA : A.length = off) : ∀ j v, cs[j]? = some v → w.cell? ⟨g, off + j, none⟩ = some v := by
  intro j v hj
  rw [cell_of_row _ _ _ _ _ _ h, List.getElem?_toArray, hL]
  exact mid_at A cs C off j v hA hj
theorem row_cell {w : World} {g : Nat} {L A C : List Value} {v : Value} {t : TypeId} {off : Nat} (h : w.heap[g]? = some (.cells L.toArray t)) (hL : L = A ++ ([v] ++ C)) (hA : A.length = off) : w.cell? ⟨g, off, none⟩ = some v := row_seg h hL hA 0 v rfl
theorem mrow_kind {w : World} {g : Nat} {m : Msg} {vP vN : Value} (h : w.heap[g]? = some (.cells (msgC m vP vN).toArray 97)) (_ : m.Wf) : w.cell? ⟨g, 0, none⟩ = some (nu m.kind) := row_cell (A := []) (C := [nu m.client] ++ ([nu m.sub.number] ++ ([nu m.sub.kind] ++ ([nu m.sub.target] ++ ([st m.sub.value] ++ (dg m.sub.asked ++ (dg m.sub.data ++ ([nu m.rep.number] ++ ([nu m.rep.last] ++ ([st m.rep.view] ++ (dg m.rep.commit ++ ([vP] ++ ([nu m.rep.vnum] ++ ([st m.rep.value] ++ (dg m.rep.data ++ ([st m.rep.seen] ++ (dg m.rep.stag ++ ([st m.view] ++ ([nu m.who] ++ (dg m.tag ++ (dg m.own ++ ([nu m.blob.owner] ++ ([nu m.blob.number] ++ ([st m.blob.cipher] ++ (dg m.blob.tag ++ ([vN])))))))))))))))))))))))))) h (by simp [msgC, subC, repC, bloC]) rfl
theorem mrow_client {w : World} {g : Nat} {m : Msg} {vP vN : Value} (h : w.heap[g]? = some (.cells (msgC m vP vN).toArray 97)) (_ : m.Wf) : w.cell? ⟨g, 1, none⟩ = some (nu m.client) := row_cell (A := [nu m.kind]) (C := [nu m.sub.number] ++ ([nu m.sub.kind] ++ ([nu m.sub.target] ++ ([st m.sub.value] ++ (dg m.sub.asked ++ (dg m.sub.data ++ ([nu m.rep.number] ++ ([nu m.rep.last] ++ ([st m.rep.view] ++ (dg m.rep.commit ++ ([vP] ++ ([nu m.rep.vnum] ++ ([st m.rep.value] ++ (dg m.rep.data ++ ([st m.rep.seen] ++ (dg m.rep.stag ++ ([st m.view] ++ ([nu m.who] ++ (dg m.tag ++ (dg m.own ++ ([nu m.blob.owner] ++ ([nu m.blob.number] ++ ([st m.blob.cipher] ++ (dg m.blob.tag ++ ([vN]))))))))))))))))))))))))) h (by simp [msgC, subC, repC, bloC]) rfl
theorem mrow_rep_number {w : World} {g : Nat} {m : Msg} {vP vN : Value} (h : w.heap[g]? = some (.cells (msgC m vP vN).toArray 97)) (hw : m.Wf) : w.cell? ⟨g, 70, none⟩ = some (nu m.rep.number) := row_cell (A := [nu m.kind] ++ ([nu m.client] ++ ([nu m.sub.number] ++ ([nu m.sub.kind] ++ ([nu m.sub.target] ++ ([st m.sub.value] ++ (dg m.sub.asked ++ (dg m.sub.data)))))))) (C := [nu m.rep.last] ++ ([st m.rep.view] ++ (dg m.rep.commit ++ ([vP] ++ ([nu m.rep.vnum] ++ ([st m.rep.value] ++ (dg m.rep.data ++ ([st m.rep.seen] ++ (dg m.rep.stag ++ ([st m.view] ++ ([nu m.who] ++ (dg m.tag ++ (dg m.own ++ ([nu m.blob.owner] ++ ([nu m.blob.number] ++ ([st m.blob.cipher] ++ (dg m.blob.tag ++ ([vN])))))))))))))))))) h (by simp [msgC, subC, repC, bloC]) (by simp [dg_len, hw.sub.asked, hw.sub.data])
theorem mrow_view {w : World} {g : Nat} {m : Msg} {vP vN : Value} (h : w.heap[g]? = some (.cells (msgC m vP vN).toArray 97)) (hw : m.Wf) : w.cell? ⟨g, 173, none⟩ = some (st m.view) := row_cell (A := [nu m.kind] ++ ([nu m.client] ++ ([nu m.sub.number] ++ ([nu m.sub.kind] ++ ([nu m.sub.target] ++ ([st m.sub.value] ++ (dg m.sub.asked ++ (dg m.sub.data ++ ([nu m.rep.number] ++ ([nu m.rep.last] ++ ([st m.rep.view] ++ (dg m.rep.commit ++ ([vP] ++ ([nu m.rep.vnum] ++ ([st m.rep.value] ++ (dg m.rep.data ++ ([st m.rep.seen] ++ (dg m.rep.stag)))))))))))))))))) (C := [nu m.who] ++ (dg m.tag ++ (dg m.own ++ ([nu m.blob.owner] ++ ([nu m.blob.number] ++ ([st m.blob.cipher] ++ (dg m.blob.tag ++ ([vN])))))))) h (by simp [msgC, subC, repC, bloC]) (by simp [dg_len, hw.sub.asked, hw.sub.data, hw.rep.commit, hw.rep.data, hw.rep.stag])
theorem mrow_who {w : World} {g : Nat} {m : Msg} {vP vN : Value} (h : w.heap[g]? = some (.cells (msgC m vP vN).toArray 97)) (hw : m.Wf) : w.cell? ⟨g, 174, none⟩ = some (nu m.who) := row_cell (A := [nu m.kind] ++ ([nu m.client] ++ ([nu m.sub.number] ++ ([nu m.sub.kind] ++ ([nu m.sub.target] ++ ([st m.sub.value] ++ (dg m.sub.asked ++ (dg m.sub.data ++ ([nu m.rep.number] ++ ([nu m.rep.last] ++ ([st m.rep.view] ++ (dg m.rep.commit ++ ([vP] ++ ([nu m.rep.vnum] ++ ([st m.rep.value] ++ (dg m.rep.data ++ ([st m.rep.seen] ++ (dg m.rep.stag ++ ([st m.view]))))))))))))))))))) (C := dg m.tag ++ (dg m.own ++ ([nu m.blob.owner] ++ ([nu m.blob.number] ++ ([st m.blob.cipher] ++ (dg m.blob.tag ++ ([vN]))))))) h (by simp [msgC, subC, repC, bloC]) (by simp [dg_len, hw.sub.asked, hw.sub.data, hw.rep.commit, hw.rep.data, hw.rep.stag])
theorem mrow_tag {w : World} {g : Nat} {m : Msg} {vP vN : Value} (h : w.heap[g]? = some (.cells (msgC m vP vN).toArray 97)) (hw : m.Wf) : ∀ j v, (dg m.tag)[j]? = some v → w.cell? ⟨g, 175 + j, none⟩ = some v := row_seg (A := [nu m.kind] ++ ([nu m.client] ++ ([nu m.sub.number] ++ ([nu m.sub.kind] ++ ([nu m.sub.target] ++ ([st m.sub.value] ++ (dg m.sub.asked ++ (dg m.sub.data ++ ([nu m.rep.number] ++ ([nu m.rep.last] ++ ([st m.rep.view] ++ (dg m.rep.commit ++ ([vP] ++ ([nu m.rep.vnum] ++ ([st m.rep.value] ++ (dg m.rep.data ++ ([st m.rep.seen] ++ (dg m.rep.stag ++ ([st m.view] ++ ([nu m.who])))))))))))))))))))) (C := dg m.own ++ ([nu m.blob.owner] ++ ([nu m.blob.number] ++ ([st m.blob.cipher] ++ (dg m.blob.tag ++ ([vN])))))) h (by simp [msgC, subC, repC, bloC]) (by simp [dg_len, hw.sub.asked, hw.sub.data, hw.rep.commit, hw.rep.data, hw.rep.stag])
theorem mrow_own {w : World} {g : Nat} {m : Msg} {vP vN : Value} (h : w.heap[g]? = some (.cells (msgC m vP vN).toArray 97)) (hw : m.Wf) : ∀ j v, (dg m.own)[j]? = some v → w.cell? ⟨g, 207 + j, none⟩ = some v := row_seg (A := [nu m.kind] ++ ([nu m.client] ++ ([nu m.sub.number] ++ ([nu m.sub.kind] ++ ([nu m.sub.target] ++ ([st m.sub.value] ++ (dg m.sub.asked ++ (dg m.sub.data ++ ([nu m.rep.number] ++ ([nu m.rep.last] ++ ([st m.rep.view] ++ (dg m.rep.commit ++ ([vP] ++ ([nu m.rep.vnum] ++ ([st m.rep.value] ++ (dg m.rep.data ++ ([st m.rep.seen] ++ (dg m.rep.stag ++ ([st m.view] ++ ([nu m.who] ++ (dg m.tag))))))))))))))))))))) (C := [nu m.blob.owner] ++ ([nu m.blob.number] ++ ([st m.blob.cipher] ++ (dg m.blob.tag ++ ([vN]))))) h (by simp [msgC, subC, repC, bloC]) (by simp [dg_len, hw.sub.asked, hw.sub.data, hw.rep.commit, hw.rep.data, hw.rep.stag, hw.tag])
theorem mrow_nums {w : World} {g : Nat} {m : Msg} {vP vN : Value} (h : w.heap[g]? = some (.cells (msgC m vP vN).toArray 97)) (hw : m.Wf) : w.cell? ⟨g, 274, none⟩ = some (vN) := row_cell (A := [nu m.kind] ++ ([nu m.client] ++ ([nu m.sub.number] ++ ([nu m.sub.kind] ++ ([nu m.sub.target] ++ ([st m.sub.value] ++ (dg m.sub.asked ++ (dg m.sub.data ++ ([nu m.rep.number] ++ ([nu m.rep.last] ++ ([st m.rep.view] ++ (dg m.rep.commit ++ ([vP] ++ ([nu m.rep.vnum] ++ ([st m.rep.value] ++ (dg m.rep.data ++ ([st m.rep.seen] ++ (dg m.rep.stag ++ ([st m.view] ++ ([nu m.who] ++ (dg m.tag ++ (dg m.own ++ ([nu m.blob.owner] ++ ([nu m.blob.number] ++ ([st m.blob.cipher] ++ (dg m.blob.tag)))))))))))))))))))))))))) (C := []) h (by simp [msgC, subC, repC, bloC]) (by simp [dg_len, hw.sub.asked, hw.sub.data, hw.rep.commit, hw.rep.data, hw.rep.stag, hw.tag, hw.own, hw.blob.tag])
theorem mrow_sub {w : World} {g : Nat} {m : Msg} {vP vN : Value} (h : w.heap[g]? = some (.cells (msgC m vP vN).toArray 97)) (_ : m.Wf) : ∀ j v, (subC m.sub)[j]? = some v → w.cell? ⟨g, 2 + j, none⟩ = some v := row_seg (A := [nu m.kind] ++ ([nu m.client])) (C := [nu m.rep.number] ++ ([nu m.rep.last] ++ ([st m.rep.view] ++ (dg m.rep.commit ++ ([vP] ++ ([nu m.rep.vnum] ++ ([st m.rep.value] ++ (dg m.rep.data ++ ([st m.rep.seen] ++ (dg m.rep.stag ++ ([st m.view] ++ ([nu m.who] ++ (dg m.tag ++ (dg m.own ++ ([nu m.blob.owner] ++ ([nu m.blob.number] ++ ([st m.blob.cipher] ++ (dg m.blob.tag ++ ([vN]))))))))))))))))))) h (by simp [msgC, subC, repC, bloC]) rfl
theorem mrow_rep {w : World} {g : Nat} {m : Msg} {vP vN : Value} (h : w.heap[g]? = some (.cells (msgC m vP vN).toArray 97)) (hw : m.Wf) : ∀ j v, (repC m.rep vP)[j]? = some v → w.cell? ⟨g, 70 + j, none⟩ = some v := row_seg (A := [nu m.kind] ++ ([nu m.client] ++ ([nu m.sub.number] ++ ([nu m.sub.kind] ++ ([nu m.sub.target] ++ ([st m.sub.value] ++ (dg m.sub.asked ++ (dg m.sub.data)))))))) (C := [st m.view] ++ ([nu m.who] ++ (dg m.tag ++ (dg m.own ++ ([nu m.blob.owner] ++ ([nu m.blob.number] ++ ([st m.blob.cipher] ++ (dg m.blob.tag ++ ([vN]))))))))) h (by simp [msgC, subC, repC, bloC]) (by simp [dg_len, hw.sub.asked, hw.sub.data])
theorem mrow_blob {w : World} {g : Nat} {m : Msg} {vP vN : Value} (h : w.heap[g]? = some (.cells (msgC m vP vN).toArray 97)) (hw : m.Wf) : ∀ j v, (bloC m.blob)[j]? = some v → w.cell? ⟨g, 239 + j, none⟩ = some v := row_seg (A := [nu m.kind] ++ ([nu m.client] ++ ([nu m.sub.number] ++ ([nu m.sub.kind] ++ ([nu m.sub.target] ++ ([st m.sub.value] ++ (dg m.sub.asked ++ (dg m.sub.data ++ ([nu m.rep.number] ++ ([nu m.rep.last] ++ ([st m.rep.view] ++ (dg m.rep.commit ++ ([vP] ++ ([nu m.rep.vnum] ++ ([st m.rep.value] ++ (dg m.rep.data ++ ([st m.rep.seen] ++ (dg m.rep.stag ++ ([st m.view] ++ ([nu m.who] ++ (dg m.tag ++ (dg m.own)))))))))))))))))))))) (C := [vN]) h (by simp [msgC, subC, repC, bloC]) (by simp [dg_len, hw.sub.asked, hw.sub.data, hw.rep.commit, hw.rep.data, hw.rep.stag, hw.tag, hw.own])
theorem rrow_number {w : World} {g : Nat} {x : Rep} {vP : Value} (h : w.heap[g]? = some (.cells (repC x vP).toArray 28)) (_ : x.Wf) : w.cell? ⟨g, 0, none⟩ = some (nu x.number) := row_cell (A := []) (C := [nu x.last] ++ ([st x.view] ++ (dg x.commit ++ ([vP] ++ ([nu x.vnum] ++ ([st x.value] ++ (dg x.data ++ ([st x.seen] ++ (dg x.stag))))))))) h (by simp [repC]) rfl
theorem rrow_last {w : World} {g : Nat} {x : Rep} {vP : Value} (h : w.heap[g]? = some (.cells (repC x vP).toArray 28)) (_ : x.Wf) : w.cell? ⟨g, 1, none⟩ = some (nu x.last) := row_cell (A := [nu x.number]) (C := [st x.view] ++ (dg x.commit ++ ([vP] ++ ([nu x.vnum] ++ ([st x.value] ++ (dg x.data ++ ([st x.seen] ++ (dg x.stag)))))))) h (by simp [repC]) rfl
theorem rrow_view {w : World} {g : Nat} {x : Rep} {vP : Value} (h : w.heap[g]? = some (.cells (repC x vP).toArray 28)) (_ : x.Wf) : w.cell? ⟨g, 2, none⟩ = some (st x.view) := row_cell (A := [nu x.number] ++ ([nu x.last])) (C := dg x.commit ++ ([vP] ++ ([nu x.vnum] ++ ([st x.value] ++ (dg x.data ++ ([st x.seen] ++ (dg x.stag))))))) h (by simp [repC]) rfl
theorem rrow_commit {w : World} {g : Nat} {x : Rep} {vP : Value} (h : w.heap[g]? = some (.cells (repC x vP).toArray 28)) (_ : x.Wf) : ∀ j v, (dg x.commit)[j]? = some v → w.cell? ⟨g, 3 + j, none⟩ = some v := row_seg (A := [nu x.number] ++ ([nu x.last] ++ ([st x.view]))) (C := [vP] ++ ([nu x.vnum] ++ ([st x.value] ++ (dg x.data ++ ([st x.seen] ++ (dg x.stag)))))) h (by simp [repC]) rfl
theorem rrow_P {w : World} {g : Nat} {x : Rep} {vP : Value} (h : w.heap[g]? = some (.cells (repC x vP).toArray 28)) (hw : x.Wf) : w.cell? ⟨g, 35, none⟩ = some (vP) := row_cell (A := [nu x.number] ++ ([nu x.last] ++ ([st x.view] ++ (dg x.commit)))) (C := [nu x.vnum] ++ ([st x.value] ++ (dg x.data ++ ([st x.seen] ++ (dg x.stag))))) h (by simp [repC]) (by simp [dg_len, hw.commit])
theorem rrow_vnum {w : World} {g : Nat} {x : Rep} {vP : Value} (h : w.heap[g]? = some (.cells (repC x vP).toArray 28)) (hw : x.Wf) : w.cell? ⟨g, 36, none⟩ = some (nu x.vnum) := row_cell (A := [nu x.number] ++ ([nu x.last] ++ ([st x.view] ++ (dg x.commit ++ ([vP]))))) (C := [st x.value] ++ (dg x.data ++ ([st x.seen] ++ (dg x.stag)))) h (by simp [repC]) (by simp [dg_len, hw.commit])
theorem rrow_value {w : World} {g : Nat} {x : Rep} {vP : Value} (h : w.heap[g]? = some (.cells (repC x vP).toArray 28)) (hw : x.Wf) : w.cell? ⟨g, 37, none⟩ = some (st x.value) := row_cell (A := [nu x.number] ++ ([nu x.last] ++ ([st x.view] ++ (dg x.commit ++ ([vP] ++ ([nu x.vnum])))))) (C := dg x.data ++ ([st x.seen] ++ (dg x.stag))) h (by simp [repC]) (by simp [dg_len, hw.commit])
theorem rrow_data {w : World} {g : Nat} {x : Rep} {vP : Value} (h : w.heap[g]? = some (.cells (repC x vP).toArray 28)) (hw : x.Wf) : ∀ j v, (dg x.data)[j]? = some v → w.cell? ⟨g, 38 + j, none⟩ = some v := row_seg (A := [nu x.number] ++ ([nu x.last] ++ ([st x.view] ++ (dg x.commit ++ ([vP] ++ ([nu x.vnum] ++ ([st x.value]))))))) (C := [st x.seen] ++ (dg x.stag)) h (by simp [repC]) (by simp [dg_len, hw.commit])
theorem rrow_seen {w : World} {g : Nat} {x : Rep} {vP : Value} (h : w.heap[g]? = some (.cells (repC x vP).toArray 28)) (hw : x.Wf) : w.cell? ⟨g, 70, none⟩ = some (st x.seen) := row_cell (A := [nu x.number] ++ ([nu x.last] ++ ([st x.view] ++ (dg x.commit ++ ([vP] ++ ([nu x.vnum] ++ ([st x.value] ++ (dg x.data)))))))) (C := dg x.stag) h (by simp [repC]) (by simp [dg_len, hw.commit, hw.data])
theorem rrow_stag {w : World} {g : Nat} {x : Rep} {vP : Value} (h : w.heap[g]? = some (.cells (repC x vP).toArray 28)) (hw : x.Wf) : ∀ j v, (dg x.stag)[j]? = some v → w.cell? ⟨g, 71 + j, none⟩ = some v := row_seg (A := [nu x.number] ++ ([nu x.last] ++ ([st x.view] ++ (dg x.commit ++ ([vP] ++ ([nu x.vnum] ++ ([st x.value] ++ (dg x.data ++ ([st x.seen]))))))))) (C := []) h (by simp [repC]) (by simp [dg_len, hw.commit, hw.data])
theorem prow_client {w : World} {g : Nat} {x : Pen} (h : w.heap[g]? = some (.cells (penC x).toArray 32)) (_ : x.Wf) : w.cell? ⟨g, 0, none⟩ = some (nu x.client) := row_cell (A := []) (C := [nu x.number] ++ ([nu x.kind] ++ ([nu x.target] ++ (dg x.asked ++ (dg x.proof))))) h (by simp [penC]) rfl
theorem prow_number {w : World} {g : Nat} {x : Pen} (h : w.heap[g]? = some (.cells (penC x).toArray 32)) (_ : x.Wf) : w.cell? ⟨g, 1, none⟩ = some (nu x.number) := row_cell (A := [nu x.client]) (C := [nu x.kind] ++ ([nu x.target] ++ (dg x.asked ++ (dg x.proof)))) h (by simp [penC]) rfl
theorem prow_kind {w : World} {g : Nat} {x : Pen} (h : w.heap[g]? = some (.cells (penC x).toArray 32)) (_ : x.Wf) : w.cell? ⟨g, 2, none⟩ = some (nu x.kind) := row_cell (A := [nu x.client] ++ ([nu x.number])) (C := [nu x.target] ++ (dg x.asked ++ (dg x.proof))) h (by simp [penC]) rfl
theorem prow_target {w : World} {g : Nat} {x : Pen} (h : w.heap[g]? = some (.cells (penC x).toArray 32)) (_ : x.Wf) : w.cell? ⟨g, 3, none⟩ = some (nu x.target) := row_cell (A := [nu x.client] ++ ([nu x.number] ++ ([nu x.kind]))) (C := dg x.asked ++ (dg x.proof)) h (by simp [penC]) rfl
theorem srow_number {w : World} {g : Nat} {x : Sub} (h : w.heap[g]? = some (.cells (subC x).toArray 25)) (_ : x.Wf) : w.cell? ⟨g, 0, none⟩ = some (nu x.number) := row_cell (A := []) (C := [nu x.kind] ++ ([nu x.target] ++ ([st x.value] ++ (dg x.asked ++ (dg x.data))))) h (by simp [subC]) rfl
theorem srow_kind {w : World} {g : Nat} {x : Sub} (h : w.heap[g]? = some (.cells (subC x).toArray 25)) (_ : x.Wf) : w.cell? ⟨g, 1, none⟩ = some (nu x.kind) := row_cell (A := [nu x.number]) (C := [nu x.target] ++ ([st x.value] ++ (dg x.asked ++ (dg x.data)))) h (by simp [subC]) rfl
theorem srow_target {w : World} {g : Nat} {x : Sub} (h : w.heap[g]? = some (.cells (subC x).toArray 25)) (_ : x.Wf) : w.cell? ⟨g, 2, none⟩ = some (nu x.target) := row_cell (A := [nu x.number] ++ ([nu x.kind])) (C := [st x.value] ++ (dg x.asked ++ (dg x.data))) h (by simp [subC]) rfl
theorem srow_value {w : World} {g : Nat} {x : Sub} (h : w.heap[g]? = some (.cells (subC x).toArray 25)) (_ : x.Wf) : w.cell? ⟨g, 3, none⟩ = some (st x.value) := row_cell (A := [nu x.number] ++ ([nu x.kind] ++ ([nu x.target]))) (C := dg x.asked ++ (dg x.data)) h (by simp [subC]) rfl
theorem brow_owner {w : World} {g : Nat} {x : Blo} (h : w.heap[g]? = some (.cells (bloC x).toArray 94)) (_ : x.Wf) : w.cell? ⟨g, 0, none⟩ = some (nu x.owner) := row_cell (A := []) (C := [nu x.number] ++ ([st x.cipher] ++ (dg x.tag))) h (by simp [bloC]) rfl
theorem brow_number {w : World} {g : Nat} {x : Blo} (h : w.heap[g]? = some (.cells (bloC x).toArray 94)) (_ : x.Wf) : w.cell? ⟨g, 1, none⟩ = some (nu x.number) := row_cell (A := [nu x.owner]) (C := [st x.cipher] ++ (dg x.tag)) h (by simp [bloC]) rfl
theorem brow_cipher {w : World} {g : Nat} {x : Blo} (h : w.heap[g]? = some (.cells (bloC x).toArray 94)) (_ : x.Wf) : w.cell? ⟨g, 2, none⟩ = some (st x.cipher) := row_cell (A := [nu x.owner] ++ ([nu x.number])) (C := dg x.tag) h (by simp [bloC]) rfl
open Go Go.RowKit
set_option maxRecDepth 100000
theorem hid {p : Prop} (h : p) : Hid p := h
theorem add_none (g o j : Nat) : (⟨g, o, none⟩ : Addr).add j = ⟨g, o + j, none⟩ := by unfold Addr.add; split <;> simp_all
theorem top_obj (W : World) (o : Obj) : (W.alloc o).heap[W.heap.size]? = some o := by show (W.heap.push o)[W.heap.size]? = _; simp
theorem below_two {w w1 w2 : World} (h1 : Below w.heap.size w w1) (h2 : Below w1.heap.size w1 w2) : Below w.heap.size w w2 := h1.trans (h2.mono h1.size)
theorem below_a1 (w : World) (o : Obj) : Below w.heap.size w (w.alloc o) := (Below.refl _ w).alloc (Nat.le_refl _) o
theorem row_kept {w w' : World} {k : Nat} {o : Obj} (hr : w.heap[k]? = some o) (hb : Below w.heap.size w w') : w'.heap[k]? = some o := (hb.block k (Array.getElem?_eq_some_iff.1 hr).1).trans hr
section
variable {P : Program} {ops : Array Oper} {rest : List Oper} {o : Oper} {a : Act} {w : World} {Q : Exit → Act → World → Prop}
theorem wl_load (ty : TypeId) (x : Operand) (ho : o.op = .load ty x)
    (g off : Nat) (hx : a.eval x = .pointer (some ⟨g, off, none⟩)) (hw : Region.wanted o (yielded ops a.tmps) = true) (cs : List Value) (d : TypeDesc) (hc : ∀ j v, cs[j]? = some v → w.cell? ⟨g, off + j, none⟩ = some v)
    (hu : P.underlying ty = some d) (hd : (match d with | .struct _ | .array _ _ => true | _ => false) = true) (hi : (P.info? ty).map (·.size) = some cs.length)
    (h : wpList P ops Q rest (a.put o.dst (.agg cs.toArray)) w) : wpList P ops Q (o :: rest) a w := by
  refine BigFrame.wpList_want hw fun K hK => ?_
  have h' := hK _ _ h
  have hl : (loadCells ⟨g, off, none⟩ cs.length).run P w = .ok cs.toArray w :=
    run_loadCells_list (P := P) w ⟨g, off, none⟩ cs (fun j v hv => by rw [add_none]; exact hc j v hv)
  cases hq : P.info? ty with
  | none => simp [hq] at hi
  | some i =>
    have hs : i.size = cs.length := by simpa [hq] using hi
    have hagg : (isAgg ty).run P w = .ok true w := by
      unfold isAgg
      rw [Sem.run_bind, run_underlying hu w]
      cases d <;> simp_all
    unfold Oper.wp execOp
    simp [ho, hx, Instr.loadAt, Instr.sureAddr, Sem.run_bind, loadVar, hagg, sizeOf, typeInfo, hq, hs, hl]
    exact h'
theorem wl_alloc (ty : TypeId) (ho : o.op = .alloc ty) (hw : Region.wanted o (yielded ops a.tmps) = true) (z : Array Value) (hi : (P.info? ty).map (·.zero) = some (some (.agg z)))
    (h : wpList P ops Q rest (a.put o.dst (.pointer (some ⟨w.heap.size, 0, none⟩))) (w.alloc (.cells z ty))) : wpList P ops Q (o :: rest) a w := by
  refine BigFrame.wpList_want hw fun K hK => ?_
  have h' := hK _ _ h
  cases hq : P.info? ty with
  | none => simp [hq] at hi
  | some i =>
    have hz : i.zero = some (.agg z) := by simpa [hq] using hi
    unfold Oper.wp execOp
    simp [ho, Instr.alloc, zeroValue, typeInfo, hq, hz, newVar, newRow, newObj, Sem.run_bind, Value.cells]
    exact h'
theorem wl_store (ty : TypeId) (x y : Operand) (ho : o.op = .store ty x y) (hn : o.dst = none)
    (g off : Nat) (hx : a.eval x = .pointer (some ⟨g, off, none⟩)) (hw : Region.wanted o (yielded ops a.tmps) = true) (A cs old C : List Value) (hy : a.eval y = .agg cs.toArray) (t : TypeId) (hg : w.heap[g]? = some (.cells (A ++ (old ++ C)).toArray t))
    (hA : A.length = off) (hold : old.length = cs.length) (h1 : ∀ v ∈ cs, v.oneCell' = true) (hi : (P.info? ty).map (·.size) = some cs.length)
    (h : wpList P ops Q rest a (w.setRow g (A ++ (cs ++ C)).toArray)) : wpList P ops Q (o :: rest) a w := by
  refine BigFrame.wpList_want hw fun K hK => ?_
  have e : ((A ++ (old ++ C)).toArray.toList.take off ++ cs ++ (A ++ (old ++ C)).toArray.toList.drop (off + cs.length)) = A ++ (cs ++ C) := by
    subst hA
    simp [← hold, List.append_assoc]
  have h' := hK _ _ h
  have hst := run_storeCells_at P g off t cs 0 (A ++ (old ++ C)).toArray w hg (by subst hA; simp; omega) h1
  rw [Nat.add_zero, e] at hst
  cases hq : P.info? ty with
  | none => simp [hq] at hi
  | some i =>
    have hs : i.size = cs.length := by simpa [hq] using hi
    unfold Oper.wp execOp
    simp [ho, hx, hy, Instr.storeAt, Instr.sureAddr, Sem.run_bind, storeVar, sizeOf, typeInfo, hq, hs, Value.cells]
    simp [hst]
    show K (a.put o.dst undef) _
    rw [hn]
    exact h'
end
section
variable {P : Program} {ops : Array Oper} {C : World → Prop} {Q : Act → Prop} {a : Act} {o : Oper} {rest : List Oper}
theorem wq_load (ty : TypeId) (x : Operand) (ho : o.op = .load ty x)
    (g off : Nat) (hx : a.eval x = .pointer (some ⟨g, off, none⟩)) (hw : Region.wanted o (yielded ops a.tmps) = true) (cs : List Value) (d : TypeDesc) (hc : ∀ w, C w → ∀ j v, cs[j]? = some v → w.cell? ⟨g, off + j, none⟩ = some v)
    (hu : P.underlying ty = some d) (hd : (match d with | .struct _ | .array _ _ => true | _ => false) = true) (hi : (P.info? ty).map (·.size) = some cs.length)
    (h : wpQuiet P ops C Q rest (a.put o.dst (.agg cs.toArray))) : wpQuiet P ops C Q (o :: rest) a := by
  unfold wpQuiet
  rw [if_pos hw]
  refine ⟨.agg cs.toArray, fun w hC => ?_, h⟩
  have hl : (loadCells ⟨g, off, none⟩ cs.length).run P w = .ok cs.toArray w :=
    run_loadCells_list (P := P) w ⟨g, off, none⟩ cs (fun j v hv => by rw [add_none]; exact hc w hC j v hv)
  cases hq : P.info? ty with
  | none => simp [hq] at hi
  | some i =>
    have hs : i.size = cs.length := by simpa [hq] using hi
    have hagg : (isAgg ty).run P w = .ok true w := by
      unfold isAgg
      rw [Sem.run_bind, run_underlying hu w]
      cases d <;> simp_all
    unfold Oper.quietAt execOp
    simp [ho, hx, Instr.loadAt, Instr.sureAddr, Sem.run_bind, loadVar, hagg, sizeOf, typeInfo, hq, hs, hl, Oper.quietUpon]
theorem wq_neq (hw : Region.wanted o (yielded ops a.tmps) = true) (ty rt : TypeId) (x y : Operand) (ho : o.op = .binOp .neq ty x y rt)
    (X Y : Array Value) (hx : a.eval x = .agg X) (hy : a.eval y = .agg Y) (hgt : P.eqGuardType P.depth ty = false) (B : Bool) (he : ∀ w, (Op.equalIn 10000 ty (.agg X) (.agg Y)).run P w = .ok B w)
    (h : wpQuiet P ops C Q rest (a.put o.dst (.bool (!B)))) : wpQuiet P ops C Q (o :: rest) a := by
  unfold wpQuiet
  rw [if_pos hw]
  refine ⟨.bool (!B), fun w hC => ?_, h⟩
  have hq : ∀ w, (Op.equal ty (.agg X) (.agg Y)).run P w = .ok B w := he
  unfold Oper.quietAt execOp
  simp [ho, hx, hy, eqGuard, binOp, Sem.run_bind, hgt, hq, Oper.quietUpon]
end
theorem setRow_top (W : World) (cur cs : Array Value) (t : TypeId) : (W.alloc (.cells cur t)).setRow W.heap.size cs = W.alloc (.cells cs t) := by
  have e : ((W.alloc (.cells cur t)).setRow W.heap.size cs).heap = (W.alloc (.cells cs t)).heap := by
    apply Array.ext_getElem?
    intro i
    have hn : ∀ o : Obj, (W.alloc o).heap[W.heap.size]? = some o := fun o => by show (W.heap.push o)[W.heap.size]? = _; simp
    by_cases h : i = W.heap.size
    · subst h
      rw [setRow_heap _ _ cur cs t (0, 0) (hn _), hn]
    · rw [setRow_other _ _ _ _ h]
      show (W.heap.push _)[i]? = (W.heap.push _)[i]?
      rw [Array.getElem?_push, Array.getElem?_push, if_neg h, if_neg h]
  exact congrArg (fun hp => ({ W with heap := hp } : World)) e
theorem wl_store_top {P : Program} {ops : Array Oper} {rest : List Oper} {o : Oper} {a : Act} {W : World} {Q : Exit → Act → World → Prop} (ty : TypeId) (x y : Operand) (ho : o.op = .store ty x y) (hn : o.dst = none) (hw : Region.wanted o (yielded ops a.tmps) = true)
    (hx : a.eval x = .pointer (some ⟨W.heap.size, 0, none⟩)) (cs old : List Value) (hy : a.eval y = .agg cs.toArray) (t : TypeId) (hold : old.length = cs.length) (h1 : ∀ v ∈ cs, v.oneCell' = true) (hi : (P.info? ty).map (·.size) = some cs.length)
    (h : wpList P ops Q rest a (W.alloc (.cells cs.toArray t))) : wpList P ops Q (o :: rest) a (W.alloc (.cells old.toArray t)) := by
  refine wl_store ty x y ho hn W.heap.size 0 hx hw [] cs old [] hy t (by simpa using top_obj W (.cells old.toArray t)) rfl hold h1 hi ?_
  have e := setRow_top W old.toArray cs.toArray t
  simp only [List.nil_append, List.append_nil]
  rw [e]
  exact h
theorem one_dg (d : List UInt8) : ∀ v ∈ dg d, v.oneCell' = true := by
  intro v hv; simp only [dg, List.mem_map] at hv; obtain ⟨x, -, rfl⟩ := hv; rfl
theorem one_pen (p : Pen) : ∀ v ∈ penC p, v.oneCell' = true := by
  intro v hv
  simp only [penC, List.mem_append, List.mem_cons, List.not_mem_nil, or_false] at hv
  rcases hv with (rfl | rfl | rfl | rfl) | hv | hv
  · rfl
  · rfl
  · rfl
  · rfl
  · exact one_dg _ v hv
  · exact one_dg _ v hv
theorem guardPen : Tryz.prog.eqGuardType Tryz.prog.depth 32 = false := by kernel_rfl
theorem sizeSub : (Tryz.prog.info? 25).map (·.size) = some 68 := by kernel_rfl
theorem sizePen : (Tryz.prog.info? 32).map (·.size) = some 68 := by kernel_rfl
theorem sizeRep : (Tryz.prog.info? 28).map (·.size) = some 103 := by kernel_rfl
theorem sizeBlo : (Tryz.prog.info? 94).map (·.size) = some 35 := by kernel_rfl
theorem sizeMsg : (Tryz.prog.info? 97).map (·.size) = some 275 := by kernel_rfl
def IntsAt (w : World) (v : Value) (ks : List Int) : Prop := ∃ a cap, v = .slice a ks.length cap ∧ (ks ≠ [] → ∃ b off, a = some ⟨b, off, none⟩ ∧ ∀ j, j < ks.length → w.cell? ⟨b, off + j, none⟩ = some (nu (ks.getD j 0)))
theorem IntsAt.kept {w w' : World} {v : Value} {ks : List Int} (h : IntsAt w v ks) (hb : Below w.heap.size w w') : IntsAt w' v ks := by
  obtain ⟨a, cap, rfl, hc⟩ := h
  refine ⟨a, cap, rfl, fun hne => ?_⟩
  obtain ⟨b, off, rfl, hj⟩ := hc hne
  exact ⟨b, off, rfl, fun j h => (hb.cell (p := ⟨b, off + j, none⟩) (World.block_lt_of_cell? w _ (hj j h))).trans (hj j h)⟩
theorem IntsAt.nil (w : World) : IntsAt w (.slice none 0 0) [] := ⟨none, 0, rfl, fun h => absurd rfl h⟩
def noPen : Pen := ⟨0, 0, 0, 0, [], []⟩
def PensAt (w : World) (v : Value) (ps : List Pen) : Prop := ∃ a cap, v = .slice a ps.length cap ∧ (ps ≠ [] → ∃ b off, a = some ⟨b, off, none⟩ ∧ ∀ j, j < ps.length → ∀ i c, (penC (ps.getD j noPen))[i]? = some c → w.cell? ⟨b, off + j * 68 + i, none⟩ = some c)
theorem PensAt.kept {w w' : World} {v : Value} {ps : List Pen} (h : PensAt w v ps) (hb : Below w.heap.size w w') : PensAt w' v ps := by
  obtain ⟨a, cap, rfl, hc⟩ := h
  refine ⟨a, cap, rfl, fun hne => ?_⟩
  obtain ⟨b, off, rfl, hj⟩ := hc hne
  exact ⟨b, off, rfl, fun j h i c hi => (hb.cell (p := ⟨b, off + j * 68 + i, none⟩) (World.block_lt_of_cell? w _ (hj j h i c hi))).trans (hj j h i c hi)⟩
theorem PensAt.nil (w : World) : PensAt w (.slice none 0 0) [] := ⟨none, 0, rfl, fun h => absurd rfl h⟩
open Go Go.RowKit
set_option maxRecDepth 100000
theorem list_eq_of {α : Type} (d : α) (xs ys : List α) (hl : xs.length = ys.length) (h : ∀ j, j < xs.length → xs.getD j d = ys.getD j d) : xs = ys := by
  apply List.ext_getElem hl
  intro i h1 h2
  have := h i h1
  simpa [List.getD, h1, h2] using this
theorem list_ne_at {α : Type} [BEq α] [LawfulBEq α] (d : α) (xs ys : List α) (j : Nat) (h : xs.getD j d ≠ ys.getD j d) : (xs == ys) = false := by
  rw [Bool.eq_false_iff]
  intro e
  exact h (by rw [eq_of_beq e])
theorem list_ne_len {α : Type} [BEq α] [LawfulBEq α] (xs ys : List α) (h : xs.length ≠ ys.length) : (xs == ys) = false := by
  rw [Bool.eq_false_iff]
  intro e
  exact h (by rw [eq_of_beq e])
end Go.Proofs.YtekfcbedlokidaaGreatDoor.Ms
