/-
  Messages as plain data, and as rows of cells. No program plays a part.
-/
import Derived.WalkKit
namespace Go.Proofs.YtidlgecognedlaaGreatDoor.Ms
open Go
set_option maxRecDepth 100000

/-- A byte as the model's number, and as a cell. -/
def bv (c : UInt8) : Int := (c.toNat : Int)
abbrev cb (c : UInt8) : Value := .int .u8 (bv c)
def dg (d : List UInt8) : List Value := d.map cb
abbrev st (s : List UInt8) : Value := .string ⟨s.toArray⟩
abbrev nu (n : Int) : Value := .int .i64 n

structure Sub where
  number : Int
  kind : Int
  target : Int
  value : List UInt8
  asked : List UInt8
  data : List UInt8
structure Pen where
  client : Int
  number : Int
  kind : Int
  target : Int
  asked : List UInt8
  proof : List UInt8
structure Rep where
  number : Int
  last : Int
  view : List UInt8
  commit : List UInt8
  pend : List Pen
  vnum : Int
  value : List UInt8
  data : List UInt8
  seen : List UInt8
  stag : List UInt8
structure Blo where
  owner : Int
  number : Int
  cipher : List UInt8
  tag : List UInt8
structure Msg where
  kind : Int
  client : Int
  sub : Sub
  rep : Rep
  view : List UInt8
  who : Int
  tag : List UInt8
  own : List UInt8
  blob : Blo
  nums : List Int

def subC (x : Sub) : List Value := [nu x.number, nu x.kind, nu x.target, st x.value] ++ (dg x.asked ++ dg x.data)
def penC (x : Pen) : List Value := [nu x.client, nu x.number, nu x.kind, nu x.target] ++ (dg x.asked ++ dg x.proof)
def repC (x : Rep) (vP : Value) : List Value := [nu x.number, nu x.last, st x.view] ++ (dg x.commit ++ ([vP, nu x.vnum, st x.value] ++ (dg x.data ++ ([st x.seen] ++ dg x.stag))))
def bloC (x : Blo) : List Value := [nu x.owner, nu x.number, st x.cipher] ++ dg x.tag
def msgC (m : Msg) (vP vN : Value) : List Value := [nu m.kind, nu m.client] ++ (subC m.sub ++ (repC m.rep vP ++ ([st m.view, nu m.who] ++ (dg m.tag ++ (dg m.own ++ (bloC m.blob ++ [vN]))))))

structure Sub.Wf (x : Sub) : Prop where
  asked : x.asked.length = 32
  data : x.data.length = 32
structure Pen.Wf (x : Pen) : Prop where
  asked : x.asked.length = 32
  proof : x.proof.length = 32
structure Rep.Wf (x : Rep) : Prop where
  commit : x.commit.length = 32
  data : x.data.length = 32
  stag : x.stag.length = 32
  pend : ∀ p ∈ x.pend, p.Wf
structure Blo.Wf (x : Blo) : Prop where
  tag : x.tag.length = 32
structure Msg.Wf (m : Msg) : Prop where
  sub : m.sub.Wf
  rep : m.rep.Wf
  tag : m.tag.length = 32
  own : m.own.length = 32
  blob : m.blob.Wf

theorem dg_len (d : List UInt8) : (dg d).length = d.length := by simp [dg]
theorem subC_len {x : Sub} (h : x.Wf) : (subC x).length = 68 := by simp [subC, dg_len, h.asked, h.data]
theorem penC_len {x : Pen} (h : x.Wf) : (penC x).length = 68 := by simp [penC, dg_len, h.asked, h.proof]
theorem repC_len {x : Rep} (h : x.Wf) (vP : Value) : (repC x vP).length = 103 := by simp [repC, dg_len, h.commit, h.data, h.stag]
theorem bloC_len {x : Blo} (h : x.Wf) : (bloC x).length = 35 := by simp [bloC, dg_len, h.tag]
theorem msgC_len {m : Msg} (h : m.Wf) (vP vN : Value) : (msgC m vP vN).length = 275 := by
  simp [msgC, dg_len, h.tag, h.own, subC_len h.sub, repC_len h.rep, bloC_len h.blob]

/-- A list's part that begins behind A. -/
theorem mid_at {α : Type} (A cs C : List α) (off j : Nat) (v : α) (hA : A.length = off) (hj : cs[j]? = some v) : (A ++ (cs ++ C))[off + j]? = some v := by
  subst hA
  rw [List.getElem?_append_right (by omega)]
  have hl := (List.getElem?_eq_some_iff.1 hj).1
  rw [show A.length + j - A.length = j by omega, List.getElem?_append_left hl]
  exact hj

def sameS (a b : Sub) : Bool := a.number == b.number && (a.kind == b.kind && (a.target == b.target && (a.value == b.value && (a.asked == b.asked && a.data == b.data))))
def sameP (a b : Pen) : Bool := a.client == b.client && (a.number == b.number && (a.kind == b.kind && (a.target == b.target && (a.asked == b.asked && a.proof == b.proof))))
def sameB (a b : Blo) : Bool := a.owner == b.owner && (a.number == b.number && (a.cipher == b.cipher && a.tag == b.tag))
def sameL {α : Type} (f : α → α → Bool) : List α → List α → Bool
  | [], [] => true
  | x :: xs, y :: ys => f x y && sameL f xs ys
  | _, _ => false
def sameR (a b : Rep) : Bool := a.number == b.number && (a.last == b.last && (a.view == b.view && (a.commit == b.commit && (sameL sameP a.pend b.pend && (a.vnum == b.vnum && (a.value == b.value && (a.data == b.data && (a.seen == b.seen && a.stag == b.stag))))))))
def sameM (a b : Msg) : Bool := a.kind == b.kind && (a.client == b.client && (sameS a.sub b.sub && (sameR a.rep b.rep && (a.view == b.view && (a.who == b.who && (a.tag == b.tag && (a.own == b.own && (sameB a.blob b.blob && a.nums == b.nums))))))))
theorem sameS_iff (a b : Sub) : sameS a b = true ↔ a = b := by
  obtain ⟨a1, a2, a3, a4, a5, a6⟩ := a
  obtain ⟨b1, b2, b3, b4, b5, b6⟩ := b
  simp [sameS]
theorem sameP_iff (a b : Pen) : sameP a b = true ↔ a = b := by
  obtain ⟨a1, a2, a3, a4, a5, a6⟩ := a
  obtain ⟨b1, b2, b3, b4, b5, b6⟩ := b
  simp [sameP]
theorem sameB_iff (a b : Blo) : sameB a b = true ↔ a = b := by
  obtain ⟨a1, a2, a3, a4⟩ := a
  obtain ⟨b1, b2, b3, b4⟩ := b
  simp [sameB]
theorem sameL_iff {α : Type} (f : α → α → Bool) (hf : ∀ x y, f x y = true ↔ x = y) : ∀ a b : List α, sameL f a b = true ↔ a = b
  | [], [] => by simp [sameL]
  | [], y :: ys => by simp [sameL]
  | x :: xs, [] => by simp [sameL]
  | x :: xs, y :: ys => by simp [sameL, hf x y, sameL_iff f hf xs ys]
theorem sameR_iff (a b : Rep) : sameR a b = true ↔ a = b := by
  obtain ⟨a1, a2, a3, a4, a5, a6, a7, a8, a9, a10⟩ := a
  obtain ⟨b1, b2, b3, b4, b5, b6, b7, b8, b9, b10⟩ := b
  simp [sameR, sameL_iff sameP sameP_iff]
theorem sameM_iff (a b : Msg) : sameM a b = true ↔ a = b := by
  obtain ⟨a1, a2, a3, a4, a5, a6, a7, a8, a9, a10⟩ := a
  obtain ⟨b1, b2, b3, b4, b5, b6, b7, b8, b9, b10⟩ := b
  simp [sameM, sameS_iff, sameR_iff, sameB_iff]
end Go.Proofs.YtidlgecognedlaaGreatDoor.Ms
