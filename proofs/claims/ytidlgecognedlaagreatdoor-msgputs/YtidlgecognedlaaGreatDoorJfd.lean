/-
  Fields of messages and of what is pending, in plain words: laid, read, emptied. No program plays a part.
-/
import Derived.Test.YtidlgecognedlaaGreatDoorJnb
namespace Go.Proofs.YtidlgecognedlaaGreatDoor.Ms
open Go
set_option maxRecDepth 100000

def zeroD : List UInt8 := List.replicate 32 0
def zeroS : Sub := ⟨0, 0, 0, [], zeroD, zeroD⟩
def zeroR : Rep := ⟨0, 0, [], zeroD, [], 0, [], zeroD, [], zeroD⟩
def zeroB : Blo := ⟨0, 0, [], zeroD⟩
def zeroP : Pen := ⟨0, 0, 0, 0, zeroD, zeroD⟩
def zeroM (k c : Int) : Msg := ⟨k, c, zeroS, zeroR, [], 0, zeroD, zeroD, zeroB, []⟩

/-- What a field may hold. -/
abbrev Val : Type := Int ⊕ (List UInt8 ⊕ (List UInt8 ⊕ (List Int ⊕ List Pen)))
abbrev Val.num (n : Int) : Val := .inl n
abbrev Val.txt (s : List UInt8) : Val := .inr (.inl s)
abbrev Val.dig (d : List UInt8) : Val := .inr (.inr (.inl d))
abbrev Val.nums (l : List Int) : Val := .inr (.inr (.inr (.inl l)))
abbrev Val.pens (l : List Pen) : Val := .inr (.inr (.inr (.inr l)))
theorem Val.cut {motive : Val → Prop} (num : ∀ n, motive (.num n)) (txt : ∀ s, motive (.txt s)) (dig : ∀ d, motive (.dig d)) (nums : ∀ l, motive (.nums l)) (pens : ∀ l, motive (.pens l)) (v : Val) : motive v := by
  rcases v with n | n | n | n | n
  · exact num n
  · exact txt n
  · exact dig n
  · exact nums n
  · exact pens n
abbrev Slot : Type := Unit ⊕ (Unit ⊕ (Unit ⊕ (Unit ⊕ Unit)))
abbrev Slot.num : Slot := .inl ()
abbrev Slot.txt : Slot := .inr (.inl ())
abbrev Slot.dig : Slot := .inr (.inr (.inl ()))
abbrev Slot.nums : Slot := .inr (.inr (.inr (.inl ())))
abbrev Slot.pens : Slot := .inr (.inr (.inr (.inr ())))
theorem Slot.cut {motive : Slot → Prop} (num : motive .num) (txt : motive .txt) (dig : motive .dig) (nums : motive .nums) (pens : motive .pens) (v : Slot) : motive v := by
  rcases v with ⟨⟩ | ⟨⟩ | ⟨⟩ | ⟨⟩ | ⟨⟩
  · exact num
  · exact txt
  · exact dig
  · exact nums
  · exact pens
def Val.slot : Val → Slot
  | .inl _ => .num
  | .inr (.inl _) => .txt
  | .inr (.inr (.inl _)) => .dig
  | .inr (.inr (.inr (.inl _))) => .nums
  | .inr (.inr (.inr (.inr _))) => .pens
def Val.n : Val → Int
  | .inl n => n
  | _ => 0
def Val.s : Val → List UInt8
  | .inr (.inl s) => s
  | _ => []
def Val.d : Val → List UInt8
  | .inr (.inr (.inl d)) => d
  | _ => zeroD
def Val.l : Val → List Int
  | .inr (.inr (.inr (.inl l))) => l
  | _ => []
def Val.p : Val → List Pen
  | .inr (.inr (.inr (.inr l))) => l
  | _ => []
def Slot.zero : Slot → Val
  | .inl _ => .num 0
  | .inr (.inl _) => .txt []
  | .inr (.inr (.inl _)) => .dig zeroD
  | .inr (.inr (.inr (.inl _))) => .nums []
  | .inr (.inr (.inr (.inr _))) => .pens []
theorem zero_slot (k : Slot) : k.zero.slot = k := by cases k using Slot.cut <;> rfl
/-- A field of a thing: where it lies in its row of cells, of what sort it is, what it holds, and the thing with another one. -/
structure Fl (α : Type) where
  off : Nat
  slot : Slot
  get : α → Val
  set : α → Val → α

def pClient : Fl Pen := ⟨0, .num, fun x => .num x.client, fun x v => { x with client := v.n }⟩
def pNumber : Fl Pen := ⟨1, .num, fun x => .num x.number, fun x v => { x with number := v.n }⟩
def pKind : Fl Pen := ⟨2, .num, fun x => .num x.kind, fun x v => { x with kind := v.n }⟩
def pTarget : Fl Pen := ⟨3, .num, fun x => .num x.target, fun x v => { x with target := v.n }⟩
def pAsked : Fl Pen := ⟨4, .dig, fun x => .dig x.asked, fun x v => { x with asked := v.d }⟩
def pProof : Fl Pen := ⟨36, .dig, fun x => .dig x.proof, fun x v => { x with proof := v.d }⟩
def penFs : List (Fl Pen) := [pClient, pNumber, pKind, pTarget, pAsked, pProof]

def fClient : Fl Msg := ⟨1, .num, fun m => .num m.client, fun m v => { m with client := v.n }⟩
def fSNumber : Fl Msg := ⟨2, .num, fun m => .num m.sub.number, fun m v => { m with sub := { m.sub with number := v.n } }⟩
def fSKind : Fl Msg := ⟨3, .num, fun m => .num m.sub.kind, fun m v => { m with sub := { m.sub with kind := v.n } }⟩
def fSTarget : Fl Msg := ⟨4, .num, fun m => .num m.sub.target, fun m v => { m with sub := { m.sub with target := v.n } }⟩
def fSValue : Fl Msg := ⟨5, .txt, fun m => .txt m.sub.value, fun m v => { m with sub := { m.sub with value := v.s } }⟩
def fSAsked : Fl Msg := ⟨6, .dig, fun m => .dig m.sub.asked, fun m v => { m with sub := { m.sub with asked := v.d } }⟩
def fSData : Fl Msg := ⟨38, .dig, fun m => .dig m.sub.data, fun m v => { m with sub := { m.sub with data := v.d } }⟩
def fRNumber : Fl Msg := ⟨70, .num, fun m => .num m.rep.number, fun m v => { m with rep := { m.rep with number := v.n } }⟩
def fRLast : Fl Msg := ⟨71, .num, fun m => .num m.rep.last, fun m v => { m with rep := { m.rep with last := v.n } }⟩
def fRView : Fl Msg := ⟨72, .txt, fun m => .txt m.rep.view, fun m v => { m with rep := { m.rep with view := v.s } }⟩
def fRCommit : Fl Msg := ⟨73, .dig, fun m => .dig m.rep.commit, fun m v => { m with rep := { m.rep with commit := v.d } }⟩
def fRPend : Fl Msg := ⟨105, .pens, fun m => .pens m.rep.pend, fun m v => { m with rep := { m.rep with pend := v.p } }⟩
def fRVnum : Fl Msg := ⟨106, .num, fun m => .num m.rep.vnum, fun m v => { m with rep := { m.rep with vnum := v.n } }⟩
def fRValue : Fl Msg := ⟨107, .txt, fun m => .txt m.rep.value, fun m v => { m with rep := { m.rep with value := v.s } }⟩
def fRData : Fl Msg := ⟨108, .dig, fun m => .dig m.rep.data, fun m v => { m with rep := { m.rep with data := v.d } }⟩
def fRSeen : Fl Msg := ⟨140, .txt, fun m => .txt m.rep.seen, fun m v => { m with rep := { m.rep with seen := v.s } }⟩
def fRTag : Fl Msg := ⟨141, .dig, fun m => .dig m.rep.stag, fun m v => { m with rep := { m.rep with stag := v.d } }⟩
def fView : Fl Msg := ⟨173, .txt, fun m => .txt m.view, fun m v => { m with view := v.s }⟩
def fBy : Fl Msg := ⟨174, .num, fun m => .num m.who, fun m v => { m with who := v.n }⟩
def fTag : Fl Msg := ⟨175, .dig, fun m => .dig m.tag, fun m v => { m with tag := v.d }⟩
def fOwn : Fl Msg := ⟨207, .dig, fun m => .dig m.own, fun m v => { m with own := v.d }⟩
def fBOwner : Fl Msg := ⟨239, .num, fun m => .num m.blob.owner, fun m v => { m with blob := { m.blob with owner := v.n } }⟩
def fBNumber : Fl Msg := ⟨240, .num, fun m => .num m.blob.number, fun m v => { m with blob := { m.blob with number := v.n } }⟩
def fBCipher : Fl Msg := ⟨241, .txt, fun m => .txt m.blob.cipher, fun m v => { m with blob := { m.blob with cipher := v.s } }⟩
def fBTag : Fl Msg := ⟨242, .dig, fun m => .dig m.blob.tag, fun m v => { m with blob := { m.blob with tag := v.d } }⟩
def fNums : Fl Msg := ⟨274, .nums, fun m => .nums m.nums, fun m v => { m with nums := v.l }⟩
def subFs : List (Fl Msg) := [fClient, fSNumber, fSKind, fSTarget, fSValue, fSAsked, fSData]
def repFs : List (Fl Msg) := [fRNumber, fRLast, fRView, fRCommit, fRPend, fRVnum, fRValue, fRData, fRSeen, fRTag]
def comFs : List (Fl Msg) := [fClient, fView, fTag]
def bloFs : List (Fl Msg) := [fBOwner, fBNumber, fBCipher, fBTag]
def lstFs : List (Fl Msg) := [fClient, fNums]
def proFs : List (Fl Msg) := [fClient]
def verFs : List (Fl Msg) := [fClient, fBy, fView, fTag, fOwn]
def alaFs : List (Fl Msg) := [fClient, fOwn]
/-- The fields that a kind has, in the order of their bytes. -/
def fieldsM (k : Int) : List (Fl Msg) :=
  if k = 1 then subFs else if k = 2 then repFs else if k = 3 then comFs else if k = 4 ∨ k = 6 then bloFs else
  if k = 5 ∨ k = 7 ∨ k = 8 then lstFs else if k = 9 then proFs else if k = 10 then verFs else if k = 11 then alaFs else []

/-- A thing's bytes, field by field, by what lays one. -/
def putAll {α : Type} (f : Val → List UInt8) (fs : List (Fl α)) (x : α) : List UInt8 := (fs.map fun g => f (g.get x)).flatten
def emptyAll {α : Type} : List (Fl α) → α → α
  | [], x => x
  | g :: fs, x => emptyAll fs (g.set x g.slot.zero)
/-- Fields read one behind the other, up to the first one's error: the error, the thing, the place. -/
def rdAll {α : Type} (rd : Slot → List UInt8 → Nat → Nat × Val × Nat) : List (Fl α) → α → List UInt8 → Nat → Nat × α × Nat
  | [], x, _, p => (0, x, p)
  | g :: fs, x, s, p => if (rd g.slot s p).1 ≠ 0 then ((rd g.slot s p).1, x, 0) else rdAll rd fs (g.set x (rd g.slot s p).2.1) s (rd g.slot s p).2.2

def layT (s : List UInt8) : List UInt8 := txtB (if 16384 < s.length then [] else s)
def layNs (l : List Int) : List UInt8 := if 512 < l.length then [] else 40 :: (intsB l ++ [41])
def layBase : Val → List UInt8
  | .inl n => numB n
  | .inr (.inl s) => layT s
  | .inr (.inr (.inl d)) => txtB d
  | .inr (.inr (.inr (.inl l))) => layNs l
  | .inr (.inr (.inr (.inr _))) => []
def layPen (p : Pen) : List UInt8 := putAll layBase penFs p
def layVal : Val → List UInt8
  | .inr (.inr (.inr (.inr l))) => numB l.length ++ (l.map layPen).flatten
  | v => layBase v
def toP (e p c : Nat) : Nat := if e = 0 then p + c else 0
def rdDig (s : List UInt8) (p : Nat) : Nat × Val × Nat :=
  if (Lay.readTxt (s.drop p)).1 ≠ 0 then ((Lay.readTxt (s.drop p)).1, .dig zeroD, 0)
  else if (Lay.readTxt (s.drop p)).2.1.length = 32 then (0, .dig (Lay.readTxt (s.drop p)).2.1, p + (Lay.readTxt (s.drop p)).2.2) else (6, .dig zeroD, 0)
def rdBase : Slot → List UInt8 → Nat → Nat × Val × Nat
  | .inl _, s, p => ((Lay.readNum (s.drop p)).1, .num (Lay.readNum (s.drop p)).2.1, toP (Lay.readNum (s.drop p)).1 p (Lay.readNum (s.drop p)).2.2)
  | .inr (.inl _), s, p => ((Lay.readTxt (s.drop p)).1, .txt (Lay.readTxt (s.drop p)).2.1, toP (Lay.readTxt (s.drop p)).1 p (Lay.readTxt (s.drop p)).2.2)
  | .inr (.inr (.inl _)), s, p => rdDig s p
  | .inr (.inr (.inr (.inl _))), s, p => ((Lay.listRes Lay.readNum p (s.drop p)).1, .nums (Lay.listRes Lay.readNum p (s.drop p)).2.1, (Lay.listRes Lay.readNum p (s.drop p)).2.2)
  | .inr (.inr (.inr (.inr _))), _, _ => (0, .pens [], 0)
def rdPen (s : List UInt8) (p : Nat) : Nat × Pen × Nat := rdAll rdBase penFs zeroP s p
def rdPensN : Nat → List UInt8 → Nat → Nat × List Pen × Nat
  | 0, _, p => (0, [], p)
  | n + 1, s, p =>
    if (rdPen s p).1 ≠ 0 then ((rdPen s p).1, [], 0)
    else if (rdPensN n s (rdPen s p).2.2).1 ≠ 0 then ((rdPensN n s (rdPen s p).2.2).1, [], 0)
    else (0, (rdPen s p).2.1 :: (rdPensN n s (rdPen s p).2.2).2.1, (rdPensN n s (rdPen s p).2.2).2.2)
def rdPens (s : List UInt8) (p : Nat) : Nat × List Pen × Nat :=
  if (Lay.readNum (s.drop p)).1 ≠ 0 then ((Lay.readNum (s.drop p)).1, [], 0)
  else if (Lay.readNum (s.drop p)).2.1 < 0 ∨ 8 < (Lay.readNum (s.drop p)).2.1 then (6, [], 0)
  else rdPensN (Lay.readNum (s.drop p)).2.1.toNat s (p + (Lay.readNum (s.drop p)).2.2)
def rdVal : Slot → List UInt8 → Nat → Nat × Val × Nat
  | .inr (.inr (.inr (.inr _))), s, p => ((rdPens s p).1, .pens (rdPens s p).2.1, (rdPens s p).2.2)
  | k, s, p => rdBase k s p
theorem rdDig_slot (s : List UInt8) (p : Nat) : (rdDig s p).2.1.slot = .dig := by
  unfold rdDig
  by_cases h : (Lay.readTxt (s.drop p)).1 ≠ 0
  · rw [if_pos h]; rfl
  · rw [if_neg h]
    by_cases h2 : (Lay.readTxt (s.drop p)).2.1.length = 32
    · rw [if_pos h2]; rfl
    · rw [if_neg h2]; rfl
theorem rdBase_slot (k : Slot) (s : List UInt8) (p : Nat) : (rdBase k s p).2.1.slot = k := by
  cases k using Slot.cut
  · rfl
  · rfl
  · exact rdDig_slot s p
  · rfl
  · rfl
theorem rdVal_slot (k : Slot) (s : List UInt8) (p : Nat) : (rdVal k s p).2.1.slot = k := by
  cases k using Slot.cut
  · rfl
  · rfl
  · exact rdDig_slot s p
  · rfl
  · rfl
/-- A message's bytes. -/
def putM (m : Msg) : List UInt8 := numB m.kind ++ putAll layVal (fieldsM m.kind) m
end Go.Proofs.YtidlgecognedlaaGreatDoor.Ms
