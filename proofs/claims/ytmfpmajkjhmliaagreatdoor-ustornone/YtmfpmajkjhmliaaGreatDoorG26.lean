/-
  What a client believes of a reply, in plain words: Step, Check. No program plays a part.
-/
import Derived.Test.YtmfpmajkjhmliaaGreatDoorG02
import Derived.Test.YtmfpmajkjhmliaaGreatDoorJtx
import Derived.Test.YtmfpmajkjhmliaaGreatDoorG22
import Derived.Test.YtmfpmajkjhmliaaGreatDoorG25
import Derived.Test.YtmfpmajkjhmliaaGreatDoorErg
import Derived.Lib.QuietBelow
namespace Go.Proofs.YtmfpmajkjhmliaaGreatDoor.Ms
open Go
set_option maxRecDepth 100000
def vsub (n : Nat) (c : Int) (x : Sub) : Bool := hasB n c && (hasB n x.target && mayB (subM c x))
def repM (y : Rep) : Msg := { zeroM 2 0 with rep := y }
def askOk (n : Nat) (me : Int) (view : List UInt8) (x : Sub) : Bool := vsub n me x && (Hist.rightB view n && (x.number == (Hist.cnt view me : Int) + 1))
def ansOk (x : Sub) (y : Rep) : Bool := mayB (repM y) && (y.number == x.number)
structure Got where
  view : List UInt8
  number : Int
  value : List UInt8
  who : Int
  long : List UInt8
  ltag : List UInt8
  seen : List UInt8
  stag : List UInt8
def zeroT : Got := ⟨[], 0, [], 0, [], zeroD, [], zeroD⟩
def gotC (g : Got) : List Value := [st g.view, nu g.number, st g.value, nu g.who, st g.long] ++ (dg g.ltag ++ ([st g.seen] ++ dg g.stag))
structure Got.Wf (g : Got) : Prop where
  ltag : g.ltag.length = 32
  stag : g.stag.length = 32
theorem gotC_len {g : Got} (h : g.Wf) : (gotC g).length = 70 := by simp [gotC, dg_len, h.ltag, h.stag]
theorem zeroT_wf : zeroT.Wf := ⟨rfl, rfl⟩
def learnG (v : List UInt8) (y : Rep) : Got := if y.view = [] then ⟨v, 0, [], -1, [], zeroD, [], zeroD⟩ else ⟨v, 0, [], y.last, y.view, y.commit, [], zeroD⟩
theorem learnG_wf {v : List UInt8} {y : Rep} (h : y.Wf) : (learnG v y).Wf := by
  unfold learnG
  split
  · exact ⟨rfl, rfl⟩
  · exact ⟨h.commit, rfl⟩
theorem one_got (g : Got) : ∀ v ∈ gotC g, v.oneCell' = true := by
  intro v hv
  simp only [gotC, List.mem_append, List.mem_cons, List.not_mem_nil, or_false, dg, List.mem_map] at hv
  rcases hv with (rfl | rfl | rfl | rfl | rfl) | ⟨x, -, rfl⟩ | rfl | ⟨x, -, rfl⟩ <;> rfl
open Go Go.RowKit
set_option maxRecDepth 100000
structure RgAt (w : World) (p : Nat) (s : List UInt8) (n : Nat) : Prop where
  n2 : 2 ≤ n
  n8 : n ≤ 8
  ring : ∃ h g b L, RingAt w p h g b s n L
  kt : Ktab w
  tb : Lay.Tabs w
theorem RgAt.kept {w w' : World} {p n : Nat} {s : List UInt8} (r : RgAt w p s n) (hb : Below w.heap.size w w') : RgAt w' p s n := by
  obtain ⟨h, g, b, L, hr⟩ := r.ring
  exact ⟨r.n2, r.n8, ⟨h, g, b, L, hr.kept hb⟩, r.kt.stays hb r.kt.pos, r.tb.stays hb⟩
theorem rgclients {w : World} {p n : Nat} {s : List UInt8} (r : RgAt w p s n) : Calls Tryz.prog 106 #[pt p 0] w fun e w' => e = .returned (nu (n : Int)) ∧ w' = w := by
  obtain ⟨h, g, b, L, hr⟩ := r.ring
  exact clients_any hr
theorem dg_cb (d : List UInt8) : dg d = d.map Go.Proofs.YtmfpmajkjhmliaaGreatDoor.cb := rfl
theorem regr {f : Nat} {args : Array Value} {v : Value} {w : World} (H : ∀ W, Below w.heap.size w W → Calls Tryz.prog f args W fun e w' => e = .returned v ∧ Below W.heap.size W w') :
    Hid (∀ dd os, Calls Tryz.prog f args (Sort.grow (redrawn w dd) os) fun e w'' => e = .returned v ∧ ∃ q : Regrown, w'' = Sort.grow (redrawn w q.d) q.os) :=
  fun dd os => Calls.regrown_of (H _ (below_regrown w dd os))
end Go.Proofs.YtmfpmajkjhmliaaGreatDoor.Ms
