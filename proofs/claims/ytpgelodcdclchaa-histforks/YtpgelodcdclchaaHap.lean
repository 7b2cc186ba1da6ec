/-
  A list of texts that a call makes by append.
-/
import Derived.Test.YtpgelodcdclchaaHfk
import Derived.Maps.AppendAt
import Derived.Laws.MakeOwn
namespace Go.Proofs.Ytpgelodcdclchaa.Hist
open Go Go.RowKit
set_option maxRecDepth 100000

theorem info9 : (Try.prog.info? 9).map (fun i => (i.zero, i.size, i.bytes)) = some (some (.string ⟨#[]⟩), 1, 16) := by kernel_rfl
theorem info_parts {t : TypeId} {z : Value} {s b : Nat} (h : (Try.prog.info? t).map (fun i => (i.zero, i.size, i.bytes)) = some (some z, s, b)) :
    ∃ i, Try.prog.info? t = some i ∧ i.zero = some z ∧ i.size = s ∧ i.bytes = b := by
  cases hq : Try.prog.info? t with
  | none => simp [hq] at h
  | some i =>
    simp [hq] at h
    exact ⟨i, rfl, h.1, h.2.1, h.2.2⟩
/-- One cell more, of whatever type, behind a row of one's own. -/
theorem wpList_push {W : World} {ops : Array Oper} {rest : List Oper} {o : Oper} {a : Act} {Q : Exit → Act → World → Prop} (hgd : o.guard = none) (s x : Operand) (t e : TypeId)
    (ho : o.op = .call { callee := .builtin .append, args := #[s, x], argTypes := #[t, t] }) (z : Value) (by' : Nat) (ht : Try.prog.underlying t = some (.slice e)) (hinfo : (Try.prog.info? e).map (fun i => (i.zero, i.size, i.bytes)) = some (some z, 1, by'))
    (hzs : z.cells.size = 1) (hby : by' ≤ 16) (base : Nat) (v u : Value) (n : Nat) (xs : List Value) (hs : a.eval s = v) (hx : a.eval x = .slice (some ⟨W.heap.size, 0, none⟩) 1 1) (hown : W.ownsRow base e 1 v n xs) (h1 : u.oneCell' = true)
    (hn : n < 1000000) (hbase : base ≤ W.heap.size)
    (h : ∀ v' w', w'.ownsRow base e 1 v' (n + 1) (xs ++ [u]) → (W.alloc (.cells #[u] e)).grownBy w' v.ownBlock → (v'.ownBlock = v.ownBlock ∨ v'.ownBlock = some (W.heap.size + 1)) → wpList Try.prog ops Q rest (a.put o.dst v') w') :
    wpList Try.prog ops Q (o :: rest) a (W.alloc (.cells #[u] e)) := by
  obtain ⟨i, hi, hz0, hz1, hz2⟩ := info_parts hinfo
  refine wpList_append_own_at (W.alloc (.cells #[u] e)) hgd s x t ho base e i z 1 by' ht hi hz0 hz1 hz2 hzs (by decide) v n xs hs (hown.alloc _) ⟨W.heap.size, 0, none⟩ 1 1 [u] hx rfl (cell_one_new _ _ _) (fun y hy => by simp at hy; subst hy; exact h1) (by unfold maxLen; omega) ?_ (by simp; omega) (fun v' w' g1 g2 _ g4 => h v' w' g1 g2 (by simpa using g4))
  have := Nat.mul_le_mul (show n + 1 ≤ 1000000 by omega) hby
  omega
theorem add_none (g o j : Nat) : (⟨g, o, none⟩ : Addr).add j = ⟨g, o + j, none⟩ := by unfold Addr.add; split <;> simp_all
def scells (ls : List (List UInt8)) : List Value := ls.map fun t => Value.string ⟨t.toArray⟩
theorem own_kept {w w' : World} {base e n : Nat} {v : Value} {xs : List Value} (h : w.ownsRow base e 1 v n xs) (hb : Below w.heap.size w w') : w'.ownsRow base e 1 v n xs :=
  h.kept (row := none) ⟨hb.os, hb.tape, hb.output, hb.size, fun k hk _ => hb.block k hk⟩ (by cases v.ownBlock <;> simp)
theorem own_form {w : World} {base e n : Nat} {v : Value} {xs : List Value} (h : w.ownsRow base e 1 v n xs) : ∃ ao cap, v = .slice ao n cap := by
  rcases h.2 with ⟨rfl, h0⟩ | ⟨g, cap, cur, rfl, _⟩
  · exact ⟨none, 0, by rw [h0]⟩
  · exact ⟨_, _, rfl⟩
theorem own_ge {w : World} {base e n : Nat} {v : Value} {xs : List Value} (h : w.ownsRow base e 1 v n xs) : ∀ k, v.ownBlock = some k → base ≤ k := fun k hk => (h.lt k hk).1
theorem strs_of_own {w : World} {base : Nat} {a : Option Addr} {n cap : Nat} {ls : List (List UInt8)} (hn : n = ls.length) (h : w.ownsRow base 9 1 (.slice a n cap) n (scells ls)) : StrsAt w a ls := fun hne => by
  have hc : ∀ {g : Nat}, (Value.slice a n cap).ownBlock = some g → _ := fun {g} hg => h.cells (g := g) hg
  rcases h.2 with ⟨e, h0⟩ | ⟨g, cap', cur, e, hb, hg, hl, -⟩
  · exact absurd (List.eq_nil_of_length_eq_zero (by rw [← hn]; exact h0)) hne
  · cases e
    refine ⟨g, 0, rfl, fun j hj => ?_⟩
    have := hc (g := g) rfl j (.string ⟨(ls.getD j []).toArray⟩) (by
      unfold scells
      rw [List.getElem?_map]
      simp [List.getD, hj])
    rw [add_none] at this
    exact this
end Go.Proofs.Ytpgelodcdclchaa.Hist
