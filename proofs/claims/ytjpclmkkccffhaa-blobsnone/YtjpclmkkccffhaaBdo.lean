/-
  What do answers: a call of both stores, and they stay alike.
-/
import Derived.Test.YtjpclmkkccffhaaBaw
namespace Go.Proofs.Ytjpclmkkccffhaa.Bl
open Go Go.RowKit Go.Maps
set_option maxRecDepth 100000

/-- A call. -/
structure Ac where
  kind : Int
  owner : Int
  number : Int
  b : Blo
  l : List Int
def acC (a : Ac) (v : Value) : List Value := [nu a.kind, nu a.owner, nu a.number] ++ (bloC a.b ++ [v])
def IntsC (w : World) (v : Value) (ks : List Int) : Prop := IntsAt w v ks ∧ ∃ a cap, v = .slice a ks.length cap ∧ ks.length ≤ cap
structure Ac.Ok (a : Ac) : Prop where
  wf : a.b.Wf
  ow : I64 a.owner
  nu : I64 a.number
  l : ∀ k ∈ a.l, I64 k
def cutB (b : Blo) : Blo := ⟨b.owner, b.number, b.cipher.take 400, b.tag⟩
def numB (b : Blo) (n : Int) : Blo := ⟨b.owner, n, b.cipher, b.tag⟩
def manyD (L : List Blo) (b : Blo) : Nat → List Blo
  | 0 => L
  | k + 1 => putD (manyD L b k) (numB b (1000 + k))
def manyN (n : Int) : Nat := if 90 ≤ n then 90 else n.toNat
def doD (L : List Blo) (a : Ac) : List Blo :=
  if a.kind = 3 then pruneD L a.owner (a.l.take 100) else if a.kind = 4 then L else if a.kind = 5 then manyD L (cutB a.b) (manyN a.number) else putD L a.b
section
variable {w w' : World} {s m r : Nat} {v : Value} {L L' : List Blo}
theorem both_ne (h : StAt w s m L) (h' : RfAt w r v L') : r ≠ m ∧ r ≠ s ∧ (∀ k, v.ownBlock = some k → k ≠ m ∧ k ≠ s) := by
  obtain ⟨es, clock, hm, -⟩ := h.map
  refine ⟨?_, ?_, fun k hk => ⟨own_ne h'.row hm (by intro cur e; cases e) k hk, own_ne h'.row h.obj (by intro cur e; cases e) k hk⟩⟩
  · rintro rfl
    rw [h'.obj] at hm
    cases hm
  · rintro rfl
    have := h.obj
    rw [h'.obj] at this
    cases this
theorem rf_km (h : StAt w s m L) (h' : RfAt w r v L') (hk : Kp [m] w w') : RfAt w' r v L' := by
  have := both_ne h h'
  exact h'.kp hk (by simpa using this.1) (fun k hv => by simpa using (this.2.2 k hv).1)
theorem st_kr (h : StAt w s m L) (h' : RfAt w r v L') (hk : Kp [r] w w') : StAt w' s m L := by
  have := both_ne h h'
  exact h.kp hk (by simpa using Ne.symm this.2.1) (by simpa using Ne.symm this.1)
end
theorem kp_m {w w' : World} {m r : Nat} (h : Kp [m] w w') : Kp [m, r] w w' := h.drop (by simp)
theorem kp_r {w w' : World} {m r : Nat} (h : Kp [r] w w') : Kp [m, r] w w' := h.drop (by simp)
theorem call_put (args : Array Value) (w : World) : (callFunc 11 args).run Try.prog w = .ok (.enter 11 args) w := by kernel_rfl
theorem call_rput (args : Array Value) (w : World) : (callFunc 28 args).run Try.prog w = .ok (.enter 28 args) w := by kernel_rfl
theorem call_prune (args : Array Value) (w : World) : (callFunc 13 args).run Try.prog w = .ok (.enter 13 args) w := by kernel_rfl
theorem call_rprune (args : Array Value) (w : World) : (callFunc 26 args).run Try.prog w = .ok (.enter 26 args) w := by kernel_rfl
theorem fa_ac1 (g : Nat) (w : World) : (Instr.fieldAt 42 (ptr g 0) 1).run Try.prog w = .ok (ptr g (0 + 1)) w := by kernel_rfl
theorem fa_ac3 (g : Nat) (w : World) : (Instr.fieldAt 42 (ptr g 0) 3).run Try.prog w = .ok (ptr g (0 + 3)) w := by kernel_rfl
section
variable {w : World} {g : Nat} {a : Ac} {v : Value} {t : TypeId}
theorem arow_k (h : w.heap[g]? = some (.cells (acC a v).toArray t)) : w.cell? ⟨g, 0, none⟩ = some (nu a.kind) := row_cell (A := []) (C := [nu a.owner, nu a.number] ++ (bloC a.b ++ [v])) h (by simp [acC]) rfl
theorem arow_o (h : w.heap[g]? = some (.cells (acC a v).toArray t)) : w.cell? ⟨g, 1, none⟩ = some (nu a.owner) := row_cell (A := [nu a.kind]) (C := [nu a.number] ++ (bloC a.b ++ [v])) h (by simp [acC]) rfl
theorem arow_n (h : w.heap[g]? = some (.cells (acC a v).toArray t)) : w.cell? ⟨g, 2, none⟩ = some (nu a.number) := row_cell (A := [nu a.kind, nu a.owner]) (C := bloC a.b ++ [v]) h (by simp [acC]) rfl
theorem arow_b (h : w.heap[g]? = some (.cells (acC a v).toArray t)) : ∀ j c, (bloC a.b)[j]? = some c → w.cell? ⟨g, 3 + j, none⟩ = some c := row_seg (A := [nu a.kind, nu a.owner, nu a.number]) (C := [v]) h (by simp [acC]) rfl
theorem arow_l (h : w.heap[g]? = some (.cells (acC a v).toArray t)) (hw : a.b.Wf) : w.cell? ⟨g, 38, none⟩ = some v := row_cell (A := [nu a.kind, nu a.owner, nu a.number] ++ bloC a.b) (C := []) h (by simp [acC]) (by simp [bloC_len hw])
end

set_option maxHeartbeats 4000000 in
theorem do_put {w : World} {s m r : Nat} {v : Value} {L : List Blo} (h : StAt w s m L) (h' : RfAt w r v L) (a : Ac) (ha : a.Ok) (vL : Value) (h3 : a.kind ≠ 3) (h4 : a.kind ≠ 4) (h5 : a.kind ≠ 5) : Calls Try.prog 14 #[ptr s 0, ptr r 0, .agg (acC a vL).toArray] w fun e w' =>
    e = .returned (.bool true) ∧ StAt w' s m (putD L a.b) ∧ (∃ v', RfAt w' r v' (putD L a.b)) ∧ Kp [m, r] w w' := by
  have B0 := hid (below_a1 w (.cells (acC a vL).toArray 42))
  have R0 := hid (top_obj w (.cells (acC a vL).toArray 42))
  have H0 := hid (h.kept B0.out)
  have H0' := hid (h'.kept B0.out)
  have G0 : Hid (w.heap.size ∉ [m, r]) := by
    have h1 := h.map.lt
    have h2 := row_lt h'.obj
    show _ ∉ _
    simp
    omega
  have c0 := arow_k R0.out
  have d3 : (a.kind == 3) = false := by simp [h3]
  have d4 : (a.kind == 4) = false := by simp [h4]
  have d5 : (a.kind == 5) = false := by simp [h5]
  have Zb := hid (sizeOf_blo ha.wf)
  clear h h' h3 h4 h5
  go_enter Try.func14, Try.ntmps14
  go_upto_region 1 with fail
  generalize w.alloc (.cells (acC a vL).toArray 42) = W0 at *
  go_wp2_with fail
  generalize hE : putE L a.b = E at *
  generalize hD : putD L a.b = D at *
  refine wp_region_two (N := 115) 3 7 [ptr s 0, ptr w.heap.size (0 + 3), .agg (bloC a.b).toArray, nu E, ptr r 0, ptr w.heap.size (0 + 3), .agg (bloC a.b).toArray, nu E, .bool true, .bool true]
    (fun W => W.heap[w.heap.size]? = some (.cells (acC a vL).toArray 42)) (fun W => Kp [m, r] W0 W ∧ StAt W s m L ∧ RfAt W r v L) (fun W => Kp [m, r] W0 W ∧ StAt W s m D ∧ RfAt W r v L) (fun W => Kp [m, r] W0 W ∧ StAt W s m D ∧ ∃ v', RfAt W r v' D)
    (by kernel_rfl) (by kernel_rfl) rfl (fun o ho => by cases ho; kernel_rfl) (by decide) (fun w1 hb => ⟨Kp.of hb, H0.out.kept hb, H0'.out.kept hb⟩) (fun W hW => hW.1.row R0.out G0.out) (fun W hW => hW.1.row R0.out G0.out) (fun W hW => hW.1.row R0.out G0.out) ?_ ?_ ?_ (by decide) ?_
  · intro i o n1 n2 ho
    match i, ho with
    | 0, ho => cases ho; exact fun a W hR hk hc K h => op_move 0 _ rfl (hk 0 (by kernel_rfl)) h
    | 1, ho => cases ho; exact fun a W hR hk hc K h => op_fa 5 _ 3 w.heap.size 0 3 rfl (fun W => fa_ac3 _ W) (hk 5 (by kernel_rfl)) h
    | 2, ho => cases ho; exact fun a' W hR hk hc K h => op_load _ (.tmp 107) rfl w.heap.size (0 + 3) (hc 1 107 (by kernel_rfl) (by kernel_rfl)) (bloC a.b) _ (arow_b hR) Try.underlying33 rfl Zb.out h
    | 4, ho => cases ho; exact fun a W hR hk hc K h => op_move 1 _ rfl (hk 1 (by kernel_rfl)) h
    | 5, ho => cases ho; exact fun a W hR hk hc K h => op_fa 5 _ 3 w.heap.size 0 3 rfl (fun W => fa_ac3 _ W) (hk 5 (by kernel_rfl)) h
    | 6, ho => cases ho; exact fun a' W hR hk hc K h => op_load _ (.tmp 111) rfl w.heap.size (0 + 3) (hc 5 111 (by kernel_rfl) (by kernel_rfl)) (bloC a.b) _ (arow_b hR) Try.underlying33 rfl Zb.out h
    | 8, ho => cases ho; exact fun a W hR hk hc K h => op_eqlI 109 113 _ _ E E rfl (hc 3 109 (by kernel_rfl) (by kernel_rfl)) (hc 7 113 (by kernel_rfl) (by kernel_rfl)) (by rw [beq_self_eq_true]; exact h)
    | 9, ho => cases ho; exact fun a W hR hk hc K h => op_assign 114 _ rfl (hc 8 114 (by kernel_rfl) (by kernel_rfl)) h
    | 3, ho => exact absurd rfl n1
    | 7, ho => exact absurd rfl n2
    | (i + 10), ho => exact absurd ho (by simp)
  · intro o ho a' W hJ hk hc K h
    cases ho
    refine op_call 11 [.tmp 106, .tmp 108] _ #[ptr s 0, .agg (bloC a.b).toArray] _ rfl call_put ?_ ((put_any hJ.2.1 a.b ha.wf).mono ?_) h
    · have e1 : a'.eval (.tmp 106) = ptr s 0 := hc 0 106 (by kernel_rfl) (by kernel_rfl)
      have e2 : a'.eval (.tmp 108) = .agg (bloC a.b).toArray := hc 2 108 (by kernel_rfl) (by kernel_rfl)
      simp only [List.map_cons, List.map_nil, e1, e2]
    · rintro e W' ⟨rfl, q1, q2⟩
      rw [hD] at q1
      exact ⟨by rw [hE]; rfl, hJ.1.trans (kp_m q2), q1, rf_km hJ.2.1 hJ.2.2 q2⟩
  · intro o ho a' W hJ hk hc K h
    cases ho
    refine op_call 28 [.tmp 110, .tmp 112] _ #[ptr r 0, .agg (bloC a.b).toArray] _ rfl call_rput ?_ ((rput_any hJ.2.2 a.b ha.wf).mono ?_) h
    · have e1 : a'.eval (.tmp 110) = ptr r 0 := hc 4 110 (by kernel_rfl) (by kernel_rfl)
      have e2 : a'.eval (.tmp 112) = .agg (bloC a.b).toArray := hc 6 112 (by kernel_rfl) (by kernel_rfl)
      simp only [List.map_cons, List.map_nil, e1, e2]
    · rintro e W' ⟨rfl, q1, q2⟩
      rw [hD] at q1
      exact ⟨by rw [hE]; rfl, hJ.1.trans (kp_r q2), st_kr hJ.2.1 hJ.2.2 q2, q1⟩
  · intro a' W hJ hs hd hk hc
    have h6 := hc 9 6 (by kernel_rfl)
    obtain ⟨tm, df⟩ := a'
    obtain rfl : df = [] := hd
    have HJ := hid hJ
    clear hJ hk hc hs
    go_wp2
    go_ret
    exact ⟨by rw [h6]; rfl, HJ.out.2.1, HJ.out.2.2, (Kp.of B0.out).trans HJ.out.1⟩
end Go.Proofs.Ytjpclmkkccffhaa.Bl
