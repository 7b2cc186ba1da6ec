/-
  What is known, looked at: Own, Longest (of the program).
-/
import Derived.Test.YtfigbgpfkhcpcaaIlk
namespace Go.Proofs.Ytfigbgpfkhcpcaa.Kn
open Go Go.RowKit
set_option maxRecDepth 100000

set_option maxHeartbeats 4000000 in
theorem own_any {w : World} {p n me : Nat} {L : List Ln} (h : KAt w p n me L) (c : Int) : Calls Try.prog 13 #[pt p 0, nu c] w fun e w' => e = .returned (st (ownv L c)) ∧ Below w.heap.size w w' := by
  have HM := hid (made_any h)
  have HH := hid (has_any h c)
  cases hc : hasB n c with
  | false =>
    rw [hc] at HH
    rw [out_own h.inv hc]
    clear h hc
    go_enter Try.func13, Try.ntmps13
    go_wp2_with fail
    refine HM.out.mono ?_
    rintro e w1 ⟨rfl, hw⟩
    subst w1
    go_wp2_with fail
    refine HH.out.mono ?_
    rintro e w1 ⟨rfl, hw⟩
    subst w1
    go_wp2
    go_ret
    exact ⟨rfl, Below.refl _ _⟩
  | true =>
    rw [hc] at HH
    obtain ⟨i, rfl⟩ : ∃ i : Nat, c = (i : Int) := ⟨c.toNat, by have := (hasB_iff n c).1 hc; omega⟩
    have hi : i < 8 := by have := ((hasB_iff n _).1 hc).2; have := h.n8; omega
    have c2 : w.cell? ⟨p, 2, none⟩ = some (st (longL L)) := kr2 h.obj
    have c44 : w.cell? ⟨p, 44 + i, none⟩ = some (nu (ol L (i : Int))) := kr44 h.obj h.inv.tag i _ (wC_at _ i hi)
    have hx := Hist.ext_take (longL L) (ol L (i : Int))
    have hle := ol_long L (i : Int)
    have hw : ownv L (i : Int) = (longL L).take (ol L (i : Int)) := rfl
    rw [← hw] at hx
    clear h hc hw
    generalize ownv L (i : Int) = W at *
    generalize ol L (i : Int) = k at *
    generalize longL L = T at *
    have hss : (⟨T.toArray⟩ : ByteArray).size = T.length := rfl
    have hi8 : decide ((i : Int) < 8) = true := decide_eq_true (by omega)
    go_enter Try.func13, Try.ntmps13
    go_wp2_with fail
    refine HM.out.mono ?_
    rintro e w1 ⟨rfl, hw⟩
    subst w1
    go_wp2_with fail
    refine HH.out.mono ?_
    rintro e w1 ⟨rfl, hw⟩
    subst w1
    go_upto_region 3 with fail
    have p2 : ∀ dd os, (Sort.grow (redrawn w dd) os).cell? ⟨p, 2, none⟩ = some (st T) := fun dd os => cell_regrown c2 _ _
    have p44 : ∀ dd os, (Sort.grow (redrawn w dd) os).cell? ⟨p, 44 + i, none⟩ = some (nu k) := fun dd os => cell_regrown c44 _ _
    refine wp_region_quiet_below (by kernel_rfl) (by kernel_rfl) ?_
    repeat (first | go_big_quiet_step (fail) | quiet_step (fail))
    refine wpQuiet_nil ?_
    intro _ hw'
    obtain ⟨⟨dq, osq⟩, hw''⟩ := hw'
    subst hw''
    have HBq := hid (below_regrown w dq osq)
    generalize Sort.grow (redrawn w dq) osq = W1 at *
    clear p2 p44
    go_wp2
    go_ret
    exact ⟨rfl, HBq.out⟩
theorem results_ttc {P : Program} {fn : Func} {u v p : Tmp} {ty : TypeId} (h : fn.results = #[.tmp u, .tmp v, .cell p ty]) (tmps : Array Value) (w : World) (g : Nat) (t : TypeId) (cs : Array Value) (fr : Nat × Nat) (d : TypeDesc)
    (hp : tmps.getD p undef = .pointer (some ⟨g, 0, none⟩)) (hg : w.heap[g]? = some (.cells cs t fr))
    (hu : P.underlying ty = some d) (hd : (match d with | .struct _ | .array _ _ => true | _ => false) = true) (hi : (P.info? ty).map (·.size) = some cs.size) :
    (results fn tmps).run P w = .ok (.tuple #[tmps.getD u undef, tmps.getD v undef, .agg cs]) w := by
  have hp' : tmps[p]?.getD undef = .pointer (some ⟨g, 0, none⟩) := by simpa using hp
  simp [results, h, hp', asAddr, run_loadVar_row w g t ty cs fr d hg hu hd hi]
set_option maxHeartbeats 16000000 in
theorem longest_any {w : World} {p n me : Nat} {L : List Ln} (h : KAt w p n me L) : Calls Try.prog 15 #[pt p 0] w fun e w' => e = .returned (.tuple #[st (longL L), nu (topL L).byc, .agg (dg (topL L).tag).toArray]) ∧ Below w.heap.size w w' := by
  have B0 := hid (below_a1 w (.cells (dg (List.replicate 32 0)).toArray 32))
  have T0 := hid (top_obj w (.cells (dg (List.replicate 32 0)).toArray 32))
  have HM := hid (made_any (h.kept B0.out))
  have C2 : Hid (∀ W, Below w.heap.size w W → W.cell? ⟨p, 2, none⟩ = some (st (longL L))) := fun W hb => kr2 (h.kept hb).obj
  have C3 : Hid (∀ W, Below w.heap.size w W → W.cell? ⟨p, 3, none⟩ = some (nu (topL L).byc)) := fun W hb => kr3 (h.kept hb).obj
  have C4 : Hid (∀ W, Below w.heap.size w W → ∀ j y, (dg (topL L).tag)[j]? = some y → W.cell? ⟨p, 4 + j, none⟩ = some y) := fun W hb => kr4 (h.kept hb).obj
  have ZD := hid (sizeDg h.inv.tag)
  have LD : Hid ((dg (List.replicate 32 0)).length = (dg (topL L).tag).length) := by
    show _ = _
    rw [dg_len, dg_len, h.inv.tag]
    rfl
  generalize longL L = T at *
  generalize (topL L).byc = b at *
  generalize (topL L).tag = tg at *
  clear h
  go_enter Try.func15, Try.ntmps15
  go_upto_region 1 with ((with_reducible refine wl_alloc 32 ?_ ?_ (dg (List.replicate 32 0)).toArray zeroDg ?_); exact rfl; exact rfl)
  try simp only [Act.put, List.setIfInBounds_toArray, List.set_cons_zero, List.set_cons_succ]
  generalize w.alloc (.cells (dg (List.replicate 32 0)).toArray 32) = W0 at *
  generalize hX : w.heap.size = X at *
  go_wp2_with fail
  refine HM.out.mono ?_
  rintro e w1 ⟨rfl, hw1⟩
  subst w1
  go_upto_region 3 with fail
  refine wp_region_cs (N := 21) [(pt p 0), (pt p 0), (pt p 2), (st T), (pt p 0), (pt p 0), (pt p 3), (nu b), (pt p 0), (pt p 0), (pt p 4), (.agg (dg tg).toArray), (st T), (nu b), undef] (fun L w' => Below X w w' ∧ w'.heap[X]? = some (.cells (bif L 14 then dg tg else dg (List.replicate 32 0)).toArray 32)) [(9, (pt p 0)), (10, (pt p 0)), (11, (pt p 2)), (12, (st T)), (13, (pt p 0)), (14, (pt p 0)), (15, (pt p 3)), (16, (nu b)), (17, (pt p 0)), (18, (pt p 0)), (19, (pt p 4)), (20, (.agg (dg tg).toArray)), (2, (st T)), (3, (nu b))] (by kernel_rfl) (by kernel_rfl) rfl (fun w1 hb => ⟨below_twoY B0.out hb (by have := row_lt T0.out; omega), row_kept T0.out hb⟩) (by kernel_rfl) ?_ ?_
  · intro i o ho
    match i, ho with
    | 0, ho => cases ho; exact fun L a w hLi hw hnot hJ hk hv K h => op_move 0 _ rfl (hk 0 (by kernel_rfl)) (h _ hJ)
    | 1, ho => cases ho; exact fun L a w hLi hw hnot hJ hk hv K h => op_nil 9 p 0 rfl (hv 0 9 (by kernel_rfl) (by kernel_rfl)) (h _ hJ)
    | 2, ho => cases ho; exact fun L a w hLi hw hnot hJ hk hv K h => op_fa 10 _ 2 p 0 2 rfl (fun W => by kernel_rfl) (hv 1 10 (by kernel_rfl) (by kernel_rfl)) (h _ hJ)
    | 3, ho => cases ho; exact fun L a w hLi hw hnot hJ hk hv K h => op_load1 _ (.tmp 11) rfl p 2 (hv 2 11 (by kernel_rfl) (by kernel_rfl)) (st T) _ (C2.out _ hJ.1) Try.underlying9 rfl (h _ hJ)
    | 4, ho => cases ho; exact fun L a w hLi hw hnot hJ hk hv K h => op_move 0 _ rfl (hk 0 (by kernel_rfl)) (h _ hJ)
    | 5, ho => cases ho; exact fun L a w hLi hw hnot hJ hk hv K h => op_nil 13 p 0 rfl (hv 4 13 (by kernel_rfl) (by kernel_rfl)) (h _ hJ)
    | 6, ho => cases ho; exact fun L a w hLi hw hnot hJ hk hv K h => op_fa 14 _ 3 p 0 3 rfl (fun W => by kernel_rfl) (hv 5 14 (by kernel_rfl) (by kernel_rfl)) (h _ hJ)
    | 7, ho => cases ho; exact fun L a w hLi hw hnot hJ hk hv K h => op_load1 _ (.tmp 15) rfl p 3 (hv 6 15 (by kernel_rfl) (by kernel_rfl)) (nu b) _ (C3.out _ hJ.1) Try.underlying3 rfl (h _ hJ)
    | 8, ho => cases ho; exact fun L a w hLi hw hnot hJ hk hv K h => op_move 0 _ rfl (hk 0 (by kernel_rfl)) (h _ hJ)
    | 9, ho => cases ho; exact fun L a w hLi hw hnot hJ hk hv K h => op_nil 17 p 0 rfl (hv 8 17 (by kernel_rfl) (by kernel_rfl)) (h _ hJ)
    | 10, ho => cases ho; exact fun L a w hLi hw hnot hJ hk hv K h => op_fa 18 _ 4 p 0 4 rfl (fun W => by kernel_rfl) (hv 9 18 (by kernel_rfl) (by kernel_rfl)) (h _ hJ)
    | 11, ho => cases ho; exact fun L a w hLi hw hnot hJ hk hv K h => op_load _ (.tmp 19) rfl p 4 (hv 10 19 (by kernel_rfl) (by kernel_rfl)) (dg tg) _ (C4.out _ hJ.1) Try.underlying32 rfl ZD.out (h _ hJ)
    | 12, ho => cases ho; exact fun L a w hLi hw hnot hJ hk hv K h => op_assign 12 _ rfl (hv 3 12 (by kernel_rfl) (by kernel_rfl)) (h _ hJ)
    | 13, ho => cases ho; exact fun L a w hLi hw hnot hJ hk hv K h => op_assign 16 _ rfl (hv 7 16 (by kernel_rfl) (by kernel_rfl)) (h _ hJ)
    | 14, ho => cases ho; exact fun L a w1 hLi hw hnot hJ hk hv K h => op_put _ 4 20 rfl rfl X 0 (hk 4 (by kernel_rfl)) [] (dg tg) (dg (List.replicate 32 0)) [] (hv 11 20 (by kernel_rfl) (by kernel_rfl)) _ (row_nilY (by have e := hJ.2; simp only [hLi, cond_false] at e; exact e)) rfl LD.out (one_dg tg) ZD.out (fun w2 hr hb => h _ ⟨hb.below hJ.1 (by omega), (by show w2.heap[X]? = some (.cells (bif up L 14 14 then dg tg else dg (List.replicate 32 0)).toArray _); rw [up_self]; simpa using hr)⟩)
    | (i + 15), ho => exact absurd ho (by simp)
  intro LL W2 hall hJ
  simp only [List.foldl_cons, List.foldl_nil, List.setIfInBounds_toArray, List.set_cons_zero, List.set_cons_succ]
  obtain ⟨t2, r2⟩ := hJ
  rw [hall 14 (by decide), cond_true] at r2
  have T2 := hid (hX ▸ t2 : Below w.heap.size w W2)
  have R2 := hid r2
  clear t2 r2
  go_wp2
  refine bodyPost_ret_by (results_ttc (fn := Try.f15) (u := 2) (v := 3) (p := 4) (ty := 32) (by kernel_rfl) _ _ X 32 (dg tg).toArray (0, 0) _ rfl R2.out Try.underlying32 rfl (by rw [List.size_toArray]; exact ZD.out)) rfl ?_
  exact ⟨rfl, T2.out⟩
end Go.Proofs.Ytfigbgpfkhcpcaa.Kn
