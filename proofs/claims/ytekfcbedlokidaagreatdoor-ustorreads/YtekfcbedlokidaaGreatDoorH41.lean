/-
  What must come at any rate (law15.awake), over what its calls answer.
-/
import Derived.Test.YtekfcbedlokidaaGreatDoorH40
import Derived.Test.YtekfcbedlokidaaGreatDoorUrp
namespace Go.Proofs.YtekfcbedlokidaaGreatDoor.Ms
open Go Go.RowKit
set_option maxRecDepth 100000
def Rows1 (G : Nat) (W W' : World) : Prop := ∀ k (cs : Array Value) t, W.heap[k]? = some (.cells cs t) → k ≠ G → W'.heap[k]? = some (.cells cs t)
set_option maxHeartbeats 16000000 in
theorem uawake_core {w : World} {S1 S2 S3 S4 S5 : Nat → World → Prop} {Z ZG MR YV : List Value} {En : World → Prop}
    (k3 : Hid (∀ G W W', S3 G W → Below W.heap.size W W' → S3 G W')) (k4 : Hid (∀ G W W', S4 G W → Below W.heap.size W W' → S4 G W')) (k5 : Hid (∀ G W W', S5 G W → Below W.heap.size W W' → S5 G W')) (ks : Hid (∀ G W, S3 G W → G < W.heap.size)) (ke : Hid (∀ G W, S5 G W → En W))
    (HR : Hid (Calls Tryz.prog 8 #[.string ⟨#[115, 101, 101, 100]⟩, nu 2] w fun e w' => ∃ p, e = .returned (.tuple #[pt p 0, nu 0]) ∧ S1 p w'))
    (HN : Hid (∀ p W, S1 p W → Calls Tryz.prog 34 #[pt p 0, nu 1] W fun e w' => ∃ G, e = .returned (.tuple #[pt G 0, nu 0]) ∧ S2 G w'))
    (HA : Hid (∀ G W, S2 G W → Calls Tryz.prog 35 #[pt G 0, nu 1, nu 1, .string ⟨#[118]⟩] W fun e w' => ∃ MV, e = .returned (.tuple #[.agg (List.toArray MV), nu 0]) ∧ S3 G w' ∧ MV.length = 275 ∧ (∀ u ∈ MV, u.oneCell' = true) ∧ MV[2]? = some (nu 1)))
    (HB : Hid (∀ G W, S3 G W → Calls Tryz.prog 35 #[pt G 0, nu 1, nu 1, .string ⟨#[119]⟩] W fun e w' => e = .returned (.tuple #[.agg Z.toArray, nu 13]) ∧ Below W.heap.size W w'))
    (HP : Hid (∀ G W, S3 G W → Calls Tryz.prog 36 #[pt G 0, .agg MR.toArray] W fun e w' => ∃ GV, e = .returned (.tuple #[.agg (List.toArray GV), nu 0]) ∧ S4 G w' ∧ W.heap.size ≤ w'.heap.size ∧ Rows1 G W w' ∧ GV.length = 70 ∧ (∀ u ∈ GV, u.oneCell' = true) ∧ GV[0]? = some (st [1])))
    (HC : Hid (∀ G W, S4 G W → Calls Tryz.prog 37 #[pt G 0] W fun e w' => ∃ MV, e = .returned (.tuple #[.agg (List.toArray MV), .bool true]) ∧ S5 G w' ∧ Rows1 G W w' ∧ MV.length = 275 ∧ (∀ u ∈ MV, u.oneCell' = true) ∧ MV[173]? = some (st [1])))
    (HU : Hid (∀ G W, S5 G W → Calls Tryz.prog 38 #[pt G 0] W fun e w' => e = .returned (nu 1) ∧ Below W.heap.size W w'))
    (HV : Hid (∀ G W, S5 G W → Calls Tryz.prog 15 #[pt G 0] W fun e w' => e = .returned (.string ⟨#[118]⟩) ∧ w' = W))
    (HZ : Hid (∀ G W, S5 G W → Calls Tryz.prog 16 #[pt G 0] W fun e w' => e = .returned (.bool false) ∧ w' = W))
    (B1 : Hid (∀ W, (Instr.build 28 #[(0, nu 1), (1, nu (-1))]).run Tryz.prog W = .ok (.agg YV.toArray) W)) (B2 : Hid (∀ W, (Instr.build 97 #[(0, nu 2), (3, .agg YV.toArray)]).run Tryz.prog W = .ok (.agg MR.toArray) W))
    (ZZ : (Tryz.prog.info? 97).map (·.zero) = some (some (.agg Z.toArray))) (LZ : Z.length = 275) (OZ : Hid (∀ u ∈ Z, u.oneCell' = true)) (zm : (Tryz.prog.info? 97).map (·.size) = some 275) (ZGz : (Tryz.prog.info? 34).map (·.zero) = some (some (.agg ZG.toArray))) (LZG : ZG.length = 70) (zg : (Tryz.prog.info? 34).map (·.size) = some 70) :
    Calls Tryz.prog 10 #[] w fun e w' => e = .returned (.bool true) ∧ En w' := by
  go_enter Tryz.func10, Tryz.ntmps10
  go_wp2_with fail
  refine HR.out.mono ?_
  rintro e W1 ⟨p, rfl, s1⟩
  go_wp2_with fail
  refine (HN.out p _ s1).mono ?_
  rintro e W2 ⟨G, rfl, s2⟩
  clear s1
  go_wp2_with fail
  refine (HA.out G _ s2).mono ?_
  rintro e W3 ⟨MV, rfl, s3, lm, om, m2⟩
  have zmv : (Tryz.prog.info? 97).map (·.size) = some MV.length := by rw [lm]; exact zm
  go_upto_region 6 with (first
    | ((with_reducible refine wl_alloc 97 ?_ ?_ Z.toArray ZZ ?_); exact rfl; exact rfl)
    | ((with_reducible refine wl_store_top 97 (.tmp 5) (.tmp 31) ?_ ?_ ?_ ?_ MV Z ?_ 97 (LZ.trans lm.symm) om zmv ?_); exact rfl; exact rfl; exact rfl; exact rfl; exact rfl))
  have R4 := hid (top_obj W3 (.cells MV.toArray 97))
  have s4 := hid (k3.out _ _ _ s3 (below_a1 W3 (.cells MV.toArray 97)))
  have hGm := ks.out _ _ s3
  have hne : W3.heap.size ≠ G := by omega
  clear s2 s3
  generalize W3.alloc (.cells MV.toArray 97) = W4 at *
  generalize W3.heap.size = M at *
  go_wp2_with fail
  refine (HB.out G _ s4.out).mono ?_
  rintro e W5 ⟨rfl, b5⟩
  have zz : (Tryz.prog.info? 97).map (·.size) = some Z.length := by rw [LZ]; exact zm
  go_upto_region 7 with (first
    | ((with_reducible refine wl_alloc 97 ?_ ?_ Z.toArray ZZ ?_); exact rfl; exact rfl)
    | ((with_reducible refine wl_store_top 97 (.tmp 7) (.tmp 36) ?_ ?_ ?_ ?_ Z Z ?_ 97 rfl OZ.out zz ?_); exact rfl; exact rfl; exact rfl; exact rfl; exact rfl))
  have b6 := below_two b5 (below_a1 W5 (.cells Z.toArray 97))
  have R6 := hid (row_kept R4.out b6)
  have s6 := hid (k3.out _ _ _ s4.out b6)
  clear R4 s4 b5 b6
  generalize W5.alloc (.cells Z.toArray 97) = W6 at *
  go_wp2_with (first
    | ((with_reducible refine wl_buildY 28 [(0, .const (nu 1)), (1, .const (nu (-1)))] ?_ ?_ YV.toArray ?_ ?_); exact rfl; exact rfl; exact (B1.out _))
    | ((with_reducible refine wl_buildY 97 [(0, .const (nu 2)), (3, .tmp 40)] ?_ ?_ MR.toArray ?_ ?_); exact rfl; exact rfl; exact (B2.out _)))
  refine (HP.out G _ s6.out).mono ?_
  rintro e W7 ⟨GV, rfl, s7, hsz, f7, lg, og, g0⟩
  have zgv : (Tryz.prog.info? 34).map (·.size) = some GV.length := by rw [lg]; exact zg
  have r7 := f7 _ _ _ R6.out hne
  have hG7 := ks.out _ _ s6.out
  go_upto_region 8 with (first
    | ((with_reducible refine wl_alloc 34 ?_ ?_ ZG.toArray ZGz ?_); exact rfl; exact rfl)
    | ((with_reducible refine wl_store_top 34 (.tmp 9) (.tmp 43) ?_ ?_ ?_ ?_ GV ZG ?_ 34 (LZG.trans lg.symm) og zgv ?_); exact rfl; exact rfl; exact rfl; exact rfl; exact rfl))
  have R8 := hid (row_kept r7 (below_a1 W7 (.cells GV.toArray 34)))
  have Q8 := hid (top_obj W7 (.cells GV.toArray 34))
  have s8 := hid (k4.out _ _ _ s7 (below_a1 W7 (.cells GV.toArray 34)))
  have hQ : W7.heap.size ≠ G := by omega
  clear r7 R6 s6 s7 f7
  generalize W7.alloc (.cells GV.toArray 34) = W8 at *
  generalize W7.heap.size = Q at *
  go_wp2_with fail
  refine (HC.out G _ s8.out).mono ?_
  rintro e W9 ⟨CV, rfl, s9, f9, lc, oc, c173⟩
  have zcv : (Tryz.prog.info? 97).map (·.size) = some CV.length := by rw [lc]; exact zm
  have r9 := f9 _ _ _ R8.out hne
  have q9 := f9 _ _ _ Q8.out hQ
  go_upto_region 9 with (first
    | ((with_reducible refine wl_alloc 97 ?_ ?_ Z.toArray ZZ ?_); exact rfl; exact rfl)
    | ((with_reducible refine wl_store_top 97 (.tmp 11) (.tmp 48) ?_ ?_ ?_ ?_ CV Z ?_ 97 (LZ.trans lc.symm) oc zcv ?_); exact rfl; exact rfl; exact rfl; exact rfl; exact rfl))
  have R10 := row_kept r9 (below_a1 W9 (.cells CV.toArray 97))
  have Q10 := row_kept q9 (below_a1 W9 (.cells CV.toArray 97))
  have C10 := top_obj W9 (.cells CV.toArray 97)
  have s10 := hid (k5.out _ _ _ s9 (below_a1 W9 (.cells CV.toArray 97)))
  clear r9 q9 R8 Q8 s8 s9 f9
  generalize W9.alloc (.cells CV.toArray 97) = W10 at *
  generalize W9.heap.size = Cb at *
  have c1 := row_zeroY R10 2 _ m2
  have c2 := row_zeroY Q10 0 _ g0
  have c3 := row_zeroY C10 173 _ c173
  rw [Nat.zero_add] at c1 c2 c3
  clear R10 Q10 C10
  go_wp2_with fail
  refine (HU.out G _ s10.out).mono ?_
  rintro e W11 ⟨rfl, b11⟩
  have s11 := hid (k5.out _ _ _ s10.out b11)
  clear b11 s10 c1 c2 c3
  go_wp2_with fail
  refine (HV.out G _ s11.out).mono ?_
  rintro e w1 ⟨rfl, hw1⟩
  subst w1
  go_wp2_with fail
  refine (HZ.out G _ s11.out).mono ?_
  rintro e w1 ⟨rfl, hw1⟩
  subst w1
  go_wp2
  go_ret
  exact ⟨rfl, ke.out _ _ s11.out⟩
open Go Go.RowKit
set_option maxRecDepth 100000
section
variable {w w' : World} {p h g b n G : Nat} {s : List UInt8} {L : List Ent} {U : Ureg}
theorem var_but {i : Nat} {nm : String} {cs : Array Value} (hg : Tryz.prog.globalNamed nm = some i) (hi : i ≠ G) (hv : w.var? Tryz.prog nm = some cs) (hb : But G w w') : w'.var? Tryz.prog nm = some cs := by
  unfold World.var? at *
  rw [hg] at *
  simp only [Option.bind_some] at *
  rw [hb.block i hi]
  exact hv
theorem rgl_but (r : RgL w p h g b s n L) (hG : 4 ≤ G) (hp : p < G) (hh : h < G) (hg : g < G) (hbG : b < G) (hb : But G w w') : RgL w' p h g b s n L := by
  refine ⟨r.n2, r.n8, ⟨hb.row r.ring.obj (by omega), hb.row r.ring.var (by omega), hb.row r.ring.keys (by omega), r.ring.book.at (hb.block b (by omega))⟩, ?_, ?_⟩
  · obtain ⟨t, fr, h0⟩ := r.kt
    exact ⟨t, fr, (hb.block 0 (by omega)).trans h0⟩
  · obtain ⟨h1, tp, q, h2⟩ := r.tb
    exact ⟨var_but Lay.gPow (by omega) h1 hb, tp, q, var_but Lay.gRange (by omega) h2 hb⟩
theorem tabs_size (h : Lay.Tabs w) : 4 ≤ w.heap.size := by
  obtain ⟨-, tp, q, h2⟩ := h
  unfold World.var? at h2
  rw [Lay.gRange] at h2
  simp only [Option.bind_some] at h2
  by_cases hl : 3 < w.heap.size
  · omega
  · rw [Array.getElem?_eq_none (by omega)] at h2
    cases h2
def St (w : World) (s : List UInt8) (U : Ureg) (m : Nat) (G : Nat) (W : World) : Prop :=
  ∃ p h g b L, UAt W G p U ∧ RgL W p h g b s 2 L ∧ L.length ≤ m ∧ Below w.heap.size w W ∧ (p < G ∧ h < G ∧ g < G ∧ b < G) ∧ w.heap.size ≤ b ∧ w.heap.size ≤ G ∧ 4 ≤ G
theorem St.kept {m : Nat} {W W' : World} (q : St w s U m G W) (hb : Below W.heap.size W W') : St w s U m G W' := by
  obtain ⟨p, h, g, b, L, q1, q2, q3, q4, q5⟩ := q
  exact ⟨p, h, g, b, L, q1.kept hb, q2.kept hb, q3, q4.trans (hb.mono q4.size), q5⟩
theorem ureg_mk (p : Nat) (U : Ureg) : uregC p U = [pt p 0, nu U.me, st U.view, st U.value] ++ (subC U.asked ++ []) := by simp [uregC]
theorem ureg_mk3 (p : Nat) (U : Ureg) : uregC p U = [pt p 0, nu U.me, st U.view] ++ ([st U.value] ++ subC U.asked) := by simp [uregC]
theorem ureg_mk2 (p : Nat) (U : Ureg) : uregC p U = [pt p 0, nu U.me] ++ ([st U.view] ++ ([st U.value] ++ subC U.asked)) := by simp [uregC]
theorem busy_of (U : Ureg) (hn : U.asked.number ≠ 0) : busyB U = true := by
  unfold busyB sameS
  have e : (U.asked.number == zeroS.number) = false := by simp [zeroS, hn]
  rw [e]
  rfl
theorem com_at173 {c : Int} {v t : List UInt8} (a d : Value) : (msgC (comM c v t) a d)[173]? = some (st v) := by
  have := mid_at (α := Value) ([nu 3, nu c] ++ (subC zeroS ++ repC zeroR a)) [st v] ([nu 0] ++ (dg t ++ (dg zeroD ++ (bloC zeroB ++ [d])))) 173 0 (st v) (by simp [subC_len wfZeroS, repC_len wfZeroR]) rfl
  simpa [msgC, comM, zeroM] using this
theorem may_sub1 (a d : List UInt8) : mayB (subM 1 ⟨1, 1, 1, [118], a, d⟩) = true := by kernel_rfl
def y1 : Rep := ⟨1, -1, [], zeroD, [], 0, [], zeroD, [], zeroD⟩
theorem may_y1 : mayB (repM y1) = true := by kernel_rfl
theorem y1_wf : y1.Wf := ⟨rfl, rfl, rfl, fun p hp => by cases hp⟩
theorem y1_rng : RepRng y1 := ⟨⟨by decide, by decide⟩, ⟨by decide, by decide⟩, ⟨by decide, by decide⟩, fun p hp => by cases hp⟩
theorem build_y1 (W : World) : (Instr.build 28 #[(0, nu 1), (1, nu (-1))]).run Tryz.prog W = .ok (.agg (repC y1 (.slice none 0 0)).toArray) W := by kernel_rfl
def u1 : Ureg := ⟨1, [], [118], zeroS⟩
def u3 (a d : List UInt8) : Ureg := ⟨1, [], [118], ⟨1, 1, 1, [118], a, d⟩⟩
def u4 : Ureg := ⟨1, [1], [118], zeroS⟩
theorem len_a : (askB u1.me (plainS u1 1 1)).length ≤ 16384 := by
  have h1 := numB_len u1.me ⟨by decide, by decide⟩
  have h2 := numB_len (plainS u1 1 1).number ⟨by decide, by decide⟩
  have h3 := numB_len (plainS u1 1 1).kind ⟨by decide, by decide⟩
  have h4 := numB_len (plainS u1 1 1).target ⟨by decide, by decide⟩
  unfold askB
  simp only [List.length_append]
  omega
theorem len_d : (numB (cnU u1) ++ layT u1.value).length ≤ 16384 := by
  have h1 := numB_len (cnU u1) ⟨by decide, by decide⟩
  have h2 := Lay.nDigits_le20 1 (by decide)
  have e : layT u1.value = Lib.decDigits 1 ++ [58] ++ [118] := rfl
  rw [e]
  simp only [List.length_append, Lib.decDigits_length, List.length_cons, List.length_nil]
  omega
theorem ask_ok1 (a d : List UInt8) : askOk 2 1 [] ⟨1, 1, 1, [118], a, d⟩ = true := by
  unfold askOk vsub
  rw [may_sub1]
  rfl
theorem ans_ok1 (a d : List UInt8) : ansOk ⟨1, 1, 1, [118], a, d⟩ y1 = true := by
  unfold ansOk
  rw [may_y1]
  rfl
theorem rows_touch {W W' : World} (hk : Book W b L) (ht : Touch b W W') : Rows1 G W W' := fun _ _ _ hr _ => row_touch hr ht (hk.ne hr)
set_option maxHeartbeats 4000000 in
theorem uask_busy (u : UAt w G p U) (hb : busyB U = true) (k t : Int) (v : List UInt8) : Calls Tryz.prog 35 #[pt G 0, nu k, nu t, st v] w fun e w' => e = .returned (.tuple #[.agg (msgC (zeroM 0 0) (.slice none 0 0) (.slice none 0 0)).toArray, nu 13]) ∧ Below w.heap.size w w' := by
  have T0 := hid (top_obj w (.cells (msgC (zeroM 0 0) (.slice none 0 0) (.slice none 0 0)).toArray 97))
  have B0 := hid (below_a1 w (.cells (msgC (zeroM 0 0) (.slice none 0 0) (.slice none 0 0)).toArray 97))
  have HM := hid (umade_any (u.kept B0.out))
  have HZ := hid (ubusy_any (u.kept B0.out))
  rw [hb] at HZ
  have ZZ := zeroMsg
  have HB := hid build_msg0
  have OZ := hid (one_msgN (zeroM 0 0))
  have ZS := hid (szMY zeroM0_wf (.slice none 0 0) (.slice none 0 0))
  clear u hb
  generalize msgC (zeroM 0 0) (.slice none 0 0) (.slice none 0 0) = Z at *
  go_enter Tryz.func35, Tryz.ntmps35
  go_upto_region 1 with ((with_reducible refine wl_alloc 97 ?_ ?_ Z.toArray ZZ ?_); exact rfl; exact rfl)
  try simp only [Act.put, List.setIfInBounds_toArray, List.set_cons_zero, List.set_cons_succ]
  generalize w.alloc (.cells Z.toArray 97) = W0 at *
  generalize hX : w.heap.size = X at *
  go_wp2_with fail
  refine HM.out.mono ?_
  rintro e w1 ⟨rfl, hw1⟩
  subst w1
  go_wp2_with fail
  refine HZ.out.mono ?_
  rintro e w1 ⟨rfl, hw1⟩
  subst w1
  go_wp2_with (first
    | ((with_reducible refine wl_build 97 ?_ ?_ Z.toArray (HB.out _) ?_); exact rfl; exact rfl)
    | ((with_reducible refine wl_put 97 (.tmp 8) (.tmp 17) ?_ ?_ X 0 ?_ ?_ [] Z Z [] ?_ 97 (row_nilY T0.out) rfl rfl OZ.out ZS.out ?_); exact rfl; exact rfl; exact rfl; exact rfl; exact rfl; intro W6 hr6 hbut))
  have hr7 : W6.heap[X]? = some (.cells Z.toArray 97) := by simpa using hr6
  refine bodyPost_ret_by (results_ctY (fn := Tryz.f35) (p := 8) (u := 9) (ty := 97) (by kernel_rfl) _ _ X 97 Z.toArray (0, 0) _ rfl hr7 Tryz.underlying97 rfl (by rw [List.size_toArray]; exact ZS.out)) rfl ?_
  exact ⟨rfl, hX ▸ hbut.below B0.out (Nat.le_refl _)⟩
theorem aw_ring (w : World) (hK : Ktab w) (hT : Lay.Tabs w) : ∃ s : List UInt8, Calls Tryz.prog 8 #[.string ⟨#[115, 101, 101, 100]⟩, nu 2] w fun e w' => ∃ p, e = .returned (.tuple #[pt p 0, nu 0]) ∧ ∃ h g b, RgL w' p h g b s 2 [] ∧ Below w.heap.size w w' ∧ w.heap.size ≤ b := by
  refine ⟨[115, 101, 101, 100], (new_ok [115, 101, 101, 100] (by decide) 2 (by decide) (by decide) w hK hT).mono ?_⟩
  rintro e w' ⟨p, h, g, b, rfl, q⟩
  exact ⟨p, rfl, h, g, b, ⟨by decide, by decide, q.ring, hK.stays q.low hK.pos, hT.stays q.low⟩, q.low, q.far⟩
theorem aw_new (p : Nat) (W : World) (q : ∃ h g b, RgL W p h g b s 2 [] ∧ Below w.heap.size w W ∧ w.heap.size ≤ b) : Calls Tryz.prog 34 #[pt p 0, nu 1] W fun e w' => ∃ G, e = .returned (.tuple #[pt G 0, nu 0]) ∧ St w s (newU 1) 0 G w' := by
  obtain ⟨h, g, b, q1, q2, q3⟩ := q
  refine (unew_ok q1.rg (me := 1) rfl).mono ?_
  rintro e w' ⟨rfl, u, hb⟩
  have l1 := row_ltA q1.ring.obj
  have l2 := row_ltA q1.ring.var
  have l3 := row_ltA q1.ring.keys
  have l4 := q1.ring.book.lt
  exact ⟨_, rfl, p, h, g, b, [], u, q1.kept hb, Nat.le_refl _, q2.trans (hb.mono q2.size), ⟨l1, l2, l3, l4⟩, q3, q2.size, tabs_size q1.tb⟩
theorem aw_ask (G : Nat) (W : World) (q : St w s (newU 1) 0 G W) : Calls Tryz.prog 35 #[pt G 0, nu 1, nu 1, .string ⟨#[118]⟩] W fun e w' => ∃ MV, e = .returned (.tuple #[.agg (List.toArray MV), nu 0]) ∧ St w s (u3 (tagB s (entA u1 1 1)) (tagB s (entD u1))) 2 G w' ∧ MV.length = 275 ∧ (∀ u ∈ MV, u.oneCell' = true) ∧ MV[2]? = some (nu 1) := by
  obtain ⟨p, h, g, b, L, u, r, hL, hb, ⟨hp, hh, hg, hbG⟩, hwb, hwG, h4⟩ := q
  have xw : (u3 (tagB s (entA u1 1 1)) (tagB s (entD u1))).asked.Wf := ⟨tagB_len _ _, tagB_len _ _⟩
  have hGl := row_ltA u.row
  refine (uask_core (w := W) (G := G) (b := b) (me := 1) (v := [118]) (vo := []) (R0 := uregC p (newU 1)) (R1 := uregC p u1) (R2 := uregC p (u3 (tagB s (entA u1 1 1)) (tagB s (entD u1)))) (A3 := [pt p 0, nu 1, st []]) (A4 := [pt p 0, nu 1, st [], st [118]]) (C := subC zeroS) (VX := subC (nextS s u1 1 1)) (MV := msgC (subM 1 (nextS s u1 1 1)) (.slice none 0 0) (.slice none 0 0)) (Z := msgC (zeroM 0 0) (.slice none 0 0) (.slice none 0 0))
    (RL := fun V => RgL V p h g b s 2 L ∧ Below w.heap.size w V) (RL' := fun V => RgL V p h g b s 2 (bookN L u1 1 1) ∧ Below w.heap.size w V)
    u.row ⟨r, hb⟩ (by omega) (fun V V' a c => ⟨a.1.kept c, a.2.trans (c.mono a.2.size)⟩) (fun V V' a c => ⟨rgl_but a.1 h4 hp hh hg hbG c, c.below a.2 hwG⟩) (fun V V' a c => ⟨a.1.kept c, a.2.trans (c.mono a.2.size)⟩) (fun V V' a c => ⟨rgl_but a.1 h4 hp hh hg hbG c, c.below a.2 hwG⟩) (fun V V' x a c d => ⟨rgl_but a.1 (by omega) (by omega) (by omega) (by omega) (by omega) d, d.below a.2 (by have := hb.size; omega)⟩)
    (fun V hr => umade_any ⟨hr, wfZeroS⟩) (fun V hr => ubusy_any (U := newU 1) ⟨hr, wfZeroS⟩) (fun V hr a => urefuses_ok (U := newU 1) ⟨hr, wfZeroS⟩ a.1.rg rfl [118] (by decide) (by decide)) (fun V => Hist.clone_any [118] (by decide) V)
    (fun V hr a => (unext_any (U := u1) ⟨hr, wfZeroS⟩ a.1 1 1 (by decide) ⟨by decide, by decide⟩ ⟨by decide, by decide⟩ ⟨by decide, by decide⟩ (by omega) len_a len_d).mono (fun e V' c => ⟨c.1, ⟨a.1.touch c.2.2 c.2.1, a.2.trans (c.2.2.below hwb a.2.size)⟩, c.2.2⟩))
    (fun V hr => usubmit_any (U := u3 (tagB s (entA u1 1 1)) (tagB s (entD u1))) ⟨hr, xw⟩)
    (ureg_mk3 p (newU 1)) (ureg_mk3 p u1) (ureg_mk p u1) (ureg_mk p (u3 (tagB s (entA u1 1 1)) (tagB s (entD u1)))) rfl rfl (by rw [subC_len wfZeroS, subC_len (nextS_wf s u1 1 1)]) (one_sub _) (szSY (nextS_wf s u1 1 1)) zeroMsg (by rw [msgC_len zeroM0_wf, msgC_len (vsub_wf (nextS_wf s u1 1 1))]) (one_msgN _) (szMY (vsub_wf (nextS_wf s u1 1 1)) _ _) (fun V cs t f x a hr => a.1.ring.book.ne hr)).mono ?_
  rintro e V ⟨rfl, hr, ⟨a1, a2⟩, hk⟩
  have n1 := noteL_len L (entA u1 1 1)
  have n2 := noteL_len (noteL L (entA u1 1 1)) (entD u1)
  refine ⟨_, rfl, ⟨p, h, g, b, bookN L u1 1 1, ⟨hr, xw⟩, a1, by unfold bookN; omega, a2, ⟨hp, hh, hg, hbG⟩, hwb, hwG, h4⟩, msgC_len (vsub_wf (nextS_wf s u1 1 1)) _ _, one_msgN _, rfl⟩
theorem aw_reply (a d : List UInt8) (ha : a.length = 32) (hd : d.length = 32) (G : Nat) (W : World) (q : St w s (u3 a d) 2 G W) : Calls Tryz.prog 36 #[pt G 0, .agg (msgC (repM y1) (.slice none 0 0) (.slice none 0 0)).toArray] W fun e w' => ∃ GV, e = .returned (.tuple #[.agg (List.toArray GV), nu 0]) ∧ St w s u4 2 G w' ∧ W.heap.size ≤ w'.heap.size ∧ Rows1 G W w' ∧ GV.length = 70 ∧ (∀ u ∈ GV, u.oneCell' = true) ∧ GV[0]? = some (st [1]) := by
  obtain ⟨p, h, g, b, L, u, r, hL, hb, ⟨hp, hh, hg, hbG⟩, hwb, hwG, h4⟩ := q
  have xw : (u3 a d).asked.Wf := ⟨ha, hd⟩
  have gw : (learnG [by8 1] y1).Wf := learnG_wf y1_wf
  refine (ureply_core (w := W) (G := G) (p := p) (me := 1) (yn := 1) (vw := []) (nv := [1]) (R0 := uregC p (u3 a d)) (R1 := uregC p ⟨1, [1], [118], ⟨1, 1, 1, [118], a, d⟩⟩) (R2 := uregC p u4) (A2 := [pt p 0, nu 1]) (A4 := [pt p 0, nu 1, st [1], st [118]]) (C2 := [st [118]] ++ subC ⟨1, 1, 1, [118], a, d⟩) (VA := subC ⟨1, 1, 1, [118], a, d⟩) (VR := repC y1 (.slice none 0 0)) (MV := msgC (repM y1) (.slice none 0 0) (.slice none 0 0)) (GV := gotC (learnG [by8 1] y1)) (Z := gotC zeroT) (ZS := subC zeroS)
    u.row (fun V hr => umade_any ⟨hr, xw⟩) (fun V hr => by have := ubusy_any (U := u3 a d) ⟨hr, xw⟩; rw [busy_of (u3 a d) (by show (1 : Int) ≠ 0; decide)] at this; exact this)
    (fun V c => by have := umay_any (vP := .slice none 0 0) (vN := .slice none 0 0) (repM_wf y1_wf) (repM_rng y1_rng) (PensAt.nil V) (IntsAt.nil V) ⟨Nat.zero_le _, Nat.zero_le _⟩ (r.tb.stays c); rw [may_y1] at this; exact this)
    (fun V c => check_first (me := 1) ⟨by decide, by decide⟩ (r.rg.kept c) (x := ⟨1, 1, 1, [118], a, d⟩) xw (by exact ⟨⟨by show (-9223372036854775808 : Int) ≤ 1; decide, by show (1 : Int) ≤ _; decide⟩, ⟨by show (-9223372036854775808 : Int) ≤ 1; decide, by show (1 : Int) ≤ _; decide⟩, ⟨by show (-9223372036854775808 : Int) ≤ 1; decide, by show (1 : Int) ≤ _; decide⟩, ⟨by show (-9223372036854775808 : Int) ≤ 1; decide, by show (1 : Int) ≤ _; decide⟩, ⟨by show (-9223372036854775808 : Int) ≤ 1; decide, by show (1 : Int) ≤ _; decide⟩, i64_zero, i64_zero, i64_zero, i64_zero, i64_zero, i64_zero, (fun n hn => by cases hn), (fun p hp => by cases hp)⟩) y1_wf y1_rng (PensAt.nil V) rfl rfl (ask_ok1 a d) (ans_ok1 a d) (by show (1 : Int) ≠ 2; decide))
    (fun V hr => by have k : UAt V G p (u3 a d) := ⟨hr, xw⟩; exact ⟨k.c0, k.c1, k.c2, k.c4, k.c4 0 _ rfl⟩)
    (fun V x hr => ⟨mrow_kind hr (repM_wf y1_wf), mrow_rep hr (repM_wf y1_wf), mrow_rep_number hr (repM_wf y1_wf)⟩)
    (fun V x hr => row_cell (A := []) (C := (gotC (learnG [by8 1] y1)).drop 1) hr rfl rfl)
    (ureg_mk2 p (u3 a d)) (ureg_mk2 p ⟨1, [1], [118], ⟨1, 1, 1, [118], a, d⟩⟩) (ureg_mk p ⟨1, [1], [118], ⟨1, 1, 1, [118], a, d⟩⟩) (ureg_mk p u4) rfl rfl (by rw [subC_len wfZeroS, subC_len (x := ⟨1, 1, 1, [118], a, d⟩) xw]) (one_sub _) (szSY wfZeroS) build_sub0 (szSY xw) (szRY y1_wf _) (szMY (repM_wf y1_wf) _ _) zeroGot (gotC_len zeroT_wf) (gotC_len gw) (one_got _) (szGY gw)).mono ?_
  rintro e V ⟨rfl, hr, hk⟩
  have hbt : ∀ k, k < W.heap.size → k ≠ G → V.heap[k]? = W.heap[k]? := fun k hl hn => hk.block k hl (by simpa using hn)
  have l1 := row_ltA r.ring.obj
  have l2 := row_ltA r.ring.var
  have l3 := row_ltA r.ring.keys
  have l4 := r.ring.book.lt
  have ls := tabs_size r.tb
  refine ⟨_, rfl, ⟨p, h, g, b, L, ⟨hr, wfZeroS⟩, ⟨r.n2, r.n8, ⟨(hbt p l1 (by omega)).trans r.ring.obj, (hbt h l2 (by omega)).trans r.ring.var, (hbt g l3 (by omega)).trans r.ring.keys, r.ring.book.at (hbt b l4 (by omega))⟩, ?_, ?_⟩, hL, hb.trans (hk.below (by simpa using hwG) hb.size), ⟨hp, hh, hg, hbG⟩, hwb, hwG, h4⟩, hk.size, fun k cs t h1 h2 => hk.row h1 (by simpa using h2), gotC_len gw, one_got _, rfl⟩
  · obtain ⟨t, fr, h0⟩ := r.kt
    exact ⟨t, fr, (hbt 0 (by omega) (by omega)).trans h0⟩
  · obtain ⟨h1, tp, x, h2⟩ := r.tb
    have ev : ∀ (nm : String) (i : Nat) (cs : Array Value), Tryz.prog.globalNamed nm = some i → i < 4 → W.var? Tryz.prog nm = some cs → V.var? Tryz.prog nm = some cs := by
      intro nm i cs e1 e2 e3
      unfold World.var? at *
      rw [e1] at *
      simp only [Option.bind_some] at *
      rw [hbt i (by omega) (by omega)]
      exact e3
    exact ⟨ev _ _ _ Lay.gPow (by omega) h1, tp, x, ev _ _ _ Lay.gRange (by omega) h2⟩
theorem aw_commit (G : Nat) (W : World) (q : St w s u4 2 G W) : Calls Tryz.prog 37 #[pt G 0] W fun e w' => ∃ MV, e = .returned (.tuple #[.agg (List.toArray MV), .bool true]) ∧ St w s u4 3 G w' ∧ Rows1 G W w' ∧ MV.length = 275 ∧ (∀ u ∈ MV, u.oneCell' = true) ∧ MV[173]? = some (st [1]) := by
  obtain ⟨p, h, g, b, L, u, r, hL, hb, ⟨hp, hh, hg, hbG⟩, hwb, hwG, h4⟩ := q
  have lt := tagB_len s (1, 3, [1])
  have cw : (comM 1 [1] (tagB s (1, 3, [1]))).Wf := ⟨wfZeroS, wfZeroR, lt, rfl, wfZeroB⟩
  refine (ucommit_core (w := W) (G := G) (b := b) (me := 1) (cn := 1) (vw := [1]) (DT := dg (tagB s (1, 3, [1]))) (MV := msgC (comM 1 [1] (tagB s (1, 3, [1]))) (.slice none 0 0) (.slice none 0 0)) (Z := msgC (zeroM 0 0) (.slice none 0 0) (.slice none 0 0)) (L0 := L) (L1 := noteL L (1, 3, [1])) rfl r.ring.book (fun V ht => (u.touch r.ring.book ht).c1) (fun V ht => (u.touch r.ring.book ht).c2) (fun V ht => unumber_any (u.touch r.ring.book ht) (by decide)) (fun V ht hk => utag_any (U := u4) (u.touch r.ring.book ht) (r.touch ht hk) 3 ⟨by decide, by decide⟩ [1] (by decide) ⟨by decide, by decide⟩ (by omega)) (fun V => build_comm V 1 [1] _ lt) zeroMsg (by rw [msgC_len zeroM0_wf, msgC_len cw]) (one_msgN _) (szMY cw _ _)).mono ?_
  rintro e V ⟨rfl, hk, ht⟩
  have n1 := noteL_len L (1, 3, [1])
  exact ⟨_, rfl, ⟨p, h, g, b, noteL L (1, 3, [1]), u.touch r.ring.book ht, r.touch ht hk, by omega, hb.trans (ht.below hwb hb.size), ⟨hp, hh, hg, hbG⟩, hwb, hwG, h4⟩, rows_touch r.ring.book ht, msgC_len cw _ _, one_msgN _, com_at173 _ _⟩
theorem uawake_any (w : World) (hK : Ktab w) (hT : Lay.Tabs w) : Calls Tryz.prog 10 #[] w fun e w' => e = .returned (.bool true) ∧ Below w.heap.size w w' := by
  obtain ⟨s, HR⟩ := aw_ring w hK hT
  exact uawake_core (S1 := fun p W => ∃ h g b, RgL W p h g b s 2 [] ∧ Below w.heap.size w W ∧ w.heap.size ≤ b) (S2 := St w s (newU 1) 0) (S3 := St w s (u3 (tagB s (entA u1 1 1)) (tagB s (entD u1))) 2) (S4 := St w s u4 2) (S5 := St w s u4 3) (En := fun W => Below w.heap.size w W)
    (fun _ _ _ q hb => q.kept hb) (fun _ _ _ q hb => q.kept hb) (fun _ _ _ q hb => q.kept hb) (fun _ _ q => by obtain ⟨p, h, g, b, L, u, -⟩ := q; exact row_ltA u.row) (fun _ _ q => by obtain ⟨p, h, g, b, L, -, -, -, q4, -⟩ := q; exact q4)
    HR aw_new aw_ask (fun G W q => by obtain ⟨p, h, g, b, L, u, -⟩ := q; exact uask_busy u (busy_of _ (by show (1 : Int) ≠ 0; decide)) 1 1 [119]) (fun G W q => aw_reply _ _ (tagB_len _ _) (tagB_len _ _) G W q) aw_commit
    (fun G W q => by obtain ⟨p, h, g, b, L, u, -⟩ := q; exact unumber_any u (by decide)) (fun G W q => by obtain ⟨p, h, g, b, L, u, -⟩ := q; exact uvalue_any u) (fun G W q => by obtain ⟨p, h, g, b, L, u, -⟩ := q; exact ubusy_any u)
    build_y1 (fun W => build_repm W y1 y1_wf _) zeroMsg (msgC_len zeroM0_wf _ _) (one_msgN _) sizeMsg zeroGot (gotC_len zeroT_wf) sizeGot
end
end Go.Proofs.YtekfcbedlokidaaGreatDoor.Ms
