/-
  SectSafe: what is synced is there behind any crash.
-/
import Derived.Test.YtjledbgoknclcaaWmd
import Derived.Test.YtjledbgoknclcaaWsp
import Derived.Deep.RegionHeld3
import Derived.Deep.CutRange
import Derived.BigQuiet
namespace Go.Proofs.Ytjledbgoknclcaa
open Go Go.RowKit
set_option maxRecDepth 100000

theorem step_cat {ops : Array Oper} {o : Oper} {a : Act} {K : Act → World → Prop} {Q : Exit → Act → World → Prop} {E : Prop} (W : World) (hgd : o.guard = none) (s x : Operand) (t e : TypeId)
    (ho : o.op = .call { callee := .builtin .append, args := #[s, x], argTypes := #[t, t] }) (z : Value) (by' : Nat) (ht : Try.prog.underlying t = some (.slice e)) (hinfo : (Try.prog.info? e).map (fun i => (i.zero, i.size, i.bytes)) = some (some z, 1, by'))
    (hzs : z.cells.size = 1) (hby : by' ≤ 16) (base : Nat) (v : Value) (ad : Addr) (m c : Nat) (news : List Value) (hs : a.eval s = v) (hx : a.eval x = .slice (some ad) m c) (hown : W.ownsRow base e 1 v 0 []) (hl : news.length = m)
    (hnews : ∀ j u, news[j]? = some u → W.cell? (ad.add j) = some u) (h1 : ∀ u ∈ news, u.oneCell' = true) (hn : m < 1000000) (hbase : base ≤ W.heap.size)
    (h : ∀ v' w', w'.ownsRow base e 1 v' m news → W.grownBy w' v.ownBlock → (v'.ownBlock = v.ownBlock ∨ v'.ownBlock = some W.heap.size) → K (a.put o.dst v') w') :
    if Region.wanted o (yielded ops a.tmps) = true then Oper.wp Try.prog o a W K Q else E := by
  have hw : Region.wanted o (yielded ops a.tmps) = true := by simp [Region.wanted, hgd]
  rw [if_pos hw]
  obtain ⟨i, hi, hz0, hz1, hz2⟩ := info_parts hinfo
  obtain ⟨v', w', hr, g1, g2, -, g4⟩ := run_append_own_at (P := Try.prog) W base t o.type e i z 1 by' ht hi hz0 hz1 hz2 hzs (by decide) v 0 [] hown ad m c news (by omega) hnews h1 (by unfold maxLen; omega) (by have := Nat.mul_le_mul (show 0 + m ≤ 1000000 by omega) hby; omega) hbase
  unfold Oper.wp execOp
  simp only [ho, resolve, invoke, builtin, Sem.run_bind, Sem.run_pure, Result.andThen_ok, List.map_toArray, List.map_cons, List.map_nil, hs, hx, hr]
  exact h v' w' (by simpa using g1) g2 g4

theorem own_lit {W : World} {k base : Nat} (h : W.heap[k]? = some (.cells #[] 9)) (hb : base ≤ k) : W.ownsRow base 9 1 (.slice (some ⟨k, 0, none⟩) 0 0) 0 [] :=
  ⟨rfl, .inr ⟨k, 0, #[], rfl, hb, h, Nat.le_refl _, by unfold maxLen; omega, rfl, rfl⟩⟩
theorem one_tx (l : List UInt8) : (tx l).oneCell' = true := rfl
theorem one_now (S : List Sec) : ∀ u ∈ nowL S, u.oneCell' = true := by
  intro u hu; obtain ⟨s, -, rfl⟩ := List.mem_map.1 hu; rfl
theorem one_old (S : List Sec) : ∀ u ∈ oldL S, u.oneCell' = true := by
  intro u hu; obtain ⟨s, -, rfl⟩ := List.mem_map.1 hu; rfl
theorem RefAt.cellsL {w : World} {r : Rx} {D : Dk} (h : RefAt w r D) : ∀ j u, (nowL D.S)[j]? = some u → w.cell? ((⟨r.gL, 0, none⟩ : Addr).add j) = some u := by
  intro j u hj
  have hl := (List.getElem?_eq_some_iff.1 hj).1
  rw [add_none, Nat.zero_add, cell_of_row _ _ _ _ _ _ h.L, List.getElem?_toArray, List.getElem?_append_left hl]
  exact hj
theorem RefAt.cellsO {w : World} {r : Rx} {D : Dk} (h : RefAt w r D) : ∀ j u, (oldL D.S)[j]? = some u → w.cell? ((⟨r.gO, 0, none⟩ : Addr).add j) = some u := by
  intro j u hj
  have hl := (List.getElem?_eq_some_iff.1 hj).1
  rw [add_none, Nat.zero_add, cell_of_row _ _ _ _ _ _ h.O, List.getElem?_toArray, List.getElem?_append_left hl]
  exact hj
theorem lit1 (w : World) : ((w.alloc (.cells #[] 9)).drew).heap[w.heap.size]? = some (.cells #[] 9) ∧ Below w.heap.size w ((w.alloc (.cells #[] 9)).drew) := ⟨top_row w _, (below_a1 w _).drew⟩
theorem lit2 (w : World) : (((w.alloc (.cells #[] 9)).alloc (.cells #[] 9)).drew).heap[w.heap.size]? = some (.cells #[] 9) ∧ (((w.alloc (.cells #[] 9)).alloc (.cells #[] 9)).drew).heap[w.heap.size + 1]? = some (.cells #[] 9) ∧ Below w.heap.size w (((w.alloc (.cells #[] 9)).alloc (.cells #[] 9)).drew) :=
  ⟨heap_alloc2_old w _ _, heap_alloc2_new w _ _, (below_more (below_a1 w _) _ (Nat.le_refl _)).drew⟩

theorem below_cat {w W W3 : World} {k : Nat} (h : Below w.heap.size w W) (hk : w.heap.size ≤ k) (hg : W.grownBy W3 (Value.slice (some ⟨k, 0, none⟩) 0 0).ownBlock) : Below w.heap.size w W3 :=
  h.grown hg h.size (fun j hj => by simp [Value.ownBlock] at hj; omega)

theorem own_cells {W : World} {B n : Nat} {v : Value} {xs : List Value} (h : W.ownsRow B 9 1 v n xs) (hn : 0 < n) : ∃ b1 c1, v = .slice (some ⟨b1, 0, none⟩) n c1 ∧ B ≤ b1 ∧ b1 < W.heap.size ∧ ∀ j u, xs[j]? = some u → W.cell? ⟨b1, j, none⟩ = some u := by
  have hc : ∀ {g : Nat}, v.ownBlock = some g → _ := fun {g} hg => h.cells (g := g) hg
  rcases h.2 with ⟨rfl, h0⟩ | ⟨g, cap, cur, rfl, hb, hg, hl, -⟩
  · omega
  · refine ⟨g, cap, rfl, hb, row_lt hg, fun j u hj => ?_⟩
    have h9 := hc (g := g) rfl j u hj
    rw [add_none, Nat.zero_add] at h9
    exact h9
theorem byte_get (y : List UInt8) (j : Nat) (h : j < (⟨y.toArray⟩ : ByteArray).size) : ((⟨y.toArray⟩ : ByteArray)[j]'h).toNat = (y.getD j 0).toNat := by
  have h' : j < y.length := h
  rw [List.getD_eq_getElem?_getD, List.getElem?_eq_getElem h']; rfl
theorem lit_kept {W W3 : World} {k k2 : Nat} (h : W.heap[k]? = some (.cells #[] 9)) (hg : W.grownBy W3 (Value.slice (some ⟨k2, 0, none⟩) 0 0).ownBlock) (hne : k ≠ k2) : W3.heap[k]? = some (.cells #[] 9) :=
  (hg.block k (row_lt h) (by simp [Value.ownBlock]; exact hne)).trans h
theorem lit_ne {v : Value} {k k2 n : Nat} (h : v.ownBlock = (Value.slice (some ⟨k2, 0, none⟩) 0 0).ownBlock ∨ v.ownBlock = some n) (h1 : k ≠ k2) (h2 : k ≠ n) : v.ownBlock ≠ some k := by
  intro e
  rcases h with e2 | e2
  · rw [e2] at e; simp [Value.ownBlock] at e; omega
  · rw [e2] at e; simp at e; omega

set_option maxHeartbeats 4000000 in
theorem safe_walk (w : World) (a : Option Addr) (len cap : Nat) (ha : ActsAt w a len) (v1 v2 : Value) (ks ms : List Int) (hk : IntsAt w v1 ks) (hm : IntsAt w v2 ms) :
    Calls Try.prog 4 #[.slice a len cap, v1, v2] w fun e w' => e = .returned (.bool true) ∧ Below w.heap.size w w' := by
  have HM := hid (made_ok w 6 (by omega) (by omega) a len cap ha)
  have HAW := hid awake_any
  have HK1 := hid hk
  have HK2 := hid hm
  obtain ⟨kao, kcap, rfl, -⟩ := hk
  obtain ⟨mao, mcap, rfl, -⟩ := hm
  clear ha
  go_enter Try.func4, Try.ntmps4
  go_wp2_with fail
  refine HM.out.mono ?_
  rintro e w1 ⟨d, g, r, D, rfl, hB1, hL1, hb1, hg1⟩
  have HBo := hid hB1
  have HLn := hid hL1
  have HB1 := hid hb1
  have HG := hid hg1
  clear hB1 hL1 hb1 hg1 HM
  go_wp2_with fail
  refine (HAW.out _).mono ?_
  rintro e w2 ⟨rfl, hb2⟩
  have HBo2 := hid (HBo.out.kept hb2)
  have HB2 : Hid (Below w.heap.size w w2) := HB1.out.trans (hb2.mono HB1.out.size)
  clear hb2 HBo HB1 HAW
  go_wp2_with fail
  have q0 := HBo2.out.ref.c0
  have q1 := HBo2.out.ref.c1
  rw [HLn.out] at q0 q1
  have HH : Hid (∀ W, Below w2.heap.size w2 W → W.cell? ⟨r.x, 0, none⟩ = some (.slice (some ⟨r.gL, 0, none⟩) 6 r.cL) ∧ W.cell? ⟨r.x, 1, none⟩ = some (.slice (some ⟨r.gO, 0, none⟩) 6 r.cO)) := by
    intro W hb
    have h9 := (HBo2.out.kept hb).ref
    have h8 := h9.c0
    have h7 := h9.c1
    rw [HLn.out] at h8 h7
    exact ⟨h8, h7⟩
  have HN1 : Hid (∀ W, Below w2.heap.size w2 W → ∀ j u, (nowL D.S)[j]? = some u → W.cell? ((⟨r.gL, 0, none⟩ : Addr).add j) = some u) := fun W hb => (HBo2.out.kept hb).ref.cellsL
  have HN2 : Hid (∀ W, Below w2.heap.size w2 W → ∀ j u, (oldL D.S)[j]? = some u → W.cell? ((⟨r.gO, 0, none⟩ : Addr).add j) = some u) := fun W hb => (HBo2.out.kept hb).ref.cellsO
  have hl1 : Hid ((nowL D.S).length = 6) := by show _ = _; rw [nowL, List.length_map]; exact HLn.out
  have hl2 : Hid ((oldL D.S).length = 6) := by show _ = _; rw [oldL, List.length_map]; exact HLn.out
  clear q0 q1
  go_cut [10, 11] from 36 to 47 (fun x y wc => Hid (wc.ownsRow w2.heap.size 9 1 x 6 (nowL D.S)) ∧ Hid (wc.ownsRow w2.heap.size 9 1 y 6 (oldL D.S)) ∧ Hid (Below w2.heap.size w2 wc))
  case first =>
    go_region_held3 (fun W => W.cell? ⟨r.x, 0, none⟩ = some (.slice (some ⟨r.gL, 0, none⟩) 6 r.cL) ∧ W.cell? ⟨r.x, 1, none⟩ = some (.slice (some ⟨r.gO, 0, none⟩) 6 r.cO)) (with_reducible first | exact HH.out _ HBb | exact HH.out _ (below_more HBa _ (Nat.le_refl _)) | exact HH.out _ HBa | exact HH.out _ (lit2 w2).2.2 | exact HH.out _ (lit1 w2).2 | exact HH.out _ (Below.refl _ _).drew | exact HH.out _ (Below.refl _ _)) (first | (refine step_cat _ (by rfl) (.tmp 36) (.tmp 40) 31 9 (by rfl) _ 16 Try.underlying31 info9 rfl (by omega) w2.heap.size (.slice (some ⟨w2.heap.size, 0, none⟩) 0 0) ⟨r.gL, 0, none⟩ 6 r.cL (nowL D.S) (by rfl) (by rfl) (own_lit (lit1 w2).1 (by omega)) hl1.out (HN1.out _ (lit1 w2).2) (one_now _) (by omega) (lit1 w2).2.size ?_; intro v3 W3 hr3 hg3 hat3; have HBa : Below w2.heap.size w2 W3 := below_cat (lit1 w2).2 (by omega) hg3; clear hg3 hat3) | (refine step_cat _ (by rfl) (.tmp 36) (.tmp 40) 31 9 (by rfl) _ 16 Try.underlying31 info9 rfl (by omega) w2.heap.size (.slice (some ⟨w2.heap.size, 0, none⟩) 0 0) ⟨r.gL, 0, none⟩ 6 r.cL (nowL D.S) (by rfl) (by rfl) (own_lit (lit2 w2).1 (by omega)) hl1.out (HN1.out _ (lit2 w2).2.2) (one_now _) (by omega) (lit2 w2).2.2.size ?_; intro v3 W3 hr3 hg3 hat3; have HBa : Below w2.heap.size w2 W3 := below_cat (lit2 w2).2.2 (by omega) hg3; have hrw : W3.heap[w2.heap.size + 1]? = some (.cells #[] 9) := (lit_kept (lit2 w2).2.1 hg3 (by omega)); have hne3 : v3.ownBlock ≠ some (w2.heap.size + 1) := (lit_ne hat3 (by omega) (by simp <;> omega)); clear hg3 hat3) | (refine step_cat _ (by rfl) (.tmp 36) (.tmp 40) 31 9 (by rfl) _ 16 Try.underlying31 info9 rfl (by omega) w2.heap.size (.slice (some ⟨w2.heap.size + 1, 0, none⟩) 0 0) ⟨r.gL, 0, none⟩ 6 r.cL (nowL D.S) (by rfl) (by rfl) (own_lit (lit2 w2).2.1 (by omega)) hl1.out (HN1.out _ (lit2 w2).2.2) (one_now _) (by omega) (lit2 w2).2.2.size ?_; intro v3 W3 hr3 hg3 hat3; have HBa : Below w2.heap.size w2 W3 := below_cat (lit2 w2).2.2 (by omega) hg3; have hrw : W3.heap[w2.heap.size]? = some (.cells #[] 9) := (lit_kept (lit2 w2).1 hg3 (by omega)); have hne3 : v3.ownBlock ≠ some w2.heap.size := (lit_ne hat3 (by omega) (by simp <;> omega)); clear hg3 hat3) | (refine step_cat _ (by rfl) (.tmp 42) (.tmp 46) 31 9 (by rfl) _ 16 Try.underlying31 info9 rfl (by omega) w2.heap.size (.slice (some ⟨W3.heap.size, 0, none⟩) 0 0) ⟨r.gO, 0, none⟩ 6 r.cO (oldL D.S) (by rfl) (by rfl) (own_lit (top_row W3 _) HBa.size) hl2.out (HN2.out _ (below_more HBa _ (Nat.le_refl _))) (one_old _) (by omega) (below_more HBa _ (Nat.le_refl _)).size ?_; intro v4 W4 hr4 hg4 hat4; have HBb : Below w2.heap.size w2 W4 := below_cat (below_more HBa _ (Nat.le_refl _)) HBa.size hg4; have HV3 : Hid (W4.ownsRow w2.heap.size 9 1 v3 6 (nowL D.S)) := (hr3.alloc _).kept hg4 (.inr (fun e => by have h9 := (hr3.lt _ e).2; simp at h9)); clear hg4 hat4) | (refine step_cat _ (by rfl) (.tmp 42) (.tmp 46) 31 9 (by rfl) _ 16 Try.underlying31 info9 rfl (by omega) w2.heap.size (.slice (some ⟨w2.heap.size + 1, 0, none⟩) 0 0) ⟨r.gO, 0, none⟩ 6 r.cO (oldL D.S) (by rfl) (by rfl) (own_lit hrw (by omega)) hl2.out (HN2.out _ HBa) (one_old _) (by omega) HBa.size ?_; intro v4 W4 hr4 hg4 hat4; have HBb : Below w2.heap.size w2 W4 := below_cat HBa (by omega) hg4; have HV3 : Hid (W4.ownsRow w2.heap.size 9 1 v3 6 (nowL D.S)) := hr3.kept hg4 (.inr hne3); clear hg4 hat4) | (refine step_cat _ (by rfl) (.tmp 42) (.tmp 46) 31 9 (by rfl) _ 16 Try.underlying31 info9 rfl (by omega) w2.heap.size (.slice (some ⟨w2.heap.size, 0, none⟩) 0 0) ⟨r.gO, 0, none⟩ 6 r.cO (oldL D.S) (by rfl) (by rfl) (own_lit hrw (by omega)) hl2.out (HN2.out _ HBa) (one_old _) (by omega) HBa.size ?_; intro v4 W4 hr4 hg4 hat4; have HBb : Below w2.heap.size w2 W4 := below_cat HBa (by omega) hg4; have HV3 : Hid (W4.ownsRow w2.heap.size 9 1 v3 6 (nowL D.S)) := hr3.kept hg4 (.inr hne3); clear hg4 hat4))
    all_goals
      have HV4 := hid hr4
      have HBb' := hid HBb
      go_wp2_with fail
      go_meet
      case rel => exact ⟨HV3, HV4, HBb'⟩
  case rest =>
    obtain ⟨HV3, HV4, HBc⟩ := hcut
    have HWAS : Hid (∃ b1 c1, u10 = .slice (some ⟨b1, 0, none⟩) 6 c1 ∧ w2.heap.size ≤ b1 ∧ b1 < wc.heap.size ∧ ∀ j u, (nowL D.S)[j]? = some u → wc.cell? ⟨b1, j, none⟩ = some u) := own_cells HV3.out (by omega)
    have HOLD : Hid (∃ b1 c1, u11 = .slice (some ⟨b1, 0, none⟩) 6 c1 ∧ w2.heap.size ≤ b1 ∧ b1 < wc.heap.size ∧ ∀ j u, (oldL D.S)[j]? = some u → wc.cell? ⟨b1, j, none⟩ = some u) := own_cells HV4.out (by omega)
    obtain ⟨b1, c1, hu10, hb1, hb1l, hcw⟩ := HWAS.out
    obtain ⟨b2, c2, hu11, hb2, hb2l, hco⟩ := HOLD.out
    subst hu10 hu11
    have HCW := hid hcw
    have HCO := hid hco
    have HBoc := hid (HBo2.out.kept HBc.out)
    have HBwc : Hid (Below w.heap.size w wc) := HB2.out.trans (HBc.out.mono HB2.out.size)
    have HCr := hid (crash_any HBoc.out.disk _ _ (HK1.out.kept HBwc.out))
    have hd2 := hid (row_lt HBo2.out.disk.obj)
    have hg2 := hid (row_lt HBo2.out.disk.row)
    have Hb1 := hid hb1
    have Hb2 := hid hb2
    have Hb1l := hid hb1l
    have Hb2l := hid hb2l
    clear hcw hco HWAS HOLD HV3 HV4 HH HN1 HN2 hl1 hl2 hb1 hb2 hb1l hb2l
    go_wp2_with fail
    refine HCr.out.mono ?_
    rintro e w5 ⟨rfl, h5, k5⟩
    have HD5 := hid h5
    have HB5 : Hid (Below w.heap.size w w5) := HBwc.out.trans (k5.below (fun x hx => HG.out x (by simp at hx ⊢; omega)) HBwc.out.size)
    have HCW5 : Hid (b1 < w5.heap.size ∧ ∀ j u, (nowL D.S)[j]? = some u → w5.cell? ⟨b1, j, none⟩ = some u) := by
      have e1 := hd2.out
      have e2 := hg2.out
      have e3 := Hb1.out
      have e4 := Hb1l.out
      refine ⟨Nat.lt_of_lt_of_le Hb1l.out k5.size, fun j u hj => ?_⟩
      rw [← HCW.out j u hj]
      simp only [World.cell?, k5.block b1 e4 (by simp; omega)]
    have HCO5 : Hid (b2 < w5.heap.size ∧ ∀ j u, (oldL D.S)[j]? = some u → w5.cell? ⟨b2, j, none⟩ = some u) := by
      have e1 := hd2.out
      have e2 := hg2.out
      have e3 := Hb2.out
      have e4 := Hb2l.out
      refine ⟨Nat.lt_of_lt_of_le Hb2l.out k5.size, fun j u hj => ?_⟩
      rw [← HCO.out j u hj]
      simp only [World.cell?, k5.block b2 e4 (by simp; omega)]
    have HOKS := hid HBo2.out.disk.ok
    clear h5 k5 HCW HCO HCr HBoc HBwc hd2 hg2 Hb1 Hb2 Hb1l Hb2l HB2 HBc HBo2 HK1
    obtain ⟨S, ar, dn⟩ := D
    obtain ⟨T, hT⟩ : ∃ T, T = (tearAll S ks).map (fun s => s.now) := ⟨_, rfl⟩
    have HT := hid hT
    have HT6 : Hid (T.length = 6) := by show _ = _; rw [hT, List.length_map, tearAll_len]; exact HLn.out
    clear hT
    have hr0 : Hid (w5.ownsRow w5.heap.size 9 1 (.slice none 0 0) 0 ((T.take 0).map tx)) := World.ownsRow_nil w5 _ _ _
    go_wp2
    go_loopw [12, 13] (fun v i w' => ∃ j : Nat, j ≤ 6 ∧ i = .int .i64 j ∧ Hid (w'.ownsRow w5.heap.size 9 1 v j ((T.take j).map tx)) ∧ Hid (Below w5.heap.size w5 w')) (fun _ i _ => 6 - (intOf i).toNat)
    case atStart => exact ⟨0, by omega, rfl, hr0, Below.refl _ _⟩
    case round =>
      clear hr0
      obtain ⟨j, hj, rfl, HR, HB⟩ := hrel
      by_cases hlt : j < 6
      · have d1 : decide ((j : Int) < 6) = true := by simp; omega
        have d1' : decide (j < 6) = true := by simpa using hlt
        have hjS : j < S.length := by have h9 : S.length = 6 := HLn.out; omega
        have hjT : j < T.length := by rw [HT6.out]; exact hlt
        have hj5 : j < (tearAll S ks).length := by rw [tearAll_len]; exact hjS
        obtain ⟨s, hs⟩ : ∃ s, s = T[j] := ⟨_, rfl⟩
        have hs5 : s = (tearAll S ks)[j].now := by rw [hs]; simp only [HT.out, List.getElem_map]
        have hok5 := tearAll_ok HOKS.out ks _ (List.getElem_mem hj5)
        have hsl : s.length = 64 := by rw [hs5]; exact hok5.1
        have hrd : readE (crashD ⟨S, ar, dn⟩ ks) (j : Int) = 0 ∧ readT (crashD ⟨S, ar, dn⟩ ks) (j : Int) = s := by
          have hh : hasB (crashD ⟨S, ar, dn⟩ ks).S.length (j : Int) = true := by
            rw [crashD_len]
            unfold hasB
            simp; omega
          constructor
          · unfold readE; rw [hh]; rfl
          · unfold readT
            rw [hh]
            show ((tearAll S ks).getD (j : Int).toNat sec0).now = s
            rw [Int.toNat_natCast, hs5]
            simp [List.getD, hj5]
        have HRd := hid (read_any (HD5.out.kept (X := []) (Kp.of HB.out) (by simp) (by simp)) (j : Int))
        rw [hrd.1, hrd.2] at HRd
        have hst : (T.take (j + 1)).map tx = (T.take j).map tx ++ [tx s] := by rw [List.take_succ_eq_append_getElem hjT, hs, List.map_append]; rfl
        have HST := hid hst
        have hqw : w5.cell? ⟨b1, j, none⟩ = some (tx S[j].now) := HCW5.out.2 j _ (by simp [nowL, hjS])
        have hqo : w5.cell? ⟨b2, j, none⟩ = some (tx (oldT S[j])) := HCO5.out.2 j _ (by simp [oldL, hjS])
        have HQ : Hid (∀ W, Below w5.heap.size w5 W → W.cell? ⟨b1, j, none⟩ = some (tx S[j].now) ∧ W.cell? ⟨b2, j, none⟩ = some (tx (oldT S[j]))) := by
          intro W hb
          exact ⟨(hb.cell HCW5.out.1).trans hqw, (hb.cell HCO5.out.1).trans hqo⟩
        have hsz : w5.heap.size ≤ wr.heap.size := HB.out.size
        have hss : (⟨s.toArray⟩ : ByteArray).size = 64 := hsl
        have HSL := hid hsl
        have hg := tear_get S ks j hjS
        have hsk := HOKS.out _ (List.getElem_mem hjS)
        clear hrd hst hs hsl hqw hqo hok5 hjT
        go_wp2_with fail
        refine HRd.out.mono ?_
        rintro e w6 ⟨rfl, hw6⟩
        subst w6
        rcases hg with ⟨hold, he⟩ | ⟨o, kk, hold, hkk, he⟩
        · have hsw : s = S[j].now := by rw [hs5, he]
          have hoT : oldT S[j] = [] := old_none_T hold
          rw [← hsw, hoT] at HQ
          unfold tx at HQ
          clear hsw hoT he hold hs5 hsk HRd
          go_wp2_with (first | (at_builtin; refine wpList_push (W := wr) rfl (.tmp 70) (.tmp 72) 31 9 rfl _ 16 Try.underlying31 info9 rfl (by omega) w5.heap.size u12 (.string ⟨s.toArray⟩) j ((T.take j).map tx) rfl rfl HR.out rfl (by omega) hsz ?_; intro v3 w3 hr3 hg3 hat3; have HB3 : Hid (Below w5.heap.size w5 w3) := (HB.out.alloc hsz _).grown hg3 (by simp; omega) (own_ge HR.out); obtain ⟨q1, q2⟩ := HQ.out _ HB3.out; have HR3 : Hid (w3.ownsRow w5.heap.size 9 1 v3 (j + 1) ((T.take (j + 1)).map tx)) := (by show World.ownsRow _ _ _ _ _ _ _; rw [HST.out]; exact hr3); clear hr3 hg3 hat3))
          go_roundw
          case rel => exact ⟨j + 1, by omega, by go_num, HR3, HB3⟩
          case measure => simp [intOf]; omega
        · have hnl : S[j].now.length = 64 := hsk.1
          have hol : o.length = 64 := by have h9 := hsk.2; simp only [oldB, hold] at h9; exact h9
          have hse : s = S[j].now.take kk ++ o.drop kk := by rw [hs5, he]; simp [tornS, oldB, hold]
          have hoT : oldT S[j] = o := by simp [oldT, hold]
          rw [hoT] at HQ
          obtain ⟨nw, hnw⟩ : ∃ n, n = S[j].now := ⟨_, rfl⟩
          rw [← hnw] at HQ hnl hse
          unfold tx at HQ
          have hne : o.isEmpty = false := by
            cases o with
            | nil => simp at hol
            | cons x y => rfl
          have HSE := hid hse
          have HNL := hid hnl
          have HOL := hid hol
          have HKK := hid hkk
          have hsn : (⟨nw.toArray⟩ : ByteArray).size = 64 := hnl
          have hso : (⟨o.toArray⟩ : ByteArray).size = 64 := hol
          clear hoT he hold hs5 hsk HRd hnw hse hnl hol hkk
          go_wp2_with (first | (at_builtin; refine wpList_push (W := wr) rfl (.tmp 70) (.tmp 72) 31 9 rfl _ 16 Try.underlying31 info9 rfl (by omega) w5.heap.size u12 (.string ⟨s.toArray⟩) j ((T.take j).map tx) rfl rfl HR.out rfl (by omega) hsz ?_; intro v3 w3 hr3 hg3 hat3; have HB3 : Hid (Below w5.heap.size w5 w3) := (HB.out.alloc hsz _).grown hg3 (by simp; omega) (own_ge HR.out); obtain ⟨q1, q2⟩ := HQ.out _ HB3.out; have HR3 : Hid (w3.ownsRow w5.heap.size 9 1 v3 (j + 1) ((T.take (j + 1)).map tx)) := (by show World.ownsRow _ _ _ _ _ _ _; rw [HST.out]; exact hr3); clear hr3 hg3 hat3))
          go_loopw [16] (fun kv w' => ∃ (k nn : Nat), k ≤ 64 ∧ kv = .int .i64 k ∧ w' = w3.drewN nn) (fun kv _ => 64 - (intOf kv).toNat)
          case atStart => exact ⟨0, 0, by omega, rfl, rfl⟩
          case round =>
            obtain ⟨k, nn, hk, rfl, hw⟩ := hrel
            subst wr
            by_cases hk64 : k < 64
            · have d2 : decide ((k : Int) < 64) = true := by simp; omega
              have e1 : ((⟨s.toArray⟩ : ByteArray)[k]'(by show k < s.length; rw [HSL.out]; exact hk64)).toNat = (s.getD k 0).toNat := byte_get s k _
              have e2 : ((⟨nw.toArray⟩ : ByteArray)[k]'(by show k < nw.length; rw [HNL.out]; exact hk64)).toNat = (nw.getD k 0).toNat := byte_get nw k _
              by_cases heq : s.getD k 0 = nw.getD k 0
              · rw [← heq] at e2
                generalize (s.getD k 0).toNat = cc at *
                clear heq
                go_wp2_with fail
                go_quiet (fail)
                go_wp2
                go_roundw
                case rel => exact ⟨k + 1, nn + nq, by omega, by go_num, rfl⟩
                case measure => simp [intOf]; omega
              · have hcc : (((s.getD k 0).toNat : Int) == ((nw.getD k 0).toNat : Int)) = false := by
                  simp only [beq_eq_false_iff_ne, ne_eq]
                  intro h9
                  exact heq (UInt8.toNat_inj.1 (by omega))
                have hcc2 : ((s.getD k 0).toNat == (nw.getD k 0).toNat) = false := by
                  simp only [beq_eq_false_iff_ne, ne_eq]
                  intro h9
                  exact heq (UInt8.toNat_inj.1 h9)
                have hdrop : s.drop k = o.drop k := safe_end s nw o kk k HSE.out HNL.out HKK.out (.inr heq)
                have hx1 : (⟨s.toArray⟩ : ByteArray).extract k 64 = ⟨(s.drop k).toArray⟩ := ext_drop _ _ _ HSL.out.symm
                have hx2 : (⟨o.toArray⟩ : ByteArray).extract k 64 = ⟨(s.drop k).toArray⟩ := by rw [hdrop]; exact ext_drop _ _ _ HOL.out.symm
                have hk64i : (k : Int) ≤ 64 := by omega
                clear hdrop
                generalize (s.getD k 0).toNat = cs at *
                generalize (nw.getD k 0).toNat = cn at *
                clear heq
                go_wp2_with fail
                go_quiet (fail)
                go_wp2_with fail
                go_quiet (fail)
                go_wp2
                go_roundw
                case rel => exact ⟨j + 1, by omega, by go_num, HR3, below_drawn HB3.out _⟩
                case measure => simp [intOf]; omega
            · have d2 : decide ((k : Int) < 64) = false := by simp; omega
              obtain rfl : k = 64 := by omega
              have hdrop : s.drop 64 = o.drop 64 := safe_end s nw o kk 64 HSE.out HNL.out HKK.out (.inl rfl)
              have hx1 : (⟨s.toArray⟩ : ByteArray).extract 64 64 = ⟨(s.drop 64).toArray⟩ := ext_drop _ _ _ HSL.out.symm
              have hx2 : (⟨o.toArray⟩ : ByteArray).extract 64 64 = ⟨(s.drop 64).toArray⟩ := by rw [hdrop]; exact ext_drop _ _ _ HOL.out.symm
              have hk64i : ((64 : Nat) : Int) ≤ 64 := by omega
              clear hdrop
              skip
              go_wp2_with fail
              go_quiet (fail)
              go_wp2_with fail
              go_quiet (fail)
              go_wp2
              go_roundw
              case rel => exact ⟨j + 1, by omega, by go_num, HR3, below_drawn HB3.out _⟩
              case measure => simp [intOf]; omega
      · have d1 : decide ((j : Int) < 6) = false := by simp; omega
        have d1' : decide (j < 6) = false := by simpa using hlt
        obtain rfl : j = 6 := by omega
        have HR6 : Hid (∃ b3 c3, u12 = .slice (some ⟨b3, 0, none⟩) 6 c3 ∧ w5.heap.size ≤ b3 ∧ b3 < wr.heap.size ∧ ∀ j u, (T.map tx)[j]? = some u → wr.cell? ⟨b3, j, none⟩ = some u) := by
          have h9 := HR.out
          rw [List.take_of_length_le (by rw [HT6.out]; omega)] at h9
          exact own_cells h9 (by omega)
        obtain ⟨b3, c3, hu12, hb3, hb3l, hc3⟩ := HR6.out
        subst hu12
        have HDr := hid (HD5.out.kept (X := []) (Kp.of HB.out) (by simp) (by simp))
        have HBr : Hid (Below w.heap.size w wr) := HB5.out.trans (HB.out.mono HB5.out.size)
        have HC2 := hid (crash_any HDr.out _ _ (HK2.out.kept HBr.out))
        have hD6 : crashD (crashD ⟨S, ar, dn⟩ ks) ms = crashD ⟨S, ar, dn⟩ ks := by
          unfold crashD
          simp only [tear_twice]
        rw [hD6] at HC2
        have Hd5 := hid (row_lt HD5.out.obj)
        have Hg5 := hid (row_lt HD5.out.row)
        have Hb3 := hid hb3
        have Hb3l := hid hb3l
        have Hc3 := hid hc3
        clear hD6 hb3 hb3l hc3 HR6 HR HB HCW5 HCO5 HOKS
        go_wp2_with fail
        refine HC2.out.mono ?_
        rintro e w7 ⟨rfl, h7, k7⟩
        have HD7 := hid h7
        have HB7 : Hid (Below w.heap.size w w7) := HBr.out.trans (k7.below (fun x hx => HG.out x (by simp at hx ⊢; omega)) HBr.out.size)
        have Hc7 : Hid (∀ j u, (T.map tx)[j]? = some u → w7.cell? ⟨b3, j, none⟩ = some u) := by
          intro j u hj
          have e1 := Hd5.out
          have e2 := Hg5.out
          have e3 := Hb3.out
          have e4 := Hb3l.out
          rw [← Hc3.out j u hj]
          simp only [World.cell?, k7.block b3 e4 (by simp; omega)]
        clear h7 k7 HC2 HDr HBr Hd5 Hg5 Hb3 Hb3l Hc3 HD5 HB5
        go_wp2
        go_loopw [17] (fun i w' => ∃ j : Nat, j ≤ 6 ∧ i = .int .i64 j ∧ w' = w7) (fun i _ => 6 - (intOf i).toNat)
        case atStart => exact ⟨0, by omega, rfl, rfl⟩
        case round =>
          obtain ⟨j, hj, rfl, hw⟩ := hrel
          subst wr
          by_cases hlt : j < 6
          · have d3 : decide ((j : Int) < 6) = true := by simp; omega
            have d3' : decide (j < 6) = true := by simpa using hlt
            have hjT : j < T.length := by rw [HT6.out]; exact hlt
            have hj5 : j < (tearAll S ks).length := by rw [tearAll_len]; have h9 : S.length = 6 := HLn.out; omega
            obtain ⟨s, hs⟩ : ∃ s, s = T[j] := ⟨_, rfl⟩
            have hs5 : s = (tearAll S ks)[j].now := by rw [hs]; simp only [HT.out, List.getElem_map]
            have hrd : readE (crashD ⟨S, ar, dn⟩ ks) (j : Int) = 0 ∧ readT (crashD ⟨S, ar, dn⟩ ks) (j : Int) = s := by
              have hh : hasB (crashD ⟨S, ar, dn⟩ ks).S.length (j : Int) = true := by
                rw [crashD_len]
                have h9 : S.length = 6 := HLn.out
                unfold hasB
                simp; omega
              constructor
              · unfold readE; rw [hh]; rfl
              · unfold readT
                rw [hh]
                show ((tearAll S ks).getD (j : Int).toNat sec0).now = s
                rw [Int.toNat_natCast, hs5]
                simp [List.getD, hj5]
            have HRd := hid (read_any HD7.out (j : Int))
            rw [hrd.1, hrd.2] at HRd
            have q1 : w7.cell? ⟨b3, j, none⟩ = some (.string ⟨s.toArray⟩) := Hc7.out j _ (by rw [List.getElem?_map, List.getElem?_eq_getElem hjT, hs]; rfl)
            clear hrd hs hs5 hj5 hjT
            go_wp2_with fail
            refine HRd.out.mono ?_
            rintro e w8 ⟨rfl, hw8⟩
            subst w8
            go_wp2
            go_roundw
            case rel => exact ⟨j + 1, by omega, by go_num, by first | trivial | rfl⟩
            case measure => simp [intOf]; omega
          · have d3 : decide ((j : Int) < 6) = false := by simp; omega
            have d3' : decide (j < 6) = false := by simpa using hlt
            have HDn : Hid (Calls Try.prog 12 #[.pointer (some ⟨d, 0, none⟩)] w7 fun e w' => e = .returned (.bool false) ∧ w' = w7) := down_any HD7.out
            have HLo : Hid (Calls Try.prog 15 #[.pointer (some ⟨d, 0, none⟩)] w7 fun e w' => ∃ v, e = .returned v ∧ (∃ ao cap, v = .slice ao 0 cap) ∧ Below w7.heap.size w7 w') := by
              refine (loose_any HD7.out).mono ?_
              rintro e w' ⟨v, rfl, g1, g2⟩
              have g3 := own_form g1
              rw [show looseN (crashD ⟨S, ar, dn⟩ ks).S = [] from loIdx_torn 0 S ks] at g3
              exact ⟨v, rfl, g3, g2⟩
            go_wp2_with fail
            refine HDn.out.mono ?_
            rintro e w8 ⟨rfl, hw8⟩
            subst w8
            go_wp2_with fail
            refine HLo.out.mono ?_
            rintro e w8 ⟨lv, rfl, ⟨lao, lcap, hlv⟩, hb8⟩
            subst hlv
            have HB8 : Hid (Below w.heap.size w w8) := HB7.out.trans (hb8.mono HB7.out.size)
            clear hb8
            go_wp2
            go_ret
            exact ⟨rfl, HB8.out⟩
end Go.Proofs.Ytjledbgoknclcaa
