/-
  law14.awake: what must come at any rate comes.
-/
import Derived.Test.YthkkjjlpahdagaaGreatDoorGvaw
import Derived.Test.YthkkjjlpahdagaaGreatDoorH15
namespace Go.Proofs.YthkkjjlpahdagaaGreatDoor.Ms
open Go Go.RowKit
set_option maxRecDepth 100000
section
variable {w w' : World} {p h g b n : Nat} {s : List UInt8} {L L' : List Ent} {F : List Nat}
theorem var_kp {i : Nat} {nm : String} {cs : Array Value} (hg : Tryz.prog.globalNamed nm = some i) (hi : i ∉ F) (hl : i < w.heap.size) (hv : w.var? Tryz.prog nm = some cs) (hk : Kp F w w') : w'.var? Tryz.prog nm = some cs := by
  unfold World.var? at *
  rw [hg] at *
  simp only [Option.bind_some] at *
  rw [hk.block i hl hi]
  exact hv
theorem rgl_kp (r : RgL w p h g b s n L) (hk : Kp F w w') (hF : ∀ y ∈ F, 6 ≤ y) (hp : p ∉ F) (hh : h ∉ F) (hg : g ∉ F) (hb : Book w' b L') : RgL w' p h g b s n L' := by
  have hs := tabs_size r.tb
  refine ⟨r.n2, r.n8, ⟨hk.row r.ring.obj hp, hk.row r.ring.var hh, hk.row r.ring.keys hg, hb⟩, ?_, ?_⟩
  · obtain ⟨t, fr, h0⟩ := r.kt
    exact ⟨t, fr, (hk.block 0 (by omega) (fun e => by have := hF 0 e; omega)).trans h0⟩
  · obtain ⟨h1, tp, q, h2⟩ := r.tb
    exact ⟨var_kp Lay.gPow (fun e => by have := hF _ e; omega) (by omega) h1 hk, tp, q, var_kp Lay.gRange (fun e => by have := hF _ e; omega) (by omega) h2 hk⟩
end
def sd : List UInt8 := [115, 101, 101, 100]
def x14 : Sub := ⟨1, 1, 1, [118], tagB sd (1, 1, askB 1 ⟨1, 1, 1, [118], zeroD, zeroD⟩), tagB sd (1, 2, numB 1 ++ layT [118])⟩
def y14 : Rep := ⟨1, -1, [], zeroD, [], 0, [], zeroD, [], zeroD⟩
def y15 : Rep := ⟨2, -1, [], zeroD, [], 0, [], zeroD, [], zeroD⟩
theorem x14_wf : x14.Wf := ⟨tagB_len _ _, tagB_len _ _⟩
theorem y14_wf : y14.Wf := ⟨rfl, rfl, rfl, fun p hp => by cases hp⟩
theorem y15_wf : y15.Wf := ⟨rfl, rfl, rfl, fun p hp => by cases hp⟩
theorem may_x14 (a d : List UInt8) : mayB (subM 1 ⟨1, 1, 1, [118], a, d⟩) = true := by kernel_rfl
theorem may_y14 : mayB (repM y14) = true := by kernel_rfl
theorem subE14 (a d : List UInt8) : subE (newR 3) 1 ⟨1, 1, 1, [118], a, d⟩ = 0 := by
  have hok : subOk (newR 3) 1 ⟨1, 1, 1, [118], a, d⟩ = true := by unfold subOk; rw [may_x14]; rfl
  unfold subE
  rw [hok]
  rfl
theorem subY14 (a d : List UInt8) : subY (newR 3) 1 ⟨1, 1, 1, [118], a, d⟩ = y14 := by
  have h := subE14 a d
  unfold subY
  rw [h]
  rfl
theorem ask14 (a d : List UInt8) : askOk 3 1 [] ⟨1, 1, 1, [118], a, d⟩ = true := by
  unfold askOk vsub
  rw [may_x14]
  rfl
theorem ans14 (a d : List UInt8) : ansOk ⟨1, 1, 1, [118], a, d⟩ y14 = true := by
  unfold ansOk
  rw [may_y14]
  rfl
theorem ans15 (a d : List UInt8) : ansOk ⟨1, 1, 1, [118], a, d⟩ y15 = false := by
  unfold ansOk
  have : ((2 : Int) == 1) = false := rfl
  show (mayB (repM y15) && ((2 : Int) == 1)) = false
  rw [this, Bool.and_false]
theorem zeroSubV : (Tryz.prog.info? 39).map (·.zero) = some (some (.agg (subC zeroS).toArray)) := by kernel_rfl
theorem zeroRepV : (Tryz.prog.info? 42).map (·.zero) = some (some (.agg (repC zeroR (.slice none 0 0)).toArray)) := by kernel_rfl
theorem rng14y : RepRng y14 := ⟨⟨by decide, by decide⟩, ⟨by decide, by decide⟩, ⟨by decide, by decide⟩, fun p hp => by cases hp⟩
theorem rng15y : RepRng y15 := ⟨⟨by decide, by decide⟩, ⟨by decide, by decide⟩, ⟨by decide, by decide⟩, fun p hp => by cases hp⟩
theorem i1 : I64 1 := ⟨by show (-9223372036854775808 : Int) ≤ 1; decide, by show (1 : Int) ≤ _; decide⟩
theorem rng14 : (subM 1 x14).Rng := ⟨i1, i1, i1, i1, i1, i64_zero, i64_zero, i64_zero, i64_zero, i64_zero, i64_zero, (fun n hn => by cases hn), (fun p hp => by cases hp)⟩
section
variable {w : World}
structure S2 (w : World) (P p x hi : Nat) (W : World) : Prop where
  low : Below w.heap.size w W
  row : ∃ q1 q3 q4 q5, W.heap[P]? = some (.cells #[pt p 0, q1, pt x 0, q3, q4, q5] 68)
  all : ∃ G h g b L, RY W x G (newR 3) ∧ RgL W p h g b sd 3 L ∧ (b ∉ G ∧ P ∉ G) ∧ (∀ y ∈ G, w.heap.size ≤ y ∧ 6 ≤ y ∧ y < hi ∧ p < y ∧ h < y ∧ g < y) ∧ (6 ≤ hi ∧ w.heap.size ≤ hi ∧ P < hi ∧ p < hi ∧ h < hi ∧ g < hi ∧ b < hi)
structure S3 (w : World) (P p hi : Nat) (W : World) : Prop where
  low : Below w.heap.size w W
  row : ∃ q1 q2 q3 q4 q5, W.heap[P]? = some (.cells #[pt p 0, q1, q2, q3, q4, q5] 68)
  all : ∃ h g b L, RgL W p h g b sd 3 L ∧ (6 ≤ hi ∧ w.heap.size ≤ hi ∧ P < hi ∧ p < hi ∧ h < hi ∧ g < hi ∧ b < hi)
theorem build_sub3 (W : World) : (Instr.build 39 #[(0, nu 1), (1, nu 1), (2, nu 1)]).run Tryz.prog W = .ok (.agg (subC ⟨1, 1, 1, [], zeroD, zeroD⟩).toArray) W := by kernel_rfl
theorem noteL_one (e : Ent) : (noteL [] e).length < 1000000 := by
  have : (noteL [] e).length ≤ 1 := by unfold noteL; split <;> simp
  omega
theorem len14a : (askB 1 ⟨1, 1, 1, [118], zeroD, zeroD⟩).length ≤ 16384 := by
  have h1 := numB_len 1 ⟨by decide, by decide⟩
  unfold askB
  simp only [List.length_append]
  omega
theorem len14d : (numB 1 ++ layT [118]).length ≤ 16384 := by
  have h1 := numB_len 1 ⟨by decide, by decide⟩
  have h2 := Lay.nDigits_le20 1 (by decide)
  have e : layT [118] = Lib.decDigits 1 ++ [58] ++ [118] := rfl
  rw [e]
  simp only [List.length_append, Lib.decDigits_length, List.length_cons, List.length_nil]
  omega
set_option maxHeartbeats 8000000 in
theorem submit14 {P p q x hb vb h g b : Nat} {G : List Nat} {W : World} (PL : PlAt W P p q x hb vb G (newR 3) [[], [], []]) (r : RgL W p h g b sd 3 []) (hhb : hb ≠ b) (hPb : P ≠ b) (hb6 : 6 ≤ hb) (hbb6 : 6 ≤ b) (hlt : p < hb ∧ h < hb ∧ g < hb) :
    Calls Tryz.prog 14 #[pt P 0, .agg #[nu 0, nu 1, nu 0, st [118]]] W fun e w' => e = .returned (.agg (subC x14).toArray) ∧ ∃ L', Book w' b L' ∧ Kp [b, hb] W w' := by
  obtain ⟨u7, rP⟩ := PL.row
  have hPh : P ≠ hb := typ_ne rP PL.held (by decide)
  have hPn : P ∉ [b, hb] := by simp; omega
  have n1 : p ≠ b := r.ring.book.ne r.ring.obj
  have n2 : h ≠ b := r.ring.book.ne r.ring.var
  have n3 : g ≠ b := r.ring.book.ne r.ring.keys
  have lA := tagB_len sd (1, 1, askB 1 ⟨1, 1, 1, [118], zeroD, zeroD⟩)
  have lD := tagB_len sd (1, 2, numB 1 ++ layT [118])
  have hF : ∀ y ∈ [b, hb], 6 ≤ y := by intro y hy; simp at hy; omega
  have HRG : ∀ (w' : World) (L' : List Ent), Kp [b, hb] W w' → Book w' b L' → RgL w' p h g b sd 3 L' := fun w' L' hk hbk => rgl_kp r hk hF (by simp; omega) (by simp; omega) (by simp; omega) hbk
  have hl1 := noteL_one (1, 1, askB 1 ⟨1, 1, 1, [118], zeroD, zeroD⟩)
  refine (submit_core (w := W) (P := P) (p := p) (vb := vb) (hb := hb) (b := b) (TA := askB 1 ⟨1, 1, 1, [118], zeroD, zeroD⟩) (TD := numB 1 ++ layT [118]) (V0 := subC ⟨1, 1, 1, [], zeroD, zeroD⟩) (V1 := subC ⟨1, 1, 1, [118], zeroD, zeroD⟩) (V2 := subC x14) (D1 := dg (tagB sd (1, 1, askB 1 ⟨1, 1, 1, [118], zeroD, zeroD⟩))) (D2 := dg (tagB sd (1, 2, numB 1 ++ layT [118]))) (ZD0 := dg zeroD) (Z := subC zeroS) (A1 := [nu 1, nu 1, nu 1, st [118]]) (A2 := dg zeroD ++ dg zeroD) (L0 := []) (L1 := noteL [] (1, 1, askB 1 ⟨1, 1, 1, [118], zeroD, zeroD⟩)) (L2 := noteL (noteL [] (1, 1, askB 1 ⟨1, 1, 1, [118], zeroD, zeroD⟩)) (1, 2, numB 1 ++ layT [118]))
    (row_ltA PL.held) hhb zeroSubV (hid rfl) zeroDigY rfl (hid build_sub3) (hid rfl) (hid (one_sub _)) (hid (szSY ⟨rfl, rfl⟩)) (hid rfl) (hid rfl) (hid (szSY ⟨rfl, rfl⟩)) (hid rfl) (hid rfl)
    (hid fun V => Hist.rcount_any [] (by decide) 1 V)
    (hid fun V hk => row_zeroY (cs := [pt p 0, pt q 0, pt x 0, sl vb 3, u7, sl hb 3]) (hk.row rP hPn) 0 _ rfl) (hid fun V hk => row_zeroY (cs := [pt p 0, pt q 0, pt x 0, sl vb 3, u7, sl hb 3]) (hk.row rP hPn) 3 _ rfl) (hid fun V hk => row_zeroY (cs := [pt p 0, pt q 0, pt x 0, sl vb 3, u7, sl hb 3]) (hk.row rP hPn) 5 _ rfl)
    (hid fun V hk => row_zeroY (cs := [st [], st [], st []]) (row_kept PL.views hk) 1 _ rfl) (hid PL.held) (hid r.ring.book)
    (hid fun V => by have h := rasked_any numOk 1 i1 ⟨1, 1, 1, [118], zeroD, zeroD⟩ ⟨rfl, rfl⟩ i1 i1 i1 V; rw [askB_ints] at h; exact h)
    (hid fun V => by have h := rnumbered_any digOk numOk 1 i1 [118] V; rw [numbered_lay] at h; exact h)
    (hid fun V hk hbk => tag_d (HRG V [] hk hbk) 1 1 _ ⟨by decide, by decide, by decide, by decide, len14a⟩ (by decide))
    (hid fun V hk hbk => tag_d (HRG V _ hk hbk) 1 2 _ ⟨by decide, by decide, by decide, by decide, len14d⟩ hl1)
    (by rw [dg_len]; exact lA) (hid (one_dg _)) (hid (szDY lA)) (by rw [dg_len]; exact lD) (hid (one_dg _)) (hid (szDY lD))
    (hid rfl) rfl (hid (by simp [subC, x14])) (by simp [dg_len, lA]) (subC_len x14_wf) (hid (one_sub _)) (hid (szSY x14_wf))).mono ?_
  rintro e w' ⟨rfl, h1, h2, -⟩
  exact ⟨rfl, _, h1, h2⟩
set_option maxHeartbeats 8000000 in
theorem vawake_any (hK : Ktab w) (hT : Lay.Tabs w) : Calls Tryz.prog 7 #[] w fun e w' => e = .returned (.bool true) ∧ Below w.heap.size w w' := by
  have h6 := tabs_size hT
  have gw : (learnG [by8 1] y14).Wf := learnG_wf y14_wf
  refine vawake_core (V := subC x14) (Z := subC zeroS) (ZY := repC zeroR (.slice none 0 0)) (ZG := gotC zeroT) (G1 := gotC (learnG [by8 1] y14)) (G2 := gotC zeroT) (YU := fun q => repC y14 q) (OkU := fun q => ∃ a cap, q = .slice a 0 cap)
    (S1 := fun P W => ∃ p q x hb vb G h g b, PlAt W P p q x hb vb G (newR 3) [[], [], []] ∧ RgL W p h g b sd 3 [] ∧ Below w.heap.size w W ∧ (w.heap.size ≤ b ∧ w.heap.size ≤ P ∧ w.heap.size ≤ hb ∧ ∀ y ∈ G, w.heap.size ≤ y) ∧ (hb ≠ b ∧ b ∉ G ∧ P ≠ b ∧ vb ≠ b ∧ P ∉ G ∧ ∀ y ∈ G, p < y ∧ h < y ∧ g < y ∧ b < y) ∧ (6 ≤ w.heap.size ∧ p < hb ∧ h < hb ∧ g < hb ∧ b < hb))
    (S2 := S2 w) (S3 := S3 w) (En := fun W => Below w.heap.size w W) (hid ?_) (hid ?_) (hid ?_) (hid ?_) (hid ?_) (hid ?_) (hid ?_) (hid ?_) (hid ?_) (hid ?_) (hid ?_)
    zeroSubV (hid (by rw [subC_len x14_wf]; rfl)) (hid (one_sub _)) (hid (szSY x14_wf)) zeroRepV (repC_len wfZeroR _) (hid sizeRep) (hid fun q => repC_len y14_wf q) (hid fun q hq => one_rep _ _ (by obtain ⟨a, c, rfl⟩ := hq; rfl)) (hid fun q => ⟨_, rfl⟩) zeroGot (gotC_len zeroT_wf) (gotC_len gw) (hid (one_got _)) (hid (szGY gw)) (gotC_len zeroT_wf) (hid (one_got _)) (hid (szGY zeroT_wf)) (hid rfl) (hid rfl)
  · refine (begun_any hK hT).mono ?_
    rintro e w' ⟨P, p, q, x, hb, vb, G, h, g, b, rfl, h1⟩
    exact ⟨P, rfl, p, q, x, hb, vb, G, h, g, b, h1⟩
  · rintro P W ⟨p, q, x, hb, vb, G, h, g, b, PL, r, B, ⟨e1, e2, e3, e4⟩, ⟨f1, f2, f3, f4, f5, f6⟩, ⟨-, g1, g2, g3, g4⟩⟩
    refine (submit14 PL r f1 f3 (by omega) (by omega) ⟨g1, g2, g3⟩).mono ?_
    rintro e w' ⟨rfl, L', bk, hk⟩
    obtain ⟨u7, rP⟩ := PL.row
    have hPh : P ≠ hb := typ_ne rP PL.held (by decide)
    have n1 : p ≠ b := r.ring.book.ne r.ring.obj
    have n2 : h ≠ b := r.ring.book.ne r.ring.var
    have n3 : g ≠ b := r.ring.book.ne r.ring.keys
    have hsz := hk.size
    have k1 := row_ltA rP
    have k2 := row_ltA PL.held
    have RY1 := PL.regs.kp hk (fun y hy => by
      simp
      exact ⟨fun e => f2 (e ▸ hy), fun e => PL.ne (e ▸ hy)⟩)
    have hBW := B.size
    refine ⟨rfl, p, x, ⟨B.trans (hk.below (fun y hy => by simp at hy; omega) hBW), ⟨_, _, _, _, hk.row rP (by simp; omega)⟩, ⟨G, h, g, b, L', RY1, rgl_kp r hk (fun y hy => by simp at hy; omega) (by simp; omega) (by simp; omega) (by simp; omega) bk, ⟨f2, f5⟩, fun y hy => ?_, ⟨by omega, by omega, by omega, by omega, by omega, by omega, by omega⟩⟩⟩⟩
    have a1 := e4 y hy
    have a2 := f6 y hy
    have a3 := RY1.lt y hy
    omega
  · rintro P p x hi W W' ⟨l, ⟨q1, q3, q4, q5, rw'⟩, ⟨G, h, g, b, L, ry, r, c1, c2, c3⟩⟩ hb
    exact ⟨l.trans (hb.mono l.size), ⟨q1, q3, q4, q5, row_kept rw' hb⟩, ⟨G, h, g, b, L, ry.kept hb, r.kept hb, c1, c2, c3⟩⟩
  · rintro P p x hi W ⟨l, hr, -⟩
    exact hr
  · rintro P p x hi W ⟨l, ⟨q1, q3, q4, q5, rP⟩, ⟨G, h, g, b, L, ry, r, ⟨c1, c1'⟩, c2, c3⟩⟩
    refine (r12submit_any ry (c := 1) (X := x14) x14_wf).mono ?_
    rintro e w' ⟨u, G', rfl, -, hp, hk, -⟩
    have hy := subY14 (tagB sd (1, 1, askB 1 ⟨1, 1, 1, [118], zeroD, zeroD⟩)) (tagB sd (1, 2, numB 1 ++ layT [118]))
    have he := subE14 (tagB sd (1, 1, askB 1 ⟨1, 1, 1, [118], zeroD, zeroD⟩)) (tagB sd (1, 2, numB 1 ++ layT [118]))
    have hy' : subY (newR 3) 1 x14 = y14 := hy
    have he' : subE (newR 3) 1 x14 = 0 := he
    rw [hy', he']
    rw [hy'] at hp
    obtain ⟨a, cap, hu, -⟩ := hp
    have bk : Book w' b L := r.ring.book.at (hk.block b r.ring.book.lt c1)
    refine ⟨u, rfl, ⟨a, cap, hu⟩, ⟨l.trans (hk.below (fun y hy => (c2 y hy).1) l.size), ⟨q1, _, q3, q4, q5, hk.row rP c1'⟩, ⟨h, g, b, L, rgl_kp r hk (fun y hy => (c2 y hy).2.1) (fun e => by have := c2 _ e; omega) (fun e => by have := c2 _ e; omega) (fun e => by have := c2 _ e; omega) bk, c3⟩⟩, hk.size, fun k o hik ho => hk.row ho (fun e => by have := c2 _ e; omega)⟩
  · rintro P p hi W W' ⟨l, ⟨q1, q2, q3, q4, q5, rw'⟩, ⟨h, g, b, L, r, c3⟩⟩ hb
    exact ⟨l.trans (hb.mono l.size), ⟨q1, q2, q3, q4, q5, row_kept rw' hb⟩, ⟨h, g, b, L, r.kept hb, c3⟩⟩
  · rintro P p hi B W W' ⟨l, ⟨q1, q2, q3, q4, q5, rP⟩, ⟨h, g, b, L, r, ⟨d1, d2, d3, d4, d5, d6, d7⟩⟩⟩ hB hb
    exact ⟨hb.below l (by omega), ⟨q1, q2, q3, q4, q5, hb.row rP (by omega)⟩, ⟨h, g, b, L, rgl_but r (by omega) (by omega) (by omega) (by omega) (by omega) hb, ⟨d1, d2, d3, d4, d5, d6, d7⟩⟩⟩
  · rintro P p hi W ⟨l, hr, -⟩
    exact hr
  · rintro P p hi W ⟨l, -, -⟩
    exact l
  · rintro P p hi q W ⟨a, cap, rfl⟩ ⟨l, -, ⟨h, g, b, L, r, -⟩⟩
    exact check_first (me := 1) ⟨by decide, by decide⟩ r.rg x14_wf rng14 y14_wf rng14y (⟨a, cap, rfl, fun h => absurd rfl h⟩ : PensAt W (.slice a 0 cap) y14.pend) rfl rfl (ask14 _ _) (ans14 _ _) (by show (1 : Int) ≠ 2; decide)
  · rintro P p hi q W ⟨a, cap, rfl⟩ ⟨l, -, ⟨h, g, b, L, r, -⟩⟩
    exact check_arg (me := 1) r.rg x14_wf rng14 (y := y15) y15_wf rng15y (⟨a, cap, rfl, fun h => absurd rfl h⟩ : PensAt W (.slice a 0 cap) y15.pend) (by decide) (view := []) (by decide) (ask14 _ _) (ans15 _ _)
end
open Go Go.RowKit
set_option maxRecDepth 100000
def sameG (a b : Got) : Bool := a.view == b.view && (a.number == b.number && (a.value == b.value && (a.who == b.who && (a.long == b.long && (a.ltag == b.ltag && (a.seen == b.seen && a.stag == b.stag))))))
theorem equal_got (w : World) (a b : Got) (ha : a.Wf) (hb : b.Wf) : (Op.equalIn 10000 46 (.agg (gotC a).toArray) (.agg (gotC b).toArray)).run Tryz.prog w = .ok (sameG a b) w := by
  rw [show (10000 : Nat) = 9997 + 2 + 1 from rfl, run_equalIn_struct w (9997 + 2) 46 _ _ (by kernel_rfl) (by kernel_rfl)]
  rw [eqFields_run w (9997 + 2) _ _ _ [a.view == b.view, a.number == b.number, a.value == b.value, a.who == b.who, a.long == b.long, a.ltag == b.ltag, a.seen == b.seen, a.stag == b.stag] ?_]
  · simp [sameG]
  · simp only [Program.fieldsOf, Tryz.underlying46]
    have pa : ∀ g : Got, g.Wf → (gotC g)[37]? = some (st g.seen) := fun g hg => by
      have := mid_at ([st g.view, nu g.number, st g.value, nu g.who, st g.long] ++ dg g.ltag) [st g.seen] (dg g.stag) 37 0 (st g.seen) (by simp [dg_len, hg.ltag]) rfl
      simpa [gotC] using this
    refine ⟨⟨by decide, _, _, part_str w _ 0 a.view rfl, part_str w _ 0 b.view rfl, equalIn_str w _ _ _⟩, ⟨by decide, _, _, part_int w _ 1 a.number rfl, part_int w _ 1 b.number rfl, equalIn_int w _ _ _⟩, ⟨by decide, _, _, part_str w _ 2 a.value rfl, part_str w _ 2 b.value rfl, equalIn_str w _ _ _⟩, ⟨by decide, _, _, part_int w _ 3 a.who rfl, part_int w _ 3 b.who rfl, equalIn_int w _ _ _⟩, ⟨by decide, _, _, part_str w _ 4 a.long rfl, part_str w _ 4 b.long rfl, equalIn_str w _ _ _⟩,
      ⟨by decide, _, _, part_dig w _ [st a.view, nu a.number, st a.value, nu a.who, st a.long] ([st a.seen] ++ dg a.stag) a.ltag 5 ha.ltag rfl rfl, part_dig w _ [st b.view, nu b.number, st b.value, nu b.who, st b.long] ([st b.seen] ++ dg b.stag) b.ltag 5 hb.ltag rfl rfl, equalIn_dig w _ _ _ ha.ltag hb.ltag⟩,
      ⟨by decide, _, _, part_str w _ 37 a.seen (pa a ha), part_str w _ 37 b.seen (pa b hb), equalIn_str w _ _ _⟩,
      ⟨by decide, _, _, part_dig w _ ([st a.view, nu a.number, st a.value, nu a.who, st a.long] ++ (dg a.ltag ++ [st a.seen])) [] a.stag 38 ha.stag (by simp [gotC]) (by simp [dg_len, ha.ltag]), part_dig w _ ([st b.view, nu b.number, st b.value, nu b.who, st b.long] ++ (dg b.ltag ++ [st b.seen])) [] b.stag 38 hb.stag (by simp [gotC]) (by simp [dg_len, hb.ltag]), equalIn_dig w _ _ _ ha.stag hb.stag⟩, trivial⟩
theorem guardGot : Tryz.prog.eqGuardType Tryz.prog.depth 46 = false := by kernel_rfl
section
variable {P : Program} {ops : Array Oper} {Q : Exit → Act → World → Prop} {a : Act} {o : Oper} {rest : List Oper} {w : World}
theorem wl_eql (hw : Region.wanted o (yielded ops a.tmps) = true) (ty rt : TypeId) (x y : Operand) (ho : o.op = .binOp .eql ty x y rt)
    (X Y : Array Value) (hx : a.eval x = .agg X) (hy : a.eval y = .agg Y) (hgt : P.eqGuardType P.depth ty = false) (B : Bool) (he : ∀ w, (Op.equalIn 10000 ty (.agg X) (.agg Y)).run P w = .ok B w)
    (h : wpList P ops Q rest (a.put o.dst (.bool B)) w) : wpList P ops Q (o :: rest) a w := by
  refine BigFrame.wpList_want hw fun K hK => ?_
  have h' := hK _ _ h
  have hq : ∀ w, (Op.equal ty (.agg X) (.agg Y)).run P w = .ok B w := he
  unfold Oper.wp execOp
  simp [ho, hx, hy, eqGuard, binOp, Sem.run_bind, hgt, hq]
  exact h'
end
def caseC (me : Int) (view : List UInt8) (V U : List Value) : List Value := [nu me, st view] ++ (V ++ U)
set_option maxHeartbeats 16000000 in
theorem vnone_walk (w : World) (hK : Ktab w) (hT : Lay.Tabs w) (me : Int) (view : List UInt8) (x : Sub) (hx : x.Wf) (y : Rep) (hy : y.Wf) (v : Value) (d : List UInt8) (P : Pen) (hP : P.Wf) :
    Calls Tryz.prog 4 #[.agg (caseC me view (subC x) (repC y v)).toArray, st d, .agg (penC P).toArray] w fun e w' => e = .returned (.bool true) ∧ Below w.heap.size w w' := by
  have b0 := below_a1 w (.cells (caseC me view (subC x) (repC y v)).toArray 44)
  have b1 := below_a1 (w.alloc (.cells (caseC me view (subC x) (repC y v)).toArray 44)) (.cells (penC P).toArray 25)
  have e1 : (w.alloc (.cells (caseC me view (subC x) (repC y v)).toArray 44)).heap.size = w.heap.size + 1 := by simp
  have T0 := row_kept (top_obj w (.cells (caseC me view (subC x) (repC y v)).toArray 44)) b1
  have T1 := top_obj (w.alloc (.cells (caseC me view (subC x) (repC y v)).toArray 44)) (.cells (penC P).toArray 25)
  rw [e1] at T1
  have B0 := hid (below_two b0 b1)
  have lx := subC_len hx
  have c0 := row_cell (off := 0) (v := nu me) (A := []) (C := st view :: (subC x ++ repC y v)) T0 rfl rfl
  have c1 := row_cell (off := 1) (v := st view) (A := [nu me]) (C := subC x ++ repC y v) T0 rfl rfl
  have C2 := hid (row_seg (off := 2) (A := [nu me, st view]) (cs := subC x) (C := repC y v) T0 rfl rfl)
  have C3 := hid (row_seg (off := 70) (A := [nu me, st view] ++ subC x) (cs := repC y v) (C := []) T0 (by simp [caseC]) (by simp [lx]))
  have TP := hid T1
  have HC := hid (fun W => check_nil2 (w := W) (y := y) (v := v) me view x)
  have HS := hid (fun W => step_nil (w := W) d (penC P))
  have HW := hid (fun W (hb : Below w.heap.size w W) => vawake_any (hK.stays hb hK.pos) (hT.stays hb))
  have E0 := fun W => equal_got W zeroT zeroT zeroT_wf zeroT_wf
  rw [show sameG zeroT zeroT = true from by simp [sameG]] at E0
  have E := hid E0
  clear E0
  have GG := guardGot
  have ZX := szSY hx
  have ZR := szRY hy v
  have ZP : (Tryz.prog.info? 25).map (·.size) = some (penC P).length := by rw [penC_len hP]; exact sizePen
  have ZGz := zeroGot
  have BG := hid build_got0
  have OG := hid (one_got zeroT)
  have ZGs := szGY zeroT_wf
  clear hK hT hx hy hP T0 T1 b0 b1 lx
  generalize caseC me view (subC x) (repC y v) = UV at *
  generalize subC x = V at *
  generalize repC y v = U at *
  generalize penC P = PV at *
  generalize gotC zeroT = ZG at *
  go_enter Tryz.func4, Tryz.ntmps4
  go_upto_region 1 with fail
  try simp only [Act.put, List.setIfInBounds_toArray, List.set_cons_zero, List.set_cons_succ, e1]
  generalize (w.alloc (.cells UV.toArray 44)).alloc (.cells PV.toArray 25) = W0 at *
  clear e1
  have hs0 := B0.out.size
  generalize w.heap.size + 1 = Y at *
  generalize hX : w.heap.size = X at *
  go_wp2_with (first
    | ((with_reducible refine wl_load 39 (.tmp 16) ?_ X 2 ?_ ?_ V _ C2.out Tryz.underlying39 ?_ ZX ?_); exact rfl; exact rfl; exact rfl; exact rfl)
    | ((with_reducible refine wl_load 42 (.tmp 18) ?_ X 70 ?_ ?_ U _ C3.out Tryz.underlying42 ?_ ZR ?_); exact rfl; exact rfl; exact rfl; exact rfl))
  refine (HC.out _).mono ?_
  rintro e W1 ⟨rfl, b1⟩
  go_upto_region 2 with (first
    | ((with_reducible refine wl_alloc 46 ?_ ?_ ZG.toArray ZGz ?_); exact rfl; exact rfl)
    | ((with_reducible refine wl_store_top 46 (.tmp 7) (.tmp 21) ?_ ?_ ?_ ?_ ZG ZG ?_ 46 rfl OG.out ZGs ?_); exact rfl; exact rfl; exact rfl; exact rfl; exact rfl))
  try simp only [Act.put, List.setIfInBounds_toArray, List.set_cons_zero, List.set_cons_succ]
  have b2 := below_two b1 (below_a1 W1 (.cells ZG.toArray 46))
  have R2 := hid (top_obj W1 (.cells ZG.toArray 46))
  have P2 := hid (row_kept TP.out b2)
  have B2 : Hid (Below X w (W1.alloc (.cells ZG.toArray 46))) := hid (B0.out.trans (b2.mono hs0))
  generalize W1.alloc (.cells ZG.toArray 46) = W2 at *
  generalize W1.heap.size = q7 at *
  have hs2 := B2.out.size
  clear b1 b2 c0 c1 C2 C3 TP B0
  go_wp2_with ((with_reducible refine wl_load 25 (.tmp 5) ?_ Y 0 ?_ ?_ PV _ (row_zeroY P2.out) Tryz.underlying25 ?_ ZP ?_); exact rfl; exact rfl; exact rfl; exact rfl)
  refine (HS.out _).mono ?_
  rintro e W3 ⟨rfl, b3⟩
  have R3 := hid (row_kept R2.out b3)
  have B3 : Hid (Below X w W3) := hid (B2.out.trans (b3.mono (by omega)))
  clear b3 R2 P2 B2
  go_wp2_with fail
  refine (HW.out _ B3.out).mono ?_
  rintro e W4 ⟨rfl, b4⟩
  have R4 := hid (row_kept R3.out b4)
  have hs3 := B3.out.size
  have B4 : Hid (Below X w W4) := hid (B3.out.trans (b4.mono (by omega)))
  clear b4 R3 B3
  go_wp2_with (first
    | ((with_reducible refine wl_load 46 (.tmp 7) ?_ q7 0 ?_ ?_ ZG _ (row_zeroY R4.out) Tryz.underlying46 ?_ ZGs ?_); exact rfl; exact rfl; exact rfl; exact rfl)
    | ((with_reducible refine wl_build 46 ?_ ?_ ZG.toArray (BG.out _) ?_); exact rfl; exact rfl)
    | ((with_reducible refine wl_eql ?_ 46 46 (.tmp 31) (.tmp 32) ?_ ZG.toArray ZG.toArray ?_ ?_ GG true E.out ?_); exact rfl; exact rfl; exact rfl; exact rfl))
  go_wp2
  go_ret
  exact ⟨rfl, hX ▸ B4.out⟩
end Go.Proofs.YthkkjjlpahdagaaGreatDoor.Ms
