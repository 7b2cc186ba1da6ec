/-
  What Learn does and answers, for every line.
-/
import Derived.Test.YtfigbgpfkhcpcaaIcu
namespace Go.Proofs.Ytfigbgpfkhcpcaa.Kn
open Go Go.RowKit
set_option maxRecDepth 100000

theorem okB_has (n : Nat) (x : Ln) : okB n x = (hasB n x.fro && (hasB n x.byc && (Hist.rightB x.view n && endsB x.view x.byc))) := by
  unfold okB hasB
  rw [Bool.and_assoc, Bool.and_assoc]
theorem len_str {P : Program} (w : World) (T : List UInt8) (t : TypeId) (ht : P.underlying t = some .string) (ty : TypeId) : (Builtin.len_ #[t] ty #[st T]).run P w = .ok (nu (T.length : Int)) w := by
  have hs : (⟨T.toArray⟩ : ByteArray).size = T.length := rfl
  simp [Builtin.len_, run_underlying ht, hs]
  rfl
def LnPost (w : World) (p n me : Nat) (L : List Ln) (x : Ln) (e : Ending) (w' : World) : Prop := e = .returned (nu (learnE n L x)) ∧ KAt w' p n me (learnL n L x) ∧ Kp [p] w w'
section
variable {w : World} {p n me : Nat} {L : List Ln}
set_option maxHeartbeats 4000000 in
theorem learn_a (h : KAt w p n me L) (x : Ln) (hv : x.view.length ≤ 281474976710656) (h1 : hasB n x.fro = false) : Calls Try.prog 29 #[pt p 0, nu x.fro, nu x.byc, st x.view, .agg (dg x.tag).toArray] w (LnPost w p n me L x) := by
  have B0 := hid (below_a1 w (.cells (dg x.tag).toArray 32))
  have T0 := hid (top_obj w (.cells (dg x.tag).toArray 32))
  have H0 := hid (h.kept B0.out)
  have HM := hid (made_any H0.out)
  have c0 : (w.alloc (.cells (dg x.tag).toArray 32)).cell? ⟨p, 0, none⟩ = some (nu n) := kr0 H0.out.obj
  have HF := hid (has_any H0.out x.fro)
  have HB := hid (has_any H0.out x.byc)
  have HR := hid (Hist.right_any x.view (n : Int) (w.alloc (.cells (dg x.tag).toArray 32)))
  have HE := hid (fun W => ends_any x.view x.byc (by omega) W)
  have hno : okB n x = false := by
    rw [okB_has]
    simp [*]
  have HP : Hid (∀ W, Below w.heap.size w W → LnPost w p n me L x (.returned (nu 2)) W) := fun W hb => by
    rcases learn_cases n L x with ⟨-, e1, e2⟩ | ⟨e, -⟩ | ⟨e, -⟩
    · unfold LnPost
      rw [e1, e2]
      exact ⟨rfl, h.kept hb, Kp.of hb⟩
    · rw [hno] at e; cases e
    · rw [hno] at e; cases e
  rw [h1] at HF
  clear h hno
  clear h1
  generalize LnPost w p n me L x = PO at *
  obtain ⟨fr, bc, vw, tg⟩ := x
  simp only at *
  go_enter Try.func29, Try.ntmps29
  go_upto_region 1 with fail
  generalize w.alloc (.cells (dg tg).toArray 32) = W0 at *
  go_wp2_with fail
  refine HM.out.mono ?_
  rintro e w1 ⟨rfl, hw1⟩
  subst w1
  go_wp2_with fail
  refine HF.out.mono ?_
  rintro e w1 ⟨rfl, hw1⟩
  subst w1
  go_wp2
  exact HP.out _ B0.out
set_option maxHeartbeats 4000000 in
theorem learn_b (h : KAt w p n me L) (x : Ln) (hv : x.view.length ≤ 281474976710656) (h1 : hasB n x.fro = true) (h2 : hasB n x.byc = false) : Calls Try.prog 29 #[pt p 0, nu x.fro, nu x.byc, st x.view, .agg (dg x.tag).toArray] w (LnPost w p n me L x) := by
  have B0 := hid (below_a1 w (.cells (dg x.tag).toArray 32))
  have T0 := hid (top_obj w (.cells (dg x.tag).toArray 32))
  have H0 := hid (h.kept B0.out)
  have HM := hid (made_any H0.out)
  have c0 : (w.alloc (.cells (dg x.tag).toArray 32)).cell? ⟨p, 0, none⟩ = some (nu n) := kr0 H0.out.obj
  have HF := hid (has_any H0.out x.fro)
  have HB := hid (has_any H0.out x.byc)
  have HR := hid (Hist.right_any x.view (n : Int) (w.alloc (.cells (dg x.tag).toArray 32)))
  have HE := hid (fun W => ends_any x.view x.byc (by omega) W)
  have hno : okB n x = false := by
    rw [okB_has]
    simp [*]
  have HP : Hid (∀ W, Below w.heap.size w W → LnPost w p n me L x (.returned (nu 2)) W) := fun W hb => by
    rcases learn_cases n L x with ⟨-, e1, e2⟩ | ⟨e, -⟩ | ⟨e, -⟩
    · unfold LnPost
      rw [e1, e2]
      exact ⟨rfl, h.kept hb, Kp.of hb⟩
    · rw [hno] at e; cases e
    · rw [hno] at e; cases e
  rw [h1] at HF
  rw [h2] at HB
  clear h hno
  clear h1
  clear h2
  generalize LnPost w p n me L x = PO at *
  obtain ⟨fr, bc, vw, tg⟩ := x
  simp only at *
  go_enter Try.func29, Try.ntmps29
  go_upto_region 1 with fail
  generalize w.alloc (.cells (dg tg).toArray 32) = W0 at *
  go_wp2_with fail
  refine HM.out.mono ?_
  rintro e w1 ⟨rfl, hw1⟩
  subst w1
  go_wp2_with fail
  refine HF.out.mono ?_
  rintro e w1 ⟨rfl, hw1⟩
  subst w1
  go_wp2_with fail
  refine HB.out.mono ?_
  rintro e w1 ⟨rfl, hw1⟩
  subst w1
  go_wp2
  exact HP.out _ B0.out
set_option maxHeartbeats 4000000 in
theorem learn_c (h : KAt w p n me L) (x : Ln) (hv : x.view.length ≤ 281474976710656) (h1 : hasB n x.fro = true) (h2 : hasB n x.byc = true) (h3 : Hist.rightB x.view n = false) : Calls Try.prog 29 #[pt p 0, nu x.fro, nu x.byc, st x.view, .agg (dg x.tag).toArray] w (LnPost w p n me L x) := by
  have B0 := hid (below_a1 w (.cells (dg x.tag).toArray 32))
  have T0 := hid (top_obj w (.cells (dg x.tag).toArray 32))
  have H0 := hid (h.kept B0.out)
  have HM := hid (made_any H0.out)
  have c0 : (w.alloc (.cells (dg x.tag).toArray 32)).cell? ⟨p, 0, none⟩ = some (nu n) := kr0 H0.out.obj
  have HF := hid (has_any H0.out x.fro)
  have HB := hid (has_any H0.out x.byc)
  have HR := hid (Hist.right_any x.view (n : Int) (w.alloc (.cells (dg x.tag).toArray 32)))
  have HE := hid (fun W => ends_any x.view x.byc (by omega) W)
  have hno : okB n x = false := by
    rw [okB_has]
    simp [*]
  have HP : Hid (∀ W, Below w.heap.size w W → LnPost w p n me L x (.returned (nu 2)) W) := fun W hb => by
    rcases learn_cases n L x with ⟨-, e1, e2⟩ | ⟨e, -⟩ | ⟨e, -⟩
    · unfold LnPost
      rw [e1, e2]
      exact ⟨rfl, h.kept hb, Kp.of hb⟩
    · rw [hno] at e; cases e
    · rw [hno] at e; cases e
  rw [h1] at HF
  rw [h2] at HB
  rw [h3] at HR
  clear h hno
  clear h1
  clear h2
  clear h3
  generalize LnPost w p n me L x = PO at *
  obtain ⟨fr, bc, vw, tg⟩ := x
  simp only at *
  go_enter Try.func29, Try.ntmps29
  go_upto_region 1 with fail
  generalize w.alloc (.cells (dg tg).toArray 32) = W0 at *
  go_wp2_with fail
  refine HM.out.mono ?_
  rintro e w1 ⟨rfl, hw1⟩
  subst w1
  go_wp2_with fail
  refine HF.out.mono ?_
  rintro e w1 ⟨rfl, hw1⟩
  subst w1
  go_wp2_with fail
  refine HB.out.mono ?_
  rintro e w1 ⟨rfl, hw1⟩
  subst w1
  go_wp2_with fail
  refine HR.out.mono ?_
  rintro e W1 ⟨rfl, hb1⟩
  have HB1 := hid hb1
  clear hb1
  go_wp2
  exact HP.out _ (below_two B0.out HB1.out)
set_option maxHeartbeats 4000000 in
theorem learn_d (h : KAt w p n me L) (x : Ln) (hv : x.view.length ≤ 281474976710656) (h1 : hasB n x.fro = true) (h2 : hasB n x.byc = true) (h3 : Hist.rightB x.view n = true) (h4 : endsB x.view x.byc = false) : Calls Try.prog 29 #[pt p 0, nu x.fro, nu x.byc, st x.view, .agg (dg x.tag).toArray] w (LnPost w p n me L x) := by
  have B0 := hid (below_a1 w (.cells (dg x.tag).toArray 32))
  have T0 := hid (top_obj w (.cells (dg x.tag).toArray 32))
  have H0 := hid (h.kept B0.out)
  have HM := hid (made_any H0.out)
  have c0 : (w.alloc (.cells (dg x.tag).toArray 32)).cell? ⟨p, 0, none⟩ = some (nu n) := kr0 H0.out.obj
  have HF := hid (has_any H0.out x.fro)
  have HB := hid (has_any H0.out x.byc)
  have HR := hid (Hist.right_any x.view (n : Int) (w.alloc (.cells (dg x.tag).toArray 32)))
  have HE := hid (fun W => ends_any x.view x.byc (by omega) W)
  have hno : okB n x = false := by
    rw [okB_has]
    simp [*]
  have HP : Hid (∀ W, Below w.heap.size w W → LnPost w p n me L x (.returned (nu 2)) W) := fun W hb => by
    rcases learn_cases n L x with ⟨-, e1, e2⟩ | ⟨e, -⟩ | ⟨e, -⟩
    · unfold LnPost
      rw [e1, e2]
      exact ⟨rfl, h.kept hb, Kp.of hb⟩
    · rw [hno] at e; cases e
    · rw [hno] at e; cases e
  rw [h1] at HF
  rw [h2] at HB
  rw [h3] at HR
  rw [h4] at HE
  clear h hno
  clear h1
  clear h2
  clear h3
  clear h4
  generalize LnPost w p n me L x = PO at *
  obtain ⟨fr, bc, vw, tg⟩ := x
  simp only at *
  go_enter Try.func29, Try.ntmps29
  go_upto_region 1 with fail
  generalize w.alloc (.cells (dg tg).toArray 32) = W0 at *
  go_wp2_with fail
  refine HM.out.mono ?_
  rintro e w1 ⟨rfl, hw1⟩
  subst w1
  go_wp2_with fail
  refine HF.out.mono ?_
  rintro e w1 ⟨rfl, hw1⟩
  subst w1
  go_wp2_with fail
  refine HB.out.mono ?_
  rintro e w1 ⟨rfl, hw1⟩
  subst w1
  go_wp2_with fail
  refine HR.out.mono ?_
  rintro e W1 ⟨rfl, hb1⟩
  have HB1 := hid hb1
  clear hb1
  go_wp2_with fail
  refine (HE.out _).mono ?_
  rintro e w1 ⟨rfl, hw1⟩
  subst w1
  go_wp2
  exact HP.out _ (below_two B0.out HB1.out)
theorem Kp.butK {X : List Nat} {b : Nat} {a w w' : World} (h : Kp X a w) (hb : But b w w') (hx : b ∈ X ∨ a.heap.size ≤ b) : Kp X a w' :=
  ⟨hb.os.trans h.os, hb.tape.trans h.tape, hb.output.trans h.output, by rw [hb.size]; exact h.size, fun k hk hn => (hb.block k (fun e => by
    rcases hx with e1 | e1
    · exact hn (by rw [e]; exact e1)
    · omega)).trans (h.block k hk hn)⟩
theorem kC_snoc (n me : Int) (L : List Ln) (x : Ln) : kC n me (L ++ [x]) = krow n me (if (longL L).length < x.view.length then x.view else longL L) (if (longL L).length < x.view.length then x.byc else (topL L).byc) (if (longL L).length < x.view.length then x.tag else (topL L).tag) (upd (wl L) x.fro (max (wl L x.fro) x.view.length)) (if x.byc = x.fro then upd (ol L) x.fro (max (ol L x.fro) x.view.length) else ol L) := by
  have ew : wl (L ++ [x]) = upd (wl L) x.fro (max (wl L x.fro) x.view.length) := by
    funext i
    rw [wl_snoc]
    unfold wlF upd
    by_cases e : i = x.fro
    · rw [if_pos e, if_pos e.symm, e]
    · rw [if_neg e, if_neg (fun h => e h.symm)]
  have eo : ol (L ++ [x]) = if x.byc = x.fro then upd (ol L) x.fro (max (ol L x.fro) x.view.length) else ol L := by
    funext i
    rw [ol_snoc]
    unfold olF upd
    by_cases e : i = x.fro
    · subst e
      by_cases e2 : x.byc = x.fro
      · rw [if_pos ⟨rfl, e2⟩, if_pos e2, if_pos rfl]
      · rw [if_neg (fun h => e2 h.2), if_neg e2]
    · rw [if_neg (fun h => e h.1.symm)]
      by_cases e2 : x.byc = x.fro
      · rw [if_pos e2, if_neg e]
      · rw [if_neg e2]
  unfold kC longL
  rw [ew, eo, top_snoc]
  unfold topF
  split <;> rfl
set_option maxHeartbeats 4000000 in
theorem learn_e (h : KAt w p n me L) (x : Ln) (hv : x.view.length ≤ 281474976710656) (h1 : hasB n x.fro = true) (h2 : hasB n x.byc = true) (h3 : Hist.rightB x.view n = true) (h4 : endsB x.view x.byc = true) (h5 : Hist.fitB x.view (longL L) = false) : Calls Try.prog 29 #[pt p 0, nu x.fro, nu x.byc, st x.view, .agg (dg x.tag).toArray] w (LnPost w p n me L x) := by
  have B0 := hid (below_a1 w (.cells (dg x.tag).toArray 32))
  have T0 := hid (top_obj w (.cells (dg x.tag).toArray 32))
  have H0 := hid (h.kept B0.out)
  have HM := hid (made_any H0.out)
  have c0 : (w.alloc (.cells (dg x.tag).toArray 32)).cell? ⟨p, 0, none⟩ = some (nu n) := kr0 H0.out.obj
  have HF := hid (has_any H0.out x.fro)
  have HB := hid (has_any H0.out x.byc)
  have HR := hid (Hist.right_any x.view (n : Int) (w.alloc (.cells (dg x.tag).toArray 32)))
  have HE := hid (fun W => ends_any x.view x.byc (by omega) W)
  have HT := hid (fun W => Hist.fit_any x.view (longL L) W)
  have hno : okB n x = true := by
    rw [okB_has]
    simp [*]
  have HP : Hid (∀ W, Below w.heap.size w W → LnPost w p n me L x (.returned (nu 8)) W) := fun W hb => by
    rcases learn_cases n L x with ⟨e, -⟩ | ⟨-, -, e1, e2⟩ | ⟨-, e, -⟩
    · rw [hno] at e; cases e
    · unfold LnPost
      rw [e1, e2]
      exact ⟨rfl, h.kept hb, Kp.of hb⟩
    · rw [h5] at e; cases e
  have C2 : Hid (∀ W, Below w.heap.size w W → W.cell? ⟨p, 2, none⟩ = some (st (longL L))) := fun W hb => kr2 (h.kept hb).obj
  rw [h1] at HF
  rw [h2] at HB
  rw [h3] at HR
  rw [h4] at HE
  rw [h5] at HT
  clear h hno h1 h2 h3 h4 h5
  generalize LnPost w p n me L x = PO at *
  generalize longL L = T at *
  obtain ⟨fr, bc, vw, tg⟩ := x
  simp only at *
  go_enter Try.func29, Try.ntmps29
  go_upto_region 1 with fail
  generalize w.alloc (.cells (dg tg).toArray 32) = W0 at *
  go_wp2_with fail
  refine HM.out.mono ?_
  rintro e w1 ⟨rfl, hw1⟩
  subst w1
  go_wp2_with fail
  refine HF.out.mono ?_
  rintro e w1 ⟨rfl, hw1⟩
  subst w1
  go_wp2_with fail
  refine HB.out.mono ?_
  rintro e w1 ⟨rfl, hw1⟩
  subst w1
  go_wp2_with fail
  refine HR.out.mono ?_
  rintro e W1 ⟨rfl, hb1⟩
  have HB1 := hid hb1
  clear hb1
  go_wp2_with fail
  refine (HE.out _).mono ?_
  rintro e w1 ⟨rfl, hw1⟩
  subst w1
  have q2 := C2.out _ (below_two B0.out HB1.out)
  go_wp2_with fail
  refine (HT.out _).mono ?_
  rintro e w1 ⟨rfl, hw1⟩
  subst w1
  go_wp2
  exact HP.out _ (below_two B0.out HB1.out)
set_option maxHeartbeats 32000000 in
theorem learn_f (h : KAt w p n me L) (x : Ln) (hx : x.Wf) (hv : x.view.length ≤ 281474976710656) (h1 : hasB n x.fro = true) (h2 : hasB n x.byc = true) (h3 : Hist.rightB x.view n = true) (h4 : endsB x.view x.byc = true) (h5 : Hist.fitB x.view (longL L) = true) : Calls Try.prog 29 #[pt p 0, nu x.fro, nu x.byc, st x.view, .agg (dg x.tag).toArray] w (LnPost w p n me L x) := by
  have B0 := hid (below_a1 w (.cells (dg x.tag).toArray 32))
  have T0 := hid (top_obj w (.cells (dg x.tag).toArray 32))
  have H0 := hid (h.kept B0.out)
  have HM := hid (made_any H0.out)
  have c0 : (w.alloc (.cells (dg x.tag).toArray 32)).cell? ⟨p, 0, none⟩ = some (nu n) := kr0 H0.out.obj
  have HF := hid (has_any H0.out x.fro)
  have HB := hid (has_any H0.out x.byc)
  have HR := hid (Hist.right_any x.view (n : Int) (w.alloc (.cells (dg x.tag).toArray 32)))
  have HE := hid (fun W => ends_any x.view x.byc (by omega) W)
  have HT := hid (fun W => Hist.fit_any x.view (longL L) W)
  have HCl := hid (fun W => Hist.clone_any x.view hv W)
  have HLn := hid (fun W ty => len_str (P := Try.prog) W x.view 9 Try.underlying9 ty)
  have hno : okB n x = true := by
    rw [okB_has]
    simp [*]
  have hpi := (h.inv.more hx hno h5).1
  have hfr := (hasB_iff n x.fro).1 h1
  have hn8 := h.n8
  have htg0 := h.inv.tag
  have htg : x.tag.length = 32 := hx
  have HP : Hid (∀ W, W.heap[p]? = some (.cells (kC n me (L ++ [x])).toArray 61) → Kp [p] w W → LnPost w p n me L x (.returned (nu 0)) W) := fun W hr hk => by
    rcases learn_cases n L x with ⟨e, -⟩ | ⟨-, e, -⟩ | ⟨-, -, e1, e2⟩
    · rw [hno] at e; cases e
    · rw [h5] at e; cases e
    · unfold LnPost
      rw [e1, e2]
      exact ⟨rfl, ⟨hr, hpi, h.n2, h.n8, h.hme⟩, hk⟩
  have P0 : Hid ((w.alloc (.cells (dg x.tag).toArray 32)).heap[p]? = some (.cells (krow n me (longL L) (topL L).byc (topL L).tag (wl L) (ol L)).toArray 61)) := H0.out.obj
  have hXp : w.heap.size ≠ p := by have := h.lt; omega
  rw [kC_snoc] at HP
  rw [h1] at HF
  rw [h2] at HB
  rw [h3] at HR
  rw [h4] at HE
  rw [h5] at HT
  clear h hno h1 h2 h3 h4 h5 hpi H0 hv hx
  generalize LnPost w p n me L x = PO at *
  generalize longL L = T at *
  generalize (topL L).byc = b0 at *
  generalize (topL L).tag = tg0 at *
  generalize wl L = f at *
  generalize ol L = g at *
  obtain ⟨fr, bc, vw, tg⟩ := x
  simp only at *
  obtain ⟨i, rfl⟩ : ∃ i : Nat, fr = (i : Int) := ⟨fr.toNat, by omega⟩
  have hi8 : i < 8 := by omega
  clear hfr hn8
  obtain ⟨DT, hDT⟩ : ∃ DT, dg tg = DT := ⟨_, rfl⟩
  have HDT := hid hDT
  have ZD : Hid ((Try.prog.info? 32).map (·.size) = some DT.length) := by
    show _ = _
    rw [← hDT]
    exact sizeDg htg
  have ODT : Hid (∀ u ∈ DT, u.oneCell' = true) := by
    show ∀ u ∈ DT, u.oneCell' = true
    rw [← hDT]
    exact one_dg tg
  rw [hDT] at B0 T0 HM c0 HF HB HR P0
  rw [hDT]
  clear hDT
  have HVl := hid (show (⟨vw.toArray⟩ : ByteArray).size = vw.length from rfl)
  generalize vw.length = vl at *
  go_enter Try.func29, Try.ntmps29
  go_upto_region 1 with fail
  generalize w.alloc (.cells DT.toArray 32) = W0 at *
  generalize hX : w.heap.size = X at *
  go_wp2_with fail
  refine HM.out.mono ?_
  rintro e w1 ⟨rfl, hw1⟩
  subst w1
  go_wp2_with fail
  refine HF.out.mono ?_
  rintro e w1 ⟨rfl, hw1⟩
  subst w1
  go_wp2_with fail
  refine HB.out.mono ?_
  rintro e w1 ⟨rfl, hw1⟩
  subst w1
  go_wp2_with fail
  refine HR.out.mono ?_
  rintro e W1 ⟨rfl, hb1⟩
  have HB1 := hid hb1
  clear hb1
  go_wp2_with fail
  refine (HE.out _).mono ?_
  rintro e w1 ⟨rfl, hw1⟩
  subst w1
  have q2 : W1.cell? ⟨p, 2, none⟩ = some (st T) := kr2 (row_kept P0.out HB1.out)
  go_wp2_with fail
  refine (HT.out _).mono ?_
  rintro e w1 ⟨rfl, hw1⟩
  subst w1
  have K1 : Hid (Kp [p] w W1) := by
    have e : Below w.heap.size w W1 := (hX ▸ B0.out : Below w.heap.size w W0).trans (HB1.out.mono (hX ▸ B0.out : Below w.heap.size w W0).size)
    exact Kp.of e
  have P1 := hid (row_kept P0.out HB1.out)
  have T1 := hid (row_kept T0.out HB1.out)
  clear q2 P0 T0 HM c0 HF HB HR HE HT HB1 B0
  obtain ⟨fi, hfi⟩ : ∃ fi, f (i : Int) = fi := ⟨_, rfl⟩
  obtain ⟨gi, hgi⟩ : ∃ gi, g (i : Int) = gi := ⟨_, rfl⟩
  have hcm : ∀ a : Nat, max (a : Int) (vl : Int) = ((max a vl : Nat) : Int) := fun a => by omega
  obtain ⟨R0, hR0⟩ : ∃ R0, krow n me T b0 tg0 f g = R0 := ⟨_, rfl⟩
  obtain ⟨F1, hF1⟩ : ∃ F1, upd f (i : Int) (max fi vl) = F1 := ⟨_, rfl⟩
  obtain ⟨R1, hR1⟩ : ∃ R1, krow n me T b0 tg0 F1 g = R1 := ⟨_, rfl⟩
  have C36 : Hid (∀ W : World, W.heap[p]? = some (.cells R0.toArray 61) → W.cell? ⟨p, 36 + i * 1, none⟩ = some (nu (fi : Int))) := fun W hr => by
    rw [← hR0] at hr
    rw [← hfi, show 36 + i * 1 = 36 + i by omega]
    exact kr36 hr htg0 i _ (wC_at f i hi8)
  obtain ⟨A36, hA36⟩ : ∃ A36, [nu n, nu me, st T, nu b0] ++ (dg tg0 ++ (wC f).take i) = A36 := ⟨_, rfl⟩
  obtain ⟨Z36, hZ36⟩ : ∃ Z36, (wC f).drop (i + 1) ++ wC g = Z36 := ⟨_, rfl⟩
  have E36a : Hid (R0 = A36 ++ ([nu (fi : Int)] ++ Z36)) := by
    show _ = _
    rw [← hR0, (krow_w hi8 0).1, hA36, hZ36, hfi]
  have E36b : Hid (R1 = A36 ++ ([nu (max (fi : Int) (vl : Int))] ++ Z36)) := by
    show _ = _
    rw [← hR1, ← hF1, (krow_w hi8 (max fi vl)).2, hA36, hZ36, hcm]
  have L36 : Hid (A36.length = 36 + i * 1) := by
    show _ = _
    rw [← hA36, (krow_A (f := f) (g := g) hi8 htg0).1]
    omega
  rw [hR0] at P1
  clear hA36 hZ36 hR0
  go_upto_region 7 with fail
  refine wp_region_cs (N := 98) [(pt p 0), (nu (i : Int)), (pt p 0), (nu (i : Int)), (pt p 0), (pt p 36), (pt p (36 + i * 1)), (nu (fi : Int)), (st vw), (nu (vl : Int)), (nu (max (fi : Int) (vl : Int))), (pt p 0), (pt p 36), (pt p (36 + i * 1)), undef] (fun L w' => Kp [p] w w' ∧ w'.heap[p]? = some (.cells (bif L 14 then R1 else R0).toArray 61) ∧ w'.heap[X]? = some (.cells DT.toArray 32)) [(46, (pt p 0)), (47, (nu (i : Int))), (48, (pt p 0)), (49, (nu (i : Int))), (50, (pt p 0)), (51, (pt p 36)), (52, (pt p (36 + i * 1))), (53, (nu (fi : Int))), (54, (st vw)), (55, (nu (vl : Int))), (56, (nu (max (fi : Int) (vl : Int)))), (57, (pt p 0)), (58, (pt p 36)), (59, (pt p (36 + i * 1)))] (by kernel_rfl) (by kernel_rfl) rfl (fun w1 hb => ⟨K1.out.trans (Kp.of hb), row_kept P1.out hb, row_kept T1.out hb⟩) (by kernel_rfl) ?_ ?_
  · intro io o ho
    match io, ho with
    | 0, ho => cases ho; exact fun L a w hLi hw hnot hJ hk hv K h => op_move 0 _ rfl (hk 0 (by kernel_rfl)) (h _ hJ)
    | 1, ho => cases ho; exact fun L a w hLi hw hnot hJ hk hv K h => op_move 1 _ rfl (hk 1 (by kernel_rfl)) (h _ hJ)
    | 2, ho => cases ho; exact fun L a w hLi hw hnot hJ hk hv K h => op_move 0 _ rfl (hk 0 (by kernel_rfl)) (h _ hJ)
    | 3, ho => cases ho; exact fun L a w hLi hw hnot hJ hk hv K h => op_move 1 _ rfl (hk 1 (by kernel_rfl)) (h _ hJ)
    | 4, ho => cases ho; exact fun L a w hLi hw hnot hJ hk hv K h => op_nil 48 p 0 rfl (hv 2 48 (by kernel_rfl) (by kernel_rfl)) (h _ hJ)
    | 5, ho => cases ho; exact fun L a w hLi hw hnot hJ hk hv K h => op_fa 50 _ 5 p 0 36 rfl (fun W => by kernel_rfl) (hv 4 50 (by kernel_rfl) (by kernel_rfl)) (h _ hJ)
    | 6, ho => cases ho; exact fun L a w1 hLi hw hnot hJ hk hv K h => op_indexA 51 49 _ 3 8 rfl Try.underlying59 1 (by kernel_rfl) p 36 i hi8 (hv 5 51 (by kernel_rfl) (by kernel_rfl)) (hv 3 49 (by kernel_rfl) (by kernel_rfl)) (h _ hJ)
    | 7, ho => cases ho; exact fun L a w1 hLi hw hnot hJ hk hv K h => op_load1 _ (.tmp 52) rfl p (36 + i * 1) (hv 6 52 (by kernel_rfl) (by kernel_rfl)) (nu (fi : Int)) _ (C36.out _ (by have e := hJ.2.1; rw [hnot 14 _ rfl (by kernel_rfl), cond_false] at e; exact e)) Try.underlying3 rfl (h _ hJ)
    | 8, ho => cases ho; exact fun L a w hLi hw hnot hJ hk hv K h => op_move 3 _ rfl (hk 3 (by kernel_rfl)) (h _ hJ)
    | 9, ho => cases ho; exact fun L a w1 hLi hw hnot hJ hk hv K h => op_len 54 9 vl rfl (st vw) (hv 8 54 (by kernel_rfl) (by kernel_rfl)) (fun ty => HLn.out _ ty) (h _ hJ)
    | 10, ho => cases ho; exact fun L a w1 hLi hw hnot hJ hk hv K h => op_max 53 55 _ _ rfl (hv 7 53 (by kernel_rfl) (by kernel_rfl)) (hv 9 55 (by kernel_rfl) (by kernel_rfl)) (h _ hJ)
    | 11, ho => cases ho; exact fun L a w hLi hw hnot hJ hk hv K h => op_nil 46 p 0 rfl (hv 0 46 (by kernel_rfl) (by kernel_rfl)) (h _ hJ)
    | 12, ho => cases ho; exact fun L a w hLi hw hnot hJ hk hv K h => op_fa 57 _ 5 p 0 36 rfl (fun W => by kernel_rfl) (hv 11 57 (by kernel_rfl) (by kernel_rfl)) (h _ hJ)
    | 13, ho => cases ho; exact fun L a w1 hLi hw hnot hJ hk hv K h => op_indexA 58 47 _ 3 8 rfl Try.underlying59 1 (by kernel_rfl) p 36 i hi8 (hv 12 58 (by kernel_rfl) (by kernel_rfl)) (hv 1 47 (by kernel_rfl) (by kernel_rfl)) (h _ hJ)
    | 14, ho => cases ho; exact fun L a w1 hLi hw hnot hJ hk hv K h => op_put1 _ 59 56 rfl rfl p (36 + i * 1) (hv 13 59 (by kernel_rfl) (by kernel_rfl)) A36 Z36 (nu (fi : Int)) (nu (max (fi : Int) (vl : Int))) (hv 10 56 (by kernel_rfl) (by kernel_rfl)) _ (by have e := hJ.2.1; simp only [hLi, cond_false] at e; rw [E36a.out] at e; exact e) L36.out rfl (by kernel_rfl) (fun w2 hr hb => h _ ⟨hJ.1.butK hb (Or.inl (by simp)), (by show w2.heap[p]? = some (.cells (bif up L 14 14 then R1 else R0).toArray _); rw [up_self, cond_true, E36b.out]; exact hr), hb.row hJ.2.2 hXp⟩)
    | (i + 15), ho => exact absurd ho (by simp)
  intro LL W2 hall hJ
  simp only [List.foldl_cons, List.foldl_nil, List.setIfInBounds_toArray, List.set_cons_zero, List.set_cons_succ]
  obtain ⟨t2, r2, x2⟩ := hJ
  rw [hall 14 (by decide), cond_true] at r2
  have K2 := hid t2
  have P2 := hid r2
  have T2 := hid x2
  clear t2 r2 x2
  clear C36 E36a E36b L36 K1 P1 T1
  have HR1 := hid hR1
  have q2 : ∀ (W : World) G, W.heap[p]? = some (.cells (krow n me T b0 tg0 F1 G).toArray 61) → W.cell? ⟨p, 2, none⟩ = some (st T) := fun W G hr => kr2 hr
  have Q2 := hid q2
  clear q2
  have hsT : (⟨T.toArray⟩ : ByteArray).size = T.length := rfl
  have hsV : (⟨vw.toArray⟩ : ByteArray).size = vl := HVl.out
  by_cases hbf : bc = (i : Int)
  · have d1 : (bc == (i : Int)) = true := by simpa using hbf
    rw [if_pos hbf] at HP
    obtain ⟨G1, hG1⟩ : ∃ G1, upd g (i : Int) (max gi vl) = G1 := ⟨_, rfl⟩
    obtain ⟨R2, hR2⟩ : ∃ R2, krow n me T b0 tg0 F1 G1 = R2 := ⟨_, rfl⟩
    have C44 : Hid (∀ W : World, W.heap[p]? = some (.cells R1.toArray 61) → W.cell? ⟨p, 44 + i * 1, none⟩ = some (nu (gi : Int))) := fun W hr => by
      rw [← hR1] at hr
      rw [← hgi, show 44 + i * 1 = 44 + i by omega]
      exact kr44 hr htg0 i _ (wC_at g i hi8)
    obtain ⟨A44, hA44⟩ : ∃ A44, [nu n, nu me, st T, nu b0] ++ (dg tg0 ++ (wC F1 ++ (wC g).take i)) = A44 := ⟨_, rfl⟩
    obtain ⟨Z44, hZ44⟩ : ∃ Z44, (wC g).drop (i + 1) = Z44 := ⟨_, rfl⟩
    have E44a : Hid (R1 = A44 ++ ([nu (gi : Int)] ++ Z44)) := by
      show _ = _
      rw [← hR1, (krow_o hi8 0).1, hA44, hZ44, hgi]
    have E44b : Hid (R2 = A44 ++ ([nu (max (gi : Int) (vl : Int))] ++ Z44)) := by
      show _ = _
      rw [← hR2, ← hG1, (krow_o hi8 (max gi vl)).2, hA44, hZ44, hcm]
    have L44 : Hid (A44.length = 44 + i * 1) := by
      show _ = _
      rw [← hA44, (krow_A (f := F1) (g := g) hi8 htg0).2]
      omega
    rw [hfi, hgi, hF1, hG1] at HP
    clear hA44 hZ44 hbf hfi hgi hF1 hG1 hcm hR1
    go_upto_region 9 with fail
    refine wp_region_cs (N := 98) [(pt p 0), (nu (i : Int)), (pt p 0), (nu (i : Int)), (pt p 0), (pt p 44), (pt p (44 + i * 1)), (nu (gi : Int)), (st vw), (nu (vl : Int)), (nu (max (gi : Int) (vl : Int))), (pt p 0), (pt p 44), (pt p (44 + i * 1)), undef] (fun L w' => Kp [p] w w' ∧ w'.heap[p]? = some (.cells (bif L 14 then R2 else R1).toArray 61) ∧ w'.heap[X]? = some (.cells DT.toArray 32)) [(63, (pt p 0)), (64, (nu (i : Int))), (65, (pt p 0)), (66, (nu (i : Int))), (67, (pt p 0)), (68, (pt p 44)), (69, (pt p (44 + i * 1))), (70, (nu (gi : Int))), (71, (st vw)), (72, (nu (vl : Int))), (73, (nu (max (gi : Int) (vl : Int)))), (74, (pt p 0)), (75, (pt p 44)), (76, (pt p (44 + i * 1)))] (by kernel_rfl) (by kernel_rfl) rfl (fun w1 hb => ⟨K2.out.trans (Kp.of hb), row_kept P2.out hb, row_kept T2.out hb⟩) (by kernel_rfl) ?_ ?_
    · intro io o ho
      match io, ho with
      | 0, ho => cases ho; exact fun L a w hLi hw hnot hJ hk hv K h => op_move 0 _ rfl (hk 0 (by kernel_rfl)) (h _ hJ)
      | 1, ho => cases ho; exact fun L a w hLi hw hnot hJ hk hv K h => op_move 1 _ rfl (hk 1 (by kernel_rfl)) (h _ hJ)
      | 2, ho => cases ho; exact fun L a w hLi hw hnot hJ hk hv K h => op_move 0 _ rfl (hk 0 (by kernel_rfl)) (h _ hJ)
      | 3, ho => cases ho; exact fun L a w hLi hw hnot hJ hk hv K h => op_move 1 _ rfl (hk 1 (by kernel_rfl)) (h _ hJ)
      | 4, ho => cases ho; exact fun L a w hLi hw hnot hJ hk hv K h => op_nil 65 p 0 rfl (hv 2 65 (by kernel_rfl) (by kernel_rfl)) (h _ hJ)
      | 5, ho => cases ho; exact fun L a w hLi hw hnot hJ hk hv K h => op_fa 67 _ 6 p 0 44 rfl (fun W => by kernel_rfl) (hv 4 67 (by kernel_rfl) (by kernel_rfl)) (h _ hJ)
      | 6, ho => cases ho; exact fun L a w1 hLi hw hnot hJ hk hv K h => op_indexA 68 66 _ 3 8 rfl Try.underlying59 1 (by kernel_rfl) p 44 i hi8 (hv 5 68 (by kernel_rfl) (by kernel_rfl)) (hv 3 66 (by kernel_rfl) (by kernel_rfl)) (h _ hJ)
      | 7, ho => cases ho; exact fun L a w1 hLi hw hnot hJ hk hv K h => op_load1 _ (.tmp 69) rfl p (44 + i * 1) (hv 6 69 (by kernel_rfl) (by kernel_rfl)) (nu (gi : Int)) _ (C44.out _ (by have e := hJ.2.1; rw [hnot 14 _ rfl (by kernel_rfl), cond_false] at e; exact e)) Try.underlying3 rfl (h _ hJ)
      | 8, ho => cases ho; exact fun L a w hLi hw hnot hJ hk hv K h => op_move 3 _ rfl (hk 3 (by kernel_rfl)) (h _ hJ)
      | 9, ho => cases ho; exact fun L a w1 hLi hw hnot hJ hk hv K h => op_len 71 9 vl rfl (st vw) (hv 8 71 (by kernel_rfl) (by kernel_rfl)) (fun ty => HLn.out _ ty) (h _ hJ)
      | 10, ho => cases ho; exact fun L a w1 hLi hw hnot hJ hk hv K h => op_max 70 72 _ _ rfl (hv 7 70 (by kernel_rfl) (by kernel_rfl)) (hv 9 72 (by kernel_rfl) (by kernel_rfl)) (h _ hJ)
      | 11, ho => cases ho; exact fun L a w hLi hw hnot hJ hk hv K h => op_nil 63 p 0 rfl (hv 0 63 (by kernel_rfl) (by kernel_rfl)) (h _ hJ)
      | 12, ho => cases ho; exact fun L a w hLi hw hnot hJ hk hv K h => op_fa 74 _ 6 p 0 44 rfl (fun W => by kernel_rfl) (hv 11 74 (by kernel_rfl) (by kernel_rfl)) (h _ hJ)
      | 13, ho => cases ho; exact fun L a w1 hLi hw hnot hJ hk hv K h => op_indexA 75 64 _ 3 8 rfl Try.underlying59 1 (by kernel_rfl) p 44 i hi8 (hv 12 75 (by kernel_rfl) (by kernel_rfl)) (hv 1 64 (by kernel_rfl) (by kernel_rfl)) (h _ hJ)
      | 14, ho => cases ho; exact fun L a w1 hLi hw hnot hJ hk hv K h => op_put1 _ 76 73 rfl rfl p (44 + i * 1) (hv 13 76 (by kernel_rfl) (by kernel_rfl)) A44 Z44 (nu (gi : Int)) (nu (max (gi : Int) (vl : Int))) (hv 10 73 (by kernel_rfl) (by kernel_rfl)) _ (by have e := hJ.2.1; simp only [hLi, cond_false] at e; rw [E44a.out] at e; exact e) L44.out rfl (by kernel_rfl) (fun w2 hr hb => h _ ⟨hJ.1.butK hb (Or.inl (by simp)), (by show w2.heap[p]? = some (.cells (bif up L 14 14 then R2 else R1).toArray _); rw [up_self, cond_true, E44b.out]; exact hr), hb.row hJ.2.2 hXp⟩)
      | (i + 15), ho => exact absurd ho (by simp)
    intro LL W3 hall hJ
    simp only [List.foldl_cons, List.foldl_nil, List.setIfInBounds_toArray, List.set_cons_zero, List.set_cons_succ]
    obtain ⟨t2, r2, x2⟩ := hJ
    rw [hall 14 (by decide), cond_true] at r2
    have K3 := hid t2
    have P3 := hid r2
    have T3 := hid x2
    clear t2 r2 x2
    clear C44 E44a E44b L44 K2 P2 T2
    rw [← hR2] at P3
    have k2 := Q2.out _ _ P3.out
    clear hR2
    by_cases hlo : T.length < vl
    · have d2 : decide ((T.length : Int) < (vl : Int)) = true := decide_eq_true (by omega)
      have d2' : decide (T.length < vl) = true := decide_eq_true hlo
      rw [if_pos hlo, if_pos hlo, if_pos hlo] at HP
      have HPx := HP
      clear hlo HP
      obtain ⟨RW, hRW⟩ : ∃ RW, wC F1 ++ wC G1 = RW := ⟨_, rfl⟩
      obtain ⟨D00, hD00⟩ : ∃ D00, dg tg0 = D00 := ⟨_, rfl⟩
      obtain ⟨RT, hRT⟩ : ∃ RT, D00 ++ RW = RT := ⟨_, rfl⟩
      obtain ⟨S0, hS0⟩ : ∃ S0, krow n me T b0 tg0 F1 G1 = S0 := ⟨_, rfl⟩
      obtain ⟨S1, hS1⟩ : ∃ S1, [nu n, nu me] ++ ([st vw] ++ ([nu b0] ++ RT)) = S1 := ⟨_, rfl⟩
      obtain ⟨S2, hS2⟩ : ∃ S2, [nu n, nu me, st vw] ++ ([nu bc] ++ RT) = S2 := ⟨_, rfl⟩
      obtain ⟨S3, hS3⟩ : ∃ S3, [nu n, nu me, st vw, nu bc] ++ (DT ++ RW) = S3 := ⟨_, rfl⟩
      have D0 : Hid (S0 = [nu n, nu me] ++ ([st T] ++ ([nu b0] ++ RT))) := by
        show _ = _
        rw [← hS0, ← hRT, ← hD00, ← hRW]; rfl
      have D1 : Hid (S1 = [nu n, nu me] ++ ([st vw] ++ ([nu b0] ++ RT))) := hS1.symm
      have D1b : Hid (S1 = [nu n, nu me, st vw] ++ ([nu b0] ++ RT)) := by
        show _ = _
        rw [← hS1]; rfl
      have D2 : Hid (S2 = [nu n, nu me, st vw] ++ ([nu bc] ++ RT)) := hS2.symm
      have DR : Hid (([nu n, nu me, st vw] ++ ([nu bc] ++ RT) : List Value) = [nu n, nu me, st vw, nu bc] ++ (D00 ++ RW)) := by
        show _ = _
        rw [← hRT]; rfl
      have D3 : Hid (S3 = [nu n, nu me, st vw, nu bc] ++ (DT ++ RW)) := hS3.symm
      have D4 : Hid (S3 = krow n me vw bc tg F1 G1) := by
        show _ = _
        rw [← hS3, ← hRW, ← HDT.out]; rfl
      have LDD : Hid (D00.length = DT.length) := by
        show _ = _
        rw [← hD00, ← HDT.out, dg_len, dg_len, htg0, htg]
      rw [hS0] at P3
      clear hS0 hS1 hS2 hS3 hRT hD00 hRW
      go_upto_region 11 with fail
      refine wp_region_cs (N := 98) [(pt p 0), (pt p 0), (pt p 0), (st vw), (st vw), (nu bc), (.agg (DT).toArray), (pt p 0), (pt p 2), undef, (pt p 0), (pt p 3), undef, (pt p 0), (pt p 4), undef] (fun L w' => Kp [p] w w' ∧ w'.heap[p]? = some (.cells (bif L 15 then S3 else bif L 12 then S2 else bif L 9 then S1 else S0).toArray 61) ∧ w'.heap[X]? = some (.cells DT.toArray 32)) [(85, (pt p 0)), (86, (pt p 0)), (87, (pt p 0)), (88, (st vw)), (89, (st vw)), (90, (nu bc)), (91, (.agg (DT).toArray)), (92, (pt p 0)), (93, (pt p 2)), (94, (pt p 0)), (95, (pt p 3)), (96, (pt p 0)), (97, (pt p 4))] (by kernel_rfl) (by kernel_rfl) rfl (fun w1 hb => ⟨K3.out.trans (Kp.of hb), row_kept P3.out hb, row_kept T3.out hb⟩) (by kernel_rfl) ?_ ?_
      · intro io o ho
        match io, ho with
        | 0, ho => cases ho; exact fun L a w1 hLi hw hnot hJ hk hv K h => op_move 0 _ rfl (hk 0 (by kernel_rfl)) (h _ hJ)
        | 1, ho => cases ho; exact fun L a w1 hLi hw hnot hJ hk hv K h => op_move 0 _ rfl (hk 0 (by kernel_rfl)) (h _ hJ)
        | 2, ho => cases ho; exact fun L a w1 hLi hw hnot hJ hk hv K h => op_move 0 _ rfl (hk 0 (by kernel_rfl)) (h _ hJ)
        | 3, ho => cases ho; exact fun L a w1 hLi hw hnot hJ hk hv K h => op_move 3 _ rfl (hk 3 (by kernel_rfl)) (h _ hJ)
        | 4, ho => cases ho; exact fun L a w1 hLi hw hnot hJ hk hv K h => op_call 40 [.tmp 88] _ #[(st vw)] (st vw) rfl (fun _ _ => by kernel_rfl) (args1 (hv 3 88 (by kernel_rfl) (by kernel_rfl))) (J := fun w2 => Below w1.heap.size w1 w2) (HCl.out w1) (fun w2 e1 => h _ ⟨hJ.1.trans (Kp.of e1), row_kept hJ.2.1 e1, row_kept hJ.2.2 e1⟩)
        | 5, ho => cases ho; exact fun L a w1 hLi hw hnot hJ hk hv K h => op_move 2 _ rfl (hk 2 (by kernel_rfl)) (h _ hJ)
        | 6, ho => cases ho; exact fun L a w1 hLi hw hnot hJ hk hv K h => op_load _ (.tmp 9) rfl X 0 (hk 9 (by kernel_rfl)) (DT) _ (row_zeroY hJ.2.2) Try.underlying32 rfl ZD.out (h _ hJ)
        | 7, ho => cases ho; exact fun L a w1 hLi hw hnot hJ hk hv K h => op_nil 85 p 0 rfl (hv 0 85 (by kernel_rfl) (by kernel_rfl)) (h _ hJ)
        | 8, ho => cases ho; exact fun L a w1 hLi hw hnot hJ hk hv K h => op_fa 92 _ 2 p 0 2 rfl (fun W => by kernel_rfl) (hv 7 92 (by kernel_rfl) (by kernel_rfl)) (h _ hJ)
        | 9, ho => cases ho; exact fun L a w1 hLi hw hnot hJ hk hv K h => op_put1 _ 93 89 rfl rfl p 2 (hv 8 93 (by kernel_rfl) (by kernel_rfl)) [nu n, nu me] ([nu b0] ++ RT) (st T) (st vw) (hv 4 89 (by kernel_rfl) (by kernel_rfl)) _ (by have e := hJ.2.1; simp only [hLi, hnot 12 _ rfl (by kernel_rfl), hnot 15 _ rfl (by kernel_rfl), cond_false] at e; rw [D0.out] at e; exact e) rfl rfl (by kernel_rfl) (fun w2 hr hb => h _ ⟨hJ.1.butK hb (Or.inl (by simp)), (by show w2.heap[p]? = some (.cells (bif up L 9 15 then S3 else bif up L 9 12 then S2 else bif up L 9 9 then S1 else S0).toArray _); rw [up_self, up_ne (by decide), up_ne (by decide), hnot 12 _ rfl (by kernel_rfl), hnot 15 _ rfl (by kernel_rfl), cond_true, cond_false, cond_false, D1.out]; exact hr), hb.row hJ.2.2 hXp⟩)
        | 10, ho => cases ho; exact fun L a w1 hLi hw hnot hJ hk hv K h => op_nil 86 p 0 rfl (hv 1 86 (by kernel_rfl) (by kernel_rfl)) (h _ hJ)
        | 11, ho => cases ho; exact fun L a w1 hLi hw hnot hJ hk hv K h => op_fa 94 _ 3 p 0 3 rfl (fun W => by kernel_rfl) (hv 10 94 (by kernel_rfl) (by kernel_rfl)) (h _ hJ)
        | 12, ho => cases ho; exact fun L a w1 hLi hw hnot hJ hk hv K h => op_put1 _ 95 90 rfl rfl p 3 (hv 11 95 (by kernel_rfl) (by kernel_rfl)) [nu n, nu me, st vw] RT (nu b0) (nu bc) (hv 5 90 (by kernel_rfl) (by kernel_rfl)) _ (by have e := hJ.2.1; simp only [hLi, hw 9 (by kernel_rfl), hnot 15 _ rfl (by kernel_rfl), cond_false, cond_true] at e; rw [D1b.out] at e; exact e) rfl rfl (by kernel_rfl) (fun w2 hr hb => h _ ⟨hJ.1.butK hb (Or.inl (by simp)), (by show w2.heap[p]? = some (.cells (bif up L 12 15 then S3 else bif up L 12 12 then S2 else bif up L 12 9 then S1 else S0).toArray _); rw [up_self, up_ne (by decide), hnot 15 _ rfl (by kernel_rfl), cond_true, cond_false, D2.out]; exact hr), hb.row hJ.2.2 hXp⟩)
        | 13, ho => cases ho; exact fun L a w1 hLi hw hnot hJ hk hv K h => op_nil 87 p 0 rfl (hv 2 87 (by kernel_rfl) (by kernel_rfl)) (h _ hJ)
        | 14, ho => cases ho; exact fun L a w1 hLi hw hnot hJ hk hv K h => op_fa 96 _ 4 p 0 4 rfl (fun W => by kernel_rfl) (hv 13 96 (by kernel_rfl) (by kernel_rfl)) (h _ hJ)
        | 15, ho => cases ho; exact fun L a w1 hLi hw hnot hJ hk hv K h => op_put _ 97 91 rfl rfl p 4 (hv 14 97 (by kernel_rfl) (by kernel_rfl)) [nu n, nu me, st vw, nu bc] DT D00 RW (hv 6 91 (by kernel_rfl) (by kernel_rfl)) _ (by have e := hJ.2.1; simp only [hLi, hw 9 (by kernel_rfl), hw 12 (by kernel_rfl), cond_false, cond_true] at e; rw [D2.out, DR.out] at e; exact e) rfl LDD.out ODT.out ZD.out (fun w2 hr hb => h _ ⟨hJ.1.butK hb (Or.inl (by simp)), (by show w2.heap[p]? = some (.cells (bif up L 15 15 then S3 else bif up L 15 12 then S2 else bif up L 15 9 then S1 else S0).toArray _); rw [up_self, cond_true, D3.out]; exact hr), hb.row hJ.2.2 hXp⟩)
        | (i + 16), ho => exact absurd ho (by simp)
      intro LL W4 hall hJ
      simp only [List.foldl_cons, List.foldl_nil, List.setIfInBounds_toArray, List.set_cons_zero, List.set_cons_succ]
      obtain ⟨t2, r2, x2⟩ := hJ
      rw [hall 15 (by decide), cond_true, D4.out] at r2
      have K4 := hid t2
      have P4 := hid r2
      clear t2 r2 x2
      go_wp2
      exact HPx.out _ P4.out K4.out
    · have d2 : decide ((T.length : Int) < (vl : Int)) = false := decide_eq_false (by omega)
      have d2' : decide (T.length < vl) = false := decide_eq_false hlo
      rw [if_neg hlo, if_neg hlo, if_neg hlo] at HP
      clear hlo
      go_wp2
      exact HP.out _ P3.out K3.out
  · have d1 : (bc == (i : Int)) = false := by simpa using hbf
    rw [if_neg hbf] at HP
    rw [hfi, hF1] at HP
    clear hbf hfi hgi hF1 hcm
    rw [← hR1] at P2
    have k2 := Q2.out _ _ P2.out
    clear hR1
    by_cases hlo : T.length < vl
    · have d2 : decide ((T.length : Int) < (vl : Int)) = true := decide_eq_true (by omega)
      have d2' : decide (T.length < vl) = true := decide_eq_true hlo
      rw [if_pos hlo, if_pos hlo, if_pos hlo] at HP
      have HPx := HP
      clear hlo HP
      obtain ⟨RW, hRW⟩ : ∃ RW, wC F1 ++ wC g = RW := ⟨_, rfl⟩
      obtain ⟨D00, hD00⟩ : ∃ D00, dg tg0 = D00 := ⟨_, rfl⟩
      obtain ⟨RT, hRT⟩ : ∃ RT, D00 ++ RW = RT := ⟨_, rfl⟩
      obtain ⟨S0, hS0⟩ : ∃ S0, krow n me T b0 tg0 F1 g = S0 := ⟨_, rfl⟩
      obtain ⟨S1, hS1⟩ : ∃ S1, [nu n, nu me] ++ ([st vw] ++ ([nu b0] ++ RT)) = S1 := ⟨_, rfl⟩
      obtain ⟨S2, hS2⟩ : ∃ S2, [nu n, nu me, st vw] ++ ([nu bc] ++ RT) = S2 := ⟨_, rfl⟩
      obtain ⟨S3, hS3⟩ : ∃ S3, [nu n, nu me, st vw, nu bc] ++ (DT ++ RW) = S3 := ⟨_, rfl⟩
      have D0 : Hid (S0 = [nu n, nu me] ++ ([st T] ++ ([nu b0] ++ RT))) := by
        show _ = _
        rw [← hS0, ← hRT, ← hD00, ← hRW]; rfl
      have D1 : Hid (S1 = [nu n, nu me] ++ ([st vw] ++ ([nu b0] ++ RT))) := hS1.symm
      have D1b : Hid (S1 = [nu n, nu me, st vw] ++ ([nu b0] ++ RT)) := by
        show _ = _
        rw [← hS1]; rfl
      have D2 : Hid (S2 = [nu n, nu me, st vw] ++ ([nu bc] ++ RT)) := hS2.symm
      have DR : Hid (([nu n, nu me, st vw] ++ ([nu bc] ++ RT) : List Value) = [nu n, nu me, st vw, nu bc] ++ (D00 ++ RW)) := by
        show _ = _
        rw [← hRT]; rfl
      have D3 : Hid (S3 = [nu n, nu me, st vw, nu bc] ++ (DT ++ RW)) := hS3.symm
      have D4 : Hid (S3 = krow n me vw bc tg F1 g) := by
        show _ = _
        rw [← hS3, ← hRW, ← HDT.out]; rfl
      have LDD : Hid (D00.length = DT.length) := by
        show _ = _
        rw [← hD00, ← HDT.out, dg_len, dg_len, htg0, htg]
      rw [hS0] at P2
      clear hS0 hS1 hS2 hS3 hRT hD00 hRW
      go_upto_region 11 with fail
      refine wp_region_cs (N := 98) [(pt p 0), (pt p 0), (pt p 0), (st vw), (st vw), (nu bc), (.agg (DT).toArray), (pt p 0), (pt p 2), undef, (pt p 0), (pt p 3), undef, (pt p 0), (pt p 4), undef] (fun L w' => Kp [p] w w' ∧ w'.heap[p]? = some (.cells (bif L 15 then S3 else bif L 12 then S2 else bif L 9 then S1 else S0).toArray 61) ∧ w'.heap[X]? = some (.cells DT.toArray 32)) [(85, (pt p 0)), (86, (pt p 0)), (87, (pt p 0)), (88, (st vw)), (89, (st vw)), (90, (nu bc)), (91, (.agg (DT).toArray)), (92, (pt p 0)), (93, (pt p 2)), (94, (pt p 0)), (95, (pt p 3)), (96, (pt p 0)), (97, (pt p 4))] (by kernel_rfl) (by kernel_rfl) rfl (fun w1 hb => ⟨K2.out.trans (Kp.of hb), row_kept P2.out hb, row_kept T2.out hb⟩) (by kernel_rfl) ?_ ?_
      · intro io o ho
        match io, ho with
        | 0, ho => cases ho; exact fun L a w1 hLi hw hnot hJ hk hv K h => op_move 0 _ rfl (hk 0 (by kernel_rfl)) (h _ hJ)
        | 1, ho => cases ho; exact fun L a w1 hLi hw hnot hJ hk hv K h => op_move 0 _ rfl (hk 0 (by kernel_rfl)) (h _ hJ)
        | 2, ho => cases ho; exact fun L a w1 hLi hw hnot hJ hk hv K h => op_move 0 _ rfl (hk 0 (by kernel_rfl)) (h _ hJ)
        | 3, ho => cases ho; exact fun L a w1 hLi hw hnot hJ hk hv K h => op_move 3 _ rfl (hk 3 (by kernel_rfl)) (h _ hJ)
        | 4, ho => cases ho; exact fun L a w1 hLi hw hnot hJ hk hv K h => op_call 40 [.tmp 88] _ #[(st vw)] (st vw) rfl (fun _ _ => by kernel_rfl) (args1 (hv 3 88 (by kernel_rfl) (by kernel_rfl))) (J := fun w2 => Below w1.heap.size w1 w2) (HCl.out w1) (fun w2 e1 => h _ ⟨hJ.1.trans (Kp.of e1), row_kept hJ.2.1 e1, row_kept hJ.2.2 e1⟩)
        | 5, ho => cases ho; exact fun L a w1 hLi hw hnot hJ hk hv K h => op_move 2 _ rfl (hk 2 (by kernel_rfl)) (h _ hJ)
        | 6, ho => cases ho; exact fun L a w1 hLi hw hnot hJ hk hv K h => op_load _ (.tmp 9) rfl X 0 (hk 9 (by kernel_rfl)) (DT) _ (row_zeroY hJ.2.2) Try.underlying32 rfl ZD.out (h _ hJ)
        | 7, ho => cases ho; exact fun L a w1 hLi hw hnot hJ hk hv K h => op_nil 85 p 0 rfl (hv 0 85 (by kernel_rfl) (by kernel_rfl)) (h _ hJ)
        | 8, ho => cases ho; exact fun L a w1 hLi hw hnot hJ hk hv K h => op_fa 92 _ 2 p 0 2 rfl (fun W => by kernel_rfl) (hv 7 92 (by kernel_rfl) (by kernel_rfl)) (h _ hJ)
        | 9, ho => cases ho; exact fun L a w1 hLi hw hnot hJ hk hv K h => op_put1 _ 93 89 rfl rfl p 2 (hv 8 93 (by kernel_rfl) (by kernel_rfl)) [nu n, nu me] ([nu b0] ++ RT) (st T) (st vw) (hv 4 89 (by kernel_rfl) (by kernel_rfl)) _ (by have e := hJ.2.1; simp only [hLi, hnot 12 _ rfl (by kernel_rfl), hnot 15 _ rfl (by kernel_rfl), cond_false] at e; rw [D0.out] at e; exact e) rfl rfl (by kernel_rfl) (fun w2 hr hb => h _ ⟨hJ.1.butK hb (Or.inl (by simp)), (by show w2.heap[p]? = some (.cells (bif up L 9 15 then S3 else bif up L 9 12 then S2 else bif up L 9 9 then S1 else S0).toArray _); rw [up_self, up_ne (by decide), up_ne (by decide), hnot 12 _ rfl (by kernel_rfl), hnot 15 _ rfl (by kernel_rfl), cond_true, cond_false, cond_false, D1.out]; exact hr), hb.row hJ.2.2 hXp⟩)
        | 10, ho => cases ho; exact fun L a w1 hLi hw hnot hJ hk hv K h => op_nil 86 p 0 rfl (hv 1 86 (by kernel_rfl) (by kernel_rfl)) (h _ hJ)
        | 11, ho => cases ho; exact fun L a w1 hLi hw hnot hJ hk hv K h => op_fa 94 _ 3 p 0 3 rfl (fun W => by kernel_rfl) (hv 10 94 (by kernel_rfl) (by kernel_rfl)) (h _ hJ)
        | 12, ho => cases ho; exact fun L a w1 hLi hw hnot hJ hk hv K h => op_put1 _ 95 90 rfl rfl p 3 (hv 11 95 (by kernel_rfl) (by kernel_rfl)) [nu n, nu me, st vw] RT (nu b0) (nu bc) (hv 5 90 (by kernel_rfl) (by kernel_rfl)) _ (by have e := hJ.2.1; simp only [hLi, hw 9 (by kernel_rfl), hnot 15 _ rfl (by kernel_rfl), cond_false, cond_true] at e; rw [D1b.out] at e; exact e) rfl rfl (by kernel_rfl) (fun w2 hr hb => h _ ⟨hJ.1.butK hb (Or.inl (by simp)), (by show w2.heap[p]? = some (.cells (bif up L 12 15 then S3 else bif up L 12 12 then S2 else bif up L 12 9 then S1 else S0).toArray _); rw [up_self, up_ne (by decide), hnot 15 _ rfl (by kernel_rfl), cond_true, cond_false, D2.out]; exact hr), hb.row hJ.2.2 hXp⟩)
        | 13, ho => cases ho; exact fun L a w1 hLi hw hnot hJ hk hv K h => op_nil 87 p 0 rfl (hv 2 87 (by kernel_rfl) (by kernel_rfl)) (h _ hJ)
        | 14, ho => cases ho; exact fun L a w1 hLi hw hnot hJ hk hv K h => op_fa 96 _ 4 p 0 4 rfl (fun W => by kernel_rfl) (hv 13 96 (by kernel_rfl) (by kernel_rfl)) (h _ hJ)
        | 15, ho => cases ho; exact fun L a w1 hLi hw hnot hJ hk hv K h => op_put _ 97 91 rfl rfl p 4 (hv 14 97 (by kernel_rfl) (by kernel_rfl)) [nu n, nu me, st vw, nu bc] DT D00 RW (hv 6 91 (by kernel_rfl) (by kernel_rfl)) _ (by have e := hJ.2.1; simp only [hLi, hw 9 (by kernel_rfl), hw 12 (by kernel_rfl), cond_false, cond_true] at e; rw [D2.out, DR.out] at e; exact e) rfl LDD.out ODT.out ZD.out (fun w2 hr hb => h _ ⟨hJ.1.butK hb (Or.inl (by simp)), (by show w2.heap[p]? = some (.cells (bif up L 15 15 then S3 else bif up L 15 12 then S2 else bif up L 15 9 then S1 else S0).toArray _); rw [up_self, cond_true, D3.out]; exact hr), hb.row hJ.2.2 hXp⟩)
        | (i + 16), ho => exact absurd ho (by simp)
      intro LL W3 hall hJ
      simp only [List.foldl_cons, List.foldl_nil, List.setIfInBounds_toArray, List.set_cons_zero, List.set_cons_succ]
      obtain ⟨t2, r2, x2⟩ := hJ
      rw [hall 15 (by decide), cond_true, D4.out] at r2
      have K3 := hid t2
      have P3 := hid r2
      clear t2 r2 x2
      go_wp2
      exact HPx.out _ P3.out K3.out
    · have d2 : decide ((T.length : Int) < (vl : Int)) = false := decide_eq_false (by omega)
      have d2' : decide (T.length < vl) = false := decide_eq_false hlo
      rw [if_neg hlo, if_neg hlo, if_neg hlo] at HP
      clear hlo
      go_wp2
      exact HP.out _ P2.out K2.out
theorem learn_any (h : KAt w p n me L) (x : Ln) (hx : x.Wf) (hv : x.view.length ≤ 281474976710656) : Calls Try.prog 29 #[pt p 0, nu x.fro, nu x.byc, st x.view, .agg (dg x.tag).toArray] w (LnPost w p n me L x) := by
  cases h1 : hasB n x.fro with
  | false => exact learn_a h x hv h1
  | true =>
    cases h2 : hasB n x.byc with
    | false => exact learn_b h x hv h1 h2
    | true =>
      cases h3 : Hist.rightB x.view n with
      | false => exact learn_c h x hv h1 h2 h3
      | true =>
        cases h4 : endsB x.view x.byc with
        | false => exact learn_d h x hv h1 h2 h3 h4
        | true =>
          cases h5 : Hist.fitB x.view (longL L) with
          | false => exact learn_e h x hv h1 h2 h3 h4 h5
          | true => exact learn_f h x hx hv h1 h2 h3 h4 h5
end
end Go.Proofs.Ytfigbgpfkhcpcaa.Kn
