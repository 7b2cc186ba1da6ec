/-
  A commit that is refused (Commit).
-/
import Derived.Test.YtoneoocihfjfgaaGreatDoorG18
import Derived.Test.YtoneoocihfjfgaaGreatDoorG08
namespace Go.Proofs.YtoneoocihfjfgaaGreatDoor.Ms
open Go Go.RowKit
set_option maxRecDepth 100000
def ComPost (w : World) (p : Nat) (q rs : List Nat) (R : Rs) (c : Int) (v t : List UInt8) (e : Ending) (w' : World) : Prop :=
  ∃ q' rs' vs' vP', e = .returned (nu (comE R c v t)) ∧ RA w' p q' rs' (comR R c v t) vs' vP' ∧ Kp (p :: q) w w' ∧ ∀ b ∈ q' ++ rs', b ∈ q ++ rs ∨ w.heap.size ≤ b
theorem com_err {w : World} {p : Nat} {q rs : List Nat} {R : Rs} {vs : List Value} {vP : Value} (h : RA w p q rs R vs vP) {c : Int} {v t : List UInt8} (he : comE R c v t ≠ 0) {w' : World} (hb : Below w.heap.size w w') :
    ComPost w p q rs R c v t (.returned (nu (comE R c v t))) w' := by
  have h2 : comR R c v t = R := by unfold comR; rw [if_pos he]
  unfold ComPost
  rw [h2]
  exact ⟨q, rs, vs, vP, rfl, h.kept hb, Kp.of hb, fun b hb => Or.inl hb⟩
theorem com_wf {c : Int} {v t : List UInt8} (ht : t.length = 32) : (comM c v t).Wf := ⟨wfZeroS, wfZeroR, ht, rfl, wfZeroB⟩
theorem com_rng {c : Int} {v t : List UInt8} (hc : I64 c) : (comM c v t).Rng := by
  have h := zeroM_rng 3 c ⟨by decide, by decide⟩ hc
  exact ⟨h.kind, h.client, h.sn, h.sk, h.st, h.rn, h.rl, h.rv, h.who, h.bo, h.bn, h.ns, h.ps⟩
theorem byte_at (y : List UInt8) (j : Nat) (h : j < (⟨y.toArray⟩ : ByteArray).size) : ((⟨y.toArray⟩ : ByteArray)[j]'h).toNat = (y.getD j 0).toNat := by
  have hj : j < y.length := h
  simp [ByteArray.getElem_eq_getElem_data, List.getD, hj]
set_option maxHeartbeats 8000000 in
theorem commit_a {w : World} {p : Nat} {q rs : List Nat} {R : Rs} {vs : List Value} {vP : Value} (h : RA w p q rs R vs vP) {c : Int} {v t : List UInt8} (htl : t.length = 32) (h1 : hasB R.n c = false) :
    Calls Tryz.prog 16 #[.pointer (some ⟨p, 0, none⟩), nu c, st v, .agg (dg t).toArray] w (ComPost w p q rs R c v t) := by
  have hcode : comE R c v t = 2 := by unfold comE comOk; rw [h1]; rfl
  have B1 := hid (below_a1 w (.cells (dg t).toArray 32))
  have T1 := hid (top_obj w (.cells (dg t).toArray 32))
  have H1 := hid (h.kept B1.out)
  have HM := hid (made_any H1.out)
  have HH := hid (has_any H1.out c)
  have ZT : (Tryz.prog.info? 32).map (·.size) = some (dg t).length := by rw [dg_len, htl]; exact sizeDig
  have HEnd : Hid (∀ w', Below w.heap.size w w' → ComPost w p q rs R c v t (.returned (nu 2)) w') := fun w' hb => by
    have := com_err h (c := c) (v := v) (t := t) (by rw [hcode]; decide) hb
    rwa [hcode] at this
  rw [h1] at HH
  clear h hcode h1 T1 ZT htl
  show Calls _ _ _ _ (fun e w' => ComPost w p q rs R c v t e w')
  generalize dg t = TT at *
  go_enter Tryz.func16, Tryz.ntmps16
  go_upto_region 1 with fail
  generalize w.alloc (.cells TT.toArray 32) = W1 at *
  have hB1 : w.heap.size ≤ W1.heap.size := B1.out.size
  generalize w.heap.size = X at *
  go_wp2_with fail
  refine HM.out.mono ?_
  rintro e w1 ⟨rfl, hw1⟩
  subst w1
  go_wp2_with fail
  refine HH.out.mono ?_
  rintro e w1 ⟨rfl, hw1⟩
  subst w1
  go_wp2
  go_ret
  exact HEnd.out _ B1.out
set_option maxHeartbeats 8000000 in
theorem commit_b {w : World} {p : Nat} {q rs : List Nat} {R : Rs} {vs : List Value} {vP : Value} (h : RA w p q rs R vs vP) {c : Int} {v t : List UInt8} (htl : t.length = 32) (hc : I64 c) (ht : Tb w) (h1 : hasB R.n c = true) (h2 : mayB (comM c v t) = false) :
    Calls Tryz.prog 16 #[.pointer (some ⟨p, 0, none⟩), nu c, st v, .agg (dg t).toArray] w (ComPost w p q rs R c v t) := by
  have hcode : comE R c v t = 2 := by unfold comE comOk; rw [h1, h2]; rfl
  have B1 := hid (below_a1 w (.cells (dg t).toArray 32))
  have T1 := hid (top_obj w (.cells (dg t).toArray 32))
  have H1 := hid (h.kept B1.out)
  have HM := hid (made_any H1.out)
  have HH := hid (has_any H1.out c)
  have ZT : (Tryz.prog.info? 32).map (·.size) = some (dg t).length := by rw [dg_len, htl]; exact sizeDig
  have HEnd : Hid (∀ w', Below w.heap.size w w' → ComPost w p q rs R c v t (.returned (nu 2)) w') := fun w' hb => by
    have := com_err h (c := c) (v := v) (t := t) (by rw [hcode]; decide) hb
    rwa [hcode] at this
  have SX := hid (row_seg (off := 0) (A := []) (cs := dg t) (C := []) T1.out (by simp) rfl)
  have HBm := hid (fun W => build_comm W c v t htl)
  have HMy := hid (rmay_any (vP := .slice none 0 0) (vN := .slice none 0 0) (com_wf (c := c) (v := v) htl) (com_rng hc) (PensAt.nil (w.alloc (.cells (dg t).toArray 32))) (IntsAt.nil _) ⟨Nat.zero_le _, Nat.zero_le _⟩ (by show (3 : Int) ≠ 2; decide) (ht.stays B1.out))
  rw [h2] at HMy
  rw [h1] at HH
  clear h hcode h1 h2 T1 htl hc ht
  show Calls _ _ _ _ (fun e w' => ComPost w p q rs R c v t e w')
  generalize msgC (comM c v t) (.slice none 0 0) (.slice none 0 0) = MV at *
  generalize dg t = TT at *
  go_enter Tryz.func16, Tryz.ntmps16
  go_upto_region 1 with fail
  generalize w.alloc (.cells TT.toArray 32) = W1 at *
  have hB1 : w.heap.size ≤ W1.heap.size := B1.out.size
  generalize w.heap.size = X at *
  go_wp2_with fail
  refine HM.out.mono ?_
  rintro e w1 ⟨rfl, hw1⟩
  subst w1
  go_wp2_with fail
  refine HH.out.mono ?_
  rintro e w1 ⟨rfl, hw1⟩
  subst w1
  go_wp2_with (first
    | ((with_reducible refine wl_load 32 (.tmp 7) ?_ X 0 ?_ ?_ TT _ SX.out Tryz.underlying32 ?_ ZT ?_); exact rfl; exact rfl; exact rfl; exact rfl)
    | ((with_reducible refine wl_buildL 76 [(0, .const (nu 3)), (1, .tmp 20), (4, .tmp 21), (6, .tmp 22)] ?_ ?_ MV.toArray ?_ ?_); exact rfl; exact rfl; exact (HBm.out _)))
  refine HMy.out.mono ?_
  rintro e W2 ⟨rfl, hb2⟩
  have B2 := hid (below_two' B1.out hb2)
  clear hb2
  go_wp2
  go_ret
  exact HEnd.out _ B2.out
set_option maxHeartbeats 8000000 in
theorem commit_c {w : World} {p : Nat} {q rs : List Nat} {R : Rs} {vs : List Value} {vP : Value} (h : RA w p q rs R vs vP) {k : Nat} (hk : k < 8) {v t : List UInt8} (htl : t.length = 32) (ht : Tb w) (hok : comOk R (k : Int) v t = true) (h3 : lastI v ≠ (k : Int)) :
    Calls Tryz.prog 16 #[.pointer (some ⟨p, 0, none⟩), nu (k : Int), st v, .agg (dg t).toArray] w (ComPost w p q rs R (k : Int) v t) := by
  obtain ⟨h1, h2⟩ : hasB R.n (k : Int) = true ∧ mayB (comM (k : Int) v t) = true := by simpa [comOk, Bool.and_eq_true] using hok
  obtain ⟨-, hne, hvl, -⟩ := comOk_parts hok
  have hc : I64 (k : Int) := ⟨by omega, by omega⟩
  have B1 := hid (below_a1 w (.cells (dg t).toArray 32))
  have T1 := hid (top_obj w (.cells (dg t).toArray 32))
  have H1 := hid (h.kept B1.out)
  have HM := hid (made_any H1.out)
  have HH := hid (has_any H1.out (k : Int))
  have ZT : (Tryz.prog.info? 32).map (·.size) = some (dg t).length := by rw [dg_len, htl]; exact sizeDig
  have hcode : comE R (k : Int) v t = 3 := by unfold comE; rw [if_neg (by rw [hok]; simp), if_pos (Or.inl h3)]
  have HEnd : Hid (∀ w', Below w.heap.size w w' → ComPost w p q rs R (k : Int) v t (.returned (nu 3)) w') := fun w' hb => by
    have := com_err h (c := (k : Int)) (v := v) (t := t) (by rw [hcode]; decide) hb
    rwa [hcode] at this
  have SX := hid (row_seg (off := 0) (A := []) (cs := dg t) (C := []) T1.out (by simp) rfl)
  have HBm := hid (fun W => build_comm W (k : Int) v t htl)
  have HMy := hid (rmay_any (vP := .slice none 0 0) (vN := .slice none 0 0) (com_wf (c := (k : Int)) (v := v) htl) (com_rng hc) (PensAt.nil (w.alloc (.cells (dg t).toArray 32))) (IntsAt.nil _) ⟨Nat.zero_le _, Nat.zero_le _⟩ (by show (3 : Int) ≠ 2; decide) (ht.stays B1.out))
  rw [h2] at HMy
  rw [h1] at HH
  obtain ⟨AN, HAN⟩ : ∃ AN, Hid (AN = (R.regs.getD k zeroG).asked.number) := ⟨_, rfl⟩
  obtain ⟨m, hm⟩ : ∃ m, v.length = m + 1 := by
    cases v with
    | nil => exact absurd rfl hne
    | cons a l => exact ⟨l.length, rfl⟩
  have hss : (⟨v.toArray⟩ : ByteArray).size = m + 1 := hm
  have hq : ((⟨v.toArray⟩ : ByteArray)[m]'(by rw [hss]; omega)).toNat = (v.getD m 0).toNat := byte_at v m _
  have HLI : Hid (lastI v = (((v.getD m 0).toNat : Nat) : Int)) := by show _ = _; unfold lastI; rw [hm]; rfl
  obtain ⟨bb, HBB⟩ : ∃ bb : Nat, Hid (bb = (v.getD m 0).toNat) := ⟨_, rfl⟩
  have hbb : bb < 256 := by rw [HBB.out]; exact UInt8.toNat_lt _
  rw [← HBB.out] at hq HLI
  have hw6 : wrap64 (bb : Int) = (bb : Int) := by unfold wrap64; omega
  have hd : ((bb : Int) != (k : Int)) = true := by
    rw [HLI.out] at h3
    exact bne_iff_ne.2 h3
  have hd' : (bb != k) = true := by
    rw [HLI.out] at h3
    exact bne_iff_ne.2 (fun e => h3 (by rw [e]))
  clear h h1 h2 T1 hc ht hne hok HBB h3 hcode HLI htl
  show Calls _ _ _ _ (fun e w' => ComPost w p q rs R (k : Int) v t e w')
  generalize msgC (comM (k : Int) v t) (.slice none 0 0) (.slice none 0 0) = MV at *
  generalize dg t = TT at *
  go_enter Tryz.func16, Tryz.ntmps16
  go_upto_region 1 with fail
  generalize w.alloc (.cells TT.toArray 32) = W1 at *
  have hB1 : w.heap.size ≤ W1.heap.size := B1.out.size
  generalize w.heap.size = X at *
  go_wp2_with fail
  refine HM.out.mono ?_
  rintro e w1 ⟨rfl, hw1⟩
  subst w1
  go_wp2_with fail
  refine HH.out.mono ?_
  rintro e w1 ⟨rfl, hw1⟩
  subst w1
  go_wp2_with (first
    | ((with_reducible refine wl_load 32 (.tmp 7) ?_ X 0 ?_ ?_ TT _ SX.out Tryz.underlying32 ?_ ZT ?_); exact rfl; exact rfl; exact rfl; exact rfl)
    | ((with_reducible refine wl_buildL 76 [(0, .const (nu 3)), (1, .tmp 20), (4, .tmp 21), (6, .tmp 22)] ?_ ?_ MV.toArray ?_ ?_); exact rfl; exact rfl; exact (HBm.out _)))
  refine HMy.out.mono ?_
  rintro e W2 ⟨rfl, hb2⟩
  have B2 := hid (below_two' B1.out hb2)
  have H2 := hid (H1.out.kept hb2)
  have hb12 : W1.heap.size ≤ W2.heap.size := hb2.size
  have cn2 : W2.cell? ⟨p, 1 + k * 204, none⟩ = some (nu AN) := by rw [HAN.out]; exact H2.out.anum hk
  have hXs2 : X ≤ W2.heap.size := by omega
  clear hb2 H1 HM HH HMy HBm SX
  go_wp2
  go_ret
  exact HEnd.out _ B2.out
set_option maxHeartbeats 8000000 in
theorem commit_d {w : World} {p : Nat} {q rs : List Nat} {R : Rs} {vs : List Value} {vP : Value} (h : RA w p q rs R vs vP) {k : Nat} (hk : k < 8) {v t : List UInt8} (htl : t.length = 32) (ht : Tb w) (hok : comOk R (k : Int) v t = true) (h3 : lastI v = (k : Int)) (h4 : (Hist.cnt v (k : Int) : Int) ≠ (R.reg (k : Int)).asked.number) :
    Calls Tryz.prog 16 #[.pointer (some ⟨p, 0, none⟩), nu (k : Int), st v, .agg (dg t).toArray] w (ComPost w p q rs R (k : Int) v t) := by
  obtain ⟨h1, h2⟩ : hasB R.n (k : Int) = true ∧ mayB (comM (k : Int) v t) = true := by simpa [comOk, Bool.and_eq_true] using hok
  obtain ⟨-, hne, hvl, -⟩ := comOk_parts hok
  have hc : I64 (k : Int) := ⟨by omega, by omega⟩
  have B1 := hid (below_a1 w (.cells (dg t).toArray 32))
  have T1 := hid (top_obj w (.cells (dg t).toArray 32))
  have H1 := hid (h.kept B1.out)
  have HM := hid (made_any H1.out)
  have HH := hid (has_any H1.out (k : Int))
  have ZT : (Tryz.prog.info? 32).map (·.size) = some (dg t).length := by rw [dg_len, htl]; exact sizeDig
  have hcode : comE R (k : Int) v t = 3 := by unfold comE; rw [if_neg (by rw [hok]; simp), if_pos (Or.inr h4)]
  have HEnd : Hid (∀ w', Below w.heap.size w w' → ComPost w p q rs R (k : Int) v t (.returned (nu 3)) w') := fun w' hb => by
    have := com_err h (c := (k : Int)) (v := v) (t := t) (by rw [hcode]; decide) hb
    rwa [hcode] at this
  have SX := hid (row_seg (off := 0) (A := []) (cs := dg t) (C := []) T1.out (by simp) rfl)
  have HBm := hid (fun W => build_comm W (k : Int) v t htl)
  have HMy := hid (rmay_any (vP := .slice none 0 0) (vN := .slice none 0 0) (com_wf (c := (k : Int)) (v := v) htl) (com_rng hc) (PensAt.nil (w.alloc (.cells (dg t).toArray 32))) (IntsAt.nil _) ⟨Nat.zero_le _, Nat.zero_le _⟩ (by show (3 : Int) ≠ 2; decide) (ht.stays B1.out))
  rw [h2] at HMy
  rw [h1] at HH
  obtain ⟨AN, HAN⟩ : ∃ AN, Hid (AN = (R.regs.getD k zeroG).asked.number) := ⟨_, rfl⟩
  obtain ⟨m, hm⟩ : ∃ m, v.length = m + 1 := by
    cases v with
    | nil => exact absurd rfl hne
    | cons a l => exact ⟨l.length, rfl⟩
  have hss : (⟨v.toArray⟩ : ByteArray).size = m + 1 := hm
  have hq : ((⟨v.toArray⟩ : ByteArray)[m]'(by rw [hss]; omega)).toNat = (v.getD m 0).toNat := byte_at v m _
  have HLI : Hid (lastI v = (((v.getD m 0).toNat : Nat) : Int)) := by show _ = _; unfold lastI; rw [hm]; rfl
  obtain ⟨bb, HBB⟩ : ∃ bb : Nat, Hid (bb = (v.getD m 0).toNat) := ⟨_, rfl⟩
  have hbb : bb < 256 := by rw [HBB.out]; exact UInt8.toNat_lt _
  rw [← HBB.out] at hq HLI
  have hw6 : wrap64 (bb : Int) = (bb : Int) := by unfold wrap64; omega
  have hd : ((bb : Int) != (k : Int)) = false := by
    rw [HLI.out] at h3
    rw [h3]; exact bne_self_eq_false _
  have hd' : (bb != k) = false := by
    rw [HLI.out] at h3
    have : bb = k := by omega
    rw [this]; exact bne_self_eq_false _
  have HCn := hid (fun W => Hist.count_any v (by omega) (k : Int) W)
  have h5 : (Hist.cnt v (k : Int) : Int) ≠ AN := by rw [HAN.out]; exact h4
  generalize Hist.cnt v (k : Int) = cv at *
  have hd2 : ((cv : Int) != AN) = true := bne_iff_ne.2 h5
  clear h h1 h2 T1 hc ht hne hok HBB h3 h4 h5 hcode HLI htl
  show Calls _ _ _ _ (fun e w' => ComPost w p q rs R (k : Int) v t e w')
  generalize msgC (comM (k : Int) v t) (.slice none 0 0) (.slice none 0 0) = MV at *
  generalize dg t = TT at *
  go_enter Tryz.func16, Tryz.ntmps16
  go_upto_region 1 with fail
  generalize w.alloc (.cells TT.toArray 32) = W1 at *
  have hB1 : w.heap.size ≤ W1.heap.size := B1.out.size
  generalize w.heap.size = X at *
  go_wp2_with fail
  refine HM.out.mono ?_
  rintro e w1 ⟨rfl, hw1⟩
  subst w1
  go_wp2_with fail
  refine HH.out.mono ?_
  rintro e w1 ⟨rfl, hw1⟩
  subst w1
  go_wp2_with (first
    | ((with_reducible refine wl_load 32 (.tmp 7) ?_ X 0 ?_ ?_ TT _ SX.out Tryz.underlying32 ?_ ZT ?_); exact rfl; exact rfl; exact rfl; exact rfl)
    | ((with_reducible refine wl_buildL 76 [(0, .const (nu 3)), (1, .tmp 20), (4, .tmp 21), (6, .tmp 22)] ?_ ?_ MV.toArray ?_ ?_); exact rfl; exact rfl; exact (HBm.out _)))
  refine HMy.out.mono ?_
  rintro e W2 ⟨rfl, hb2⟩
  have B2 := hid (below_two' B1.out hb2)
  have H2 := hid (H1.out.kept hb2)
  have hb12 : W1.heap.size ≤ W2.heap.size := hb2.size
  have cn2 : W2.cell? ⟨p, 1 + k * 204, none⟩ = some (nu AN) := by rw [HAN.out]; exact H2.out.anum hk
  have hXs2 : X ≤ W2.heap.size := by omega
  clear hb2 H1 HM HH HMy HBm SX
  go_wp2_with fail
  refine (HCn.out _).mono ?_
  rintro e W3 ⟨rfl, hb3⟩
  have B3 := hid (below_two' B2.out hb3)
  clear hb3
  go_wp2
  go_ret
  exact HEnd.out _ B3.out
set_option maxHeartbeats 8000000 in
theorem commit_e {w : World} {p : Nat} {q rs : List Nat} {R : Rs} {vs : List Value} {vP : Value} (h : RA w p q rs R vs vP) {k : Nat} (hk : k < 8) {v t : List UInt8} (htl : t.length = 32) (ht : Tb w) (hok : comOk R (k : Int) v t = true) (h3 : lastI v = (k : Int)) (h4 : (Hist.cnt v (k : Int) : Int) = (R.reg (k : Int)).asked.number) (h6 : (Hist.cnt (R.reg (k : Int)).view (k : Int) : Int) = (R.reg (k : Int)).asked.number) :
    Calls Tryz.prog 16 #[.pointer (some ⟨p, 0, none⟩), nu (k : Int), st v, .agg (dg t).toArray] w (ComPost w p q rs R (k : Int) v t) := by
  obtain ⟨h1, h2⟩ : hasB R.n (k : Int) = true ∧ mayB (comM (k : Int) v t) = true := by simpa [comOk, Bool.and_eq_true] using hok
  obtain ⟨-, hne, hvl, -⟩ := comOk_parts hok
  have hc : I64 (k : Int) := ⟨by omega, by omega⟩
  have B1 := hid (below_a1 w (.cells (dg t).toArray 32))
  have T1 := hid (top_obj w (.cells (dg t).toArray 32))
  have H1 := hid (h.kept B1.out)
  have HM := hid (made_any H1.out)
  have HH := hid (has_any H1.out (k : Int))
  have ZT : (Tryz.prog.info? 32).map (·.size) = some (dg t).length := by rw [dg_len, htl]; exact sizeDig
  have hcode : comE R (k : Int) v t = 10 := by unfold comE; rw [if_neg (by rw [hok]; simp), if_neg (by omega), if_pos h6]
  have HEnd : Hid (∀ w', Below w.heap.size w w' → ComPost w p q rs R (k : Int) v t (.returned (nu 10)) w') := fun w' hb => by
    have := com_err h (c := (k : Int)) (v := v) (t := t) (by rw [hcode]; decide) hb
    rwa [hcode] at this
  have SX := hid (row_seg (off := 0) (A := []) (cs := dg t) (C := []) T1.out (by simp) rfl)
  have HBm := hid (fun W => build_comm W (k : Int) v t htl)
  have HMy := hid (rmay_any (vP := .slice none 0 0) (vN := .slice none 0 0) (com_wf (c := (k : Int)) (v := v) htl) (com_rng hc) (PensAt.nil (w.alloc (.cells (dg t).toArray 32))) (IntsAt.nil _) ⟨Nat.zero_le _, Nat.zero_le _⟩ (by show (3 : Int) ≠ 2; decide) (ht.stays B1.out))
  rw [h2] at HMy
  rw [h1] at HH
  obtain ⟨AN, HAN⟩ : ∃ AN, Hid (AN = (R.regs.getD k zeroG).asked.number) := ⟨_, rfl⟩
  obtain ⟨m, hm⟩ : ∃ m, v.length = m + 1 := by
    cases v with
    | nil => exact absurd rfl hne
    | cons a l => exact ⟨l.length, rfl⟩
  have hss : (⟨v.toArray⟩ : ByteArray).size = m + 1 := hm
  have hq : ((⟨v.toArray⟩ : ByteArray)[m]'(by rw [hss]; omega)).toNat = (v.getD m 0).toNat := byte_at v m _
  have HLI : Hid (lastI v = (((v.getD m 0).toNat : Nat) : Int)) := by show _ = _; unfold lastI; rw [hm]; rfl
  obtain ⟨bb, HBB⟩ : ∃ bb : Nat, Hid (bb = (v.getD m 0).toNat) := ⟨_, rfl⟩
  have hbb : bb < 256 := by rw [HBB.out]; exact UInt8.toNat_lt _
  rw [← HBB.out] at hq HLI
  have hw6 : wrap64 (bb : Int) = (bb : Int) := by unfold wrap64; omega
  have hd : ((bb : Int) != (k : Int)) = false := by
    rw [HLI.out] at h3
    rw [h3]; exact bne_self_eq_false _
  have hd' : (bb != k) = false := by
    rw [HLI.out] at h3
    have : bb = k := by omega
    rw [this]; exact bne_self_eq_false _
  have HCn := hid (fun W => Hist.count_any v (by omega) (k : Int) W)
  have hvl2 : (R.regs.getD k zeroG).view.length ≤ 512 := (h.inv.reg (k : Int)).view
  obtain ⟨ov, HOV⟩ : ∃ ov, Hid (ov = (R.regs.getD k zeroG).view) := ⟨_, rfl⟩
  have HCo : Hid (∀ W, Calls Tryz.prog 31 #[st ov, nu (k : Int)] W fun e w' => e = .returned (nu (Hist.cnt ov (k : Int))) ∧ Below W.heap.size W w') := fun W => Hist.count_any ov (by rw [HOV.out]; omega) (k : Int) W
  have h5 : (Hist.cnt v (k : Int) : Int) = AN := by rw [HAN.out]; exact h4
  generalize Hist.cnt v (k : Int) = cv at *
  have hd2 : ((cv : Int) != AN) = false := by rw [h5]; exact bne_self_eq_false _
  have hd3 : ((Hist.cnt ov (k : Int) : Int) == AN) = true := by rw [HOV.out, HAN.out]; exact beq_iff_eq.2 h6
  generalize Hist.cnt ov (k : Int) = co at *
  clear h h1 h2 T1 hc ht hne hok HBB h3 h4 h5 h6 hcode HLI htl hvl2
  show Calls _ _ _ _ (fun e w' => ComPost w p q rs R (k : Int) v t e w')
  generalize msgC (comM (k : Int) v t) (.slice none 0 0) (.slice none 0 0) = MV at *
  generalize dg t = TT at *
  go_enter Tryz.func16, Tryz.ntmps16
  go_upto_region 1 with fail
  generalize w.alloc (.cells TT.toArray 32) = W1 at *
  have hB1 : w.heap.size ≤ W1.heap.size := B1.out.size
  generalize w.heap.size = X at *
  go_wp2_with fail
  refine HM.out.mono ?_
  rintro e w1 ⟨rfl, hw1⟩
  subst w1
  go_wp2_with fail
  refine HH.out.mono ?_
  rintro e w1 ⟨rfl, hw1⟩
  subst w1
  go_wp2_with (first
    | ((with_reducible refine wl_load 32 (.tmp 7) ?_ X 0 ?_ ?_ TT _ SX.out Tryz.underlying32 ?_ ZT ?_); exact rfl; exact rfl; exact rfl; exact rfl)
    | ((with_reducible refine wl_buildL 76 [(0, .const (nu 3)), (1, .tmp 20), (4, .tmp 21), (6, .tmp 22)] ?_ ?_ MV.toArray ?_ ?_); exact rfl; exact rfl; exact (HBm.out _)))
  refine HMy.out.mono ?_
  rintro e W2 ⟨rfl, hb2⟩
  have B2 := hid (below_two' B1.out hb2)
  have H2 := hid (H1.out.kept hb2)
  have hb12 : W1.heap.size ≤ W2.heap.size := hb2.size
  have cn2 : W2.cell? ⟨p, 1 + k * 204, none⟩ = some (nu AN) := by rw [HAN.out]; exact H2.out.anum hk
  have hXs2 : X ≤ W2.heap.size := by omega
  clear hb2 H1 HM HH HMy HBm SX
  go_wp2_with fail
  refine (HCn.out _).mono ?_
  rintro e W3 ⟨rfl, hb3⟩
  have B3 := hid (below_two' B2.out hb3)
  have H3 := hid (H2.out.kept hb3)
  have hs3 : X ≤ W3.heap.size := Nat.le_trans hXs2 hb3.size
  have cw3 : W3.cell? ⟨p, 1 + k * 204 + 171, none⟩ = some (st ov) := by rw [HOV.out]; exact H3.out.view hk
  clear hb3 H2 cn2 B2 HCn
  go_wp2_with fail
  refine (HCo.out _).mono ?_
  rintro e W4 ⟨rfl, hb4⟩
  have B4 := hid (below_two' B3.out hb4)
  clear hb4
  go_wp2
  go_ret
  exact HEnd.out _ B4.out
open Go Go.RowKit
set_option maxRecDepth 100000
theorem op_callV {P : Program} {o : Oper} {a : Act} {w : World} {Q : Exit → Act → World → Prop} {K : Act → World → Prop} (f : FuncId) (s x : Tmp) (ts : Array TypeId) (u c1 c2 : Value) (ho : o.op = .call { callee := .value (.tmp s), args := #[.tmp x], argTypes := ts }) (hc : ∀ args w, (callFunc f args).run P w = .ok (.enter f args) w) (hs : a.tmps.getD s undef = .func (.func f) #[] #[c1, c2]) (hx : a.tmps.getD x undef = u)
    {J : Value → World → Prop} (hm : Calls P f #[u, c1, c2] w fun e w' => ∃ v, e = .returned v ∧ J v w') (h : ∀ v w', J v w' → K (a.put o.dst v) w') : o.wp P a w K Q := by
  unfold Oper.wp execOp
  have e : (do let d ← resolve a.eval { callee := .value (.tmp s), args := #[.tmp x], argTypes := ts } o.type; invoke d.target d.args : Sem Next).run P w = .ok (.enter f #[u, c1, c2]) w := by
    have e0 : a.eval (.tmp s) = .func (.func f) #[] #[c1, c2] := hs
    have e1 : a.eval (.tmp x) = u := hx
    simp [resolve, Deferred.ofValue, invoke, hc, e0, e1]
  simp only [ho]
  rw [e]
  simp only [Oper.upon]
  refine hm.mono ?_
  rintro e w' ⟨v, rfl, hJ⟩
  exact h v w' hJ
theorem enter33 (args : Array Value) (w : World) : (callFunc 28 args).run Tryz.prog w = .ok (.enter 28 args) w := by kernel_rfl
theorem enter44 (args : Array Value) (w : World) : (callFunc 40 args).run Tryz.prog w = .ok (.enter 40 args) w := by kernel_rfl
theorem sizeDon : (Tryz.prog.info? 58).map (·.size) = some 33 := by kernel_rfl
theorem set_self {α : Type} (l : List α) (k : Nat) (d : α) (h : k < l.length) : l.set k (l.getD k d) = l := by
  rw [List.getD_eq_getElem?_getD, List.getElem?_eq_getElem h]
  simp
theorem ra_comS {w w' : World} {p : Nat} {q rs : List Nat} {R : Rs} {vs : List Value} {vP : Value} (h : RA w p q rs R vs vP) {k : Nat} (hk : k < 8) {v t : List UInt8} (ht : t.length = 32) (hv : v.length ≤ 512)
    (hr : w'.heap[p]? = some (.cells (preC R vs k ++ (regC { R.reg (k : Int) with view := v, tag := t } (vs.getD k undef) ++ posC R vs vP k)).toArray 63)) (hK : Kp [p] w w') : RA w' p q rs (comS R (k : Int) v t) vs vP := by
  have hl := h.inv.len
  have hvl := h.vlen
  have hne := h.ne
  refine ⟨h.inv.comS ht hv, hvl, ?_, fun i hi' => ?_, h.rblk, ?_, h.blk, hne, fun b hb => Nat.lt_of_lt_of_le (h.lt b hb) hK.size⟩
  · have e := row_set_reg h.inv hvl vP hk { R.reg (k : Int) with view := v, tag := t } (vs.getD k undef) (R' := comS R (k : Int) v t) rfl rfl rfl
    rw [set_self _ _ _ (by omega)] at e
    rw [e]
    exact hr
  · show OwnP w' _ (((R.regs.set (k : Int).toNat { R.reg (k : Int) with view := v, tag := t })).getD i zeroG).ans.pend
    have h1 := (h.reps i hi').kp hK (fun b hb hx => hne.2.1 (by simp at hx; rw [← hx]; exact h.rblk i hi' b hb))
    by_cases e : i = k
    · subst e
      rw [show ((i : Int).toNat) = i from rfl, getD_set_same _ _ _ _ (by omega)]
      exact h1
    · rw [show ((k : Int).toNat) = k from rfl, getD_set_other _ _ _ _ _ e]
      exact h1
  · exact h.own.kp hK (fun b hb hx => hne.1 (by simp at hx; rw [← hx]; exact h.blk b hb))
theorem ra_comL {w W w' : World} {p : Nat} {q rs : List Nat} {R : Rs} {vs : List Value} {vP v' : Value} {c : Int} {v t : List UInt8} (h : RA w p q rs (comS R c v t) vs vP) (hi : RInv (comL R c v t)) (hK : Kp (p :: q) w W) (ho : OwnP W v' (cutP c (R.reg c).asked.number R.pend)) (hb : ∀ b, v'.ownBlock = some b → vP.ownBlock = some b)
    (hr : w'.heap[p]? = some (.cells (rowR (comL R c v t) vs v').toArray 63)) (hK2 : Kp [p] W w') : RA w' p q rs (comL R c v t) vs v' := by
  have hne := h.ne
  refine ⟨hi, h.vlen, hr, fun i hi' => ?_, h.rblk, ?_, fun b hb' => h.blk b (hb b hb'), hne, fun b hb => Nat.lt_of_lt_of_le (h.lt b hb) (Nat.le_trans hK.size hK2.size)⟩
  · refine ((h.reps i hi').kp hK (fun b hb' hx => ?_)).kp hK2 (fun b hb' hx => hne.2.1 (by simp at hx; rw [← hx]; exact h.rblk i hi' b hb'))
    rcases List.mem_cons.1 hx with e | e
    · exact hne.2.1 (by rw [← e]; exact h.rblk i hi' b hb')
    · exact hne.2.2 b e (h.rblk i hi' b hb')
  · exact ho.kp hK2 (fun b hb' hx => hne.1 (by simp at hx; rw [← hx]; exact h.blk b (hb b hb')))
def vC14 (ps : List Pen) (vP : Value) (i : Nat) (u : Value) (w : World) : Prop := if i = 13 then OwnP w u ps ∧ ∀ b, u.ownBlock = some b → vP.ownBlock = some b else True
theorem vC14_13 {ps : List Pen} {vP u : Value} {w : World} : vC14 ps vP 13 u w ↔ (OwnP w u ps ∧ ∀ b, u.ownBlock = some b → vP.ownBlock = some b) := by unfold vC14; rw [if_pos rfl]
theorem vC14_kp {ps : List Pen} {vP u : Value} {i : Nat} {w w' : World} {X : List Nat} (h : vC14 ps vP i u w) (hk : Kp X w w') (hX : ∀ b, vP.ownBlock = some b → b ∉ X) : vC14 ps vP i u w' := by
  unfold vC14 at h ⊢
  split
  · rename_i e
    rw [if_pos e] at h
    exact ⟨h.1.kp hk (fun b hb => hX b (h.2 b hb)), h.2⟩
  · trivial
def vC11 (v t : List UInt8) (i : Nat) (u : Value) : Prop := if i = 2 then u = st v else u = .agg (donC v t).toArray
theorem vC11_2 {v t : List UInt8} {u : Value} : vC11 v t 2 u ↔ u = st v := by unfold vC11; rw [if_pos rfl]
theorem vC11_4 {v t : List UInt8} {u : Value} : vC11 v t 4 u ↔ u = .agg (donC v t).toArray := by unfold vC11; rw [if_neg (by decide)]
set_option maxHeartbeats 8000000 in
theorem commit_f {w : World} {p : Nat} {q rs : List Nat} {R : Rs} {vs : List Value} {vP : Value} (h : RA w p q rs R vs vP) {k : Nat} (hk : k < 8) {v t : List UInt8} (htl : t.length = 32) (ht : Tb w) (hok : comOk R (k : Int) v t = true) (h3 : lastI v = (k : Int)) (h4 : (Hist.cnt v (k : Int) : Int) = (R.reg (k : Int)).asked.number) (h6 : (Hist.cnt (R.reg (k : Int)).view (k : Int) : Int) ≠ (R.reg (k : Int)).asked.number) :
    Calls Tryz.prog 16 #[.pointer (some ⟨p, 0, none⟩), nu (k : Int), st v, .agg (dg t).toArray] w (ComPost w p q rs R (k : Int) v t) := by
  obtain ⟨h1, h2⟩ : hasB R.n (k : Int) = true ∧ mayB (comM (k : Int) v t) = true := by simpa [comOk, Bool.and_eq_true] using hok
  obtain ⟨-, hne, hvl, -⟩ := comOk_parts hok
  have hc : I64 (k : Int) := ⟨by omega, by omega⟩
  have B1 := hid (below_a1 w (.cells (dg t).toArray 32))
  have T1 := hid (top_obj w (.cells (dg t).toArray 32))
  have H1 := hid (h.kept B1.out)
  have HM := hid (made_any H1.out)
  have HH := hid (has_any H1.out (k : Int))
  have ZT : (Tryz.prog.info? 32).map (·.size) = some (dg t).length := by rw [dg_len, htl]; exact sizeDig
  have HEnd : Hid (∀ w' q' rs' vs' vP', RA w' p q' rs' (comR R (k : Int) v t) vs' vP' → Kp (p :: q) w w' → (∀ b ∈ q' ++ rs', b ∈ q ++ rs ∨ w.heap.size ≤ b) → ComPost w p q rs R (k : Int) v t (.returned (nu 0)) w') := fun w' q' rs' vs' vP' a1 a2 a3 => by
    have hc0 : comE R (k : Int) v t = 0 := by unfold comE; rw [if_neg (by rw [hok]; simp), if_neg (by omega), if_neg h6]
    unfold ComPost
    rw [hc0]
    exact ⟨q', rs', vs', vP', rfl, a1, a2, a3⟩
  have HRS : Hid (¬ R.long.length < v.length → comR R (k : Int) v t = comS R (k : Int) v t) := fun hs => by
    have hc0 : comE R (k : Int) v t = 0 := by unfold comE; rw [if_neg (by rw [hok]; simp), if_neg (by omega), if_neg h6]
    unfold comR
    rw [if_neg (by omega), if_neg hs]
  have HRL : Hid (R.long.length < v.length → comR R (k : Int) v t = comL R (k : Int) v t) := fun hs => by
    have hc0 : comE R (k : Int) v t = 0 := by unfold comE; rw [if_neg (by rw [hok]; simp), if_neg (by omega), if_neg h6]
    unfold comR
    rw [if_neg (by omega), if_pos hs]
  have SX := hid (row_seg (off := 0) (A := []) (cs := dg t) (C := []) T1.out (by simp) rfl)
  have HBm := hid (fun W => build_comm W (k : Int) v t htl)
  have HMy := hid (rmay_any (vP := .slice none 0 0) (vN := .slice none 0 0) (com_wf (c := (k : Int)) (v := v) htl) (com_rng hc) (PensAt.nil (w.alloc (.cells (dg t).toArray 32))) (IntsAt.nil _) ⟨Nat.zero_le _, Nat.zero_le _⟩ (by show (3 : Int) ≠ 2; decide) (ht.stays B1.out))
  rw [h2] at HMy
  rw [h1] at HH
  obtain ⟨AN, HAN⟩ : ∃ AN, Hid (AN = (R.regs.getD k zeroG).asked.number) := ⟨_, rfl⟩
  obtain ⟨m, hm⟩ : ∃ m, v.length = m + 1 := by
    cases v with
    | nil => exact absurd rfl hne
    | cons a l => exact ⟨l.length, rfl⟩
  have hss : (⟨v.toArray⟩ : ByteArray).size = m + 1 := hm
  have hq : ((⟨v.toArray⟩ : ByteArray)[m]'(by rw [hss]; omega)).toNat = (v.getD m 0).toNat := byte_at v m _
  have HLI : Hid (lastI v = (((v.getD m 0).toNat : Nat) : Int)) := by show _ = _; unfold lastI; rw [hm]; rfl
  obtain ⟨bb, HBB⟩ : ∃ bb : Nat, Hid (bb = (v.getD m 0).toNat) := ⟨_, rfl⟩
  have hbb : bb < 256 := by rw [HBB.out]; exact UInt8.toNat_lt _
  rw [← HBB.out] at hq HLI
  have hw6 : wrap64 (bb : Int) = (bb : Int) := by unfold wrap64; omega
  have hd : ((bb : Int) != (k : Int)) = false := by
    rw [HLI.out] at h3
    rw [h3]; exact bne_self_eq_false _
  have hd' : (bb != k) = false := by
    rw [HLI.out] at h3
    have : bb = k := by omega
    rw [this]; exact bne_self_eq_false _
  have HCn := hid (fun W => Hist.count_any v (by omega) (k : Int) W)
  have hvl2 : (R.regs.getD k zeroG).view.length ≤ 512 := (h.inv.reg (k : Int)).view
  obtain ⟨ov, HOV⟩ : ∃ ov, Hid (ov = (R.regs.getD k zeroG).view) := ⟨_, rfl⟩
  have HCo : Hid (∀ W, Calls Tryz.prog 31 #[st ov, nu (k : Int)] W fun e w' => e = .returned (nu (Hist.cnt ov (k : Int))) ∧ Below W.heap.size W w') := fun W => Hist.count_any ov (by rw [HOV.out]; omega) (k : Int) W
  have h5 : (Hist.cnt v (k : Int) : Int) = AN := by rw [HAN.out]; exact h4
  generalize Hist.cnt v (k : Int) = cv at *
  have hd2 : ((cv : Int) != AN) = false := by rw [h5]; exact bne_self_eq_false _
  have hd3 : ((Hist.cnt ov (k : Int) : Int) == AN) = false := by rw [HOV.out, HAN.out]; exact beq_false_of_ne h6
  generalize Hist.cnt ov (k : Int) = co at *
  have hGo : GOk (R.regs.getD k zeroG) := h.inv.reg (k : Int)
  have HCl := hid (fun W => Hist.clone_any v (by omega) W)
  have HBd := hid (fun W => build_don W v t htl)
  have hplt := row_ltA h.row
  have hlt := h.lt
  have HXB : Hid (∀ W, Below w.heap.size w W → Kp (p :: q) w W) := fun W h => Kp.of h
  have hll := h.inv.long
  have HINV := hid h.inv
  have TX := hid T1.out
  have HANR : Hid (AN = (R.reg (k : Int)).asked.number) := HAN.out
  have HIL := hid (h.inv.comL (c := (k : Int)) htl hvl ⟨by omega, by omega⟩)
  clear h h1 h2 T1 hc ht hne hok HBB h3 h4 h5 h6 HLI hvl2
  show Calls _ _ _ _ (fun e w' => ComPost w p q rs R (k : Int) v t e w')
  generalize msgC (comM (k : Int) v t) (.slice none 0 0) (.slice none 0 0) = MV at *
  generalize dg t = TT at *
  go_enter Tryz.func16, Tryz.ntmps16
  go_upto_region 1 with fail
  generalize w.alloc (.cells TT.toArray 32) = W1 at *
  have hB1 : w.heap.size ≤ W1.heap.size := B1.out.size
  generalize w.heap.size = X at *
  go_wp2_with fail
  refine HM.out.mono ?_
  rintro e w1 ⟨rfl, hw1⟩
  subst w1
  go_wp2_with fail
  refine HH.out.mono ?_
  rintro e w1 ⟨rfl, hw1⟩
  subst w1
  go_wp2_with (first
    | ((with_reducible refine wl_load 32 (.tmp 7) ?_ X 0 ?_ ?_ TT _ SX.out Tryz.underlying32 ?_ ZT ?_); exact rfl; exact rfl; exact rfl; exact rfl)
    | ((with_reducible refine wl_buildL 76 [(0, .const (nu 3)), (1, .tmp 20), (4, .tmp 21), (6, .tmp 22)] ?_ ?_ MV.toArray ?_ ?_); exact rfl; exact rfl; exact (HBm.out _)))
  refine HMy.out.mono ?_
  rintro e W2 ⟨rfl, hb2⟩
  have B2 := hid (below_two' B1.out hb2)
  have H2 := hid (H1.out.kept hb2)
  have hb12 : W1.heap.size ≤ W2.heap.size := hb2.size
  have cn2 : W2.cell? ⟨p, 1 + k * 204, none⟩ = some (nu AN) := by rw [HAN.out]; exact H2.out.anum hk
  have hXs2 : X ≤ W2.heap.size := by omega
  have TX2 := hid (row_kept TX.out hb2)
  clear hb2 H1 HM HH HMy HBm SX TX
  go_wp2_with fail
  refine (HCn.out _).mono ?_
  rintro e W3 ⟨rfl, hb3⟩
  have B3 := hid (below_two' B2.out hb3)
  have H3 := hid (H2.out.kept hb3)
  have hs3 : X ≤ W3.heap.size := Nat.le_trans hXs2 hb3.size
  have cw3 : W3.cell? ⟨p, 1 + k * 204 + 171, none⟩ = some (st ov) := by rw [HOV.out]; exact H3.out.view hk
  have TX3 := hid (row_kept TX2.out hb3)
  clear hb3 H2 cn2 B2 HCn
  go_wp2_with fail
  refine (HCo.out _).mono ?_
  rintro e W4 ⟨rfl, hb4⟩
  have B4 := hid (below_two' B3.out hb4)
  have H4 := hid (H3.out.kept hb4)
  have TX4 := hid (row_kept TX3.out hb4)
  have hs4 : X ≤ W4.heap.size := Nat.le_trans hs3 hb4.size
  clear hb4 H3 B3 cw3 hs3 TX3 TX2
  go_wp2_with fail
  have HbR := hid (fun (W : World) (q' rs' : List Nat) (R' : Rs) (vs' : List Value) (vP' : Value) (hW : RA W p q' rs' R' vs' vP') => hW.last hk)
  obtain ⟨er, epl⟩ := row_split H4.out.inv H4.out.vlen vP hk
  have hrow4 := H4.out.row
  rw [er] at hrow4
  have hGr : R.reg (k : Int) = R.regs.getD k zeroG := rfl
  generalize hG : R.regs.getD k zeroG = G at *
  have R4 : Hid (W4.heap[p]? = some (.cells ((preC R vs k ++ (subC G.asked ++ repC G.ans (vs.getD k undef))) ++ (donC G.view G.tag ++ posC R vs vP k)).toArray 63)) := by show _ = _; simpa only [regC, donC, List.append_assoc] using hrow4
  have lA : (preC R vs k ++ (subC G.asked ++ repC G.ans (vs.getD k undef))).length = 1 + k * 204 + 171 := by rw [List.length_append, List.length_append, epl, subC_len hGo.asked, repC_len hGo.ans]
  have HCS : Hid (∀ w', w'.heap[p]? = some (.cells ((preC R vs k ++ (subC G.asked ++ repC G.ans (vs.getD k undef))) ++ (donC v t ++ posC R vs vP k)).toArray 63) → ∀ W, Below W4.heap.size W4 W → Kp [p] W w' → RA w' p q rs (comS R (k : Int) v t) vs vP) := fun w' hr W hb hK => by
    refine ra_comS (H4.out.kept hb) hk htl hvl ?_ hK
    rw [hGr]
    simpa only [regC, donC, List.append_assoc] using hr
  have FX4 : Hid (∀ W, Below W4.heap.size W4 W → ∀ j u, TT[j]? = some u → W.cell? ⟨X, 0 + j, none⟩ = some u) := fun W hb => row_seg (off := 0) (A := []) (cs := TT) (C := []) (row_kept TX4.out hb) (by simp) rfl
  have hdl : (donC G.view G.tag).length = (donC v t).length := by rw [donC_len hGo.tag, donC_len htl]
  have ZDn : (Tryz.prog.info? 58).map (·.size) = some (donC v t).length := by rw [donC_len htl]; exact sizeDon
  clear hrow4 er hGr hG
  generalize hO : 1 + k * 204 = oo at *
  clear hO
  refine wp_region_cj (N := 100) 7 [2, 4] (fun _ i u _ => vC11 v t i u) [pt p oo, st v, undef, .agg (TT).toArray, undef, pt p oo, pt p (oo + 171), undef] (fun _ w => Below W4.heap.size W4 w) (by kernel_rfl) (by kernel_rfl) (by kernel_rfl) rfl (fun w1 h1 => h1) (fun i _ _ L w h => h) (fun i _ _ L j u w h => h) ?_ ?_ ?_
  · intro i o hi hiS ho
    match i, ho with
    | 0, ho => cases ho; exact fun L a w hLi hw hnot hJ hk hcst K h => op_move 9 _ rfl (hk 9 (by kernel_rfl)) h
    | 1, ho => cases ho; exact fun L a w hLi hw hnot hJ hk hcst K h => op_move 2 _ rfl (hk 2 (by kernel_rfl)) h
    | 2, ho => exact absurd hiS (by decide)
    | 3, ho => cases ho; exact fun L a w hLi hw hnot hJ hk hcst K h => op_load _ (.tmp 7) rfl X 0 (hk 7 (by kernel_rfl)) TT _ (FX4.out _ hJ) Tryz.underlying32 rfl ZT h
    | 4, ho => exact absurd hiS (by decide)
    | 5, ho => cases ho; exact fun L a w hLi hw hnot hJ hk hcst K h => op_nil 61 p oo rfl (hcst 0 61 (by kernel_rfl) (by decide) (by kernel_rfl)) h
    | 6, ho => cases ho; exact fun L a w hLi hw hnot hJ hk hcst K h => op_fa 66 _ 2 p oo 171 rfl (fun W => fa_70_2 p oo W) (hcst 5 66 (by kernel_rfl) (by decide) (by kernel_rfl)) h
    | (i + 7), ho => exact absurd hi (by omega)
  · intro i o hi hiS ho
    match i, ho with
    | 2, ho =>
      cases ho
      intro L a w hLi hw hnot hclos hJ hk' hcst hvs
      refine op_call 28 [.tmp 62] _ #[st v] (st v) rfl enter33 (by
        have e0 : a.eval (.tmp 62) = st v := hcst 1 62 (by kernel_rfl) (by decide) (by kernel_rfl)
        show [a.eval (.tmp 62)].toArray = _
        rw [e0]) (HCl.out w) ?_
      intro w' hb
      exact ⟨_, rfl, fun _ => vC11_2.2 rfl, hJ.trans (hb.mono hJ.size), fun j d hj hjs hd => hvs j d hj hjs hd⟩
    | 4, ho =>
      cases ho
      intro L a w hLi hw hnot hclos hJ hk' hcst hvs
      have h63 := vC11_2.1 (hvs 2 63 (hw 2 (by kernel_rfl)) (by decide) (by kernel_rfl))
      have h64 := hcst 3 64 (by kernel_rfl) (by decide) (by kernel_rfl)
      refine op_buildL _ [(0, .tmp 63), (1, .tmp 64)] rfl (.agg (donC v t).toArray) ?_ ⟨_, rfl, fun _ => vC11_4.2 rfl, hJ, fun j d hj hjs hd => hvs j d hj hjs hd⟩
      have q1 : a.eval (.tmp 63) = st v := h63
      have q2 : a.eval (.tmp 64) = .agg TT.toArray := h64
      simp only [List.map_cons, List.map_nil, q1, q2]
      exact HBd.out w
    | 0, _ | 1, _ | 3, _ | 5, _ | 6, _ => exact absurd hiS (by decide)
    | (i + 7), ho => exact absurd hi (by omega)
  · intro L o a W5 hall hLn ho hJ hs hdf hk' hc hv hkeep
    cases ho
    have h63 := vC11_2.1 (hv 2 63 (by decide) (by decide) (by kernel_rfl))
    have h65 := vC11_4.1 (hv 4 65 (by decide) (by decide) (by kernel_rfl))
    refine op_put 58 67 65 rfl rfl p (oo + 171) (hc 6 67 (by decide) (by decide) (by kernel_rfl)) (preC R vs k ++ (subC G.asked ++ repC G.ans (vs.getD k undef))) (donC v t) (donC G.view G.tag) (posC R vs vP k) h65 63 (row_kept R4.out hJ) lA hdl (one_don v t) ZDn ?_
    intro W6 hr6 hb6
    have K6 : Kp [p] W5 W6 := (Kp.refl _ _).but hb6 (Or.inl (by simp))
    have H6 := hid (HCS.out W6 hr6 W5 hJ K6)
    have KW6 : Hid (Kp (p :: q) w W6) := (HXB.out _ (B4.out.trans (hJ.mono hs4))).then K6 (by simp)
    have hs6 : X ≤ W6.heap.size := Nat.le_trans hs4 (Nat.le_trans hJ.size K6.size)
    obtain ⟨tm, df⟩ := a
    obtain rfl : df = [] := hdf
    have e := frame_of (c := fun i => ([pt p oo, st v, st v, .agg (TT).toArray, .agg (donC v t).toArray, pt p oo, pt p (oo + 171), undef] : List Value).getD i undef) hs hkeep (fun i d hd => by
      have hi : i < 8 := dst_lt hd
      by_cases h2 : i = 2
      · subst h2; cases hd; exact h63
      by_cases h4 : i = 4
      · subst h4; cases hd; exact h65
      by_cases h7 : i = 7
      · subst h7; cases hd
      rw [hc i d (by omega) (by simp; omega) hd]
      match i, h2, h4, h7, hi with
      | 0, _, _, _, _ | 1, _, _, _, _ | 3, _, _, _, _ | 5, _, _, _, _ | 6, _, _, _, _ => rfl
      | 2, h, _, _, _ => exact absurd rfl h
      | 4, _, h, _, _ => exact absurd rfl h
      | 7, _, _, h, _ => exact absurd rfl h
      | (i + 8), _, _, _, h => omega)
    have hA : tm = #[pt p 0, nu (k : Int), st v, .agg TT.toArray, undef, undef, undef, pt X 0, nu 0, pt p oo, nu AN, undef, pt p 0, .bool true, .bool false, pt p 0, nu (k : Int), .bool true, .bool false, .bool false, nu (k : Int), st v, .agg TT.toArray, .agg MV.toArray, .bool true, .bool false, .bool false, pt p 0, nu (k : Int), pt p 0, pt p 1, pt p oo, pt p oo, pt p oo, pt p oo, pt p oo, nu AN, st v, st v, nu ((m : Int) + 1), nu (m : Int), .int IntKind.u8 (bb : Int), nu (bb : Int), nu (k : Int), .bool false, .bool false, st v, nu (k : Int), nu (cv : Int), nu AN, .bool false, .bool false, pt p oo, pt p oo, pt p (oo + 171), pt p (oo + 171), st ov, nu (k : Int), nu (co : Int), nu AN, .bool false, pt p oo, st v, st v, .agg (TT).toArray, .agg (donC v t).toArray, pt p oo, pt p (oo + 171), undef, undef, undef, undef, undef, undef, undef, undef, undef, undef, undef, undef, undef, undef, undef, undef, undef, undef, undef, undef, undef, undef, undef, undef, undef, undef, undef, undef, undef, undef, undef, undef] := e.trans (by kernel_rfl)
    clear e hc hv hs hkeep hall hk' h63 h65 hr6 hb6 K6 hJ
    subst hA
    have cl6 : W6.cell? ⟨p, 1633, none⟩ = some (st R.long) := H6.out.long
    have hsL : (⟨R.long.toArray⟩ : ByteArray).size = R.long.length := rfl
    clear R4 HCS FX4 H4 B4 TX4 HCl HBd HXB
    by_cases hlg : R.long.length < v.length
    · have d1 : decide ((R.long.length : Int) < (m : Int) + 1) = true := decide_eq_true (by omega)
      have HE := hid (HRL.out hlg)
      have HBh := hid (behind_any W6 (k : Int) AN)
      clear HRS HRL
      have hl6 : R.long.length ≤ 512 := hll
      obtain ⟨lg, hlg'⟩ : ∃ lg, lg = R.long.length := ⟨_, rfl⟩
      rw [← hlg'] at d1 hsL
      clear hlg'
      go_wp2_with fail
      refine HBh.out.mono ?_
      rintro e W7 ⟨rfl, hk1, hk2, hb7⟩
      have C1 := hid hk1
      have C2 := hid hk2
      have H7 := hid (H6.out.kept hb7)
      have KW7 : Hid (Kp (p :: q) w W7) := KW6.out.trans (Kp.of hb7)
      have hs67 : W6.heap.size ≤ W7.heap.size := hb7.size
      have hl16 : W6.heap.size < W7.heap.size := World.block_lt_of_cell? _ _ hk1
      have hl26 : W6.heap.size + 1 < W7.heap.size := World.block_lt_of_cell? _ _ hk2
      clear hk1 hk2 hb7 HBh
      unfold cutV
      generalize hc1 : W6.heap.size = c1 at *
      go_wp2_with fail
      generalize hc2 : c1 + 1 = c2 at *
      have hHD : ([nu ((comS R (k : Int) v t).n : Int)] ++ regsC (comS R (k : Int) v t).regs vs).length = 1633 := head_len H7.out.inv H7.out.vlen
      have HROW : Hid (W7.heap[p]? = some (.cells (([nu ((comS R (k : Int) v t).n : Int)] ++ regsC (comS R (k : Int) v t).regs vs) ++ (donC R.long R.ltag ++ ([nu R.who] ++ [vP]))).toArray 63)) := by
        have h0 := H7.out.row
        rw [row_tail] at h0
        exact h0
      have HFIN : Hid (∀ u, rowR (comL R (k : Int) v t) vs u = (([nu ((comS R (k : Int) v t).n : Int)] ++ regsC (comS R (k : Int) v t).regs vs) ++ donC v t) ++ ([nu (k : Int)] ++ [u])) := fun u => by
        rw [row_tail]
        simp only [tailC, List.append_assoc]
        rfl
      have hdl2 : (donC R.long R.ltag).length = (donC v t).length := by rw [donC_len HINV.out.ltag, donC_len htl]
      have hGk : (comS R (k : Int) v t).regs.getD k zeroG = { R.reg (k : Int) with view := v, tag := t } := getD_set_same _ _ _ _ (by rw [HINV.out.len]; exact hk)
      have FL7 : ∀ j u, (donC v t)[j]? = some u → W7.cell? ⟨p, oo + 171 + j, none⟩ = some u := by
        have h0 := HbR.out W7 _ _ _ _ _ H7.out
        rw [hGk] at h0
        exact h0
      have FL : Hid (∀ W : World, W.heap[p]? = W7.heap[p]? → ∀ j u, (donC v t)[j]? = some u → W.cell? ⟨p, oo + 171 + j, none⟩ = some u) := fun W hW j u hj => (World.cell?_of_block (a := ⟨p, oo + 171 + j, none⟩) hW).trans (FL7 j u hj)
      have FP : Hid (∀ W : World, W.heap[p]? = W7.heap[p]? → W.cell? ⟨p, 1667, none⟩ = some vP) := fun W hW => (World.cell?_of_block (a := ⟨p, 1667, none⟩) hW).trans H7.out.pnd
      have hqX : ∀ b ∈ q, b < X := fun b hb => hlt b (by simp [hb])
      have hn1 : c1 ∉ p :: q := fun hx => by
        rcases List.mem_cons.1 hx with e | e
        · omega
        · have := hqX _ e
          omega
      have hn2 : c2 ∉ p :: q := fun hx => by
        rcases List.mem_cons.1 hx with e | e
        · omega
        · have := hqX _ e
          omega
      have FC : Hid (∀ W, Kp (p :: q) W7 W → W.cell? ⟨c1, 0, none⟩ = some (nu (k : Int)) ∧ W.cell? ⟨c2, 0, none⟩ = some (nu AN)) := fun W hW => ⟨(World.cell?_of_block (a := ⟨c1, 0, none⟩) (hW.block c1 hl16 hn1)).trans C1.out, (World.cell?_of_block (a := ⟨c2, 0, none⟩) (hW.block c2 hl26 hn2)).trans C2.out⟩
      have HNE := hid H7.out.ne
      have HBK := hid H7.out.blk
      have HPW : Hid (∀ x ∈ R.pend, x.Wf) := fun x hx => (HINV.out.pend x hx).wf
      have hpl8 := HINV.out.plen
      have i3 : (Tryz.prog.info? 3).map (·.size) = some 1 := by kernel_rfl
      have lD2 : ((([nu ((comS R (k : Int) v t).n : Int)] ++ regsC (comS R (k : Int) v t).regs vs)) ++ donC v t).length = 1666 := by rw [List.length_append, hHD, donC_len htl]
      generalize ([nu ((comS R (k : Int) v t).n : Int)] ++ regsC (comS R (k : Int) v t).regs vs) = HD at *
      have lD3 : ((HD ++ donC v t) ++ [nu (k : Int)]).length = 1667 := by rw [List.length_append, lD2]; rfl
      refine wp_region_cj (N := 100) 22 [13, 16, 19] (fun _ i u w => vC14 (cutP (k : Int) AN R.pend) vP i u w) [pt p 0, pt p 0, pt p 0, pt p oo, pt p oo, pt p (oo + 171), .agg (donC v t).toArray, nu (k : Int), .func (.func 40) #[] #[pt c1 0, pt c2 0], pt p 0, pt p 0, pt p 1667, vP, undef, pt p 0, pt p 1633, undef, pt p 0, pt p 1666, undef, pt p 0, pt p 1667, undef] (fun L w => Kp (p :: q) W7 w ∧ (L 16 = false → w.heap[p]? = W7.heap[p]?) ∧ (L 16 = true → w.heap[p]? = some (.cells ((HD ++ donC v t) ++ ([bif L 19 then nu (k : Int) else nu R.who] ++ [vP])).toArray 63)) ∧ (L 13 = false → OwnP w vP R.pend)) (by kernel_rfl) (by kernel_rfl) (by kernel_rfl) rfl (fun w1 h1 => ⟨Kp.of h1, fun _ => h1.block p (row_ltA H7.out.row), fun h => Bool.noConfusion h, fun _ => H7.out.own.kept h1⟩) (fun i hi _ L w h => by
        rw [up_ne (show i ≠ 16 from fun e => hi (by simp [e])), up_ne (show i ≠ 19 from fun e => hi (by simp [e])), up_ne (show i ≠ 13 from fun e => hi (by simp [e]))]
        exact h) (fun i _ _ L j u w h => h) ?_ ?_ ?_
      · intro i o hi hiS ho
        match i, ho with
        | 0, ho => cases ho; exact fun L a w hLi hw hnot hJ hk hcst K h => op_move 0 _ rfl (hk 0 (by kernel_rfl)) h
        | 1, ho => cases ho; exact fun L a w hLi hw hnot hJ hk hcst K h => op_move 0 _ rfl (hk 0 (by kernel_rfl)) h
        | 2, ho => cases ho; exact fun L a w hLi hw hnot hJ hk hcst K h => op_move 0 _ rfl (hk 0 (by kernel_rfl)) h
        | 3, ho => cases ho; exact fun L a w hLi hw hnot hJ hk hcst K h => op_move 9 _ rfl (hk 9 (by kernel_rfl)) h
        | 4, ho => cases ho; exact fun L a w hLi hw hnot hJ hk hcst K h => op_nil 83 p oo rfl (hcst 3 83 (by kernel_rfl) (by decide) (by kernel_rfl)) h
        | 5, ho => cases ho; exact fun L a w hLi hw hnot hJ hk hcst K h => op_fa 84 _ 2 p oo 171 rfl (fun W => fa_70_2 p oo W) (hcst 4 84 (by kernel_rfl) (by decide) (by kernel_rfl)) h
        | 6, ho => cases ho; exact fun L a w hLi hw hnot hJ hk hcst K h => op_load _ (.tmp 85) rfl p (oo + 171) (hcst 5 85 (by kernel_rfl) (by decide) (by kernel_rfl)) (donC v t) _ (FL.out _ (hJ.2.1 (hnot 16 _ rfl (by kernel_rfl)))) Tryz.underlying58 rfl ZDn h
        | 7, ho => cases ho; exact fun L a w hLi hw hnot hJ hk hcst K h => op_move 1 _ rfl (hk 1 (by kernel_rfl)) h
        | 8, ho => cases ho; exact fun L a w hLi hw hnot hJ hk hcst K h => op_move 11 _ rfl (hk 11 (by kernel_rfl)) h
        | 9, ho => cases ho; exact fun L a w hLi hw hnot hJ hk hcst K h => op_move 0 _ rfl (hk 0 (by kernel_rfl)) h
        | 10, ho => cases ho; exact fun L a w hLi hw hnot hJ hk hcst K h => op_nil 89 p 0 rfl (hcst 9 89 (by kernel_rfl) (by decide) (by kernel_rfl)) h
        | 11, ho => cases ho; exact fun L a w hLi hw hnot hJ hk hcst K h => op_fa 90 _ 4 p 0 1667 rfl (fun W => fa_73_4 p 0 W) (hcst 10 90 (by kernel_rfl) (by decide) (by kernel_rfl)) h
        | 12, ho => cases ho; exact fun L a w hLi hw hnot hJ hk hcst K h => op_load1 _ (.tmp 91) rfl p 1667 (hcst 11 91 (by kernel_rfl) (by decide) (by kernel_rfl)) _ _ (FP.out _ (hJ.2.1 (hnot 16 _ rfl (by kernel_rfl)))) Tryz.underlying43 rfl h
        | 13, ho => exact absurd hiS (by decide)
        | 14, ho => cases ho; exact fun L a w hLi hw hnot hJ hk hcst K h => op_nil 80 p 0 rfl (hcst 0 80 (by kernel_rfl) (by decide) (by kernel_rfl)) h
        | 15, ho => cases ho; exact fun L a w hLi hw hnot hJ hk hcst K h => op_fa 94 _ 2 p 0 1633 rfl (fun W => fa_73_2 p 0 W) (hcst 14 94 (by kernel_rfl) (by decide) (by kernel_rfl)) h
        | 16, ho => exact absurd hiS (by decide)
        | 17, ho => cases ho; exact fun L a w hLi hw hnot hJ hk hcst K h => op_nil 81 p 0 rfl (hcst 1 81 (by kernel_rfl) (by decide) (by kernel_rfl)) h
        | 18, ho => cases ho; exact fun L a w hLi hw hnot hJ hk hcst K h => op_fa 96 _ 3 p 0 1666 rfl (fun W => fa_73_3 p 0 W) (hcst 17 96 (by kernel_rfl) (by decide) (by kernel_rfl)) h
        | 19, ho => exact absurd hiS (by decide)
        | 20, ho => cases ho; exact fun L a w hLi hw hnot hJ hk hcst K h => op_nil 82 p 0 rfl (hcst 2 82 (by kernel_rfl) (by decide) (by kernel_rfl)) h
        | 21, ho => cases ho; exact fun L a w hLi hw hnot hJ hk hcst K h => op_fa 98 _ 4 p 0 1667 rfl (fun W => fa_73_4 p 0 W) (hcst 20 98 (by kernel_rfl) (by decide) (by kernel_rfl)) h
        | (i + 22), ho => exact absurd hi (by omega)
      · intro i o hi hiS ho
        match i, ho with
        | 13, ho =>
          cases ho
          intro L a w hLi hw hnot hclos hJ hk' hcst hvs
          have h16 : L 16 = false := hnot 16 _ rfl (by kernel_rfl)
          refine op_callV 40 88 92 _ vP (pt c1 0) (pt c2 0) rfl enter44 (hcst 8 88 (by kernel_rfl) (by decide) (by kernel_rfl)) (hcst 12 92 (by kernel_rfl) (by decide) (by kernel_rfl)) (cutf_any (hJ.2.2.2 hLi) HPW.out hpl8 (k : Int) AN c1 c2 (FC.out w hJ.1).1 (FC.out w hJ.1).2) ?_
          rintro u w' ⟨h1, h2, h3⟩
          have hsub : ∀ b ∈ vP.ownBlock.toList, b ∈ q := fun b hb => HBK.out b (mem_own.1 hb)
          have hpn : p ∉ vP.ownBlock.toList := fun hx => HNE.out.1 (hsub p hx)
          have hpl : p < w.heap.size := Nat.lt_of_lt_of_le (row_ltA HROW.out) hJ.1.size
          refine ⟨u, rfl, fun _ => vC14_13.2 ⟨h1, fun b hb => by rw [h2] at hb; exact hb⟩, ⟨hJ.1.then h3 (fun b hb => Or.inl (List.mem_cons_of_mem _ (hsub b hb))), fun _ => (h3.block p hpl hpn).trans (hJ.2.1 h16), fun h => ?_, fun h => ?_⟩, fun j d hj hjs hd => ?_⟩
          · rw [up_ne (by decide), h16] at h
            cases h
          · rw [up_self] at h
            cases h
          · rcases List.mem_cons.1 hjs with rfl | hjs
            · rw [hLi] at hj; cases hj
            · rcases List.mem_cons.1 hjs with rfl | hjs
              · rw [h16] at hj; cases hj
              · have e : j = 19 := by simpa using hjs
                subst e
                cases hd
        | 16, ho =>
          cases ho
          intro L a w hLi hw hnot hclos hJ hk' hcst hvs
          have h19 : L 19 = false := hnot 19 _ rfl (by kernel_rfl)
          have h13 : L 13 = true := hw 13 (by kernel_rfl)
          have hrow := (hJ.2.1 hLi).trans HROW.out
          refine op_put 58 95 86 rfl rfl p 1633 (hcst 15 95 (by kernel_rfl) (by decide) (by kernel_rfl)) HD (donC v t) (donC R.long R.ltag) ([nu R.who] ++ [vP]) (hcst 6 86 (by kernel_rfl) (by decide) (by kernel_rfl)) 63 hrow hHD hdl2 (one_don v t) ZDn ?_
          intro w' hr hb
          have hK : Kp [p] w w' := (Kp.refl _ _).but hb (Or.inl (by simp))
          refine ⟨undef, rfl, fun h => Bool.noConfusion h, ⟨hJ.1.then hK (by simp), fun h => ?_, fun _ => ?_, fun h => ?_⟩, fun j d hj hjs hd => vC14_kp (hvs j d hj hjs hd) hK (fun b hb' hx => HNE.out.1 (by simp at hx; rw [← hx]; exact HBK.out b hb'))⟩
          · rw [up_self] at h
            cases h
          · rw [up_ne (by decide), h19]
            simpa only [cond_false, List.append_assoc] using hr
          · rw [up_ne (by decide), h13] at h
            cases h
        | 19, ho =>
          cases ho
          intro L a w hLi hw hnot hclos hJ hk' hcst hvs
          have h16 : L 16 = true := hw 16 (by kernel_rfl)
          have h13 : L 13 = true := hw 13 (by kernel_rfl)
          have hrow := hJ.2.2.1 h16
          rw [hLi] at hrow
          refine op_put1 3 97 87 rfl rfl p 1666 (hcst 18 97 (by kernel_rfl) (by decide) (by kernel_rfl)) (HD ++ donC v t) [vP] (nu R.who) (nu (k : Int)) (hcst 7 87 (by kernel_rfl) (by decide) (by kernel_rfl)) 63 hrow lD2 rfl i3 ?_
          intro w' hr hb
          have hK : Kp [p] w w' := (Kp.refl _ _).but hb (Or.inl (by simp))
          refine ⟨undef, rfl, fun h => Bool.noConfusion h, ⟨hJ.1.then hK (by simp), fun h => ?_, fun _ => ?_, fun h => ?_⟩, fun j d hj hjs hd => vC14_kp (hvs j d hj hjs hd) hK (fun b hb' hx => HNE.out.1 (by simp at hx; rw [← hx]; exact HBK.out b hb'))⟩
          · rw [up_ne (by decide), h16] at h
            cases h
          · rw [up_self]
            exact hr
          · rw [up_ne (by decide), h13] at h
            cases h
        | 0, _ | 1, _ | 2, _ | 3, _ | 4, _ | 5, _ | 6, _ | 7, _ | 8, _ | 9, _ | 10, _ | 11, _ | 12, _ | 14, _ | 15, _ | 17, _ | 18, _ | 20, _ | 21, _ => exact absurd hiS (by decide)
        | (i + 22), ho => exact absurd hi (by omega)
      · intro L o a W8 hall hLn ho hJ hs hdf hk' hc hv hkeep
        cases ho
        obtain ⟨v', e93⟩ : ∃ v', a.tmps.getD 93 undef = v' := ⟨_, rfl⟩
        have h13 := vC14_13.1 (hv 13 93 (by decide) (by decide) (by kernel_rfl))
        rw [e93] at h13
        have hrow := hJ.2.2.1 (hall 16 (by decide))
        rw [hall 19 (by decide)] at hrow
        refine op_put1 43 99 93 rfl rfl p 1667 (hc 21 99 (by decide) (by decide) (by kernel_rfl)) ((HD ++ donC v t) ++ [nu (k : Int)]) [] vP v' e93 63 (by simpa only [cond_true, List.append_assoc, List.append_nil] using hrow) lD3 h13.1.one size41 ?_
        intro W9 hr9 hb9
        have K9 : Kp [p] W8 W9 := (Kp.refl _ _).but hb9 (Or.inl (by simp))
        have hrr : W9.heap[p]? = some (.cells (rowR (comL R (k : Int) v t) vs v').toArray 63) := by
          rw [HFIN.out]
          simpa only [List.append_assoc, List.append_nil] using hr9
        have H9 : Hid (RA W9 p q rs (comL R (k : Int) v t) vs v') := ra_comL H7.out HIL.out hJ.1 (by rw [← HANR.out]; exact h13.1) h13.2 hrr K9
        have KW9 : Hid (Kp (p :: q) w W9) := (KW7.out.trans hJ.1).then K9 (by simp)
        obtain ⟨tm, df⟩ := a
        obtain rfl : df = [] := hdf
        have h8 : (8 : Nat) < tm.size := by rw [show tm.size = 100 from hs]; decide
        go_wp2
        go_ret
        show ComPost w p q rs R (k : Int) v t (.returned ((tm.setIfInBounds 8 (nu 0)).getD 8 undef)) W9
        rw [show (tm.setIfInBounds 8 (nu 0)).getD 8 undef = nu 0 from by simp [h8]]
        exact HEnd.out _ _ _ _ _ (by rw [HE.out]; exact H9.out) KW9.out (fun b hb => Or.inl hb)
    · have d1 : decide ((R.long.length : Int) < (m : Int) + 1) = false := decide_eq_false (by omega)
      have HE := hid (HRS.out hlg)
      clear HRS HRL
      generalize R.long.length = lg at *
      go_wp2
      go_ret
      exact HEnd.out _ _ _ _ _ (by rw [HE.out]; exact H6.out) KW6.out (fun b hb => Or.inl hb)
open Go Go.RowKit
set_option maxRecDepth 100000
theorem commit_any {w : World} {p : Nat} {q rs : List Nat} {R : Rs} {vs : List Value} {vP : Value} (h : RA w p q rs R vs vP) {c : Int} (hc : I64 c) {v t : List UInt8} (htl : t.length = 32) (ht : Tb w) :
    Calls Tryz.prog 16 #[.pointer (some ⟨p, 0, none⟩), nu c, st v, .agg (dg t).toArray] w (ComPost w p q rs R c v t) := by
  cases h1 : hasB R.n c with
  | false => exact commit_a h htl h1
  | true =>
    cases h2 : mayB (comM c v t) with
    | false => exact commit_b h htl hc ht h1 h2
    | true =>
      have hok : comOk R c v t = true := by unfold comOk; rw [h1, h2]; rfl
      have hcc := (hasB_iff R.n c).1 h1
      have hn := h.inv.n
      obtain ⟨k, rfl⟩ : ∃ k : Nat, c = (k : Int) := ⟨c.toNat, by omega⟩
      have hk : k < 8 := by omega
      by_cases h3 : lastI v = (k : Int)
      · by_cases h4 : (Hist.cnt v (k : Int) : Int) = (R.reg (k : Int)).asked.number
        · by_cases h6 : (Hist.cnt (R.reg (k : Int)).view (k : Int) : Int) = (R.reg (k : Int)).asked.number
          · exact commit_e h hk htl ht hok h3 h4 h6
          · exact commit_f h hk htl ht hok h3 h4 h6
        · exact commit_d h hk htl ht hok h3 h4
      · exact commit_c h hk htl ht hok h3
end Go.Proofs.YtoneoocihfjfgaaGreatDoor.Ms
