/-
  What reads one field of a client's bytes: the functions that ustor.text and ustor.number make.
-/
import Derived.Test.YtekfcbedlokidaaGreatDoorH03
import Derived.Test.YtekfcbedlokidaaGreatDoorJcl
import Derived.Test.YtekfcbedlokidaaGreatDoorH09
namespace Go.Proofs.YtekfcbedlokidaaGreatDoor.Ms
open Go Go.RowKit
set_option maxRecDepth 100000
def fdFn : Bool → Nat
  | true => 114
  | false => 116
def fdTy : Bool → TypeId
  | true => 156
  | false => 158
def fdS : Bool → Slot
  | true => .txt
  | false => .num
def fdV (k : Bool) (b : Nat) : Value := .func (.func (fdFn k)) #[] #[pt b 0]
def FdAt (w : World) (k : Bool) (g off b : Nat) : Prop := w.heap[b]? = some (.cells #[pt g off] (fdTy k))
def vlT : Val → Value
  | .inl n => nu n
  | .inr (.inl s) => st s
  | _ => undef
def fdO (k : Bool) (s : List UInt8) (q : Nat) : Value := vlT (rdVal (fdS k) s q).2.1
def StoreV (w : World) (g : Nat) (A C : List Value) (t : TypeId) (v : Value) (w' : World) : Prop := ∃ w1, Below w.heap.size w w1 ∧ w'.heap[g]? = some (.cells (A ++ ([v] ++ C)).toArray t) ∧ But g w1 w'
set_option maxHeartbeats 1000000 in
theorem mk_t (g off : Nat) (w : World) : Calls Tryz.prog 83 #[pt g off] w fun e w' => e = .returned (fdV true w.heap.size) ∧ FdAt w' true g off w.heap.size ∧ Below w.heap.size w w' := by
  go_enter Tryz.func83, Tryz.ntmps83
  go_wp2
  go_ret
  exact ⟨rfl, top_obj w _, below_a1 w _⟩
set_option maxHeartbeats 1000000 in
theorem mk_n (g off : Nat) (w : World) : Calls Tryz.prog 84 #[pt g off] w fun e w' => e = .returned (fdV false w.heap.size) ∧ FdAt w' false g off w.heap.size ∧ Below w.heap.size w w' := by
  go_enter Tryz.func84, Tryz.ntmps84
  go_wp2
  go_ret
  exact ⟨rfl, top_obj w _, below_a1 w _⟩
set_option maxHeartbeats 2000000 in
theorem fd_t {w : World} {g off b : Nat} (hF : FdAt w true g off b) (A C : List Value) (o1 : Value) (t : TypeId) (hg : w.heap[g]? = some (.cells (A ++ ([o1] ++ C)).toArray t)) (hA : A.length = off) (s : List UInt8) (p : Nat) (hp : p ≤ s.length) (hs : s.length ≤ 281474976710656) (ht : Tb w) :
    Calls Tryz.prog 114 #[st s, nu p, pt b 0] w fun e w' => e = .returned (.tuple #[nu (rdVal .txt s p).2.2, nu (rdVal .txt s p).1]) ∧ StoreV w g A C t (vlT (rdVal .txt s p).2.1) w' := by
  have HX : Hid (w.heap[b]? = some (.cells #[pt g off] (fdTy true))) := hF
  have HC := hid (mkReadTxt s p hp hs w ht)
  have HSl := hid (rdVal_slot .txt s p)
  have HG := hid hg
  simp only [readFn] at HC
  generalize (rdVal .txt s p).2.2 = to1 at *
  generalize (rdVal .txt s p).1 = e1 at *
  generalize (rdVal .txt s p).2.1 = x at *
  clear hp hs ht hF hg
  go_enter Tryz.func114, Tryz.ntmps114
  go_wp2_with fail
  refine HC.out.mono ?_
  rintro e w1 ⟨cv, rfl, hcv, -, hb⟩
  have HB := hid hb
  have q2 := cell_one (row_kept HX.out hb)
  have R1 := hid (row_kept HG.out hb)
  have q3 : w1.cell? ⟨g, off, none⟩ = some o1 := row_cell R1.out rfl hA
  have q4 : w1.frozen? ⟨g, off, none⟩ = false := froz R1.out
  obtain ⟨n, rfl⟩ := of_txt HSl.out
  obtain rfl : cv = st n := hcv
  clear hb HC HX HG
  go_wp2
  go_ret2
  exact ⟨rfl, w1, HB.out, row_set R1.out hA, but_setCell w1 g off _⟩
set_option maxHeartbeats 2000000 in
theorem fd_n {w : World} {g off b : Nat} (hF : FdAt w false g off b) (A C : List Value) (o1 : Value) (t : TypeId) (hg : w.heap[g]? = some (.cells (A ++ ([o1] ++ C)).toArray t)) (hA : A.length = off) (s : List UInt8) (p : Nat) (hp : p ≤ s.length) (hs : s.length ≤ 281474976710656) (ht : Tb w) :
    Calls Tryz.prog 116 #[st s, nu p, pt b 0] w fun e w' => e = .returned (.tuple #[nu (rdVal .num s p).2.2, nu (rdVal .num s p).1]) ∧ StoreV w g A C t (vlT (rdVal .num s p).2.1) w' := by
  have HX : Hid (w.heap[b]? = some (.cells #[pt g off] (fdTy false))) := hF
  have HC := hid (mkReadNum s p hp hs w ht)
  have HSl := hid (rdVal_slot .num s p)
  have HG := hid hg
  simp only [readFn] at HC
  generalize (rdVal .num s p).2.2 = to1 at *
  generalize (rdVal .num s p).1 = e1 at *
  generalize (rdVal .num s p).2.1 = x at *
  clear hp hs ht hF hg
  go_enter Tryz.func116, Tryz.ntmps116
  go_wp2_with fail
  refine HC.out.mono ?_
  rintro e w1 ⟨cv, rfl, hcv, -, hb⟩
  have HB := hid hb
  have q2 := cell_one (row_kept HX.out hb)
  have R1 := hid (row_kept HG.out hb)
  have q3 : w1.cell? ⟨g, off, none⟩ = some o1 := row_cell R1.out rfl hA
  have q4 : w1.frozen? ⟨g, off, none⟩ = false := froz R1.out
  obtain ⟨n, rfl⟩ := of_num HSl.out
  obtain rfl : cv = nu n := hcv
  clear hb HC HX HG
  go_wp2
  go_ret2
  exact ⟨rfl, w1, HB.out, row_set R1.out hA, but_setCell w1 g off _⟩
theorem fd_any (k : Bool) {w : World} {g off b : Nat} (hF : FdAt w k g off b) (A C : List Value) (o1 : Value) (t : TypeId) (hg : w.heap[g]? = some (.cells (A ++ ([o1] ++ C)).toArray t)) (hA : A.length = off) (s : List UInt8) (p : Nat) (hp : p ≤ s.length) (hs : s.length ≤ 281474976710656) (ht : Tb w) :
    Calls Tryz.prog (fdFn k) #[st s, nu p, pt b 0] w fun e w' => e = .returned (.tuple #[nu (rdVal (fdS k) s p).2.2, nu (rdVal (fdS k) s p).1]) ∧ StoreV w g A C t (fdO k s p) w' := by
  cases k
  · exact fd_n hF A C o1 t hg hA s p hp hs ht
  · exact fd_t hF A C o1 t hg hA s p hp hs ht
open Go Go.RowKit
set_option maxRecDepth 100000
def rdL (s : List UInt8) : List (Bool × Nat) → List Value → Nat → Nat × Nat × List Value
  | [], R, q => (0, q, R)
  | f :: fs, R, q => if (rdVal (fdS f.1) s q).1 ≠ 0 then ((rdVal (fdS f.1) s q).1, q, R.set f.2 (fdO f.1 s q)) else rdL s fs (R.set f.2 (fdO f.1 s q)) (rdVal (fdS f.1) s q).2.2
def lftI (s : List UInt8) (x : Nat × Nat × List Value) : Int := if x.1 = 0 then (s.length : Int) - x.2.1 else 0
def FsAt (w : World) (v : Value) (g : Nat) (fs : List (Bool × Nat)) : Prop :=
  ∃ (row : Nat) (cs : List Value), v = .slice (some ⟨row, 0, none⟩) fs.length fs.length ∧ w.heap[row]? = some (.cells cs.toArray 154) ∧ cs.length = fs.length ∧ ∀ (j : Nat) (f : Bool × Nat), fs[j]? = some f → ∃ b, cs[j]? = some (fdV f.1 b) ∧ FdAt w f.1 g f.2 b
theorem FsAt.kp {w w' : World} {v : Value} {g : Nat} {fs : List (Bool × Nat)} {X : List Nat} (h : FsAt w v g fs) (hk : Kp X w w') (hX : ∀ x ∈ X, ∃ cs t, w.heap[x]? = some (.cells cs t) ∧ t ≠ 154 ∧ t ≠ fdTy true ∧ t ≠ fdTy false) : FsAt w' v g fs := by
  obtain ⟨row, cs, h1, h2, h3, h4⟩ := h
  refine ⟨row, cs, h1, hk.row h2 (fun hx => ?_), h3, fun j f hj => ?_⟩
  · obtain ⟨cs', t, e1, e2, -, -⟩ := hX _ hx
    exact ty_ne e1 h2 (Ne.symm e2) rfl
  · obtain ⟨b, e1, e2⟩ := h4 j f hj
    refine ⟨b, e1, hk.row e2 (fun hx => ?_)⟩
    obtain ⟨cs', t, e3, -, e5, e6⟩ := hX _ hx
    refine ty_ne e3 e2 ?_ rfl
    cases f.1
    · exact Ne.symm e6
    · exact Ne.symm e5
set_option maxHeartbeats 1000000 in
theorem readerOf_any (s : List UInt8) (w : World) : Calls Tryz.prog 82 #[st s] w fun e w' => e = .returned (.func (.func 113) #[] #[pt w.heap.size 0, pt (w.heap.size + 1) 0]) ∧ w'.heap[w.heap.size]? = some (.cells #[st s] 9) ∧ w'.heap[w.heap.size + 1]? = some (.cells #[nu 0] 3) ∧ Below w.heap.size w w' := by
  go_enter Tryz.func82, Tryz.ntmps82
  go_wp2
  go_ret
  refine ⟨rfl, row_kept (top_obj w _) (below_a1 _ _), ?_, below_two (below_a1 w _) (below_a1 _ _)⟩
  have := top_obj (w.alloc (.cells #[st s] 9)) (.cells #[nu 0] 3)
  simpa using this
set_option maxHeartbeats 8000000 in
theorem readl_any {w : World} {v : Value} {g at' sb q0 : Nat} {fs : List (Bool × Nat)} {R0 : List Value} {s : List UInt8} (hv : FsAt w v g fs) (hoff : ∀ f ∈ fs, f.2 < R0.length) (hg : w.heap[g]? = some (.cells R0.toArray 105)) (ha : w.heap[at']? = some (.cells #[nu q0] 3)) (hs : w.heap[sb]? = some (.cells #[st s] 9))
    (hq : q0 ≤ s.length) (hsz : s.length ≤ 281474976710656) (hn : fs.length ≤ 100) (ht : ∀ W, Kp [g, at'] w W → Tb W) :
    Calls Tryz.prog 113 #[v, pt sb 0, pt at' 0] w fun e w' => e = .returned (.tuple #[nu (lftI s (rdL s fs R0 q0)), nu (rdL s fs R0 q0).1]) ∧ w'.heap[g]? = some (.cells (rdL s fs R0 q0).2.2.toArray 105) ∧ w'.heap[at']? = some (.cells #[nu (rdL s fs R0 q0).2.1] 3) ∧ w'.heap[sb]? = some (.cells #[st s] 9) ∧ Kp [g, at'] w w' := by
  have hga : g ≠ at' := ty_ne ha hg (by decide)
  have hgs : g ≠ sb := ty_ne hs hg (by decide)
  have has : at' ≠ sb := ty_ne hs ha (by decide)
  have HK0 := hid (Kp.refl [g, at'] w)
  have HX : Hid (∀ x ∈ [g, at'], ∃ cs t, w.heap[x]? = some (.cells cs t) ∧ t ≠ 154 ∧ t ≠ fdTy true ∧ t ≠ fdTy false) := by
    intro x hx
    simp only [List.mem_cons, List.not_mem_nil, or_false] at hx
    rcases hx with rfl | rfl
    · exact ⟨_, _, hg, by decide, by decide, by decide⟩
    · exact ⟨_, _, ha, by decide, by decide, by decide⟩
  have HV := hid hv
  obtain ⟨row, cs0, rfl, -⟩ := hv
  have HG := hid hg
  have HA0 := hid ha
  have HS0 := hid hs
  have HT := hid ht
  have HOff0 := hid hoff
  obtain ⟨RR, hR⟩ : ∃ RR, RR = rdL s fs R0 q0 := ⟨_, rfl⟩
  have HRe : Hid (RR = rdL s (fs.drop 0) R0 q0) := by show _ = _; rw [hR]; rfl
  have HQ0 := hid hq
  rw [← hR]
  clear hg ha hs ht hR hq hoff
  go_enter Tryz.func113, Tryz.ntmps113
  go_wp2
  go_loopw [12] (fun i w' => ∃ (k q : Nat) (Rr : List Value), k ≤ fs.length ∧ i = .int .i64 k ∧ Hid (q ≤ s.length) ∧ Hid (RR = rdL s (fs.drop k) Rr q) ∧ Hid (∀ f ∈ fs, f.2 < Rr.length) ∧ Hid (w'.heap[g]? = some (.cells Rr.toArray 105)) ∧ Hid (w'.heap[at']? = some (.cells #[nu q] 3)) ∧ Hid (w'.heap[sb]? = some (.cells #[st s] 9)) ∧ Hid (Kp [g, at'] w w')) (fun i _ => fs.length - (intOf i).toNat)
  case atStart => exact ⟨0, q0, R0, Nat.zero_le _, rfl, HQ0, HRe, HOff0, HG, HA0, HS0, HK0⟩
  case round =>
    obtain ⟨k, q, Rr, hk, rfl, HQ, HRk, HOff, HRow, HA, HS, HK⟩ := hrel
    clear HRe HG HA0 HS0 HK0 HQ0 HOff0
    by_cases hlt : k < fs.length
    · have d1 : decide ((k : Int) < (fs.length : Int)) = true := decide_eq_true (by omega)
      have d1' : decide (k < fs.length) = true := decide_eq_true hlt
      obtain ⟨row', cs, e1, e2, e3, e4⟩ := HV.out.kp HK.out HX.out
      obtain ⟨b, e5, e6⟩ := e4 k fs[k] (List.getElem?_eq_getElem hlt)
      have er' : row = row' := by
        injection e1 with e1 _
        injection e1 with e1
        injection e1
      subst er'
      have ce : wr.cell? ⟨row, k, none⟩ = some (fdV fs[k].1 b) := by
        rw [cell_of_row _ _ _ _ _ _ e2]
        simpa using e5
      have a1 := cell_one HA.out
      have s1 := cell_one HS.out
      have ho := HOff.out _ (List.getElem_mem hlt)
      have hset : Rr.set (fs[k]).2 (fdO fs[k].1 s q) = Rr.take (fs[k]).2 ++ ([fdO fs[k].1 s q] ++ Rr.drop ((fs[k]).2 + 1)) := by rw [List.set_eq_take_append_cons_drop, if_pos ho]; rfl
      have hrow : wr.heap[g]? = some (.cells (Rr.take (fs[k]).2 ++ ([Rr[(fs[k]).2]] ++ Rr.drop ((fs[k]).2 + 1))).toArray 105) := by
        have e : Rr.take (fs[k]).2 ++ ([Rr[(fs[k]).2]] ++ Rr.drop ((fs[k]).2 + 1)) = Rr := by simp
        rw [e]; exact HRow.out
      have HC := hid (fd_any fs[k].1 e6 _ _ _ _ hrow (by rw [List.length_take]; omega) s q HQ.out hsz (HT.out _ HK.out))
      have HOnce := hid (fun (h : (rdVal (fdS fs[k].1) s q).1 = 0) => val_once (fdS fs[k].1) s q HQ.out h)
      rw [List.drop_eq_getElem_cons hlt] at HRk
      have HErr : Hid ((rdVal (fdS fs[k].1) s q).1 ≠ 0 → RR = ((rdVal (fdS fs[k].1) s q).1, q, Rr.set (fs[k]).2 (fdO fs[k].1 s q))) := fun h => by rw [HRk.out, rdL, if_pos h]
      have HGo : Hid ((rdVal (fdS fs[k].1) s q).1 = 0 → RR = rdL s (fs.drop (k + 1)) (Rr.set (fs[k]).2 (fdO fs[k].1 s q)) (rdVal (fdS fs[k].1) s q).2.2) := fun h => by rw [HRk.out, rdL, if_neg (by omega)]
      have HSet := hid hset
      clear e1 e2 e3 e4 e5 e6 hrow HRk HQ hset ho HV HX HT
      generalize (rdVal (fdS fs[k].1) s q).2.2 = nx at *
      generalize (rdVal (fdS fs[k].1) s q).1 = er at *
      generalize fdO fs[k].1 s q = vo at *
      generalize fs[k].1 = kk at *
      cases kk with
      | false => as_aux_lemma =>
        simp only [fdFn, fdV] at HC ce
        go_wp2_with fail
        refine HC.out.mono ?_
        rintro e w3 ⟨rfl, w4, hb4, hr4, hu4⟩
        have K3 := hid ((HK.out.trans (Kp.of hb4)).but hu4 (Or.inl (by simp)))
        have A3 := hid (hu4.row (row_kept HA.out hb4) (Ne.symm hga))
        have S3 := hid (hu4.row (row_kept HS.out hb4) (Ne.symm hgs))
        have R3 := hid hr4
        rw [← HSet.out] at R3
        clear hr4 hb4 hu4 HC HK HA HS ce
        have a1 := cell_one A3.out
        have a2 : w3.frozen? ⟨at', 0, none⟩ = false := froz A3.out
        by_cases he : er = 0
        · have de : ((er : Int) != 0) = false := by simp; omega
          have de' : (er != 0) = false := by simp; omega
          obtain ⟨-, c, hc1, -, hc3, -⟩ := HOnce.out he
          have HQ3 : Hid (nx ≤ s.length) := by show _ ≤ _; omega
          have HR3 := hid (HGo.out he)
          have HF3 := hid (fun f hf => by rw [List.length_set]; exact HOff.out f hf : ∀ f ∈ fs, f.2 < (Rr.set (fs[k]).2 vo).length)
          clear hc1 hc3 HOnce HGo HErr he HOff
          go_wp2
          refine ⟨⟨k + 1, nx, _, by omega, by go_num, HQ3, HR3, HF3, ?_, ?_, ?_, ?_⟩, by simp [intOf]; omega⟩
          · exact (but_setCell w3 at' 0 _).row R3.out hga
          · have := row_set (A := []) (C := []) (old := nu q) (v := nu nx) (off := 0) (show w3.heap[at']? = some (.cells ([] ++ ([nu q] ++ [])).toArray 3) from A3.out) rfl
            exact this
          · exact (but_setCell w3 at' 0 _).row S3.out (Ne.symm has)
          · exact K3.out.but (but_setCell w3 at' 0 _) (Or.inl (by simp))
        · have de : ((er : Int) != 0) = true := by simp; omega
          have de' : (er != 0) = true := by simp; omega
          have HR3 := hid (HErr.out he)
          have HN := hid he
          clear HOnce HGo HErr he HOff
          go_wp2
          go_ret2
          rw [HR3.out]
          exact ⟨by unfold lftI; rw [if_neg HN.out]; rfl, R3.out, A3.out, S3.out, K3.out⟩
      | true => as_aux_lemma =>
        simp only [fdFn, fdV] at HC ce
        go_wp2_with fail
        refine HC.out.mono ?_
        rintro e w3 ⟨rfl, w4, hb4, hr4, hu4⟩
        have K3 := hid ((HK.out.trans (Kp.of hb4)).but hu4 (Or.inl (by simp)))
        have A3 := hid (hu4.row (row_kept HA.out hb4) (Ne.symm hga))
        have S3 := hid (hu4.row (row_kept HS.out hb4) (Ne.symm hgs))
        have R3 := hid hr4
        rw [← HSet.out] at R3
        clear hr4 hb4 hu4 HC HK HA HS ce
        have a1 := cell_one A3.out
        have a2 : w3.frozen? ⟨at', 0, none⟩ = false := froz A3.out
        by_cases he : er = 0
        · have de : ((er : Int) != 0) = false := by simp; omega
          have de' : (er != 0) = false := by simp; omega
          obtain ⟨-, c, hc1, -, hc3, -⟩ := HOnce.out he
          have HQ3 : Hid (nx ≤ s.length) := by show _ ≤ _; omega
          have HR3 := hid (HGo.out he)
          have HF3 := hid (fun f hf => by rw [List.length_set]; exact HOff.out f hf : ∀ f ∈ fs, f.2 < (Rr.set (fs[k]).2 vo).length)
          clear hc1 hc3 HOnce HGo HErr he HOff
          go_wp2
          refine ⟨⟨k + 1, nx, _, by omega, by go_num, HQ3, HR3, HF3, ?_, ?_, ?_, ?_⟩, by simp [intOf]; omega⟩
          · exact (but_setCell w3 at' 0 _).row R3.out hga
          · have := row_set (A := []) (C := []) (old := nu q) (v := nu nx) (off := 0) (show w3.heap[at']? = some (.cells ([] ++ ([nu q] ++ [])).toArray 3) from A3.out) rfl
            exact this
          · exact (but_setCell w3 at' 0 _).row S3.out (Ne.symm has)
          · exact K3.out.but (but_setCell w3 at' 0 _) (Or.inl (by simp))
        · have de : ((er : Int) != 0) = true := by simp; omega
          have de' : (er != 0) = true := by simp; omega
          have HR3 := hid (HErr.out he)
          have HN := hid he
          clear HOnce HGo HErr he HOff
          go_wp2
          go_ret2
          rw [HR3.out]
          exact ⟨by unfold lftI; rw [if_neg HN.out]; rfl, R3.out, A3.out, S3.out, K3.out⟩
    · as_aux_lemma =>
      have hkl : k = fs.length := by omega
      subst hkl
      have dk : decide ((fs.length : Int) < (fs.length : Int)) = false := decide_eq_false (by omega)
      have HRf : Hid (RR = (0, q, Rr)) := by show _ = _; rw [HRk.out, List.drop_length]; rfl
      have a1 := cell_one HA.out
      have s1 := cell_one HS.out
      have HL : Hid ((s.length : Int) - (q : Int) = lftI s RR) := by show _ = _; rw [HRf.out]; rfl
      have hz : (⟨s.toArray⟩ : ByteArray).size = s.length := rfl
      have hw6 : wrap64 ((s.length : Int) - (q : Int)) = (s.length : Int) - (q : Int) := by
        have h9 : q ≤ s.length := HQ.out
        unfold wrap64
        omega
      clear HT HV HX HRk HOff
      go_wp2
      go_ret2
      rw [← HL.out, HRf.out]
      refine ⟨?_, HRow.out, HA.out, HS.out, HK.out⟩
      show Ending.returned (.tuple #[.int .i64 (wrap64 ((s.length : Int) - (q : Int))), .int .i64 0]) = _
      rw [hw6]
      rfl
end Go.Proofs.YtekfcbedlokidaaGreatDoor.Ms
