/-
  RegsOrder answers true at every input. The package variables that are listed hold what the program's text lays (the card ties them).
-/
import Derived.Test.YtidlgecognedlaaGreatDoorGee
import Derived.Test.YtidlgecognedlaaGreatDoorGea
import Derived.Test.YtidlgecognedlaaGreatDoorGpg
import Derived.Test.YtidlgecognedlaaGreatDoorRows
import Derived.ProofKit
import Derived.OpenShut
import Derived.Deep.Slices
import Derived.Test.YtidlgecognedlaaGreatDoorLnum
import Derived.LaidMore
import Derived.Stop.Joined
import Derived.Stop.LaidErr
import Derived.Lib.LaidTab
import Derived.Test.YtidlgecognedlaaGreatDoorCards
import Derived.Test.YtidlgecognedlaaGreatDoorTie
import Derived.SevenTiedAt
import Derived.SizedLaws
namespace Go.Proofs.YtidlgecognedlaaGreatDoor.Ms
open Go Go.RowKit
set_option maxRecDepth 100000

theorem cell_kq {w w' : World} {g i : Nat} {u : Value} (h : w.cell? ⟨g, i, none⟩ = some u) (hb : Below w.heap.size w w') : w'.cell? ⟨g, i, none⟩ = some u := (hb.cell (p := ⟨g, i, none⟩) (World.block_lt_of_cell? w _ h)).trans h
set_option maxHeartbeats 4000000 in
theorem rafter_any {w : World} {y : Rep} {v : Value} (hw : y.Wf) (hv : PensAt w v y.pend) (hcl : ∀ p ∈ y.pend, 0 ≤ p.client ∧ p.client < 256) (hl1 : y.view.length ≤ 1000) (hl2 : y.pend.length ≤ 1000) (c : Nat) (hc : c < 256) :
    Calls Tryz.prog 21 #[.agg (repC y v).toArray, nu (c : Int)] w fun e w' => e = .returned (st (afterR y (c : Int))) ∧ Below w.heap.size w w' := by
  obtain ⟨va, vcap, rfl, hat⟩ := hv
  have T0 := top_obj w (.cells (repC y (.slice va y.pend.length vcap)).toArray 28)
  have B0 := hid (below_a1 w (.cells (repC y (.slice va y.pend.length vcap)).toArray 28))
  have cv := rrow_view T0 hw
  have CP := hid (rrow_P T0 hw)
  have hcl' := hid hcl
  have HAT := hid hat
  clear T0 hw hat hcl
  generalize repC y (.slice va y.pend.length vcap) = RC at *
  go_enter Tryz.func21, Tryz.ntmps21
  go_upto_region 1 with fail
  generalize w.alloc (.cells RC.toArray 28) = W0 at *
  generalize hg0 : w.heap.size = g0 at *
  have HB := hid (below_bytes W0 ⟨y.view.toArray⟩)
  have HW := hid (brow_conv W0 y.view W0.heap.size (Nat.le_refl _) (by omega))
  have hcv : (convert 9 118 (.string ⟨y.view.toArray⟩)).run Tryz.prog W0 = .ok (.slice (some ⟨W0.heap.size, 0, none⟩) y.view.length (grownCap W0 y.view.length 0 5)) (Lib.bytesWorld W0 5 ⟨y.view.toArray⟩) := Lib.run_convert_string_bytes W0 9 118 5 ⟨y.view.toArray⟩ Tryz.underlying9 Tryz.underlying118 Tryz.underlying5
  generalize grownCap W0 y.view.length 0 5 = gc at *
  generalize Lib.bytesWorld W0 5 ⟨y.view.toArray⟩ = W1 at *
  have HAK : Hid (PensAt W0 (.slice va y.pend.length vcap) y.pend) := PensAt.kept (w := w) ⟨va, vcap, rfl, HAT.out⟩ (by rw [hg0]; exact B0.out)
  go_wp2
  clear hcv cv HAT
  go_loopw [6, 5] (fun i vv wr => ∃ (k : Nat) (v : Value), k ≤ y.pend.length ∧ i = nu k ∧ v = vv ∧ Hid (brow wr W0.heap.size v (y.view ++ (y.pend.take k).map fun x => by8 x.client)) ∧ Hid (Below W0.heap.size W0 wr) ∧ Hid (v ≠ .slice none 0 0)) (fun i _ _ => y.pend.length - (intOf i).toNat)
  case atStart => exact ⟨0, _, by omega, rfl, rfl, by show brow _ _ _ _; simpa using HW.out, HB.out, fun h => by cases h⟩
  case round =>
    obtain ⟨k, v3, hk, rfl, rfl, HV, HBr, HNN⟩ := hrel
    clear HB HW
    have cP := cell_kq CP.out HBr.out
    have hs2 : W0.heap.size ≤ wr.heap.size := HBr.out.size
    by_cases hlt : k < y.pend.length
    · have d1 : decide ((k : Int) < (y.pend.length : Int)) = true := decide_eq_true (by omega)
      have d1' : decide (k < y.pend.length) = true := decide_eq_true hlt
      have hpk := hcl'.out _ (List.getElem_mem hlt)
      obtain ⟨va', cap', ev, hat'⟩ := HAK.out.kept HBr.out
      cases ev
      obtain ⟨b, off, rfl, hcc⟩ := hat' (fun e => by rw [e] at hlt; exact absurd hlt (Nat.not_lt_zero k))
      obtain ⟨d, hd⟩ : ∃ d : Nat, y.pend[k].client = (d : Int) := ⟨y.pend[k].client.toNat, by omega⟩
      have hd8 : d < 256 := by omega
      have c0 : wr.cell? ⟨b, off + k * 68, none⟩ = some (nu (d : Int)) := by
        rw [← hd]
        refine hcc k hlt 0 _ ?_
        rw [List.getD_eq_getElem?_getD, List.getElem?_eq_getElem hlt]
        rfl
      have htk : (y.pend.take (k + 1)).map (fun x => by8 x.client) = (y.pend.take k).map (fun x => by8 x.client) ++ [by8 y.pend[k].client] := by
        rw [List.take_succ_eq_append_getElem hlt, List.map_append]
        rfl
      rw [hd] at htk
      have hbv : Ms.bv (by8 (d : Int)) = (d : Int) := by8_val _ (by omega)
      have hll' : (y.view ++ (y.pend.take k).map fun x => by8 x.client).length ≤ 2000 := by simp; omega
      have HNX : Hid ((y.view ++ (y.pend.take k).map fun x => by8 x.client) ++ [by8 (d : Int)] = y.view ++ (y.pend.take (k + 1)).map fun x => by8 x.client) := by show _ = _; rw [htk, List.append_assoc]
      clear hcc hpk hd htk hat'
      generalize (y.view ++ (y.pend.take k).map fun x => by8 x.client) = PL at *
      have hu : brow (wr.alloc (.cells #[.int .u8 (d : Int)] 5)) wr.heap.size (.slice (some ⟨wr.heap.size, 0, none⟩) 1 1) [by8 (d : Int)] := by
        have := brow_one wr wr.heap.size (by8 (d : Int)) (Nat.le_refl _)
        rw [show Go.Proofs.YtidlgecognedlaaGreatDoor.bv (by8 (d : Int)) = (d : Int) from hbv] at this
        exact this
      have HU := hid hu
      have V2 : Hid (brow (wr.alloc (.cells #[.int .u8 (d : Int)] 5)) W0.heap.size v3 PL) := brow_below HV.out (below_a1 wr _) (Nat.le_refl _)
      have B2 := hid (below_two HBr.out (below_a1 wr (.cells #[.int .u8 (d : Int)] 5)))
      have OB := hid (brow_own HV.out)
      clear hu HV
      go_wp2_with (first | (at_builtin; refine wpList_app rfl _ _ rfl W0.heap.size wr.heap.size v3 _ PL [by8 (d : Int)] rfl rfl V2.out HU.out (Or.inl HNN.out) (by simp; omega) (by simp; omega) ?_; intro v4 W4 hv4 hg4; rw [HNX.out] at hv4; have V4 := hid hv4; have G4 := hid hg4; clear hv4 hg4))
      refine ⟨⟨k + 1, v4, by omega, by go_num, rfl, V4.out, ?_, ?_⟩, by simp [intOf]; omega⟩
      · exact ((Kp.of (X := []) B2.out).grown G4.out (fun b hb => Or.inr (OB.out b hb))).below (by simp) (Nat.le_refl _)
      · rintro rfl
        rcases V4.out with ⟨-, e⟩ | ⟨g', cap', cur', fz', e, -⟩
        · rw [← HNX.out] at e
          simp at e
        · cases e
    · have e : k = y.pend.length := by omega
      subst e
      rw [List.take_length] at HV
      have hbv : Ms.bv (by8 (c : Int)) = (c : Int) := by8_val _ (by omega)
      have hll' : (y.view ++ y.pend.map fun x => by8 x.client).length ≤ 2000 := by simp; omega
      have HNX : Hid ((y.view ++ y.pend.map fun x => by8 x.client) ++ [by8 (c : Int)] = afterR y (c : Int)) := rfl
      generalize (y.view ++ y.pend.map fun x => by8 x.client) = PL at *
      have hu : brow (wr.alloc (.cells #[.int .u8 (c : Int)] 5)) wr.heap.size (.slice (some ⟨wr.heap.size, 0, none⟩) 1 1) [by8 (c : Int)] := by
        have := brow_one wr wr.heap.size (by8 (c : Int)) (Nat.le_refl _)
        rw [show Go.Proofs.YtidlgecognedlaaGreatDoor.bv (by8 (c : Int)) = (c : Int) from hbv] at this
        exact this
      have HU := hid hu
      have V2 : Hid (brow (wr.alloc (.cells #[.int .u8 (c : Int)] 5)) W0.heap.size v3 PL) := brow_below HV.out (below_a1 wr _) (Nat.le_refl _)
      have B2 := hid (below_two HBr.out (below_a1 wr (.cells #[.int .u8 (c : Int)] 5)))
      have OB := hid (brow_own HV.out)
      clear hu HV
      go_upto_region 7 with (first | (at_builtin; refine wpList_app rfl _ _ rfl W0.heap.size wr.heap.size v3 _ PL [by8 (c : Int)] rfl rfl V2.out HU.out (Or.inl HNN.out) (by simp; omega) (by simp; omega) ?_; intro v4 W4 hv4 hg4; rw [HNX.out] at hv4; have V4 := hid hv4; have G4 := hid hg4; clear hv4 hg4))
      have B4 : Hid (Below W0.heap.size W0 W4) := ((Kp.of (X := []) B2.out).grown G4.out (fun b hb => Or.inr (OB.out b hb))).below (by simp) (Nat.le_refl _)
      have hx := conv_brow V4.out
      clear V4 G4 V2 HU
      go_wp2
      go_ret
      exact ⟨rfl, by have := B0.out; rw [← hg0] at this; exact hg0 ▸ below_two this B4.out⟩
end Go.Proofs.YtidlgecognedlaaGreatDoor.Ms

/-
  Clients that commit what they were answered, ahead of their next submit: every view is a beginning of the order. In plain words; no program plays a part.
-/
namespace Go.Proofs.YtidlgecognedlaaGreatDoor.Ms
open Go
set_option maxRecDepth 100000

structure Hon (R : Rs) (nx : List (List UInt8)) : Prop where
  inv : RInv R
  len : nx.length = R.n
  olen : (orderR R).length ≤ 512
  bytes : ∀ b ∈ orderR R, bv b < 8
  cnts : ∀ j : Nat, j < R.n → (Hist.cnt (orderR R) (j : Int) : Int) = (R.reg (j : Int)).asked.number
  views : ∀ j : Nat, j < R.n → ∃ t, orderR R = (R.reg (j : Int)).view ++ t
  done : ∀ j : Nat, j < R.n → nx.getD j [] = [] → (Hist.cnt (R.reg (j : Int)).view (j : Int) : Int) = (R.reg (j : Int)).asked.number
  goes : ∀ j : Nat, j < R.n → ∃ t, orderR R = nx.getD j [] ++ t
  last : ∀ j : Nat, j < R.n → nx.getD j [] ≠ [] → lastI (nx.getD j []) = (j : Int) ∧ (Hist.cnt (nx.getD j []) (j : Int) : Int) = (R.reg (j : Int)).asked.number ∧ (Hist.cnt (R.reg (j : Int)).view (j : Int) : Int) + 1 = (R.reg (j : Int)).asked.number
  nums : ∀ i : Nat, i < R.pend.length → (R.pend.getD i zeroP).number = (Hist.cnt ((orderR R).take (R.long.length + i + 1)) (R.pend.getD i zeroP).client : Int)
theorem order_len (R : Rs) : (orderR R).length = R.long.length + R.pend.length := by simp [orderR]

theorem reg_zero (n : Nat) (c : Int) : (newR n).reg c = zeroG := by
  unfold Rs.reg newR
  rw [List.getD_eq_getElem?_getD]
  by_cases h : c.toNat < 8
  · rw [List.getElem?_replicate_of_lt h]; rfl
  · rw [List.getElem?_eq_none (by rw [List.length_replicate]; omega)]; rfl
theorem hon_new (n : Nat) (h : 2 ≤ n ∧ n ≤ 8) : Hon (newR n) (List.replicate n []) := by
  have e : ∀ j, (List.replicate n ([] : List UInt8)).getD j [] = [] := by
    intro j
    rw [List.getD_eq_getElem?_getD]
    by_cases hj : j < n
    · rw [List.getElem?_replicate_of_lt hj]; rfl
    · rw [List.getElem?_eq_none (by simpa using hj)]; rfl
  have eo : orderR (newR n) = [] := rfl
  refine ⟨RInv.new n h, by simp [newR], by rw [eo]; decide, fun b hb => by (rw [eo] at hb; cases hb), fun j _ => ?_, fun j _ => ?_, fun j _ _ => ?_, fun j _ => ⟨[], by rw [e j, eo]; rfl⟩, fun j _ hj => absurd (e j) hj, fun i hi => absurd hi (by simp [newR])⟩
  · rw [reg_zero]; rfl
  · rw [reg_zero, eo]; exact ⟨[], rfl⟩
  · rw [reg_zero]; rfl
theorem getD_setL {α : Type} (l : List α) (i j : Nat) (a d : α) (hi : i < l.length) : (l.set i a).getD j d = if j = i then a else l.getD j d := by
  rw [List.getD_eq_getElem?_getD, List.getD_eq_getElem?_getD, List.getElem?_set]
  by_cases h : i = j
  · subst h; simp [hi]
  · simp [h, Ne.symm h]
theorem reg_set (R : Rs) (h : R.regs.length = 8) (c j : Nat) (hc : c < 8) (g : Reg) (R' : Rs) (he : R'.regs = R.regs.set c g) : R'.reg (j : Int) = if j = c then g else R.reg (j : Int) := by
  rw [reg_nat, reg_nat, he, getD_setL _ _ _ _ _ (by omega)]
theorem order_subN (R : Rs) (c : Int) (x : Sub) : orderR (subN R c x) = orderR R ++ [by8 c] := by simp [orderR, subN, penOf]
theorem after_ans (R : Rs) (c : Int) (x : Sub) : afterR (ansR R x) c = orderR R ++ [by8 c] := by
  unfold afterR orderR
  rw [ansR_pend, ansR_view]
  simp [provenL]
theorem bv_hist (b : UInt8) : Hist.bv b = bv b := rfl
theorem cnt_snoc (O : List UInt8) (c : Nat) (hc : c < 256) (j : Int) : Hist.cnt (O ++ [by8 (c : Int)]) j = Hist.cnt O j + if j = (c : Int) then 1 else 0 := by
  rw [Hist.cnt_append, Hist.cnt_one, bv_hist, by8_val _ (by omega)]
  by_cases h : (c : Int) = j
  · rw [if_pos h, if_pos h.symm]
  · rw [if_neg h, if_neg (Ne.symm h)]
theorem hon_submit {R : Rs} {nx : List (List UInt8)} (h : Hon R nx) (c : Nat) (hc : c < R.n) (hx : nx.getD c [] = []) (x : Sub) (hw : x.Wf) (hnum : x.number = (R.reg (c : Int)).asked.number + 1) (h0 : subE R (c : Int) x = 0) :
    subR R (c : Int) x = subN R (c : Int) x ∧ subY R (c : Int) x = ansR R x ∧ Hon (subN R (c : Int) x) (nx.set c (afterR (ansR R x) (c : Int))) := by
  have hne : x.number ≠ (R.reg (c : Int)).asked.number := by omega
  obtain ⟨-, hf⟩ := subE_new h0 hne
  have hn := h.inv.n
  have hl := h.inv.len
  have hi := h.inv.subN hw (subE_zero h0) hf
  have eo := order_subN R (c : Int) x
  have ea := after_ans R (c : Int) x
  have hreg : ∀ j : Nat, (subN R (c : Int) x).reg (j : Int) = if j = c then { R.reg (c : Int) with asked := x, ans := ansR R x } else R.reg (j : Int) :=
    fun j => reg_set R hl c j (by omega) _ _ rfl
  have hnx : ∀ j : Nat, (nx.set c (afterR (ansR R x) (c : Int))).getD j [] = if j = c then orderR R ++ [by8 (c : Int)] else nx.getD j [] := fun j => by
    rw [getD_setL _ _ _ _ _ (by rw [h.len]; exact hc), ea]
  simp only [fullB, Bool.or_eq_false_iff, decide_eq_false_iff_not] at hf
  refine ⟨by unfold subR; rw [if_neg (by omega), if_neg hne], by unfold subY; rw [if_neg (by omega), if_neg hne], hi, by simpa [subN] using h.len, ?_, ?_, ?_, ?_, ?_, ?_, ?_, ?_⟩
  · rw [eo, List.length_append, order_len]
    simp only [List.length_cons, List.length_nil]
    omega
  · rw [eo]
    intro b hb
    simp only [List.mem_append, List.mem_cons, List.not_mem_nil, or_false] at hb
    rcases hb with hb | rfl
    · exact h.bytes b hb
    · rw [by8_val _ (by omega)]; omega
  · intro j hj
    rw [eo, cnt_snoc _ _ (by omega), hreg]
    have := h.cnts j hj
    by_cases hjc : j = c
    · subst hjc
      simp only [if_true]
      omega
    · rw [if_neg hjc, if_neg (by omega)]
      simpa using this
  · intro j hj
    obtain ⟨t, ht⟩ := h.views j hj
    rw [eo, hreg]
    by_cases hjc : j = c
    · subst hjc
      rw [if_pos rfl]
      exact ⟨t ++ [by8 (j : Int)], by rw [ht, List.append_assoc]⟩
    · rw [if_neg hjc]
      exact ⟨t ++ [by8 (c : Int)], by rw [ht, List.append_assoc]⟩
  · intro j hj hjx
    rw [hnx] at hjx
    by_cases hjc : j = c
    · rw [if_pos hjc] at hjx
      simp at hjx
    · rw [if_neg hjc] at hjx
      rw [hreg, if_neg hjc]
      exact h.done j hj hjx
  · intro j hj
    rw [hnx, eo]
    by_cases hjc : j = c
    · rw [if_pos hjc]
      exact ⟨[], by simp⟩
    · rw [if_neg hjc]
      obtain ⟨t, ht⟩ := h.goes j hj
      exact ⟨t ++ [by8 (c : Int)], by rw [ht, List.append_assoc]⟩
  · intro j hj hjx
    rw [hnx] at hjx ⊢
    rw [hreg]
    by_cases hjc : j = c
    · subst hjc
      rw [if_pos rfl, if_pos rfl]
      have h1 := h.cnts j hj
      have h2 := h.done j hj hx
      refine ⟨?_, ?_, ?_⟩
      · unfold lastI
        rw [List.length_append]
        simp only [List.length_cons, List.length_nil, Nat.add_sub_cancel]
        rw [List.getD_eq_getElem?_getD, List.getElem?_append_right (by omega)]
        simp only [Nat.sub_self, List.getElem?_cons_zero, Option.getD_some]
        exact by8_val _ (by omega)
      · rw [cnt_snoc _ _ (by omega)]
        simp only [if_true]
        omega
      · simp only
        omega
    · rw [if_neg hjc] at hjx ⊢
      rw [if_neg hjc]
      exact h.last j hj hjx
  · intro i hi2
    have hp : (subN R (c : Int) x).pend = R.pend ++ [penOf (c : Int) x] := rfl
    have hlg : (subN R (c : Int) x).long = R.long := rfl
    rw [hp] at hi2 ⊢
    rw [hlg, eo]
    simp only [List.length_append, List.length_cons, List.length_nil] at hi2
    have hol := order_len R
    by_cases hip : i < R.pend.length
    · have e1 : (R.pend ++ [penOf (c : Int) x]).getD i zeroP = R.pend.getD i zeroP := by
        rw [List.getD_eq_getElem?_getD, List.getD_eq_getElem?_getD, List.getElem?_append_left hip]
      rw [e1, List.take_append_of_le_length (by omega)]
      exact h.nums i hip
    · have hie : i = R.pend.length := by omega
      subst hie
      have e1 : (R.pend ++ [penOf (c : Int) x]).getD R.pend.length zeroP = penOf (c : Int) x := by
        rw [List.getD_eq_getElem?_getD, List.getElem?_append_right (by omega)]
        simp
      rw [e1, List.take_of_length_le (by simp; omega)]
      show x.number = _
      have h1 := h.cnts c hc
      show x.number = ((Hist.cnt (orderR R ++ [by8 (c : Int)]) (c : Int) : Nat) : Int)
      rw [cnt_snoc _ _ (by omega)]
      simp only [if_true]
      omega
theorem cnt_mono (O : List UInt8) (a b : Nat) (hab : a ≤ b) (c : Int) : Hist.cnt (O.take a) c ≤ Hist.cnt (O.take b) c := by
  have := Hist.cnt_take_le (O.take b) a c
  rw [List.take_take, Nat.min_eq_left hab] at this
  exact this
theorem find_first {α : Type} (p : α → Bool) : ∀ (l : List α) (i : Nat) (d : α), i < l.length → p (l.getD i d) = true → (∀ j, j < i → p (l.getD j d) = false) → l.findIdx? p = some i
  | [], i, d, h, _, _ => by simp at h
  | a :: l, 0, d, _, h, _ => by simpa [List.findIdx?_cons] using h
  | a :: l, i + 1, d, hl, h, hn => by
    have h0 : p a = false := by simpa using hn 0 (by omega)
    have ih := find_first p l i d (by simpa using hl) (by simpa using h) (fun j hj => by simpa using hn (j + 1) (by omega))
    rw [List.findIdx?_cons, h0, ih]
    rfl
theorem hon_cut {R : Rs} {nx : List (List UInt8)} (h : Hon R nx) (c : Nat) (hc : c < R.n) (hx : nx.getD c [] ≠ []) (hlt : R.long.length < (nx.getD c []).length) :
    ∃ i, i < R.pend.length ∧ (nx.getD c []).length = R.long.length + i + 1 ∧ cutP (c : Int) (R.reg (c : Int)).asked.number R.pend = R.pend.drop (i + 1) := by
  obtain ⟨t, ht⟩ := h.goes c hc
  obtain ⟨h1, h2, -⟩ := h.last c hc hx
  have hol := order_len R
  have hlen := congrArg List.length ht
  rw [List.length_append] at hlen
  have hn := h.inv.n
  obtain ⟨i, hi⟩ : ∃ i, (nx.getD c []).length = R.long.length + i + 1 := ⟨(nx.getD c []).length - R.long.length - 1, by omega⟩
  have hip : i < R.pend.length := by omega
  refine ⟨i, hip, hi, ?_⟩
  have etk : nx.getD c [] = (orderR R).take (R.long.length + i + 1) := by
    rw [ht, ← hi, List.take_left]
  have hby : ∀ j, j < R.pend.length → (orderR R).getD (R.long.length + j) 0 = by8 (R.pend.getD j zeroP).client := by
    intro j hj
    unfold orderR
    rw [List.getD_eq_getElem?_getD, List.getElem?_append_right (by omega), Nat.add_sub_cancel_left, List.getElem?_map, List.getD_eq_getElem?_getD, List.getElem?_eq_getElem hj]
    rfl
  have hcl : ∀ j, j < R.pend.length → 0 ≤ (R.pend.getD j zeroP).client ∧ (R.pend.getD j zeroP).client < 8 := by
    intro j hj
    rw [List.getD_eq_getElem?_getD, List.getElem?_eq_getElem hj]
    have := (h.inv.pend _ (List.getElem_mem hj)).cl
    exact ⟨this.1, by simp only [Option.getD_some]; omega⟩
  have hlast : (R.pend.getD i zeroP).client = (c : Int) := by
    rw [etk] at h1
    unfold lastI at h1
    rw [List.length_take, Nat.min_eq_left (by omega), List.getD_eq_getElem?_getD, List.getElem?_take_of_lt (by omega), ← List.getD_eq_getElem?_getD] at h1
    rw [show R.long.length + i + 1 - 1 = R.long.length + i by omega, hby i hip, by8_val _ (by have := hcl i hip; omega)] at h1
    exact h1
  have hnum : (R.pend.getD i zeroP).number = (R.reg (c : Int)).asked.number := by
    rw [h.nums i hip, hlast, ← etk]
    exact h2
  have hf : R.pend.findIdx? (isOp (c : Int) (R.reg (c : Int)).asked.number) = some i := by
    refine find_first _ _ i zeroP hip ?_ ?_
    · unfold isOp
      rw [hlast, hnum]
      simp
    · intro j hj
      unfold isOp
      by_cases hjc : (R.pend.getD j zeroP).client = (c : Int)
      · have e1 := h.nums j (by omega)
        rw [hjc] at e1
        have e2 := cnt_mono (orderR R) (R.long.length + j + 1) (R.long.length + i) (by omega) (c : Int)
        have e3 := Hist.cnt_step (orderR R) (R.long.length + i) (by omega) (c : Int)
        rw [hby i hip, bv_hist, by8_val _ (by have := hcl i hip; omega), hlast, if_pos rfl, ← etk] at e3
        have : ¬ (R.pend.getD j zeroP).number = (R.reg (c : Int)).asked.number := by omega
        rw [beq_false_of_ne this, Bool.and_false]
      · rw [beq_false_of_ne hjc, Bool.false_and]
  unfold cutP
  rw [hf]
theorem hon_commit {R : Rs} {nx : List (List UInt8)} (h : Hon R nx) (c : Nat) (hc : c < R.n) (hx : nx.getD c [] ≠ []) (t : List UInt8) (htl : t.length = 32) :
    comE R (c : Int) (nx.getD c []) t = 0 ∧ orderR (comR R (c : Int) (nx.getD c []) t) = orderR R ∧ Hon (comR R (c : Int) (nx.getD c []) t) (nx.set c []) := by
  obtain ⟨tl, ht⟩ := h.goes c hc
  obtain ⟨h1, h2, h3⟩ := h.last c hc hx
  have hn := h.inv.n
  have hl := h.inv.len
  have hlen := congrArg List.length ht
  rw [List.length_append] at hlen
  have hol := h.olen
  have h0 : comE R (c : Int) (nx.getD c []) t = 0 := by
    have hok : comOk R (c : Int) (nx.getD c []) t = true := by
      unfold comOk
      rw [com_may]
      simp only [Bool.and_eq_true, hasB_iff, inB_iff, viewB, Hist.rightB, bne_iff_ne, decide_eq_true_eq, List.all_eq_true]
      refine ⟨⟨by omega, by omega⟩, ⟨by omega, by omega⟩, hx, ⟨⟨by decide, by decide⟩, by omega⟩, fun b hb => ?_⟩
      exact h.bytes b (by rw [ht]; exact List.mem_append_left _ hb)
    unfold comE
    rw [if_neg (by rw [hok]; simp), if_neg (by omega), if_neg (by omega)]
  have hr : comR R (c : Int) (nx.getD c []) t = if R.long.length < (nx.getD c []).length then comL R (c : Int) (nx.getD c []) t else comS R (c : Int) (nx.getD c []) t := by
    unfold comR
    rw [if_neg (by omega)]
  have hinv : RInv (comR R (c : Int) (nx.getD c []) t) := h.inv.comR htl
  have eo : orderR (comR R (c : Int) (nx.getD c []) t) = orderR R := by
    rw [hr]
    by_cases hlt : R.long.length < (nx.getD c []).length
    · rw [if_pos hlt]
      obtain ⟨i, hip, hi, hcut⟩ := hon_cut h c hc hx hlt
      show nx.getD c [] ++ (cutP (c : Int) (R.reg (c : Int)).asked.number R.pend).map (fun p => by8 p.client) = _
      rw [hcut]
      have etk : nx.getD c [] = (orderR R).take (R.long.length + i + 1) := by
        rw [ht, ← hi, List.take_left]
      rw [etk]
      unfold orderR
      rw [show R.long.length + i + 1 = R.long.length + (i + 1) by omega, List.take_length_add_append, List.append_assoc, ← List.map_take, ← List.map_append, List.take_append_drop]
    · rw [if_neg hlt]
      rfl
  have hrn : (comR R (c : Int) (nx.getD c []) t).n = R.n := by
    rw [hr]; split <;> rfl
  have hreg : ∀ j : Nat, (comR R (c : Int) (nx.getD c []) t).reg (j : Int) = if j = c then { R.reg (c : Int) with view := nx.getD c [], tag := t } else R.reg (j : Int) := by
    intro j
    refine reg_set R hl c j (by omega) _ _ ?_
    rw [hr]
    split <;> rfl
  have hnx : ∀ j : Nat, (nx.set c []).getD j [] = if j = c then [] else nx.getD j [] := fun j => getD_setL _ _ _ _ _ (by rw [h.len]; exact hc)
  refine ⟨h0, eo, hinv, by rw [hrn]; simpa using h.len, by rw [eo]; exact hol, by rw [eo]; exact h.bytes, ?_, ?_, ?_, ?_, ?_, ?_⟩
  · intro j hj
    rw [hrn] at hj
    rw [eo, hreg]
    have := h.cnts j hj
    by_cases hjc : j = c
    · subst hjc
      rw [if_pos rfl]
      exact this
    · rw [if_neg hjc]
      exact this
  · intro j hj
    rw [hrn] at hj
    rw [eo, hreg]
    by_cases hjc : j = c
    · subst hjc
      rw [if_pos rfl]
      exact ⟨tl, ht⟩
    · rw [if_neg hjc]
      exact h.views j hj
  · intro j hj hjx
    rw [hrn] at hj
    rw [hnx] at hjx
    rw [hreg]
    by_cases hjc : j = c
    · subst hjc
      rw [if_pos rfl]
      exact h2
    · rw [if_neg hjc] at hjx ⊢
      exact h.done j hj hjx
  · intro j hj
    rw [hrn] at hj
    rw [eo, hnx]
    by_cases hjc : j = c
    · rw [if_pos hjc]
      exact ⟨orderR R, rfl⟩
    · rw [if_neg hjc]
      exact h.goes j hj
  · intro j hj hjx
    rw [hrn] at hj
    rw [hnx] at hjx ⊢
    rw [hreg]
    by_cases hjc : j = c
    · rw [if_pos hjc] at hjx
      exact absurd rfl hjx
    · rw [if_neg hjc] at hjx ⊢
      rw [if_neg hjc]
      exact h.last j hj hjx
  · intro i hi
    rw [eo]
    by_cases hlt : R.long.length < (nx.getD c []).length
    · obtain ⟨k, hkp, hk, hcut⟩ := hon_cut h c hc hx hlt
      have hp : (comR R (c : Int) (nx.getD c []) t).pend = R.pend.drop (k + 1) := by
        rw [hr, if_pos hlt, ← hcut]
        rfl
      have hlg : (comR R (c : Int) (nx.getD c []) t).long = nx.getD c [] := by
        rw [hr, if_pos hlt]
        rfl
      rw [hp, List.length_drop] at hi
      rw [hp, hlg, hk]
      have e1 : (R.pend.drop (k + 1)).getD i zeroP = R.pend.getD (k + 1 + i) zeroP := by
        rw [List.getD_eq_getElem?_getD, List.getD_eq_getElem?_getD, List.getElem?_drop]
      rw [e1, show R.long.length + k + 1 + i + 1 = R.long.length + (k + 1 + i) + 1 by omega]
      exact h.nums (k + 1 + i) (by omega)
    · have hp : (comR R (c : Int) (nx.getD c []) t).pend = R.pend := by
        rw [hr, if_neg hlt]
        rfl
      have hlg : (comR R (c : Int) (nx.getD c []) t).long = R.long := by
        rw [hr, if_neg hlt]
        rfl
      rw [hp] at hi
      rw [hp, hlg]
      exact h.nums i hi
theorem goesB_of {O v : List UInt8} (h : ∃ t, O = v ++ t) : Hist.goesB O v = true := by
  obtain ⟨t, rfl⟩ := h
  unfold Hist.goesB
  rw [List.isPrefixOf_iff_prefix]
  exact List.prefix_append v t
end Go.Proofs.YtidlgecognedlaaGreatDoor.Ms

/-
  The walk of RegsNone.
-/
namespace Go.Proofs.YtidlgecognedlaaGreatDoor.Ms
open Go Go.RowKit
set_option maxRecDepth 100000

def ractC (k c : Int) (x : Sub) (v t : List UInt8) : List Value := [nu k] ++ ([nu c] ++ (subC x ++ ([st v] ++ dg t)))
theorem ractC_len {k c : Int} {x : Sub} {v t : List UInt8} (hx : x.Wf) (ht : t.length = 32) : (ractC k c x v t).length = 103 := by simp [ractC, subC_len hx, dg_len, ht]
theorem sameR_zero : sameR zeroR zeroR = true := by decide

theorem cell_kp {w w' : World} {g i : Nat} {u : Value} (h : w.cell? ⟨g, i, none⟩ = some u) (hb : Below w.heap.size w w') : w'.cell? ⟨g, i, none⟩ = some u := (hb.cell (p := ⟨g, i, none⟩) (World.block_lt_of_cell? w _ h)).trans h

end Go.Proofs.YtidlgecognedlaaGreatDoor.Ms

/-
  Calls that came in, as data and in memory (law12.Act).
-/
namespace Go.Proofs.YtidlgecognedlaaGreatDoor.Ms
open Go Go.RowKit
set_option maxRecDepth 100000

structure Rac where
  kind : Int
  client : Int
  x : Sub
  view : List UInt8
  tag : List UInt8
def racC (a : Rac) : List Value := ractC a.kind a.client a.x a.view a.tag
structure Rac.Ok (a : Rac) : Prop where
  c : I64 a.client
  k : I64 a.kind
  xk : I64 a.x.kind
  xt : I64 a.x.target
  wf : a.x.Wf
  t : a.tag.length = 32
def noRac : Rac := ⟨0, 0, zeroS, [], zeroD⟩
def RactsAt (w : World) (x : Option Addr) (acs : List Rac) : Prop := ∀ j, j < acs.length → ∃ b off, x = some ⟨b, off, none⟩ ∧ (acs.getD j noRac).Ok ∧ ∀ c y, (racC (acs.getD j noRac))[c]? = some y → w.cell? ⟨b, off + j * 103 + c, none⟩ = some y
theorem RactsAt.kept {w w' : World} {x : Option Addr} {acs : List Rac} (h : RactsAt w x acs) (hb : Below w.heap.size w w') : RactsAt w' x acs := by
  intro j hj
  obtain ⟨b, off, rfl, h1, h2⟩ := h j hj
  exact ⟨b, off, rfl, h1, fun c y hy => cell_kp (h2 c y hy) hb⟩
theorem sizeRac : (Tryz.prog.info? 48).map (·.size) = some 103 := by kernel_rfl
theorem zeroRac : (Tryz.prog.info? 48).map (·.zero) = some (some (.agg (ractC 0 0 zeroS [] zeroD).toArray)) := by kernel_rfl
theorem one_rac (a : Rac) : ∀ v ∈ racC a, v.oneCell' = true := by
  intro v hv
  simp only [racC, ractC, List.mem_append, List.mem_singleton] at hv
  rcases hv with rfl | rfl | hv | rfl | hv
  · rfl
  · rfl
  · exact one_sub _ v hv
  · rfl
  · exact one_dg _ v hv
theorem rac_kind {w : World} {g : Nat} {a : Rac} (h : w.heap[g]? = some (.cells (racC a).toArray 48)) : w.cell? ⟨g, 0, none⟩ = some (nu a.kind) := row_cell (A := []) (C := [nu a.client] ++ (subC a.x ++ ([st a.view] ++ dg a.tag))) h (by simp [racC, ractC]) rfl
theorem rac_client {w : World} {g : Nat} {a : Rac} (h : w.heap[g]? = some (.cells (racC a).toArray 48)) : w.cell? ⟨g, 1, none⟩ = some (nu a.client) := row_cell (A := [nu a.kind]) (C := subC a.x ++ ([st a.view] ++ dg a.tag)) h (by simp [racC, ractC]) rfl
theorem rac_sub {w : World} {g : Nat} {a : Rac} (h : w.heap[g]? = some (.cells (racC a).toArray 48)) : ∀ j u, (subC a.x)[j]? = some u → w.cell? ⟨g, 2 + j, none⟩ = some u := row_seg (A := [nu a.kind] ++ [nu a.client]) (C := [st a.view] ++ dg a.tag) h (by simp [racC, ractC]) rfl
theorem rac_tag {w : World} {g : Nat} {a : Rac} (h : w.heap[g]? = some (.cells (racC a).toArray 48)) (hx : a.x.Wf) : ∀ j u, (dg a.tag)[j]? = some u → w.cell? ⟨g, 71 + j, none⟩ = some u := row_seg (A := [nu a.kind] ++ ([nu a.client] ++ (subC a.x ++ [st a.view]))) (C := []) h (by simp [racC, ractC]) (by simp [subC_len hx])

end Go.Proofs.YtidlgecognedlaaGreatDoor.Ms

/-
  What the reference of histories (R09) answers: the same as hist.
-/
namespace Go.Proofs.YtidlgecognedlaaGreatDoor.Hist
open Go Go.RowKit
set_option maxRecDepth 100000

set_option maxHeartbeats 2000000 in
theorem rcount_any (h : List UInt8) (hl : h.length < 9223372036854775807) (c : Int) (w : World) : Calls Tryz.prog 26 #[.string ⟨h.toArray⟩, .int .i64 c] w fun e w' => e = .returned (.int .i64 (cnt h c)) ∧ w' = w := by
  have hss : (⟨h.toArray⟩ : ByteArray).size = h.length := rfl
  go_enter Tryz.func26, Tryz.ntmps26
  go_wp2
  go_loopw [5, 6] (fun v i w' => ∃ j : Nat, j ≤ h.length ∧ i = .int .i64 j ∧ v = .int .i64 (cnt (h.take j) c) ∧ w' = w) (fun _ i _ => h.length - (intOf i).toNat)
  case atStart => exact ⟨0, by omega, rfl, rfl, rfl⟩
  case round =>
    obtain ⟨j, hj, rfl, rfl, hw⟩ := hrel
    subst wr
    by_cases hlt : j < h.length
    · have d1 : decide ((j : Int) < (h.length : Int)) = true := by simp; omega
      have hq : ((⟨h.toArray⟩ : ByteArray)[j]'(by rw [hss]; exact hlt)).toNat = (h.getD j 0).toNat := getD_byte h j _
      have hs := cnt_step h j hlt c
      have hx : bv (h.getD j 0) = ((h.getD j 0).toNat : Int) := rfl
      have hx2 : (h.getD j 0).toNat < 256 := (h.getD j 0).toNat_lt
      have hcl := Nat.le_trans (cnt_take_le h j c) (cnt_le h c)
      have HS := hid hs
      generalize (h.getD j 0).toNat = x at *
      clear hs
      by_cases he : bv (h.getD j 0) = c
      · have HS' := HS.out
        rw [if_pos he] at HS'
        have HS2 := hid HS'
        have d2 : ((x : Int) == c) = true := by rw [← hx]; simpa using he
        clear HS HS' he hx
        generalize cnt (h.take j) c = m at *
        go_wp2
        exact ⟨⟨j + 1, by omega, by go_num, by rw [HS2.out]; go_num, trivial⟩, by simp [intOf]; omega⟩
      · have HS' := HS.out
        rw [if_neg he] at HS'
        have HS2 := hid HS'
        have d2 : ((x : Int) == c) = false := by rw [← hx]; simpa using he
        clear HS HS' he hx
        generalize cnt (h.take j) c = m at *
        go_wp2
        exact ⟨⟨j + 1, by omega, by go_num, by rw [HS2.out]; rfl, trivial⟩, by simp [intOf]; omega⟩
    · obtain rfl : j = h.length := by omega
      have e := cnt_all h c
      rw [e]
      go_wp2
      go_ret
      exact ⟨rfl, rfl⟩




theorem gt_sub (x : Nat) (n : Int) (b : Bool) (h : decide (n ≤ (x : Int)) = b) : decide (n - 1 < (x : Int)) = b := by
  rw [← h]
  by_cases e : n ≤ (x : Int)
  · rw [decide_eq_true e, decide_eq_true (by omega)]
  · rw [decide_eq_false e, decide_eq_false (by omega)]
set_option maxHeartbeats 2000000 in
theorem rright_any (h : List UInt8) (n : Int) (w : World) : Calls Tryz.prog 48 #[.string ⟨h.toArray⟩, .int .i64 n] w fun e w' => e = .returned (.bool (rightB h n)) ∧ w' = w := by
  have hss : (⟨h.toArray⟩ : ByteArray).size = h.length := rfl
  by_cases h1 : n < 1
  · rw [right_false1 h n h1]
    have d1 : decide (n < 1) = true := decide_eq_true h1
    go_enter Tryz.func48, Tryz.ntmps48
    go_wp2
    go_ret
    exact ⟨rfl, rfl⟩
  by_cases h2 : 256 < n
  · rw [right_false2 h n h2]
    have d1 : decide (n < 1) = false := decide_eq_false h1
    have d2 : decide (256 < n) = true := decide_eq_true h2
    clear h1 h2
    go_enter Tryz.func48, Tryz.ntmps48
    go_wp2
    go_ret
    exact ⟨rfl, rfl⟩
  by_cases h3 : 512 < h.length
  · rw [right_false3 h n h3]
    have d1 : decide (n < 1) = false := decide_eq_false h1
    have d2 : decide (256 < n) = false := decide_eq_false h2
    have d3 : decide ((512 : Int) < (h.length : Int)) = true := by simp; omega
    clear h1 h2 h3
    go_enter Tryz.func48, Tryz.ntmps48
    go_wp2
    go_ret
    exact ⟨rfl, rfl⟩
  have d1 : decide (n < 1) = false := decide_eq_false h1
  have d2 : decide (256 < n) = false := decide_eq_false h2
  have d3 : decide ((512 : Int) < (h.length : Int)) = false := by simp; omega
  have HR := hid (right_true h n h1 h2 h3)
  have hn1 : 1 ≤ n ∧ n ≤ 256 := by omega
  have h3' : h.length ≤ 512 := by omega
  clear h1 h2 h3
  go_enter Tryz.func48, Tryz.ntmps48
  go_wp2
  go_loopw [5] (fun i w' => ∃ j : Nat, j ≤ h.length ∧ i = .int .i64 j ∧ Hid (∀ k, k < j → bv (h.getD k 0) < n) ∧ w' = w) (fun i _ => h.length - (intOf i).toNat)
  case atStart => exact ⟨0, by omega, rfl, fun k hk => absurd hk (Nat.not_lt_zero k), rfl⟩
  case round =>
    obtain ⟨j, hj, rfl, HN, hw⟩ := hrel
    subst wr
    by_cases hlt : j < h.length
    · have e1 : decide ((j : Int) < (h.length : Int)) = true := by simp; omega
      have hq : ((⟨h.toArray⟩ : ByteArray)[j]'(by rw [hss]; exact hlt)).toNat = (h.getD j 0).toNat := getD_byte h j _
      have hx : bv (h.getD j 0) = ((h.getD j 0).toNat : Int) := rfl
      have hx2 : (h.getD j 0).toNat < 256 := (h.getD j 0).toNat_lt
      by_cases he : n ≤ bv (h.getD j 0)
      · have HP := hid (right_false4 h n j hlt he)
        have d4 : decide (n - 1 < ((h.getD j 0).toNat : Int)) = true := gt_sub _ n _ (decide_eq_true (by rw [← hx]; exact he))
        generalize (h.getD j 0).toNat = x at *
        clear he hx HR HN
        go_wp2
        go_ret
        exact ⟨by rw [HP.out]; rfl, rfl⟩
      · have HN' : Hid (∀ k, k < j + 1 → bv (h.getD k 0) < n) := fun k hk => by
          by_cases e : k = j
          · rw [e]; omega
          · exact HN.out k (by omega)
        have d4 : decide (n - 1 < ((h.getD j 0).toNat : Int)) = false := gt_sub _ n _ (decide_eq_false (by rw [← hx]; exact he))
        generalize (h.getD j 0).toNat = x at *
        clear he hx HR HN
        go_wp2
        exact ⟨⟨j + 1, by omega, by go_num, HN'.out, trivial⟩, by simp [intOf]; omega⟩
    · obtain rfl : j = h.length := by omega
      have HP := hid (HR.out HN.out)
      clear HR HN
      go_wp2
      go_ret
      exact ⟨by rw [HP.out]; rfl, rfl⟩

theorem goes_iff (a b : List UInt8) : goesB a b = true ↔ b <+: a := by unfold goesB; simp
theorem goes_long (a b : List UInt8) (h : a.length < b.length) : goesB a b = false := by
  rw [Bool.eq_false_iff]; intro e
  have := ((goes_iff a b).1 e).length_le
  omega
theorem goes_differ (a b : List UInt8) (j : Nat) (hb : j < b.length) (ha : j < a.length) (h : a.getD j 0 ≠ b.getD j 0) : goesB a b = false := by
  rw [Bool.eq_false_iff]; intro e
  obtain ⟨t, rfl⟩ := (goes_iff a b).1 e
  apply h
  simp [List.getD, List.getElem?_append_left hb]
theorem goes_same (a b : List UInt8) (hl : b.length ≤ a.length) (h : ∀ j, j < b.length → a.getD j 0 = b.getD j 0) : goesB a b = true := by
  rw [goes_iff, List.prefix_iff_eq_take]
  apply List.ext_getElem
  · simp; omega
  · intro i h1 h2
    have e := h i h1
    have h3 : i < a.length := by omega
    simp [List.getD, h1, h3] at e
    simp [e]

set_option maxHeartbeats 2000000 in
theorem rgoes_any (a b : List UInt8) (hal : a.length < 9223372036854775807) (w : World) : Calls Tryz.prog 24 #[.string ⟨a.toArray⟩, .string ⟨b.toArray⟩] w fun e w' => e = .returned (.bool (goesB a b)) ∧ Below w.heap.size w w' := by
  have hsa : (⟨a.toArray⟩ : ByteArray).size = a.length := rfl
  have hsb : (⟨b.toArray⟩ : ByteArray).size = b.length := rfl
  by_cases h1 : a.length < b.length
  · rw [goes_long a b h1]
    have d1 : decide ((a.length : Int) < (b.length : Int)) = true := by simp; omega
    go_enter Tryz.func24, Tryz.ntmps24
    go_wp2
    go_ret
    exact ⟨rfl, Below.refl _ _⟩
  have d1 : decide ((a.length : Int) < (b.length : Int)) = false := by simp; omega
  have hle : b.length ≤ a.length := by omega
  have HG := hid (goes_same a b hle)
  clear h1
  have HB0 := hid (Below.refl w.heap.size w)
  go_enter Tryz.func24, Tryz.ntmps24
  go_wp2
  go_loopw [5] (fun i w' => ∃ j : Nat, j ≤ b.length ∧ i = .int .i64 j ∧ Hid (∀ k, k < j → a.getD k 0 = b.getD k 0) ∧ Hid (Below w.heap.size w w')) (fun i _ => b.length - (intOf i).toNat)
  case atStart => exact ⟨0, by omega, rfl, fun k hk => absurd hk (Nat.not_lt_zero k), HB0.out⟩
  case round =>
    obtain ⟨j, hj, rfl, HN, HB⟩ := hrel
    by_cases hlt : j < b.length
    · have e1 : decide ((j : Int) < (b.length : Int)) = true := by simp; omega
      have hlt2 : j < a.length := by omega
      have hqa : ((⟨a.toArray⟩ : ByteArray)[j]'(by rw [hsa]; exact hlt2)).toNat = (a.getD j 0).toNat := getD_byte a j _
      have hqb : ((⟨b.toArray⟩ : ByteArray)[j]'(by rw [hsb]; exact hlt)).toNat = (b.getD j 0).toNat := getD_byte b j _
      by_cases he : a.getD j 0 = b.getD j 0
      · have HN' : Hid (∀ k, k < j + 1 → a.getD k 0 = b.getD k 0) := fun k hk => by
          by_cases e : k = j
          · rw [e]; exact he
          · exact HN.out k (by omega)
        have dx : (((a.getD j 0).toNat : Int) != ((b.getD j 0).toNat : Int)) = false := by rw [he]; simp
        have dy : (((a.getD j 0).toNat : Int) == ((b.getD j 0).toNat : Int)) = true := by rw [he]; simp
        generalize (a.getD j 0).toNat = x at *
        generalize (b.getD j 0).toNat = y at *
        clear he HG HN
        have HBd := hid HB.out.drew
        go_wp2
        go_region
        all_goals (go_wp2; exact ⟨⟨j + 1, by omega, by go_num, HN'.out, HBd.out⟩, by simp [intOf]; omega⟩)
      · have HP := hid (goes_differ a b j hlt hlt2 he)
        have hne : (a.getD j 0).toNat ≠ (b.getD j 0).toNat := fun e => he (UInt8.toNat_inj.1 e)
        generalize (a.getD j 0).toNat = x at *
        generalize (b.getD j 0).toNat = y at *
        have dx : ((x : Int) != (y : Int)) = true := by simp; omega
        have dy : ((x : Int) == (y : Int)) = false := by simp; omega
        clear he hne HG HN
        have HBd := hid HB.out.drew
        go_wp2
        go_region
        all_goals (go_wp2; go_ret; exact ⟨by rw [HP.out]; rfl, HBd.out⟩)
    · obtain rfl : j = b.length := by omega
      have HP := hid (HG.out HN.out)
      clear HG HN
      go_wp2
      go_ret
      exact ⟨by rw [HP.out]; rfl, HB.out⟩

end Go.Proofs.YtidlgecognedlaaGreatDoor.Hist

/-
  The walk of RegsOrder.
-/
namespace Go.Proofs.YtidlgecognedlaaGreatDoor.Ms
open Go Go.RowKit
set_option maxRecDepth 100000

def NxAt (w : World) (g : Nat) (nx : List (List UInt8)) : Prop := w.heap[g]? = some (.cells (nx.map st).toArray 9)
theorem NxAt.cell {w : World} {g : Nat} {nx : List (List UInt8)} (h : NxAt w g nx) {j : Nat} (hj : j < nx.length) : w.cell? ⟨g, j, none⟩ = some (st (nx.getD j [])) := by
  have e := row_zero h j (st (nx.getD j [])) (by rw [List.getElem?_map, List.getD_eq_getElem?_getD, List.getElem?_eq_getElem hj]; rfl)
  rw [Nat.zero_add] at e
  exact e
theorem infoStr : (Tryz.prog.info? 9).map (fun i => (i.zero, i.size, i.bytes)) = some (some (st []), 1, 16) := by kernel_rfl
theorem made_nx : ∀ n : Nat, n ≤ 8 → madeCells (st []).cells (n * 1) = ((List.replicate n []).map st).toArray
  | 0, _ => by kernel_rfl
  | 1, _ => by kernel_rfl
  | 2, _ => by kernel_rfl
  | 3, _ => by kernel_rfl
  | 4, _ => by kernel_rfl
  | 5, _ => by kernel_rfl
  | 6, _ => by kernel_rfl
  | 7, _ => by kernel_rfl
  | 8, _ => by kernel_rfl
  | n + 9, h => absurd h (by omega)
theorem make_nx (n : Nat) (hn : n ≤ 8) (W : World) : (Instr.makeSlice 51 (.int .i64 (n : Int)) (.int .i64 (n : Int))).run Tryz.prog W = .ok (.slice (some ⟨W.heap.size, 0, none⟩) n n) (W.alloc (.cells ((List.replicate n []).map st).toArray 9)) := by
  have hI := infoStr
  cases hi : Tryz.prog.info? 9 with
  | none => rw [hi] at hI; cases hI
  | some i =>
    rw [hi] at hI
    simp only [Option.map_some, Option.some.injEq, Prod.mk.injEq] at hI
    obtain ⟨hz0, hz1, hz2⟩ := hI
    have h := run_makeSlice (P := Tryz.prog) W 51 9 i _ Tryz.underlying51 hi hz0 .i64 .i64 n n (by omega) (by omega) (by rw [hz1]; omega) (by rw [hz2]; omega) (by omega)
    rw [hz1] at h
    simp only [Int.toNat_natCast] at h
    have e := made_nx n hn
    rw [e] at h
    exact h

theorem sub_row {w : World} {g : Nat} {x : Sub} (h : w.heap[g]? = some (.cells (subC x).toArray 25)) : w.heap[g]? = some (.cells (([] : List Value) ++ ([nu x.number] ++ (subC x).drop 1)).toArray 25) := h
theorem sub_new {w : World} {g : Nat} {x : Sub} {n : Int} (h : w.heap[g]? = some (.cells (([] : List Value) ++ ([nu n] ++ (subC x).drop 1)).toArray 25)) : w.heap[g]? = some (.cells (subC { x with number := n }).toArray 25) := h
theorem nx_open {w : World} {g : Nat} {nx : List (List UInt8)} (h : NxAt w g nx) {c : Nat} (hc : c < nx.length) : w.heap[g]? = some (.cells ((nx.take c).map st ++ ([st (nx.getD c [])] ++ (nx.drop (c + 1)).map st)).toArray 9) := by
  have e : nx.map st = (nx.take c).map st ++ ([st (nx.getD c [])] ++ (nx.drop (c + 1)).map st) := by
    conv => lhs; rw [← List.take_append_drop c nx, List.drop_eq_getElem_cons hc]
    rw [List.map_append, List.map_cons, List.getD_eq_getElem?_getD, List.getElem?_eq_getElem hc]
    rfl
  unfold NxAt at h
  rw [e] at h
  exact h
theorem nx_shut {w : World} {g : Nat} {nx : List (List UInt8)} {c : Nat} {v : List UInt8} (h : w.heap[g]? = some (.cells ((nx.take c).map st ++ ([st v] ++ (nx.drop (c + 1)).map st)).toArray 9)) (hc : c < nx.length) : NxAt w g (nx.set c v) := by
  have e : (nx.set c v).map st = (nx.take c).map st ++ ([st v] ++ (nx.drop (c + 1)).map st) := by
    rw [List.set_eq_take_append_cons_drop, if_pos hc, List.map_append, List.map_cons]
    rfl
  unfold NxAt
  rw [e]
  exact h
theorem ans_cl {R : Rs} (h : RInv R) (x : Sub) : ∀ p ∈ (ansR R x).pend, 0 ≤ p.client ∧ p.client < 256 := by
  intro p hp
  rw [ansR_pend] at hp
  simp only [provenL, List.mem_map] at hp
  obtain ⟨q, hq, rfl⟩ := hp
  have h1 := (h.pend q hq).cl
  have h2 := h.n
  show 0 ≤ q.client ∧ q.client < 256
  omega
theorem sub_rng {c : Int} {x : Sub} (hc : I64 c) (hn : I64 x.number) (hk : I64 x.kind) (ht : I64 x.target) : (subM c x).Rng := by
  have h := zeroM_rng 1 c ⟨by decide, by decide⟩ hc
  exact ⟨h.kind, h.client, hn, hk, ht, h.rn, h.rl, h.rv, h.who, h.bo, h.bn, h.ns, h.ps⟩

set_option maxHeartbeats 4000000 in
theorem order_walk (w : World) (ht : Tb w) (m : Nat) (hm : m < 256) (x : Option Addr) (acs : List Rac) (cap : Nat) (h : RactsAt w x acs) :
    Calls Tryz.prog 5 #[.int .u8 (m : Int), .slice x acs.length cap] w fun e w' => e = .returned (.bool true) ∧ Below w.heap.size w w' := by
  obtain ⟨k, hk⟩ : ∃ k, k = m % 7 + 2 := ⟨_, rfl⟩
  have hk8 : 2 ≤ k ∧ k ≤ 8 := by omega
  have HN := hid (new_s w k hk8)
  have HA := hid h
  have HT := hid ht
  clear h ht
  go_enter Tryz.func5, Tryz.ntmps5
  go_upto_region 2 with fail
  have hkI : ((m : Int) % 7 + 2) = (k : Int) := by omega
  generalize ((m : Int) % 7 + 2) = kI at *
  subst hkI
  generalize ((m : Int) % 7) = m7 at *
  clear hk
  go_upto_region 3 with (go_at_call 14; refine HN.out.mono ?_; rintro e W1 ⟨rfl, h1⟩; have H1 := hid h1; clear h1)
  have AW := hid (rawake_any W1 (HT.out.stays H1.out.bl))
  go_upto_region 5 with (go_at_call 15; refine AW.out.mono ?_; rintro e W2 ⟨rfl, b2⟩; have H2 := hid (H1.out.kept b2); clear b2)
  have hmk := make_nx k hk8.2 W2
  have B3 := hid (below_a1 W2 (.cells ((List.replicate k []).map st).toArray 9))
  have H3 := hid (H2.out.kept B3.out)
  have R3 : Hid (NxAt (W2.alloc (.cells ((List.replicate k []).map st).toArray 9)) W2.heap.size (List.replicate k [])) := top_obj W2 (.cells ((List.replicate k []).map st).toArray 9)
  have N3 := hid H2.out.new
  have G3 : Hid (w.heap.size ≤ W2.heap.size) := H2.out.bl.size
  generalize W2.alloc (.cells ((List.replicate k []).map st).toArray 9) = W3 at *
  generalize hp : w.heap.size = p at *
  go_upto_region 8 with fail
  generalize W2.heap.size = g at *
  have G3 : Hid (w.heap.size ≤ g) := by
    show w.heap.size ≤ g
    rw [hp]
    exact G3.out
  clear hmk HN AW H1 H2 B3 hm
  go_loopw [10, 9] (fun i o wr => ∃ (j : Nat) (R : Rs) (nx : List (List UInt8)) (F : List Nat) (O : List UInt8), j ≤ 60 ∧ j ≤ acs.length ∧ i = nu j ∧ o = st O ∧ Hid (Hon R nx) ∧ Hid (R.n = k) ∧ Hid (O = orderR R) ∧ Hid (Sx w wr p F R) ∧ Hid (NxAt wr g nx) ∧ Hid (g ∉ F)) (fun i _ _ => 60 - (intOf i).toNat)
  case atStart => exact ⟨0, newR k, List.replicate k [], [p], [], by omega, by omega, rfl, rfl, hon_new k hk8, rfl, rfl, H3, R3, N3⟩
  case round =>
    clear H3 R3 N3
    obtain ⟨j, R, nx, F, O, hj60, hjl, rfl, rfl, HH, HRn, HO, HS, HX, HF⟩ := hrel
    by_cases hc : j < acs.length ∧ j < 60
    · have d1 : decide ((j : Int) < (acs.length : Int)) = true := decide_eq_true (by omega)
      have d1' : decide (j < acs.length) = true := decide_eq_true hc.1
      have d2 : decide ((j : Int) < 60) = true := decide_eq_true (by omega)
      have hj : j < acs.length := hc.1
      obtain ⟨b, off, rfl, hok, hcells⟩ := (HA.out.kept HS.out.bl) j hc.1
      have HK := hid hok
      have SC := hid hcells
      have ZC : Hid ((Tryz.prog.info? 48).map (·.size) = some (racC (acs.getD j noRac)).length) := by
        show _ = _
        rw [racC, ractC_len hok.wf hok.t]
        exact sizeRac
      have T4 := top_obj wr (.cells (racC (acs.getD j noRac)).toArray 48)
      have B4 := hid (below_a1 wr (.cells (racC (acs.getD j noRac)).toArray 48))
      have c41 := rac_client T4
      have c40 := rac_kind T4
      have C4x := hid (rac_sub T4)
      have C4t := hid (rac_tag T4 hok.wf)
      have H4 := hid (HS.out.kept B4.out)
      have HF4 := hid HS.out.new
      have X4 : Hid (NxAt _ g nx) := hid (row_kept HX.out B4.out)
      have HAk := hid hok
      have Hlen : Hid ((ractC 0 0 zeroS [] zeroD).length = (racC (acs.getD j noRac)).length) := by
        show _ = _
        rw [racC, ractC_len hok.wf hok.t]
        rfl
      have HOne := hid (one_rac (acs.getD j noRac))
      have hj59 : j < 60 := hc.2
      clear T4 hok hcells hc HS HX
      generalize acs.getD j noRac = a at *
      go_upto_region 12 with (first
        | ((with_reducible refine wl_load 48 (.tmp 51) ?_ b (off + j * 103) ?_ ?_ (racC a) _ SC.out Tryz.underlying48 ?_ ZC.out ?_); exact rfl; exact rfl; exact rfl; exact rfl)
        | ((with_reducible refine wl_alloc 48 ?_ ?_ (ractC 0 0 zeroS [] zeroD).toArray zeroRac ?_); exact rfl; exact rfl)
        | ((with_reducible refine wl_store_top 48 (.tmp 11) (.tmp 52) ?_ ?_ ?_ ?_ (racC a) (ractC 0 0 zeroS [] zeroD) ?_ 48 Hlen.out HOne.out ZC.out ?_); exact rfl; exact rfl; exact rfl; exact rfl; exact rfl))
      generalize wr.alloc (.cells (racC a).toArray 48) = W4 at *
      have M4 : Hid (wr.heap.size ∉ F) := HF4.out
      generalize wr.heap.size = kA at *
      by_cases hcl : 0 ≤ a.client ∧ a.client < (k : Int)
      · obtain ⟨c, hcc⟩ : ∃ c : Nat, a.client = (c : Int) := ⟨a.client.toNat, by omega⟩
        generalize a.client = cl at *
        subst hcc
        have hck : c < k := by omega
        have e1 : decide ((c : Int) < 0) = false := decide_eq_false (by omega)
        have e2 : decide ((k : Int) ≤ (c : Int)) = false := decide_eq_false (by omega)
        have e2' : decide (k ≤ c) = false := decide_eq_false (by omega)
        have e3 : decide (c < k) = true := decide_eq_true hck
        have hlen : nx.length = k := HH.out.len.trans HRn.out
        have cN := X4.out.cell (j := c) (by omega)
        obtain ⟨NC, hNC⟩ : ∃ NC, NC = nx.getD c [] := ⟨_, rfl⟩
        rw [← hNC] at cN
        have HNC := hid hNC
        have ZX := hid (szS HK.out.wf)
        clear hNC hcl
        go_upto_if 66 with fail
        go_cut [13, 14, 15] from 39 to 147 (fun _ _ _ wx => ∃ (R' : Rs) (nx' : List (List UInt8)) (F' : List Nat), Hid (Hon R' nx') ∧ Hid (R'.n = k) ∧ Hid (Hist.goesB (orderR R') O = true) ∧ Hid (Sx w wx p F' R') ∧ Hid (NxAt wx g nx') ∧ Hid (g ∉ F'))
        case first =>
          by_cases hne : NC = []
          · subst hne
            go_upto_region 15 with (first
              | ((with_reducible refine wl_load 25 (.tmp 67) ?_ kA 2 ?_ ?_ (subC a.x) _ C4x.out Tryz.underlying25 ?_ ZX.out ?_); exact rfl; exact rfl; exact rfl; exact rfl)
              | ((with_reducible refine wl_alloc 25 ?_ ?_ (subC zeroS).toArray zeroSub ?_); exact rfl; exact rfl)
              | ((with_reducible refine wl_store_top 25 (.tmp 13) (.tmp 68) ?_ ?_ ?_ ?_ (subC a.x) (subC zeroS) ?_ 25 (lnS HK.out.wf) (one_sub a.x) ZX.out ?_); exact rfl; exact rfl; exact rfl; exact rfl; exact rfl))
            have B5 := hid (below_a1 W4 (.cells (subC a.x).toArray 25))
            have R5 := hid (sub_row (top_obj W4 (.cells (subC a.x).toArray 25)))
            have H5 := hid (H4.out.kept B5.out)
            have X5 : Hid (NxAt _ g nx) := hid (row_kept X4.out B5.out)
            have N5 := hid H4.out.new
            have G5 : Hid (w.heap.size ≤ W4.heap.size) := H4.out.bl.size
            have L5 : Hid (g < W4.heap.size) := row_ltA X4.out
            generalize W4.alloc (.cells (subC a.x).toArray 25) = W5 at *
            generalize W4.heap.size = kS at *
            obtain ⟨q, hq, hqa, hq5⟩ : ∃ q : Nat, numR R (c : Int) = (q : Int) ∧ (R.reg (c : Int)).asked.number = (q : Int) ∧ q ≤ 512 := ⟨Hist.cnt (orderR R) (c : Int), by
              unfold numR
              rw [if_pos ((hasB_iff _ _).2 ⟨by omega, by rw [HRn.out]; omega⟩), HH.out.cnts c (by rw [HRn.out]; exact hck)], (HH.out.cnts c (by rw [HRn.out]; exact hck)).symm, Nat.le_trans (Hist.cnt_le _ _) HH.out.olen⟩
            have HQA := hid hqa
            clear hqa
            have HNu := hid (number_x H5.out.rx (c : Int))
            rw [hq] at HNu
            have HQ := hid hq
            clear hq C4x H4 X4 B5
            go_upto_region 16 with (first
              | (go_at_call 19; refine HNu.out.mono ?_; rintro e W6 ⟨rfl, e6⟩; subst W6)
              | ((with_reducible refine wl_put1 3 (.tmp 73) (.tmp 72) ?_ ?_ kS 0 ?_ ?_ [] ((subC a.x).drop 1) (nu a.x.number) (nu ((q : Int) + 1)) ?_ 25 R5.out ?_ ?_ ?_ ?_); exact rfl; exact rfl; exact rfl; exact rfl; exact rfl; exact rfl; exact rfl; kernel_rfl; intro W6 r6 b6; have R6 := hid (sub_new r6); have H6 := hid (H5.out.but b6 N5.out G5.out); have X6 : Hid (NxAt W6 g nx) := hid ((b6.block g (by have := L5.out; omega)).trans X5.out); clear r6 b6))
            have wf6 : Hid ((⟨(q : Int) + 1, a.x.kind, a.x.target, a.x.value, a.x.asked, a.x.data⟩ : Sub).Wf) := ⟨HK.out.wf.asked, HK.out.wf.data⟩
            obtain ⟨x', hx'⟩ : ∃ x' : Sub, x' = ⟨(q : Int) + 1, a.x.kind, a.x.target, a.x.value, a.x.asked, a.x.data⟩ := ⟨_, rfl⟩
            have R6' : Hid (W6.heap[kS]? = some (.cells (subC x').toArray 25)) := by rw [hx']; exact R6.out
            rw [← hx'] at wf6
            have rg6 : (subM (c : Int) x').Rng := sub_rng ⟨by omega, by omega⟩ (by rw [hx']; exact ⟨by show (-9223372036854775808 : Int) ≤ (q : Int) + 1; omega, by show (q : Int) + 1 ≤ 9223372036854775807; omega⟩) (by rw [hx']; exact HK.out.xk) (by rw [hx']; exact HK.out.xt)
            have hnum : x'.number = (R.reg (c : Int)).asked.number + 1 := by rw [hx', HQA.out]
            have HSub := hid (submit_s H6.out wf6.out rg6 HT.out)
            have ZX6 := hid (szS wf6.out)
            have Y6 := hid (subY_wf HH.out.inv (c : Int) x')
            have HNm := hid hnum
            clear rg6 hnum R6 hx' R5 H5 X5 HNu
            by_cases h0 : subE R (c : Int) x' = 0
            · obtain ⟨hs1, hs2, hs3⟩ := hon_submit HH.out c (by rw [HRn.out]; exact hck) HNC.out.symm x' wf6.out HNm.out h0
              rw [h0, hs1, hs2] at HSub
              rw [hs2] at Y6
              have H3 := hid hs3
              clear hs1 hs2 hs3 h0
              go_upto_region 18 with (first
                | ((with_reducible refine wl_load 25 (.tmp 13) ?_ kS 0 ?_ ?_ (subC x') _ (row_zero R6'.out) Tryz.underlying25 ?_ ZX6.out ?_); exact rfl; exact rfl; exact rfl; exact rfl)
                | (go_at_call 20; refine HSub.out.mono ?_; rintro e W7 ⟨v7, F7, rfl, h7, o7, -, -, q7⟩; have H7 := hid h7; have O7 := hid o7; have K7 := hid (q7 _ _ X6.out HF.out); clear h7 o7 q7)
                | ((with_reducible refine wl_alloc 28 ?_ ?_ (repC zeroR (.slice none 0 0)).toArray zeroRep ?_); exact rfl; exact rfl)
                | ((with_reducible refine wl_store_top 28 (.tmp 14) (.tmp 79) ?_ ?_ ?_ ?_ (repC (ansR R x') v7) (repC zeroR (.slice none 0 0)) ?_ 28 (lnR Y6.out _) (one_rep _ _ O7.out.one) (szR Y6.out _) ?_); exact rfl; exact rfl; exact rfl; exact rfl; exact rfl))
              have B8 := hid (below_a1 W7 (.cells (repC (ansR R x') v7).toArray 28))
              have R8 := hid (top_obj W7 (.cells (repC (ansR R x') v7).toArray 28))
              have H8 := hid (H7.out.kept B8.out)
              have X8 : Hid (NxAt _ g nx) := hid (row_kept K7.out.1 B8.out)
              have HAf := hid (rafter_any Y6.out ((O7.out.kept B8.out).pens Y6.out.pend) (ans_cl HH.out.inv x') (by rw [ansR_view]; have := HH.out.inv.long; omega) (by rw [ansR_pend, provenL_len]; have := HH.out.inv.plen; omega) c (by omega))
              have ZY8 := hid (szR Y6.out v7)
              generalize W7.alloc (.cells (repC (ansR R x') v7).toArray 28) = W8 at *
              generalize W7.heap.size = kY at *
              have hln : c < nx.length := by omega
              clear H7 O7 B8 HSub H6 X6 R6'
              go_wp2_with ((with_reducible refine wl_load 28 (.tmp 14) ?_ kY 0 ?_ ?_ (repC (ansR R x') v7) _ (row_zero R8.out) Tryz.underlying28 ?_ ZY8.out ?_); exact rfl; exact rfl; exact rfl; exact rfl)
              refine HAf.out.mono ?_
              rintro e W9 ⟨rfl, b9⟩
              have H9 := hid (H8.out.kept b9)
              have X9 := hid (nx_open (row_kept X8.out b9) hln)
              clear b9
              go_wp2_with ((with_reducible refine wl_put1 9 (.tmp 88) (.tmp 87) ?_ ?_ g c ?_ ?_ ((nx.take c).map st) ((nx.drop (c + 1)).map st) (st (nx.getD c [])) (st (afterR (ansR R x') (c : Int))) ?_ 9 X9.out ?_ ?_ ?_ ?_); exact rfl; exact rfl; exact rfl; exact rfl; exact rfl; exact (by rw [List.length_map, List.length_take]; omega); exact rfl; kernel_rfl; intro W10 r10 b10; have X10 := hid (nx_shut r10 hln); have H10 := hid (H9.out.but b10 K7.out.2 G3.out); clear r10 b10)
              go_meet
              case rel => exact ⟨subN R (c : Int) x', nx.set c (afterR (ansR R x') (c : Int)), F7, H3, HRn, goesB_of ⟨[by8 (c : Int)], by rw [order_subN, HO.out]⟩, H10, X10, K7.out.2⟩
            · have hsR : subR R (c : Int) x' = R := by unfold subR; rw [if_pos h0]
              rw [hsR] at HSub
              have e6 : (subE R (c : Int) x' == 0) = false := by simpa using h0
              generalize subE R (c : Int) x' = ee at *
              go_wp2_with (first
                | ((with_reducible refine wl_load 25 (.tmp 13) ?_ kS 0 ?_ ?_ (subC x') _ (row_zero R6'.out) Tryz.underlying25 ?_ ZX6.out ?_); exact rfl; exact rfl; exact rfl; exact rfl)
                | (go_at_call 20; refine HSub.out.mono ?_; rintro e W7 ⟨v7, F7, rfl, h7, o7, -, -, q7⟩; have H7 := hid h7; have O7 := hid o7; have K7 := hid (q7 _ _ X6.out HF.out); clear h7 o7 q7)
                | ((with_reducible refine wl_alloc 28 ?_ ?_ (repC zeroR (.slice none 0 0)).toArray zeroRep ?_); exact rfl; exact rfl)
                | ((with_reducible refine wl_store_top 28 (.tmp 14) (.tmp 79) ?_ ?_ ?_ ?_ (repC (subY R (c : Int) x') v7) (repC zeroR (.slice none 0 0)) ?_ 28 (lnR Y6.out _) (one_rep _ _ O7.out.one) (szR Y6.out _) ?_); exact rfl; exact rfl; exact rfl; exact rfl; exact rfl))
              go_meet
              case rel => exact ⟨R, nx, F7, HH, HRn, goesB_of ⟨[], by rw [HO.out, List.append_nil]⟩, H7.out.kept (below_a1 _ _), row_kept K7.out.1 (below_a1 _ _), K7.out.2⟩
          · obtain ⟨n0, NT, rfl⟩ : ∃ n0 NT, NC = n0 :: NT := by
              cases NC with
              | nil => exact absurd rfl hne
              | cons n0 NT => exact ⟨n0, NT, rfl⟩
            by_cases hk2 : (2 : Int) < a.kind
            · have e5 : decide ((2 : Int) < a.kind) = true := decide_eq_true hk2
              go_upto_region 20 with fail
              have DB : Hid (Below W4.heap.size W4 (World.drew W4)) := ⟨rfl, rfl, rfl, Nat.le_refl _, fun _ _ => rfl⟩
              have hln : c < nx.length := by omega
              have H5 := hid (H4.out.kept DB.out)
              have X5 : Hid (NxAt (World.drew W4) g nx) := row_kept X4.out DB.out
              have C5 := hid (fun j u hj => cell_kp (C4t.out j u hj) DB.out)
              have c5 := X5.out.cell hln
              rw [← HNC.out] at c5
              obtain ⟨hc0, hc1, hc2⟩ := hon_commit HH.out c (by rw [HRn.out]; exact hck) (by rw [← HNC.out]; exact hne) a.tag HK.out.t
              rw [← HNC.out] at hc0 hc1 hc2
              have HCo := hid (commit_s H5.out (c := (c : Int)) ⟨by omega, by omega⟩ (v := n0 :: NT) HK.out.t HT.out)
              rw [hc0] at HCo
              have HC1 := hid hc1
              have HC2 := hid hc2
              have hRn' : (comR R (c : Int) (n0 :: NT) a.tag).n = R.n := by
                unfold comR
                split
                · rfl
                · split <;> rfl
              have HRn'' : Hid ((comR R (c : Int) (n0 :: NT) a.tag).n = k) := hRn'.trans HRn.out
              have ZT : (Tryz.prog.info? 23).map (·.size) = some (dg a.tag).length := by rw [dg_len, HK.out.t]; exact sizeDig
              have HOg : Hid (Hist.goesB (orderR (comR R (c : Int) (n0 :: NT) a.tag)) O = true) := goesB_of ⟨[], by rw [HC1.out, HO.out, List.append_nil]⟩
              clear hc0 hc1 hc2 hRn' H4 X4 cN C4t C4x
              refine wp_region_still_tail 8 (by kernel_rfl) (by kernel_rfl) ?_
              simp only [List.take_succ_cons, List.take_zero, List.drop_succ_cons, List.drop_zero]
              change wpStill _ _ (World.drew W4) (fun a' => wpList _ _ _ _ a' (World.drew W4)) _ _
              generalize World.drew W4 = wd at *
              iterate 7 still_step
              refine ws_load 23 (.tmp 98) rfl kA 71 rfl rfl (dg a.tag) _ C5.out Tryz.underlying23 rfl ZT ?_
              simp only [Act.put, List.setIfInBounds_toArray, List.set_cons_zero, List.set_cons_succ]
              refine wpStill_nil ?_
              go_wp2_with fail
              refine HCo.out.mono ?_
              rintro e W6 ⟨F6, rfl, h6, -, q6⟩
              have H6 := hid h6
              have K6 := hid (q6 _ _ X5.out HF.out)
              have X6 := hid (nx_open K6.out.1 hln)
              clear h6 q6 HCo H5 X5 C5 c5
              go_wp2_with ((with_reducible refine wl_put1 9 (.tmp 104) (.const (st [])) ?_ ?_ g c ?_ ?_ ((nx.take c).map st) ((nx.drop (c + 1)).map st) (st (nx.getD c [])) (st []) ?_ 9 X6.out ?_ ?_ ?_ ?_); exact rfl; exact rfl; exact rfl; exact rfl; exact rfl; exact (by rw [List.length_map, List.length_take]; omega); exact rfl; kernel_rfl; intro W7 r7 b7; have X7 := hid (nx_shut r7 hln); have H7 := hid (H6.out.but b7 K6.out.2 G3.out); clear r7 b7)
              go_meet
              case rel => exact ⟨comR R (c : Int) (n0 :: NT) a.tag, nx.set c [], F6, HC2, HRn'', HOg, H7, X7, K6.out.2⟩
            · have e5 : decide ((2 : Int) < a.kind) = false := decide_eq_false hk2
              go_wp2
              go_meet
              case rel => exact ⟨R, nx, F, HH, HRn, goesB_of ⟨[], by rw [HO.out, List.append_nil]⟩, H4, X4, HF⟩
        case rest =>
          obtain ⟨R', nx', F', HH', HRn', HG', HS', HX', HF'⟩ := hcut
          have HOr := hid (order_x HS'.out.rx)
          clear HH HRn HO H4 X4 HF HNC cN C4x C4t c40 c41 SC ZC HK HAk ZX M4 HF4 Hlen HOne
          go_upto_region 24 with (go_at_call 23; refine HOr.out.mono ?_; rintro e W8 ⟨rfl, b8⟩; have H8 := hid (HS'.out.kept b8); have X8 : Hid (NxAt W8 g nx') := hid (row_kept HX'.out b8); clear b8)
          have hol : (orderR R').length ≤ 512 := HH'.out.olen
          have HGo := hid (Hist.rgoes_any (orderR R') O (by omega) W8)
          rw [HG'.out] at HGo
          go_upto_region 28 with (go_at_call 24; refine HGo.out.mono ?_; rintro e W9 ⟨rfl, b9⟩; have H9 := hid (H8.out.kept b9); have X9 : Hid (NxAt W9 g nx') := hid (row_kept X8.out b9); clear b9)
          clear H8 X8 HOr HGo HS' HX'
          go_loopw [17] (fun i wq => ∃ jj : Nat, jj ≤ k ∧ i = nu jj ∧ Hid (Sx w wq p F' R') ∧ Hid (NxAt wq g nx')) (fun i _ => k - (intOf i).toNat)
          case atStart => exact ⟨0, by omega, rfl, H9, X9⟩
          case round =>
            clear H9 X9
            obtain ⟨jj, hjj, rfl, HS, HX⟩ := hrel
            by_cases hlt : jj < k
            · have f1 : decide ((jj : Int) < (k : Int)) = true := decide_eq_true (by omega)
              have f1' : decide (jj < k) = true := decide_eq_true hlt
              have hjR : jj < R'.n := by rw [HRn'.out]; exact hlt
              have hlx : nx'.length = k := HH'.out.len.trans HRn'.out
              have g1 : Hist.goesB (orderR R') (viewR R' (jj : Int)) = true := by
                refine goesB_of ?_
                unfold viewR
                rw [if_pos ((hasB_iff _ _).2 ⟨by omega, by omega⟩)]
                exact HH'.out.views jj hjR
              have g2 : Hist.goesB (orderR R') (nx'.getD jj []) = true := goesB_of (HH'.out.goes jj hjR)
              have g3 : numR R' (jj : Int) = (Hist.cnt (orderR R') (jj : Int) : Int) := by
                unfold numR
                rw [if_pos ((hasB_iff _ _).2 ⟨by omega, by omega⟩)]
                exact (HH'.out.cnts jj hjR).symm
              have P1 := hid (fun W (h : Sx w W p F' R') => view_x h.rx (jj : Int))
              have P2 := hid (fun W => Hist.rgoes_any (orderR R') (viewR R' (jj : Int)) (by omega) W)
              have P3 := hid (fun W => Hist.rgoes_any (orderR R') (nx'.getD jj []) (by omega) W)
              have P4 := hid (fun W => Hist.rcount_any (orderR R') (by omega) (jj : Int) W)
              have P5 := hid (fun W (h : Sx w W p F' R') => number_x h.rx (jj : Int))
              rw [g1] at P2
              rw [g2] at P3
              rw [g3] at P5
              have hjx : jj < nx'.length := by omega
              obtain ⟨NJ, hNJ⟩ : ∃ NJ, NJ = nx'.getD jj [] := ⟨_, rfl⟩
              rw [← hNJ] at P3
              have XC := hid (fun W (h : NxAt W g nx') => (by have e := h.cell hjx; rw [← hNJ] at e; exact e : W.cell? ⟨g, jj, none⟩ = some (st NJ)))
              clear g1 g2 g3 hNJ
              generalize Hist.cnt (orderR R') (jj : Int) = qq at *
              generalize viewR R' (jj : Int) = VV at *
              by_cases hne : NJ = []
              · subst hne
                clear P3
                go_upto_region 30 with fail
                go_wp2_with fail
                refine (P1.out _ HS.out).mono ?_
                rintro e V1 ⟨rfl, e1⟩
                subst V1
                go_wp2_with fail
                refine (P2.out _).mono ?_
                rintro e V2 ⟨rfl, b2⟩
                have S2 := hid (HS.out.kept b2)
                have X2 : Hid (NxAt V2 g nx') := hid (row_kept HX.out b2)
                have cX := XC.out V2 X2.out
                clear b2
                go_wp2_with fail
                refine (P4.out _).mono ?_
                rintro e V1 ⟨rfl, e1⟩
                subst V1
                go_wp2_with fail
                refine (P5.out _ S2.out).mono ?_
                rintro e V1 ⟨rfl, e1⟩
                subst V1
                go_wp2
                exact ⟨⟨jj + 1, by omega, by go_num, S2, X2⟩, by simp [intOf]; omega⟩
              · obtain ⟨n0, NT, rfl⟩ : ∃ n0 NT, NJ = n0 :: NT := by
                  cases NJ with
                  | nil => exact absurd rfl hne
                  | cons n0 NT => exact ⟨n0, NT, rfl⟩
                go_upto_region 30 with fail
                go_wp2_with fail
                refine (P1.out _ HS.out).mono ?_
                rintro e V1 ⟨rfl, e1⟩
                subst V1
                go_wp2_with fail
                refine (P2.out _).mono ?_
                rintro e V2 ⟨rfl, b2⟩
                have S2 := hid (HS.out.kept b2)
                have X2 : Hid (NxAt V2 g nx') := hid (row_kept HX.out b2)
                have cX := XC.out V2 X2.out
                clear b2
                go_wp2_with fail
                refine (P3.out _).mono ?_
                rintro e V3 ⟨rfl, b3⟩
                have S3 := hid (S2.out.kept b3)
                have X3 : Hid (NxAt V3 g nx') := hid (row_kept X2.out b3)
                clear b3
                go_wp2_with fail
                refine (P4.out _).mono ?_
                rintro e V1 ⟨rfl, e1⟩
                subst V1
                go_wp2_with fail
                refine (P5.out _ S3.out).mono ?_
                rintro e V1 ⟨rfl, e1⟩
                subst V1
                go_wp2
                exact ⟨⟨jj + 1, by omega, by go_num, S3, X3⟩, by simp [intOf]; omega⟩
            · have e : jj = k := by omega
              subst e
              go_wp2
              exact ⟨⟨j + 1, R', nx', F', orderR R', by omega, by omega, by go_num, rfl, HH', HRn', rfl, HS, HX, HF'⟩, by simp [intOf]; omega⟩
      · have hb : decide (a.client < 0) = true ∨ (decide (a.client < 0) = false ∧ decide ((k : Int) ≤ a.client) = true) := by
          by_cases h0 : a.client < 0
          · exact Or.inl (decide_eq_true h0)
          · exact Or.inr ⟨decide_eq_false h0, decide_eq_true (by omega)⟩
        rcases hb with e1 | ⟨e1, e2⟩
        · clear hcl
          go_wp2
          exact ⟨⟨j + 1, R, nx, F, O, by omega, by omega, by go_num, rfl, HH, HRn, HO, H4, X4, HF⟩, by simp [intOf]; omega⟩
        · clear hcl
          go_wp2
          exact ⟨⟨j + 1, R, nx, F, O, by omega, by omega, by go_num, rfl, HH, HRn, HO, H4, X4, HF⟩, by simp [intOf]; omega⟩
    · go_wp2
      all_goals (go_ret; exact ⟨rfl, HS.out.bl⟩)
end Go.Proofs.YtidlgecognedlaaGreatDoor.Ms

/-
  Submits and calls of the law that came in, opened for a walk.
-/
namespace Go.Proofs.YtidlgecognedlaaGreatDoor.Ms
open Go Go.ChangeShapes Go.WideShapes Go.ChangeAt Go.WideMaps Go.WideElems Go.RowKit
set_option maxRecDepth 100000

structure SubRng (x : Sub) : Prop where
  n : I64 x.number
  k : I64 x.kind
  t : I64 x.target
theorem laidOut : laidOutB Tryz.prog = true := by kernel_rfl
theorem cells_dig : Tryz.prog.cellsOf 23 = 32 := by kernel_rfl
theorem cells_byt : Tryz.prog.cellsOf 5 = 1 := by kernel_rfl
theorem cells_int : Tryz.prog.cellsOf 3 = 1 := by kernel_rfl
theorem cells_str : Tryz.prog.cellsOf 9 = 1 := by kernel_rfl
theorem cells_sub : Tryz.prog.cellsOf 25 = 68 := by kernel_rfl
theorem cells_ract : Tryz.prog.cellsOf 48 = 103 := by kernel_rfl
theorem bytes_list : ∀ (cs : List Value), (∀ i, i < cs.length → ∃ n : Int, cs[i]? = some (.int .u8 n) ∧ 0 ≤ n ∧ n ≤ 255) → ∃ l : List UInt8, l.length = cs.length ∧ cs = dg l
  | [], _ => ⟨[], rfl, rfl⟩
  | c :: cs, h => by
    obtain ⟨n, hn, h0, h1⟩ := h 0 (by simp)
    obtain ⟨l, hl, hcs⟩ := bytes_list cs (fun i hi => by
      obtain ⟨m, hm, h2⟩ := h (i + 1) (by simpa using hi)
      exact ⟨m, by simpa using hm, h2⟩)
    refine ⟨UInt8.ofNat n.toNat :: l, by simp [hl], ?_⟩
    have hc : c = .int .u8 n := by simpa using hn
    have e : dg (UInt8.ofNat n.toNat :: l) = cb (UInt8.ofNat n.toNat) :: dg l := rfl
    rw [e, ← hcs, hc]
    congr 1
    unfold cb bv
    congr 1
    rw [UInt8.toNat_ofNat']
    omega
theorem stp (cs : List Value) (a b c : Nat) (h : a + b = c) : cs.drop a = (cs.drop a).take b ++ cs.drop c := by subst h; rw [← List.drop_drop]; exact (List.take_append_drop b _).symm
theorem at_some {α : Type} {xs : List α} {n : Nat} (i : Nat) (h : xs.length = n) (hi : i < n) : ∃ y, xs[i]? = some y := ⟨xs[i], List.getElem?_eq_getElem (by omega)⟩
section
variable {H : Type} {enc : TypeId × Value → H} {W : World} {held : Bool} {fuel : Nat} {cs : List Value} {x : DataW H × List MemPlace}
theorem int_c (h : DataW.trod enc Tryz.prog W 0 (fun _ => true) held fuel 3 cs = some x) : ∃ n, cs = [nu n] ∧ I64 n := by
  obtain ⟨n, e, -, hw⟩ := DataW.trod_int Tryz.underlying3 h
  exact ⟨n, e, bounds_i64 hw⟩
theorem str_c (h : DataW.trod enc Tryz.prog W 0 (fun _ => true) held fuel 9 cs = some x) : ∃ s : List UInt8, cs = [st s] := by
  obtain ⟨A, e, -, -⟩ := DataW.trod_string Tryz.underlying9 h
  exact ⟨A.data.toList, by rw [e]⟩
theorem dig_c (h : DataW.trod enc Tryz.prog W 0 (fun _ => true) held fuel 23 cs = some x) : ∃ l : List UInt8, cs = dg l ∧ l.length = 32 := by
  obtain ⟨xs, m, _, hx, hlen, hxl, hat⟩ := DataW.trod_array Tryz.underlying23 h
  rw [cells_dig] at hlen
  rw [cells_byt] at hat
  obtain ⟨l, hl, hcs⟩ := bytes_list cs (fun i hi => by
    have h1 := hat i (by omega)
    cases hq : xs[i]? with
    | none => rw [List.getElem?_eq_none_iff] at hq; omega
    | some x =>
      rw [hq] at h1
      obtain ⟨n, hn, -, hw⟩ := DataW.trod_int Tryz.underlying5 h1
      have h2 : cs[i]? = some (.int .u8 n) := by
        have := congrArg (·[0]?) hn
        simpa [List.getElem?_take, List.getElem?_drop] using this
      exact ⟨n, h2, bounds_u8 hw⟩)
  exact ⟨l, hcs, by omega⟩
theorem sub_c (h : DataW.trod enc Tryz.prog W 0 (fun _ => true) held fuel 25 cs = some x) : ∃ y : Sub, cs = subC y ∧ y.Wf ∧ SubRng y := by
  obtain ⟨xs, n, _, _, hl, hlen, hfs⟩ := DataW.trod_struct Tryz.underlying25 h
  rw [cells_sub] at hl
  have hxl : xs.length = 6 := hlen
  have g0 : DataW.trod enc Tryz.prog W 0 (fun _ => true) held n 3 ((cs.drop 0).take (Tryz.prog.cellsOf 3)) = xs[0]? := hfs 0 _ rfl
  rw [cells_int] at g0
  obtain ⟨y0, hy0⟩ := at_some 0 hxl (by decide)
  rw [hy0] at g0
  obtain ⟨a0, e0, b0⟩ := int_c g0
  have g1 : DataW.trod enc Tryz.prog W 0 (fun _ => true) held n 3 ((cs.drop 1).take (Tryz.prog.cellsOf 3)) = xs[1]? := hfs 1 _ rfl
  rw [cells_int] at g1
  obtain ⟨y1, hy1⟩ := at_some 1 hxl (by decide)
  rw [hy1] at g1
  obtain ⟨a1, e1, b1⟩ := int_c g1
  have g2 : DataW.trod enc Tryz.prog W 0 (fun _ => true) held n 3 ((cs.drop 2).take (Tryz.prog.cellsOf 3)) = xs[2]? := hfs 2 _ rfl
  rw [cells_int] at g2
  obtain ⟨y2, hy2⟩ := at_some 2 hxl (by decide)
  rw [hy2] at g2
  obtain ⟨a2, e2, b2⟩ := int_c g2
  have g3 : DataW.trod enc Tryz.prog W 0 (fun _ => true) held n 9 ((cs.drop 3).take (Tryz.prog.cellsOf 9)) = xs[3]? := hfs 3 _ rfl
  rw [cells_str] at g3
  obtain ⟨y3, hy3⟩ := at_some 3 hxl (by decide)
  rw [hy3] at g3
  obtain ⟨a3, e3⟩ := str_c g3
  have g4 : DataW.trod enc Tryz.prog W 0 (fun _ => true) held n 23 ((cs.drop 4).take (Tryz.prog.cellsOf 23)) = xs[4]? := hfs 4 _ rfl
  rw [cells_dig] at g4
  obtain ⟨y4, hy4⟩ := at_some 4 hxl (by decide)
  rw [hy4] at g4
  obtain ⟨a4, e4, b4⟩ := dig_c g4
  have g5 : DataW.trod enc Tryz.prog W 0 (fun _ => true) held n 23 ((cs.drop 36).take (Tryz.prog.cellsOf 23)) = xs[5]? := hfs 5 _ rfl
  rw [cells_dig] at g5
  obtain ⟨y5, hy5⟩ := at_some 5 hxl (by decide)
  rw [hy5] at g5
  obtain ⟨a5, e5, b5⟩ := dig_c g5
  have hcs : cs = [nu a0] ++ ([nu a1] ++ ([nu a2] ++ ([st a3] ++ (dg a4 ++ (dg a5 ++ []))))) := (stp cs 0 1 1 rfl).trans (congr (congrArg HAppend.hAppend e0) ((stp cs 1 1 2 rfl).trans (congr (congrArg HAppend.hAppend e1) ((stp cs 2 1 3 rfl).trans (congr (congrArg HAppend.hAppend e2) ((stp cs 3 1 4 rfl).trans (congr (congrArg HAppend.hAppend e3) ((stp cs 4 32 36 rfl).trans (congr (congrArg HAppend.hAppend e4) ((stp cs 36 32 68 rfl).trans (congr (congrArg HAppend.hAppend e5) (List.drop_eq_nil_of_le (by omega)))))))))))))
  refine ⟨⟨a0, a1, a2, a3, a4, a5⟩, ?_, ⟨b4, b5⟩, ⟨b0, b1, b2⟩⟩
  rw [hcs]; simp [subC]
theorem ract_c (h : DataW.trod enc Tryz.prog W 0 (fun _ => true) held fuel 48 cs = some x) : ∃ (k c : Int) (y : Sub) (s t : List UInt8), cs = ractC k c y s t ∧ I64 k ∧ I64 c ∧ y.Wf ∧ SubRng y ∧ t.length = 32 := by
  obtain ⟨xs, n, _, _, hl, hlen, hfs⟩ := DataW.trod_struct Tryz.underlying48 h
  rw [cells_ract] at hl
  have hxl : xs.length = 5 := hlen
  have g0 : DataW.trod enc Tryz.prog W 0 (fun _ => true) held n 3 ((cs.drop 0).take (Tryz.prog.cellsOf 3)) = xs[0]? := hfs 0 _ rfl
  rw [cells_int] at g0
  obtain ⟨y0, hy0⟩ := at_some 0 hxl (by decide)
  rw [hy0] at g0
  obtain ⟨a0, e0, b0⟩ := int_c g0
  have g1 : DataW.trod enc Tryz.prog W 0 (fun _ => true) held n 3 ((cs.drop 1).take (Tryz.prog.cellsOf 3)) = xs[1]? := hfs 1 _ rfl
  rw [cells_int] at g1
  obtain ⟨y1, hy1⟩ := at_some 1 hxl (by decide)
  rw [hy1] at g1
  obtain ⟨a1, e1, b1⟩ := int_c g1
  have g2 : DataW.trod enc Tryz.prog W 0 (fun _ => true) held n 25 ((cs.drop 2).take (Tryz.prog.cellsOf 25)) = xs[2]? := hfs 2 _ rfl
  rw [cells_sub] at g2
  obtain ⟨y2, hy2⟩ := at_some 2 hxl (by decide)
  rw [hy2] at g2
  obtain ⟨a2, e2, b2, r2⟩ := sub_c g2
  have g3 : DataW.trod enc Tryz.prog W 0 (fun _ => true) held n 9 ((cs.drop 70).take (Tryz.prog.cellsOf 9)) = xs[3]? := hfs 3 _ rfl
  rw [cells_str] at g3
  obtain ⟨y3, hy3⟩ := at_some 3 hxl (by decide)
  rw [hy3] at g3
  obtain ⟨a3, e3⟩ := str_c g3
  have g4 : DataW.trod enc Tryz.prog W 0 (fun _ => true) held n 23 ((cs.drop 71).take (Tryz.prog.cellsOf 23)) = xs[4]? := hfs 4 _ rfl
  rw [cells_dig] at g4
  obtain ⟨y4, hy4⟩ := at_some 4 hxl (by decide)
  rw [hy4] at g4
  obtain ⟨a4, e4, b4⟩ := dig_c g4
  have hcs : cs = [nu a0] ++ ([nu a1] ++ (subC a2 ++ ([st a3] ++ (dg a4 ++ [])))) := (stp cs 0 1 1 rfl).trans (congr (congrArg HAppend.hAppend e0) ((stp cs 1 1 2 rfl).trans (congr (congrArg HAppend.hAppend e1) ((stp cs 2 68 70 rfl).trans (congr (congrArg HAppend.hAppend e2) ((stp cs 70 1 71 rfl).trans (congr (congrArg HAppend.hAppend e3) ((stp cs 71 32 103 rfl).trans (congr (congrArg HAppend.hAppend e4) (List.drop_eq_nil_of_le (by omega)))))))))))
  refine ⟨a0, a1, a2, a3, a4, ?_, b0, b1, b2, r2, b4⟩
  rw [hcs]; simp [ractC]
end
section
variable {H : Type} {enc : TypeId × Value → H} {W : World} {v : Value} {d : DataW H} {p : List MemPlace}
theorem agg_of {v : Value} {l : List Value} (h : v.cells.toList = l) (hl : 1 < l.length) : v = .agg l.toArray := by
  cases v with
  | agg cs => simp only [Value.cells] at h; rw [← h, Array.toArray_toList]
  | _ => simp [Value.cells] at h; subst h; simp at hl
theorem open_ract (h : DataW.Trod enc Tryz.prog W 0 (fun _ => true) true 48 v d p) : ∃ (k c : Int) (y : Sub) (s t : List UInt8), v = .agg (ractC k c y s t).toArray ∧ I64 k ∧ I64 c ∧ y.Wf ∧ SubRng y ∧ t.length = 32 := by
  obtain ⟨fuel, hf⟩ := h
  obtain ⟨k, c, y, s, t, hc, h1, h2, h3, h4, h5⟩ := ract_c hf
  exact ⟨k, c, y, s, t, agg_of hc (by rw [ractC_len h3 h5]; decide), h1, h2, h3, h4, h5⟩
end
end Go.Proofs.YtidlgecognedlaaGreatDoor.Ms

/-
  Lists of calls that came in (law12.Act), opened for a walk.
-/
namespace Go.Proofs.YtidlgecognedlaaGreatDoor.Ms
open Go Go.ChangeShapes Go.WideShapes Go.ChangeAt Go.WideMaps Go.WideElems Go.RowKit
set_option maxRecDepth 100000

theorem racts_build {W : World} (b off : Nat) : ∀ (n : Nat), (∀ j, j < n → ∃ y : Rac, y.Ok ∧ ∀ c u, (racC y)[c]? = some u → W.cell? ⟨b, off + j * 103 + c, none⟩ = some u) → ∃ acs : List Rac, acs.length = n ∧ ∀ j, j < n → (acs.getD j noRac).Ok ∧ ∀ c u, (racC (acs.getD j noRac))[c]? = some u → W.cell? ⟨b, off + j * 103 + c, none⟩ = some u
  | 0, _ => ⟨[], rfl, fun j hj => absurd hj (Nat.not_lt_zero j)⟩
  | n + 1, h => by
    obtain ⟨acs, hl, ha⟩ := racts_build b off n (fun j hj => h j (by omega))
    obtain ⟨y, h1, h2⟩ := h n (by omega)
    refine ⟨acs ++ [y], by simp [hl], fun j hj => ?_⟩
    by_cases e : j = n
    · subst e
      have : (acs ++ [y]).getD j noRac = y := by simp [List.getD, ← hl]
      rw [this]
      exact ⟨h1, h2⟩
    · have hlt : j < acs.length := by omega
      have : (acs ++ [y]).getD j noRac = acs.getD j noRac := by simp [List.getD, List.getElem?_append_left hlt]
      rw [this]
      exact ha j (by omega)
theorem open_racts {H : Type} {enc : TypeId × Value → H} {W : World} {base : Nat} {v : Value} {d : DataW H} {p : List MemPlace} (hv : Value.okWide Tryz.prog W .any base 40 v)
    (h : DataW.Trod enc Tryz.prog W 0 (fun _ => true) true 40 v d p) : ∃ a acs cap, v = .slice a acs.length cap ∧ RactsAt W a acs := by
  obtain ⟨a, len, cap, rfl⟩ := okWide_slice Tryz.underlying40 hv
  obtain ⟨fuel, hf⟩ := h
  rcases Go.Deep.open_slice Tryz.underlying40 hf with ⟨hcs, hx⟩ | ⟨a', len', cap', m, n, Df, Pf, hcs, hb, hl, hm, hmm, hx, hat⟩
  · simp [Value.cells] at hcs
    obtain ⟨rfl, rfl, rfl⟩ := hcs
    exact ⟨none, [], 0, rfl, fun j hj => absurd hj (Nat.not_lt_zero j)⟩
  · simp [Value.cells] at hcs
    obtain ⟨rfl, rfl, rfl⟩ := hcs
    simp only [if_true] at hmm
    subst hmm
    obtain ⟨b, off, spot⟩ := a'
    by_cases hz : len = 0
    · subst hz
      exact ⟨_, [], _, rfl, fun j hj => absurd hj (Nat.not_lt_zero j)⟩
    have hspot : spot = none := by
      obtain ⟨cs0, hcs0, ht0⟩ := hat 0 (by omega)
      rw [cells_ract] at hcs0
      obtain ⟨k0, c0, y0, s0, t0, rfl, -⟩ := ract_c ht0
      have h0 := (World.cells?_some hcs0).2.2 0 (by omega)
      have h1 : (ractC k0 c0 y0 s0 t0)[0]? = some (nu k0) := rfl
      rw [h1] at h0
      simpa [Addr.add] using World.cell?_spot h0
    subst hspot
    obtain ⟨acs, hal, hac⟩ := racts_build (W := W) b off len (fun j hj => by
      obtain ⟨cs, hcs, ht⟩ := hat j (by omega)
      rw [cells_ract] at hcs
      obtain ⟨k, c, y, s, t, rfl, h1, h2, h3, h4, h5⟩ := ract_c ht
      have hcell := (World.cells?_some hcs).2.2
      refine ⟨⟨k, c, y, s, t⟩, ⟨h2, h1, h4.k, h4.t, h3, h5⟩, fun i u hi => ?_⟩
      have hi' : i < 103 := by
        have := (List.getElem?_eq_some_iff.1 hi).1
        rw [racC, ractC_len h3 h5] at this
        exact this
      have h0 := hcell i hi'
      have hi2 : (ractC k c y s t)[i]? = some u := hi
      rw [hi2, Go.WideShapes.add_plain, Go.WideShapes.add_plain] at h0
      exact h0)
    subst hal
    exact ⟨_, acs, _, rfl, fun j hj => ⟨b, off, rfl, (hac j hj).1, (hac j hj).2⟩⟩
end Go.Proofs.YtidlgecognedlaaGreatDoor.Ms

/-
  What the laid variables give the walks, and a start in which they lie so.
-/
namespace Go.Proofs.YtidlgecognedlaaGreatDoor
open Go.ChangeShapes Go.WideShapes Go.ChangeAt Go.WideMaps Go.WideElems Go.RowKit

def laidAll : List (String × DataW Unit) := [("math/bits.deBruijn32tab", Rows.laid_math_bits_deBruijn32tab), ("math/bits.deBruijn64tab", Rows.laid_math_bits_deBruijn64tab), ("internal/strconv.uint64pow10", Rows.laid_internal_strconv_uint64pow10), ("strconv.ErrRange", Rows.laid_strconv_ErrRange), ("strconv.ErrSyntax", Rows.laid_strconv_ErrSyntax)]

theorem own : ownKnob Tryz.prog.godebug = none := by kernel_rfl
theorem tPow : (Tryz.prog.globals[0]?).map (·.type) = some 278 := by kernel_rfl
theorem tRange : (Tryz.prog.globals[2]?).map (·.type) = some 149 := by kernel_rfl
theorem door_met (os : Os) (args : Array Value) : laidMetH Tryz.prog laidAll ((World.doorLaid Tryz.prog 62 os).forCall (fun _ _ => 0) ⟨#[], args, []⟩).memory :=
  laidMetH_of_parts3 (fuel := 8) (laidMet_of_run' 8 (by kernel_rfl) (by kernel_rfl)) (by kernel_rfl) (by kernel_rfl)

theorem cells256 : Tryz.prog.cellsOf 256 = 1 := by kernel_rfl
theorem cells278 : Tryz.prog.cellsOf 278 = 20 := by kernel_rfl
theorem cells291 : Tryz.prog.cellsOf 291 = 1 := by kernel_rfl
theorem cells9 : Tryz.prog.cellsOf 9 = 1 := by kernel_rfl
theorem star : "*" ++ "errors.errorString" = "*errors.errorString" := by decide
theorem row289 (u : TypeId) (h : Tryz.prog.typeName? 3 u = some "*errors.errorString") : u = 289 :=
  typeName_ptr_named (nm := "errors.errorString") (by rw [star]; kernel_rfl) (by kernel_rfl) (by decide) u (by rw [star]; exact h)
theorem powData : (Rows.laid_internal_strconv_uint64pow10 : DataW Unit) = Lib.tabData .u64 Lib.pow10Tab := by kernel_rfl

theorem tabs_of_laid {W : World} (h : laidMetH Tryz.prog laidAll W) : Lay.Tabs W := by
  rw [MakeChecks.laidMetH_plain _ _ _ (by kernel_rfl)] at h
  have h2 := h.tail.tail
  rw [powData] at h2
  obtain ⟨a, s, hv, -, -, -⟩ := laid_sentinel h.tail.tail.tail Lay.gRange tRange Tryz.underlying149 row289 Tryz.underlying289 Tryz.underlying291 rfl rfl Tryz.underlying9 cells291 cells9
  exact ⟨Lib.tabIs_of_head Lay.gPow tPow Tryz.underlying278 Tryz.underlying256 cells256 cells278 h2, _, _, hv⟩

end Go.Proofs.YtidlgecognedlaaGreatDoor

/-
  RegsOrder answers true at every input. The package variables that are listed hold what the program's text lays (the card ties them).
-/
namespace Go.Proofs.YtidlgecognedlaaGreatDoor
open Go.ChangeShapes Go.WideShapes Go.ChangeAt Go.WideMaps Go.WideElems Go.RowKit
open Go.ChangeMaps (open_string shut_string)
set_option maxRecDepth 100000

theorem regsOrder_lifted (os : Os) (started : os.Started) (H : Type) (enc : TypeId × Value → H) :
    ReturnsInHanded {} Tryz.checked os 5 .any (fun w args => (Rows.regsOrderSpec.pre enc Tryz.prog Tryz.f5 [] false w args ∧ laidMetH Tryz.prog laidAll w) ∧ sizedMet enc Tryz.prog Tryz.f5 (OpenSpec.ofChange Rows.regsOrderSpec) false w args)
      (Rows.regsOrderSpec.post enc Tryz.prog Tryz.f5 false true false false) := by
  refine returnsInHanded_of_change_and (C := Tryz.checked) (X := fun w _ => laidMetH Tryz.prog laidAll w) (fun _ _ _ hh h => h.of_heap hh) own started (by kernel_rfl) Tryz.func5
    (ChangeSpec.witness_shaped (enc := enc) (C := Tryz.checked) (os := os) (X := fun w _ => laidMetH Tryz.prog laidAll w) false (World.doorLaid Tryz.prog 62 os) #[.int .u8 0, .slice none 0 0] 8 rfl (World.shaped_of_RefB (by kernel_rfl) (by kernel_rfl)) (by kernel_rfl) (by kernel_rfl) (by kernel_rfl) (door_met os _)) ?_
  intro W base args ds gs before hval0 hW _ hsz hL _
  have hval : ∀ (j : Nat) t v, Tryz.f5.params[j]? = some t → args[j]? = some v → Value.okWide Tryz.prog W .any base t v := hval0
  have hW' := hW
  obtain ⟨p, q, hA0, hV, rfl, hfz, hnd⟩ := hW
  have hA : DataW.TrodAll enc Tryz.prog W 0 (fun _ => true) true Tryz.f5.params.toList args.toList ds p := hA0
  rw [Tryz.params5] at hA hval hsz
  obtain ⟨v0, v1, d0, d1, p0, p1, rfl, rfl, rfl, h0, h1⟩ := trodAll_two hA
  obtain ⟨rfl, rfl⟩ := trodVars_none hV
  obtain ⟨n0, rfl, rfl, rfl, wn0⟩ := open_int Tryz.underlying5 (hval 0 5 v0 rfl rfl) h0
  obtain ⟨a1, acs1, cap1, rfl, hAc1⟩ := Ms.open_racts (hval 1 40 v1 rfl rfl) h1
  clear hA0 hval0
  simp only [List.append_nil] at hW'
  have hlt : ∀ x ∈ [] ++ p1, x.block < W.heap.size := fun x hx => by simpa using hW'.lt x (by simpa using hx)
  obtain ⟨nn, hnn, hnl⟩ : ∃ nn : Nat, n0 = (nn : Int) ∧ nn < 256 := by
    have := bounds_u8 wn0
    exact ⟨n0.toNat, by omega, by omega⟩
  have hcall : Calls Tryz.prog 5 #[.int .u8 n0, .slice a1 acs1.length cap1] W fun e w' => e = .returned (.bool true) ∧ Below W.heap.size W w' := (by rw [hnn]; exact Ms.order_walk W (tabs_of_laid hL) nn hnl a1 acs1 cap1 hAc1)
  refine hcall.mono fun e W' ⟨he, hnx⟩ => ?_
  subst he
  refine ⟨_, rfl, _, _, _, [], [] ++ p1, [], hW', ?_, ?_, rfl, hnx.frame _, fun h => by cases h⟩
  · exact trodAll_mk1 (shut_bool Tryz.underlying4 _)
  · exact trodAll_mk2 (shut_int Tryz.underlying5 wn0) (Below.trod Ms.laidOut (by kernel_rfl) (of_decide_eq_true (by kernel_rfl)) h1 hnx (fun x hx => hlt x (by simp [hx])))

theorem regsOrder_holds : Rows.RegsOrderSaid :=
  OpenClaim.holds_of_wide 5 Tryz.f5 rfl rfl rfl rfl rfl rfl rfl ⟨rfl, rfl, rfl, rfl, rfl⟩ rfl rfl rfl rfl rfl (by kernel_rfl) Tryz.func5 (by kernel_rfl)
    (of_decide_eq_true (by kernel_rfl)) (by unfold Func.isWrapper; rw [if_neg (of_decide_eq_false (by kernel_rfl))]; exact ⟨rfl, rfl⟩)
    (fun os started H enc _ => regsOrder_lifted os started H enc)

theorem regsOrder_card : Rows.RegsOrderCardSaid :=
  Claim7.holds_tied_plain_at .later [] [.data, .data, .data, .sentinel, .sentinel] true (true, "13b6fa1e03616571691fe375483eda57d555c83c3b9395122552457aff03d5a7") true
    regsOrder_holds (fun _ h => by cases h) (by kernel_rfl) (fun _ h => by cases h) regsOrder_row_tie rfl ⟨rfl, rfl⟩ (by kernel_rfl) rfl
    (fun f fn hf hfn => by
      obtain rfl : f = 5 := Option.some.inj ((show Tryz.prog.funcNamed "affidavit/affidavitlaw12.RegsOrder" = some 5 by kernel_rfl).symm.trans hf) |>.symm
      obtain rfl : fn = Tryz.f5 := (Option.some.inj (Tryz.func5.symm.trans hfn)).symm
      exact ⟨by kernel_rfl, fun j t ht => by
        rw [Tryz.params5] at ht
        have hm : t ∈ [5, 40] := by simpa using Array.mem_of_getElem? ht
        have hall : ([5, 40].all fun u => !Tryz.prog.wantsStandIn u) = true := by kernel_rfl
        exact (show Tryz.prog.wantsStandIn t = false by simpa using List.all_eq_true.1 hall t hm)⟩)
    (by kernel_rfl)
#print axioms regsOrder_card
end Go.Proofs.YtidlgecognedlaaGreatDoor
