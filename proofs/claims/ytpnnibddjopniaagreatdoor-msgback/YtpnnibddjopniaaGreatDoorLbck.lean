/-
  What is pending in memory, as a thing that has fields: what they hold, and what it is when another value comes to lie at one's place.
-/
import Derived.Test.YtpnnibddjopniaaGreatDoorJhm
import Derived.Test.YtpnnibddjopniaaGreatDoorJmb
import Derived.Test.YtpnnibddjopniaaGreatDoorJpm
import Derived.Test.YtpnnibddjopniaaGreatDoorJlw
import Derived.Test.YtpnnibddjopniaaGreatDoorJnb
import Derived.Lib.ItoaNum
import Derived.Lib.SmallJoins
import Derived.Test.YtpnnibddjopniaaGreatDoorLnum
import Derived.Test.YtpnnibddjopniaaGreatDoorGaw
import Derived.Test.YtpnnibddjopniaaGreatDoorJsm
import Derived.Test.YtpnnibddjopniaaGreatDoorRows
import Derived.ProofKit
import Derived.OpenShut
import Derived.Deep.Slices
import Derived.LaidMore
import Derived.Stop.Joined
import Derived.Stop.LaidErr
import Derived.Lib.LaidTab
import Derived.Test.YtpnnibddjopniaaGreatDoorCards
import Derived.Test.YtpnnibddjopniaaGreatDoorTie
import Derived.SevenTiedAt
import Derived.SizedLaws
namespace Go.Proofs.YtpnnibddjopniaaGreatDoor.Ms
open Go Go.RowKit
set_option maxRecDepth 100000

def IPen (g : Nat) (A C : List Value) (x : Pen) (w : World) : Prop := w.heap[g]? = some (.cells (A ++ (penC x ++ C)).toArray 109) ∧ penOk x
/-- One field of it: what stands ahead of it, what behind it. -/
structure POk (f : Fl Pen) : Prop where
  sp : ∀ x, penOk x → ∃ P S, P.length = f.off ∧ penC x = P ++ (cc (cvOf undef undef (f.get x)) (f.get x) ++ S) ∧ ∀ v cv, v.slot = f.slot → okVal v → cvForm cv v → penC (f.set x v) = P ++ (cc cv v ++ S)
  sl : ∀ x, (f.get x).slot = f.slot
  ok : ∀ x v, penOk x → v.slot = f.slot → okVal v → penOk (f.set x v)
  base : f.slot = .num ∨ f.slot = .dig
  len : ∀ x, penOk x → (cc (cvOf undef undef (f.get x)) (f.get x)).length = sz f.slot
theorem holdP {f : Fl Pen} (hf : POk f) {g : Nat} {A C : List Value} {x : Pen} {w : World} (h : IPen g A C x w) :
    (ValAt w g (A.length + f.off) (f.get x) ∧ (f.get x).slot = f.slot) ∧
    ∃ A' old C' t, w.heap[g]? = some (.cells (A' ++ (old ++ C')).toArray t) ∧ A'.length = A.length + f.off ∧ old.length = sz f.slot ∧ ∀ v w', v.slot = f.slot → okVal v → StoreAt w g A' C' t v w' → IPen g A C (f.set x v) w' := by
  obtain ⟨hrow, hok⟩ := h
  obtain ⟨P, S, hP, hx, hset⟩ := hf.sp x hok
  have e1 : A ++ (penC x ++ C) = (A ++ P) ++ (cc (cvOf undef undef (f.get x)) (f.get x) ++ (S ++ C)) := by rw [hx]; simp
  have hl : (A ++ P).length = A.length + f.off := by rw [List.length_append, hP]
  rw [e1] at hrow
  refine ⟨⟨?_, hf.sl x⟩, A ++ P, _, S ++ C, _, hrow, hl, hf.len x hok, fun v w' hs hv hst => ?_⟩
  · have hsl := hf.sl x
    have hseg := row_seg hrow rfl hl
    generalize f.get x = v at hsl hseg
    rcases hf.base with hb | hb
    · rw [hb] at hsl
      obtain ⟨n, rfl⟩ := of_num hsl
      exact hseg 0 (nu n) rfl
    · rw [hb] at hsl
      obtain ⟨n, rfl⟩ := of_dig hsl
      exact hseg
  · obtain ⟨cv, w1, -, hcv, -, hrow', -⟩ := hst
    refine ⟨?_, hf.ok x v hok hs hv⟩
    rw [hrow', hset v cv hs hv (cv_form hcv)]
    simp
theorem ok_pClient : POk pClient := by
  refine ⟨fun x hx => ⟨[], [nu x.number] ++ ([nu x.kind] ++ ([nu x.target] ++ (dg x.asked ++ (dg x.proof)))), rfl, ?_, fun v cv hs ho hc => ?_⟩, fun _ => rfl, fun x v hx hs ho => ?_, Or.inl rfl, fun _ _ => rfl⟩
  · simp [penC, pClient, cc, cvOf]
  · obtain ⟨n, rfl⟩ := of_num hs
    obtain rfl : cv = nu n := hc
    simp [penC, pClient, cc, Val.n]
  · obtain ⟨n, rfl⟩ := of_num hs
    have hv : I64 n := ho
    exact { hx with client := hv }
theorem ok_pNumber : POk pNumber := by
  refine ⟨fun x hx => ⟨[nu x.client], [nu x.kind] ++ ([nu x.target] ++ (dg x.asked ++ (dg x.proof))), rfl, ?_, fun v cv hs ho hc => ?_⟩, fun _ => rfl, fun x v hx hs ho => ?_, Or.inl rfl, fun _ _ => rfl⟩
  · simp [penC, pNumber, cc, cvOf]
  · obtain ⟨n, rfl⟩ := of_num hs
    obtain rfl : cv = nu n := hc
    simp [penC, pNumber, cc, Val.n]
  · obtain ⟨n, rfl⟩ := of_num hs
    have hv : I64 n := ho
    exact { hx with number := hv }
theorem ok_pKind : POk pKind := by
  refine ⟨fun x hx => ⟨[nu x.client] ++ ([nu x.number]), [nu x.target] ++ (dg x.asked ++ (dg x.proof)), rfl, ?_, fun v cv hs ho hc => ?_⟩, fun _ => rfl, fun x v hx hs ho => ?_, Or.inl rfl, fun _ _ => rfl⟩
  · simp [penC, pKind, cc, cvOf]
  · obtain ⟨n, rfl⟩ := of_num hs
    obtain rfl : cv = nu n := hc
    simp [penC, pKind, cc, Val.n]
  · obtain ⟨n, rfl⟩ := of_num hs
    have hv : I64 n := ho
    exact { hx with kind := hv }
theorem ok_pTarget : POk pTarget := by
  refine ⟨fun x hx => ⟨[nu x.client] ++ ([nu x.number] ++ ([nu x.kind])), dg x.asked ++ (dg x.proof), rfl, ?_, fun v cv hs ho hc => ?_⟩, fun _ => rfl, fun x v hx hs ho => ?_, Or.inl rfl, fun _ _ => rfl⟩
  · simp [penC, pTarget, cc, cvOf]
  · obtain ⟨n, rfl⟩ := of_num hs
    obtain rfl : cv = nu n := hc
    simp [penC, pTarget, cc, Val.n]
  · obtain ⟨n, rfl⟩ := of_num hs
    have hv : I64 n := ho
    exact { hx with target := hv }
theorem ok_pAsked : POk pAsked := by
  refine ⟨fun x hx => ⟨[nu x.client] ++ ([nu x.number] ++ ([nu x.kind] ++ ([nu x.target]))), dg x.proof, rfl, ?_, fun v cv hs ho hc => ?_⟩, fun _ => rfl, fun x v hx hs ho => ?_, Or.inr rfl, fun x hx => (dg_len x.asked).trans hx.asked⟩
  · simp [penC, pAsked, cc]
  · obtain ⟨n, rfl⟩ := of_dig hs
    simp [penC, pAsked, cc, Val.d]
  · obtain ⟨n, rfl⟩ := of_dig hs
    have hv : n.length = 32 := ho
    exact { hx with asked := hv }
theorem ok_pProof : POk pProof := by
  refine ⟨fun x hx => ⟨[nu x.client] ++ ([nu x.number] ++ ([nu x.kind] ++ ([nu x.target] ++ (dg x.asked)))), [], by simp [pProof, dg_len, hx.asked], ?_, fun v cv hs ho hc => ?_⟩, fun _ => rfl, fun x v hx hs ho => ?_, Or.inr rfl, fun x hx => (dg_len x.proof).trans hx.proof⟩
  · simp [penC, pProof, cc]
  · obtain ⟨n, rfl⟩ := of_dig hs
    simp [penC, pProof, cc, Val.d]
  · obtain ⟨n, rfl⟩ := of_dig hs
    have hv : n.length = 32 := ho
    exact { hx with proof := hv }
theorem ok_pens : ∀ f ∈ penFs, POk f := by
  intro f hf
  simp only [penFs, List.mem_cons, List.not_mem_nil, or_false] at hf
  rcases hf with rfl | rfl | rfl | rfl | rfl | rfl
  · exact ok_pClient
  · exact ok_pNumber
  · exact ok_pKind
  · exact ok_pTarget
  · exact ok_pAsked
  · exact ok_pProof
/-- A pending's row, wherever it lies in its block, holds its fields. -/
theorem pen_hold (g : Nat) (A C : List Value) : Hold penFs g A.length (IPen g A C) where
  own := fun _ _ h => ⟨_, _, h.1, .inr rfl⟩
  stay := fun _ _ _ h hb => ⟨row_kept h.1 hb, h.2⟩
  load := fun _ _ h f hf => (holdP (ok_pens f hf) h).1
  store := fun _ _ h f hf => (holdP (ok_pens f hf) h).2
end Go.Proofs.YtpnnibddjopniaaGreatDoor.Ms

/-
  What msg.layPending answers: how many there are, and each one's fields, one behind the other.
-/
namespace Go.Proofs.YtpnnibddjopniaaGreatDoor.Ms
open Go Go.RowKit
set_option maxRecDepth 100000

theorem zPen : (Tryz.prog.info? 109).map (·.zero) = some (some (.agg (penC ⟨0, 0, 0, 0, List.replicate 32 0, List.replicate 32 0⟩).toArray)) := by kernel_rfl
theorem pen_okv {p : Pen} (h : penOk p) : ∀ f ∈ penFs, okVal (f.get p) := by
  intro f hf
  simp only [penFs, List.mem_cons, List.not_mem_nil, or_false] at hf
  rcases hf with rfl | rfl | rfl | rfl | rfl | rfl
  · exact h.client
  · exact h.number
  · exact h.kind
  · exact h.target
  · exact h.asked
  · exact h.proof
theorem pens_len : ∀ l : List Pen, (∀ p ∈ l, penOk p) → ((l.map layPen).flatten).length ≤ 200 * l.length := by
  intro l
  induction l with
  | nil => simp
  | cons p l ih =>
    intro hp
    have := layPen_len p (hp p (by simp))
    have := ih (fun q hq => hp q (by simp [hq]))
    simp only [List.map_cons, List.flatten_cons, List.length_append, List.length_cons]
    omega
def HLP : Prop := ∀ f ∈ penFs, LayOne f.slot
theorem hLP : HLP := by
  intro f hf
  simp only [penFs, List.mem_cons, List.not_mem_nil, or_false] at hf
  rcases hf with rfl | rfl | rfl | rfl | rfl | rfl
  · exact mkLayNum
  · exact mkLayNum
  · exact mkLayNum
  · exact mkLayNum
  · exact mkLayDig
  · exact mkLayDig
/-- One pending's bytes, out of a row of its own. -/
theorem laypen1 (p : Pen) (h : penOk p) (g : Nat) (w : World) (ht : Tb w) (v : Value) (hr : w.heap[g]? = some (.cells (penC p).toArray 109)) (hv : FieldsAt w v g (spots 0 penFs)) :
    Calls Tryz.prog 26 #[v] w fun e w' => e = .returned (st (layPen p)) ∧ Below w.heap.size w w' :=
  layall_any (pen_hold g [] []) hLP hv (x := p) ⟨by simpa using hr, h⟩ (pen_okv h) (by decide) ht
set_option maxHeartbeats 1000000 in
theorem laypens_any (ps : List Pen) (hl : ps.length ≤ 8) (hp : ∀ p ∈ ps, penOk p) (w : World) (cv : Value) (ht : Tb w) (hc : PensAt w cv ps) :
    Calls Tryz.prog 121 #[cv] w fun e w' => e = .returned (st (numB ps.length ++ (ps.map layPen).flatten)) ∧ Below w.heap.size w w' := by
  have HP := hid hc
  obtain ⟨pa, cap, rfl, -⟩ := hc
  obtain ⟨ZP, hZ⟩ : ∃ ZP : List Value, penC ⟨0, 0, 0, 0, List.replicate 32 0, List.replicate 32 0⟩ = ZP := ⟨_, rfl⟩
  have hz := zPen
  have hzl : ZP.length = 68 := by rw [← hZ]; rfl
  rw [hZ] at hz
  have HZ := hid hz
  have HZL := hid hzl
  have HT := hid ht
  have HOK := hid hp
  have HN : Hid (Calls Tryz.prog 25 #[nu ps.length] w fun e w' => e = .returned (st (numB ps.length)) ∧ Below w.heap.size w w') := Lay.number_any (ps.length : Int) (by omega) (by omega) w ht
  have hnl := numB_len (ps.length : Int) ⟨by omega, by omega⟩
  clear hz hZ hzl ht hp
  generalize numB (ps.length : Int) = nb at *
  go_enter Tryz.func121, Tryz.ntmps121
  go_wp2_with fail
  refine HN.out.mono ?_
  rintro e w1 ⟨rfl, hb1⟩
  have HB1 := hid hb1
  clear hb1 HN
  go_wp2
  go_loopw [3, 11] (fun s i w' => ∃ k : Nat, k ≤ ps.length ∧ i = .int .i64 k ∧ s = st (nb ++ ((ps.take k).map layPen).flatten) ∧ Hid (Below w.heap.size w w')) (fun _ i _ => ps.length - (intOf i).toNat)
  case atStart => exact ⟨0, Nat.zero_le _, rfl, by simp, HB1⟩
  case round =>
    obtain ⟨k, hk, rfl, rfl, HB⟩ := hrel
    clear HB1
    have hlk := pens_len (ps.take k) (fun p hq => HOK.out p (List.mem_of_mem_take hq))
    have hlt' : (ps.take k).length ≤ 8 := by rw [List.length_take]; omega
    have hlk2 : (nb ++ ((ps.take k).map layPen).flatten).length ≤ 2000 := by rw [List.length_append]; omega
    by_cases hlt : k < ps.length
    · as_aux_lemma =>
      have d1 : decide ((k : Int) < (ps.length : Int)) = true := decide_eq_true (by omega)
      have d1' : decide (k < ps.length) = true := decide_eq_true hlt
      obtain ⟨a', c', e', hc⟩ := HP.out.kept HB.out
      cases e'
      obtain ⟨b, off, rfl, hcc⟩ := hc (fun e => by rw [e] at hlt; exact absurd hlt (Nat.not_lt_zero k))
      have HTk : Hid (ps.take (k + 1) = ps.take k ++ [ps.getD k noPen]) := Lay.take_snoc ps noPen k hlt
      have hpk : penOk (ps.getD k noPen) := HOK.out _ (by simp [List.getD, hlt])
      have S0 := hid (hcc k hlt)
      generalize ps.getD k noPen = p at *
      have wp := wf_of_ok hpk
      have Z0 : (Tryz.prog.info? 109).map (·.size) = some (penC p).length := by rw [penC_len wp]; exact sizePen
      have hone := hid (one_pen p)
      have hlen : ZP.length = (penC p).length := by rw [penC_len wp]; exact HZL.out
      have HBt := hid (below_a1 wr (.cells (penC p).toArray 109))
      have T0 := hid (top_obj wr (.cells (penC p).toArray 109))
      have HTt := hid ((HT.out.stays HB.out).stays HBt.out)
      have HBm := hid (below_two HB.out HBt.out)
      have HL1 := hid (laypen1 p hpk wr.heap.size)
      have hpl := layPen_len p hpk
      have HE : Hid ((⟨(nb ++ ((ps.take k).map layPen).flatten).toArray⟩ : ByteArray) ++ ⟨(layPen p).toArray⟩ = ⟨(nb ++ ((ps.take (k + 1)).map layPen).flatten).toArray⟩) := by
        show _ = _
        rw [Lay.bcat _ _ _ rfl, HTk.out]; simp
      clear hc hcc HTk hlk hlt' HP HOK HT HBt HB wp hpk
      generalize layPen p = lp at *
      generalize nb ++ ((ps.take k).map layPen).flatten = l1 at *
      generalize penC p = PA at *
      go_upto_region 5 with (first | ((with_reducible refine wl_load 109 (.tmp 13) ?_ b (off + k * 68) ?_ ?_ PA _ S0.out Tryz.underlying109 ?_ Z0 ?_); exact rfl; exact rfl; exact rfl; exact rfl) | ((with_reducible refine wl_alloc 109 ?_ ?_ ZP.toArray HZ.out ?_); exact rfl; exact rfl) | ((with_reducible refine wl_store_top 109 (.tmp 5) (.tmp 14) ?_ ?_ ?_ ?_ PA ZP ?_ 109 hlen hone.out Z0 ?_); exact rfl; exact rfl; exact rfl; exact rfl; exact rfl))
      generalize wr.alloc (.cells PA.toArray 109) = W2 at *
      clear S0
      generalize wr.heap.size = g at *
      go_wp2_with fail
      refine (penfields_any g 0 W2).mono ?_
      rintro e w3 ⟨fv, rfl, hfv, hb3⟩
      have HF3 : Hid (FieldsAt w3 fv g (spots 0 penFs)) := hfv
      have T3 := hid (row_kept T0.out hb3)
      have HT3 := hid (HTt.out.stays hb3)
      have HB3 := hid (below_two HBm.out hb3)
      clear hb3 hfv T0 HTt HBm
      go_wp2_with fail
      refine (HL1.out w3 HT3.out fv T3.out HF3.out).mono ?_
      rintro e w4 ⟨rfl, hb4⟩
      have HB4 := hid (below_two HB3.out hb4)
      clear hb4 HB3 T3 HT3 HF3 HL1
      go_wp2
      go_roundw
      case rel => exact ⟨k + 1, by omega, by go_num, congrArg Value.string HE.out, HB4⟩
      case measure => simp [intOf]; omega
    · as_aux_lemma =>
      have hkl : k = ps.length := by omega
      subst hkl
      have dk : decide ((ps.length : Int) < (ps.length : Int)) = false := decide_eq_false (by omega)
      rw [List.take_length] at *
      clear HP HOK HT
      go_wp2
      go_ret
      exact ⟨rfl, HB.out⟩
theorem mkLayPens : LayOne .pens := by
  intro v hs hv w cv ht hc
  obtain ⟨l, rfl⟩ := of_pens hs
  exact laypens_any l hv.1 hv.2 w cv ht hc
end Go.Proofs.YtpnnibddjopniaaGreatDoor.Ms

/-
  What msg.readPending answers: as many as the number ahead says, each one's fields, one behind the other; nothing where one does not read.
-/
namespace Go.Proofs.YtpnnibddjopniaaGreatDoor.Ms
open Go Go.RowKit
set_option maxRecDepth 100000

def contP (l : List Pen) (R : Nat × List Pen × Nat) : Nat × List Pen × Nat := if R.1 ≠ 0 then (R.1, [], 0) else (0, l ++ R.2.1, R.2.2)
theorem cont_err (l : List Pen) (m : Nat) (s : List UInt8) (q : Nat) (h : (rdPen s q).1 ≠ 0) : contP l (rdPensN (m + 1) s q) = ((rdPen s q).1, [], 0) := by
  have e : rdPensN (m + 1) s q = ((rdPen s q).1, [], 0) := by rw [rdPensN, if_pos h]
  rw [e]; unfold contP; rw [if_pos h]
theorem cont_step (l : List Pen) (m : Nat) (s : List UInt8) (q : Nat) (h : (rdPen s q).1 = 0) : contP l (rdPensN (m + 1) s q) = contP (l ++ [(rdPen s q).2.1]) (rdPensN m s (rdPen s q).2.2) := by
  rw [rdPensN, if_neg (by simp [h])]
  unfold contP
  by_cases h2 : (rdPensN m s (rdPen s q).2.2).1 ≠ 0
  · rw [if_pos h2]; simp [h2]
  · rw [if_neg h2]; simp [h2]
theorem cont_nil : ∀ (n : Nat) (s : List UInt8) (p : Nat), contP [] (rdPensN n s p) = rdPensN n s p
  | 0, _, _ => rfl
  | n + 1, s, p => by
    by_cases h : (rdPen s p).1 = 0
    · rw [rdPensN, if_neg (by simp [h])]
      unfold contP
      by_cases h2 : (rdPensN n s (rdPen s p).2.2).1 ≠ 0
      · rw [if_pos h2]; simp [h2]
      · rw [if_neg h2]; simp
    · rw [cont_err _ _ _ _ h, rdPensN, if_pos h]
theorem val_base {k : Slot} (hk : k ≠ .pens) (s : List UInt8) (p : Nat) : rdVal k s p = rdBase k s p := by cases k using Slot.cut <;> first | rfl | exact absurd rfl hk
theorem rdAll_same {α : Type} (s : List UInt8) : ∀ (fs : List (Fl α)), (∀ g ∈ fs, g.slot ≠ .pens) → ∀ (x : α) (p : Nat), rdAll rdVal fs x s p = rdAll rdBase fs x s p
  | [], _, _, _ => by simp only [rdAll]
  | g :: fs, h, x, p => by
    have ih := rdAll_same s fs (fun f hf => h f (by simp [hf]))
    simp only [rdAll]
    rw [val_base (h g (by simp)), ih]
theorem rd_pen (s : List UInt8) (q : Nat) : rdAll rdVal penFs zeroP s q = rdPen s q := by
  unfold rdPen
  exact rdAll_same s penFs pen_base zeroP q
theorem zero_ok : penOk zeroP := ⟨⟨by decide, by decide⟩, ⟨by decide, by decide⟩, ⟨by decide, by decide⟩, ⟨by decide, by decide⟩, rfl, rfl⟩
theorem rep_at (L : List Value) (hL : 0 < L.length) : ∀ (n i : Nat), i < n * L.length → ((List.replicate n L).flatten)[i]? = L[i % L.length]?
  | 0, i, h => absurd h (by simp)
  | n + 1, i, h => by
    rw [List.replicate_succ, List.flatten_cons]
    by_cases hi : i < L.length
    · rw [List.getElem?_append_left hi, Nat.mod_eq_of_lt hi]
    · rw [List.getElem?_append_right (by omega), rep_at L hL n (i - L.length) (by rw [Nat.succ_mul] at h; omega), Nat.mod_eq_sub_mod (a := i) (by omega)]
theorem rep_len (L : List Value) : ∀ n : Nat, ((List.replicate n L).flatten).length = n * L.length
  | 0 => by simp
  | n + 1 => by rw [List.replicate_succ, List.flatten_cons, List.length_append, rep_len L n, Nat.succ_mul]; omega
theorem made_list (L : List Value) (hL : 0 < L.length) (n : Nat) : madeCells L.toArray (n * L.length) = ((List.replicate n L).flatten).toArray := by
  apply Array.ext_getElem?
  intro i
  by_cases hi : i < n * L.length
  · rw [Array.getElem?_eq_getElem (by rw [size_madeCells]; exact hi), List.getElem?_toArray, rep_at L hL n i hi]
    have hm : i % L.length < L.length := Nat.mod_lt _ hL
    simp only [madeCells, Array.getElem_map, Array.getElem_range]
    rw [List.getElem?_eq_getElem hm]
    simp [hm]
  · rw [Array.getElem?_eq_none (by rw [size_madeCells]; omega), List.getElem?_toArray, List.getElem?_eq_none (by rw [rep_len]; omega)]
theorem zero_len : (penC zeroP).length = 68 := penC_len ⟨rfl, rfl⟩
theorem made_pens (n : Nat) : madeCells (Value.agg (penC zeroP).toArray).cells (n * 68) = ((List.replicate n (penC zeroP)).flatten).toArray := by
  have h := made_list (penC zeroP) (by rw [zero_len]; decide) n
  rw [zero_len] at h
  exact h
theorem infoPen : (Tryz.prog.info? 109).map (fun i => (i.zero, i.size, i.bytes)) = some (some (.agg (penC zeroP).toArray), 68, 96) := by kernel_rfl
theorem make_pens (n : Nat) (hn : n ≤ 8) (W : World) : (Instr.makeSlice 26 (.int .i64 (n : Int)) (.int .i64 (n : Int))).run Tryz.prog W = .ok (.slice (some ⟨W.heap.size, 0, none⟩) n n) (W.alloc (.cells ((List.replicate n (penC zeroP)).flatten).toArray 109)) := by
  have hI := infoPen
  cases hi : Tryz.prog.info? 109 with
  | none => rw [hi] at hI; cases hI
  | some i =>
    rw [hi] at hI
    simp only [Option.map_some, Option.some.injEq, Prod.mk.injEq] at hI
    obtain ⟨hz0, hz1, hz2⟩ := hI
    have h := run_makeSlice (P := Tryz.prog) W 26 109 i _ Tryz.underlying26 hi hz0 .i64 .i64 n n (by omega) (by omega) (by rw [hz1]; omega) (by rw [hz2]; omega) (by omega)
    rw [hz1] at h
    simp only [Int.toNat_natCast] at h
    rw [made_pens n] at h
    exact h
def rowP (l : List Pen) (m : Nat) : List Value := (l.map penC).flatten ++ (List.replicate m (penC zeroP)).flatten
theorem flatP_len : ∀ (l : List Pen), (∀ p ∈ l, penOk p) → ((l.map penC).flatten).length = l.length * 68
  | [], _ => rfl
  | p :: l, h => by
    have h1 := penC_len (wf_of_ok (h p (by simp)))
    have h2 := flatP_len l (fun q hq => h q (by simp [hq]))
    simp only [List.map_cons, List.flatten_cons, List.length_append, List.length_cons]
    omega
theorem rowP_open (l : List Pen) (m : Nat) : rowP l (m + 1) = (l.map penC).flatten ++ (penC zeroP ++ (List.replicate m (penC zeroP)).flatten) := by simp [rowP, List.replicate_succ]
theorem rowP_shut (l : List Pen) (x : Pen) (m : Nat) : (l.map penC).flatten ++ (penC x ++ (List.replicate m (penC zeroP)).flatten) = rowP (l ++ [x]) m := by simp [rowP]
theorem flatP_at : ∀ (l : List Pen), (∀ p ∈ l, penOk p) → ∀ (C : List Value) (j : Nat), j < l.length → ∀ i c, (penC (l.getD j noPen))[i]? = some c → ((l.map penC).flatten ++ C)[j * 68 + i]? = some c
  | [], _, _, j, h, _, _, _ => absurd h (Nat.not_lt_zero j)
  | p :: l, h, C, 0, _, i, c, hc => by
    have hc' : (penC p)[i]? = some c := hc
    have hi := (List.getElem?_eq_some_iff.1 hc').1
    simp only [List.map_cons, List.flatten_cons, List.append_assoc, Nat.zero_mul, Nat.zero_add]
    rw [List.getElem?_append_left hi]; exact hc'
  | p :: l, h, C, j + 1, hj, i, c, hc => by
    have h1 := penC_len (wf_of_ok (h p (by simp)))
    have h2 := flatP_at l (fun q hq => h q (by simp [hq])) C j (by simpa using hj) i c hc
    simp only [List.map_cons, List.flatten_cons, List.append_assoc]
    rw [List.getElem?_append_right (by omega), h1]
    have e : (j + 1) * 68 + i - 68 = j * 68 + i := by omega
    rw [e]; exact h2
theorem pens_of_row {w : World} {g : Nat} {l : List Pen} (hl : ∀ p ∈ l, penOk p) (h : w.heap[g]? = some (.cells (rowP l 0).toArray 109)) : PensAt w (.slice (some ⟨g, 0, none⟩) l.length l.length) l := by
  refine ⟨_, _, rfl, fun _ => ⟨g, 0, rfl, fun j hj i c hc => ?_⟩⟩
  rw [cell_of_row _ _ _ _ _ _ h]
  have := flatP_at l hl (List.replicate 0 (penC zeroP)).flatten j hj i c hc
  simpa [rowP] using this
/-- What stands when k of n have been read. -/
structure RpInv (w : World) (s : List UInt8) (n : Nat) (G : Nat × List Pen × Nat) (g k q : Nat) (l : List Pen) (w' : World) : Prop where
  len : l.length = k
  ok : ∀ p ∈ l, penOk p
  at' : q ≤ s.length
  go : contP l (rdPensN (n - k) s q) = G
  row : w'.heap[g]? = some (.cells (rowP l (n - k)).toArray 109)
  bel : Below w.heap.size w w'
def HRP : Prop := ∀ f ∈ penFs, ReadOne f.slot
theorem hRP : HRP := by
  intro f hf
  simp only [penFs, List.mem_cons, List.not_mem_nil, or_false] at hf
  rcases hf with rfl | rfl | rfl | rfl | rfl | rfl
  · exact mkReadNum
  · exact mkReadNum
  · exact mkReadNum
  · exact mkReadNum
  · exact mkReadDig
  · exact mkReadDig
theorem readpen1 {w : World} {s : List UInt8} {n : Nat} {G : Nat × List Pen × Nat} {g k q : Nat} {l : List Pen} {w' : World} (h : RpInv w s n G g k q l w') (hk : k < n) (hs : s.length ≤ 281474976710656) (ht : Tb w) (hg : w.heap.size ≤ g) (w2 : World) (hb : Below w'.heap.size w' w2) (v : Value) (hv : FieldsAt w2 v g (spots (k * 68) penFs)) :
    Calls Tryz.prog 41 #[v, st s, nu q] w2 fun e w3 => e = .returned (.tuple #[nu (rdPen s q).2.2, nu (rdPen s q).1]) ∧ Below w.heap.size w w3 ∧ ((rdPen s q).1 = 0 → RpInv w s n G g (k + 1) (rdPen s q).2.2 (l ++ [(rdPen s q).2.1]) w3) := by
  obtain ⟨m, hm⟩ : ∃ m, n - k = m + 1 := ⟨n - k - 1, by omega⟩
  have hr := row_kept h.row hb
  rw [hm, rowP_open] at hr
  have hA := flatP_len l h.ok
  rw [h.len] at hA
  have hb2 := below_two h.bel hb
  have hv' : FieldsAt w2 v g (spots ((l.map penC).flatten).length penFs) := by rw [hA]; exact hv
  refine (readall_any (pen_hold g (l.map penC).flatten (List.replicate m (penC zeroP)).flatten) hRP hv' (x := zeroP) ⟨hr, zero_ok⟩ s q h.at' hs (by decide) (ht.stays hb2) (tn_of ht hg)).mono ?_
  rw [rd_pen]
  rintro e w3 ⟨rfl, hkp, hI⟩
  have hb3 := hkp.below hb2 hg
  refine ⟨rfl, hb3, fun he => ?_⟩
  obtain ⟨c, hc, -, hle, hok⟩ := pen_once s q h.at' he
  obtain ⟨hrow, -⟩ := hI he
  have e1 : n - (k + 1) = m := by omega
  refine ⟨by simp [h.len], ?_, by rw [hc]; exact hle, ?_, ?_, hb3⟩
  · intro p hp
    rcases List.mem_append.1 hp with hp | hp
    · exact h.ok p hp
    · rw [List.mem_singleton.1 hp]; exact hok
  · rw [e1, ← cont_step _ _ _ _ he, ← hm]; exact h.go
  · rw [e1, ← rowP_shut]; exact hrow
end Go.Proofs.YtpnnibddjopniaaGreatDoor.Ms

/-
  The walk of msg.readPending.
-/
namespace Go.Proofs.YtpnnibddjopniaaGreatDoor.Ms
open Go Go.RowKit
set_option maxRecDepth 100000

theorem rpens_err {s : List UInt8} {p : Nat} (h : (Lay.readNum (s.drop p)).1 ≠ 0) : rdPens s p = ((Lay.readNum (s.drop p)).1, [], 0) := by unfold rdPens; rw [if_pos h]
theorem rpens_form {s : List UInt8} {p : Nat} (h : (Lay.readNum (s.drop p)).1 = 0) (h2 : (Lay.readNum (s.drop p)).2.1 < 0 ∨ 8 < (Lay.readNum (s.drop p)).2.1) : rdPens s p = (6, [], 0) := by unfold rdPens; rw [if_neg (by simp [h]), if_pos h2]
theorem rpens_go {s : List UInt8} {p : Nat} (h : (Lay.readNum (s.drop p)).1 = 0) (h2 : ¬ ((Lay.readNum (s.drop p)).2.1 < 0 ∨ 8 < (Lay.readNum (s.drop p)).2.1)) : rdPens s p = rdPensN (Lay.readNum (s.drop p)).2.1.toNat s (p + (Lay.readNum (s.drop p)).2.2) := by unfold rdPens; rw [if_neg (by simp [h]), if_neg h2]
set_option maxHeartbeats 1000000 in
theorem readpens_bad (s : List UInt8) (p : Nat) (w : World) (z : Int) (er tt : Nat) (R : Nat × List Pen × Nat) (h : (er ≠ 0 ∧ R = (er, [], 0)) ∨ (er = 0 ∧ z < 0 ∧ R = (6, [], 0)) ∨ (er = 0 ∧ 8 < z ∧ R = (6, [], 0)))
    (HRd : Hid (Calls Tryz.prog 40 #[st s, nu p] w fun e w' => e = .returned (.tuple #[nu z, nu tt, nu er]) ∧ Below w.heap.size w w')) :
    Calls Tryz.prog 122 #[st s, nu p] w fun e w' => ∃ cv, e = .returned (.tuple #[cv, nu R.2.2, nu R.1]) ∧ PensAt w' cv R.2.1 ∧ Fr w.heap.size cv ∧ Below w.heap.size w w' := by
  rcases h with ⟨h1, rfl⟩ | ⟨rfl, h1, rfl⟩ | ⟨rfl, h1, rfl⟩
  · have de1 : ((er : Int) != 0) = true := by simpa using h1
    have de1' : (er != 0) = true := by simpa using h1
    go_enter Tryz.func122, Tryz.ntmps122
    go_wp2_with fail
    refine HRd.out.mono ?_
    rintro e w1 ⟨rfl, hb⟩
    have HB := hid hb
    clear hb HRd
    go_wp2
    go_ret3
    refine ⟨.slice none 0 0, ?_, PensAt.nil _, (fun a n c h => by cases h), HB.out⟩
    rfl
  · have d1 : decide (z < 0) = true := decide_eq_true h1
    go_enter Tryz.func122, Tryz.ntmps122
    go_wp2_with fail
    refine HRd.out.mono ?_
    rintro e w1 ⟨rfl, hb⟩
    have HB := hid hb
    clear hb HRd
    go_wp2
    go_ret3
    refine ⟨.slice none 0 0, ?_, PensAt.nil _, (fun a n c h => by cases h), HB.out⟩
    rfl
  · have d1 : decide (z < 0) = false := decide_eq_false (by omega)
    have d2 : decide (8 < z) = true := decide_eq_true h1
    go_enter Tryz.func122, Tryz.ntmps122
    go_wp2_with fail
    refine HRd.out.mono ?_
    rintro e w1 ⟨rfl, hb⟩
    have HB := hid hb
    clear hb HRd
    go_wp2
    go_ret3
    refine ⟨.slice none 0 0, ?_, PensAt.nil _, (fun a n c h => by cases h), HB.out⟩
    rfl
set_option maxHeartbeats 2000000 in
theorem readpens_good (s : List UInt8) (hs : s.length ≤ 281474976710656) (p : Nat) (w : World) (ht : Tb w) (n : Nat) (hn : n ≤ 8) (tt : Nat) (htt : tt ≤ s.length) (G : Nat × List Pen × Nat) (hG : rdPensN n s tt = G)
    (HRd : Hid (Calls Tryz.prog 40 #[st s, nu p] w fun e w' => e = .returned (.tuple #[nu n, nu tt, nu (0 : Nat)]) ∧ Below w.heap.size w w')) :
    Calls Tryz.prog 122 #[st s, nu p] w fun e w' => ∃ cv, e = .returned (.tuple #[cv, nu G.2.2, nu G.1]) ∧ PensAt w' cv G.2.1 ∧ Fr w.heap.size cv ∧ Below w.heap.size w w' := by
  have d1 : decide ((n : Int) < 0) = false := decide_eq_false (by omega)
  have d2 : decide (8 < (n : Int)) = false := decide_eq_false (by omega)
  have HM := hid (fun W => make_pens n hn W)
  have HT := hid ht
  have H0 : Hid (∀ W, Below w.heap.size w W → RpInv w s n G W.heap.size 0 tt [] (W.alloc (.cells ((List.replicate n (penC zeroP)).flatten).toArray 109))) := fun W hb =>
    ⟨rfl, (fun p hp => absurd hp (by simp)), htt, (cont_nil n s tt).trans hG, by simpa [rowP] using top_obj W _, below_two hb (below_a1 W _)⟩
  have HTT := hid htt
  clear ht hG htt
  generalize ((List.replicate n (penC zeroP)).flatten).toArray = Z at *
  go_enter Tryz.func122, Tryz.ntmps122
  go_wp2_with fail
  refine HRd.out.mono ?_
  rintro e w1 ⟨rfl, hb⟩
  have H1 := hid (H0.out w1 hb)
  have hgw : w.heap.size ≤ w1.heap.size := hb.size
  have hmk := HM.out w1
  clear hb HRd H0 HM
  go_wp2
  generalize w1.alloc (.cells Z 109) = W1 at *
  generalize w1.heap.size = g at *
  go_loopw [1, 31] (fun a i w' => ∃ (k q : Nat) (l : List Pen), k ≤ n ∧ i = .int .i64 k ∧ a = .int .i64 q ∧ Hid (RpInv w s n G g k q l w')) (fun _ i _ => n - (intOf i).toNat)
  case atStart => exact ⟨0, tt, [], Nat.zero_le _, rfl, rfl, H1⟩
  case round =>
    obtain ⟨k, q, l, hk, rfl, rfl, HI⟩ := hrel
    clear H1
    by_cases hlt : k < n
    · as_aux_lemma =>
      have d3 : decide ((k : Int) < (n : Int)) = true := decide_eq_true (by omega)
      have d3' : decide (k < n) = true := decide_eq_true hlt
      have HR1 := hid (readpen1 HI.out hlt hs HT.out hgw)
      have HErr : Hid ((rdPen s q).1 ≠ 0 → G = ((rdPen s q).1, [], 0)) := fun h => by
        obtain ⟨m, hm⟩ : ∃ m, n - k = m + 1 := ⟨n - k - 1, by omega⟩
        have h2 := HI.out.go
        rw [hm, cont_err _ _ _ _ h] at h2
        exact h2.symm
      clear HI HT
      generalize (rdPen s q).2.2 = nx at *
      generalize (rdPen s q).1 = er at *
      generalize (rdPen s q).2.1 = x at *
      go_wp2_with fail
      refine (penfields_any g (k * 68) wr).mono ?_
      rintro e w2 ⟨fv, rfl, hfv, hb2⟩
      have HC := hid (HR1.out w2 hb2 fv hfv)
      clear HR1 hfv hb2
      go_wp2_with fail
      refine HC.out.mono ?_
      rintro e w3 ⟨rfl, hb3, hi3⟩
      have HB3 := hid hb3
      have HI3 := hid hi3
      clear HC hb3 hi3
      by_cases he : er = 0
      · have de : ((er : Int) != 0) = false := by simp; omega
        have de' : (er != 0) = false := by simp; omega
        have HJ := hid (HI3.out he)
        clear HI3 HErr he
        go_wp2
        exact ⟨⟨k + 1, nx, _, by omega, by go_num, rfl, HJ⟩, by simp [intOf]; omega⟩
      · have de : ((er : Int) != 0) = true := by simp; omega
        have de' : (er != 0) = true := by simp; omega
        have HE := hid (HErr.out he)
        clear HI3 HErr he
        go_wp2
        go_ret3
        rw [HE.out]
        refine ⟨.slice none 0 0, ?_, PensAt.nil _, (fun a n c h => by cases h), HB3.out⟩
        rfl
    · as_aux_lemma =>
      have hkl : k = n := by omega
      subst hkl
      have dk : decide ((k : Int) < (k : Int)) = false := decide_eq_false (by omega)
      have hGo := HI.out.go
      have hrow := HI.out.row
      rw [Nat.sub_self] at hGo hrow
      have hG2 : G = (0, l, q) := by rw [← hGo]; simp [contP, rdPensN]
      have HE := hid hG2
      have HPs := hid (pens_of_row HI.out.ok hrow)
      rw [HI.out.len] at HPs
      have HB := hid HI.out.bel
      clear HI HT hGo hrow hG2
      go_wp2
      go_ret3
      rw [HE.out]
      refine ⟨_, ?_, HPs.out, (fun a n c h => by cases h; exact hgw), HB.out⟩
      rfl
theorem mkReadPens : ReadOne .pens := by
  intro s p hp hs w ht
  have HRd := hid (Lay.readNumber_any ⟨s.toArray⟩ p hp hs w ht (s.drop p) rfl)
  show Calls Tryz.prog 122 #[st s, nu p] w fun e w' => ∃ cv, e = .returned (.tuple #[cv, nu (rdPens s p).2.2, nu (rdPens s p).1]) ∧ PensAt w' cv (rdPens s p).2.1 ∧ Fr w.heap.size cv ∧ Below w.heap.size w w'
  by_cases h1 : (Lay.readNum (s.drop p)).1 = 0
  · by_cases h2 : (Lay.readNum (s.drop p)).2.1 < 0 ∨ 8 < (Lay.readNum (s.drop p)).2.1
    · rw [rpens_form h1 h2]
      refine readpens_bad s p w _ _ _ _ ?_ HRd
      rcases h2 with h2 | h2
      · exact Or.inr (Or.inl ⟨h1, h2, rfl⟩)
      · exact Or.inr (Or.inr ⟨h1, h2, rfl⟩)
    · rw [rpens_go h1 h2]
      obtain ⟨c, hc, -, hle, -⟩ := base_once .num (by intro h; cases h) s p hp h1
      have hto : Lay.numTo p (s.drop p) = p + (Lay.readNum (s.drop p)).2.2 := by unfold Lay.numTo; rw [if_pos h1]
      have hc' : p + (Lay.readNum (s.drop p)).2.2 = p + c := by
        have : (rdBase .num s p).2.2 = p + (Lay.readNum (s.drop p)).2.2 := by show toP _ _ _ = _; unfold toP; rw [if_pos h1]
        rw [← this]; exact hc
      rw [h1, hto] at HRd
      have hz : (Lay.readNum (s.drop p)).2.1 = (((Lay.readNum (s.drop p)).2.1.toNat : Nat) : Int) := by omega
      refine readpens_good s hs p w ht (Lay.readNum (s.drop p)).2.1.toNat (by omega) (p + (Lay.readNum (s.drop p)).2.2) (by omega) _ rfl ?_
      rw [← hz]
      exact HRd
  · rw [rpens_err h1]
    exact readpens_bad s p w _ _ _ _ (Or.inl ⟨h1, rfl⟩) HRd
end Go.Proofs.YtpnnibddjopniaaGreatDoor.Ms

/-
  Does a list hold what may not be pending: what slices.ContainsFunc answers of msg's test.
-/
namespace Go.Proofs.YtpnnibddjopniaaGreatDoor.Ms
open Go Go.RowKit
set_option maxRecDepth 100000

abbrev tstV : Value := .func (.func 103) #[] #[]
set_option maxHeartbeats 1000000 in
theorem tst_any (p : Pen) (hp : p.Wf) (w : World) : Calls Tryz.prog 103 #[.agg (penC p).toArray] w fun e w' => e = .returned (.bool (!penB p)) ∧ Below w.heap.size w w' := by
  have HB0 := hid (below_a1 w (.cells (penC p).toArray 109))
  have S0 := hid (row_seg (off := 0) (A := []) (cs := penC p) (C := []) (top_obj w (.cells (penC p).toArray 109)) (by simp) rfl)
  have Z0 : (Tryz.prog.info? 109).map (·.size) = some (penC p).length := by rw [penC_len hp]; exact sizePen
  have HC := hid (fun W => penmay_any p hp W)
  generalize penB p = b at *
  generalize penC p = PA at *
  go_enter Tryz.func103, Tryz.ntmps103
  go_upto_region 1 with fail
  generalize w.alloc (.cells PA.toArray 109) = W0 at *
  go_wp2_with (first | ((with_reducible refine wl_load 109 (.tmp 1) ?_ w.heap.size 0 ?_ ?_ PA _ S0.out Tryz.underlying109 ?_ Z0 ?_); exact rfl; exact rfl; exact rfl; exact rfl))
  refine (HC.out _).mono ?_
  rintro e w1 ⟨rfl, hb⟩
  have HB1 := hid (below_two HB0.out hb)
  clear hb HB0 S0 HC
  go_wp2
  go_ret
  exact ⟨rfl, HB1.out⟩
set_option maxHeartbeats 1000000 in
theorem index_any (ps : List Pen) (hl : ps.length ≤ 8) (hp : ∀ p ∈ ps, p.Wf) (w : World) (v : Value) (hv : PensAt w v ps) :
    Calls Tryz.prog 135 #[v, tstV] w fun e w' => ∃ z : Int, e = .returned (nu z) ∧ Below w.heap.size w w' ∧ decide (0 ≤ z) = !(ps.all penB) := by
  have HP := hid hv
  obtain ⟨pa, cap, rfl, -⟩ := hv
  have HW := hid hp
  have HB0 := hid (Below.refl w.heap.size w)
  have HBad : Hid (∀ j, j < ps.length → penB (ps.getD j noPen) = false → ps.all penB = false) := fun j hj h => by
    rw [List.all_eq_false]
    refine ⟨ps.getD j noPen, ?_, by rw [h]; exact Bool.false_ne_true⟩
    simp [List.getD, hj]
  have HAll : Hid ((∀ j, j < ps.length → penB (ps.getD j noPen) = true) → ps.all penB = true) := fun h => by
    rw [List.all_eq_true]
    intro p hq
    obtain ⟨j, hj, rfl⟩ := List.getElem_of_mem hq
    have := h j hj
    simpa [List.getD, hj] using this
  clear hp
  go_enter Tryz.func135, Tryz.ntmps135
  go_wp2
  go_loopw [8] (fun i w' => ∃ k : Nat, k ≤ ps.length ∧ i = .int .i64 k ∧ Hid (∀ j, j < k → penB (ps.getD j noPen) = true) ∧ Hid (Below w.heap.size w w')) (fun i _ => ps.length - (intOf i).toNat)
  case atStart => exact ⟨0, Nat.zero_le _, rfl, (fun j hj => absurd hj (Nat.not_lt_zero j)), HB0⟩
  case round =>
    obtain ⟨k, hk, rfl, HN, HB⟩ := hrel
    clear HB0
    by_cases hlt : k < ps.length
    · as_aux_lemma =>
      have d1 : decide ((k : Int) < (ps.length : Int)) = true := decide_eq_true (by omega)
      have d1' : decide (k < ps.length) = true := decide_eq_true hlt
      obtain ⟨a', c', e', hc⟩ := HP.out.kept HB.out
      cases e'
      obtain ⟨b, off, rfl, hcc⟩ := hc (fun e => by rw [e] at hlt; exact absurd hlt (Nat.not_lt_zero k))
      have wp := getD_wf HW.out k hlt
      have S0 := hid (hcc k hlt)
      have Z0 : (Tryz.prog.info? 109).map (·.size) = some (penC (ps.getD k noPen)).length := by rw [penC_len wp]; exact sizePen
      have HC := hid (fun W => tst_any (ps.getD k noPen) wp W)
      have HF : Hid (penB (ps.getD k noPen) = false → ps.all penB = false) := HBad.out k hlt
      have hon : Hid (penB (ps.getD k noPen) = true → ∀ j, j < k + 1 → penB (ps.getD j noPen) = true) := fun h j hj => by
        by_cases e : j = k
        · rw [e]; exact h
        · exact HN.out j (by omega)
      generalize penB (ps.getD k noPen) = bb at *
      generalize penC (ps.getD k noPen) = PA at *
      clear hc hcc wp HN HBad HAll HP HW
      cases bb with
      | false =>
        have HF' := hid (HF.out rfl)
        clear HF hon
        go_wp2_with (first | ((with_reducible refine wl_load 109 (.tmp 14) ?_ b (off + k * 68) ?_ ?_ PA _ S0.out Tryz.underlying109 ?_ Z0 ?_); exact rfl; exact rfl; exact rfl; exact rfl))
        refine (HC.out _).mono ?_
        rintro e w1 ⟨rfl, hb⟩
        have HB1 := hid (below_two HB.out hb)
        clear hb HB S0 HC
        go_wp2
        go_ret
        exact ⟨_, rfl, HB1.out, by rw [HF'.out]; simp⟩
      | true =>
        have HN' := hid (hon.out rfl)
        clear HF hon
        go_wp2_with (first | ((with_reducible refine wl_load 109 (.tmp 14) ?_ b (off + k * 68) ?_ ?_ PA _ S0.out Tryz.underlying109 ?_ Z0 ?_); exact rfl; exact rfl; exact rfl; exact rfl))
        refine (HC.out _).mono ?_
        rintro e w1 ⟨rfl, hb⟩
        have HB1 := hid (below_two HB.out hb)
        clear hb HB S0 HC
        go_wp2
        exact ⟨⟨k + 1, by omega, by go_num, HN', HB1⟩, by simp [intOf]; omega⟩
    · as_aux_lemma =>
      have hkl : k = ps.length := by omega
      subst hkl
      have dk : decide ((ps.length : Int) < (ps.length : Int)) = false := decide_eq_false (by omega)
      have HA := hid (HAll.out HN.out)
      clear HP HW HN HAll HBad
      go_wp2
      go_ret
      exact ⟨_, rfl, HB.out, by rw [HA.out]; rfl⟩
theorem contains_any (ps : List Pen) (hl : ps.length ≤ 8) (hp : ∀ p ∈ ps, p.Wf) (w : World) (v : Value) (hv : PensAt w v ps) :
    Calls Tryz.prog 102 #[v, tstV] w fun e w' => e = .returned (.bool (!(ps.all penB))) ∧ Below w.heap.size w w' := by
  have HC := hid (index_any ps hl hp w v hv)
  go_enter Tryz.func102, Tryz.ntmps102
  go_wp2_with fail
  refine HC.out.mono ?_
  rintro e w1 ⟨z, rfl, hb, hz⟩
  have HB := hid hb
  clear hb HC
  go_wp2
  go_ret
  exact ⟨by rw [← hz]; rfl, HB.out⟩
end Go.Proofs.YtpnnibddjopniaaGreatDoor.Ms

/-
  Which replies may be: what msg.replyMayBe answers.
-/
namespace Go.Proofs.YtpnnibddjopniaaGreatDoor.Ms
open Go Go.RowKit
set_option maxRecDepth 100000

theorem inB_last (n : Int) : inB n (-1) 7 = ((n == -1) || inB n 0 7) := by rw [Bool.eq_iff_iff, Bool.or_eq_true, inB_iff, inB_iff, beq_iff_eq]; omega
theorem inB_vnum (n : Int) : inB n 0 512 = ((n == 0) || inB n 1 512) := by rw [Bool.eq_iff_iff, Bool.or_eq_true, inB_iff, inB_iff, beq_iff_eq]; omega
theorem viewOk_eq (r : Rep) : viewOk r = ((r.last == -1) == r.view.isEmpty) := by
  unfold viewOk
  generalize r.last = a
  generalize r.view = v
  have e : (a != -1) = !(a == -1) := rfl
  rw [e]
  generalize (a == -1) = b
  cases v <;> cases b <;> rfl
theorem repB_eq (r : Rep) : repB r = (inB r.number 1 512 && (((r.last == -1) || inB r.last 0 7) && (Hist.rightB r.view 8 && (((r.last == -1) == r.view.isEmpty) && (decide (r.pend.length ≤ 8) && (r.pend.all penB && (((r.vnum == 0) || inB r.vnum 1 512) && (decide (r.value.length ≤ 256) && Hist.rightB r.seen 8)))))))) := by
  unfold repB chainB
  rw [viewOk_eq, inB_last, inB_vnum]
  ac_rfl
set_option maxHeartbeats 8000000 in
theorem repmay (r : Rep) (hr : r.Wf) : RepOk r := by
  intro w vP hp
  have HB0 := hid (below_a1 w (.cells (repC r vP).toArray 28))
  have R0 := hid (top_obj w (.cells (repC r vP).toArray 28))
  have HP := hid (hp.kept HB0.out)
  obtain ⟨pa, cap, rfl, -⟩ := hp
  have HCh := hid (repB_eq r)
  have HC : Hid (∀ W, Below (w.alloc (.cells (repC r (.slice pa r.pend.length cap)).toArray 28)).heap.size (w.alloc (.cells (repC r (.slice pa r.pend.length cap)).toArray 28)) W → W.cell? ⟨w.heap.size, 0, none⟩ = some (nu r.number) ∧ W.cell? ⟨w.heap.size, 1, none⟩ = some (nu r.last) ∧ W.cell? ⟨w.heap.size, 2, none⟩ = some (st r.view) ∧ W.cell? ⟨w.heap.size, 35, none⟩ = some (.slice pa r.pend.length cap) ∧ W.cell? ⟨w.heap.size, 36, none⟩ = some (nu r.vnum) ∧ W.cell? ⟨w.heap.size, 37, none⟩ = some (st r.value) ∧ W.cell? ⟨w.heap.size, 70, none⟩ = some (st r.seen)) := fun W hb => by
    have h := row_kept R0.out hb
    exact ⟨rrow_number h hr, rrow_last h hr, rrow_view h hr, rrow_P h hr, rrow_vnum h hr, rrow_value h hr, rrow_seen h hr⟩
  have K_a := hid (fun W => isnumber_any r.number W)
  have K_b := hid (fun W => isclient_any r.last W)
  have K_c := hid (fun W => Hist.right_any r.view 8 W)
  have K_f : Hid (r.pend.length ≤ 8 → ∀ W, Below (w.alloc (.cells (repC r (.slice pa r.pend.length cap)).toArray 28)).heap.size (w.alloc (.cells (repC r (.slice pa r.pend.length cap)).toArray 28)) W → Calls Tryz.prog 102 #[.slice pa r.pend.length cap, tstV] W fun e w' => e = .returned (.bool (!(r.pend.all penB))) ∧ Below W.heap.size W w') := fun hl W hb => contains_any r.pend hl hr.pend W _ (HP.out.kept hb)
  have K_g := hid (fun W => isnumber_any r.vnum W)
  have K_i := hid (fun W => Hist.right_any r.seen 8 W)
  obtain ⟨BB, hBB⟩ : ∃ BB, BB = repB r := ⟨_, rfl⟩
  rw [← hBB] at HCh ⊢
  clear hBB R0 HP hr
  generalize (repC r (.slice pa r.pend.length cap)).toArray = RA at *
  generalize r.pend.all penB = b_f at *
  generalize Hist.rightB r.view 8 = b_c at *
  generalize Hist.rightB r.seen 8 = b_i at *
  generalize inB r.number 1 512 = b_a at *
  generalize r.number = x_a at *
  generalize inB r.last 0 7 = b_b at *
  generalize r.last = x_l at *
  generalize r.view = x_v at *
  generalize inB r.vnum 1 512 = b_g at *
  generalize r.vnum = x_n at *
  generalize r.value = x_w at *
  generalize r.seen = x_s at *
  generalize r.pend.length = x_p at *
  go_enter Tryz.func76, Tryz.ntmps76
  go_upto_region 1 with fail
  generalize w.alloc (.cells RA 28) = W0 at *
  obtain ⟨g, hg⟩ : ∃ g, g = w.heap.size := ⟨_, rfl⟩
  rw [← hg] at HC ⊢
  clear hg
  have HW := hid (Below.refl W0.heap.size W0)
  obtain ⟨c0, c1, c2, c3, c4, c5, c6⟩ := HC.out _ HW.out
  cases b_a with
  | false => as_aux_lemma =>
    have HF : Hid (BB = false) := by show _ = _; rw [HCh.out]; simp
    clear HCh
    go_wp2_with fail
    refine (K_a.out _).mono ?_
    rintro e v ⟨rfl, hv⟩
    subst v
    go_wp2
    go_ret
    exact ⟨by rw [HF.out]; rfl, below_two HB0.out HW.out⟩
  | true =>
    cases h_l : (x_l == -1) with
    | false =>
      cases b_b with
      | false => as_aux_lemma =>
        have HF : Hid (BB = false) := by show _ = _; rw [HCh.out]; simp [h_l]
        clear HCh
        go_wp2_with fail
        refine (K_a.out _).mono ?_
        rintro e v ⟨rfl, hv⟩
        subst v
        go_wp2_with fail
        refine (K_b.out _).mono ?_
        rintro e v ⟨rfl, hv⟩
        subst v
        go_wp2
        go_ret
        exact ⟨by rw [HF.out]; rfl, below_two HB0.out HW.out⟩
      | true =>
        cases b_c with
        | false => as_aux_lemma =>
          have HF : Hid (BB = false) := by show _ = _; rw [HCh.out]; simp [h_l]
          clear HCh
          go_wp2_with fail
          refine (K_a.out _).mono ?_
          rintro e v ⟨rfl, hv⟩
          subst v
          go_wp2_with fail
          refine (K_b.out _).mono ?_
          rintro e v ⟨rfl, hv⟩
          subst v
          go_wp2_with fail
          refine (K_c.out _).mono ?_
          rintro e w1 ⟨rfl, hb⟩
          have HW1 := hid (below_two HW.out hb)
          clear hb c0 c1 c2 c3 c4 c5 c6
          obtain ⟨c0, c1, c2, c3, c4, c5, c6⟩ := HC.out _ HW1.out
          go_wp2
          go_ret
          exact ⟨by rw [HF.out]; rfl, below_two HB0.out HW1.out⟩
        | true =>
          cases h_v : x_v.isEmpty with
          | false =>
            have hne : ¬ x_v = [] := fun e => by rw [e] at h_v; cases h_v
            by_cases h_p : x_p ≤ 8
            · have dp : decide ((x_p : Int) ≤ 8) = true := decide_eq_true (by omega)
              have dp' : decide (x_p ≤ 8) = true := decide_eq_true h_p
              have K_f' := hid (K_f.out h_p)
              cases b_f with
              | false => as_aux_lemma =>
                have HF : Hid (BB = false) := by show _ = _; rw [HCh.out]; simp [h_l, h_v]
                clear HCh
                go_wp2_with fail
                refine (K_a.out _).mono ?_
                rintro e v ⟨rfl, hv⟩
                subst v
                go_wp2_with fail
                refine (K_b.out _).mono ?_
                rintro e v ⟨rfl, hv⟩
                subst v
                go_wp2_with fail
                refine (K_c.out _).mono ?_
                rintro e w1 ⟨rfl, hb⟩
                have HW1 := hid (below_two HW.out hb)
                clear hb c0 c1 c2 c3 c4 c5 c6
                obtain ⟨c0, c1, c2, c3, c4, c5, c6⟩ := HC.out _ HW1.out
                go_wp2_with fail
                refine (K_f'.out _ HW1.out).mono ?_
                rintro e w2 ⟨rfl, hb⟩
                have HW2 := hid (below_two HW1.out hb)
                clear hb c0 c1 c2 c3 c4 c5 c6
                obtain ⟨c0, c1, c2, c3, c4, c5, c6⟩ := HC.out _ HW2.out
                go_wp2
                go_ret
                exact ⟨by rw [HF.out]; rfl, below_two HB0.out HW2.out⟩
              | true =>
                cases h_n : (x_n == 0) with
                | false =>
                  cases b_g with
                  | false => as_aux_lemma =>
                    have HF : Hid (BB = false) := by show _ = _; rw [HCh.out]; simp [h_l, h_v, h_n]
                    clear HCh
                    go_wp2_with fail
                    refine (K_a.out _).mono ?_
                    rintro e v ⟨rfl, hv⟩
                    subst v
                    go_wp2_with fail
                    refine (K_b.out _).mono ?_
                    rintro e v ⟨rfl, hv⟩
                    subst v
                    go_wp2_with fail
                    refine (K_c.out _).mono ?_
                    rintro e w1 ⟨rfl, hb⟩
                    have HW1 := hid (below_two HW.out hb)
                    clear hb c0 c1 c2 c3 c4 c5 c6
                    obtain ⟨c0, c1, c2, c3, c4, c5, c6⟩ := HC.out _ HW1.out
                    go_wp2_with fail
                    refine (K_f'.out _ HW1.out).mono ?_
                    rintro e w2 ⟨rfl, hb⟩
                    have HW2 := hid (below_two HW1.out hb)
                    clear hb c0 c1 c2 c3 c4 c5 c6
                    obtain ⟨c0, c1, c2, c3, c4, c5, c6⟩ := HC.out _ HW2.out
                    go_wp2_with fail
                    refine (K_g.out _).mono ?_
                    rintro e v ⟨rfl, hv⟩
                    subst v
                    go_wp2
                    go_ret
                    exact ⟨by rw [HF.out]; rfl, below_two HB0.out HW2.out⟩
                  | true =>
                    by_cases h_w : x_w.length ≤ 256
                    · as_aux_lemma =>
                      have dw : decide ((x_w.length : Int) ≤ 256) = true := decide_eq_true (by omega)
                      have dw' : decide (x_w.length ≤ 256) = true := decide_eq_true h_w
                      have HF : Hid (BB = b_i) := by show _ = _; rw [HCh.out]; simp [h_l, h_v, h_n, h_p, h_w]
                      clear HCh
                      go_wp2_with fail
                      refine (K_a.out _).mono ?_
                      rintro e v ⟨rfl, hv⟩
                      subst v
                      go_wp2_with fail
                      refine (K_b.out _).mono ?_
                      rintro e v ⟨rfl, hv⟩
                      subst v
                      go_wp2_with fail
                      refine (K_c.out _).mono ?_
                      rintro e w1 ⟨rfl, hb⟩
                      have HW1 := hid (below_two HW.out hb)
                      clear hb c0 c1 c2 c3 c4 c5 c6
                      obtain ⟨c0, c1, c2, c3, c4, c5, c6⟩ := HC.out _ HW1.out
                      go_wp2_with fail
                      refine (K_f'.out _ HW1.out).mono ?_
                      rintro e w2 ⟨rfl, hb⟩
                      have HW2 := hid (below_two HW1.out hb)
                      clear hb c0 c1 c2 c3 c4 c5 c6
                      obtain ⟨c0, c1, c2, c3, c4, c5, c6⟩ := HC.out _ HW2.out
                      go_wp2_with fail
                      refine (K_g.out _).mono ?_
                      rintro e v ⟨rfl, hv⟩
                      subst v
                      go_wp2_with fail
                      refine (K_i.out _).mono ?_
                      rintro e w3 ⟨rfl, hb⟩
                      have HW3 := hid (below_two HW2.out hb)
                      clear hb c0 c1 c2 c3 c4 c5 c6
                      obtain ⟨c0, c1, c2, c3, c4, c5, c6⟩ := HC.out _ HW3.out
                      go_wp2
                      go_ret
                      exact ⟨by rw [HF.out]; rfl, below_two HB0.out HW3.out⟩
                    · as_aux_lemma =>
                      have dw : decide ((x_w.length : Int) ≤ 256) = false := decide_eq_false (by omega)
                      have dw' : decide (x_w.length ≤ 256) = false := decide_eq_false h_w
                      have HF : Hid (BB = false) := by show _ = _; rw [HCh.out]; simp [h_l, h_v, h_n, h_w]
                      clear HCh
                      go_wp2_with fail
                      refine (K_a.out _).mono ?_
                      rintro e v ⟨rfl, hv⟩
                      subst v
                      go_wp2_with fail
                      refine (K_b.out _).mono ?_
                      rintro e v ⟨rfl, hv⟩
                      subst v
                      go_wp2_with fail
                      refine (K_c.out _).mono ?_
                      rintro e w1 ⟨rfl, hb⟩
                      have HW1 := hid (below_two HW.out hb)
                      clear hb c0 c1 c2 c3 c4 c5 c6
                      obtain ⟨c0, c1, c2, c3, c4, c5, c6⟩ := HC.out _ HW1.out
                      go_wp2_with fail
                      refine (K_f'.out _ HW1.out).mono ?_
                      rintro e w2 ⟨rfl, hb⟩
                      have HW2 := hid (below_two HW1.out hb)
                      clear hb c0 c1 c2 c3 c4 c5 c6
                      obtain ⟨c0, c1, c2, c3, c4, c5, c6⟩ := HC.out _ HW2.out
                      go_wp2_with fail
                      refine (K_g.out _).mono ?_
                      rintro e v ⟨rfl, hv⟩
                      subst v
                      go_wp2
                      go_ret
                      exact ⟨by rw [HF.out]; rfl, below_two HB0.out HW2.out⟩
                | true =>
                  by_cases h_w : x_w.length ≤ 256
                  · as_aux_lemma =>
                    have dw : decide ((x_w.length : Int) ≤ 256) = true := decide_eq_true (by omega)
                    have dw' : decide (x_w.length ≤ 256) = true := decide_eq_true h_w
                    have HF : Hid (BB = b_i) := by show _ = _; rw [HCh.out]; simp [h_l, h_v, h_n, h_p, h_w]
                    clear HCh
                    go_wp2_with fail
                    refine (K_a.out _).mono ?_
                    rintro e v ⟨rfl, hv⟩
                    subst v
                    go_wp2_with fail
                    refine (K_b.out _).mono ?_
                    rintro e v ⟨rfl, hv⟩
                    subst v
                    go_wp2_with fail
                    refine (K_c.out _).mono ?_
                    rintro e w1 ⟨rfl, hb⟩
                    have HW1 := hid (below_two HW.out hb)
                    clear hb c0 c1 c2 c3 c4 c5 c6
                    obtain ⟨c0, c1, c2, c3, c4, c5, c6⟩ := HC.out _ HW1.out
                    go_wp2_with fail
                    refine (K_f'.out _ HW1.out).mono ?_
                    rintro e w2 ⟨rfl, hb⟩
                    have HW2 := hid (below_two HW1.out hb)
                    clear hb c0 c1 c2 c3 c4 c5 c6
                    obtain ⟨c0, c1, c2, c3, c4, c5, c6⟩ := HC.out _ HW2.out
                    go_wp2_with fail
                    refine (K_i.out _).mono ?_
                    rintro e w3 ⟨rfl, hb⟩
                    have HW3 := hid (below_two HW2.out hb)
                    clear hb c0 c1 c2 c3 c4 c5 c6
                    obtain ⟨c0, c1, c2, c3, c4, c5, c6⟩ := HC.out _ HW3.out
                    go_wp2
                    go_ret
                    exact ⟨by rw [HF.out]; rfl, below_two HB0.out HW3.out⟩
                  · as_aux_lemma =>
                    have dw : decide ((x_w.length : Int) ≤ 256) = false := decide_eq_false (by omega)
                    have dw' : decide (x_w.length ≤ 256) = false := decide_eq_false h_w
                    have HF : Hid (BB = false) := by show _ = _; rw [HCh.out]; simp [h_l, h_v, h_n, h_w]
                    clear HCh
                    go_wp2_with fail
                    refine (K_a.out _).mono ?_
                    rintro e v ⟨rfl, hv⟩
                    subst v
                    go_wp2_with fail
                    refine (K_b.out _).mono ?_
                    rintro e v ⟨rfl, hv⟩
                    subst v
                    go_wp2_with fail
                    refine (K_c.out _).mono ?_
                    rintro e w1 ⟨rfl, hb⟩
                    have HW1 := hid (below_two HW.out hb)
                    clear hb c0 c1 c2 c3 c4 c5 c6
                    obtain ⟨c0, c1, c2, c3, c4, c5, c6⟩ := HC.out _ HW1.out
                    go_wp2_with fail
                    refine (K_f'.out _ HW1.out).mono ?_
                    rintro e w2 ⟨rfl, hb⟩
                    have HW2 := hid (below_two HW1.out hb)
                    clear hb c0 c1 c2 c3 c4 c5 c6
                    obtain ⟨c0, c1, c2, c3, c4, c5, c6⟩ := HC.out _ HW2.out
                    go_wp2
                    go_ret
                    exact ⟨by rw [HF.out]; rfl, below_two HB0.out HW2.out⟩
            · as_aux_lemma =>
              have dp : decide ((x_p : Int) ≤ 8) = false := decide_eq_false (by omega)
              have dp' : decide (x_p ≤ 8) = false := decide_eq_false h_p
              have HF : Hid (BB = false) := by show _ = _; rw [HCh.out]; simp [h_l, h_v, h_p]
              clear HCh
              go_wp2_with fail
              refine (K_a.out _).mono ?_
              rintro e v ⟨rfl, hv⟩
              subst v
              go_wp2_with fail
              refine (K_b.out _).mono ?_
              rintro e v ⟨rfl, hv⟩
              subst v
              go_wp2_with fail
              refine (K_c.out _).mono ?_
              rintro e w1 ⟨rfl, hb⟩
              have HW1 := hid (below_two HW.out hb)
              clear hb c0 c1 c2 c3 c4 c5 c6
              obtain ⟨c0, c1, c2, c3, c4, c5, c6⟩ := HC.out _ HW1.out
              go_wp2
              go_ret
              exact ⟨by rw [HF.out]; rfl, below_two HB0.out HW1.out⟩
          | true => as_aux_lemma =>
            obtain rfl : x_v = [] := List.isEmpty_iff.1 h_v
            clear h_v
            have HF : Hid (BB = false) := by show _ = _; rw [HCh.out]; simp [h_l]
            clear HCh
            go_wp2_with fail
            refine (K_a.out _).mono ?_
            rintro e v ⟨rfl, hv⟩
            subst v
            go_wp2_with fail
            refine (K_b.out _).mono ?_
            rintro e v ⟨rfl, hv⟩
            subst v
            go_wp2_with fail
            refine (K_c.out _).mono ?_
            rintro e w1 ⟨rfl, hb⟩
            have HW1 := hid (below_two HW.out hb)
            clear hb c0 c1 c2 c3 c4 c5 c6
            obtain ⟨c0, c1, c2, c3, c4, c5, c6⟩ := HC.out _ HW1.out
            go_wp2
            go_ret
            exact ⟨by rw [HF.out]; rfl, below_two HB0.out HW1.out⟩
    | true =>
      cases b_c with
      | false => as_aux_lemma =>
        have HF : Hid (BB = false) := by show _ = _; rw [HCh.out]; simp [h_l]
        clear HCh
        go_wp2_with fail
        refine (K_a.out _).mono ?_
        rintro e v ⟨rfl, hv⟩
        subst v
        go_wp2_with fail
        refine (K_c.out _).mono ?_
        rintro e w1 ⟨rfl, hb⟩
        have HW1 := hid (below_two HW.out hb)
        clear hb c0 c1 c2 c3 c4 c5 c6
        obtain ⟨c0, c1, c2, c3, c4, c5, c6⟩ := HC.out _ HW1.out
        go_wp2
        go_ret
        exact ⟨by rw [HF.out]; rfl, below_two HB0.out HW1.out⟩
      | true =>
        cases h_v : x_v.isEmpty with
        | false => as_aux_lemma =>
          have hne : ¬ x_v = [] := fun e => by rw [e] at h_v; cases h_v
          have HF : Hid (BB = false) := by show _ = _; rw [HCh.out]; simp [h_l, h_v]
          clear HCh
          go_wp2_with fail
          refine (K_a.out _).mono ?_
          rintro e v ⟨rfl, hv⟩
          subst v
          go_wp2_with fail
          refine (K_c.out _).mono ?_
          rintro e w1 ⟨rfl, hb⟩
          have HW1 := hid (below_two HW.out hb)
          clear hb c0 c1 c2 c3 c4 c5 c6
          obtain ⟨c0, c1, c2, c3, c4, c5, c6⟩ := HC.out _ HW1.out
          go_wp2
          go_ret
          exact ⟨by rw [HF.out]; rfl, below_two HB0.out HW1.out⟩
        | true =>
          obtain rfl : x_v = [] := List.isEmpty_iff.1 h_v
          clear h_v
          by_cases h_p : x_p ≤ 8
          · have dp : decide ((x_p : Int) ≤ 8) = true := decide_eq_true (by omega)
            have dp' : decide (x_p ≤ 8) = true := decide_eq_true h_p
            have K_f' := hid (K_f.out h_p)
            cases b_f with
            | false => as_aux_lemma =>
              have HF : Hid (BB = false) := by show _ = _; rw [HCh.out]; simp [h_l]
              clear HCh
              go_wp2_with fail
              refine (K_a.out _).mono ?_
              rintro e v ⟨rfl, hv⟩
              subst v
              go_wp2_with fail
              refine (K_c.out _).mono ?_
              rintro e w1 ⟨rfl, hb⟩
              have HW1 := hid (below_two HW.out hb)
              clear hb c0 c1 c2 c3 c4 c5 c6
              obtain ⟨c0, c1, c2, c3, c4, c5, c6⟩ := HC.out _ HW1.out
              go_wp2_with fail
              refine (K_f'.out _ HW1.out).mono ?_
              rintro e w2 ⟨rfl, hb⟩
              have HW2 := hid (below_two HW1.out hb)
              clear hb c0 c1 c2 c3 c4 c5 c6
              obtain ⟨c0, c1, c2, c3, c4, c5, c6⟩ := HC.out _ HW2.out
              go_wp2
              go_ret
              exact ⟨by rw [HF.out]; rfl, below_two HB0.out HW2.out⟩
            | true =>
              cases h_n : (x_n == 0) with
              | false =>
                cases b_g with
                | false => as_aux_lemma =>
                  have HF : Hid (BB = false) := by show _ = _; rw [HCh.out]; simp [h_l, h_n]
                  clear HCh
                  go_wp2_with fail
                  refine (K_a.out _).mono ?_
                  rintro e v ⟨rfl, hv⟩
                  subst v
                  go_wp2_with fail
                  refine (K_c.out _).mono ?_
                  rintro e w1 ⟨rfl, hb⟩
                  have HW1 := hid (below_two HW.out hb)
                  clear hb c0 c1 c2 c3 c4 c5 c6
                  obtain ⟨c0, c1, c2, c3, c4, c5, c6⟩ := HC.out _ HW1.out
                  go_wp2_with fail
                  refine (K_f'.out _ HW1.out).mono ?_
                  rintro e w2 ⟨rfl, hb⟩
                  have HW2 := hid (below_two HW1.out hb)
                  clear hb c0 c1 c2 c3 c4 c5 c6
                  obtain ⟨c0, c1, c2, c3, c4, c5, c6⟩ := HC.out _ HW2.out
                  go_wp2_with fail
                  refine (K_g.out _).mono ?_
                  rintro e v ⟨rfl, hv⟩
                  subst v
                  go_wp2
                  go_ret
                  exact ⟨by rw [HF.out]; rfl, below_two HB0.out HW2.out⟩
                | true =>
                  by_cases h_w : x_w.length ≤ 256
                  · as_aux_lemma =>
                    have dw : decide ((x_w.length : Int) ≤ 256) = true := decide_eq_true (by omega)
                    have dw' : decide (x_w.length ≤ 256) = true := decide_eq_true h_w
                    have HF : Hid (BB = b_i) := by show _ = _; rw [HCh.out]; simp [h_l, h_n, h_p, h_w]
                    clear HCh
                    go_wp2_with fail
                    refine (K_a.out _).mono ?_
                    rintro e v ⟨rfl, hv⟩
                    subst v
                    go_wp2_with fail
                    refine (K_c.out _).mono ?_
                    rintro e w1 ⟨rfl, hb⟩
                    have HW1 := hid (below_two HW.out hb)
                    clear hb c0 c1 c2 c3 c4 c5 c6
                    obtain ⟨c0, c1, c2, c3, c4, c5, c6⟩ := HC.out _ HW1.out
                    go_wp2_with fail
                    refine (K_f'.out _ HW1.out).mono ?_
                    rintro e w2 ⟨rfl, hb⟩
                    have HW2 := hid (below_two HW1.out hb)
                    clear hb c0 c1 c2 c3 c4 c5 c6
                    obtain ⟨c0, c1, c2, c3, c4, c5, c6⟩ := HC.out _ HW2.out
                    go_wp2_with fail
                    refine (K_g.out _).mono ?_
                    rintro e v ⟨rfl, hv⟩
                    subst v
                    go_wp2_with fail
                    refine (K_i.out _).mono ?_
                    rintro e w3 ⟨rfl, hb⟩
                    have HW3 := hid (below_two HW2.out hb)
                    clear hb c0 c1 c2 c3 c4 c5 c6
                    obtain ⟨c0, c1, c2, c3, c4, c5, c6⟩ := HC.out _ HW3.out
                    go_wp2
                    go_ret
                    exact ⟨by rw [HF.out]; rfl, below_two HB0.out HW3.out⟩
                  · as_aux_lemma =>
                    have dw : decide ((x_w.length : Int) ≤ 256) = false := decide_eq_false (by omega)
                    have dw' : decide (x_w.length ≤ 256) = false := decide_eq_false h_w
                    have HF : Hid (BB = false) := by show _ = _; rw [HCh.out]; simp [h_l, h_n, h_w]
                    clear HCh
                    go_wp2_with fail
                    refine (K_a.out _).mono ?_
                    rintro e v ⟨rfl, hv⟩
                    subst v
                    go_wp2_with fail
                    refine (K_c.out _).mono ?_
                    rintro e w1 ⟨rfl, hb⟩
                    have HW1 := hid (below_two HW.out hb)
                    clear hb c0 c1 c2 c3 c4 c5 c6
                    obtain ⟨c0, c1, c2, c3, c4, c5, c6⟩ := HC.out _ HW1.out
                    go_wp2_with fail
                    refine (K_f'.out _ HW1.out).mono ?_
                    rintro e w2 ⟨rfl, hb⟩
                    have HW2 := hid (below_two HW1.out hb)
                    clear hb c0 c1 c2 c3 c4 c5 c6
                    obtain ⟨c0, c1, c2, c3, c4, c5, c6⟩ := HC.out _ HW2.out
                    go_wp2_with fail
                    refine (K_g.out _).mono ?_
                    rintro e v ⟨rfl, hv⟩
                    subst v
                    go_wp2
                    go_ret
                    exact ⟨by rw [HF.out]; rfl, below_two HB0.out HW2.out⟩
              | true =>
                by_cases h_w : x_w.length ≤ 256
                · as_aux_lemma =>
                  have dw : decide ((x_w.length : Int) ≤ 256) = true := decide_eq_true (by omega)
                  have dw' : decide (x_w.length ≤ 256) = true := decide_eq_true h_w
                  have HF : Hid (BB = b_i) := by show _ = _; rw [HCh.out]; simp [h_l, h_n, h_p, h_w]
                  clear HCh
                  go_wp2_with fail
                  refine (K_a.out _).mono ?_
                  rintro e v ⟨rfl, hv⟩
                  subst v
                  go_wp2_with fail
                  refine (K_c.out _).mono ?_
                  rintro e w1 ⟨rfl, hb⟩
                  have HW1 := hid (below_two HW.out hb)
                  clear hb c0 c1 c2 c3 c4 c5 c6
                  obtain ⟨c0, c1, c2, c3, c4, c5, c6⟩ := HC.out _ HW1.out
                  go_wp2_with fail
                  refine (K_f'.out _ HW1.out).mono ?_
                  rintro e w2 ⟨rfl, hb⟩
                  have HW2 := hid (below_two HW1.out hb)
                  clear hb c0 c1 c2 c3 c4 c5 c6
                  obtain ⟨c0, c1, c2, c3, c4, c5, c6⟩ := HC.out _ HW2.out
                  go_wp2_with fail
                  refine (K_i.out _).mono ?_
                  rintro e w3 ⟨rfl, hb⟩
                  have HW3 := hid (below_two HW2.out hb)
                  clear hb c0 c1 c2 c3 c4 c5 c6
                  obtain ⟨c0, c1, c2, c3, c4, c5, c6⟩ := HC.out _ HW3.out
                  go_wp2
                  go_ret
                  exact ⟨by rw [HF.out]; rfl, below_two HB0.out HW3.out⟩
                · as_aux_lemma =>
                  have dw : decide ((x_w.length : Int) ≤ 256) = false := decide_eq_false (by omega)
                  have dw' : decide (x_w.length ≤ 256) = false := decide_eq_false h_w
                  have HF : Hid (BB = false) := by show _ = _; rw [HCh.out]; simp [h_l, h_n, h_w]
                  clear HCh
                  go_wp2_with fail
                  refine (K_a.out _).mono ?_
                  rintro e v ⟨rfl, hv⟩
                  subst v
                  go_wp2_with fail
                  refine (K_c.out _).mono ?_
                  rintro e w1 ⟨rfl, hb⟩
                  have HW1 := hid (below_two HW.out hb)
                  clear hb c0 c1 c2 c3 c4 c5 c6
                  obtain ⟨c0, c1, c2, c3, c4, c5, c6⟩ := HC.out _ HW1.out
                  go_wp2_with fail
                  refine (K_f'.out _ HW1.out).mono ?_
                  rintro e w2 ⟨rfl, hb⟩
                  have HW2 := hid (below_two HW1.out hb)
                  clear hb c0 c1 c2 c3 c4 c5 c6
                  obtain ⟨c0, c1, c2, c3, c4, c5, c6⟩ := HC.out _ HW2.out
                  go_wp2
                  go_ret
                  exact ⟨by rw [HF.out]; rfl, below_two HB0.out HW2.out⟩
          · as_aux_lemma =>
            have dp : decide ((x_p : Int) ≤ 8) = false := decide_eq_false (by omega)
            have dp' : decide (x_p ≤ 8) = false := decide_eq_false h_p
            have HF : Hid (BB = false) := by show _ = _; rw [HCh.out]; simp [h_l, h_p]
            clear HCh
            go_wp2_with fail
            refine (K_a.out _).mono ?_
            rintro e v ⟨rfl, hv⟩
            subst v
            go_wp2_with fail
            refine (K_c.out _).mono ?_
            rintro e w1 ⟨rfl, hb⟩
            have HW1 := hid (below_two HW.out hb)
            clear hb c0 c1 c2 c3 c4 c5 c6
            obtain ⟨c0, c1, c2, c3, c4, c5, c6⟩ := HC.out _ HW1.out
            go_wp2
            go_ret
            exact ⟨by rw [HF.out]; rfl, below_two HB0.out HW1.out⟩
end Go.Proofs.YtpnnibddjopniaaGreatDoor.Ms

/-
  What the reference lays of texts, digests and numbers (R10.Text, Dig, Ints, Numbered, Asked), given what R01.Digits, R01.Number and R02.Bytes answer.
-/
namespace Go.Proofs.YtpnnibddjopniaaGreatDoor.Ms
open Go Go.RowKit
set_option maxRecDepth 100000

/-- What R01.Digits, R01.Number and R02.Bytes answer. -/
def DigOk : Prop := ∀ (u : Nat), u ≤ 9223372036854775807 → ∀ (w : World), Calls Tryz.prog 63 #[.int .i64 u] w fun e w' => e = .returned (.string ⟨(Lib.decDigits u).toArray⟩) ∧ Below w.heap.size w w'
def NumOk : Prop := ∀ (n : Int), -9223372036854775808 ≤ n → n ≤ 9223372036854775807 → ∀ (w : World), Calls Tryz.prog 39 #[.int .i64 n] w fun e w' => e = .returned (.string ⟨(Lib.itoa n ++ [59]).toArray⟩) ∧ Below w.heap.size w w'
def BytOk : Prop := ∀ (l : List UInt8), l.length = 32 → ∀ (w : World), Calls Tryz.prog 34 #[.agg (dg l).toArray] w fun e w' => e = .returned (.string ⟨l.toArray⟩) ∧ Below w.heap.size w w'

set_option maxHeartbeats 2000000 in
theorem rtext_any (hD : DigOk) (s : List UInt8) (hs : s.length ≤ 1000000000) (w : World) : Calls Tryz.prog 36 #[.string ⟨s.toArray⟩] w fun e w' => e = .returned (.string ⟨(txtB s).toArray⟩) ∧ Below w.heap.size w w' := by
  have HD := hid (hD s.length (by omega) w)
  have hl := dec_len s.length (by omega)
  have hss : (⟨s.toArray⟩ : ByteArray).size = s.length := rfl
  unfold txtB
  generalize Lib.decDigits s.length = d at *
  have e1 := str_app d [58]
  have e2 := str_app (d ++ [58]) s
  have hds : (⟨d.toArray⟩ : ByteArray).size = d.length := rfl
  have hds2 : (⟨(d ++ [58]).toArray⟩ : ByteArray).size = d.length + 1 := by show (d ++ [58]).length = _; simp
  clear hD
  go_enter Tryz.func36, Tryz.ntmps36
  go_wp2_with fail
  refine HD.out.mono ?_
  rintro e w1 ⟨rfl, hb⟩
  have HB := hid hb
  clear hb
  go_wp2
  go_ret
  exact ⟨(by show Ending.returned (Value.string ⟨(d ++ 58 :: s).toArray⟩) = _; simp), HB.out⟩

set_option maxHeartbeats 2000000 in
theorem rdig_any (hD : DigOk) (hY : BytOk) (d : List UInt8) (hd : d.length = 32) (w : World) : Calls Tryz.prog 37 #[.agg (dg d).toArray] w fun e w' => e = .returned (.string ⟨(txtB d).toArray⟩) ∧ Below w.heap.size w w' := by
  have HB0 := hid (below_a1 w (.cells (dg d).toArray 23))
  have r0 := top_obj w (.cells (dg d).toArray 23)
  have S0 := hid (row_seg (off := 0) (A := []) (cs := dg d) (C := []) r0 (by simp) rfl)
  have Z0 : (Tryz.prog.info? 23).map (·.size) = some (dg d).length := by rw [dg_len, hd]; exact sizeDig
  have HY := hid (fun W => hY d hd W)
  have HT := hid (fun W => rtext_any hD d (by omega) W)
  generalize txtB d = t at *
  generalize dg d = D at *
  clear hD hY hd r0
  go_enter Tryz.func37, Tryz.ntmps37
  go_upto_region 1 with fail
  generalize w.alloc (.cells D.toArray 23) = W0 at *
  go_wp2_with (first | ((with_reducible refine wl_load 23 (.tmp 1) ?_ w.heap.size 0 ?_ ?_ D _ S0.out Tryz.underlying23 ?_ Z0 ?_); exact rfl; exact rfl; exact rfl; exact rfl))
  refine (HY.out _).mono ?_
  rintro e w1 ⟨rfl, hb⟩
  have HB1 := hid (below_two HB0.out hb)
  clear hb
  go_wp2_with fail
  refine (HT.out _).mono ?_
  rintro e w2 ⟨rfl, hb⟩
  have HB2 := hid (below_two HB1.out hb)
  clear hb
  go_wp2
  go_ret
  exact ⟨rfl, HB2.out⟩

set_option maxHeartbeats 2000000 in
theorem rnints_any (hN : NumOk) {w : World} {v : Value} {ks : List Int} (hv : IntsAt w v ks) (hk : ∀ n ∈ ks, I64 n) (hl : ks.length ≤ 1000000) : Calls Tryz.prog 35 #[v] w fun e w' => e = .returned (.string ⟨(intsB ks).toArray⟩) ∧ Below w.heap.size w w' := by
  have HV := hid hv
  obtain ⟨a, cap, rfl, -⟩ := hv
  have HN := hid hN
  have HK := hid hk
  have HB0 := hid (Below.refl w.heap.size w)
  clear hk hN
  go_enter Tryz.func35, Tryz.ntmps35
  go_wp2
  go_loopw [3, 4] (fun o i w' => ∃ j : Nat, j ≤ ks.length ∧ i = .int .i64 j ∧ o = .string ⟨(intsB (ks.take j)).toArray⟩ ∧ Hid (Below w.heap.size w w')) (fun _ i _ => ks.length - (intOf i).toNat)
  case atStart => exact ⟨0, by omega, rfl, rfl, HB0.out⟩
  case round =>
    obtain ⟨j, hj, rfl, rfl, HB⟩ := hrel
    by_cases hlt : j < ks.length
    · have d1 : decide ((j : Int) < (ks.length : Int)) = true := decide_eq_true (by omega)
      have d1' : decide (j < ks.length) = true := decide_eq_true hlt
      obtain ⟨a', c', e', hc⟩ := HV.out.kept HB.out
      cases e'
      obtain ⟨b, off, rfl, hcc⟩ := hc (fun e => by rw [e] at hlt; exact absurd hlt (Nat.not_lt_zero j))
      have cj : wr.cell? ⟨b, off + j, none⟩ = some (.int .i64 (ks.getD j 0)) := hcc j hlt
      have hmem : ks.getD j 0 ∈ ks := by simp [List.getD, hlt]
      have h64 := HK.out _ hmem
      have HNj := hid (fun W => HN.out (ks.getD j 0) h64.1 h64.2 W)
      have hn22 := numB_len _ h64
      have hol := intsB_len (ks.take j) (fun n hn => HK.out n (List.mem_of_mem_take hn))
      rw [List.length_take] at hol
      have HS := hid (intsB_snoc ks j hlt)
      have happ := str_app (intsB (ks.take j)) (numB (ks.getD j 0))
      have hnb : Lib.itoa (ks.getD j 0) ++ [59] = numB (ks.getD j 0) := rfl
      rw [hnb] at HNj
      generalize numB (ks.getD j 0) = nb at *
      generalize ks.getD j 0 = x at *
      generalize intsB (ks.take j) = o at *
      have hs1 : (⟨nb.toArray⟩ : ByteArray).size = nb.length := rfl
      have hs2 : (⟨o.toArray⟩ : ByteArray).size = o.length := rfl
      have ho2 : o.length ≤ 22000000 := by omega
      clear hc hcc hmem h64 HK HN hnb hol
      go_wp2_with fail
      refine (HNj.out _).mono ?_
      rintro e w1 ⟨rfl, hb⟩
      have HB1 := hid (below_two HB.out hb)
      clear hb
      go_wp2
      exact ⟨⟨j + 1, by omega, by go_num, by rw [HS.out], HB1.out⟩, by simp [intOf]; omega⟩
    · obtain rfl : j = ks.length := by omega
      have HT : Hid (intsB (ks.take ks.length) = intsB ks) := by show _ = _; rw [List.take_length]
      clear HN HK
      go_wp2
      go_ret
      exact ⟨by rw [← HT.out]; rfl, HB.out⟩

/-- What is tagged of a number and a text: texts that are too long as if they were empty. -/
def numberedB (n : Int) (s : List UInt8) : List UInt8 := numB n ++ txtB (if 16384 < s.length then [] else s)
set_option maxHeartbeats 2000000 in
theorem rnumbered_any (hD : DigOk) (hN : NumOk) (n : Int) (hn : I64 n) (s : List UInt8) (w : World) : Calls Tryz.prog 21 #[.int .i64 n, .string ⟨s.toArray⟩] w fun e w' => e = .returned (.string ⟨(numberedB n s).toArray⟩) ∧ Below w.heap.size w w' := by
  have HN := hid (hN n hn.1 hn.2 w)
  have hss : (⟨s.toArray⟩ : ByteArray).size = s.length := rfl
  have hnl := numB_len n hn
  have hnb : Lib.itoa n ++ [59] = numB n := rfl
  rw [hnb] at HN
  by_cases hl : 16384 < s.length
  · have e0 : numberedB n s = numB n ++ txtB [] := by unfold numberedB; rw [if_pos hl]
    rw [e0]
    have HT := hid (fun W => rtext_any hD [] (by decide) W)
    have htl : (txtB []).length ≤ 22 := by unfold txtB; have := dec_len ([] : List UInt8).length (by decide); simp at this ⊢; omega
    have d1 : decide ((16384 : Int) < (s.length : Int)) = true := decide_eq_true (by omega)
    have d1' : decide (16384 < s.length) = true := decide_eq_true hl
    have happ := str_app (numB n) (txtB [])
    generalize numB n = nb at *
    generalize txtB [] = t at *
    have hs1 : (⟨nb.toArray⟩ : ByteArray).size = nb.length := rfl
    have hs2 : (⟨t.toArray⟩ : ByteArray).size = t.length := rfl
    clear e0 hl hn hD hN hnb
    go_enter Tryz.func21, Tryz.ntmps21
    go_wp2_with fail
    refine HN.out.mono ?_
    rintro e w1 ⟨rfl, hb⟩
    have HB1 := hid hb
    clear hb
    go_wp2_with fail
    refine (HT.out _).mono ?_
    rintro e w2 ⟨rfl, hb⟩
    have HB2 := hid (below_two HB1.out hb)
    clear hb
    go_wp2
    go_ret
    exact ⟨rfl, HB2.out⟩
  · have e0 : numberedB n s = numB n ++ txtB s := by unfold numberedB; rw [if_neg hl]
    rw [e0]
    have HT := hid (fun W => rtext_any hD s (by omega) W)
    have htl : (txtB s).length ≤ 16500 := by unfold txtB; have := dec_len s.length (by omega); simp; omega
    have d1 : decide ((16384 : Int) < (s.length : Int)) = false := decide_eq_false (by omega)
    have d1' : decide (16384 < s.length) = false := decide_eq_false hl
    have happ := str_app (numB n) (txtB s)
    generalize numB n = nb at *
    generalize txtB s = t at *
    have hs1 : (⟨nb.toArray⟩ : ByteArray).size = nb.length := rfl
    have hs2 : (⟨t.toArray⟩ : ByteArray).size = t.length := rfl
    clear e0 hl hn hD hN hnb
    go_enter Tryz.func21, Tryz.ntmps21
    go_wp2_with fail
    refine HN.out.mono ?_
    rintro e w1 ⟨rfl, hb⟩
    have HB1 := hid hb
    clear hb
    go_wp2_with fail
    refine (HT.out _).mono ?_
    rintro e w2 ⟨rfl, hb⟩
    have HB2 := hid (below_two HB1.out hb)
    clear hb
    go_wp2
    go_ret
    exact ⟨rfl, HB2.out⟩

theorem ints_new (w : World) (ks : List Int) (k : Nat) (hk : ks.length = k) : IntsAt (w.alloc (.cells (ks.map nu).toArray 3)) (.slice (some ⟨w.heap.size, 0, none⟩) k k) ks := by
  subst hk
  refine ⟨_, _, rfl, fun _ => ⟨w.heap.size, 0, rfl, fun j hj => ?_⟩⟩
  rw [cell_of_row _ _ _ _ _ _ (top_obj w _), Nat.zero_add, List.getElem?_toArray]
  simp [List.getD, hj]
set_option maxHeartbeats 2000000 in
theorem rasked_any (hN : NumOk) (c : Int) (hc : I64 c) (x : Sub) (hx : x.Wf) (h1 : I64 x.number) (h2 : I64 x.kind) (h3 : I64 x.target) (w : World) :
    Calls Tryz.prog 19 #[.int .i64 c, .agg (subC x).toArray] w fun e w' => e = .returned (.string ⟨(intsB [c, x.number, x.kind, x.target]).toArray⟩) ∧ Below w.heap.size w w' := by
  have HB0 := hid (below_a1 w (.cells (subC x).toArray 25))
  have r0 := top_obj w (.cells (subC x).toArray 25)
  have c0 := srow_number r0 hx
  have c1 := srow_kind r0 hx
  have c2 := srow_target r0 hx
  have HI := hid (fun W => rnints_any hN (ints_new W [c, x.number, x.kind, x.target] 4 rfl) (by intro n hn; simp at hn; rcases hn with rfl | rfl | rfl | rfl; exact hc; exact h1; exact h2; exact h3) (by simp))
  generalize intsB [c, x.number, x.kind, x.target] = t at *
  generalize (subC x).toArray = S at *
  clear r0 hN hx
  go_enter Tryz.func19, Tryz.ntmps19
  go_upto_region 1 with fail
  generalize w.alloc (.cells S 25) = W0 at *
  have HB1 := hid (below_two HB0.out (below_a1 W0 (.cells ([c, x.number, x.kind, x.target].map nu).toArray 3)))
  go_wp2_with fail
  refine (HI.out _).mono ?_
  rintro e w1 ⟨rfl, hb⟩
  have HB2 := hid (below_two HB1.out hb)
  clear hb
  go_wp2
  go_ret
  exact ⟨rfl, HB2.out⟩
end Go.Proofs.YtpnnibddjopniaaGreatDoor.Ms

/-
  What the reference's Number answers, for every int.
-/
namespace Go.Proofs.YtpnnibddjopniaaGreatDoor.Lay
open Go.RowKit Go.Joins
set_option maxRecDepth 100000

set_option maxHeartbeats 400000 in
theorem refNumber_neg2 (u : Nat) (h0 : 10 ≤ u) (h1 : u ≤ 9223372036854775808) (w : World) :
    Calls Tryz.prog 39 #[.int .i64 (-(u : Int))] w fun e w' => e = .returned (.string ⟨(Lib.itoa (-(u : Int)) ++ [59]).toArray⟩) ∧ Below w.heap.size w w' := by
  have hi : Lib.itoa (-(u : Int)) = 45 :: (Lib.decDigits (u / 10) ++ Lib.decDigits (u % 10)) := by
    unfold Lib.itoa
    rw [if_pos (by omega), Int.natAbs_neg, Int.natAbs_natCast, Lib.decDigits, dif_neg (by omega), Lib.decDigits_one (Nat.mod_lt u (by decide))]
  rw [hi]
  have hl : (Lib.decDigits (u / 10)).length ≤ 20 := by rw [Lib.decDigits_length]; exact nDigits_le20 _ (by omega)
  have hl' : (Lib.decDigits (u % 10)).length ≤ 20 := by rw [Lib.decDigits_length]; exact nDigits_le20 _ (by omega)
  clear hi
  have hq : ((-(u : Int)).tdiv 10 == 0) = false := by rw [tdiv_neg, beq_eq_false_iff_ne]; omega
  have hn : -(u : Int) < 0 := by omega
  go_enter Tryz.func39, Tryz.ntmps39
  go_wp2_with fail
  refine (digits_int _ (u / 10) (by omega) (by omega) _).mono ?_
  rintro e w1 ⟨rfl, hb⟩
  go_wp2_with fail
  refine (digits_int _ (u % 10) (by omega) (by omega) _).mono ?_
  rintro e w2 ⟨rfl, hb2⟩
  go_wp2
  go_ret
  refine ⟨congrArg (fun s => Ending.returned (Value.string s)) ?_, below_two hb hb2⟩
  rw [bcat [45] (Lib.decDigits (u / 10)) _ rfl, bcat ([45] ++ Lib.decDigits (u / 10)) (Lib.decDigits (u % 10)) _ rfl, bcat ([45] ++ Lib.decDigits (u / 10) ++ Lib.decDigits (u % 10)) [59] _ rfl]
  simp

theorem refNumber_any (n : Int) (h0 : -9223372036854775808 ≤ n) (h1 : n ≤ 9223372036854775807) (w : World) :
    Calls Tryz.prog 39 #[.int .i64 n] w fun e w' => e = .returned (.string ⟨(Lib.itoa n ++ [59]).toArray⟩) ∧ Below w.heap.size w w' := by
  by_cases hn : 0 ≤ n
  · exact refNumber_pos n hn h1 w
  · obtain ⟨u, rfl⟩ : ∃ u : Nat, n = -(u : Int) := ⟨n.natAbs, by omega⟩
    by_cases h10 : u < 10
    · exact refNumber_neg1 u (by omega) h10 w
    · exact refNumber_neg2 u (by omega) (by omega) w
end Go.Proofs.YtpnnibddjopniaaGreatDoor.Lay

/-
  What is tagged: what msg.Asked, Data, BlobText and Version answer; the walk of MsgTexts.
-/
namespace Go.Proofs.YtpnnibddjopniaaGreatDoor.Ms
open Go Go.RowKit
set_option maxRecDepth 100000

theorem numOk : NumOk := fun n h0 h1 w => Lay.refNumber_any n h0 h1 w
theorem digOk : DigOk := fun u hu w => Lay.digits_any u hu w
theorem layT_len (s : List UInt8) : (layT s).length ≤ 16500 := by
  unfold layT
  split
  · have := txtB_len [] (by decide); simp at this ⊢; omega
  · have := txtB_len s (by omega); omega
def askB (c : Int) (x : Sub) : List UInt8 := numB c ++ numB x.number ++ numB x.kind ++ numB x.target
theorem askB_ints (c : Int) (x : Sub) : intsB [c, x.number, x.kind, x.target] = askB c x := by simp [intsB, askB]
theorem numbered_lay (n : Int) (s : List UInt8) : numberedB n s = numB n ++ layT s := rfl
set_option maxHeartbeats 1000000 in
theorem data_any (n : Int) (hn : I64 n) (s : List UInt8) (w : World) (ht : Tb w) : Calls Tryz.prog 20 #[nu n, st s] w fun e w' => e = .returned (st (numB n ++ layT s)) ∧ Below w.heap.size w w' := by
  have K1 := hid (Lay.number_any n hn.1 hn.2 w ht)
  have hnb : Lib.itoa n ++ [59] = numB n := rfl
  rw [hnb] at K1
  have K2 := hid (fun (W : World) (h : Below w.heap.size w W) => laytext_any s W (ht.stays h))
  have h1 := numB_len n hn
  have h2 := layT_len s
  have happ := str_app (numB n) (layT s)
  generalize numB n = nb at *
  generalize layT s = tb at *
  have hs1 : (⟨nb.toArray⟩ : ByteArray).size = nb.length := rfl
  have hs2 : (⟨tb.toArray⟩ : ByteArray).size = tb.length := rfl
  clear hn ht hnb
  go_enter Tryz.func20, Tryz.ntmps20
  go_wp2_with fail
  refine K1.out.mono ?_
  rintro e w1 ⟨rfl, hb⟩
  have HB1 := hid hb
  clear hb
  go_wp2_with fail
  refine (K2.out _ HB1.out).mono ?_
  rintro e w2 ⟨rfl, hb⟩
  have HB2 := hid (below_two HB1.out hb)
  clear hb
  go_wp2
  go_ret
  exact ⟨rfl, HB2.out⟩
set_option maxHeartbeats 1000000 in
theorem blobtext_any (n : Int) (hn : I64 n) (s : List UInt8) (w : World) (ht : Tb w) : Calls Tryz.prog 22 #[nu n, st s] w fun e w' => e = .returned (st (numB n ++ layT s)) ∧ Below w.heap.size w w' := by
  have K1 := hid (Lay.number_any n hn.1 hn.2 w ht)
  have hnb : Lib.itoa n ++ [59] = numB n := rfl
  rw [hnb] at K1
  have K2 := hid (fun (W : World) (h : Below w.heap.size w W) => laytext_any s W (ht.stays h))
  have h1 := numB_len n hn
  have h2 := layT_len s
  have happ := str_app (numB n) (layT s)
  generalize numB n = nb at *
  generalize layT s = tb at *
  have hs1 : (⟨nb.toArray⟩ : ByteArray).size = nb.length := rfl
  have hs2 : (⟨tb.toArray⟩ : ByteArray).size = tb.length := rfl
  clear hn ht hnb
  go_enter Tryz.func22, Tryz.ntmps22
  go_wp2_with fail
  refine K1.out.mono ?_
  rintro e w1 ⟨rfl, hb⟩
  have HB1 := hid hb
  clear hb
  go_wp2_with fail
  refine (K2.out _ HB1.out).mono ?_
  rintro e w2 ⟨rfl, hb⟩
  have HB2 := hid (below_two HB1.out hb)
  clear hb
  go_wp2
  go_ret
  exact ⟨rfl, HB2.out⟩
set_option maxHeartbeats 1000000 in
theorem version_any (n : Int) (hn : I64 n) (s : List UInt8) (w : World) (ht : Tb w) : Calls Tryz.prog 23 #[nu n, st s] w fun e w' => e = .returned (st (numB n ++ layT s)) ∧ Below w.heap.size w w' := by
  have K1 := hid (Lay.number_any n hn.1 hn.2 w ht)
  have hnb : Lib.itoa n ++ [59] = numB n := rfl
  rw [hnb] at K1
  have K2 := hid (fun (W : World) (h : Below w.heap.size w W) => laytext_any s W (ht.stays h))
  have h1 := numB_len n hn
  have h2 := layT_len s
  have happ := str_app (numB n) (layT s)
  generalize numB n = nb at *
  generalize layT s = tb at *
  have hs1 : (⟨nb.toArray⟩ : ByteArray).size = nb.length := rfl
  have hs2 : (⟨tb.toArray⟩ : ByteArray).size = tb.length := rfl
  clear hn ht hnb
  go_enter Tryz.func23, Tryz.ntmps23
  go_wp2_with fail
  refine K1.out.mono ?_
  rintro e w1 ⟨rfl, hb⟩
  have HB1 := hid hb
  clear hb
  go_wp2_with fail
  refine (K2.out _ HB1.out).mono ?_
  rintro e w2 ⟨rfl, hb⟩
  have HB2 := hid (below_two HB1.out hb)
  clear hb
  go_wp2
  go_ret
  exact ⟨rfl, HB2.out⟩
structure SubRng (x : Sub) : Prop where
  n : I64 x.number
  k : I64 x.kind
  t : I64 x.target
set_option maxHeartbeats 2000000 in
theorem asked_any (c : Int) (hc : I64 c) (x : Sub) (hx : x.Wf) (hr : SubRng x) (w : World) (ht : Tb w) : Calls Tryz.prog 18 #[nu c, .agg (subC x).toArray] w fun e w' => e = .returned (st (askB c x)) ∧ Below w.heap.size w w' := by
  have HB0 := hid (below_a1 w (.cells (subC x).toArray 25))
  have r0 := top_obj w (.cells (subC x).toArray 25)
  have c0 := srow_number r0 hx
  have c1 := srow_kind r0 hx
  have c2 := srow_target r0 hx
  have hT0 : Tb (w.alloc (.cells (subC x).toArray 25)) := ht.stays HB0.out
  have l0 := numB_len c hc
  have l1 := numB_len x.number hr.n
  have l2 := numB_len x.kind hr.k
  have l3 := numB_len x.target hr.t
  have K : ∀ n, I64 n → ∀ W, Tb W → ∀ dd os, Calls Tryz.prog 25 #[nu n] (Sort.grow (redrawn W dd) os) fun e w'' => e = .returned (st (numB n)) ∧ ∃ p : Regrown, w'' = Sort.grow (redrawn W p.d) p.os := fun n hn W hW dd os => Calls.regrown_of (Lay.number_any n hn.1 hn.2 _ (hW.stays (below_regrown W dd os)))
  have k0 := hid (K c hc _ hT0)
  have k1 := hid (K x.number hr.n _ hT0)
  have k2 := hid (K x.kind hr.k _ hT0)
  have k3 := hid (K x.target hr.t _ hT0)
  have p0 : ∀ dd os, (Sort.grow (redrawn (w.alloc (.cells (subC x).toArray 25)) dd) os).cell? ⟨w.heap.size, 0, none⟩ = some (nu x.number) := fun dd os => cell_regrown c0 _ _
  have p1 : ∀ dd os, (Sort.grow (redrawn (w.alloc (.cells (subC x).toArray 25)) dd) os).cell? ⟨w.heap.size, 1, none⟩ = some (nu x.kind) := fun dd os => cell_regrown c1 _ _
  have p2 : ∀ dd os, (Sort.grow (redrawn (w.alloc (.cells (subC x).toArray 25)) dd) os).cell? ⟨w.heap.size, 2, none⟩ = some (nu x.target) := fun dd os => cell_regrown c2 _ _
  have a1 := str_app (numB c) (numB x.number)
  have a2 := str_app (numB c ++ numB x.number) (numB x.kind)
  have a3 := str_app (numB c ++ numB x.number ++ numB x.kind) (numB x.target)
  unfold askB
  generalize numB c = n0 at *
  generalize numB x.number = n1 at *
  generalize numB x.kind = n2 at *
  generalize numB x.target = n3 at *
  generalize (subC x).toArray = S at *
  have s0 : (⟨n0.toArray⟩ : ByteArray).size = n0.length := rfl
  have s1 : (⟨n1.toArray⟩ : ByteArray).size = n1.length := rfl
  have s2 : (⟨n2.toArray⟩ : ByteArray).size = n2.length := rfl
  have s3 : (⟨n3.toArray⟩ : ByteArray).size = n3.length := rfl
  have s4 : (⟨(n0 ++ n1).toArray⟩ : ByteArray).size = n0.length + n1.length := by show (n0 ++ n1).length = _; simp
  have s5 : (⟨(n0 ++ n1 ++ n2).toArray⟩ : ByteArray).size = n0.length + n1.length + n2.length := by show (n0 ++ n1 ++ n2).length = _; simp; omega
  clear r0 K hT0 ht hx hr hc c0 c1 c2
  go_enter Tryz.func18, Tryz.ntmps18
  go_upto_region 1 with fail
  generalize w.alloc (.cells S 25) = W0 at *
  have hbg := hid (fun dq osq => below_two HB0.out (below_regrown W0 dq osq))
  refine wp_region_quiet_below (by kernel_rfl) (by kernel_rfl) ?_
  iterate 15 (first | go_big_quiet_step (first | exact k0.out _ _ | exact k1.out _ _ | exact k2.out _ _ | exact k3.out _ _) | quiet_step (first | exact k0.out _ _ | exact k1.out _ _ | exact k2.out _ _ | exact k3.out _ _))
  refine wpQuiet_nil ?_
  intro _ hw'
  obtain ⟨⟨dq, osq⟩, hw''⟩ := hw'
  subst hw''
  have HBq := hid (hbg.out dq osq)
  go_wp2
  go_ret
  exact ⟨by first | rfl | (simp [str_app]), HBq.out⟩
end Go.Proofs.YtpnnibddjopniaaGreatDoor.Ms

/-
  The walk of MsgBack.
-/
namespace Go.Proofs.YtpnnibddjopniaaGreatDoor.Ms
open Go Go.RowKit
set_option maxRecDepth 100000

theorem put_small {m : Msg} (hw : m.Wf) (h : mayB m = true) : (putM m).length ≤ 281474976710656 := by
  obtain ⟨hk, hf⟩ := may_fits hw h
  have h1 := put_len (fieldsM m.kind) m (fun f hf' => (hf f hf').2)
  have h2 := fields_len m.kind
  have h3 := numB_len m.kind ⟨by omega, by omega⟩
  unfold putM
  rw [List.length_append]
  omega
theorem getM_wf (s : List UInt8) (h : (getM s).1 ≠ 0) : (getM s).2.Wf := by
  revert h
  unfold getM
  split
  · intro _; exact zeroM_wf 0 0
  · split
    · intro _; exact zeroM_wf 0 0
    · split
      · intro _; exact zeroM_wf 0 0
      · intro h; exact absurd rfl h
theorem pen_all (k : Int) : PenOk k := ⟨fun _ => mkReadPens, fun _ r hr => repmay r hr⟩
theorem one_pens {w : World} {v : Value} {l : List Pen} (h : PensAt w v l) : v.oneCell' = true := by obtain ⟨a, c, rfl, -⟩ := h; rfl
theorem one_ints {w : World} {v : Value} {l : List Int} (h : IntsAt w v l) : v.oneCell' = true := by obtain ⟨a, c, rfl, -⟩ := h; rfl
set_option maxHeartbeats 8000000 in
theorem back_walk (w : World) (ht : Tb w) (m : Msg) (vP vN : Value) (hw : m.Wf) (hr : m.Rng) (hp : PensAt w vP m.rep.pend) (hn : IntsAt w vN m.nums) (hl : Lens m) (s : List UInt8) :
    Calls Tryz.prog 5 #[.agg (msgC m vP vN).toArray, st s] w fun e w' => e = .returned (.bool true) ∧ Below w.heap.size w w' := by
  have HZ := zeroMsg
  have HZl : Hid ((msgC (zeroM 0 0) (.slice none 0 0) (.slice none 0 0)).length = 275) := msgC_len (zeroM_wf 0 0) _ _
  obtain ⟨Z, hZ⟩ : ∃ Z, Z = msgC (zeroM 0 0) (.slice none 0 0) (.slice none 0 0) := ⟨_, rfl⟩
  rw [← hZ] at HZ HZl
  clear hZ
  have HB0 := hid (below_a1 w (.cells (msgC m vP vN).toArray 33))
  have R0 := hid (top_obj w (.cells (msgC m vP vN).toArray 33))
  have Z0 : (Tryz.prog.info? 33).map (·.size) = some (msgC m vP vN).length := by rw [msgC_len hw]; exact sizeMsg
  have S0 := hid (fun (W : World) (hb : Below (w.alloc (.cells (msgC m vP vN).toArray 33)).heap.size (w.alloc (.cells (msgC m vP vN).toArray 33)) W) => row_seg (off := 0) (A := []) (cs := msgC m vP vN) (C := []) (row_kept R0.out hb) (by simp) rfl)
  have KA := hid (fun (W : World) (hb : Below w.heap.size w W) => awake_any W (ht.stays hb))
  have KP := hid (fun (W : World) (hb : Below w.heap.size w W) (h : mayB m = true) => put_ok (w := W) hw hr (hp.kept hb) (hn.kept hb) hl (fun _ => repmay m.rep hw.rep) (fun _ => mkLayPens) h (ht.stays hb))
  have KN := hid (fun (W : World) (hb : Below w.heap.size w W) (h : mayB m = false) => put_bad (w := W) hw hr (hp.kept hb) (hn.kept hb) hl (fun _ => repmay m.rep hw.rep) h)
  have KG : Hid (mayB m = true → ∀ W, Below w.heap.size w W → Calls Tryz.prog 14 #[st (putM m)] W fun e w' => ∃ v, e = .returned (.tuple #[v, nu (0 : Nat)]) ∧ MsgV w' v m ∧ Below W.heap.size W w') := fun h W hb => by
    have := get_any (putM m) (put_small hw h) (pen_all _) W (ht.stays hb)
    rw [get_put hw h] at this
    exact this
  have KS : Hid (∀ (W : World) (v1 v2 : Value), Below w.heap.size w W → PensAt W v1 m.rep.pend → IntsAt W v2 m.nums → Calls Tryz.prog 16 #[.agg (msgC m v1 v2).toArray, .agg (msgC m vP vN).toArray] W fun e w' => e = .returned (.bool true) ∧ Below W.heap.size W w') := fun W v1 v2 hb h1 h2 => by
    have := same_any (w := W) hw hw h1 (hp.kept hb) h2 (hn.kept hb) hl.1 hl.2
    rw [(sameM_iff m m).2 rfl] at this
    exact this
  have KO := hid (fun (v1 v2 : Value) (h1 : v1.oneCell' = true) (h2 : v2.oneCell' = true) => one_msg m v1 v2 h1 h2)
  have KL := hid (fun (v1 v2 : Value) => msgC_len hw v1 v2)
  have KGs := hid (fun (hs : s.length ≤ 281474976710656) (W : World) (hb : Below w.heap.size w W) => get_any s hs (pen_all _) W (ht.stays hb))
  have KP2 : Hid ((getM s).1 = 0 → ∀ (W : World) (v1 v2 : Value), Below w.heap.size w W → PensAt W v1 (getM s).2.rep.pend → IntsAt W v2 (getM s).2.nums → Lens (getM s).2 → Calls Tryz.prog 9 #[.agg (msgC (getM s).2 v1 v2).toArray] W fun e w' => e = .returned (.tuple #[st s, nu 0]) ∧ Below W.heap.size W w') := fun h W v1 v2 hb h1 h2 h3 => by
    obtain ⟨a1, a2, a3, a4⟩ := put_get s h
    have := put_ok (w := W) a1 a2 h1 h2 h3 (fun _ => repmay _ a1.rep) (fun _ => mkLayPens) a3 (ht.stays hb)
    rw [a4] at this
    exact this
  have KW : Hid ((getM s).2.Wf) := by
    by_cases h : (getM s).1 = 0
    · exact (put_get s h).1
    · exact getM_wf s h
  have KO2 := hid (fun (v1 v2 : Value) (h1 : v1.oneCell' = true) (h2 : v2.oneCell' = true) => one_msg (getM s).2 v1 v2 h1 h2)
  have KL2 := hid (fun (v1 v2 : Value) => msgC_len KW.out v1 v2)
  clear R0 ht hr hp hn hl hw KW
  generalize (getM s).1 = er at *
  generalize (getM s).2 = x at *
  obtain ⟨VA, hVA⟩ : ∃ VA, VA = msgC m vP vN := ⟨_, rfl⟩
  rw [← hVA] at HB0 Z0 S0 KP KN KS ⊢
  clear hVA
  go_enter Tryz.func5, Tryz.ntmps5
  go_upto_region 1 with fail
  generalize w.alloc (.cells VA.toArray 33) = W0 at *
  have S1 := hid (S0.out W0 (Below.refl _ _))
  cases hm : mayB m with
  | false =>
    have K1 := hid (KN.out W0 HB0.out hm)
    clear KN KP KG KS KO KL
    go_wp2_with (first | ((with_reducible refine wl_load 33 (.tmp 2) ?_ w.heap.size 0 ?_ ?_ VA _ S1.out Tryz.underlying33 ?_ Z0 ?_); exact rfl; exact rfl; exact rfl; exact rfl))
    refine K1.out.mono ?_
    rintro e w1 ⟨rfl, hb⟩
    have HB1 := hid (below_two HB0.out hb)
    clear hb K1 S0 S1 HB0
    by_cases h8 : s.length ≤ 8000
    · have d8 : decide (8000 < (s.length : Int)) = false := decide_eq_false (by omega)
      have d8' : decide (8000 < s.length) = false := decide_eq_false (by omega)
      have hss : (⟨s.toArray⟩ : ByteArray).size = s.length := rfl
      go_wp2_with fail
      refine (KGs.out (by omega) _ HB1.out).mono ?_
      rintro e w2 ⟨v, rfl, ⟨v1, v2, rfl, hp1, hn1, hl1⟩, hb⟩
      have HB2 := hid (below_two HB1.out hb)
      have HOV := hid (KO2.out v1 v2 (one_pens hp1) (one_ints hn1))
      have hl2 := KL2.out v1 v2
      have HP1 := hid (fun (W : World) (hb : Below w2.heap.size w2 W) => hp1.kept hb)
      have HN1 := hid (fun (W : World) (hb : Below w2.heap.size w2 W) => hn1.kept hb)
      have HL1 := hid hl1
      have KQ := hid (fun (h : er = 0) (W : World) (hb : Below w.heap.size w W) (h1 : PensAt W v1 x.rep.pend) (h2 : IntsAt W v2 x.nums) => KP2.out h W v1 v2 hb h1 h2 HL1.out)
      clear hb hp1 hn1 hl1 KP2 KGs KO2 KL2
      generalize msgC x v1 v2 = V at *
      have hIV : (Tryz.prog.info? 33).map (·.size) = some V.length := by rw [hl2]; exact sizeMsg
      have hLV : Z.length = V.length := HZl.out.trans hl2.symm
      have HBa := hid (below_a1 w2 (.cells V.toArray 33))
      have HB3 := hid (below_two HB2.out HBa.out)
      have SX := hid (row_seg (off := 0) (A := []) (cs := V) (C := []) (top_obj w2 (.cells V.toArray 33)) (by simp) rfl)
      have HP2 := hid (HP1.out _ HBa.out)
      have HN2 := hid (HN1.out _ HBa.out)
      clear HP1 HN1 HBa HB2
      by_cases he : er = 0
      · as_aux_lemma =>
        have KQ' := hid (KQ.out he)
        subst he
        clear KQ
        go_upto_region 9 with (first | ((with_reducible refine wl_alloc 33 ?_ ?_ Z.toArray HZ ?_); exact rfl; exact rfl) | ((with_reducible refine wl_store_top 33 (.tmp 9) (.tmp 40) ?_ ?_ ?_ ?_ V Z ?_ 33 hLV HOV.out hIV ?_); exact rfl; exact rfl; exact rfl; exact rfl; exact rfl))
        generalize w2.alloc (.cells V.toArray 33) = W3 at *
        go_wp2_with (first | ((with_reducible refine wl_load 33 (.tmp 9) ?_ w2.heap.size 0 ?_ ?_ V _ SX.out Tryz.underlying33 ?_ hIV ?_); exact rfl; exact rfl; exact rfl; exact rfl))
        refine (KQ'.out _ HB3.out HP2.out HN2.out).mono ?_
        rintro e w4 ⟨rfl, hb⟩
        have HB4 := hid (below_two HB3.out hb)
        clear hb HB3 HP2 HN2 SX KQ'
        go_wp2_with fail
        refine (KA.out _ HB4.out).mono ?_
        rintro e w5 ⟨rfl, hb⟩
        have HB5 := hid (below_two HB4.out hb)
        clear hb HB4
        go_wp2
        go_ret
        exact ⟨by simp, HB5.out⟩
      · as_aux_lemma =>
        have de : ((er : Int) != 0) = true := by simpa using he
        have de' : (er != 0) = true := by simpa using he
        clear KQ SX HP2 HN2
        go_upto_region 9 with (first | ((with_reducible refine wl_alloc 33 ?_ ?_ Z.toArray HZ ?_); exact rfl; exact rfl) | ((with_reducible refine wl_store_top 33 (.tmp 9) (.tmp 40) ?_ ?_ ?_ ?_ V Z ?_ 33 hLV HOV.out hIV ?_); exact rfl; exact rfl; exact rfl; exact rfl; exact rfl))
        generalize w2.alloc (.cells V.toArray 33) = W3 at *
        go_wp2_with fail
        refine (KA.out _ HB3.out).mono ?_
        rintro e w5 ⟨rfl, hb⟩
        have HB5 := hid (below_two HB3.out hb)
        clear hb HB3
        go_wp2
        go_ret
        exact ⟨rfl, HB5.out⟩
    · as_aux_lemma =>
      have d8 : decide (8000 < (s.length : Int)) = true := decide_eq_true (by omega)
      have d8' : decide (8000 < s.length) = true := decide_eq_true (by omega)
      have hss : (⟨s.toArray⟩ : ByteArray).size = s.length := rfl
      go_wp2_with fail
      refine (KA.out _ HB1.out).mono ?_
      rintro e w5 ⟨rfl, hb⟩
      have HB5 := hid (below_two HB1.out hb)
      clear hb
      go_wp2
      go_ret
      exact ⟨rfl, HB5.out⟩
  | true =>
    have K1 := hid (KP.out W0 HB0.out hm)
    have K2 := hid (KG.out hm)
    clear KN KP KG
    go_wp2_with (first | ((with_reducible refine wl_load 33 (.tmp 2) ?_ w.heap.size 0 ?_ ?_ VA _ S1.out Tryz.underlying33 ?_ Z0 ?_); exact rfl; exact rfl; exact rfl; exact rfl))
    refine K1.out.mono ?_
    rintro e w1 ⟨rfl, hb⟩
    have HB1 := hid (below_two HB0.out hb)
    have HR1 := hid hb
    clear hb K1 S1
    go_wp2_with fail
    refine (K2.out _ HB1.out).mono ?_
    rintro e wa ⟨v, rfl, ⟨u1, u2, rfl, hp1, hn1, hl1⟩, hb⟩
    have HB2 := hid (below_two HB1.out hb)
    have HR2 := hid (below_two HR1.out hb)
    have HOV := hid (KO.out u1 u2 (one_pens hp1) (one_ints hn1))
    have hl2 := KL.out u1 u2
    have KQ := hid (fun (W : World) (hb : Below w.heap.size w W) (h1 : PensAt W u1 m.rep.pend) (h2 : IntsAt W u2 m.nums) => KS.out W u1 u2 hb h1 h2)
    have HBa := hid (below_a1 wa (.cells (msgC m u1 u2).toArray 33))
    have HP2 := hid (hp1.kept HBa.out)
    have HN2 := hid (hn1.kept HBa.out)
    clear hb hp1 hn1 hl1 HB1 HR1 K2 KS KO KL
    generalize msgC m u1 u2 = V at *
    have hIV : (Tryz.prog.info? 33).map (·.size) = some V.length := by rw [hl2]; exact sizeMsg
    have hLV : Z.length = V.length := HZl.out.trans hl2.symm
    have HB3 := hid (below_two HB2.out HBa.out)
    have HR3 := hid (below_two HR2.out HBa.out)
    have SX := hid (row_seg (off := 0) (A := []) (cs := V) (C := []) (top_obj wa (.cells V.toArray 33)) (by simp) rfl)
    have SA := hid (S0.out _ HR3.out)
    clear S0 HB0 HR2 HR3 HBa HB2
    go_upto_region 4 with (first | ((with_reducible refine wl_alloc 33 ?_ ?_ Z.toArray HZ ?_); exact rfl; exact rfl) | ((with_reducible refine wl_store_top 33 (.tmp 7) (.tmp 23) ?_ ?_ ?_ ?_ V Z ?_ 33 hLV HOV.out hIV ?_); exact rfl; exact rfl; exact rfl; exact rfl; exact rfl))
    generalize wa.alloc (.cells V.toArray 33) = W3 at *
    go_wp2_with (first | ((with_reducible refine wl_load 33 (.tmp 7) ?_ wa.heap.size 0 ?_ ?_ V _ SX.out Tryz.underlying33 ?_ hIV ?_); exact rfl; exact rfl; exact rfl; exact rfl) | ((with_reducible refine wl_load 33 (.tmp 2) ?_ w.heap.size 0 ?_ ?_ VA _ SA.out Tryz.underlying33 ?_ Z0 ?_); exact rfl; exact rfl; exact rfl; exact rfl))
    refine (KQ.out _ HB3.out HP2.out HN2.out).mono ?_
    rintro e w1 ⟨rfl, hb⟩
    have HB1 := hid (below_two HB3.out hb)
    clear hb HB3 HP2 HN2 SX SA KQ HOV hl2 hIV hLV
    by_cases h8 : s.length ≤ 8000
    · have d8 : decide (8000 < (s.length : Int)) = false := decide_eq_false (by omega)
      have d8' : decide (8000 < s.length) = false := decide_eq_false (by omega)
      have hss : (⟨s.toArray⟩ : ByteArray).size = s.length := rfl
      go_wp2_with fail
      refine (KGs.out (by omega) _ HB1.out).mono ?_
      rintro e w2 ⟨v, rfl, ⟨v1, v2, rfl, hp1, hn1, hl1⟩, hb⟩
      have HB2 := hid (below_two HB1.out hb)
      have HOV := hid (KO2.out v1 v2 (one_pens hp1) (one_ints hn1))
      have hl2 := KL2.out v1 v2
      have HP1 := hid (fun (W : World) (hb : Below w2.heap.size w2 W) => hp1.kept hb)
      have HN1 := hid (fun (W : World) (hb : Below w2.heap.size w2 W) => hn1.kept hb)
      have HL1 := hid hl1
      have KQ := hid (fun (h : er = 0) (W : World) (hb : Below w.heap.size w W) (h1 : PensAt W v1 x.rep.pend) (h2 : IntsAt W v2 x.nums) => KP2.out h W v1 v2 hb h1 h2 HL1.out)
      clear hb hp1 hn1 hl1 KP2 KGs KO2 KL2
      generalize msgC x v1 v2 = V at *
      have hIV : (Tryz.prog.info? 33).map (·.size) = some V.length := by rw [hl2]; exact sizeMsg
      have hLV : Z.length = V.length := HZl.out.trans hl2.symm
      have HBa := hid (below_a1 w2 (.cells V.toArray 33))
      have HB3 := hid (below_two HB2.out HBa.out)
      have SX := hid (row_seg (off := 0) (A := []) (cs := V) (C := []) (top_obj w2 (.cells V.toArray 33)) (by simp) rfl)
      have HP2 := hid (HP1.out _ HBa.out)
      have HN2 := hid (HN1.out _ HBa.out)
      clear HP1 HN1 HBa HB2
      by_cases he : er = 0
      · as_aux_lemma =>
        have KQ' := hid (KQ.out he)
        subst he
        clear KQ
        go_upto_region 9 with (first | ((with_reducible refine wl_alloc 33 ?_ ?_ Z.toArray HZ ?_); exact rfl; exact rfl) | ((with_reducible refine wl_store_top 33 (.tmp 9) (.tmp 40) ?_ ?_ ?_ ?_ V Z ?_ 33 hLV HOV.out hIV ?_); exact rfl; exact rfl; exact rfl; exact rfl; exact rfl))
        generalize w2.alloc (.cells V.toArray 33) = W3 at *
        go_wp2_with (first | ((with_reducible refine wl_load 33 (.tmp 9) ?_ w2.heap.size 0 ?_ ?_ V _ SX.out Tryz.underlying33 ?_ hIV ?_); exact rfl; exact rfl; exact rfl; exact rfl))
        refine (KQ'.out _ HB3.out HP2.out HN2.out).mono ?_
        rintro e w4 ⟨rfl, hb⟩
        have HB4 := hid (below_two HB3.out hb)
        clear hb HB3 HP2 HN2 SX KQ'
        go_wp2_with fail
        refine (KA.out _ HB4.out).mono ?_
        rintro e w5 ⟨rfl, hb⟩
        have HB5 := hid (below_two HB4.out hb)
        clear hb HB4
        go_wp2
        go_ret
        exact ⟨by simp, HB5.out⟩
      · as_aux_lemma =>
        have de : ((er : Int) != 0) = true := by simpa using he
        have de' : (er != 0) = true := by simpa using he
        clear KQ SX HP2 HN2
        go_upto_region 9 with (first | ((with_reducible refine wl_alloc 33 ?_ ?_ Z.toArray HZ ?_); exact rfl; exact rfl) | ((with_reducible refine wl_store_top 33 (.tmp 9) (.tmp 40) ?_ ?_ ?_ ?_ V Z ?_ 33 hLV HOV.out hIV ?_); exact rfl; exact rfl; exact rfl; exact rfl; exact rfl))
        generalize w2.alloc (.cells V.toArray 33) = W3 at *
        go_wp2_with fail
        refine (KA.out _ HB3.out).mono ?_
        rintro e w5 ⟨rfl, hb⟩
        have HB5 := hid (below_two HB3.out hb)
        clear hb HB3
        go_wp2
        go_ret
        exact ⟨rfl, HB5.out⟩
    · as_aux_lemma =>
      have d8 : decide (8000 < (s.length : Int)) = true := decide_eq_true (by omega)
      have d8' : decide (8000 < s.length) = true := decide_eq_true (by omega)
      have hss : (⟨s.toArray⟩ : ByteArray).size = s.length := rfl
      go_wp2_with fail
      refine (KA.out _ HB1.out).mono ?_
      rintro e w5 ⟨rfl, hb⟩
      have HB5 := hid (below_two HB1.out hb)
      clear hb
      go_wp2
      go_ret
      exact ⟨rfl, HB5.out⟩
end Go.Proofs.YtpnnibddjopniaaGreatDoor.Ms

/-
  Submits, blobs, what is pending, replies and messages that came in, opened for a walk.
-/
namespace Go.Proofs.YtpnnibddjopniaaGreatDoor.Ms
open Go Go.ChangeShapes Go.WideShapes Go.ChangeAt Go.WideMaps Go.WideElems Go.RowKit
set_option maxRecDepth 100000

theorem laidOut : laidOutB Tryz.prog = true := by kernel_rfl
theorem cells_dig : Tryz.prog.cellsOf 23 = 32 := by kernel_rfl
theorem cells_byt : Tryz.prog.cellsOf 5 = 1 := by kernel_rfl
theorem cells_int : Tryz.prog.cellsOf 3 = 1 := by kernel_rfl
theorem cells_str : Tryz.prog.cellsOf 9 = 1 := by kernel_rfl
theorem cells_sub : Tryz.prog.cellsOf 25 = 68 := by kernel_rfl
theorem cells_pen : Tryz.prog.cellsOf 109 = 68 := by kernel_rfl
theorem cells_rep : Tryz.prog.cellsOf 28 = 103 := by kernel_rfl
theorem cells_blo : Tryz.prog.cellsOf 30 = 35 := by kernel_rfl
theorem cells_msg : Tryz.prog.cellsOf 33 = 275 := by kernel_rfl
theorem cells_ints : Tryz.prog.cellsOf 31 = 1 := by kernel_rfl
theorem cells_pens : Tryz.prog.cellsOf 26 = 1 := by kernel_rfl
theorem cells_six : Tryz.prog.cellsOf 49 = 140 := by kernel_rfl
theorem bytes_list : ∀ (cs : List Value), (∀ i, i < cs.length → ∃ n : Int, cs[i]? = some (.int .u8 n) ∧ 0 ≤ n ∧ n ≤ 255) → ∃ l : List UInt8, l.length = cs.length ∧ cs = dg l
  | [], _ => ⟨[], rfl, rfl⟩
  | c :: cs, h => by
    obtain ⟨n, hn, h0, h1⟩ := h 0 (by simp)
    obtain ⟨l, hl, hcs⟩ := bytes_list cs (fun i hi => by
      obtain ⟨m, hm, h2⟩ := h (i + 1) (by simpa using hi)
      exact ⟨m, by simpa using hm, h2⟩)
    refine ⟨UInt8.ofNat n.toNat :: l, by simp [hl], ?_⟩
    have hc : c = .int .u8 n := by simpa using hn
    have e : dg (UInt8.ofNat n.toNat :: l) = cb (UInt8.ofNat n.toNat) :: dg l := rfl
    rw [e, ← hcs, hc]
    congr 1
    unfold cb bv
    congr 1
    rw [UInt8.toNat_ofNat']
    omega
theorem stp (cs : List Value) (a b c : Nat) (h : a + b = c) : cs.drop a = (cs.drop a).take b ++ cs.drop c := by subst h; rw [← List.drop_drop]; exact (List.take_append_drop b _).symm
theorem at_some {α : Type} {xs : List α} {n : Nat} (i : Nat) (h : xs.length = n) (hi : i < n) : ∃ y, xs[i]? = some y := ⟨xs[i], List.getElem?_eq_getElem (by omega)⟩
section
variable {H : Type} {enc : TypeId × Value → H} {W : World} {held : Bool} {fuel : Nat} {cs : List Value} {x : DataW H × List MemPlace}
theorem int_c (h : DataW.trod enc Tryz.prog W 0 (fun _ => true) held fuel 3 cs = some x) : ∃ n, cs = [nu n] ∧ I64 n := by
  obtain ⟨n, e, -, hw⟩ := DataW.trod_int Tryz.underlying3 h
  exact ⟨n, e, bounds_i64 hw⟩
theorem str_c (h : DataW.trod enc Tryz.prog W 0 (fun _ => true) held fuel 9 cs = some x) : ∃ s : List UInt8, cs = [st s] := by
  obtain ⟨A, e, -, -⟩ := DataW.trod_string Tryz.underlying9 h
  exact ⟨A.data.toList, by rw [e]⟩
theorem dig_c (h : DataW.trod enc Tryz.prog W 0 (fun _ => true) held fuel 23 cs = some x) : ∃ l : List UInt8, cs = dg l ∧ l.length = 32 := by
  obtain ⟨xs, m, _, hx, hlen, hxl, hat⟩ := DataW.trod_array Tryz.underlying23 h
  rw [cells_dig] at hlen
  rw [cells_byt] at hat
  obtain ⟨l, hl, hcs⟩ := bytes_list cs (fun i hi => by
    have h1 := hat i (by omega)
    cases hq : xs[i]? with
    | none => rw [List.getElem?_eq_none_iff] at hq; omega
    | some x =>
      rw [hq] at h1
      obtain ⟨n, hn, -, hw⟩ := DataW.trod_int Tryz.underlying5 h1
      have h2 : cs[i]? = some (.int .u8 n) := by
        have := congrArg (·[0]?) hn
        simpa [List.getElem?_take, List.getElem?_drop] using this
      exact ⟨n, h2, bounds_u8 hw⟩)
  exact ⟨l, hcs, by omega⟩
theorem ints_c (h : DataW.trod enc Tryz.prog W 0 (fun _ => true) held fuel 31 cs = some x) : ∃ v ks, cs = [v] ∧ IntsAt W v ks ∧ (∀ n ∈ ks, I64 n) ∧ ks.length ≤ 9223372036854775807 := by
  rcases open_ints Tryz.underlying31 Tryz.underlying3 cells_int h with ⟨rfl, -⟩ | ⟨a, len, cap, zs, rfl, _, hl, hcm, hz, hk, hcell, hwf⟩
  · exact ⟨_, [], rfl, IntsAt.nil W, (fun n hn => by cases hn), Nat.zero_le _⟩
  · simp only [if_true] at hz
    have hlen : (zs.take len).length = len := by rw [List.length_take]; omega
    refine ⟨_, zs.take len, rfl, ⟨some a, cap, by rw [hlen], fun hne => ?_⟩, fun n hn => bounds_i64 (hwf n (List.mem_of_mem_take hn)), ?_⟩
    · have hpos : 0 < len := by
        rcases Nat.eq_zero_or_pos len with e | e
        · subst e; simp at hne
        · exact e
      obtain ⟨b, off, spot⟩ := a
      have hspot : spot = none := by simpa [Addr.add] using World.cell?_spot (hcell 0 (by omega))
      subst hspot
      refine ⟨b, off, rfl, fun j hj => ?_⟩
      rw [hlen] at hj
      have h9 := hcell j (by omega)
      rw [Go.WideShapes.add_plain] at h9
      rw [h9]
      have e : (zs.take len).getD j 0 = zs.getD j 0 := by simp [List.getD, hj]
      rw [e]
    · rw [hlen]
      have : cap ≤ 9223372036854775807 := hcm
      omega
theorem sub_c (h : DataW.trod enc Tryz.prog W 0 (fun _ => true) held fuel 25 cs = some x) : ∃ y : Sub, cs = subC y ∧ y.Wf ∧ SubRng y := by
  obtain ⟨xs, n, _, _, hl, hlen, hfs⟩ := DataW.trod_struct Tryz.underlying25 h
  rw [cells_sub] at hl
  have hxl : xs.length = 6 := hlen
  have g0 : DataW.trod enc Tryz.prog W 0 (fun _ => true) held n 3 ((cs.drop 0).take (Tryz.prog.cellsOf 3)) = xs[0]? := hfs 0 _ rfl
  rw [cells_int] at g0
  obtain ⟨y0, hy0⟩ := at_some 0 hxl (by decide)
  rw [hy0] at g0
  obtain ⟨a0, e0, b0⟩ := int_c g0
  have g1 : DataW.trod enc Tryz.prog W 0 (fun _ => true) held n 3 ((cs.drop 1).take (Tryz.prog.cellsOf 3)) = xs[1]? := hfs 1 _ rfl
  rw [cells_int] at g1
  obtain ⟨y1, hy1⟩ := at_some 1 hxl (by decide)
  rw [hy1] at g1
  obtain ⟨a1, e1, b1⟩ := int_c g1
  have g2 : DataW.trod enc Tryz.prog W 0 (fun _ => true) held n 3 ((cs.drop 2).take (Tryz.prog.cellsOf 3)) = xs[2]? := hfs 2 _ rfl
  rw [cells_int] at g2
  obtain ⟨y2, hy2⟩ := at_some 2 hxl (by decide)
  rw [hy2] at g2
  obtain ⟨a2, e2, b2⟩ := int_c g2
  have g3 : DataW.trod enc Tryz.prog W 0 (fun _ => true) held n 9 ((cs.drop 3).take (Tryz.prog.cellsOf 9)) = xs[3]? := hfs 3 _ rfl
  rw [cells_str] at g3
  obtain ⟨y3, hy3⟩ := at_some 3 hxl (by decide)
  rw [hy3] at g3
  obtain ⟨a3, e3⟩ := str_c g3
  have g4 : DataW.trod enc Tryz.prog W 0 (fun _ => true) held n 23 ((cs.drop 4).take (Tryz.prog.cellsOf 23)) = xs[4]? := hfs 4 _ rfl
  rw [cells_dig] at g4
  obtain ⟨y4, hy4⟩ := at_some 4 hxl (by decide)
  rw [hy4] at g4
  obtain ⟨a4, e4, b4⟩ := dig_c g4
  have g5 : DataW.trod enc Tryz.prog W 0 (fun _ => true) held n 23 ((cs.drop 36).take (Tryz.prog.cellsOf 23)) = xs[5]? := hfs 5 _ rfl
  rw [cells_dig] at g5
  obtain ⟨y5, hy5⟩ := at_some 5 hxl (by decide)
  rw [hy5] at g5
  obtain ⟨a5, e5, b5⟩ := dig_c g5
  have hcs : cs = [nu a0] ++ ([nu a1] ++ ([nu a2] ++ ([st a3] ++ (dg a4 ++ (dg a5 ++ []))))) := (stp cs 0 1 1 rfl).trans (congr (congrArg HAppend.hAppend e0) ((stp cs 1 1 2 rfl).trans (congr (congrArg HAppend.hAppend e1) ((stp cs 2 1 3 rfl).trans (congr (congrArg HAppend.hAppend e2) ((stp cs 3 1 4 rfl).trans (congr (congrArg HAppend.hAppend e3) ((stp cs 4 32 36 rfl).trans (congr (congrArg HAppend.hAppend e4) ((stp cs 36 32 68 rfl).trans (congr (congrArg HAppend.hAppend e5) (List.drop_eq_nil_of_le (by omega)))))))))))))
  refine ⟨⟨a0, a1, a2, a3, a4, a5⟩, ?_, ⟨b4, b5⟩, ⟨b0, b1, b2⟩⟩
  rw [hcs]; simp [subC]
theorem pen_c (h : DataW.trod enc Tryz.prog W 0 (fun _ => true) held fuel 109 cs = some x) : ∃ y : Pen, cs = penC y ∧ penOk y := by
  obtain ⟨xs, n, _, _, hl, hlen, hfs⟩ := DataW.trod_struct Tryz.underlying109 h
  rw [cells_pen] at hl
  have hxl : xs.length = 6 := hlen
  have g0 : DataW.trod enc Tryz.prog W 0 (fun _ => true) held n 3 ((cs.drop 0).take (Tryz.prog.cellsOf 3)) = xs[0]? := hfs 0 _ rfl
  rw [cells_int] at g0
  obtain ⟨y0, hy0⟩ := at_some 0 hxl (by decide)
  rw [hy0] at g0
  obtain ⟨a0, e0, b0⟩ := int_c g0
  have g1 : DataW.trod enc Tryz.prog W 0 (fun _ => true) held n 3 ((cs.drop 1).take (Tryz.prog.cellsOf 3)) = xs[1]? := hfs 1 _ rfl
  rw [cells_int] at g1
  obtain ⟨y1, hy1⟩ := at_some 1 hxl (by decide)
  rw [hy1] at g1
  obtain ⟨a1, e1, b1⟩ := int_c g1
  have g2 : DataW.trod enc Tryz.prog W 0 (fun _ => true) held n 3 ((cs.drop 2).take (Tryz.prog.cellsOf 3)) = xs[2]? := hfs 2 _ rfl
  rw [cells_int] at g2
  obtain ⟨y2, hy2⟩ := at_some 2 hxl (by decide)
  rw [hy2] at g2
  obtain ⟨a2, e2, b2⟩ := int_c g2
  have g3 : DataW.trod enc Tryz.prog W 0 (fun _ => true) held n 3 ((cs.drop 3).take (Tryz.prog.cellsOf 3)) = xs[3]? := hfs 3 _ rfl
  rw [cells_int] at g3
  obtain ⟨y3, hy3⟩ := at_some 3 hxl (by decide)
  rw [hy3] at g3
  obtain ⟨a3, e3, b3⟩ := int_c g3
  have g4 : DataW.trod enc Tryz.prog W 0 (fun _ => true) held n 23 ((cs.drop 4).take (Tryz.prog.cellsOf 23)) = xs[4]? := hfs 4 _ rfl
  rw [cells_dig] at g4
  obtain ⟨y4, hy4⟩ := at_some 4 hxl (by decide)
  rw [hy4] at g4
  obtain ⟨a4, e4, b4⟩ := dig_c g4
  have g5 : DataW.trod enc Tryz.prog W 0 (fun _ => true) held n 23 ((cs.drop 36).take (Tryz.prog.cellsOf 23)) = xs[5]? := hfs 5 _ rfl
  rw [cells_dig] at g5
  obtain ⟨y5, hy5⟩ := at_some 5 hxl (by decide)
  rw [hy5] at g5
  obtain ⟨a5, e5, b5⟩ := dig_c g5
  have hcs : cs = [nu a0] ++ ([nu a1] ++ ([nu a2] ++ ([nu a3] ++ (dg a4 ++ (dg a5 ++ []))))) := (stp cs 0 1 1 rfl).trans (congr (congrArg HAppend.hAppend e0) ((stp cs 1 1 2 rfl).trans (congr (congrArg HAppend.hAppend e1) ((stp cs 2 1 3 rfl).trans (congr (congrArg HAppend.hAppend e2) ((stp cs 3 1 4 rfl).trans (congr (congrArg HAppend.hAppend e3) ((stp cs 4 32 36 rfl).trans (congr (congrArg HAppend.hAppend e4) ((stp cs 36 32 68 rfl).trans (congr (congrArg HAppend.hAppend e5) (List.drop_eq_nil_of_le (by omega)))))))))))))
  refine ⟨⟨a0, a1, a2, a3, a4, a5⟩, ?_, ⟨b0, b1, b2, b3, b4, b5⟩⟩
  rw [hcs]; simp [penC]
theorem blo_c (h : DataW.trod enc Tryz.prog W 0 (fun _ => true) held fuel 30 cs = some x) : ∃ y : Blo, cs = bloC y ∧ y.Wf ∧ (I64 y.owner ∧ I64 y.number) := by
  obtain ⟨xs, n, _, _, hl, hlen, hfs⟩ := DataW.trod_struct Tryz.underlying30 h
  rw [cells_blo] at hl
  have hxl : xs.length = 4 := hlen
  have g0 : DataW.trod enc Tryz.prog W 0 (fun _ => true) held n 3 ((cs.drop 0).take (Tryz.prog.cellsOf 3)) = xs[0]? := hfs 0 _ rfl
  rw [cells_int] at g0
  obtain ⟨y0, hy0⟩ := at_some 0 hxl (by decide)
  rw [hy0] at g0
  obtain ⟨a0, e0, b0⟩ := int_c g0
  have g1 : DataW.trod enc Tryz.prog W 0 (fun _ => true) held n 3 ((cs.drop 1).take (Tryz.prog.cellsOf 3)) = xs[1]? := hfs 1 _ rfl
  rw [cells_int] at g1
  obtain ⟨y1, hy1⟩ := at_some 1 hxl (by decide)
  rw [hy1] at g1
  obtain ⟨a1, e1, b1⟩ := int_c g1
  have g2 : DataW.trod enc Tryz.prog W 0 (fun _ => true) held n 9 ((cs.drop 2).take (Tryz.prog.cellsOf 9)) = xs[2]? := hfs 2 _ rfl
  rw [cells_str] at g2
  obtain ⟨y2, hy2⟩ := at_some 2 hxl (by decide)
  rw [hy2] at g2
  obtain ⟨a2, e2⟩ := str_c g2
  have g3 : DataW.trod enc Tryz.prog W 0 (fun _ => true) held n 23 ((cs.drop 3).take (Tryz.prog.cellsOf 23)) = xs[3]? := hfs 3 _ rfl
  rw [cells_dig] at g3
  obtain ⟨y3, hy3⟩ := at_some 3 hxl (by decide)
  rw [hy3] at g3
  obtain ⟨a3, e3, b3⟩ := dig_c g3
  have hcs : cs = [nu a0] ++ ([nu a1] ++ ([st a2] ++ (dg a3 ++ []))) := (stp cs 0 1 1 rfl).trans (congr (congrArg HAppend.hAppend e0) ((stp cs 1 1 2 rfl).trans (congr (congrArg HAppend.hAppend e1) ((stp cs 2 1 3 rfl).trans (congr (congrArg HAppend.hAppend e2) ((stp cs 3 32 35 rfl).trans (congr (congrArg HAppend.hAppend e3) (List.drop_eq_nil_of_le (by omega)))))))))
  refine ⟨⟨a0, a1, a2, a3⟩, ?_, ⟨b3⟩, b0, b1⟩
  rw [hcs]; simp [bloC]
theorem pens_build (a : Addr) : ∀ (n : Nat), (∀ j, j < n → ∃ y : Pen, penOk y ∧ ∀ i c, (penC y)[i]? = some c → W.cell? ((a.add (j * 68)).add i) = some c) → ∃ ps : List Pen, ps.length = n ∧ (∀ p ∈ ps, penOk p) ∧ ∀ j, j < n → ∀ i c, (penC (ps.getD j noPen))[i]? = some c → W.cell? ((a.add (j * 68)).add i) = some c
  | 0, _ => ⟨[], rfl, (fun p hp => by cases hp), fun j hj => absurd hj (Nat.not_lt_zero j)⟩
  | n + 1, h => by
    obtain ⟨ps, h1, h2, h3⟩ := pens_build a n (fun j hj => h j (by omega))
    obtain ⟨y, hy, hc⟩ := h n (by omega)
    refine ⟨ps ++ [y], by simp [h1], ?_, fun j hj => ?_⟩
    · intro p hp
      rcases List.mem_append.1 hp with hp | hp
      · exact h2 p hp
      · simp at hp; subst hp; exact hy
    · by_cases e : j = n
      · subst e
        have : (ps ++ [y]).getD j noPen = y := by simp [List.getD, ← h1]
        rw [this]
        exact hc
      · have : (ps ++ [y]).getD j noPen = ps.getD j noPen := by simp [List.getD, List.getElem?_append_left (by omega : j < ps.length)]
        rw [this]
        exact h3 j (by omega)
theorem pens_c (h : DataW.trod enc Tryz.prog W 0 (fun _ => true) held fuel 26 cs = some x) : ∃ v ps, cs = [v] ∧ PensAt W v ps ∧ (∀ p ∈ ps, penOk p) ∧ ps.length ≤ 9223372036854775807 := by
  rcases Go.Deep.open_slice Tryz.underlying26 h with ⟨hcs, hx⟩ | ⟨a, len, cap, m, n, Df, Pf, hcs, hb, hl, hm, hmm, hx, hat⟩
  · exact ⟨_, [], hcs, PensAt.nil W, (fun n hn => by cases hn), Nat.zero_le _⟩
  · simp only [if_true] at hmm
    subst hmm
    obtain ⟨ps, p1, p2, p3⟩ := pens_build (W := W) a len (fun j hj => by
      obtain ⟨cs', hcs', ht⟩ := hat j (by omega)
      rw [cells_pen] at hcs'
      obtain ⟨y, rfl, hy⟩ := pen_c ht
      refine ⟨y, hy, fun i c hi => ?_⟩
      have h0 := (World.cells?_some hcs').2.2 i (by have := (List.getElem?_eq_some_iff.1 hi).1; have := penC_len (wf_of_ok hy); omega)
      rw [hi] at h0
      exact h0)
    refine ⟨_, ps, hcs, ⟨some a, m, by rw [p1], fun hne => ?_⟩, p2, ?_⟩
    · have hpos : 0 < len := by
        rcases Nat.eq_zero_or_pos len with e | e
        · exact absurd (List.length_eq_zero_iff.1 (p1.trans e)) hne
        · exact e
      obtain ⟨b, off, spot⟩ := a
      have hw0 := getD_wf (fun p hp => wf_of_ok (p2 p hp)) 0 (by omega)
      have h00 := p3 0 hpos 0 (nu (ps.getD 0 noPen).client) rfl
      have hspot : spot = none := by simpa [Addr.add] using World.cell?_spot h00
      subst hspot
      refine ⟨b, off, rfl, fun j hj i c hi => ?_⟩
      rw [p1] at hj
      have h9 := p3 j hj i c hi
      rw [Go.WideShapes.add_plain, Go.WideShapes.add_plain] at h9
      exact h9
    · rw [p1]
      have : m ≤ 9223372036854775807 := hm
      omega
theorem rep_c (h : DataW.trod enc Tryz.prog W 0 (fun _ => true) held fuel 28 cs = some x) : ∃ (y : Rep) (vP : Value), cs = repC y vP ∧ y.Wf ∧ (I64 y.number ∧ I64 y.last ∧ I64 y.vnum ∧ ∀ p ∈ y.pend, penOk p) ∧ PensAt W vP y.pend ∧ y.pend.length ≤ 9223372036854775807 := by
  obtain ⟨xs, n, _, _, hl, hlen, hfs⟩ := DataW.trod_struct Tryz.underlying28 h
  rw [cells_rep] at hl
  have hxl : xs.length = 10 := hlen
  have g0 : DataW.trod enc Tryz.prog W 0 (fun _ => true) held n 3 ((cs.drop 0).take (Tryz.prog.cellsOf 3)) = xs[0]? := hfs 0 _ rfl
  rw [cells_int] at g0
  obtain ⟨y0, hy0⟩ := at_some 0 hxl (by decide)
  rw [hy0] at g0
  obtain ⟨a0, e0, b0⟩ := int_c g0
  have g1 : DataW.trod enc Tryz.prog W 0 (fun _ => true) held n 3 ((cs.drop 1).take (Tryz.prog.cellsOf 3)) = xs[1]? := hfs 1 _ rfl
  rw [cells_int] at g1
  obtain ⟨y1, hy1⟩ := at_some 1 hxl (by decide)
  rw [hy1] at g1
  obtain ⟨a1, e1, b1⟩ := int_c g1
  have g2 : DataW.trod enc Tryz.prog W 0 (fun _ => true) held n 9 ((cs.drop 2).take (Tryz.prog.cellsOf 9)) = xs[2]? := hfs 2 _ rfl
  rw [cells_str] at g2
  obtain ⟨y2, hy2⟩ := at_some 2 hxl (by decide)
  rw [hy2] at g2
  obtain ⟨a2, e2⟩ := str_c g2
  have g3 : DataW.trod enc Tryz.prog W 0 (fun _ => true) held n 23 ((cs.drop 3).take (Tryz.prog.cellsOf 23)) = xs[3]? := hfs 3 _ rfl
  rw [cells_dig] at g3
  obtain ⟨y3, hy3⟩ := at_some 3 hxl (by decide)
  rw [hy3] at g3
  obtain ⟨a3, e3, b3⟩ := dig_c g3
  have g4 : DataW.trod enc Tryz.prog W 0 (fun _ => true) held n 26 ((cs.drop 35).take (Tryz.prog.cellsOf 26)) = xs[4]? := hfs 4 _ rfl
  rw [cells_pens] at g4
  obtain ⟨y4, hy4⟩ := at_some 4 hxl (by decide)
  rw [hy4] at g4
  obtain ⟨v4, a4, e4, b4, r4, l4⟩ := pens_c g4
  have g5 : DataW.trod enc Tryz.prog W 0 (fun _ => true) held n 3 ((cs.drop 36).take (Tryz.prog.cellsOf 3)) = xs[5]? := hfs 5 _ rfl
  rw [cells_int] at g5
  obtain ⟨y5, hy5⟩ := at_some 5 hxl (by decide)
  rw [hy5] at g5
  obtain ⟨a5, e5, b5⟩ := int_c g5
  have g6 : DataW.trod enc Tryz.prog W 0 (fun _ => true) held n 9 ((cs.drop 37).take (Tryz.prog.cellsOf 9)) = xs[6]? := hfs 6 _ rfl
  rw [cells_str] at g6
  obtain ⟨y6, hy6⟩ := at_some 6 hxl (by decide)
  rw [hy6] at g6
  obtain ⟨a6, e6⟩ := str_c g6
  have g7 : DataW.trod enc Tryz.prog W 0 (fun _ => true) held n 23 ((cs.drop 38).take (Tryz.prog.cellsOf 23)) = xs[7]? := hfs 7 _ rfl
  rw [cells_dig] at g7
  obtain ⟨y7, hy7⟩ := at_some 7 hxl (by decide)
  rw [hy7] at g7
  obtain ⟨a7, e7, b7⟩ := dig_c g7
  have g8 : DataW.trod enc Tryz.prog W 0 (fun _ => true) held n 9 ((cs.drop 70).take (Tryz.prog.cellsOf 9)) = xs[8]? := hfs 8 _ rfl
  rw [cells_str] at g8
  obtain ⟨y8, hy8⟩ := at_some 8 hxl (by decide)
  rw [hy8] at g8
  obtain ⟨a8, e8⟩ := str_c g8
  have g9 : DataW.trod enc Tryz.prog W 0 (fun _ => true) held n 23 ((cs.drop 71).take (Tryz.prog.cellsOf 23)) = xs[9]? := hfs 9 _ rfl
  rw [cells_dig] at g9
  obtain ⟨y9, hy9⟩ := at_some 9 hxl (by decide)
  rw [hy9] at g9
  obtain ⟨a9, e9, b9⟩ := dig_c g9
  have hcs : cs = [nu a0] ++ ([nu a1] ++ ([st a2] ++ (dg a3 ++ ([v4] ++ ([nu a5] ++ ([st a6] ++ (dg a7 ++ ([st a8] ++ (dg a9 ++ []))))))))) := (stp cs 0 1 1 rfl).trans (congr (congrArg HAppend.hAppend e0) ((stp cs 1 1 2 rfl).trans (congr (congrArg HAppend.hAppend e1) ((stp cs 2 1 3 rfl).trans (congr (congrArg HAppend.hAppend e2) ((stp cs 3 32 35 rfl).trans (congr (congrArg HAppend.hAppend e3) ((stp cs 35 1 36 rfl).trans (congr (congrArg HAppend.hAppend e4) ((stp cs 36 1 37 rfl).trans (congr (congrArg HAppend.hAppend e5) ((stp cs 37 1 38 rfl).trans (congr (congrArg HAppend.hAppend e6) ((stp cs 38 32 70 rfl).trans (congr (congrArg HAppend.hAppend e7) ((stp cs 70 1 71 rfl).trans (congr (congrArg HAppend.hAppend e8) ((stp cs 71 32 103 rfl).trans (congr (congrArg HAppend.hAppend e9) (List.drop_eq_nil_of_le (by omega)))))))))))))))))))))
  refine ⟨⟨a0, a1, a2, a3, a4, a5, a6, a7, a8, a9⟩, v4, ?_, ⟨b3, b7, b9, fun p hp => wf_of_ok (r4 p hp)⟩, ⟨b0, b1, b5, r4⟩, b4, l4⟩
  rw [hcs]; simp [repC]
theorem msg_c (h : DataW.trod enc Tryz.prog W 0 (fun _ => true) held fuel 33 cs = some x) : ∃ (m : Msg) (vP vN : Value), cs = msgC m vP vN ∧ m.Wf ∧ m.Rng ∧ PensAt W vP m.rep.pend ∧ IntsAt W vN m.nums ∧ Lens m := by
  obtain ⟨xs, n, _, _, hl, hlen, hfs⟩ := DataW.trod_struct Tryz.underlying33 h
  rw [cells_msg] at hl
  have hxl : xs.length = 10 := hlen
  have g0 : DataW.trod enc Tryz.prog W 0 (fun _ => true) held n 3 ((cs.drop 0).take (Tryz.prog.cellsOf 3)) = xs[0]? := hfs 0 _ rfl
  rw [cells_int] at g0
  obtain ⟨y0, hy0⟩ := at_some 0 hxl (by decide)
  rw [hy0] at g0
  obtain ⟨a0, e0, b0⟩ := int_c g0
  have g1 : DataW.trod enc Tryz.prog W 0 (fun _ => true) held n 3 ((cs.drop 1).take (Tryz.prog.cellsOf 3)) = xs[1]? := hfs 1 _ rfl
  rw [cells_int] at g1
  obtain ⟨y1, hy1⟩ := at_some 1 hxl (by decide)
  rw [hy1] at g1
  obtain ⟨a1, e1, b1⟩ := int_c g1
  have g2 : DataW.trod enc Tryz.prog W 0 (fun _ => true) held n 25 ((cs.drop 2).take (Tryz.prog.cellsOf 25)) = xs[2]? := hfs 2 _ rfl
  rw [cells_sub] at g2
  obtain ⟨y2, hy2⟩ := at_some 2 hxl (by decide)
  rw [hy2] at g2
  obtain ⟨a2, e2, b2, r2⟩ := sub_c g2
  have g3 : DataW.trod enc Tryz.prog W 0 (fun _ => true) held n 28 ((cs.drop 70).take (Tryz.prog.cellsOf 28)) = xs[3]? := hfs 3 _ rfl
  rw [cells_rep] at g3
  obtain ⟨y3, hy3⟩ := at_some 3 hxl (by decide)
  rw [hy3] at g3
  obtain ⟨a3, v3, e3, b3, r3, p3, l3⟩ := rep_c g3
  have g4 : DataW.trod enc Tryz.prog W 0 (fun _ => true) held n 9 ((cs.drop 173).take (Tryz.prog.cellsOf 9)) = xs[4]? := hfs 4 _ rfl
  rw [cells_str] at g4
  obtain ⟨y4, hy4⟩ := at_some 4 hxl (by decide)
  rw [hy4] at g4
  obtain ⟨a4, e4⟩ := str_c g4
  have g5 : DataW.trod enc Tryz.prog W 0 (fun _ => true) held n 3 ((cs.drop 174).take (Tryz.prog.cellsOf 3)) = xs[5]? := hfs 5 _ rfl
  rw [cells_int] at g5
  obtain ⟨y5, hy5⟩ := at_some 5 hxl (by decide)
  rw [hy5] at g5
  obtain ⟨a5, e5, b5⟩ := int_c g5
  have g6 : DataW.trod enc Tryz.prog W 0 (fun _ => true) held n 23 ((cs.drop 175).take (Tryz.prog.cellsOf 23)) = xs[6]? := hfs 6 _ rfl
  rw [cells_dig] at g6
  obtain ⟨y6, hy6⟩ := at_some 6 hxl (by decide)
  rw [hy6] at g6
  obtain ⟨a6, e6, b6⟩ := dig_c g6
  have g7 : DataW.trod enc Tryz.prog W 0 (fun _ => true) held n 23 ((cs.drop 207).take (Tryz.prog.cellsOf 23)) = xs[7]? := hfs 7 _ rfl
  rw [cells_dig] at g7
  obtain ⟨y7, hy7⟩ := at_some 7 hxl (by decide)
  rw [hy7] at g7
  obtain ⟨a7, e7, b7⟩ := dig_c g7
  have g8 : DataW.trod enc Tryz.prog W 0 (fun _ => true) held n 30 ((cs.drop 239).take (Tryz.prog.cellsOf 30)) = xs[8]? := hfs 8 _ rfl
  rw [cells_blo] at g8
  obtain ⟨y8, hy8⟩ := at_some 8 hxl (by decide)
  rw [hy8] at g8
  obtain ⟨a8, e8, b8, r8⟩ := blo_c g8
  have g9 : DataW.trod enc Tryz.prog W 0 (fun _ => true) held n 31 ((cs.drop 274).take (Tryz.prog.cellsOf 31)) = xs[9]? := hfs 9 _ rfl
  rw [cells_ints] at g9
  obtain ⟨y9, hy9⟩ := at_some 9 hxl (by decide)
  rw [hy9] at g9
  obtain ⟨v9, a9, e9, b9, r9, l9⟩ := ints_c g9
  have hcs : cs = [nu a0] ++ ([nu a1] ++ (subC a2 ++ (repC a3 v3 ++ ([st a4] ++ ([nu a5] ++ (dg a6 ++ (dg a7 ++ (bloC a8 ++ ([v9] ++ []))))))))) := (stp cs 0 1 1 rfl).trans (congr (congrArg HAppend.hAppend e0) ((stp cs 1 1 2 rfl).trans (congr (congrArg HAppend.hAppend e1) ((stp cs 2 68 70 rfl).trans (congr (congrArg HAppend.hAppend e2) ((stp cs 70 103 173 rfl).trans (congr (congrArg HAppend.hAppend e3) ((stp cs 173 1 174 rfl).trans (congr (congrArg HAppend.hAppend e4) ((stp cs 174 1 175 rfl).trans (congr (congrArg HAppend.hAppend e5) ((stp cs 175 32 207 rfl).trans (congr (congrArg HAppend.hAppend e6) ((stp cs 207 32 239 rfl).trans (congr (congrArg HAppend.hAppend e7) ((stp cs 239 35 274 rfl).trans (congr (congrArg HAppend.hAppend e8) ((stp cs 274 1 275 rfl).trans (congr (congrArg HAppend.hAppend e9) (List.drop_eq_nil_of_le (by omega)))))))))))))))))))))
  refine ⟨⟨a0, a1, a2, a3, a4, a5, a6, a7, a8, a9⟩, v3, v9, ?_, ⟨b2, b3, b6, b7, b8⟩, ⟨b0, b1, r2.n, r2.k, r2.t, r3.1, r3.2.1, r3.2.2.1, b5, r8.1, r8.2, r9, r3.2.2.2⟩, p3, b9, l3, l9⟩
  rw [hcs]; simp [msgC]
theorem sixC_def : True := trivial
end
section
variable {H : Type} {enc : TypeId × Value → H} {W : World} {v : Value} {d : DataW H} {p : List MemPlace}
theorem agg_of {v : Value} {l : List Value} (h : v.cells.toList = l) (hl : 1 < l.length) : v = .agg l.toArray := by
  cases v with
  | agg cs => simp only [Value.cells] at h; rw [← h, Array.toArray_toList]
  | _ => simp [Value.cells] at h; subst h; simp at hl
theorem open_sub (h : DataW.Trod enc Tryz.prog W 0 (fun _ => true) true 25 v d p) : ∃ y : Sub, v = .agg (subC y).toArray ∧ y.Wf ∧ SubRng y := by
  obtain ⟨fuel, hf⟩ := h
  obtain ⟨y, hc, h1, h2⟩ := sub_c hf
  exact ⟨y, agg_of hc (by rw [subC_len h1]; decide), h1, h2⟩
theorem open_msg (h : DataW.Trod enc Tryz.prog W 0 (fun _ => true) true 33 v d p) : ∃ (m : Msg) (vP vN : Value), v = .agg (msgC m vP vN).toArray ∧ m.Wf ∧ m.Rng ∧ PensAt W vP m.rep.pend ∧ IntsAt W vN m.nums ∧ Lens m := by
  obtain ⟨fuel, hf⟩ := h
  obtain ⟨m, vP, vN, hc, h1, h2, h3, h4, h5⟩ := msg_c hf
  exact ⟨m, vP, vN, agg_of hc (by rw [msgC_len h1]; decide), h1, h2, h3, h4, h5⟩
end
end Go.Proofs.YtpnnibddjopniaaGreatDoor.Ms

/-
  What the laid variables give the walks, and a start in which they lie so.
-/
namespace Go.Proofs.YtpnnibddjopniaaGreatDoor
open Go.ChangeShapes Go.WideShapes Go.ChangeAt Go.WideMaps Go.WideElems Go.RowKit

def laidAll : List (String × DataW Unit) := [("math/bits.deBruijn32tab", Rows.laid_math_bits_deBruijn32tab), ("math/bits.deBruijn64tab", Rows.laid_math_bits_deBruijn64tab), ("internal/strconv.uint64pow10", Rows.laid_internal_strconv_uint64pow10), ("strconv.ErrRange", Rows.laid_strconv_ErrRange), ("strconv.ErrSyntax", Rows.laid_strconv_ErrSyntax)]

theorem own : ownKnob Tryz.prog.godebug = none := by kernel_rfl
theorem tPow : (Tryz.prog.globals[2]?).map (·.type) = some 184 := by kernel_rfl
theorem tRange : (Tryz.prog.globals[1]?).map (·.type) = some 93 := by kernel_rfl
theorem door_met (os : Os) (args : Array Value) : laidMetH Tryz.prog laidAll ((World.doorLaid Tryz.prog 62 os).forCall (fun _ _ => 0) ⟨#[], args, []⟩).memory :=
  laidMetH_of_parts3 (fuel := 8) (laidMet_of_run' 8 (by kernel_rfl) (by kernel_rfl)) (by kernel_rfl) (by kernel_rfl)

theorem cells162 : Tryz.prog.cellsOf 162 = 1 := by kernel_rfl
theorem cells184 : Tryz.prog.cellsOf 184 = 20 := by kernel_rfl
theorem cells192 : Tryz.prog.cellsOf 192 = 1 := by kernel_rfl
theorem cells9 : Tryz.prog.cellsOf 9 = 1 := by kernel_rfl
theorem star : "*" ++ "errors.errorString" = "*errors.errorString" := by decide
theorem row190 (u : TypeId) (h : Tryz.prog.typeName? 3 u = some "*errors.errorString") : u = 190 :=
  typeName_ptr_named (nm := "errors.errorString") (by rw [star]; kernel_rfl) (by kernel_rfl) (by decide) u (by rw [star]; exact h)
theorem powData : (Rows.laid_internal_strconv_uint64pow10 : DataW Unit) = Lib.tabData .u64 Lib.pow10Tab := by kernel_rfl

theorem tabs_of_laid {W : World} (h : laidMetH Tryz.prog laidAll W) : Lay.Tabs W := by
  rw [MakeChecks.laidMetH_plain _ _ _ (by kernel_rfl)] at h
  have h2 := h.tail.tail
  rw [powData] at h2
  obtain ⟨a, s, hv, -, -, -⟩ := laid_sentinel h.tail.tail.tail Lay.gRange tRange Tryz.underlying93 row190 Tryz.underlying190 Tryz.underlying192 rfl rfl Tryz.underlying9 cells192 cells9
  exact ⟨Lib.tabIs_of_head Lay.gPow tPow Tryz.underlying184 Tryz.underlying162 cells162 cells184 h2, _, _, hv⟩

end Go.Proofs.YtpnnibddjopniaaGreatDoor

/-
  MsgBack answers true at every input. The package variables that are listed hold what the program's text lays (the card ties them).
-/
namespace Go.Proofs.YtpnnibddjopniaaGreatDoor
open Go.ChangeShapes Go.WideShapes Go.ChangeAt Go.WideMaps Go.WideElems Go.RowKit
open Go.ChangeMaps (open_string shut_string)
set_option maxRecDepth 100000

theorem msgBack_lifted (os : Os) (started : os.Started) (H : Type) (enc : TypeId × Value → H) :
    ReturnsInHanded {} Tryz.checked os 5 .any (fun w args => (Rows.msgBackSpec.pre enc Tryz.prog Tryz.f5 [] false w args ∧ laidMetH Tryz.prog laidAll w) ∧ sizedMet enc Tryz.prog Tryz.f5 (OpenSpec.ofChange Rows.msgBackSpec) false w args)
      (Rows.msgBackSpec.post enc Tryz.prog Tryz.f5 false true false false) := by
  refine returnsInHanded_of_change_and (C := Tryz.checked) (X := fun w _ => laidMetH Tryz.prog laidAll w) (fun _ _ _ hh h => h.of_heap hh) own started (by kernel_rfl) Tryz.func5
    (ChangeSpec.witness_shaped (enc := enc) (C := Tryz.checked) (os := os) (X := fun w _ => laidMetH Tryz.prog laidAll w) false (World.doorLaid Tryz.prog 62 os) #[.agg (Ms.msgC (Ms.zeroM 0 0) (.slice none 0 0) (.slice none 0 0)).toArray, .string ⟨#[]⟩] 8 rfl (World.shaped_of_RefB (by kernel_rfl) (by kernel_rfl)) (by kernel_rfl) (by kernel_rfl) (by kernel_rfl) (door_met os _)) ?_
  intro W base args ds gs before hval0 hW _ hsz hL _
  have hval : ∀ (j : Nat) t v, Tryz.f5.params[j]? = some t → args[j]? = some v → Value.okWide Tryz.prog W .any base t v := hval0
  have hW' := hW
  obtain ⟨p, q, hA0, hV, rfl, hfz, hnd⟩ := hW
  have hA : DataW.TrodAll enc Tryz.prog W 0 (fun _ => true) true Tryz.f5.params.toList args.toList ds p := hA0
  rw [Tryz.params5] at hA hval hsz
  obtain ⟨v0, v1, d0, d1, p0, p1, rfl, rfl, rfl, h0, h1⟩ := trodAll_two hA
  obtain ⟨rfl, rfl⟩ := trodVars_none hV
  obtain ⟨m0, vP0, vN0, rfl, hw0, hr0, hp0, hn0, hl0⟩ := Ms.open_msg h0
  obtain ⟨s1, rfl, rfl, rfl, hs1⟩ := open_string Tryz.underlying9 (hval 1 9 v1 rfl rfl) h1
  clear hA0 hval0
  simp only [List.append_nil] at hW'
  have hlt : ∀ x ∈ p0 ++ [], x.block < W.heap.size := fun x hx => by simpa using hW'.lt x (by simpa using hx)
  have hcall : Calls Tryz.prog 5 #[.agg (Ms.msgC m0 vP0 vN0).toArray, .string s1] W fun e w' => e = .returned (.bool true) ∧ Below W.heap.size W w' := Ms.back_walk W (tabs_of_laid hL) m0 vP0 vN0 hw0 hr0 hp0 hn0 hl0 s1.data.toList
  refine hcall.mono fun e W' ⟨he, hnx⟩ => ?_
  subst he
  refine ⟨_, rfl, _, _, _, [], p0 ++ [], [], hW', ?_, ?_, rfl, hnx.frame _, fun h => by cases h⟩
  · exact trodAll_mk1 (shut_bool Tryz.underlying4 _)
  · exact trodAll_mk2 (Below.trod Ms.laidOut (by kernel_rfl) (of_decide_eq_true (by kernel_rfl)) h0 hnx (fun x hx => hlt x (by simp [hx]))) (shut_string Tryz.underlying9 hs1)

theorem msgBack_holds : Rows.MsgBackSaid :=
  OpenClaim.holds_of_wide 5 Tryz.f5 rfl rfl rfl rfl rfl rfl rfl ⟨rfl, rfl, rfl, rfl, rfl⟩ rfl rfl rfl rfl rfl (by kernel_rfl) Tryz.func5 (by kernel_rfl)
    (of_decide_eq_true (by kernel_rfl)) (by unfold Func.isWrapper; rw [if_neg (of_decide_eq_false (by kernel_rfl))]; exact ⟨rfl, rfl⟩)
    (fun os started H enc _ => msgBack_lifted os started H enc)

theorem msgBack_card : Rows.MsgBackCardSaid :=
  Claim7.holds_tied_plain_at .later [] [.data, .data, .data, .sentinel, .sentinel] true (true, "d107ac4eeac63466ab8e3b0cff98229e42e80e4660ebec269d88c8f14d6c8631") true
    msgBack_holds (fun _ h => by cases h) (by kernel_rfl) (fun _ h => by cases h) msgBack_row_tie rfl ⟨rfl, rfl⟩ (by kernel_rfl) rfl
    (fun f fn hf hfn => by
      obtain rfl : f = 5 := Option.some.inj ((show Tryz.prog.funcNamed "affidavit/affidavitlaw10.MsgBack" = some 5 by kernel_rfl).symm.trans hf) |>.symm
      obtain rfl : fn = Tryz.f5 := (Option.some.inj (Tryz.func5.symm.trans hfn)).symm
      exact ⟨by kernel_rfl, fun j t ht => by
        rw [Tryz.params5] at ht
        have hm : t ∈ [33, 9] := by simpa using Array.mem_of_getElem? ht
        have hall : ([33, 9].all fun u => !Tryz.prog.wantsStandIn u) = true := by kernel_rfl
        exact (show Tryz.prog.wantsStandIn t = false by simpa using List.all_eq_true.1 hall t hm)⟩)
    (by kernel_rfl)
#print axioms msgBack_card
end Go.Proofs.YtpnnibddjopniaaGreatDoor
