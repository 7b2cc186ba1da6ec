/-
  What is pending in memory, as a thing that has fields: what they hold, and what it is when another value comes to lie at one's place.
-/
import Derived.Test.YtidlgecognedlaaGreatDoorGja
import Derived.Test.YtidlgecognedlaaGreatDoorGfo
import Derived.Test.YtidlgecognedlaaGreatDoorLnum
import Derived.Test.YtidlgecognedlaaGreatDoorJma
import Derived.Test.YtidlgecognedlaaGreatDoorGpx
import Derived.Test.YtidlgecognedlaaGreatDoorJas
import Derived.Test.YtidlgecognedlaaGreatDoorJsr
namespace Go.Proofs.YtidlgecognedlaaGreatDoor.Ms
open Go Go.RowKit
set_option maxRecDepth 100000

def IPen (g : Nat) (A C : List Value) (x : Pen) (w : World) : Prop := w.heap[g]? = some (.cells (A ++ (penC x ++ C)).toArray 113) ∧ penOk x
/-- One field of it: what stands ahead of it, what behind it. -/
structure POk (f : Fl Pen) : Prop where
  sp : ∀ x, penOk x → ∃ P S, P.length = f.off ∧ penC x = P ++ (cc (cvOf undef undef (f.get x)) (f.get x) ++ S) ∧ ∀ v cv, v.slot = f.slot → okVal v → cvForm cv v → penC (f.set x v) = P ++ (cc cv v ++ S)
  sl : ∀ x, (f.get x).slot = f.slot
  ok : ∀ x v, penOk x → v.slot = f.slot → okVal v → penOk (f.set x v)
  base : f.slot = .num ∨ f.slot = .dig
  len : ∀ x, penOk x → (cc (cvOf undef undef (f.get x)) (f.get x)).length = sz f.slot
theorem holdP {f : Fl Pen} (hf : POk f) {g : Nat} {A C : List Value} {x : Pen} {w : World} (h : IPen g A C x w) :
    (ValAt w g (A.length + f.off) (f.get x) ∧ (f.get x).slot = f.slot) ∧
    ∃ A' old C' t, w.heap[g]? = some (.cells (A' ++ (old ++ C')).toArray t) ∧ A'.length = A.length + f.off ∧ old.length = sz f.slot ∧ ∀ v w', v.slot = f.slot → okVal v → StoreAt w g A' C' t v w' → IPen g A C (f.set x v) w' := by
  obtain ⟨hrow, hok⟩ := h
  obtain ⟨P, S, hP, hx, hset⟩ := hf.sp x hok
  have e1 : A ++ (penC x ++ C) = (A ++ P) ++ (cc (cvOf undef undef (f.get x)) (f.get x) ++ (S ++ C)) := by rw [hx]; simp
  have hl : (A ++ P).length = A.length + f.off := by rw [List.length_append, hP]
  rw [e1] at hrow
  refine ⟨⟨?_, hf.sl x⟩, A ++ P, _, S ++ C, _, hrow, hl, hf.len x hok, fun v w' hs hv hst => ?_⟩
  · have hsl := hf.sl x
    have hseg := row_seg hrow rfl hl
    generalize f.get x = v at hsl hseg
    rcases hf.base with hb | hb
    · rw [hb] at hsl
      obtain ⟨n, rfl⟩ := of_num hsl
      exact hseg 0 (nu n) rfl
    · rw [hb] at hsl
      obtain ⟨n, rfl⟩ := of_dig hsl
      exact hseg
  · obtain ⟨cv, w1, -, hcv, -, hrow', -⟩ := hst
    refine ⟨?_, hf.ok x v hok hs hv⟩
    rw [hrow', hset v cv hs hv (cv_form hcv)]
    simp
theorem ok_pClient : POk pClient := by
  refine ⟨fun x hx => ⟨[], [nu x.number] ++ ([nu x.kind] ++ ([nu x.target] ++ (dg x.asked ++ (dg x.proof)))), rfl, ?_, fun v cv hs ho hc => ?_⟩, fun _ => rfl, fun x v hx hs ho => ?_, Or.inl rfl, fun _ _ => rfl⟩
  · simp [penC, pClient, cc, cvOf]
  · obtain ⟨n, rfl⟩ := of_num hs
    obtain rfl : cv = nu n := hc
    simp [penC, pClient, cc, Val.n]
  · obtain ⟨n, rfl⟩ := of_num hs
    have hv : I64 n := ho
    exact { hx with client := hv }
theorem ok_pNumber : POk pNumber := by
  refine ⟨fun x hx => ⟨[nu x.client], [nu x.kind] ++ ([nu x.target] ++ (dg x.asked ++ (dg x.proof))), rfl, ?_, fun v cv hs ho hc => ?_⟩, fun _ => rfl, fun x v hx hs ho => ?_, Or.inl rfl, fun _ _ => rfl⟩
  · simp [penC, pNumber, cc, cvOf]
  · obtain ⟨n, rfl⟩ := of_num hs
    obtain rfl : cv = nu n := hc
    simp [penC, pNumber, cc, Val.n]
  · obtain ⟨n, rfl⟩ := of_num hs
    have hv : I64 n := ho
    exact { hx with number := hv }
theorem ok_pKind : POk pKind := by
  refine ⟨fun x hx => ⟨[nu x.client] ++ ([nu x.number]), [nu x.target] ++ (dg x.asked ++ (dg x.proof)), rfl, ?_, fun v cv hs ho hc => ?_⟩, fun _ => rfl, fun x v hx hs ho => ?_, Or.inl rfl, fun _ _ => rfl⟩
  · simp [penC, pKind, cc, cvOf]
  · obtain ⟨n, rfl⟩ := of_num hs
    obtain rfl : cv = nu n := hc
    simp [penC, pKind, cc, Val.n]
  · obtain ⟨n, rfl⟩ := of_num hs
    have hv : I64 n := ho
    exact { hx with kind := hv }
theorem ok_pTarget : POk pTarget := by
  refine ⟨fun x hx => ⟨[nu x.client] ++ ([nu x.number] ++ ([nu x.kind])), dg x.asked ++ (dg x.proof), rfl, ?_, fun v cv hs ho hc => ?_⟩, fun _ => rfl, fun x v hx hs ho => ?_, Or.inl rfl, fun _ _ => rfl⟩
  · simp [penC, pTarget, cc, cvOf]
  · obtain ⟨n, rfl⟩ := of_num hs
    obtain rfl : cv = nu n := hc
    simp [penC, pTarget, cc, Val.n]
  · obtain ⟨n, rfl⟩ := of_num hs
    have hv : I64 n := ho
    exact { hx with target := hv }
theorem ok_pAsked : POk pAsked := by
  refine ⟨fun x hx => ⟨[nu x.client] ++ ([nu x.number] ++ ([nu x.kind] ++ ([nu x.target]))), dg x.proof, rfl, ?_, fun v cv hs ho hc => ?_⟩, fun _ => rfl, fun x v hx hs ho => ?_, Or.inr rfl, fun x hx => (dg_len x.asked).trans hx.asked⟩
  · simp [penC, pAsked, cc]
  · obtain ⟨n, rfl⟩ := of_dig hs
    simp [penC, pAsked, cc, Val.d]
  · obtain ⟨n, rfl⟩ := of_dig hs
    have hv : n.length = 32 := ho
    exact { hx with asked := hv }
theorem ok_pProof : POk pProof := by
  refine ⟨fun x hx => ⟨[nu x.client] ++ ([nu x.number] ++ ([nu x.kind] ++ ([nu x.target] ++ (dg x.asked)))), [], by simp [pProof, dg_len, hx.asked], ?_, fun v cv hs ho hc => ?_⟩, fun _ => rfl, fun x v hx hs ho => ?_, Or.inr rfl, fun x hx => (dg_len x.proof).trans hx.proof⟩
  · simp [penC, pProof, cc]
  · obtain ⟨n, rfl⟩ := of_dig hs
    simp [penC, pProof, cc, Val.d]
  · obtain ⟨n, rfl⟩ := of_dig hs
    have hv : n.length = 32 := ho
    exact { hx with proof := hv }
theorem ok_pens : ∀ f ∈ penFs, POk f := by
  intro f hf
  simp only [penFs, List.mem_cons, List.not_mem_nil, or_false] at hf
  rcases hf with rfl | rfl | rfl | rfl | rfl | rfl
  · exact ok_pClient
  · exact ok_pNumber
  · exact ok_pKind
  · exact ok_pTarget
  · exact ok_pAsked
  · exact ok_pProof
/-- A pending's row, wherever it lies in its block, holds its fields. -/
theorem pen_hold (g : Nat) (A C : List Value) : Hold penFs g A.length (IPen g A C) where
  own := fun _ _ h => ⟨_, _, h.1, .inr rfl⟩
  stay := fun _ _ _ h hb => ⟨row_kept h.1 hb, h.2⟩
  load := fun _ _ h f hf => (holdP (ok_pens f hf) h).1
  store := fun _ _ h f hf => (holdP (ok_pens f hf) h).2
end Go.Proofs.YtidlgecognedlaaGreatDoor.Ms

/-
  What msg.layPending answers: how many there are, and each one's fields, one behind the other.
-/
namespace Go.Proofs.YtidlgecognedlaaGreatDoor.Ms
open Go Go.RowKit
set_option maxRecDepth 100000

theorem zPen : (Tryz.prog.info? 113).map (·.zero) = some (some (.agg (penC ⟨0, 0, 0, 0, List.replicate 32 0, List.replicate 32 0⟩).toArray)) := by kernel_rfl
theorem pen_okv {p : Pen} (h : penOk p) : ∀ f ∈ penFs, okVal (f.get p) := by
  intro f hf
  simp only [penFs, List.mem_cons, List.not_mem_nil, or_false] at hf
  rcases hf with rfl | rfl | rfl | rfl | rfl | rfl
  · exact h.client
  · exact h.number
  · exact h.kind
  · exact h.target
  · exact h.asked
  · exact h.proof
theorem pens_len : ∀ l : List Pen, (∀ p ∈ l, penOk p) → ((l.map layPen).flatten).length ≤ 200 * l.length := by
  intro l
  induction l with
  | nil => simp
  | cons p l ih =>
    intro hp
    have := layPen_len p (hp p (by simp))
    have := ih (fun q hq => hp q (by simp [hq]))
    simp only [List.map_cons, List.flatten_cons, List.length_append, List.length_cons]
    omega
def HLP : Prop := ∀ f ∈ penFs, LayOne f.slot
theorem hLP : HLP := by
  intro f hf
  simp only [penFs, List.mem_cons, List.not_mem_nil, or_false] at hf
  rcases hf with rfl | rfl | rfl | rfl | rfl | rfl
  · exact mkLayNum
  · exact mkLayNum
  · exact mkLayNum
  · exact mkLayNum
  · exact mkLayDig
  · exact mkLayDig
/-- One pending's bytes, out of a row of its own. -/
theorem laypen1 (p : Pen) (h : penOk p) (g : Nat) (w : World) (ht : Tb w) (v : Value) (hr : w.heap[g]? = some (.cells (penC p).toArray 113)) (hv : FieldsAt w v g (spots 0 penFs)) :
    Calls Tryz.prog 41 #[v] w fun e w' => e = .returned (st (layPen p)) ∧ Below w.heap.size w w' :=
  layall_any (pen_hold g [] []) hLP hv (x := p) ⟨by simpa using hr, h⟩ (pen_okv h) (by decide) ht
set_option maxHeartbeats 1000000 in
theorem laypens_any (ps : List Pen) (hl : ps.length ≤ 8) (hp : ∀ p ∈ ps, penOk p) (w : World) (cv : Value) (ht : Tb w) (hc : PensAt w cv ps) :
    Calls Tryz.prog 181 #[cv] w fun e w' => e = .returned (st (numB ps.length ++ (ps.map layPen).flatten)) ∧ Below w.heap.size w w' := by
  have HP := hid hc
  obtain ⟨pa, cap, rfl, -⟩ := hc
  obtain ⟨ZP, hZ⟩ : ∃ ZP : List Value, penC ⟨0, 0, 0, 0, List.replicate 32 0, List.replicate 32 0⟩ = ZP := ⟨_, rfl⟩
  have hz := zPen
  have hzl : ZP.length = 68 := by rw [← hZ]; rfl
  rw [hZ] at hz
  have HZ := hid hz
  have HZL := hid hzl
  have HT := hid ht
  have HOK := hid hp
  have HN : Hid (Calls Tryz.prog 40 #[nu ps.length] w fun e w' => e = .returned (st (numB ps.length)) ∧ Below w.heap.size w w') := Lay.number_any (ps.length : Int) (by omega) (by omega) w ht
  have hnl := numB_len (ps.length : Int) ⟨by omega, by omega⟩
  clear hz hZ hzl ht hp
  generalize numB (ps.length : Int) = nb at *
  go_enter Tryz.func181, Tryz.ntmps181
  go_wp2_with fail
  refine HN.out.mono ?_
  rintro e w1 ⟨rfl, hb1⟩
  have HB1 := hid hb1
  clear hb1 HN
  go_wp2
  go_loopw [3, 11] (fun s i w' => ∃ k : Nat, k ≤ ps.length ∧ i = .int .i64 k ∧ s = st (nb ++ ((ps.take k).map layPen).flatten) ∧ Hid (Below w.heap.size w w')) (fun _ i _ => ps.length - (intOf i).toNat)
  case atStart => exact ⟨0, Nat.zero_le _, rfl, by simp, HB1⟩
  case round =>
    obtain ⟨k, hk, rfl, rfl, HB⟩ := hrel
    clear HB1
    have hlk := pens_len (ps.take k) (fun p hq => HOK.out p (List.mem_of_mem_take hq))
    have hlt' : (ps.take k).length ≤ 8 := by rw [List.length_take]; omega
    have hlk2 : (nb ++ ((ps.take k).map layPen).flatten).length ≤ 2000 := by rw [List.length_append]; omega
    by_cases hlt : k < ps.length
    · as_aux_lemma =>
      have d1 : decide ((k : Int) < (ps.length : Int)) = true := decide_eq_true (by omega)
      have d1' : decide (k < ps.length) = true := decide_eq_true hlt
      obtain ⟨a', c', e', hc⟩ := HP.out.kept HB.out
      cases e'
      obtain ⟨b, off, rfl, hcc⟩ := hc (fun e => by rw [e] at hlt; exact absurd hlt (Nat.not_lt_zero k))
      have HTk : Hid (ps.take (k + 1) = ps.take k ++ [ps.getD k noPen]) := Lay.take_snoc ps noPen k hlt
      have hpk : penOk (ps.getD k noPen) := HOK.out _ (by simp [List.getD, hlt])
      have S0 := hid (hcc k hlt)
      generalize ps.getD k noPen = p at *
      have wp := wf_of_ok hpk
      have Z0 : (Tryz.prog.info? 113).map (·.size) = some (penC p).length := by rw [penC_len wp]; exact sizePen
      have hone := hid (one_pen p)
      have hlen : ZP.length = (penC p).length := by rw [penC_len wp]; exact HZL.out
      have HBt := hid (below_a1 wr (.cells (penC p).toArray 113))
      have T0 := hid (top_obj wr (.cells (penC p).toArray 113))
      have HTt := hid ((HT.out.stays HB.out).stays HBt.out)
      have HBm := hid (below_two HB.out HBt.out)
      have HL1 := hid (laypen1 p hpk wr.heap.size)
      have hpl := layPen_len p hpk
      have HE : Hid ((⟨(nb ++ ((ps.take k).map layPen).flatten).toArray⟩ : ByteArray) ++ ⟨(layPen p).toArray⟩ = ⟨(nb ++ ((ps.take (k + 1)).map layPen).flatten).toArray⟩) := by
        show _ = _
        rw [Lay.bcat _ _ _ rfl, HTk.out]; simp
      clear hc hcc HTk hlk hlt' HP HOK HT HBt HB wp hpk
      generalize layPen p = lp at *
      generalize nb ++ ((ps.take k).map layPen).flatten = l1 at *
      generalize penC p = PA at *
      go_upto_region 5 with (first | ((with_reducible refine wl_load 113 (.tmp 13) ?_ b (off + k * 68) ?_ ?_ PA _ S0.out Tryz.underlying113 ?_ Z0 ?_); exact rfl; exact rfl; exact rfl; exact rfl) | ((with_reducible refine wl_alloc 113 ?_ ?_ ZP.toArray HZ.out ?_); exact rfl; exact rfl) | ((with_reducible refine wl_store_top 113 (.tmp 5) (.tmp 14) ?_ ?_ ?_ ?_ PA ZP ?_ 113 hlen hone.out Z0 ?_); exact rfl; exact rfl; exact rfl; exact rfl; exact rfl))
      generalize wr.alloc (.cells PA.toArray 113) = W2 at *
      clear S0
      generalize wr.heap.size = g at *
      go_wp2_with fail
      refine (penfields_any g 0 W2).mono ?_
      rintro e w3 ⟨fv, rfl, hfv, hb3⟩
      have HF3 : Hid (FieldsAt w3 fv g (spots 0 penFs)) := hfv
      have T3 := hid (row_kept T0.out hb3)
      have HT3 := hid (HTt.out.stays hb3)
      have HB3 := hid (below_two HBm.out hb3)
      clear hb3 hfv T0 HTt HBm
      go_wp2_with fail
      refine (HL1.out w3 HT3.out fv T3.out HF3.out).mono ?_
      rintro e w4 ⟨rfl, hb4⟩
      have HB4 := hid (below_two HB3.out hb4)
      clear hb4 HB3 T3 HT3 HF3 HL1
      go_wp2
      go_roundw
      case rel => exact ⟨k + 1, by omega, by go_num, congrArg Value.string HE.out, HB4⟩
      case measure => simp [intOf]; omega
    · as_aux_lemma =>
      have hkl : k = ps.length := by omega
      subst hkl
      have dk : decide ((ps.length : Int) < (ps.length : Int)) = false := decide_eq_false (by omega)
      rw [List.take_length] at *
      clear HP HOK HT
      go_wp2
      go_ret
      exact ⟨rfl, HB.out⟩
theorem mkLayPens : LayOne .pens := by
  intro v hs hv w cv ht hc
  obtain ⟨l, rfl⟩ := of_pens hs
  exact laypens_any l hv.1 hv.2 w cv ht hc
end Go.Proofs.YtidlgecognedlaaGreatDoor.Ms

/-
  A message's bytes: what the reference answers (R10.Lay, given R10.answer).
-/
namespace Go.Proofs.YtidlgecognedlaaGreatDoor.Ms
open Go Go.RowKit
set_option maxRecDepth 100000

theorem numOk : NumOk := fun n h0 h1 w => Lay.refNumber_any n h0 h1 w
theorem digOk : DigOk := fun u hu w => Lay.digits_any u hu w
theorem bytOk : BytOk := by
  intro l hl w
  have e : dg l = l.map Go.Proofs.YtidlgecognedlaaGreatDoor.cb := rfl
  rw [e]
  exact Go.Proofs.YtidlgecognedlaaGreatDoor.rbytes_any l hl w
theorem txtB_le {s : List UInt8} (h : s.length ≤ 16384) : (txtB s).length ≤ 17000 := by have := txtB_len s (by omega); omega
def AnsOk : Prop := ∀ (r : Rep), r.Wf → (∀ p ∈ r.pend, penOk p) → r.pend.length ≤ 8 → I64 r.number → I64 r.last → I64 r.vnum → r.view.length ≤ 16384 → r.value.length ≤ 16384 → r.seen.length ≤ 16384 → ∀ (w : World) (vP : Value), PensAt w vP r.pend → Calls Tryz.prog 56 #[.agg (repC r vP).toArray] w fun e w' => e = .returned (st (ansT r)) ∧ Below w.heap.size w w'
theorem ansT_len {r : Rep} (hw : r.Wf) (hp : ∀ p ∈ r.pend, penOk p) (hl : r.pend.length ≤ 8) (h1 : I64 r.number) (h2 : I64 r.last) (h3 : I64 r.vnum) (h4 : r.view.length ≤ 16384) (h5 : r.value.length ≤ 16384) (h6 : r.seen.length ≤ 16384) : (ansT r).length ≤ 1000000 := by
  have a1 := numB_len r.number h1
  have a2 := numB_len r.last h2
  have a3 := numB_len r.vnum h3
  have a4 := txtB_le h4
  have a5 := txtB_le h5
  have a6 := txtB_le h6
  have a7 : (txtB r.commit).length ≤ 17000 := txtB_le (by have := hw.commit; omega)
  have a8 : (txtB r.data).length ≤ 17000 := txtB_le (by have := hw.data; omega)
  have a9 : (txtB r.stag).length ≤ 17000 := txtB_le (by have := hw.stag; omega)
  have b1 := pens_len r.pend hp
  have b2 := numB_len (r.pend.length : Int) ⟨by omega, by omega⟩
  simp only [ansT, ansBq, intsB, List.map_cons, List.map_nil, List.flatten_cons, List.flatten_nil, List.append_nil, List.length_append]
  omega
set_option maxHeartbeats 8000000 in
theorem rlay_1 (hY : BytOk) {w : World} {m : Msg} {vP vN : Value} (hw : m.Wf) (hr : m.Rng) (hm : mayB m = true) (hk : m.kind = 1) :
    Calls Tryz.prog 13 #[.agg (msgC m vP vN).toArray] w fun e w' => e = .returned (st (layR m)) ∧ Below w.heap.size w w' := by
  obtain ⟨-, hf⟩ := may_fits hw hm
  have ht : ∀ f ∈ fieldsM m.kind, okVal (f.get m) := fun f hx => (hf f hx).2
  clear hf
  have HB0 := hid (below_a1 w (.cells (msgC m vP vN).toArray 33))
  have R0 := hid (top_obj w (.cells (msgC m vP vN).toArray 33))
  have ck := mrow_kind R0.out hw
  have cc := mrow_client R0.out hw
  have hc0 : I64 m.client := hr.client
  have KH := hid (fun W => rnints_any numOk (ints_of W [m.kind, m.client] 2 rfl) (by intro n hn; simp at hn; rcases hn with rfl | rfl; exact hr.kind; exact hr.client) (by simp))
  have hH : intsB [m.kind, m.client] = headB m := rfl
  rw [hH] at KH
  clear hH
  have hHl : (headB m).length ≤ 100 := by
    have a1 := numB_len m.kind hr.kind
    have a2 := numB_len m.client hr.client
    simp only [headB, intsB, List.map_cons, List.map_nil, List.flatten_cons, List.flatten_nil, List.append_nil, List.length_append]
    omega
  have HRV : Hid (layR m = (((headB m ++ intsB [m.sub.number, m.sub.kind, m.sub.target]) ++ txtB m.sub.value) ++ txtB m.sub.asked) ++ txtB m.sub.data) := by show _ = _; unfold layR; rw [if_pos hk]
  have hfs : fieldsM m.kind = subFs := by rw [hk]; rfl
  rw [hfs] at ht
  have KI := hid (fun (W : World) (v : Value) (h : IntsAt W v [m.sub.number, m.sub.kind, m.sub.target]) => rnints_any numOk h (by intro n hn; simp at hn; rcases hn with rfl | rfl | rfl; exact hr.sn; exact hr.sk; exact hr.st) (by simp))
  have lI : (intsB [m.sub.number, m.sub.kind, m.sub.target]).length ≤ 100 := by
    have := intsB_len [m.sub.number, m.sub.kind, m.sub.target] (by intro n hn; simp at hn; rcases hn with rfl | rfl | rfl; exact hr.sn; exact hr.sk; exact hr.st)
    simp at this
    omega
  have kT : m.sub.value.length ≤ 16384 := ht fSValue (by simp [subFs])
  have KT : Hid (∀ W, Calls Tryz.prog 54 #[st m.sub.value] W fun e w' => e = .returned (st (txtB m.sub.value)) ∧ Below W.heap.size W w') := fun W => rtext_any digOk _ (by omega) W
  have lT : (txtB m.sub.value).length ≤ 17000 := txtB_le kT
  have KA : Hid (∀ W, Calls Tryz.prog 55 #[.agg (dg m.sub.asked).toArray] W fun e w' => e = .returned (st (txtB m.sub.asked)) ∧ Below W.heap.size W w') := fun W => rdig_any digOk hY _ hw.sub.asked W
  have lA : (txtB m.sub.asked).length ≤ 17000 := txtB_le (by have : m.sub.asked.length = 32 := hw.sub.asked; omega)
  have KD : Hid (∀ W, Calls Tryz.prog 55 #[.agg (dg m.sub.data).toArray] W fun e w' => e = .returned (st (txtB m.sub.data)) ∧ Below W.heap.size W w') := fun W => rdig_any digOk hY _ hw.sub.data W
  have lD : (txtB m.sub.data).length ≤ 17000 := txtB_le (by have : m.sub.data.length = 32 := hw.sub.data; omega)
  clear hfs
  obtain ⟨LR, hLR⟩ : ∃ LR, LR = layR m := ⟨_, rfl⟩
  rw [← hLR] at HRV ⊢
  clear hLR
  generalize headB m = HD at *
  have HRow : Hid (∀ W, Below (w.alloc (.cells (msgC m vP vN).toArray 33)).heap.size (w.alloc (.cells (msgC m vP vN).toArray 33)) W → W.heap[w.heap.size]? = some (.cells (msgC m vP vN).toArray 33)) := fun W hb => row_kept R0.out hb
  have HW := hid hw
  clear R0 hw hr ht hm hc0
  rw [hk] at ck KH
  have HKm := hid hk
  clear hk
  obtain ⟨V, hV⟩ : ∃ V, V = msgC m vP vN := ⟨_, rfl⟩
  have HV := hid hV
  rw [← hV] at HB0 ck cc HRow ⊢
  clear hV
  obtain ⟨c, hc⟩ : ∃ c, c = m.client := ⟨_, rfl⟩
  rw [← hc] at cc KH
  clear hc
  go_enter Tryz.func13, Tryz.ntmps13
  go_upto_region 1 with fail
  generalize w.alloc (.cells V.toArray 33) = W0 at *
  generalize hg0 : w.heap.size = g0 at *
  have HG0 := hid hg0
  clear hg0
  have HB1 := hid (below_a1 W0 (.cells ([(1 : Int), c].map nu).toArray 3))
  go_wp2_with fail
  refine (KH.out _).mono ?_
  rintro e W1 ⟨rfl, hb⟩
  have HB2 := hid (below_two HB1.out hb)
  clear hb
  have R1 := hid (HRow.out _ HB2.out)
  rw [HV.out] at R1
  have HBw : Hid (Below w.heap.size w W1) := by
    have h1 := HB0.out
    have h2 := HB2.out
    rw [← HG0.out] at *
    exact below_two h1 h2
  clear HRow HB0 HB1 KH ck cc HV
  have SA := hid (fun (W : World) (hB : Below W1.heap.size W1 W) => mrow_sub_asked (row_kept R1.out hB) HW.out)
  have SD := hid (fun (W : World) (hB : Below W1.heap.size W1 W) => mrow_sub_data (row_kept R1.out hB) HW.out)
  have c1 := hid (fun (W : World) (hB : Below W1.heap.size W1 W) => mrow_sub_number (row_kept R1.out hB) HW.out)
  have c2 := hid (fun (W : World) (hB : Below W1.heap.size W1 W) => mrow_sub_kind (row_kept R1.out hB) HW.out)
  have c3 := hid (fun (W : World) (hB : Below W1.heap.size W1 W) => mrow_sub_target (row_kept R1.out hB) HW.out)
  have c4 := hid (fun (W : World) (hB : Below W1.heap.size W1 W) => mrow_sub_value (row_kept R1.out hB) HW.out)
  have ZA : (Tryz.prog.info? 23).map (·.size) = some (dg m.sub.asked).length := by rw [dg_len, HW.out.sub.asked]; exact sizeDig
  have ZD : (Tryz.prog.info? 23).map (·.size) = some (dg m.sub.data).length := by rw [dg_len, HW.out.sub.data]; exact sizeDig
  have ck := mrow_kind R1.out HW.out
  rw [HKm.out] at ck
  generalize txtB m.sub.value = T1 at *
  generalize txtB m.sub.asked = T2 at *
  generalize txtB m.sub.data = T3 at *
  generalize intsB [m.sub.number, m.sub.kind, m.sub.target] = NS at *
  generalize dg m.sub.asked = DA at *
  generalize dg m.sub.data = DD at *
  generalize m.sub.value = sv at *
  generalize m.sub.number = n1 at *
  generalize m.sub.kind = n2 at *
  generalize m.sub.target = n3 at *
  clear HW R1
  go_upto_region 4 with fail
  refine wp_region_grow (N := 122) 28 (vG [10] (fun _ v w => IntsAt w v [n1, n2, n3]) [st HD, pt g0 2, pt g0 2, nu n1, pt g0 2, pt g0 3, nu n2, pt g0 2, pt g0 4, nu n3, undef, st NS, st (HD ++ NS), pt g0 2, pt g0 5, st sv, st T1, st ((HD ++ NS) ++ T1), pt g0 2, pt g0 6, .agg (DA).toArray, st T2, st (((HD ++ NS) ++ T1) ++ T2), pt g0 2, pt g0 38, .agg (DD).toArray, st T3, st ((((HD ++ NS) ++ T1) ++ T2) ++ T3)]) (by kernel_rfl) (by kernel_rfl) (by kernel_rfl) rfl (vG_mono (fun _ _ _ _ h hb => h.kept hb)) ?_ ?_
  · intro i o hi ho
    match i, ho with
    | 0, ho => cases ho; exact fun a w hB hk hD => op_move 3 _ rfl (hk 3 (by kernel_rfl)) ⟨_, rfl, mkC (by decide) rfl, Below.refl _ _⟩
    | 1, ho => cases ho; exact fun a w hB hk hD => op_fa 1 33 2 g0 (0) 2 rfl (fun W => fq33_2 _ _ W) (hk 1 (by kernel_rfl)) ⟨_, rfl, mkC (by decide) rfl, Below.refl _ _⟩
    | 2, ho => cases ho; exact fun a w hB hk hD => op_fa 15 25 0 g0 (2) 0 rfl (fun W => fq25_0 _ _ W) (vG_c (hD 1 15 (by kernel_rfl) (by kernel_rfl)) (by decide)) ⟨_, rfl, mkC (by decide) rfl, Below.refl _ _⟩
    | 3, ho => cases ho; exact fun a w hB hk hD => op_load1 _ (.tmp 16) rfl g0 (2) (vG_c (hD 2 16 (by kernel_rfl) (by kernel_rfl)) (by decide)) (nu n1) _ (c1.out w hB) Tryz.underlying3 rfl ⟨_, rfl, mkC (by decide) rfl, Below.refl _ _⟩
    | 4, ho => cases ho; exact fun a w hB hk hD => op_fa 1 33 2 g0 (0) 2 rfl (fun W => fq33_2 _ _ W) (hk 1 (by kernel_rfl)) ⟨_, rfl, mkC (by decide) rfl, Below.refl _ _⟩
    | 5, ho => cases ho; exact fun a w hB hk hD => op_fa 18 25 1 g0 (2) 1 rfl (fun W => fq25_1 _ _ W) (vG_c (hD 4 18 (by kernel_rfl) (by kernel_rfl)) (by decide)) ⟨_, rfl, mkC (by decide) rfl, Below.refl _ _⟩
    | 6, ho => cases ho; exact fun a w hB hk hD => op_load1 _ (.tmp 19) rfl g0 (3) (vG_c (hD 5 19 (by kernel_rfl) (by kernel_rfl)) (by decide)) (nu n2) _ (c2.out w hB) Tryz.underlying3 rfl ⟨_, rfl, mkC (by decide) rfl, Below.refl _ _⟩
    | 7, ho => cases ho; exact fun a w hB hk hD => op_fa 1 33 2 g0 (0) 2 rfl (fun W => fq33_2 _ _ W) (hk 1 (by kernel_rfl)) ⟨_, rfl, mkC (by decide) rfl, Below.refl _ _⟩
    | 8, ho => cases ho; exact fun a w hB hk hD => op_fa 21 25 2 g0 (2) 2 rfl (fun W => fq25_2 _ _ W) (vG_c (hD 7 21 (by kernel_rfl) (by kernel_rfl)) (by decide)) ⟨_, rfl, mkC (by decide) rfl, Below.refl _ _⟩
    | 9, ho => cases ho; exact fun a w hB hk hD => op_load1 _ (.tmp 22) rfl g0 (4) (vG_c (hD 8 22 (by kernel_rfl) (by kernel_rfl)) (by decide)) (nu n3) _ (c3.out w hB) Tryz.underlying3 rfl ⟨_, rfl, mkC (by decide) rfl, Below.refl _ _⟩
    | 10, ho => cases ho; exact fun a w hB hk hD => op_bs3 31 17 20 23 rfl Tryz.underlying31 8 info3 (n1) (n2) (n3) (vG_c (hD 3 17 (by kernel_rfl) (by kernel_rfl)) (by decide)) (vG_c (hD 6 20 (by kernel_rfl) (by kernel_rfl)) (by decide)) (vG_c (hD 9 23 (by kernel_rfl) (by kernel_rfl)) (by decide)) ⟨_, rfl, mkS (by decide) (ints_of w [n1, n2, n3] 3 rfl), below_a1 _ _⟩
    | 11, ho => cases ho; exact fun a w hB hk hD => op_call 53 [.tmp 24] _ #[_] (st NS) rfl (fun x W => cq_Ints x W) (args1 rfl) (KI.out w _ (vG_s (hD 10 24 (by kernel_rfl) (by kernel_rfl)) (by decide))) (fun W hb => ⟨_, rfl, mkC (by decide) rfl, hb⟩)
    | 12, ho => cases ho; exact fun a w hB hk hD => op_addS (.tmp 14) (.tmp 25) _ _ HD NS rfl (vG_c (hD 0 14 (by kernel_rfl) (by kernel_rfl)) (by decide)) (vG_c (hD 11 25 (by kernel_rfl) (by kernel_rfl)) (by decide)) (by first | omega | (simp only [List.length_append]; omega)) ⟨_, rfl, mkC (by decide) rfl, Below.refl _ _⟩
    | 13, ho => cases ho; exact fun a w hB hk hD => op_fa 1 33 2 g0 (0) 2 rfl (fun W => fq33_2 _ _ W) (hk 1 (by kernel_rfl)) ⟨_, rfl, mkC (by decide) rfl, Below.refl _ _⟩
    | 14, ho => cases ho; exact fun a w hB hk hD => op_fa 27 25 3 g0 (2) 3 rfl (fun W => fq25_3 _ _ W) (vG_c (hD 13 27 (by kernel_rfl) (by kernel_rfl)) (by decide)) ⟨_, rfl, mkC (by decide) rfl, Below.refl _ _⟩
    | 15, ho => cases ho; exact fun a w hB hk hD => op_load1 _ (.tmp 28) rfl g0 (5) (vG_c (hD 14 28 (by kernel_rfl) (by kernel_rfl)) (by decide)) (st sv) _ (c4.out w hB) Tryz.underlying9 rfl ⟨_, rfl, mkC (by decide) rfl, Below.refl _ _⟩
    | 16, ho => cases ho; exact fun a w hB hk hD => op_call 54 [.tmp 29] _ #[st sv] (st T1) rfl (fun x W => cq_Text x W) (args1 (vG_c (hD 15 29 (by kernel_rfl) (by kernel_rfl)) (by decide))) (KT.out w) (fun W hb => ⟨_, rfl, mkC (by decide) rfl, hb⟩)
    | 17, ho => cases ho; exact fun a w hB hk hD => op_addS (.tmp 26) (.tmp 30) _ _ (HD ++ NS) T1 rfl (vG_c (hD 12 26 (by kernel_rfl) (by kernel_rfl)) (by decide)) (vG_c (hD 16 30 (by kernel_rfl) (by kernel_rfl)) (by decide)) (by first | omega | (simp only [List.length_append]; omega)) ⟨_, rfl, mkC (by decide) rfl, Below.refl _ _⟩
    | 18, ho => cases ho; exact fun a w hB hk hD => op_fa 1 33 2 g0 (0) 2 rfl (fun W => fq33_2 _ _ W) (hk 1 (by kernel_rfl)) ⟨_, rfl, mkC (by decide) rfl, Below.refl _ _⟩
    | 19, ho => cases ho; exact fun a w hB hk hD => op_fa 32 25 4 g0 (2) 4 rfl (fun W => fq25_4 _ _ W) (vG_c (hD 18 32 (by kernel_rfl) (by kernel_rfl)) (by decide)) ⟨_, rfl, mkC (by decide) rfl, Below.refl _ _⟩
    | 20, ho => cases ho; exact fun a w hB hk hD => op_load _ (.tmp 33) rfl g0 (6) (vG_c (hD 19 33 (by kernel_rfl) (by kernel_rfl)) (by decide)) (DA) _ (SA.out w hB) Tryz.underlying23 rfl ZA ⟨_, rfl, mkC (by decide) rfl, Below.refl _ _⟩
    | 21, ho => cases ho; exact fun a w hB hk hD => op_call 55 [.tmp 34] _ #[.agg (DA).toArray] (st T2) rfl (fun x W => cq_Dig x W) (args1 (vG_c (hD 20 34 (by kernel_rfl) (by kernel_rfl)) (by decide))) (KA.out w) (fun W hb => ⟨_, rfl, mkC (by decide) rfl, hb⟩)
    | 22, ho => cases ho; exact fun a w hB hk hD => op_addS (.tmp 31) (.tmp 35) _ _ ((HD ++ NS) ++ T1) T2 rfl (vG_c (hD 17 31 (by kernel_rfl) (by kernel_rfl)) (by decide)) (vG_c (hD 21 35 (by kernel_rfl) (by kernel_rfl)) (by decide)) (by first | omega | (simp only [List.length_append]; omega)) ⟨_, rfl, mkC (by decide) rfl, Below.refl _ _⟩
    | 23, ho => cases ho; exact fun a w hB hk hD => op_fa 1 33 2 g0 (0) 2 rfl (fun W => fq33_2 _ _ W) (hk 1 (by kernel_rfl)) ⟨_, rfl, mkC (by decide) rfl, Below.refl _ _⟩
    | 24, ho => cases ho; exact fun a w hB hk hD => op_fa 37 25 5 g0 (2) 36 rfl (fun W => fq25_5 _ _ W) (vG_c (hD 23 37 (by kernel_rfl) (by kernel_rfl)) (by decide)) ⟨_, rfl, mkC (by decide) rfl, Below.refl _ _⟩
    | 25, ho => cases ho; exact fun a w hB hk hD => op_load _ (.tmp 38) rfl g0 (38) (vG_c (hD 24 38 (by kernel_rfl) (by kernel_rfl)) (by decide)) (DD) _ (SD.out w hB) Tryz.underlying23 rfl ZD ⟨_, rfl, mkC (by decide) rfl, Below.refl _ _⟩
    | 26, ho => cases ho; exact fun a w hB hk hD => op_call 55 [.tmp 39] _ #[.agg (DD).toArray] (st T3) rfl (fun x W => cq_Dig x W) (args1 (vG_c (hD 25 39 (by kernel_rfl) (by kernel_rfl)) (by decide))) (KD.out w) (fun W hb => ⟨_, rfl, mkC (by decide) rfl, hb⟩)
    | 27, ho => cases ho; exact fun a w hB hk hD => op_addS (.tmp 36) (.tmp 40) _ _ (((HD ++ NS) ++ T1) ++ T2) T3 rfl (vG_c (hD 22 36 (by kernel_rfl) (by kernel_rfl)) (by decide)) (vG_c (hD 26 40 (by kernel_rfl) (by kernel_rfl)) (by decide)) (by first | omega | (simp only [List.length_append]; omega)) ⟨_, rfl, mkC (by decide) rfl, Below.refl _ _⟩
    | (i + 28), ho => omega
  · intro o a w' ho hB hs hd hk hv
    cases ho
    refine op_assign 41 _ rfl (vG_c (hv 27 41 (by omega) (by kernel_rfl)) (by decide)) ?_
    have BB := hid (below_two HBw.out hB)
    obtain ⟨tm, df⟩ := a
    obtain rfl : df = [] := hd
    have h4 : 2 < tm.size := by
      have : tm.size = 122 := hs
      omega
    clear hv hk hs
    go_wp2
    go_ret
    exact ⟨by rw [HRV.out]; simp [Act.put, h4], BB.out⟩
set_option maxHeartbeats 8000000 in
theorem rlay_3 (hY : BytOk) {w : World} {m : Msg} {vP vN : Value} (hw : m.Wf) (hr : m.Rng) (hm : mayB m = true) (hk : m.kind = 3) :
    Calls Tryz.prog 13 #[.agg (msgC m vP vN).toArray] w fun e w' => e = .returned (st (layR m)) ∧ Below w.heap.size w w' := by
  obtain ⟨-, hf⟩ := may_fits hw hm
  have ht : ∀ f ∈ fieldsM m.kind, okVal (f.get m) := fun f hx => (hf f hx).2
  clear hf
  have HB0 := hid (below_a1 w (.cells (msgC m vP vN).toArray 33))
  have R0 := hid (top_obj w (.cells (msgC m vP vN).toArray 33))
  have ck := mrow_kind R0.out hw
  have cc := mrow_client R0.out hw
  have hc0 : I64 m.client := hr.client
  have KH := hid (fun W => rnints_any numOk (ints_of W [m.kind, m.client] 2 rfl) (by intro n hn; simp at hn; rcases hn with rfl | rfl; exact hr.kind; exact hr.client) (by simp))
  have hH : intsB [m.kind, m.client] = headB m := rfl
  rw [hH] at KH
  clear hH
  have hHl : (headB m).length ≤ 100 := by
    have a1 := numB_len m.kind hr.kind
    have a2 := numB_len m.client hr.client
    simp only [headB, intsB, List.map_cons, List.map_nil, List.flatten_cons, List.flatten_nil, List.append_nil, List.length_append]
    omega
  have HRV : Hid (layR m = (headB m ++ txtB m.view) ++ txtB m.tag) := by show _ = _; unfold layR; rw [if_neg (by omega), if_neg (by omega), if_pos hk]
  have hfs : fieldsM m.kind = comFs := by rw [hk]; rfl
  rw [hfs] at ht
  have kT : m.view.length ≤ 16384 := ht fView (by simp [comFs])
  have KT : Hid (∀ W, Calls Tryz.prog 54 #[st m.view] W fun e w' => e = .returned (st (txtB m.view)) ∧ Below W.heap.size W w') := fun W => rtext_any digOk _ (by omega) W
  have lT : (txtB m.view).length ≤ 17000 := txtB_le kT
  have KA : Hid (∀ W, Calls Tryz.prog 55 #[.agg (dg m.tag).toArray] W fun e w' => e = .returned (st (txtB m.tag)) ∧ Below W.heap.size W w') := fun W => rdig_any digOk hY _ hw.tag W
  have lA : (txtB m.tag).length ≤ 17000 := txtB_le (by have : m.tag.length = 32 := hw.tag; omega)
  clear hfs
  obtain ⟨LR, hLR⟩ : ∃ LR, LR = layR m := ⟨_, rfl⟩
  rw [← hLR] at HRV ⊢
  clear hLR
  generalize headB m = HD at *
  have HRow : Hid (∀ W, Below (w.alloc (.cells (msgC m vP vN).toArray 33)).heap.size (w.alloc (.cells (msgC m vP vN).toArray 33)) W → W.heap[w.heap.size]? = some (.cells (msgC m vP vN).toArray 33)) := fun W hb => row_kept R0.out hb
  have HW := hid hw
  clear R0 hw hr ht hm hc0
  rw [hk] at ck KH
  have HKm := hid hk
  clear hk
  obtain ⟨V, hV⟩ : ∃ V, V = msgC m vP vN := ⟨_, rfl⟩
  have HV := hid hV
  rw [← hV] at HB0 ck cc HRow ⊢
  clear hV
  obtain ⟨c, hc⟩ : ∃ c, c = m.client := ⟨_, rfl⟩
  rw [← hc] at cc KH
  clear hc
  go_enter Tryz.func13, Tryz.ntmps13
  go_upto_region 1 with fail
  generalize w.alloc (.cells V.toArray 33) = W0 at *
  generalize hg0 : w.heap.size = g0 at *
  have HG0 := hid hg0
  clear hg0
  have HB1 := hid (below_a1 W0 (.cells ([(3 : Int), c].map nu).toArray 3))
  go_wp2_with fail
  refine (KH.out _).mono ?_
  rintro e W1 ⟨rfl, hb⟩
  have HB2 := hid (below_two HB1.out hb)
  clear hb
  have R1 := hid (HRow.out _ HB2.out)
  rw [HV.out] at R1
  have HBw : Hid (Below w.heap.size w W1) := by
    have h1 := HB0.out
    have h2 := HB2.out
    rw [← HG0.out] at *
    exact below_two h1 h2
  clear HRow HB0 HB1 KH ck cc HV
  have SA := hid (fun (W : World) (hB : Below W1.heap.size W1 W) => mrow_tag (row_kept R1.out hB) HW.out)
  have c4 := hid (fun (W : World) (hB : Below W1.heap.size W1 W) => mrow_view (row_kept R1.out hB) HW.out)
  have ZA : (Tryz.prog.info? 23).map (·.size) = some (dg m.tag).length := by rw [dg_len, HW.out.tag]; exact sizeDig
  have ck := mrow_kind R1.out HW.out
  rw [HKm.out] at ck
  generalize txtB m.view = T1 at *
  generalize txtB m.tag = T2 at *
  generalize dg m.tag = DA at *
  generalize m.view = sv at *
  clear HW R1
  go_upto_region 8 with fail
  refine wp_region_grow (N := 122) 9 (vG [] (fun _ _ _ => True) [st HD, pt g0 173, st sv, st T1, st (HD ++ T1), pt g0 175, .agg (DA).toArray, st T2, st ((HD ++ T1) ++ T2)]) (by kernel_rfl) (by kernel_rfl) (by kernel_rfl) rfl (vG_mono (fun _ _ _ _ h _ => h)) ?_ ?_
  · intro i o hi ho
    match i, ho with
    | 0, ho => cases ho; exact fun a w hB hk hD => op_move 3 _ rfl (hk 3 (by kernel_rfl)) ⟨_, rfl, mkC (by decide) rfl, Below.refl _ _⟩
    | 1, ho => cases ho; exact fun a w hB hk hD => op_fa 1 33 4 g0 (0) 173 rfl (fun W => fq33_4 _ _ W) (hk 1 (by kernel_rfl)) ⟨_, rfl, mkC (by decide) rfl, Below.refl _ _⟩
    | 2, ho => cases ho; exact fun a w hB hk hD => op_load1 _ (.tmp 51) rfl g0 (173) (vG_c (hD 1 51 (by kernel_rfl) (by kernel_rfl)) (by decide)) (st sv) _ (c4.out w hB) Tryz.underlying9 rfl ⟨_, rfl, mkC (by decide) rfl, Below.refl _ _⟩
    | 3, ho => cases ho; exact fun a w hB hk hD => op_call 54 [.tmp 52] _ #[st sv] (st T1) rfl (fun x W => cq_Text x W) (args1 (vG_c (hD 2 52 (by kernel_rfl) (by kernel_rfl)) (by decide))) (KT.out w) (fun W hb => ⟨_, rfl, mkC (by decide) rfl, hb⟩)
    | 4, ho => cases ho; exact fun a w hB hk hD => op_addS (.tmp 50) (.tmp 53) _ _ HD T1 rfl (vG_c (hD 0 50 (by kernel_rfl) (by kernel_rfl)) (by decide)) (vG_c (hD 3 53 (by kernel_rfl) (by kernel_rfl)) (by decide)) (by first | omega | (simp only [List.length_append]; omega)) ⟨_, rfl, mkC (by decide) rfl, Below.refl _ _⟩
    | 5, ho => cases ho; exact fun a w hB hk hD => op_fa 1 33 6 g0 (0) 175 rfl (fun W => fq33_6 _ _ W) (hk 1 (by kernel_rfl)) ⟨_, rfl, mkC (by decide) rfl, Below.refl _ _⟩
    | 6, ho => cases ho; exact fun a w hB hk hD => op_load _ (.tmp 55) rfl g0 (175) (vG_c (hD 5 55 (by kernel_rfl) (by kernel_rfl)) (by decide)) (DA) _ (SA.out w hB) Tryz.underlying23 rfl ZA ⟨_, rfl, mkC (by decide) rfl, Below.refl _ _⟩
    | 7, ho => cases ho; exact fun a w hB hk hD => op_call 55 [.tmp 56] _ #[.agg (DA).toArray] (st T2) rfl (fun x W => cq_Dig x W) (args1 (vG_c (hD 6 56 (by kernel_rfl) (by kernel_rfl)) (by decide))) (KA.out w) (fun W hb => ⟨_, rfl, mkC (by decide) rfl, hb⟩)
    | 8, ho => cases ho; exact fun a w hB hk hD => op_addS (.tmp 54) (.tmp 57) _ _ (HD ++ T1) T2 rfl (vG_c (hD 4 54 (by kernel_rfl) (by kernel_rfl)) (by decide)) (vG_c (hD 7 57 (by kernel_rfl) (by kernel_rfl)) (by decide)) (by first | omega | (simp only [List.length_append]; omega)) ⟨_, rfl, mkC (by decide) rfl, Below.refl _ _⟩
    | (i + 9), ho => omega
  · intro o a w' ho hB hs hd hk hv
    cases ho
    refine op_assign 58 _ rfl (vG_c (hv 8 58 (by omega) (by kernel_rfl)) (by decide)) ?_
    have BB := hid (below_two HBw.out hB)
    obtain ⟨tm, df⟩ := a
    obtain rfl : df = [] := hd
    have h4 : 2 < tm.size := by
      have : tm.size = 122 := hs
      omega
    clear hv hk hs
    go_wp2
    go_ret
    exact ⟨by rw [HRV.out]; simp [Act.put, h4], BB.out⟩
set_option maxHeartbeats 8000000 in
theorem rlay_4 (hY : BytOk) {w : World} {m : Msg} {vP vN : Value} (hw : m.Wf) (hr : m.Rng) (hm : mayB m = true) (hk : m.kind = 4) :
    Calls Tryz.prog 13 #[.agg (msgC m vP vN).toArray] w fun e w' => e = .returned (st (layR m)) ∧ Below w.heap.size w w' := by
  obtain ⟨-, hf⟩ := may_fits hw hm
  have ht : ∀ f ∈ fieldsM m.kind, okVal (f.get m) := fun f hx => (hf f hx).2
  clear hf
  have HB0 := hid (below_a1 w (.cells (msgC m vP vN).toArray 33))
  have R0 := hid (top_obj w (.cells (msgC m vP vN).toArray 33))
  have ck := mrow_kind R0.out hw
  have cc := mrow_client R0.out hw
  have hc0 : I64 m.client := hr.client
  have KH := hid (fun W => rnints_any numOk (ints_of W [m.kind, m.client] 2 rfl) (by intro n hn; simp at hn; rcases hn with rfl | rfl; exact hr.kind; exact hr.client) (by simp))
  have hH : intsB [m.kind, m.client] = headB m := rfl
  rw [hH] at KH
  clear hH
  have hHl : (headB m).length ≤ 100 := by
    have a1 := numB_len m.kind hr.kind
    have a2 := numB_len m.client hr.client
    simp only [headB, intsB, List.map_cons, List.map_nil, List.flatten_cons, List.flatten_nil, List.append_nil, List.length_append]
    omega
  have HRV : Hid (layR m = ((numB m.kind ++ intsB [m.blob.owner, m.blob.number]) ++ txtB m.blob.cipher) ++ txtB m.blob.tag) := by show _ = _; unfold layR; rw [if_neg (by omega), if_neg (by omega), if_neg (by omega), if_pos (by omega)]
  have hfs : fieldsM m.kind = bloFs := by rw [hk]; rfl
  rw [hfs] at ht
  have KN : Hid (∀ W, Calls Tryz.prog 57 #[nu m.kind] W fun e w' => e = .returned (st (numB m.kind)) ∧ Below W.heap.size W w') := fun W => numOk _ hr.kind.1 hr.kind.2 W
  have lN : (numB m.kind).length ≤ 100 := by have := numB_len _ hr.kind; omega
  have KI := hid (fun (W : World) (v : Value) (h : IntsAt W v [m.blob.owner, m.blob.number]) => rnints_any numOk h (by intro n hn; simp at hn; rcases hn with rfl | rfl; exact hr.bo; exact hr.bn) (by simp))
  have lI : (intsB [m.blob.owner, m.blob.number]).length ≤ 100 := by
    have := intsB_len [m.blob.owner, m.blob.number] (by intro n hn; simp at hn; rcases hn with rfl | rfl; exact hr.bo; exact hr.bn)
    simp at this
    omega
  have kT : m.blob.cipher.length ≤ 16384 := ht fBCipher (by simp [bloFs])
  have KT : Hid (∀ W, Calls Tryz.prog 54 #[st m.blob.cipher] W fun e w' => e = .returned (st (txtB m.blob.cipher)) ∧ Below W.heap.size W w') := fun W => rtext_any digOk _ (by omega) W
  have lT : (txtB m.blob.cipher).length ≤ 17000 := txtB_le kT
  have KA : Hid (∀ W, Calls Tryz.prog 55 #[.agg (dg m.blob.tag).toArray] W fun e w' => e = .returned (st (txtB m.blob.tag)) ∧ Below W.heap.size W w') := fun W => rdig_any digOk hY _ hw.blob.tag W
  have lA : (txtB m.blob.tag).length ≤ 17000 := txtB_le (by have : m.blob.tag.length = 32 := hw.blob.tag; omega)
  rw [hk] at KN lN HRV
  clear hfs
  obtain ⟨LR, hLR⟩ : ∃ LR, LR = layR m := ⟨_, rfl⟩
  rw [← hLR] at HRV ⊢
  clear hLR
  generalize headB m = HD at *
  have HRow : Hid (∀ W, Below (w.alloc (.cells (msgC m vP vN).toArray 33)).heap.size (w.alloc (.cells (msgC m vP vN).toArray 33)) W → W.heap[w.heap.size]? = some (.cells (msgC m vP vN).toArray 33)) := fun W hb => row_kept R0.out hb
  have HW := hid hw
  clear R0 hw hr ht hm hc0
  rw [hk] at ck KH
  have HKm := hid hk
  clear hk
  obtain ⟨V, hV⟩ : ∃ V, V = msgC m vP vN := ⟨_, rfl⟩
  have HV := hid hV
  rw [← hV] at HB0 ck cc HRow ⊢
  clear hV
  obtain ⟨c, hc⟩ : ∃ c, c = m.client := ⟨_, rfl⟩
  rw [← hc] at cc KH
  clear hc
  go_enter Tryz.func13, Tryz.ntmps13
  go_upto_region 1 with fail
  generalize w.alloc (.cells V.toArray 33) = W0 at *
  generalize hg0 : w.heap.size = g0 at *
  have HG0 := hid hg0
  clear hg0
  have HB1 := hid (below_a1 W0 (.cells ([(4 : Int), c].map nu).toArray 3))
  go_wp2_with fail
  refine (KH.out _).mono ?_
  rintro e W1 ⟨rfl, hb⟩
  have HB2 := hid (below_two HB1.out hb)
  clear hb
  have R1 := hid (HRow.out _ HB2.out)
  rw [HV.out] at R1
  have HBw : Hid (Below w.heap.size w W1) := by
    have h1 := HB0.out
    have h2 := HB2.out
    rw [← HG0.out] at *
    exact below_two h1 h2
  clear HRow HB0 HB1 KH ck cc HV
  have SA := hid (fun (W : World) (hB : Below W1.heap.size W1 W) => mrow_blob_tag (row_kept R1.out hB) HW.out)
  have c0 := hid (fun (W : World) (hB : Below W1.heap.size W1 W) => mrow_kind (row_kept R1.out hB) HW.out)
  have c1 := hid (fun (W : World) (hB : Below W1.heap.size W1 W) => mrow_blob_owner (row_kept R1.out hB) HW.out)
  have c2 := hid (fun (W : World) (hB : Below W1.heap.size W1 W) => mrow_blob_number (row_kept R1.out hB) HW.out)
  have c4 := hid (fun (W : World) (hB : Below W1.heap.size W1 W) => mrow_blob_cipher (row_kept R1.out hB) HW.out)
  have ZA : (Tryz.prog.info? 23).map (·.size) = some (dg m.blob.tag).length := by rw [dg_len, HW.out.blob.tag]; exact sizeDig
  have ck := mrow_kind R1.out HW.out
  rw [HKm.out] at ck c0
  generalize txtB m.blob.cipher = T1 at *
  generalize txtB m.blob.tag = T2 at *
  generalize intsB [m.blob.owner, m.blob.number] = NS at *
  generalize numB 4 = NK at *
  generalize dg m.blob.tag = DA at *
  generalize m.blob.cipher = sv at *
  generalize m.blob.owner = n1 at *
  generalize m.blob.number = n2 at *
  clear HW R1
  go_upto_region 11 with fail
  refine wp_region_grow (N := 122) 22 (vG [9] (fun _ v w => IntsAt w v [n1, n2]) [pt g0 0, nu 4, st NK, pt g0 239, pt g0 239, nu n1, pt g0 239, pt g0 240, nu n2, undef, st NS, st (NK ++ NS), pt g0 239, pt g0 241, st sv, st T1, st ((NK ++ NS) ++ T1), pt g0 239, pt g0 242, .agg (DA).toArray, st T2, st (((NK ++ NS) ++ T1) ++ T2)]) (by kernel_rfl) (by kernel_rfl) (by kernel_rfl) rfl (vG_mono (fun _ _ _ _ h hb => h.kept hb)) ?_ ?_
  · intro i o hi ho
    match i, ho with
    | 0, ho => cases ho; exact fun a w hB hk hD => op_fa 1 33 0 g0 (0) 0 rfl (fun W => fq33_0 _ _ W) (hk 1 (by kernel_rfl)) ⟨_, rfl, mkC (by decide) rfl, Below.refl _ _⟩
    | 1, ho => cases ho; exact fun a w hB hk hD => op_load1 _ (.tmp 62) rfl g0 (0) (vG_c (hD 0 62 (by kernel_rfl) (by kernel_rfl)) (by decide)) (nu 4) _ (c0.out w hB) Tryz.underlying3 rfl ⟨_, rfl, mkC (by decide) rfl, Below.refl _ _⟩
    | 2, ho => cases ho; exact fun a w hB hk hD => op_call 57 [.tmp 63] _ #[nu 4] (st NK) rfl (fun x W => cq_Number x W) (args1 (vG_c (hD 1 63 (by kernel_rfl) (by kernel_rfl)) (by decide))) (KN.out w) (fun W hb => ⟨_, rfl, mkC (by decide) rfl, hb⟩)
    | 3, ho => cases ho; exact fun a w hB hk hD => op_fa 1 33 8 g0 (0) 239 rfl (fun W => fq33_8 _ _ W) (hk 1 (by kernel_rfl)) ⟨_, rfl, mkC (by decide) rfl, Below.refl _ _⟩
    | 4, ho => cases ho; exact fun a w hB hk hD => op_fa 65 30 0 g0 (239) 0 rfl (fun W => fq30_0 _ _ W) (vG_c (hD 3 65 (by kernel_rfl) (by kernel_rfl)) (by decide)) ⟨_, rfl, mkC (by decide) rfl, Below.refl _ _⟩
    | 5, ho => cases ho; exact fun a w hB hk hD => op_load1 _ (.tmp 66) rfl g0 (239) (vG_c (hD 4 66 (by kernel_rfl) (by kernel_rfl)) (by decide)) (nu n1) _ (c1.out w hB) Tryz.underlying3 rfl ⟨_, rfl, mkC (by decide) rfl, Below.refl _ _⟩
    | 6, ho => cases ho; exact fun a w hB hk hD => op_fa 1 33 8 g0 (0) 239 rfl (fun W => fq33_8 _ _ W) (hk 1 (by kernel_rfl)) ⟨_, rfl, mkC (by decide) rfl, Below.refl _ _⟩
    | 7, ho => cases ho; exact fun a w hB hk hD => op_fa 68 30 1 g0 (239) 1 rfl (fun W => fq30_1 _ _ W) (vG_c (hD 6 68 (by kernel_rfl) (by kernel_rfl)) (by decide)) ⟨_, rfl, mkC (by decide) rfl, Below.refl _ _⟩
    | 8, ho => cases ho; exact fun a w hB hk hD => op_load1 _ (.tmp 69) rfl g0 (240) (vG_c (hD 7 69 (by kernel_rfl) (by kernel_rfl)) (by decide)) (nu n2) _ (c2.out w hB) Tryz.underlying3 rfl ⟨_, rfl, mkC (by decide) rfl, Below.refl _ _⟩
    | 9, ho => cases ho; exact fun a w hB hk hD => op_bs2 31 67 70 rfl Tryz.underlying31 8 info3 (n1) (n2) (vG_c (hD 5 67 (by kernel_rfl) (by kernel_rfl)) (by decide)) (vG_c (hD 8 70 (by kernel_rfl) (by kernel_rfl)) (by decide)) ⟨_, rfl, mkS (by decide) (ints_of w [n1, n2] 2 rfl), below_a1 _ _⟩
    | 10, ho => cases ho; exact fun a w hB hk hD => op_call 53 [.tmp 71] _ #[_] (st NS) rfl (fun x W => cq_Ints x W) (args1 rfl) (KI.out w _ (vG_s (hD 9 71 (by kernel_rfl) (by kernel_rfl)) (by decide))) (fun W hb => ⟨_, rfl, mkC (by decide) rfl, hb⟩)
    | 11, ho => cases ho; exact fun a w hB hk hD => op_addS (.tmp 64) (.tmp 72) _ _ NK NS rfl (vG_c (hD 2 64 (by kernel_rfl) (by kernel_rfl)) (by decide)) (vG_c (hD 10 72 (by kernel_rfl) (by kernel_rfl)) (by decide)) (by first | omega | (simp only [List.length_append]; omega)) ⟨_, rfl, mkC (by decide) rfl, Below.refl _ _⟩
    | 12, ho => cases ho; exact fun a w hB hk hD => op_fa 1 33 8 g0 (0) 239 rfl (fun W => fq33_8 _ _ W) (hk 1 (by kernel_rfl)) ⟨_, rfl, mkC (by decide) rfl, Below.refl _ _⟩
    | 13, ho => cases ho; exact fun a w hB hk hD => op_fa 74 30 2 g0 (239) 2 rfl (fun W => fq30_2 _ _ W) (vG_c (hD 12 74 (by kernel_rfl) (by kernel_rfl)) (by decide)) ⟨_, rfl, mkC (by decide) rfl, Below.refl _ _⟩
    | 14, ho => cases ho; exact fun a w hB hk hD => op_load1 _ (.tmp 75) rfl g0 (241) (vG_c (hD 13 75 (by kernel_rfl) (by kernel_rfl)) (by decide)) (st sv) _ (c4.out w hB) Tryz.underlying9 rfl ⟨_, rfl, mkC (by decide) rfl, Below.refl _ _⟩
    | 15, ho => cases ho; exact fun a w hB hk hD => op_call 54 [.tmp 76] _ #[st sv] (st T1) rfl (fun x W => cq_Text x W) (args1 (vG_c (hD 14 76 (by kernel_rfl) (by kernel_rfl)) (by decide))) (KT.out w) (fun W hb => ⟨_, rfl, mkC (by decide) rfl, hb⟩)
    | 16, ho => cases ho; exact fun a w hB hk hD => op_addS (.tmp 73) (.tmp 77) _ _ (NK ++ NS) T1 rfl (vG_c (hD 11 73 (by kernel_rfl) (by kernel_rfl)) (by decide)) (vG_c (hD 15 77 (by kernel_rfl) (by kernel_rfl)) (by decide)) (by first | omega | (simp only [List.length_append]; omega)) ⟨_, rfl, mkC (by decide) rfl, Below.refl _ _⟩
    | 17, ho => cases ho; exact fun a w hB hk hD => op_fa 1 33 8 g0 (0) 239 rfl (fun W => fq33_8 _ _ W) (hk 1 (by kernel_rfl)) ⟨_, rfl, mkC (by decide) rfl, Below.refl _ _⟩
    | 18, ho => cases ho; exact fun a w hB hk hD => op_fa 79 30 3 g0 (239) 3 rfl (fun W => fq30_3 _ _ W) (vG_c (hD 17 79 (by kernel_rfl) (by kernel_rfl)) (by decide)) ⟨_, rfl, mkC (by decide) rfl, Below.refl _ _⟩
    | 19, ho => cases ho; exact fun a w hB hk hD => op_load _ (.tmp 80) rfl g0 (242) (vG_c (hD 18 80 (by kernel_rfl) (by kernel_rfl)) (by decide)) (DA) _ (SA.out w hB) Tryz.underlying23 rfl ZA ⟨_, rfl, mkC (by decide) rfl, Below.refl _ _⟩
    | 20, ho => cases ho; exact fun a w hB hk hD => op_call 55 [.tmp 81] _ #[.agg (DA).toArray] (st T2) rfl (fun x W => cq_Dig x W) (args1 (vG_c (hD 19 81 (by kernel_rfl) (by kernel_rfl)) (by decide))) (KA.out w) (fun W hb => ⟨_, rfl, mkC (by decide) rfl, hb⟩)
    | 21, ho => cases ho; exact fun a w hB hk hD => op_addS (.tmp 78) (.tmp 82) _ _ ((NK ++ NS) ++ T1) T2 rfl (vG_c (hD 16 78 (by kernel_rfl) (by kernel_rfl)) (by decide)) (vG_c (hD 20 82 (by kernel_rfl) (by kernel_rfl)) (by decide)) (by first | omega | (simp only [List.length_append]; omega)) ⟨_, rfl, mkC (by decide) rfl, Below.refl _ _⟩
    | (i + 22), ho => omega
  · intro o a w' ho hB hs hd hk hv
    cases ho
    refine op_assign 83 _ rfl (vG_c (hv 21 83 (by omega) (by kernel_rfl)) (by decide)) ?_
    have BB := hid (below_two HBw.out hB)
    obtain ⟨tm, df⟩ := a
    obtain rfl : df = [] := hd
    have h4 : 2 < tm.size := by
      have : tm.size = 122 := hs
      omega
    clear hv hk hs
    go_wp2
    go_ret
    exact ⟨by rw [HRV.out]; simp [Act.put, h4], BB.out⟩
set_option maxHeartbeats 8000000 in
theorem rlay_6 (hY : BytOk) {w : World} {m : Msg} {vP vN : Value} (hw : m.Wf) (hr : m.Rng) (hm : mayB m = true) (hk : m.kind = 6) :
    Calls Tryz.prog 13 #[.agg (msgC m vP vN).toArray] w fun e w' => e = .returned (st (layR m)) ∧ Below w.heap.size w w' := by
  obtain ⟨-, hf⟩ := may_fits hw hm
  have ht : ∀ f ∈ fieldsM m.kind, okVal (f.get m) := fun f hx => (hf f hx).2
  clear hf
  have HB0 := hid (below_a1 w (.cells (msgC m vP vN).toArray 33))
  have R0 := hid (top_obj w (.cells (msgC m vP vN).toArray 33))
  have ck := mrow_kind R0.out hw
  have cc := mrow_client R0.out hw
  have hc0 : I64 m.client := hr.client
  have KH := hid (fun W => rnints_any numOk (ints_of W [m.kind, m.client] 2 rfl) (by intro n hn; simp at hn; rcases hn with rfl | rfl; exact hr.kind; exact hr.client) (by simp))
  have hH : intsB [m.kind, m.client] = headB m := rfl
  rw [hH] at KH
  clear hH
  have hHl : (headB m).length ≤ 100 := by
    have a1 := numB_len m.kind hr.kind
    have a2 := numB_len m.client hr.client
    simp only [headB, intsB, List.map_cons, List.map_nil, List.flatten_cons, List.flatten_nil, List.append_nil, List.length_append]
    omega
  have HRV : Hid (layR m = ((numB m.kind ++ intsB [m.blob.owner, m.blob.number]) ++ txtB m.blob.cipher) ++ txtB m.blob.tag) := by show _ = _; unfold layR; rw [if_neg (by omega), if_neg (by omega), if_neg (by omega), if_pos (by omega)]
  have hfs : fieldsM m.kind = bloFs := by rw [hk]; rfl
  rw [hfs] at ht
  have KN : Hid (∀ W, Calls Tryz.prog 57 #[nu m.kind] W fun e w' => e = .returned (st (numB m.kind)) ∧ Below W.heap.size W w') := fun W => numOk _ hr.kind.1 hr.kind.2 W
  have lN : (numB m.kind).length ≤ 100 := by have := numB_len _ hr.kind; omega
  have KI := hid (fun (W : World) (v : Value) (h : IntsAt W v [m.blob.owner, m.blob.number]) => rnints_any numOk h (by intro n hn; simp at hn; rcases hn with rfl | rfl; exact hr.bo; exact hr.bn) (by simp))
  have lI : (intsB [m.blob.owner, m.blob.number]).length ≤ 100 := by
    have := intsB_len [m.blob.owner, m.blob.number] (by intro n hn; simp at hn; rcases hn with rfl | rfl; exact hr.bo; exact hr.bn)
    simp at this
    omega
  have kT : m.blob.cipher.length ≤ 16384 := ht fBCipher (by simp [bloFs])
  have KT : Hid (∀ W, Calls Tryz.prog 54 #[st m.blob.cipher] W fun e w' => e = .returned (st (txtB m.blob.cipher)) ∧ Below W.heap.size W w') := fun W => rtext_any digOk _ (by omega) W
  have lT : (txtB m.blob.cipher).length ≤ 17000 := txtB_le kT
  have KA : Hid (∀ W, Calls Tryz.prog 55 #[.agg (dg m.blob.tag).toArray] W fun e w' => e = .returned (st (txtB m.blob.tag)) ∧ Below W.heap.size W w') := fun W => rdig_any digOk hY _ hw.blob.tag W
  have lA : (txtB m.blob.tag).length ≤ 17000 := txtB_le (by have : m.blob.tag.length = 32 := hw.blob.tag; omega)
  rw [hk] at KN lN HRV
  clear hfs
  obtain ⟨LR, hLR⟩ : ∃ LR, LR = layR m := ⟨_, rfl⟩
  rw [← hLR] at HRV ⊢
  clear hLR
  generalize headB m = HD at *
  have HRow : Hid (∀ W, Below (w.alloc (.cells (msgC m vP vN).toArray 33)).heap.size (w.alloc (.cells (msgC m vP vN).toArray 33)) W → W.heap[w.heap.size]? = some (.cells (msgC m vP vN).toArray 33)) := fun W hb => row_kept R0.out hb
  have HW := hid hw
  clear R0 hw hr ht hm hc0
  rw [hk] at ck KH
  have HKm := hid hk
  clear hk
  obtain ⟨V, hV⟩ : ∃ V, V = msgC m vP vN := ⟨_, rfl⟩
  have HV := hid hV
  rw [← hV] at HB0 ck cc HRow ⊢
  clear hV
  obtain ⟨c, hc⟩ : ∃ c, c = m.client := ⟨_, rfl⟩
  rw [← hc] at cc KH
  clear hc
  go_enter Tryz.func13, Tryz.ntmps13
  go_upto_region 1 with fail
  generalize w.alloc (.cells V.toArray 33) = W0 at *
  generalize hg0 : w.heap.size = g0 at *
  have HG0 := hid hg0
  clear hg0
  have HB1 := hid (below_a1 W0 (.cells ([(6 : Int), c].map nu).toArray 3))
  go_wp2_with fail
  refine (KH.out _).mono ?_
  rintro e W1 ⟨rfl, hb⟩
  have HB2 := hid (below_two HB1.out hb)
  clear hb
  have R1 := hid (HRow.out _ HB2.out)
  rw [HV.out] at R1
  have HBw : Hid (Below w.heap.size w W1) := by
    have h1 := HB0.out
    have h2 := HB2.out
    rw [← HG0.out] at *
    exact below_two h1 h2
  clear HRow HB0 HB1 KH ck cc HV
  have SA := hid (fun (W : World) (hB : Below W1.heap.size W1 W) => mrow_blob_tag (row_kept R1.out hB) HW.out)
  have c0 := hid (fun (W : World) (hB : Below W1.heap.size W1 W) => mrow_kind (row_kept R1.out hB) HW.out)
  have c1 := hid (fun (W : World) (hB : Below W1.heap.size W1 W) => mrow_blob_owner (row_kept R1.out hB) HW.out)
  have c2 := hid (fun (W : World) (hB : Below W1.heap.size W1 W) => mrow_blob_number (row_kept R1.out hB) HW.out)
  have c4 := hid (fun (W : World) (hB : Below W1.heap.size W1 W) => mrow_blob_cipher (row_kept R1.out hB) HW.out)
  have ZA : (Tryz.prog.info? 23).map (·.size) = some (dg m.blob.tag).length := by rw [dg_len, HW.out.blob.tag]; exact sizeDig
  have ck := mrow_kind R1.out HW.out
  rw [HKm.out] at ck c0
  generalize txtB m.blob.cipher = T1 at *
  generalize txtB m.blob.tag = T2 at *
  generalize intsB [m.blob.owner, m.blob.number] = NS at *
  generalize numB 6 = NK at *
  generalize dg m.blob.tag = DA at *
  generalize m.blob.cipher = sv at *
  generalize m.blob.owner = n1 at *
  generalize m.blob.number = n2 at *
  clear HW R1
  go_upto_region 11 with fail
  refine wp_region_grow (N := 122) 22 (vG [9] (fun _ v w => IntsAt w v [n1, n2]) [pt g0 0, nu 6, st NK, pt g0 239, pt g0 239, nu n1, pt g0 239, pt g0 240, nu n2, undef, st NS, st (NK ++ NS), pt g0 239, pt g0 241, st sv, st T1, st ((NK ++ NS) ++ T1), pt g0 239, pt g0 242, .agg (DA).toArray, st T2, st (((NK ++ NS) ++ T1) ++ T2)]) (by kernel_rfl) (by kernel_rfl) (by kernel_rfl) rfl (vG_mono (fun _ _ _ _ h hb => h.kept hb)) ?_ ?_
  · intro i o hi ho
    match i, ho with
    | 0, ho => cases ho; exact fun a w hB hk hD => op_fa 1 33 0 g0 (0) 0 rfl (fun W => fq33_0 _ _ W) (hk 1 (by kernel_rfl)) ⟨_, rfl, mkC (by decide) rfl, Below.refl _ _⟩
    | 1, ho => cases ho; exact fun a w hB hk hD => op_load1 _ (.tmp 62) rfl g0 (0) (vG_c (hD 0 62 (by kernel_rfl) (by kernel_rfl)) (by decide)) (nu 6) _ (c0.out w hB) Tryz.underlying3 rfl ⟨_, rfl, mkC (by decide) rfl, Below.refl _ _⟩
    | 2, ho => cases ho; exact fun a w hB hk hD => op_call 57 [.tmp 63] _ #[nu 6] (st NK) rfl (fun x W => cq_Number x W) (args1 (vG_c (hD 1 63 (by kernel_rfl) (by kernel_rfl)) (by decide))) (KN.out w) (fun W hb => ⟨_, rfl, mkC (by decide) rfl, hb⟩)
    | 3, ho => cases ho; exact fun a w hB hk hD => op_fa 1 33 8 g0 (0) 239 rfl (fun W => fq33_8 _ _ W) (hk 1 (by kernel_rfl)) ⟨_, rfl, mkC (by decide) rfl, Below.refl _ _⟩
    | 4, ho => cases ho; exact fun a w hB hk hD => op_fa 65 30 0 g0 (239) 0 rfl (fun W => fq30_0 _ _ W) (vG_c (hD 3 65 (by kernel_rfl) (by kernel_rfl)) (by decide)) ⟨_, rfl, mkC (by decide) rfl, Below.refl _ _⟩
    | 5, ho => cases ho; exact fun a w hB hk hD => op_load1 _ (.tmp 66) rfl g0 (239) (vG_c (hD 4 66 (by kernel_rfl) (by kernel_rfl)) (by decide)) (nu n1) _ (c1.out w hB) Tryz.underlying3 rfl ⟨_, rfl, mkC (by decide) rfl, Below.refl _ _⟩
    | 6, ho => cases ho; exact fun a w hB hk hD => op_fa 1 33 8 g0 (0) 239 rfl (fun W => fq33_8 _ _ W) (hk 1 (by kernel_rfl)) ⟨_, rfl, mkC (by decide) rfl, Below.refl _ _⟩
    | 7, ho => cases ho; exact fun a w hB hk hD => op_fa 68 30 1 g0 (239) 1 rfl (fun W => fq30_1 _ _ W) (vG_c (hD 6 68 (by kernel_rfl) (by kernel_rfl)) (by decide)) ⟨_, rfl, mkC (by decide) rfl, Below.refl _ _⟩
    | 8, ho => cases ho; exact fun a w hB hk hD => op_load1 _ (.tmp 69) rfl g0 (240) (vG_c (hD 7 69 (by kernel_rfl) (by kernel_rfl)) (by decide)) (nu n2) _ (c2.out w hB) Tryz.underlying3 rfl ⟨_, rfl, mkC (by decide) rfl, Below.refl _ _⟩
    | 9, ho => cases ho; exact fun a w hB hk hD => op_bs2 31 67 70 rfl Tryz.underlying31 8 info3 (n1) (n2) (vG_c (hD 5 67 (by kernel_rfl) (by kernel_rfl)) (by decide)) (vG_c (hD 8 70 (by kernel_rfl) (by kernel_rfl)) (by decide)) ⟨_, rfl, mkS (by decide) (ints_of w [n1, n2] 2 rfl), below_a1 _ _⟩
    | 10, ho => cases ho; exact fun a w hB hk hD => op_call 53 [.tmp 71] _ #[_] (st NS) rfl (fun x W => cq_Ints x W) (args1 rfl) (KI.out w _ (vG_s (hD 9 71 (by kernel_rfl) (by kernel_rfl)) (by decide))) (fun W hb => ⟨_, rfl, mkC (by decide) rfl, hb⟩)
    | 11, ho => cases ho; exact fun a w hB hk hD => op_addS (.tmp 64) (.tmp 72) _ _ NK NS rfl (vG_c (hD 2 64 (by kernel_rfl) (by kernel_rfl)) (by decide)) (vG_c (hD 10 72 (by kernel_rfl) (by kernel_rfl)) (by decide)) (by first | omega | (simp only [List.length_append]; omega)) ⟨_, rfl, mkC (by decide) rfl, Below.refl _ _⟩
    | 12, ho => cases ho; exact fun a w hB hk hD => op_fa 1 33 8 g0 (0) 239 rfl (fun W => fq33_8 _ _ W) (hk 1 (by kernel_rfl)) ⟨_, rfl, mkC (by decide) rfl, Below.refl _ _⟩
    | 13, ho => cases ho; exact fun a w hB hk hD => op_fa 74 30 2 g0 (239) 2 rfl (fun W => fq30_2 _ _ W) (vG_c (hD 12 74 (by kernel_rfl) (by kernel_rfl)) (by decide)) ⟨_, rfl, mkC (by decide) rfl, Below.refl _ _⟩
    | 14, ho => cases ho; exact fun a w hB hk hD => op_load1 _ (.tmp 75) rfl g0 (241) (vG_c (hD 13 75 (by kernel_rfl) (by kernel_rfl)) (by decide)) (st sv) _ (c4.out w hB) Tryz.underlying9 rfl ⟨_, rfl, mkC (by decide) rfl, Below.refl _ _⟩
    | 15, ho => cases ho; exact fun a w hB hk hD => op_call 54 [.tmp 76] _ #[st sv] (st T1) rfl (fun x W => cq_Text x W) (args1 (vG_c (hD 14 76 (by kernel_rfl) (by kernel_rfl)) (by decide))) (KT.out w) (fun W hb => ⟨_, rfl, mkC (by decide) rfl, hb⟩)
    | 16, ho => cases ho; exact fun a w hB hk hD => op_addS (.tmp 73) (.tmp 77) _ _ (NK ++ NS) T1 rfl (vG_c (hD 11 73 (by kernel_rfl) (by kernel_rfl)) (by decide)) (vG_c (hD 15 77 (by kernel_rfl) (by kernel_rfl)) (by decide)) (by first | omega | (simp only [List.length_append]; omega)) ⟨_, rfl, mkC (by decide) rfl, Below.refl _ _⟩
    | 17, ho => cases ho; exact fun a w hB hk hD => op_fa 1 33 8 g0 (0) 239 rfl (fun W => fq33_8 _ _ W) (hk 1 (by kernel_rfl)) ⟨_, rfl, mkC (by decide) rfl, Below.refl _ _⟩
    | 18, ho => cases ho; exact fun a w hB hk hD => op_fa 79 30 3 g0 (239) 3 rfl (fun W => fq30_3 _ _ W) (vG_c (hD 17 79 (by kernel_rfl) (by kernel_rfl)) (by decide)) ⟨_, rfl, mkC (by decide) rfl, Below.refl _ _⟩
    | 19, ho => cases ho; exact fun a w hB hk hD => op_load _ (.tmp 80) rfl g0 (242) (vG_c (hD 18 80 (by kernel_rfl) (by kernel_rfl)) (by decide)) (DA) _ (SA.out w hB) Tryz.underlying23 rfl ZA ⟨_, rfl, mkC (by decide) rfl, Below.refl _ _⟩
    | 20, ho => cases ho; exact fun a w hB hk hD => op_call 55 [.tmp 81] _ #[.agg (DA).toArray] (st T2) rfl (fun x W => cq_Dig x W) (args1 (vG_c (hD 19 81 (by kernel_rfl) (by kernel_rfl)) (by decide))) (KA.out w) (fun W hb => ⟨_, rfl, mkC (by decide) rfl, hb⟩)
    | 21, ho => cases ho; exact fun a w hB hk hD => op_addS (.tmp 78) (.tmp 82) _ _ ((NK ++ NS) ++ T1) T2 rfl (vG_c (hD 16 78 (by kernel_rfl) (by kernel_rfl)) (by decide)) (vG_c (hD 20 82 (by kernel_rfl) (by kernel_rfl)) (by decide)) (by first | omega | (simp only [List.length_append]; omega)) ⟨_, rfl, mkC (by decide) rfl, Below.refl _ _⟩
    | (i + 22), ho => omega
  · intro o a w' ho hB hs hd hk hv
    cases ho
    refine op_assign 83 _ rfl (vG_c (hv 21 83 (by omega) (by kernel_rfl)) (by decide)) ?_
    have BB := hid (below_two HBw.out hB)
    obtain ⟨tm, df⟩ := a
    obtain rfl : df = [] := hd
    have h4 : 2 < tm.size := by
      have : tm.size = 122 := hs
      omega
    clear hv hk hs
    go_wp2
    go_ret
    exact ⟨by rw [HRV.out]; simp [Act.put, h4], BB.out⟩
set_option maxHeartbeats 8000000 in
theorem rlay_10 (hY : BytOk) {w : World} {m : Msg} {vP vN : Value} (hw : m.Wf) (hr : m.Rng) (hm : mayB m = true) (hk : m.kind = 10) :
    Calls Tryz.prog 13 #[.agg (msgC m vP vN).toArray] w fun e w' => e = .returned (st (layR m)) ∧ Below w.heap.size w w' := by
  obtain ⟨-, hf⟩ := may_fits hw hm
  have ht : ∀ f ∈ fieldsM m.kind, okVal (f.get m) := fun f hx => (hf f hx).2
  clear hf
  have HB0 := hid (below_a1 w (.cells (msgC m vP vN).toArray 33))
  have R0 := hid (top_obj w (.cells (msgC m vP vN).toArray 33))
  have ck := mrow_kind R0.out hw
  have cc := mrow_client R0.out hw
  have hc0 : I64 m.client := hr.client
  have KH := hid (fun W => rnints_any numOk (ints_of W [m.kind, m.client] 2 rfl) (by intro n hn; simp at hn; rcases hn with rfl | rfl; exact hr.kind; exact hr.client) (by simp))
  have hH : intsB [m.kind, m.client] = headB m := rfl
  rw [hH] at KH
  clear hH
  have hHl : (headB m).length ≤ 100 := by
    have a1 := numB_len m.kind hr.kind
    have a2 := numB_len m.client hr.client
    simp only [headB, intsB, List.map_cons, List.map_nil, List.flatten_cons, List.flatten_nil, List.append_nil, List.length_append]
    omega
  have HRV : Hid (layR m = (((headB m ++ numB m.who) ++ txtB m.view) ++ txtB m.tag) ++ txtB m.own) := by show _ = _; unfold layR; rw [if_neg (by omega), if_neg (by omega), if_neg (by omega), if_neg (by omega), if_neg (by omega), if_pos hk]
  have hfs : fieldsM m.kind = verFs := by rw [hk]; rfl
  rw [hfs] at ht
  have KN : Hid (∀ W, Calls Tryz.prog 57 #[nu m.who] W fun e w' => e = .returned (st (numB m.who)) ∧ Below W.heap.size W w') := fun W => numOk _ hr.who.1 hr.who.2 W
  have lN : (numB m.who).length ≤ 100 := by have := numB_len _ hr.who; omega
  have kT : m.view.length ≤ 16384 := ht fView (by simp [verFs])
  have KT : Hid (∀ W, Calls Tryz.prog 54 #[st m.view] W fun e w' => e = .returned (st (txtB m.view)) ∧ Below W.heap.size W w') := fun W => rtext_any digOk _ (by omega) W
  have lT : (txtB m.view).length ≤ 17000 := txtB_le kT
  have KA : Hid (∀ W, Calls Tryz.prog 55 #[.agg (dg m.tag).toArray] W fun e w' => e = .returned (st (txtB m.tag)) ∧ Below W.heap.size W w') := fun W => rdig_any digOk hY _ hw.tag W
  have lA : (txtB m.tag).length ≤ 17000 := txtB_le (by have : m.tag.length = 32 := hw.tag; omega)
  have KD : Hid (∀ W, Calls Tryz.prog 55 #[.agg (dg m.own).toArray] W fun e w' => e = .returned (st (txtB m.own)) ∧ Below W.heap.size W w') := fun W => rdig_any digOk hY _ hw.own W
  have lD : (txtB m.own).length ≤ 17000 := txtB_le (by have : m.own.length = 32 := hw.own; omega)
  clear hfs
  obtain ⟨LR, hLR⟩ : ∃ LR, LR = layR m := ⟨_, rfl⟩
  rw [← hLR] at HRV ⊢
  clear hLR
  generalize headB m = HD at *
  have HRow : Hid (∀ W, Below (w.alloc (.cells (msgC m vP vN).toArray 33)).heap.size (w.alloc (.cells (msgC m vP vN).toArray 33)) W → W.heap[w.heap.size]? = some (.cells (msgC m vP vN).toArray 33)) := fun W hb => row_kept R0.out hb
  have HW := hid hw
  clear R0 hw hr ht hm hc0
  rw [hk] at ck KH
  have HKm := hid hk
  clear hk
  obtain ⟨V, hV⟩ : ∃ V, V = msgC m vP vN := ⟨_, rfl⟩
  have HV := hid hV
  rw [← hV] at HB0 ck cc HRow ⊢
  clear hV
  obtain ⟨c, hc⟩ : ∃ c, c = m.client := ⟨_, rfl⟩
  rw [← hc] at cc KH
  clear hc
  go_enter Tryz.func13, Tryz.ntmps13
  go_upto_region 1 with fail
  generalize w.alloc (.cells V.toArray 33) = W0 at *
  generalize hg0 : w.heap.size = g0 at *
  have HG0 := hid hg0
  clear hg0
  have HB1 := hid (below_a1 W0 (.cells ([(10 : Int), c].map nu).toArray 3))
  go_wp2_with fail
  refine (KH.out _).mono ?_
  rintro e W1 ⟨rfl, hb⟩
  have HB2 := hid (below_two HB1.out hb)
  clear hb
  have R1 := hid (HRow.out _ HB2.out)
  rw [HV.out] at R1
  have HBw : Hid (Below w.heap.size w W1) := by
    have h1 := HB0.out
    have h2 := HB2.out
    rw [← HG0.out] at *
    exact below_two h1 h2
  clear HRow HB0 HB1 KH ck cc HV
  have SA := hid (fun (W : World) (hB : Below W1.heap.size W1 W) => mrow_tag (row_kept R1.out hB) HW.out)
  have SD := hid (fun (W : World) (hB : Below W1.heap.size W1 W) => mrow_own (row_kept R1.out hB) HW.out)
  have c1 := hid (fun (W : World) (hB : Below W1.heap.size W1 W) => mrow_who (row_kept R1.out hB) HW.out)
  have c4 := hid (fun (W : World) (hB : Below W1.heap.size W1 W) => mrow_view (row_kept R1.out hB) HW.out)
  have ZA : (Tryz.prog.info? 23).map (·.size) = some (dg m.tag).length := by rw [dg_len, HW.out.tag]; exact sizeDig
  have ZD : (Tryz.prog.info? 23).map (·.size) = some (dg m.own).length := by rw [dg_len, HW.out.own]; exact sizeDig
  have ck := mrow_kind R1.out HW.out
  rw [HKm.out] at ck
  generalize txtB m.view = T1 at *
  generalize txtB m.tag = T2 at *
  generalize txtB m.own = T3 at *
  generalize numB m.who = NK at *
  generalize dg m.tag = DA at *
  generalize dg m.own = DD at *
  generalize m.view = sv at *
  generalize m.who = n1 at *
  clear HW R1
  go_upto_region 17 with fail
  refine wp_region_grow (N := 122) 17 (vG [] (fun _ _ _ => True) [st HD, pt g0 174, nu n1, st NK, st (HD ++ NK), pt g0 173, st sv, st T1, st ((HD ++ NK) ++ T1), pt g0 175, .agg (DA).toArray, st T2, st (((HD ++ NK) ++ T1) ++ T2), pt g0 207, .agg (DD).toArray, st T3, st ((((HD ++ NK) ++ T1) ++ T2) ++ T3)]) (by kernel_rfl) (by kernel_rfl) (by kernel_rfl) rfl (vG_mono (fun _ _ _ _ h _ => h)) ?_ ?_
  · intro i o hi ho
    match i, ho with
    | 0, ho => cases ho; exact fun a w hB hk hD => op_move 3 _ rfl (hk 3 (by kernel_rfl)) ⟨_, rfl, mkC (by decide) rfl, Below.refl _ _⟩
    | 1, ho => cases ho; exact fun a w hB hk hD => op_fa 1 33 5 g0 (0) 174 rfl (fun W => fq33_5 _ _ W) (hk 1 (by kernel_rfl)) ⟨_, rfl, mkC (by decide) rfl, Below.refl _ _⟩
    | 2, ho => cases ho; exact fun a w hB hk hD => op_load1 _ (.tmp 98) rfl g0 (174) (vG_c (hD 1 98 (by kernel_rfl) (by kernel_rfl)) (by decide)) (nu n1) _ (c1.out w hB) Tryz.underlying3 rfl ⟨_, rfl, mkC (by decide) rfl, Below.refl _ _⟩
    | 3, ho => cases ho; exact fun a w hB hk hD => op_call 57 [.tmp 99] _ #[nu n1] (st NK) rfl (fun x W => cq_Number x W) (args1 (vG_c (hD 2 99 (by kernel_rfl) (by kernel_rfl)) (by decide))) (KN.out w) (fun W hb => ⟨_, rfl, mkC (by decide) rfl, hb⟩)
    | 4, ho => cases ho; exact fun a w hB hk hD => op_addS (.tmp 97) (.tmp 100) _ _ HD NK rfl (vG_c (hD 0 97 (by kernel_rfl) (by kernel_rfl)) (by decide)) (vG_c (hD 3 100 (by kernel_rfl) (by kernel_rfl)) (by decide)) (by first | omega | (simp only [List.length_append]; omega)) ⟨_, rfl, mkC (by decide) rfl, Below.refl _ _⟩
    | 5, ho => cases ho; exact fun a w hB hk hD => op_fa 1 33 4 g0 (0) 173 rfl (fun W => fq33_4 _ _ W) (hk 1 (by kernel_rfl)) ⟨_, rfl, mkC (by decide) rfl, Below.refl _ _⟩
    | 6, ho => cases ho; exact fun a w hB hk hD => op_load1 _ (.tmp 102) rfl g0 (173) (vG_c (hD 5 102 (by kernel_rfl) (by kernel_rfl)) (by decide)) (st sv) _ (c4.out w hB) Tryz.underlying9 rfl ⟨_, rfl, mkC (by decide) rfl, Below.refl _ _⟩
    | 7, ho => cases ho; exact fun a w hB hk hD => op_call 54 [.tmp 103] _ #[st sv] (st T1) rfl (fun x W => cq_Text x W) (args1 (vG_c (hD 6 103 (by kernel_rfl) (by kernel_rfl)) (by decide))) (KT.out w) (fun W hb => ⟨_, rfl, mkC (by decide) rfl, hb⟩)
    | 8, ho => cases ho; exact fun a w hB hk hD => op_addS (.tmp 101) (.tmp 104) _ _ (HD ++ NK) T1 rfl (vG_c (hD 4 101 (by kernel_rfl) (by kernel_rfl)) (by decide)) (vG_c (hD 7 104 (by kernel_rfl) (by kernel_rfl)) (by decide)) (by first | omega | (simp only [List.length_append]; omega)) ⟨_, rfl, mkC (by decide) rfl, Below.refl _ _⟩
    | 9, ho => cases ho; exact fun a w hB hk hD => op_fa 1 33 6 g0 (0) 175 rfl (fun W => fq33_6 _ _ W) (hk 1 (by kernel_rfl)) ⟨_, rfl, mkC (by decide) rfl, Below.refl _ _⟩
    | 10, ho => cases ho; exact fun a w hB hk hD => op_load _ (.tmp 106) rfl g0 (175) (vG_c (hD 9 106 (by kernel_rfl) (by kernel_rfl)) (by decide)) (DA) _ (SA.out w hB) Tryz.underlying23 rfl ZA ⟨_, rfl, mkC (by decide) rfl, Below.refl _ _⟩
    | 11, ho => cases ho; exact fun a w hB hk hD => op_call 55 [.tmp 107] _ #[.agg (DA).toArray] (st T2) rfl (fun x W => cq_Dig x W) (args1 (vG_c (hD 10 107 (by kernel_rfl) (by kernel_rfl)) (by decide))) (KA.out w) (fun W hb => ⟨_, rfl, mkC (by decide) rfl, hb⟩)
    | 12, ho => cases ho; exact fun a w hB hk hD => op_addS (.tmp 105) (.tmp 108) _ _ ((HD ++ NK) ++ T1) T2 rfl (vG_c (hD 8 105 (by kernel_rfl) (by kernel_rfl)) (by decide)) (vG_c (hD 11 108 (by kernel_rfl) (by kernel_rfl)) (by decide)) (by first | omega | (simp only [List.length_append]; omega)) ⟨_, rfl, mkC (by decide) rfl, Below.refl _ _⟩
    | 13, ho => cases ho; exact fun a w hB hk hD => op_fa 1 33 7 g0 (0) 207 rfl (fun W => fq33_7 _ _ W) (hk 1 (by kernel_rfl)) ⟨_, rfl, mkC (by decide) rfl, Below.refl _ _⟩
    | 14, ho => cases ho; exact fun a w hB hk hD => op_load _ (.tmp 110) rfl g0 (207) (vG_c (hD 13 110 (by kernel_rfl) (by kernel_rfl)) (by decide)) (DD) _ (SD.out w hB) Tryz.underlying23 rfl ZD ⟨_, rfl, mkC (by decide) rfl, Below.refl _ _⟩
    | 15, ho => cases ho; exact fun a w hB hk hD => op_call 55 [.tmp 111] _ #[.agg (DD).toArray] (st T3) rfl (fun x W => cq_Dig x W) (args1 (vG_c (hD 14 111 (by kernel_rfl) (by kernel_rfl)) (by decide))) (KD.out w) (fun W hb => ⟨_, rfl, mkC (by decide) rfl, hb⟩)
    | 16, ho => cases ho; exact fun a w hB hk hD => op_addS (.tmp 109) (.tmp 112) _ _ (((HD ++ NK) ++ T1) ++ T2) T3 rfl (vG_c (hD 12 109 (by kernel_rfl) (by kernel_rfl)) (by decide)) (vG_c (hD 15 112 (by kernel_rfl) (by kernel_rfl)) (by decide)) (by first | omega | (simp only [List.length_append]; omega)) ⟨_, rfl, mkC (by decide) rfl, Below.refl _ _⟩
    | (i + 17), ho => omega
  · intro o a w' ho hB hs hd hk hv
    cases ho
    refine op_assign 113 _ rfl (vG_c (hv 16 113 (by omega) (by kernel_rfl)) (by decide)) ?_
    have BB := hid (below_two HBw.out hB)
    obtain ⟨tm, df⟩ := a
    obtain rfl : df = [] := hd
    have h4 : 2 < tm.size := by
      have : tm.size = 122 := hs
      omega
    clear hv hk hs
    go_wp2
    go_ret
    exact ⟨by rw [HRV.out]; simp [Act.put, h4], BB.out⟩
set_option maxHeartbeats 8000000 in
theorem rlay_11 (hY : BytOk) {w : World} {m : Msg} {vP vN : Value} (hw : m.Wf) (hr : m.Rng) (hm : mayB m = true) (hk : m.kind = 11) :
    Calls Tryz.prog 13 #[.agg (msgC m vP vN).toArray] w fun e w' => e = .returned (st (layR m)) ∧ Below w.heap.size w w' := by
  obtain ⟨-, hf⟩ := may_fits hw hm
  have ht : ∀ f ∈ fieldsM m.kind, okVal (f.get m) := fun f hx => (hf f hx).2
  clear hf
  have HB0 := hid (below_a1 w (.cells (msgC m vP vN).toArray 33))
  have R0 := hid (top_obj w (.cells (msgC m vP vN).toArray 33))
  have ck := mrow_kind R0.out hw
  have cc := mrow_client R0.out hw
  have hc0 : I64 m.client := hr.client
  have KH := hid (fun W => rnints_any numOk (ints_of W [m.kind, m.client] 2 rfl) (by intro n hn; simp at hn; rcases hn with rfl | rfl; exact hr.kind; exact hr.client) (by simp))
  have hH : intsB [m.kind, m.client] = headB m := rfl
  rw [hH] at KH
  clear hH
  have hHl : (headB m).length ≤ 100 := by
    have a1 := numB_len m.kind hr.kind
    have a2 := numB_len m.client hr.client
    simp only [headB, intsB, List.map_cons, List.map_nil, List.flatten_cons, List.flatten_nil, List.append_nil, List.length_append]
    omega
  have HRV : Hid (layR m = headB m ++ txtB m.own) := by show _ = _; unfold layR; rw [if_neg (by omega), if_neg (by omega), if_neg (by omega), if_neg (by omega), if_neg (by omega), if_neg (by omega), if_pos hk]
  have KA : Hid (∀ W, Calls Tryz.prog 55 #[.agg (dg m.own).toArray] W fun e w' => e = .returned (st (txtB m.own)) ∧ Below W.heap.size W w') := fun W => rdig_any digOk hY _ hw.own W
  have lA : (txtB m.own).length ≤ 17000 := txtB_le (by have : m.own.length = 32 := hw.own; omega)
  obtain ⟨LR, hLR⟩ : ∃ LR, LR = layR m := ⟨_, rfl⟩
  rw [← hLR] at HRV ⊢
  clear hLR
  generalize headB m = HD at *
  have HRow : Hid (∀ W, Below (w.alloc (.cells (msgC m vP vN).toArray 33)).heap.size (w.alloc (.cells (msgC m vP vN).toArray 33)) W → W.heap[w.heap.size]? = some (.cells (msgC m vP vN).toArray 33)) := fun W hb => row_kept R0.out hb
  have HW := hid hw
  clear R0 hw hr ht hm hc0
  rw [hk] at ck KH
  have HKm := hid hk
  clear hk
  obtain ⟨V, hV⟩ : ∃ V, V = msgC m vP vN := ⟨_, rfl⟩
  have HV := hid hV
  rw [← hV] at HB0 ck cc HRow ⊢
  clear hV
  obtain ⟨c, hc⟩ : ∃ c, c = m.client := ⟨_, rfl⟩
  rw [← hc] at cc KH
  clear hc
  go_enter Tryz.func13, Tryz.ntmps13
  go_upto_region 1 with fail
  generalize w.alloc (.cells V.toArray 33) = W0 at *
  generalize hg0 : w.heap.size = g0 at *
  have HG0 := hid hg0
  clear hg0
  have HB1 := hid (below_a1 W0 (.cells ([(11 : Int), c].map nu).toArray 3))
  go_wp2_with fail
  refine (KH.out _).mono ?_
  rintro e W1 ⟨rfl, hb⟩
  have HB2 := hid (below_two HB1.out hb)
  clear hb
  have R1 := hid (HRow.out _ HB2.out)
  rw [HV.out] at R1
  have HBw : Hid (Below w.heap.size w W1) := by
    have h1 := HB0.out
    have h2 := HB2.out
    rw [← HG0.out] at *
    exact below_two h1 h2
  clear HRow HB0 HB1 KH ck cc HV
  have SA := hid (mrow_own R1.out HW.out)
  have ZA : (Tryz.prog.info? 23).map (·.size) = some (dg m.own).length := by rw [dg_len, HW.out.own]; exact sizeDig
  have ck := mrow_kind R1.out HW.out
  rw [HKm.out] at ck
  have s1 := str_app HD (txtB m.own)
  generalize txtB m.own = T1 at *
  generalize dg m.own = DA at *
  clear HW R1
  have z1 : (⟨HD.toArray⟩ : ByteArray).size = HD.length := rfl
  have z2 : (⟨T1.toArray⟩ : ByteArray).size = T1.length := rfl
  go_wp2_with (first | ((with_reducible refine wl_load 23 (.tmp 117) ?_ g0 207 ?_ ?_ DA _ SA.out Tryz.underlying23 ?_ ZA ?_); exact rfl; exact rfl; exact rfl; exact rfl))
  refine (KA.out _).mono ?_
  rintro e W2 ⟨rfl, hb⟩
  have BB := hid (below_two HBw.out hb)
  clear hb
  go_wp2
  go_ret
  exact ⟨by rw [HRV.out]; rfl, BB.out⟩
set_option maxHeartbeats 8000000 in
theorem rlay_9 (_hY : BytOk) {w : World} {m : Msg} {vP vN : Value} (hw : m.Wf) (hr : m.Rng) (hm : mayB m = true) (hk : m.kind = 9) :
    Calls Tryz.prog 13 #[.agg (msgC m vP vN).toArray] w fun e w' => e = .returned (st (layR m)) ∧ Below w.heap.size w w' := by
  obtain ⟨-, hf⟩ := may_fits hw hm
  have ht : ∀ f ∈ fieldsM m.kind, okVal (f.get m) := fun f hx => (hf f hx).2
  clear hf
  have HB0 := hid (below_a1 w (.cells (msgC m vP vN).toArray 33))
  have R0 := hid (top_obj w (.cells (msgC m vP vN).toArray 33))
  have ck := mrow_kind R0.out hw
  have cc := mrow_client R0.out hw
  have hc0 : I64 m.client := hr.client
  have KH := hid (fun W => rnints_any numOk (ints_of W [m.kind, m.client] 2 rfl) (by intro n hn; simp at hn; rcases hn with rfl | rfl; exact hr.kind; exact hr.client) (by simp))
  have hH : intsB [m.kind, m.client] = headB m := rfl
  rw [hH] at KH
  clear hH
  have hHl : (headB m).length ≤ 100 := by
    have a1 := numB_len m.kind hr.kind
    have a2 := numB_len m.client hr.client
    simp only [headB, intsB, List.map_cons, List.map_nil, List.flatten_cons, List.flatten_nil, List.append_nil, List.length_append]
    omega
  have HRV : Hid (layR m = headB m) := by show _ = _; unfold layR; rw [if_neg (by omega), if_neg (by omega), if_neg (by omega), if_neg (by omega), if_neg (by omega), if_neg (by omega), if_neg (by omega)]
  obtain ⟨LR, hLR⟩ : ∃ LR, LR = layR m := ⟨_, rfl⟩
  rw [← hLR] at HRV ⊢
  clear hLR
  generalize headB m = HD at *
  have HRow : Hid (∀ W, Below (w.alloc (.cells (msgC m vP vN).toArray 33)).heap.size (w.alloc (.cells (msgC m vP vN).toArray 33)) W → W.heap[w.heap.size]? = some (.cells (msgC m vP vN).toArray 33)) := fun W hb => row_kept R0.out hb
  have HW := hid hw
  clear R0 hw hr ht hm hc0
  rw [hk] at ck KH
  have HKm := hid hk
  clear hk
  obtain ⟨V, hV⟩ : ∃ V, V = msgC m vP vN := ⟨_, rfl⟩
  have HV := hid hV
  rw [← hV] at HB0 ck cc HRow ⊢
  clear hV
  obtain ⟨c, hc⟩ : ∃ c, c = m.client := ⟨_, rfl⟩
  rw [← hc] at cc KH
  clear hc
  go_enter Tryz.func13, Tryz.ntmps13
  go_upto_region 1 with fail
  generalize w.alloc (.cells V.toArray 33) = W0 at *
  generalize hg0 : w.heap.size = g0 at *
  have HG0 := hid hg0
  clear hg0
  have HB1 := hid (below_a1 W0 (.cells ([(9 : Int), c].map nu).toArray 3))
  go_wp2_with fail
  refine (KH.out _).mono ?_
  rintro e W1 ⟨rfl, hb⟩
  have HB2 := hid (below_two HB1.out hb)
  clear hb
  have R1 := hid (HRow.out _ HB2.out)
  rw [HV.out] at R1
  have HBw : Hid (Below w.heap.size w W1) := by
    have h1 := HB0.out
    have h2 := HB2.out
    rw [← HG0.out] at *
    exact below_two h1 h2
  clear HRow HB0 HB1 KH ck cc HV
  have ck := mrow_kind R1.out HW.out
  rw [HKm.out] at ck
  skip
  clear HW R1
  go_wp2
  go_ret
  exact ⟨by rw [HRV.out]; rfl, HBw.out⟩
set_option maxHeartbeats 8000000 in
theorem rlay_5 (_hY : BytOk) {w : World} {m : Msg} {vP vN : Value} (hw : m.Wf) (hr : m.Rng) (hm : mayB m = true) (hn : IntsAt w vN m.nums) (hk : m.kind = 5) :
    Calls Tryz.prog 13 #[.agg (msgC m vP vN).toArray] w fun e w' => e = .returned (st (layR m)) ∧ Below w.heap.size w w' := by
  obtain ⟨-, hf⟩ := may_fits hw hm
  have ht : ∀ f ∈ fieldsM m.kind, okVal (f.get m) := fun f hx => (hf f hx).2
  clear hf
  have HB0 := hid (below_a1 w (.cells (msgC m vP vN).toArray 33))
  have R0 := hid (top_obj w (.cells (msgC m vP vN).toArray 33))
  have ck := mrow_kind R0.out hw
  have cc := mrow_client R0.out hw
  have hc0 : I64 m.client := hr.client
  have KH := hid (fun W => rnints_any numOk (ints_of W [m.kind, m.client] 2 rfl) (by intro n hn; simp at hn; rcases hn with rfl | rfl; exact hr.kind; exact hr.client) (by simp))
  have hH : intsB [m.kind, m.client] = headB m := rfl
  rw [hH] at KH
  clear hH
  have hHl : (headB m).length ≤ 100 := by
    have a1 := numB_len m.kind hr.kind
    have a2 := numB_len m.client hr.client
    simp only [headB, intsB, List.map_cons, List.map_nil, List.flatten_cons, List.flatten_nil, List.append_nil, List.length_append]
    omega
  have HRV : Hid (layR m = ((headB m ++ [40]) ++ intsB m.nums) ++ [41]) := by show _ = _; unfold layR; rw [if_neg (by omega), if_neg (by omega), if_neg (by omega), if_neg (by omega), if_pos (by omega)]
  have hfs : fieldsM m.kind = lstFs := by rw [hk]; rfl
  rw [hfs] at ht
  have kn : m.nums.length ≤ 512 := (ht fNums (by simp [lstFs])).1
  have KN := hid (fun (W : World) (v : Value) (h : IntsAt W v m.nums) => rnints_any numOk h hr.ns (by omega))
  have lN : (intsB m.nums).length ≤ 20000 := by have := intsB_len m.nums hr.ns; omega
  have HN0 := hid (hn.kept HB0.out)
  clear hfs
  obtain ⟨LR, hLR⟩ : ∃ LR, LR = layR m := ⟨_, rfl⟩
  rw [← hLR] at HRV ⊢
  clear hLR
  generalize headB m = HD at *
  have HRow : Hid (∀ W, Below (w.alloc (.cells (msgC m vP vN).toArray 33)).heap.size (w.alloc (.cells (msgC m vP vN).toArray 33)) W → W.heap[w.heap.size]? = some (.cells (msgC m vP vN).toArray 33)) := fun W hb => row_kept R0.out hb
  have HW := hid hw
  clear R0 hw hr ht hm hc0 hn
  rw [hk] at ck KH
  have HKm := hid hk
  clear hk
  obtain ⟨V, hV⟩ : ∃ V, V = msgC m vP vN := ⟨_, rfl⟩
  have HV := hid hV
  rw [← hV] at HB0 ck cc HRow HN0 ⊢
  clear hV
  obtain ⟨c, hc⟩ : ∃ c, c = m.client := ⟨_, rfl⟩
  rw [← hc] at cc KH
  clear hc
  go_enter Tryz.func13, Tryz.ntmps13
  go_upto_region 1 with fail
  generalize w.alloc (.cells V.toArray 33) = W0 at *
  generalize hg0 : w.heap.size = g0 at *
  have HG0 := hid hg0
  clear hg0
  have HB1 := hid (below_a1 W0 (.cells ([(5 : Int), c].map nu).toArray 3))
  go_wp2_with fail
  refine (KH.out _).mono ?_
  rintro e W1 ⟨rfl, hb⟩
  have HB2 := hid (below_two HB1.out hb)
  clear hb
  have R1 := hid (HRow.out _ HB2.out)
  rw [HV.out] at R1
  have HBw : Hid (Below w.heap.size w W1) := by
    have h1 := HB0.out
    have h2 := HB2.out
    rw [← HG0.out] at *
    exact below_two h1 h2
  clear HRow HB0 HB1 KH ck cc HV
  have c1 := mrow_nums R1.out HW.out
  have HN1 := hid (HN0.out.kept HB2.out)
  have KN1 := hid (KN.out _ _ HN1.out)
  have ck := mrow_kind R1.out HW.out
  rw [HKm.out] at ck
  have s1 := str_app HD [40]
  have s2 := str_app (HD ++ [40]) (intsB m.nums)
  have s3 := str_app ((HD ++ [40]) ++ intsB m.nums) [41]
  generalize intsB m.nums = NS at *
  clear HW R1
  have z1 : (⟨HD.toArray⟩ : ByteArray).size = HD.length := rfl
  have z2 : (⟨NS.toArray⟩ : ByteArray).size = NS.length := rfl
  have z3 : (⟨(HD ++ [40]).toArray⟩ : ByteArray).size = HD.length + 1 := by show (HD ++ [40]).length = _; simp
  have z4 : (⟨(HD ++ [40] ++ NS).toArray⟩ : ByteArray).size = HD.length + 1 + NS.length := by show (HD ++ [40] ++ NS).length = _; simp; omega
  go_wp2_with fail
  refine KN1.out.mono ?_
  rintro e W2 ⟨rfl, hb⟩
  have BB := hid (below_two HBw.out hb)
  clear hb
  go_wp2
  go_ret
  exact ⟨by rw [HRV.out]; first | rfl | simp [str_app], BB.out⟩
set_option maxHeartbeats 8000000 in
theorem rlay_7 (_hY : BytOk) {w : World} {m : Msg} {vP vN : Value} (hw : m.Wf) (hr : m.Rng) (hm : mayB m = true) (hn : IntsAt w vN m.nums) (hk : m.kind = 7) :
    Calls Tryz.prog 13 #[.agg (msgC m vP vN).toArray] w fun e w' => e = .returned (st (layR m)) ∧ Below w.heap.size w w' := by
  obtain ⟨-, hf⟩ := may_fits hw hm
  have ht : ∀ f ∈ fieldsM m.kind, okVal (f.get m) := fun f hx => (hf f hx).2
  clear hf
  have HB0 := hid (below_a1 w (.cells (msgC m vP vN).toArray 33))
  have R0 := hid (top_obj w (.cells (msgC m vP vN).toArray 33))
  have ck := mrow_kind R0.out hw
  have cc := mrow_client R0.out hw
  have hc0 : I64 m.client := hr.client
  have KH := hid (fun W => rnints_any numOk (ints_of W [m.kind, m.client] 2 rfl) (by intro n hn; simp at hn; rcases hn with rfl | rfl; exact hr.kind; exact hr.client) (by simp))
  have hH : intsB [m.kind, m.client] = headB m := rfl
  rw [hH] at KH
  clear hH
  have hHl : (headB m).length ≤ 100 := by
    have a1 := numB_len m.kind hr.kind
    have a2 := numB_len m.client hr.client
    simp only [headB, intsB, List.map_cons, List.map_nil, List.flatten_cons, List.flatten_nil, List.append_nil, List.length_append]
    omega
  have HRV : Hid (layR m = ((headB m ++ [40]) ++ intsB m.nums) ++ [41]) := by show _ = _; unfold layR; rw [if_neg (by omega), if_neg (by omega), if_neg (by omega), if_neg (by omega), if_pos (by omega)]
  have hfs : fieldsM m.kind = lstFs := by rw [hk]; rfl
  rw [hfs] at ht
  have kn : m.nums.length ≤ 512 := (ht fNums (by simp [lstFs])).1
  have KN := hid (fun (W : World) (v : Value) (h : IntsAt W v m.nums) => rnints_any numOk h hr.ns (by omega))
  have lN : (intsB m.nums).length ≤ 20000 := by have := intsB_len m.nums hr.ns; omega
  have HN0 := hid (hn.kept HB0.out)
  clear hfs
  obtain ⟨LR, hLR⟩ : ∃ LR, LR = layR m := ⟨_, rfl⟩
  rw [← hLR] at HRV ⊢
  clear hLR
  generalize headB m = HD at *
  have HRow : Hid (∀ W, Below (w.alloc (.cells (msgC m vP vN).toArray 33)).heap.size (w.alloc (.cells (msgC m vP vN).toArray 33)) W → W.heap[w.heap.size]? = some (.cells (msgC m vP vN).toArray 33)) := fun W hb => row_kept R0.out hb
  have HW := hid hw
  clear R0 hw hr ht hm hc0 hn
  rw [hk] at ck KH
  have HKm := hid hk
  clear hk
  obtain ⟨V, hV⟩ : ∃ V, V = msgC m vP vN := ⟨_, rfl⟩
  have HV := hid hV
  rw [← hV] at HB0 ck cc HRow HN0 ⊢
  clear hV
  obtain ⟨c, hc⟩ : ∃ c, c = m.client := ⟨_, rfl⟩
  rw [← hc] at cc KH
  clear hc
  go_enter Tryz.func13, Tryz.ntmps13
  go_upto_region 1 with fail
  generalize w.alloc (.cells V.toArray 33) = W0 at *
  generalize hg0 : w.heap.size = g0 at *
  have HG0 := hid hg0
  clear hg0
  have HB1 := hid (below_a1 W0 (.cells ([(7 : Int), c].map nu).toArray 3))
  go_wp2_with fail
  refine (KH.out _).mono ?_
  rintro e W1 ⟨rfl, hb⟩
  have HB2 := hid (below_two HB1.out hb)
  clear hb
  have R1 := hid (HRow.out _ HB2.out)
  rw [HV.out] at R1
  have HBw : Hid (Below w.heap.size w W1) := by
    have h1 := HB0.out
    have h2 := HB2.out
    rw [← HG0.out] at *
    exact below_two h1 h2
  clear HRow HB0 HB1 KH ck cc HV
  have c1 := mrow_nums R1.out HW.out
  have HN1 := hid (HN0.out.kept HB2.out)
  have KN1 := hid (KN.out _ _ HN1.out)
  have ck := mrow_kind R1.out HW.out
  rw [HKm.out] at ck
  have s1 := str_app HD [40]
  have s2 := str_app (HD ++ [40]) (intsB m.nums)
  have s3 := str_app ((HD ++ [40]) ++ intsB m.nums) [41]
  generalize intsB m.nums = NS at *
  clear HW R1
  have z1 : (⟨HD.toArray⟩ : ByteArray).size = HD.length := rfl
  have z2 : (⟨NS.toArray⟩ : ByteArray).size = NS.length := rfl
  have z3 : (⟨(HD ++ [40]).toArray⟩ : ByteArray).size = HD.length + 1 := by show (HD ++ [40]).length = _; simp
  have z4 : (⟨(HD ++ [40] ++ NS).toArray⟩ : ByteArray).size = HD.length + 1 + NS.length := by show (HD ++ [40] ++ NS).length = _; simp; omega
  go_wp2_with fail
  refine KN1.out.mono ?_
  rintro e W2 ⟨rfl, hb⟩
  have BB := hid (below_two HBw.out hb)
  clear hb
  go_wp2
  go_ret
  exact ⟨by rw [HRV.out]; first | rfl | simp [str_app], BB.out⟩
set_option maxHeartbeats 8000000 in
theorem rlay_8 (_hY : BytOk) {w : World} {m : Msg} {vP vN : Value} (hw : m.Wf) (hr : m.Rng) (hm : mayB m = true) (hn : IntsAt w vN m.nums) (hk : m.kind = 8) :
    Calls Tryz.prog 13 #[.agg (msgC m vP vN).toArray] w fun e w' => e = .returned (st (layR m)) ∧ Below w.heap.size w w' := by
  obtain ⟨-, hf⟩ := may_fits hw hm
  have ht : ∀ f ∈ fieldsM m.kind, okVal (f.get m) := fun f hx => (hf f hx).2
  clear hf
  have HB0 := hid (below_a1 w (.cells (msgC m vP vN).toArray 33))
  have R0 := hid (top_obj w (.cells (msgC m vP vN).toArray 33))
  have ck := mrow_kind R0.out hw
  have cc := mrow_client R0.out hw
  have hc0 : I64 m.client := hr.client
  have KH := hid (fun W => rnints_any numOk (ints_of W [m.kind, m.client] 2 rfl) (by intro n hn; simp at hn; rcases hn with rfl | rfl; exact hr.kind; exact hr.client) (by simp))
  have hH : intsB [m.kind, m.client] = headB m := rfl
  rw [hH] at KH
  clear hH
  have hHl : (headB m).length ≤ 100 := by
    have a1 := numB_len m.kind hr.kind
    have a2 := numB_len m.client hr.client
    simp only [headB, intsB, List.map_cons, List.map_nil, List.flatten_cons, List.flatten_nil, List.append_nil, List.length_append]
    omega
  have HRV : Hid (layR m = ((headB m ++ [40]) ++ intsB m.nums) ++ [41]) := by show _ = _; unfold layR; rw [if_neg (by omega), if_neg (by omega), if_neg (by omega), if_neg (by omega), if_pos (by omega)]
  have hfs : fieldsM m.kind = lstFs := by rw [hk]; rfl
  rw [hfs] at ht
  have kn : m.nums.length ≤ 512 := (ht fNums (by simp [lstFs])).1
  have KN := hid (fun (W : World) (v : Value) (h : IntsAt W v m.nums) => rnints_any numOk h hr.ns (by omega))
  have lN : (intsB m.nums).length ≤ 20000 := by have := intsB_len m.nums hr.ns; omega
  have HN0 := hid (hn.kept HB0.out)
  clear hfs
  obtain ⟨LR, hLR⟩ : ∃ LR, LR = layR m := ⟨_, rfl⟩
  rw [← hLR] at HRV ⊢
  clear hLR
  generalize headB m = HD at *
  have HRow : Hid (∀ W, Below (w.alloc (.cells (msgC m vP vN).toArray 33)).heap.size (w.alloc (.cells (msgC m vP vN).toArray 33)) W → W.heap[w.heap.size]? = some (.cells (msgC m vP vN).toArray 33)) := fun W hb => row_kept R0.out hb
  have HW := hid hw
  clear R0 hw hr ht hm hc0 hn
  rw [hk] at ck KH
  have HKm := hid hk
  clear hk
  obtain ⟨V, hV⟩ : ∃ V, V = msgC m vP vN := ⟨_, rfl⟩
  have HV := hid hV
  rw [← hV] at HB0 ck cc HRow HN0 ⊢
  clear hV
  obtain ⟨c, hc⟩ : ∃ c, c = m.client := ⟨_, rfl⟩
  rw [← hc] at cc KH
  clear hc
  go_enter Tryz.func13, Tryz.ntmps13
  go_upto_region 1 with fail
  generalize w.alloc (.cells V.toArray 33) = W0 at *
  generalize hg0 : w.heap.size = g0 at *
  have HG0 := hid hg0
  clear hg0
  have HB1 := hid (below_a1 W0 (.cells ([(8 : Int), c].map nu).toArray 3))
  go_wp2_with fail
  refine (KH.out _).mono ?_
  rintro e W1 ⟨rfl, hb⟩
  have HB2 := hid (below_two HB1.out hb)
  clear hb
  have R1 := hid (HRow.out _ HB2.out)
  rw [HV.out] at R1
  have HBw : Hid (Below w.heap.size w W1) := by
    have h1 := HB0.out
    have h2 := HB2.out
    rw [← HG0.out] at *
    exact below_two h1 h2
  clear HRow HB0 HB1 KH ck cc HV
  have c1 := mrow_nums R1.out HW.out
  have HN1 := hid (HN0.out.kept HB2.out)
  have KN1 := hid (KN.out _ _ HN1.out)
  have ck := mrow_kind R1.out HW.out
  rw [HKm.out] at ck
  have s1 := str_app HD [40]
  have s2 := str_app (HD ++ [40]) (intsB m.nums)
  have s3 := str_app ((HD ++ [40]) ++ intsB m.nums) [41]
  generalize intsB m.nums = NS at *
  clear HW R1
  have z1 : (⟨HD.toArray⟩ : ByteArray).size = HD.length := rfl
  have z2 : (⟨NS.toArray⟩ : ByteArray).size = NS.length := rfl
  have z3 : (⟨(HD ++ [40]).toArray⟩ : ByteArray).size = HD.length + 1 := by show (HD ++ [40]).length = _; simp
  have z4 : (⟨(HD ++ [40] ++ NS).toArray⟩ : ByteArray).size = HD.length + 1 + NS.length := by show (HD ++ [40] ++ NS).length = _; simp; omega
  go_wp2_with fail
  refine KN1.out.mono ?_
  rintro e W2 ⟨rfl, hb⟩
  have BB := hid (below_two HBw.out hb)
  clear hb
  go_wp2
  go_ret
  exact ⟨by rw [HRV.out]; first | rfl | simp [str_app], BB.out⟩
set_option maxHeartbeats 8000000 in
theorem rlay_2 (_hY : BytOk) (hA : AnsOk) {w : World} {m : Msg} {vP vN : Value} (hw : m.Wf) (hr : m.Rng) (hm : mayB m = true) (hp : PensAt w vP m.rep.pend) (hk : m.kind = 2) :
    Calls Tryz.prog 13 #[.agg (msgC m vP vN).toArray] w fun e w' => e = .returned (st (layR m)) ∧ Below w.heap.size w w' := by
  obtain ⟨-, hf⟩ := may_fits hw hm
  have ht : ∀ f ∈ fieldsM m.kind, okVal (f.get m) := fun f hx => (hf f hx).2
  clear hf
  have HB0 := hid (below_a1 w (.cells (msgC m vP vN).toArray 33))
  have R0 := hid (top_obj w (.cells (msgC m vP vN).toArray 33))
  have ck := mrow_kind R0.out hw
  have cc := mrow_client R0.out hw
  have hc0 : I64 m.client := hr.client
  have KH := hid (fun W => rnints_any numOk (ints_of W [m.kind, m.client] 2 rfl) (by intro n hn; simp at hn; rcases hn with rfl | rfl; exact hr.kind; exact hr.client) (by simp))
  have hH : intsB [m.kind, m.client] = headB m := rfl
  rw [hH] at KH
  clear hH
  have hHl : (headB m).length ≤ 100 := by
    have a1 := numB_len m.kind hr.kind
    have a2 := numB_len m.client hr.client
    simp only [headB, intsB, List.map_cons, List.map_nil, List.flatten_cons, List.flatten_nil, List.append_nil, List.length_append]
    omega
  have HRV : Hid (layR m = [50, 59] ++ ansT m.rep) := by show _ = _; unfold layR; rw [if_neg (by omega), if_pos hk]
  have hfs : fieldsM m.kind = repFs := by rw [hk]; rfl
  rw [hfs] at ht
  have o1 := (ht fRPend (by simp [repFs]))
  have p1 : m.rep.pend.length ≤ 8 := o1.1
  have p2 : ∀ p ∈ m.rep.pend, penOk p := o1.2
  have q1 : m.rep.view.length ≤ 16384 := ht fRView (by simp [repFs])
  have q2 : m.rep.value.length ≤ 16384 := ht fRValue (by simp [repFs])
  have q3 : m.rep.seen.length ≤ 16384 := ht fRSeen (by simp [repFs])
  have KA : Hid (∀ W v, PensAt W v m.rep.pend → Calls Tryz.prog 56 #[.agg (repC m.rep v).toArray] W fun e w' => e = .returned (st (ansT m.rep)) ∧ Below W.heap.size W w') := fun W v h => hA m.rep hw.rep p2 p1 hr.rn hr.rl hr.rv q1 q2 q3 W v h
  have lA := ansT_len hw.rep p2 p1 hr.rn hr.rl hr.rv q1 q2 q3
  have HP0 := hid (hp.kept HB0.out)
  clear hfs o1 p1 p2 q1 q2 q3 hA
  obtain ⟨LR, hLR⟩ : ∃ LR, LR = layR m := ⟨_, rfl⟩
  rw [← hLR] at HRV ⊢
  clear hLR
  generalize headB m = HD at *
  have HRow : Hid (∀ W, Below (w.alloc (.cells (msgC m vP vN).toArray 33)).heap.size (w.alloc (.cells (msgC m vP vN).toArray 33)) W → W.heap[w.heap.size]? = some (.cells (msgC m vP vN).toArray 33)) := fun W hb => row_kept R0.out hb
  have HW := hid hw
  clear R0 hw hr ht hm hc0 hp
  rw [hk] at ck KH
  have HKm := hid hk
  clear hk
  obtain ⟨V, hV⟩ : ∃ V, V = msgC m vP vN := ⟨_, rfl⟩
  have HV := hid hV
  rw [← hV] at HB0 ck cc HRow HP0 ⊢
  clear hV
  obtain ⟨c, hc⟩ : ∃ c, c = m.client := ⟨_, rfl⟩
  rw [← hc] at cc KH
  clear hc
  go_enter Tryz.func13, Tryz.ntmps13
  go_upto_region 1 with fail
  generalize w.alloc (.cells V.toArray 33) = W0 at *
  generalize hg0 : w.heap.size = g0 at *
  have HG0 := hid hg0
  clear hg0
  have HB1 := hid (below_a1 W0 (.cells ([(2 : Int), c].map nu).toArray 3))
  go_wp2_with fail
  refine (KH.out _).mono ?_
  rintro e W1 ⟨rfl, hb⟩
  have HB2 := hid (below_two HB1.out hb)
  clear hb
  have R1 := hid (HRow.out _ HB2.out)
  rw [HV.out] at R1
  have HBw : Hid (Below w.heap.size w W1) := by
    have h1 := HB0.out
    have h2 := HB2.out
    rw [← HG0.out] at *
    exact below_two h1 h2
  clear HRow HB0 HB1 KH ck cc HV
  have SR := hid (mrow_rep R1.out HW.out)
  have ZR : (Tryz.prog.info? 28).map (·.size) = some (repC m.rep vP).length := by rw [repC_len HW.out.rep]; exact sizeRep
  have KA1 := hid (KA.out _ _ (HP0.out.kept HB2.out))
  have ck := mrow_kind R1.out HW.out
  rw [HKm.out] at ck
  have s1 := str_app [50, 59] (ansT m.rep)
  generalize ansT m.rep = AT at *
  generalize repC m.rep vP = RC at *
  clear HW R1
  have z1 : (⟨AT.toArray⟩ : ByteArray).size = AT.length := rfl
  go_wp2_with (first | ((with_reducible refine wl_load 28 (.tmp 44) ?_ g0 70 ?_ ?_ RC _ SR.out Tryz.underlying28 ?_ ZR ?_); exact rfl; exact rfl; exact rfl; exact rfl))
  refine KA1.out.mono ?_
  rintro e W2 ⟨rfl, hb⟩
  have BB := hid (below_two HBw.out hb)
  clear hb
  go_wp2
  go_ret
  exact ⟨by rw [HRV.out]; first | rfl | simp [str_app], BB.out⟩
theorem rlay_any (hY : BytOk) (hA : AnsOk) {w : World} {m : Msg} {vP vN : Value} (hw : m.Wf) (hr : m.Rng) (hm : mayB m = true) (hp : PensAt w vP m.rep.pend) (hn : IntsAt w vN m.nums) :
    Calls Tryz.prog 13 #[.agg (msgC m vP vN).toArray] w fun e w' => e = .returned (st (putM m)) ∧ Below w.heap.size w w' := by
  rw [← lay_put hw hm]
  obtain ⟨hk, -⟩ := may_fits hw hm
  by_cases e1 : m.kind = 1
  · exact rlay_1 hY hw hr hm e1
  by_cases e2 : m.kind = 2
  · exact rlay_2 hY hA hw hr hm hp e2
  by_cases e3 : m.kind = 3
  · exact rlay_3 hY hw hr hm e3
  by_cases e4 : m.kind = 4
  · exact rlay_4 hY hw hr hm e4
  by_cases e5 : m.kind = 5
  · exact rlay_5 hY hw hr hm hn e5
  by_cases e6 : m.kind = 6
  · exact rlay_6 hY hw hr hm e6
  by_cases e7 : m.kind = 7
  · exact rlay_7 hY hw hr hm hn e7
  by_cases e8 : m.kind = 8
  · exact rlay_8 hY hw hr hm hn e8
  by_cases e9 : m.kind = 9
  · exact rlay_9 hY hw hr hm e9
  by_cases e10 : m.kind = 10
  · exact rlay_10 hY hw hr hm e10
  exact rlay_11 hY hw hr hm (by omega)
end Go.Proofs.YtidlgecognedlaaGreatDoor.Ms

/-
  Which replies may be: what the reference answers (R10.reply), given what R09.Right answers.
-/
namespace Go.Proofs.YtidlgecognedlaaGreatDoor.Ms
open Go Go.RowKit
set_option maxRecDepth 100000

def RgtOk : Prop := ∀ (h : List UInt8) (n : Int) (w : World), Calls Tryz.prog 48 #[.string ⟨h.toArray⟩, .int .i64 n] w fun e w' => e = .returned (.bool (Hist.rightB h n)) ∧ w' = w
theorem repB_pend (r : Rep) (j : Nat) (hj : j < r.pend.length) (h : penB (r.pend.getD j noPen) = false) : repB r = false := by
  unfold repB
  have : r.pend.all penB = false := by
    rw [List.all_eq_false]
    refine ⟨r.pend.getD j noPen, ?_, by rw [h]; exact Bool.false_ne_true⟩
    simp [List.getD, hj]
  rw [this]; rfl
theorem repB_rest (r : Rep) (h : ∀ j, j < r.pend.length → penB (r.pend.getD j noPen) = true) : repB r = (viewOk r && chainB r) := by
  unfold repB
  have : r.pend.all penB = true := by
    rw [List.all_eq_true]
    intro p hp
    obtain ⟨j, hj, rfl⟩ := List.getElem_of_mem hp
    have := h j hj
    simpa [List.getD, hj] using this
  rw [this]; rfl
theorem zeroPen : (Tryz.prog.info? 113).map (·.zero) = some (some (.agg (penC ⟨0, 0, 0, 0, List.replicate 32 0, List.replicate 32 0⟩).toArray)) := by kernel_rfl

set_option maxHeartbeats 8000000 in
theorem rreply_any (hG : RgtOk) {w : World} {r : Rep} {vP : Value} (hr : r.Wf) (hp : PensAt w vP r.pend) (hmx : r.pend.length ≤ 9223372036854775807) :
    Calls Tryz.prog 47 #[.agg (repC r vP).toArray] w fun e w' => e = .returned (.bool (repB r)) ∧ Below w.heap.size w w' := by
  have HB0 := hid (below_a1 w (.cells (repC r vP).toArray 28))
  have R0 := hid (top_obj w (.cells (repC r vP).toArray 28))
  have HP := hid (hp.kept HB0.out)
  obtain ⟨pa, cap, hpa, -⟩ := hp
  subst hpa
  have HBad := hid (repB_pend r)
  have HRest := hid (repB_rest r)
  have HW := hid hr
  have HG := hid hG
  obtain ⟨L, hL⟩ : ∃ L, L = repC r (.slice pa r.pend.length cap) := ⟨_, rfl⟩
  rw [← hL] at HB0 R0 HP ⊢
  have HL := hid hL
  obtain ⟨ZP, hZ⟩ : ∃ ZP : List Value, penC ⟨0, 0, 0, 0, List.replicate 32 0, List.replicate 32 0⟩ = ZP := ⟨_, rfl⟩
  have hz := zeroPen
  have hzl : ZP.length = 68 := by rw [← hZ]; rfl
  rw [hZ] at hz
  have HZ := hid hz
  have HZL := hid hzl
  clear hL hr hz hZ hzl hG
  obtain ⟨RA, hRA⟩ : ∃ RA, RA = L.toArray := ⟨_, rfl⟩
  rw [← hRA] at HB0 R0 HP ⊢
  have HRA := hid hRA
  clear hRA
  go_enter Tryz.func47, Tryz.ntmps47
  go_upto_region 1 with fail
  generalize w.alloc (.cells RA 28) = W0 at *
  obtain ⟨g0, hg0⟩ : ∃ g0, g0 = w.heap.size := ⟨_, rfl⟩
  rw [← hg0] at R0 ⊢
  clear hg0
  have HRow : Hid (∀ W, Below W0.heap.size W0 W → W.heap[g0]? = some (.cells (repC r (.slice pa r.pend.length cap)).toArray 28)) := fun W hb => by
    have h := row_kept R0.out hb
    rw [HRA.out, HL.out] at h
    exact h
  have HW0 := hid (Below.refl W0.heap.size W0)
  clear R0
  go_wp2
  go_loopw [3] (fun i w' => ∃ j : Nat, j ≤ r.pend.length ∧ i = .int .i64 j ∧ Hid (∀ k, k < j → penB (r.pend.getD k noPen) = true) ∧ Hid (Below W0.heap.size W0 w')) (fun i _ => r.pend.length - (intOf i).toNat)
  case atStart => exact ⟨0, by omega, rfl, fun k hk => absurd hk (Nat.not_lt_zero k), HW0.out⟩
  case round =>
    obtain ⟨j, hj, rfl, HN, HB⟩ := hrel
    have q0 := HRow.out _ HB.out
    have cP := rrow_P q0 HW.out
    have HBw := hid (below_two HB0.out HB.out)
    by_cases hlt : j < r.pend.length
    · have d1 : decide ((j : Int) < (r.pend.length : Int)) = true := decide_eq_true (by omega)
      have d1' : decide (j < r.pend.length) = true := decide_eq_true hlt
      obtain ⟨a', c', e', hc⟩ := HP.out.kept HB.out
      cases e'
      obtain ⟨b, off, rfl, hcc⟩ := hc (fun e => by rw [e] at hlt; exact absurd hlt (Nat.not_lt_zero j))
      have wp := getD_wf HW.out.pend j hlt
      have S0 := hid (hcc j hlt)
      have Z0 : (Tryz.prog.info? 113).map (·.size) = some (penC (r.pend.getD j noPen)).length := by rw [penC_len wp]; exact sizePen
      have hone := hid (one_pen (r.pend.getD j noPen))
      have hlen : ZP.length = (penC (r.pend.getD j noPen)).length := by rw [penC_len wp]; exact HZL.out
      have HBt := hid (below_a1 wr (.cells (penC (r.pend.getD j noPen)).toArray 113))
      have t0 := top_obj wr (.cells (penC (r.pend.getD j noPen)).toArray 113)
      have c0 := prow_client t0 wp
      have c1 := prow_number t0 wp
      have c2 := prow_kind t0 wp
      have c3 := prow_target t0 wp
      have HC := hid (fun W => within_any (r.pend.getD j noPen).client 0 7 W)
      have ec : (decide (0 ≤ (r.pend.getD j noPen).client) && decide ((r.pend.getD j noPen).client ≤ 7)) = inB (r.pend.getD j noPen).client 0 7 := rfl
      rw [ec] at HC
      have HK := hid (fun W => asks_any (r.pend.getD j noPen).number (r.pend.getD j noPen).kind (r.pend.getD j noPen).target W)
      have hpb : penB (r.pend.getD j noPen) = (inB (r.pend.getD j noPen).client 0 7 && asksB (r.pend.getD j noPen).number (r.pend.getD j noPen).kind (r.pend.getD j noPen).target) := rfl
      have HF : Hid (penB (r.pend.getD j noPen) = false → repB r = false) := HBad.out j hlt
      have hon : Hid (penB (r.pend.getD j noPen) = true → ∀ k, k < j + 1 → penB (r.pend.getD k noPen) = true) := fun h k hk => by
        by_cases e : k = j
        · rw [e]; exact h
        · exact HN.out k (by omega)
      rw [hpb] at HF hon
      generalize inB (r.pend.getD j noPen).client 0 7 = b1 at *
      generalize asksB (r.pend.getD j noPen).number (r.pend.getD j noPen).kind (r.pend.getD j noPen).target = b2 at *
      generalize (r.pend.getD j noPen).client = x0 at *
      generalize (r.pend.getD j noPen).number = x1 at *
      generalize (r.pend.getD j noPen).kind = x2 at *
      generalize (r.pend.getD j noPen).target = x3 at *
      have HBn := hid (HB.out.trans (HBt.out.mono HB.out.size))
      have HBm := hid (below_two HBw.out HBt.out)
      generalize penC (r.pend.getD j noPen) = PA at *
      clear hc hcc wp t0 ec hpb HN HBad HRest HP q0 HG HL HRA HRow HW HB0 HW0
      cases b1 with
      | false => as_aux_lemma =>
        have HF' := hid (HF.out rfl)
        clear HF hon
        go_wp2_with (first | ((with_reducible refine wl_load 113 (.tmp 15) ?_ b (off + j * 68) ?_ ?_ PA _ S0.out Tryz.underlying113 ?_ Z0 ?_); exact rfl; exact rfl; exact rfl; exact rfl) | ((with_reducible refine wl_alloc 113 ?_ ?_ ZP.toArray HZ.out ?_); exact rfl; exact rfl) | ((with_reducible refine wl_store_top 113 (.tmp 4) (.tmp 16) ?_ ?_ ?_ ?_ PA ZP ?_ 113 hlen hone.out Z0 ?_); exact rfl; exact rfl; exact rfl; exact rfl; exact rfl))
        refine (HC.out _).mono ?_
        rintro e v ⟨rfl, hv⟩
        subst v
        go_wp2
        go_ret
        exact ⟨by rw [HF'.out]; rfl, HBm.out⟩
      | true =>
        cases b2 with
        | false => as_aux_lemma =>
          have HF' := hid (HF.out rfl)
          clear HF hon
          go_wp2_with (first | ((with_reducible refine wl_load 113 (.tmp 15) ?_ b (off + j * 68) ?_ ?_ PA _ S0.out Tryz.underlying113 ?_ Z0 ?_); exact rfl; exact rfl; exact rfl; exact rfl) | ((with_reducible refine wl_alloc 113 ?_ ?_ ZP.toArray HZ.out ?_); exact rfl; exact rfl) | ((with_reducible refine wl_store_top 113 (.tmp 4) (.tmp 16) ?_ ?_ ?_ ?_ PA ZP ?_ 113 hlen hone.out Z0 ?_); exact rfl; exact rfl; exact rfl; exact rfl; exact rfl))
          refine (HC.out _).mono ?_
          rintro e v ⟨rfl, hv⟩
          subst v
          go_wp2_with fail
          refine (HK.out _).mono ?_
          rintro e v ⟨rfl, hv⟩
          subst v
          go_wp2
          go_ret
          exact ⟨by rw [HF'.out]; rfl, HBm.out⟩
        | true => as_aux_lemma =>
          have HN' := hid (hon.out rfl)
          clear HF hon
          go_wp2_with (first | ((with_reducible refine wl_load 113 (.tmp 15) ?_ b (off + j * 68) ?_ ?_ PA _ S0.out Tryz.underlying113 ?_ Z0 ?_); exact rfl; exact rfl; exact rfl; exact rfl) | ((with_reducible refine wl_alloc 113 ?_ ?_ ZP.toArray HZ.out ?_); exact rfl; exact rfl) | ((with_reducible refine wl_store_top 113 (.tmp 4) (.tmp 16) ?_ ?_ ?_ ?_ PA ZP ?_ 113 hlen hone.out Z0 ?_); exact rfl; exact rfl; exact rfl; exact rfl; exact rfl))
          refine (HC.out _).mono ?_
          rintro e v ⟨rfl, hv⟩
          subst v
          go_wp2_with fail
          refine (HK.out _).mono ?_
          rintro e v ⟨rfl, hv⟩
          subst v
          go_wp2
          exact ⟨⟨j + 1, by omega, by go_num, HN'.out, HBn.out⟩, by simp [intOf]; omega⟩
    · have e : j = r.pend.length := by omega
      subst e
      have dk : decide ((r.pend.length : Int) < (r.pend.length : Int)) = false := decide_eq_false (by omega)
      have HR := hid (HRest.out HN.out)
      have c_number := rrow_number q0 HW.out
      have c_last := rrow_last q0 HW.out
      have c_view := rrow_view q0 HW.out
      have c_vnum := rrow_vnum q0 HW.out
      have c_value := rrow_value q0 HW.out
      have c_seen := rrow_seen q0 HW.out
      have K0 := hid (fun W => within_any r.number 1 512 W)
      have k0 : (decide (1 ≤ r.number) && decide (r.number ≤ 512)) = inB r.number 1 512 := rfl
      rw [k0] at K0
      have K1 := hid (fun W => within_any r.last (-1) 7 W)
      have k1 : (decide (-1 ≤ r.last) && decide (r.last ≤ 7)) = inB r.last (-1) 7 := rfl
      rw [k1] at K1
      have K2 := hid (fun W => HG.out r.view 8 W)
      have K3 := hid (fun W => HG.out r.seen 8 W)
      have K5 := hid (fun W => within_any r.vnum 0 512 W)
      have k5 : (decide (0 ≤ r.vnum) && decide (r.vnum ≤ 512)) = inB r.vnum 0 512 := rfl
      rw [k5] at K5
      have hvs : (⟨r.value.toArray⟩ : ByteArray).size = r.value.length := rfl
      clear k0 k1 k5 HN HBad HRest HP q0 HG HL HRA HRow HW HB0 HW0 HZ HZL hlt HB
      by_cases hv : r.view = []
      · by_cases hl : r.last = -1
        · have dn : (r.last != -1) = false := by simpa using hl
          have dq : (r.last == -1) = true := by simpa using hl
          have hie : r.view.isEmpty = true := by simp [hv]
          have hvo : viewOk r = true := by unfold viewOk; simp [hv, hl]
          replace K2 : Hid (∀ W, Calls Tryz.prog 48 #[.string ⟨([] : List UInt8).toArray⟩, .int .i64 8] W fun e w' => e = .returned (.bool (Hist.rightB r.view 8)) ∧ w' = W) := fun W => by have h := K2.out W; rw [hv] at h ⊢; exact h
          clear hl
          cases h0 : inB r.number 1 512 with
          | false => as_aux_lemma =>
            have HF : Hid (repB r = false) := by show _ = _; rw [HR.out, hvo]; unfold chainB; rw [h0]; simp
            rw [h0] at K0
            clear HR hvo h0
            go_wp2_with fail
            refine (K0.out _).mono ?_
            rintro e v ⟨rfl, hv⟩
            subst v
            go_wp2
            go_ret
            exact ⟨by rw [HF.out]; rfl, HBw.out⟩
          | true =>
            cases h1 : inB r.last (-1) 7 with
            | false => as_aux_lemma =>
              have HF : Hid (repB r = false) := by show _ = _; rw [HR.out, hvo]; unfold chainB; rw [h0, h1]; simp
              rw [h0] at K0
              rw [h1] at K1
              clear HR hvo h0 h1
              go_wp2_with fail
              refine (K0.out _).mono ?_
              rintro e v ⟨rfl, hv⟩
              subst v
              go_wp2_with fail
              refine (K1.out _).mono ?_
              rintro e v ⟨rfl, hv⟩
              subst v
              go_wp2
              go_ret
              exact ⟨by rw [HF.out]; rfl, HBw.out⟩
            | true =>
              cases h2 : Hist.rightB r.view 8 with
              | false => as_aux_lemma =>
                have HF : Hid (repB r = false) := by show _ = _; rw [HR.out, hvo]; unfold chainB; rw [h0, h1, h2]; simp
                rw [h0] at K0
                rw [h1] at K1
                rw [h2] at K2
                clear HR hvo h0 h1 h2
                go_wp2_with fail
                refine (K0.out _).mono ?_
                rintro e v ⟨rfl, hv⟩
                subst v
                go_wp2_with fail
                refine (K1.out _).mono ?_
                rintro e v ⟨rfl, hv⟩
                subst v
                go_wp2_with fail
                refine (K2.out _).mono ?_
                rintro e v ⟨rfl, hv⟩
                subst v
                go_wp2
                go_ret
                exact ⟨by rw [HF.out]; rfl, HBw.out⟩
              | true =>
                cases h3 : Hist.rightB r.seen 8 with
                | false => as_aux_lemma =>
                  have HF : Hid (repB r = false) := by show _ = _; rw [HR.out, hvo]; unfold chainB; rw [h0, h1, h2, h3]; simp
                  rw [h0] at K0
                  rw [h1] at K1
                  rw [h2] at K2
                  rw [h3] at K3
                  clear HR hvo h0 h1 h2 h3
                  go_wp2_with fail
                  refine (K0.out _).mono ?_
                  rintro e v ⟨rfl, hv⟩
                  subst v
                  go_wp2_with fail
                  refine (K1.out _).mono ?_
                  rintro e v ⟨rfl, hv⟩
                  subst v
                  go_wp2_with fail
                  refine (K2.out _).mono ?_
                  rintro e v ⟨rfl, hv⟩
                  subst v
                  go_wp2_with fail
                  refine (K3.out _).mono ?_
                  rintro e v ⟨rfl, hv⟩
                  subst v
                  go_wp2
                  go_ret
                  exact ⟨by rw [HF.out]; rfl, HBw.out⟩
                | true =>
                  cases h4 : decide (r.pend.length ≤ 8) with
                  | false => as_aux_lemma =>
                    have HF : Hid (repB r = false) := by show _ = _; rw [HR.out, hvo]; unfold chainB; rw [h0, h1, h2, h3, h4]; simp
                    rw [h0] at K0
                    rw [h1] at K1
                    rw [h2] at K2
                    rw [h3] at K3
                    have e4 : decide ((r.pend.length : Int) ≤ 8) = false := by rw [← h4]; exact decide_eq_decide.2 (by omega)
                    clear HR hvo h0 h1 h2 h3
                    go_wp2_with fail
                    refine (K0.out _).mono ?_
                    rintro e v ⟨rfl, hv⟩
                    subst v
                    go_wp2_with fail
                    refine (K1.out _).mono ?_
                    rintro e v ⟨rfl, hv⟩
                    subst v
                    go_wp2_with fail
                    refine (K2.out _).mono ?_
                    rintro e v ⟨rfl, hv⟩
                    subst v
                    go_wp2_with fail
                    refine (K3.out _).mono ?_
                    rintro e v ⟨rfl, hv⟩
                    subst v
                    go_wp2
                    go_ret
                    exact ⟨by rw [HF.out]; rfl, HBw.out⟩
                  | true =>
                    cases h5 : inB r.vnum 0 512 with
                    | false => as_aux_lemma =>
                      have HF : Hid (repB r = false) := by show _ = _; rw [HR.out, hvo]; unfold chainB; rw [h0, h1, h2, h3, h4, h5]; simp
                      rw [h0] at K0
                      rw [h1] at K1
                      rw [h2] at K2
                      rw [h3] at K3
                      have e4 : decide ((r.pend.length : Int) ≤ 8) = true := by rw [← h4]; exact decide_eq_decide.2 (by omega)
                      rw [h5] at K5
                      clear HR hvo h0 h1 h2 h3 h5
                      go_wp2_with fail
                      refine (K0.out _).mono ?_
                      rintro e v ⟨rfl, hv⟩
                      subst v
                      go_wp2_with fail
                      refine (K1.out _).mono ?_
                      rintro e v ⟨rfl, hv⟩
                      subst v
                      go_wp2_with fail
                      refine (K2.out _).mono ?_
                      rintro e v ⟨rfl, hv⟩
                      subst v
                      go_wp2_with fail
                      refine (K3.out _).mono ?_
                      rintro e v ⟨rfl, hv⟩
                      subst v
                      go_wp2_with fail
                      refine (K5.out _).mono ?_
                      rintro e v ⟨rfl, hv⟩
                      subst v
                      go_wp2
                      go_ret
                      exact ⟨by rw [HF.out]; rfl, HBw.out⟩
                    | true =>
                      cases h6 : decide (r.value.length ≤ 256) with
                      | false => as_aux_lemma =>
                        have HF : Hid (repB r = false) := by show _ = _; rw [HR.out, hvo]; unfold chainB; rw [h0, h1, h2, h3, h4, h5, h6]; simp
                        rw [h0] at K0
                        rw [h1] at K1
                        rw [h2] at K2
                        rw [h3] at K3
                        have e4 : decide ((r.pend.length : Int) ≤ 8) = true := by rw [← h4]; exact decide_eq_decide.2 (by omega)
                        rw [h5] at K5
                        have e6 : decide ((r.value.length : Int) ≤ 256) = false := by rw [← h6]; exact decide_eq_decide.2 (by omega)
                        clear HR hvo h0 h1 h2 h3 h5
                        go_wp2_with fail
                        refine (K0.out _).mono ?_
                        rintro e v ⟨rfl, hv⟩
                        subst v
                        go_wp2_with fail
                        refine (K1.out _).mono ?_
                        rintro e v ⟨rfl, hv⟩
                        subst v
                        go_wp2_with fail
                        refine (K2.out _).mono ?_
                        rintro e v ⟨rfl, hv⟩
                        subst v
                        go_wp2_with fail
                        refine (K3.out _).mono ?_
                        rintro e v ⟨rfl, hv⟩
                        subst v
                        go_wp2_with fail
                        refine (K5.out _).mono ?_
                        rintro e v ⟨rfl, hv⟩
                        subst v
                        go_wp2
                        go_ret
                        exact ⟨by rw [HF.out]; rfl, HBw.out⟩
                      | true =>
                        as_aux_lemma =>
                        have HF : Hid (repB r = true) := by show _ = _; rw [HR.out, hvo]; unfold chainB; rw [h0, h1, h2, h3, h4, h5, h6]; rfl
                        rw [h0] at K0
                        rw [h1] at K1
                        rw [h2] at K2
                        rw [h3] at K3
                        have e4 : decide ((r.pend.length : Int) ≤ 8) = true := by rw [← h4]; exact decide_eq_decide.2 (by omega)
                        rw [h5] at K5
                        have e6 : decide ((r.value.length : Int) ≤ 256) = true := by rw [← h6]; exact decide_eq_decide.2 (by omega)
                        clear HR hvo h0 h1 h2 h3 h5
                        go_wp2_with fail
                        refine (K0.out _).mono ?_
                        rintro e v ⟨rfl, hv⟩
                        subst v
                        go_wp2_with fail
                        refine (K1.out _).mono ?_
                        rintro e v ⟨rfl, hv⟩
                        subst v
                        go_wp2_with fail
                        refine (K2.out _).mono ?_
                        rintro e v ⟨rfl, hv⟩
                        subst v
                        go_wp2_with fail
                        refine (K3.out _).mono ?_
                        rintro e v ⟨rfl, hv⟩
                        subst v
                        go_wp2_with fail
                        refine (K5.out _).mono ?_
                        rintro e v ⟨rfl, hv⟩
                        subst v
                        go_wp2
                        go_ret
                        exact ⟨by rw [HF.out]; rfl, HBw.out⟩
        · have dn : (r.last != -1) = true := by simpa using hl
          have dq : (r.last == -1) = false := by simpa using hl
          have hie : r.view.isEmpty = true := by simp [hv]
          have hvo : viewOk r = false := by unfold viewOk; simp [hv, hl]
          replace K2 : Hid (∀ W, Calls Tryz.prog 48 #[.string ⟨([] : List UInt8).toArray⟩, .int .i64 8] W fun e w' => e = .returned (.bool (Hist.rightB r.view 8)) ∧ w' = W) := fun W => by have h := K2.out W; rw [hv] at h ⊢; exact h
          clear hl
          as_aux_lemma =>
          have HF : Hid (repB r = false) := by show _ = _; rw [HR.out, hvo]; rfl
          clear HR hvo
          go_wp2
          go_ret
          exact ⟨by rw [HF.out]; rfl, HBw.out⟩
      · by_cases hl : r.last = -1
        · have dn : (r.last != -1) = false := by simpa using hl
          have dq : (r.last == -1) = true := by simpa using hl
          have hie : r.view.isEmpty = false := by simp [hv]
          have hvo : viewOk r = false := by unfold viewOk; simp [hv, hl]
          clear hl
          as_aux_lemma =>
          have HF : Hid (repB r = false) := by show _ = _; rw [HR.out, hvo]; rfl
          clear HR hvo
          go_wp2
          go_ret
          exact ⟨by rw [HF.out]; rfl, HBw.out⟩
        · have dn : (r.last != -1) = true := by simpa using hl
          have dq : (r.last == -1) = false := by simpa using hl
          have hie : r.view.isEmpty = false := by simp [hv]
          have hvo : viewOk r = true := by unfold viewOk; simp [hv, hl]
          clear hl
          cases h0 : inB r.number 1 512 with
          | false => as_aux_lemma =>
            have HF : Hid (repB r = false) := by show _ = _; rw [HR.out, hvo]; unfold chainB; rw [h0]; simp
            rw [h0] at K0
            clear HR hvo h0
            go_wp2_with fail
            refine (K0.out _).mono ?_
            rintro e v ⟨rfl, hv⟩
            subst v
            go_wp2
            go_ret
            exact ⟨by rw [HF.out]; rfl, HBw.out⟩
          | true =>
            cases h1 : inB r.last (-1) 7 with
            | false => as_aux_lemma =>
              have HF : Hid (repB r = false) := by show _ = _; rw [HR.out, hvo]; unfold chainB; rw [h0, h1]; simp
              rw [h0] at K0
              rw [h1] at K1
              clear HR hvo h0 h1
              go_wp2_with fail
              refine (K0.out _).mono ?_
              rintro e v ⟨rfl, hv⟩
              subst v
              go_wp2_with fail
              refine (K1.out _).mono ?_
              rintro e v ⟨rfl, hv⟩
              subst v
              go_wp2
              go_ret
              exact ⟨by rw [HF.out]; rfl, HBw.out⟩
            | true =>
              cases h2 : Hist.rightB r.view 8 with
              | false => as_aux_lemma =>
                have HF : Hid (repB r = false) := by show _ = _; rw [HR.out, hvo]; unfold chainB; rw [h0, h1, h2]; simp
                rw [h0] at K0
                rw [h1] at K1
                rw [h2] at K2
                clear HR hvo h0 h1 h2
                go_wp2_with fail
                refine (K0.out _).mono ?_
                rintro e v ⟨rfl, hv⟩
                subst v
                go_wp2_with fail
                refine (K1.out _).mono ?_
                rintro e v ⟨rfl, hv⟩
                subst v
                go_wp2_with fail
                refine (K2.out _).mono ?_
                rintro e v ⟨rfl, hv⟩
                subst v
                go_wp2
                go_ret
                exact ⟨by rw [HF.out]; rfl, HBw.out⟩
              | true =>
                cases h3 : Hist.rightB r.seen 8 with
                | false => as_aux_lemma =>
                  have HF : Hid (repB r = false) := by show _ = _; rw [HR.out, hvo]; unfold chainB; rw [h0, h1, h2, h3]; simp
                  rw [h0] at K0
                  rw [h1] at K1
                  rw [h2] at K2
                  rw [h3] at K3
                  clear HR hvo h0 h1 h2 h3
                  go_wp2_with fail
                  refine (K0.out _).mono ?_
                  rintro e v ⟨rfl, hv⟩
                  subst v
                  go_wp2_with fail
                  refine (K1.out _).mono ?_
                  rintro e v ⟨rfl, hv⟩
                  subst v
                  go_wp2_with fail
                  refine (K2.out _).mono ?_
                  rintro e v ⟨rfl, hv⟩
                  subst v
                  go_wp2_with fail
                  refine (K3.out _).mono ?_
                  rintro e v ⟨rfl, hv⟩
                  subst v
                  go_wp2
                  go_ret
                  exact ⟨by rw [HF.out]; rfl, HBw.out⟩
                | true =>
                  cases h4 : decide (r.pend.length ≤ 8) with
                  | false => as_aux_lemma =>
                    have HF : Hid (repB r = false) := by show _ = _; rw [HR.out, hvo]; unfold chainB; rw [h0, h1, h2, h3, h4]; simp
                    rw [h0] at K0
                    rw [h1] at K1
                    rw [h2] at K2
                    rw [h3] at K3
                    have e4 : decide ((r.pend.length : Int) ≤ 8) = false := by rw [← h4]; exact decide_eq_decide.2 (by omega)
                    clear HR hvo h0 h1 h2 h3
                    go_wp2_with fail
                    refine (K0.out _).mono ?_
                    rintro e v ⟨rfl, hv⟩
                    subst v
                    go_wp2_with fail
                    refine (K1.out _).mono ?_
                    rintro e v ⟨rfl, hv⟩
                    subst v
                    go_wp2_with fail
                    refine (K2.out _).mono ?_
                    rintro e v ⟨rfl, hv⟩
                    subst v
                    go_wp2_with fail
                    refine (K3.out _).mono ?_
                    rintro e v ⟨rfl, hv⟩
                    subst v
                    go_wp2
                    go_ret
                    exact ⟨by rw [HF.out]; rfl, HBw.out⟩
                  | true =>
                    cases h5 : inB r.vnum 0 512 with
                    | false => as_aux_lemma =>
                      have HF : Hid (repB r = false) := by show _ = _; rw [HR.out, hvo]; unfold chainB; rw [h0, h1, h2, h3, h4, h5]; simp
                      rw [h0] at K0
                      rw [h1] at K1
                      rw [h2] at K2
                      rw [h3] at K3
                      have e4 : decide ((r.pend.length : Int) ≤ 8) = true := by rw [← h4]; exact decide_eq_decide.2 (by omega)
                      rw [h5] at K5
                      clear HR hvo h0 h1 h2 h3 h5
                      go_wp2_with fail
                      refine (K0.out _).mono ?_
                      rintro e v ⟨rfl, hv⟩
                      subst v
                      go_wp2_with fail
                      refine (K1.out _).mono ?_
                      rintro e v ⟨rfl, hv⟩
                      subst v
                      go_wp2_with fail
                      refine (K2.out _).mono ?_
                      rintro e v ⟨rfl, hv⟩
                      subst v
                      go_wp2_with fail
                      refine (K3.out _).mono ?_
                      rintro e v ⟨rfl, hv⟩
                      subst v
                      go_wp2_with fail
                      refine (K5.out _).mono ?_
                      rintro e v ⟨rfl, hv⟩
                      subst v
                      go_wp2
                      go_ret
                      exact ⟨by rw [HF.out]; rfl, HBw.out⟩
                    | true =>
                      cases h6 : decide (r.value.length ≤ 256) with
                      | false => as_aux_lemma =>
                        have HF : Hid (repB r = false) := by show _ = _; rw [HR.out, hvo]; unfold chainB; rw [h0, h1, h2, h3, h4, h5, h6]; simp
                        rw [h0] at K0
                        rw [h1] at K1
                        rw [h2] at K2
                        rw [h3] at K3
                        have e4 : decide ((r.pend.length : Int) ≤ 8) = true := by rw [← h4]; exact decide_eq_decide.2 (by omega)
                        rw [h5] at K5
                        have e6 : decide ((r.value.length : Int) ≤ 256) = false := by rw [← h6]; exact decide_eq_decide.2 (by omega)
                        clear HR hvo h0 h1 h2 h3 h5
                        go_wp2_with fail
                        refine (K0.out _).mono ?_
                        rintro e v ⟨rfl, hv⟩
                        subst v
                        go_wp2_with fail
                        refine (K1.out _).mono ?_
                        rintro e v ⟨rfl, hv⟩
                        subst v
                        go_wp2_with fail
                        refine (K2.out _).mono ?_
                        rintro e v ⟨rfl, hv⟩
                        subst v
                        go_wp2_with fail
                        refine (K3.out _).mono ?_
                        rintro e v ⟨rfl, hv⟩
                        subst v
                        go_wp2_with fail
                        refine (K5.out _).mono ?_
                        rintro e v ⟨rfl, hv⟩
                        subst v
                        go_wp2
                        go_ret
                        exact ⟨by rw [HF.out]; rfl, HBw.out⟩
                      | true =>
                        as_aux_lemma =>
                        have HF : Hid (repB r = true) := by show _ = _; rw [HR.out, hvo]; unfold chainB; rw [h0, h1, h2, h3, h4, h5, h6]; rfl
                        rw [h0] at K0
                        rw [h1] at K1
                        rw [h2] at K2
                        rw [h3] at K3
                        have e4 : decide ((r.pend.length : Int) ≤ 8) = true := by rw [← h4]; exact decide_eq_decide.2 (by omega)
                        rw [h5] at K5
                        have e6 : decide ((r.value.length : Int) ≤ 256) = true := by rw [← h6]; exact decide_eq_decide.2 (by omega)
                        clear HR hvo h0 h1 h2 h3 h5
                        go_wp2_with fail
                        refine (K0.out _).mono ?_
                        rintro e v ⟨rfl, hv⟩
                        subst v
                        go_wp2_with fail
                        refine (K1.out _).mono ?_
                        rintro e v ⟨rfl, hv⟩
                        subst v
                        go_wp2_with fail
                        refine (K2.out _).mono ?_
                        rintro e v ⟨rfl, hv⟩
                        subst v
                        go_wp2_with fail
                        refine (K3.out _).mono ?_
                        rintro e v ⟨rfl, hv⟩
                        subst v
                        go_wp2_with fail
                        refine (K5.out _).mono ?_
                        rintro e v ⟨rfl, hv⟩
                        subst v
                        go_wp2
                        go_ret
                        exact ⟨by rw [HF.out]; rfl, HBw.out⟩
end Go.Proofs.YtidlgecognedlaaGreatDoor.Ms

/-
  A reply's bytes: what the reference answers (R10.answer).
-/
namespace Go.Proofs.YtidlgecognedlaaGreatDoor.Ms
open Go Go.RowKit
set_option maxRecDepth 100000

section
variable {P : Program} {w : World} {o : Oper} {a : Act} {Q : Exit → Act → World → Prop} {K : Act → World → Prop}
theorem op_assignD (t d : Tmp) (c : Value) (ho : o.op = .assign (.tmp t)) (hd : o.dst = some d) (hx : a.tmps.getD t undef = c) (h : K (a.put (some d) c) w) : o.wp P a w K Q := op_assign t c ho hx (by rw [hd]; exact h)
end
theorem layPen_eq (p : Pen) : layPen p = (intsB [p.client, p.number, p.kind, p.target] ++ txtB p.asked) ++ txtB p.proof := by
  simp [layPen, putAll, penFs, pClient, pNumber, pKind, pTarget, pAsked, pProof, layBase, intsB]
def outK (A : List UInt8) (l : List Pen) (k : Nat) : List UInt8 := A ++ ((l.take k).map layPen).flatten
theorem outK_step (A : List UInt8) (l : List Pen) (k : Nat) (h : k < l.length) : outK A l (k + 1) = ((outK A l k ++ intsB [(l.getD k noPen).client, (l.getD k noPen).number, (l.getD k noPen).kind, (l.getD k noPen).target]) ++ txtB (l.getD k noPen).asked) ++ txtB (l.getD k noPen).proof := by
  have e : l.getD k noPen = l[k] := by simp [List.getD, h]
  unfold outK
  rw [e, List.take_succ_eq_append_getElem h, List.map_append, List.flatten_append]
  simp [layPen_eq]
theorem outK_len (A : List UInt8) (l : List Pen) (hl : l.length ≤ 8) (hp : ∀ p ∈ l, penOk p) (hA : A.length ≤ 100000) (k : Nat) : (outK A l k).length ≤ 110000 := by
  have h1 := pens_len (l.take k) (fun p hp' => hp p (List.mem_of_mem_take hp'))
  have h2 : (l.take k).length ≤ l.length := by simp; omega
  unfold outK
  rw [List.length_append]
  omega
theorem ints_ck (W : World) (n : Nat) (a : Option Addr) (c : Nat) (ty : TypeId) : (Builtin.len_ #[26] ty #[.slice a n c]).run Tryz.prog W = .ok (nu n) W := by kernel_rfl
set_option maxHeartbeats 8000000 in
theorem answer_any (hY : BytOk) : AnsOk := by
  intro r hw hpk hpl hn1 hn2 hn3 hv1 hv2 hv3 w vP hp
  have HB0 := hid (below_a1 w (.cells (repC r vP).toArray 28))
  have R0 := hid (top_obj w (.cells (repC r vP).toArray 28))
  have HPA := hid (hp.kept HB0.out)
  obtain ⟨pa, pcap, rfl, -⟩ := hp
  have HW := hid hw
  have KI := hid (fun (W : World) (v : Value) (h : IntsAt W v [r.number, r.last]) => rnints_any numOk h (by intro n hn; simp at hn; rcases hn with rfl | rfl; exact hn1; exact hn2) (by simp))
  have lI : (intsB [r.number, r.last]).length ≤ 100 := by
    have := intsB_len [r.number, r.last] (by intro n hn; simp at hn; rcases hn with rfl | rfl; exact hn1; exact hn2)
    simp at this
    omega
  have KV := hid (fun W => rtext_any digOk r.view (by omega) W)
  have lV := txtB_le hv1
  have KC := hid (fun W => rdig_any digOk hY r.commit hw.commit W)
  have lC : (txtB r.commit).length ≤ 17000 := txtB_le (by have := hw.commit; omega)
  have KL := hid (fun W => numOk (r.pend.length : Int) (by omega) (by omega) W)
  have hL0 : Lib.itoa (r.pend.length : Int) ++ [59] = numB (r.pend.length : Int) := rfl
  rw [hL0] at KL
  have lL := numB_len (r.pend.length : Int) ⟨by omega, by omega⟩
  have KU := hid (fun W => numOk r.vnum hn3.1 hn3.2 W)
  have hU0 : Lib.itoa r.vnum ++ [59] = numB r.vnum := rfl
  rw [hU0] at KU
  have lU := numB_len r.vnum hn3
  have KX := hid (fun W => rtext_any digOk r.value (by omega) W)
  have lX := txtB_le hv2
  have KD := hid (fun W => rdig_any digOk hY r.data hw.data W)
  have lD : (txtB r.data).length ≤ 17000 := txtB_le (by have := hw.data; omega)
  have KS := hid (fun W => rtext_any digOk r.seen (by omega) W)
  have lS := txtB_le hv3
  have KT := hid (fun W => rdig_any digOk hY r.stag hw.stag W)
  have lT : (txtB r.stag).length ≤ 17000 := txtB_le (by have := hw.stag; omega)
  have HAN : Hid (ansT r = ((((outK ((((intsB [r.number, r.last] ++ txtB r.view) ++ txtB r.commit) ++ numB (r.pend.length : Int))) r.pend r.pend.length ++ numB r.vnum) ++ txtB r.value) ++ txtB r.data) ++ txtB r.seen) ++ txtB r.stag) := by
    show _ = _
    unfold ansT ansBq outK
    rw [List.take_length]
  have HOL := hid (outK_len ((((intsB [r.number, r.last] ++ txtB r.view) ++ txtB r.commit) ++ numB (r.pend.length : Int))) r.pend hpl hpk (by simp only [List.length_append]; omega))
  have HPK := hid hpk
  have ZC : (Tryz.prog.info? 23).map (·.size) = some (dg r.commit).length := by rw [dg_len, hw.commit]; exact sizeDig
  have ZD : (Tryz.prog.info? 23).map (·.size) = some (dg r.data).length := by rw [dg_len, hw.data]; exact sizeDig
  have ZT : (Tryz.prog.info? 23).map (·.size) = some (dg r.stag).length := by rw [dg_len, hw.stag]; exact sizeDig
  obtain ⟨AT, hAT⟩ : ∃ AT, AT = ansT r := ⟨_, rfl⟩
  rw [← hAT] at HAN ⊢
  clear hAT
  have HRow : Hid (∀ W, Below (w.alloc (.cells (repC r (.slice pa r.pend.length pcap)).toArray 28)).heap.size (w.alloc (.cells (repC r (.slice pa r.pend.length pcap)).toArray 28)) W → W.heap[w.heap.size]? = some (.cells (repC r (.slice pa r.pend.length pcap)).toArray 28)) := fun W hb => row_kept R0.out hb
  have c1 := hid (fun W hB => rrow_number (HRow.out W hB) HW.out)
  have c2 := hid (fun W hB => rrow_last (HRow.out W hB) HW.out)
  have c3 := hid (fun W hB => rrow_view (HRow.out W hB) HW.out)
  have SC := hid (fun W hB => rrow_commit (HRow.out W hB) HW.out)
  have c5 := hid (fun W hB => rrow_P (HRow.out W hB) HW.out)
  have c6 := hid (fun W hB => rrow_vnum (HRow.out W hB) HW.out)
  have c7 := hid (fun W hB => rrow_value (HRow.out W hB) HW.out)
  have SD := hid (fun W hB => rrow_data (HRow.out W hB) HW.out)
  have c9 := hid (fun W hB => rrow_seen (HRow.out W hB) HW.out)
  have ST := hid (fun W hB => rrow_stag (HRow.out W hB) HW.out)
  have HWP := hid hw.pend
  clear R0 hw hn1 hn2 hn3 hv1 hv2 hv3 hpk HW HRow hL0 hU0
  generalize repC r (.slice pa r.pend.length pcap) = RC at *
  generalize txtB r.view = T1 at *
  generalize txtB r.commit = T2 at *
  generalize numB (r.pend.length : Int) = T3 at *
  generalize numB r.vnum = T4 at *
  generalize txtB r.value = T5 at *
  generalize txtB r.data = T6 at *
  generalize txtB r.seen = T7 at *
  generalize txtB r.stag = T8 at *
  generalize intsB [r.number, r.last] = T0 at *
  generalize dg r.commit = DC at *
  generalize dg r.data = DD at *
  generalize dg r.stag = DT at *
  generalize r.view = xv at *
  generalize r.value = xx at *
  generalize r.seen = xs at *
  generalize r.number = n1 at *
  generalize r.last = n2 at *
  generalize r.vnum = n3 at *
  go_enter Tryz.func56, Tryz.ntmps56
  go_upto_region 1 with fail
  generalize w.alloc (.cells RC.toArray 28) = W0 at *
  generalize hg0 : w.heap.size = g0 at *
  have HG0 := hid hg0
  clear hg0
  refine wp_region_grow (N := 78) 19 (vG [4] (fun _ v w => IntsAt w v [n1, n2]) [pt g0 0, nu n1, pt g0 1, nu n2, undef, st T0, pt g0 2, st xv, st T1, st (T0 ++ T1), pt g0 3, .agg (DC).toArray, st T2, st ((T0 ++ T1) ++ T2), pt g0 35, .slice pa r.pend.length pcap, nu (r.pend.length : Int), st T3, st (((T0 ++ T1) ++ T2) ++ T3)]) (by kernel_rfl) (by kernel_rfl) (by kernel_rfl) rfl (vG_mono (fun _ _ _ _ h hb => h.kept hb)) ?_ ?_
  · intro i o hi ho
    match i, ho with
    | 0, ho => cases ho; exact fun a w hB hk hD => op_fa 1 28 0 g0 (0) 0 rfl (fun W => fq28_0 _ _ W) (hk 1 (by kernel_rfl)) ⟨_, rfl, mkC (by decide) rfl, Below.refl _ _⟩
    | 1, ho => cases ho; exact fun a w hB hk hD => op_load1 _ (.tmp 6) rfl g0 (0) (vG_c (hD 0 6 (by kernel_rfl) (by kernel_rfl)) (by decide)) (nu n1) _ (c1.out w hB) Tryz.underlying3 rfl ⟨_, rfl, mkC (by decide) rfl, Below.refl _ _⟩
    | 2, ho => cases ho; exact fun a w hB hk hD => op_fa 1 28 1 g0 (0) 1 rfl (fun W => fq28_1 _ _ W) (hk 1 (by kernel_rfl)) ⟨_, rfl, mkC (by decide) rfl, Below.refl _ _⟩
    | 3, ho => cases ho; exact fun a w hB hk hD => op_load1 _ (.tmp 8) rfl g0 (1) (vG_c (hD 2 8 (by kernel_rfl) (by kernel_rfl)) (by decide)) (nu n2) _ (c2.out w hB) Tryz.underlying3 rfl ⟨_, rfl, mkC (by decide) rfl, Below.refl _ _⟩
    | 4, ho => cases ho; exact fun a w hB hk hD => op_bs2 31 7 9 rfl Tryz.underlying31 8 info3 (n1) (n2) (vG_c (hD 1 7 (by kernel_rfl) (by kernel_rfl)) (by decide)) (vG_c (hD 3 9 (by kernel_rfl) (by kernel_rfl)) (by decide)) ⟨_, rfl, mkS (by decide) (ints_of w [n1, n2] 2 rfl), below_a1 _ _⟩
    | 5, ho => cases ho; exact fun a w hB hk hD => op_call 53 [.tmp 10] _ #[_] (st T0) rfl (fun x W => cq_Ints x W) (args1 rfl) (KI.out w _ (vG_s (hD 4 10 (by kernel_rfl) (by kernel_rfl)) (by decide))) (fun W hb => ⟨_, rfl, mkC (by decide) rfl, hb⟩)
    | 6, ho => cases ho; exact fun a w hB hk hD => op_fa 1 28 2 g0 (0) 2 rfl (fun W => fq28_2 _ _ W) (hk 1 (by kernel_rfl)) ⟨_, rfl, mkC (by decide) rfl, Below.refl _ _⟩
    | 7, ho => cases ho; exact fun a w hB hk hD => op_load1 _ (.tmp 12) rfl g0 (2) (vG_c (hD 6 12 (by kernel_rfl) (by kernel_rfl)) (by decide)) (st xv) _ (c3.out w hB) Tryz.underlying9 rfl ⟨_, rfl, mkC (by decide) rfl, Below.refl _ _⟩
    | 8, ho => cases ho; exact fun a w hB hk hD => op_call 54 [.tmp 13] _ #[st xv] (st T1) rfl (fun x W => cq_Text x W) (args1 (vG_c (hD 7 13 (by kernel_rfl) (by kernel_rfl)) (by decide))) (KV.out w) (fun W hb => ⟨_, rfl, mkC (by decide) rfl, hb⟩)
    | 9, ho => cases ho; exact fun a w hB hk hD => op_addS (.tmp 11) (.tmp 14) _ _ T0 T1 rfl (vG_c (hD 5 11 (by kernel_rfl) (by kernel_rfl)) (by decide)) (vG_c (hD 8 14 (by kernel_rfl) (by kernel_rfl)) (by decide)) (by first | omega | (simp only [List.length_append]; omega)) ⟨_, rfl, mkC (by decide) rfl, Below.refl _ _⟩
    | 10, ho => cases ho; exact fun a w hB hk hD => op_fa 1 28 3 g0 (0) 3 rfl (fun W => fq28_3 _ _ W) (hk 1 (by kernel_rfl)) ⟨_, rfl, mkC (by decide) rfl, Below.refl _ _⟩
    | 11, ho => cases ho; exact fun a w hB hk hD => op_load _ (.tmp 16) rfl g0 (3) (vG_c (hD 10 16 (by kernel_rfl) (by kernel_rfl)) (by decide)) (DC) _ (SC.out w hB) Tryz.underlying23 rfl ZC ⟨_, rfl, mkC (by decide) rfl, Below.refl _ _⟩
    | 12, ho => cases ho; exact fun a w hB hk hD => op_call 55 [.tmp 17] _ #[.agg (DC).toArray] (st T2) rfl (fun x W => cq_Dig x W) (args1 (vG_c (hD 11 17 (by kernel_rfl) (by kernel_rfl)) (by decide))) (KC.out w) (fun W hb => ⟨_, rfl, mkC (by decide) rfl, hb⟩)
    | 13, ho => cases ho; exact fun a w hB hk hD => op_addS (.tmp 15) (.tmp 18) _ _ (T0 ++ T1) T2 rfl (vG_c (hD 9 15 (by kernel_rfl) (by kernel_rfl)) (by decide)) (vG_c (hD 12 18 (by kernel_rfl) (by kernel_rfl)) (by decide)) (by first | omega | (simp only [List.length_append]; omega)) ⟨_, rfl, mkC (by decide) rfl, Below.refl _ _⟩
    | 14, ho => cases ho; exact fun a w hB hk hD => op_fa 1 28 4 g0 (0) 35 rfl (fun W => fq28_4 _ _ W) (hk 1 (by kernel_rfl)) ⟨_, rfl, mkC (by decide) rfl, Below.refl _ _⟩
    | 15, ho => cases ho; exact fun a w hB hk hD => op_load1 _ (.tmp 20) rfl g0 (35) (vG_c (hD 14 20 (by kernel_rfl) (by kernel_rfl)) (by decide)) (.slice pa r.pend.length pcap) _ (c5.out w hB) Tryz.underlying26 rfl ⟨_, rfl, mkC (by decide) rfl, Below.refl _ _⟩
    | 16, ho => cases ho; exact fun a w hB hk hD => op_len 21 _ r.pend.length rfl _ (vG_c (hD 15 21 (by kernel_rfl) (by kernel_rfl)) (by decide)) (fun ty => ints_ck w _ _ _ ty) ⟨_, rfl, mkC (by decide) rfl, Below.refl _ _⟩
    | 17, ho => cases ho; exact fun a w hB hk hD => op_call 57 [.tmp 22] _ #[nu (r.pend.length : Int)] (st T3) rfl (fun x W => cq_Number x W) (args1 (vG_c (hD 16 22 (by kernel_rfl) (by kernel_rfl)) (by decide))) (KL.out w) (fun W hb => ⟨_, rfl, mkC (by decide) rfl, hb⟩)
    | 18, ho => cases ho; exact fun a w hB hk hD => op_addS (.tmp 19) (.tmp 23) _ _ ((T0 ++ T1) ++ T2) T3 rfl (vG_c (hD 13 19 (by kernel_rfl) (by kernel_rfl)) (by decide)) (vG_c (hD 17 23 (by kernel_rfl) (by kernel_rfl)) (by decide)) (by first | omega | (simp only [List.length_append]; omega)) ⟨_, rfl, mkC (by decide) rfl, Below.refl _ _⟩
    | (i + 19), ho => omega
  · intro o a W1 ho hB hs hd hk hv
    cases ho
    refine op_assignD 24 3 (st (((T0 ++ T1) ++ T2) ++ T3)) rfl rfl (vG_c (hv 18 24 (by omega) (by kernel_rfl)) (by decide)) ?_
    have e := frame_lit (d0 := 3) (c0 := st (((T0 ++ T1) ++ T2) ++ T3)) [4] [pt g0 0, nu n1, pt g0 1, nu n2, undef, st T0, pt g0 2, st xv, st T1, st (T0 ++ T1), pt g0 3, .agg (DC).toArray, st T2, st ((T0 ++ T1) ++ T2), pt g0 35, .slice pa r.pend.length pcap, nu (r.pend.length : Int), st T3, st (((T0 ++ T1) ++ T2) ++ T3)] hs (by kernel_rfl) hk (fun i d hi hS hdd => vG_c (hv i d hi hdd) hS)
    have hdf : (a.put (some 3) (st (((T0 ++ T1) ++ T2) ++ T3))).defers = [] := hd
    have HB1 := hid hB
    generalize a.put (some 3) (st (((T0 ++ T1) ++ T2) ++ T3)) = a' at e hdf ⊢
    generalize a.tmps.getD 10 undef = u at e
    clear hk hv hs hd hB
    obtain ⟨tm, df⟩ := a'
    obtain rfl : df = [] := hdf
    have hA : tm = #[.agg RC.toArray, pt g0 0, st [], st (((T0 ++ T1) ++ T2) ++ T3), undef, undef, pt g0 0, nu n1, pt g0 1, nu n2, u, st T0, pt g0 2, st xv, st T1, st (T0 ++ T1), pt g0 3, .agg (DC).toArray, st T2, st ((T0 ++ T1) ++ T2), pt g0 35, .slice pa r.pend.length pcap, nu (r.pend.length : Int), st T3, st (((T0 ++ T1) ++ T2) ++ T3), undef, undef, undef, undef, undef, undef, undef, undef, undef, undef, undef, undef, undef, undef, undef, undef, undef, undef, undef, undef, undef, undef, undef, undef, undef, undef, undef, undef, undef, undef, undef, undef, undef, undef, undef, undef, undef, undef, undef, undef, undef, undef, undef, undef, undef, undef, undef, undef, undef, undef, undef, undef, undef] := e.trans (by kernel_rfl)
    clear e
    subst hA
    generalize ((T0 ++ T1) ++ T2) ++ T3 = AA at *
    go_wp2
    go_loopw [4, 3] (fun i o wr => ∃ j : Nat, j ≤ r.pend.length ∧ i = nu j ∧ o = st (outK AA r.pend j) ∧ Hid (Below W0.heap.size W0 wr)) (fun i _ _ => r.pend.length - (intOf i).toNat)
    case atStart => exact ⟨0, by omega, rfl, by simp [outK], HB1⟩
    case round =>
      obtain ⟨j, hj, rfl, rfl, HB⟩ := hrel
      have q5 := c5.out _ HB.out
      by_cases hlt : j < r.pend.length
      · have d1 : decide ((j : Int) < (r.pend.length : Int)) = true := decide_eq_true (by omega)
        have d1' : decide (j < r.pend.length) = true := decide_eq_true hlt
        obtain ⟨a', c', e', hc⟩ := HPA.out.kept HB.out
        cases e'
        obtain ⟨b, off, rfl, hcc⟩ := hc (fun e => by rw [e] at hlt; exact absurd hlt (Nat.not_lt_zero j))
        have wp := getD_wf HWP.out j hlt
        have S0 := hid (hcc j hlt)
        have HOS := hid (outK_step AA r.pend j hlt)
        have hol := HOL.out j
        have okp : penOk (r.pend.getD j noPen) := by
          have e : r.pend.getD j noPen = r.pend[j] := by simp [List.getD, hlt]
          rw [e]
          exact HPK.out _ (List.getElem_mem hlt)
        have KJ := hid (fun (W : World) (v : Value) (h : IntsAt W v [(r.pend.getD j noPen).client, (r.pend.getD j noPen).number, (r.pend.getD j noPen).kind, (r.pend.getD j noPen).target]) => rnints_any numOk h (by intro n hn; simp only [List.mem_cons, List.not_mem_nil, or_false] at hn; rcases hn with rfl | rfl | rfl | rfl; exact okp.client; exact okp.number; exact okp.kind; exact okp.target) (by simp))
        have lJ : (intsB [(r.pend.getD j noPen).client, (r.pend.getD j noPen).number, (r.pend.getD j noPen).kind, (r.pend.getD j noPen).target]).length ≤ 100 := by
          have := intsB_len [(r.pend.getD j noPen).client, (r.pend.getD j noPen).number, (r.pend.getD j noPen).kind, (r.pend.getD j noPen).target] (by intro n hn; simp only [List.mem_cons, List.not_mem_nil, or_false] at hn; rcases hn with rfl | rfl | rfl | rfl; exact okp.client; exact okp.number; exact okp.kind; exact okp.target)
          simp only [List.length_cons, List.length_nil] at this
          omega
        have KA := hid (fun W => rdig_any digOk hY (r.pend.getD j noPen).asked wp.asked W)
        have lA : (txtB (r.pend.getD j noPen).asked).length ≤ 17000 := txtB_le (by have := wp.asked; omega)
        have KP := hid (fun W => rdig_any digOk hY (r.pend.getD j noPen).proof wp.proof W)
        have lP : (txtB (r.pend.getD j noPen).proof).length ≤ 17000 := txtB_le (by have := wp.proof; omega)
        have ZA : (Tryz.prog.info? 23).map (·.size) = some (dg (r.pend.getD j noPen).asked).length := by rw [dg_len, wp.asked]; exact sizeDig
        have ZP : (Tryz.prog.info? 23).map (·.size) = some (dg (r.pend.getD j noPen).proof).length := by rw [dg_len, wp.proof]; exact sizeDig
        have Z0 : (Tryz.prog.info? 113).map (·.size) = some (penC (r.pend.getD j noPen)).length := by rw [penC_len wp]; exact sizePen
        have hone := hid (one_pen (r.pend.getD j noPen))
        have hz := zeroPen
        have hzl : (penC ⟨0, 0, 0, 0, List.replicate 32 0, List.replicate 32 0⟩).length = (penC (r.pend.getD j noPen)).length := by rw [penC_len wp]; rfl
        have t0 := hid (top_obj wr (.cells (penC (r.pend.getD j noPen)).toArray 113))
        have B5 := hid (below_a1 wr (.cells (penC (r.pend.getD j noPen)).toArray 113))
        have p1 := hid (fun W (hB : Below (wr.alloc (.cells (penC (r.pend.getD j noPen)).toArray 113)).heap.size (wr.alloc (.cells (penC (r.pend.getD j noPen)).toArray 113)) W) => prow_client (row_kept t0.out hB) wp)
        have p2 := hid (fun W (hB : Below (wr.alloc (.cells (penC (r.pend.getD j noPen)).toArray 113)).heap.size (wr.alloc (.cells (penC (r.pend.getD j noPen)).toArray 113)) W) => prow_number (row_kept t0.out hB) wp)
        have p3 := hid (fun W (hB : Below (wr.alloc (.cells (penC (r.pend.getD j noPen)).toArray 113)).heap.size (wr.alloc (.cells (penC (r.pend.getD j noPen)).toArray 113)) W) => prow_kind (row_kept t0.out hB) wp)
        have p4 := hid (fun W (hB : Below (wr.alloc (.cells (penC (r.pend.getD j noPen)).toArray 113)).heap.size (wr.alloc (.cells (penC (r.pend.getD j noPen)).toArray 113)) W) => prow_target (row_kept t0.out hB) wp)
        have SA := hid (fun W (hB : Below (wr.alloc (.cells (penC (r.pend.getD j noPen)).toArray 113)).heap.size (wr.alloc (.cells (penC (r.pend.getD j noPen)).toArray 113)) W) => prow_asked (row_kept t0.out hB) wp)
        have SP := hid (fun W (hB : Below (wr.alloc (.cells (penC (r.pend.getD j noPen)).toArray 113)).heap.size (wr.alloc (.cells (penC (r.pend.getD j noPen)).toArray 113)) W) => prow_proof (row_kept t0.out hB) wp)
        have HBn := hid (HB.out.trans (B5.out.mono HB.out.size))
        clear t0 B5 hc hcc wp okp HOL HPA HWP HPK KI KV KC KL KU KX KD KS KT c1 c2 c3 SC c6 c7 SD c9 ST HAN
        obtain ⟨ZP0, hZP⟩ : ∃ ZP0 : List Value, ZP0 = penC ⟨0, 0, 0, 0, List.replicate 32 0, List.replicate 32 0⟩ := ⟨_, rfl⟩
        rw [← hZP] at hz hzl
        clear hZP
        generalize penC (r.pend.getD j noPen) = PC at *
        generalize intsB [(r.pend.getD j noPen).client, (r.pend.getD j noPen).number, (r.pend.getD j noPen).kind, (r.pend.getD j noPen).target] = J0 at *
        generalize txtB (r.pend.getD j noPen).asked = J1 at *
        generalize txtB (r.pend.getD j noPen).proof = J2 at *
        generalize dg (r.pend.getD j noPen).asked = DA at *
        generalize dg (r.pend.getD j noPen).proof = DP at *
        generalize (r.pend.getD j noPen).client = m1 at *
        generalize (r.pend.getD j noPen).number = m2 at *
        generalize (r.pend.getD j noPen).kind = m3 at *
        generalize (r.pend.getD j noPen).target = m4 at *
        generalize outK AA r.pend j = OO at *
        go_upto_region 6 with (first
          | ((with_reducible refine wl_load 113 (.tmp 35) ?_ b (off + j * 68) ?_ ?_ PC _ S0.out Tryz.underlying113 ?_ Z0 ?_); exact rfl; exact rfl; exact rfl; exact rfl)
          | ((with_reducible refine wl_alloc 113 ?_ ?_ ZP0.toArray hz ?_); exact rfl; exact rfl)
          | ((with_reducible refine wl_store_top 113 (.tmp 5) (.tmp 36) ?_ ?_ ?_ ?_ PC ZP0 ?_ 113 hzl hone.out Z0 ?_); exact rfl; exact rfl; exact rfl; exact rfl; exact rfl))
        generalize wr.alloc (.cells PC.toArray 113) = W5 at *
        generalize wr.heap.size = gp at *
        refine wp_region_grow (N := 78) 20 (vG [9] (fun _ v w => IntsAt w v [m1, m2, m3, m4]) [st OO, pt gp 0, nu m1, pt gp 1, nu m2, pt gp 2, nu m3, pt gp 3, nu m4, undef, st J0, st (OO ++ J0), pt gp 4, .agg (DA).toArray, st J1, st ((OO ++ J0) ++ J1), pt gp 36, .agg (DP).toArray, st J2, st (((OO ++ J0) ++ J1) ++ J2)]) (by kernel_rfl) (by kernel_rfl) (by kernel_rfl) rfl (vG_mono (fun _ _ _ _ h hb => h.kept hb)) ?_ ?_
        · intro i o hi ho
          match i, ho with
          | 0, ho => cases ho; exact fun a w hB hk hD => op_move 3 _ rfl (hk 3 (by kernel_rfl)) ⟨_, rfl, mkC (by decide) rfl, Below.refl _ _⟩
          | 1, ho => cases ho; exact fun a w hB hk hD => op_fa 5 113 0 gp (0) 0 rfl (fun W => fq113_0 _ _ W) (hk 5 (by kernel_rfl)) ⟨_, rfl, mkC (by decide) rfl, Below.refl _ _⟩
          | 2, ho => cases ho; exact fun a w hB hk hD => op_load1 _ (.tmp 38) rfl gp (0) (vG_c (hD 1 38 (by kernel_rfl) (by kernel_rfl)) (by decide)) (nu m1) _ (p1.out w hB) Tryz.underlying3 rfl ⟨_, rfl, mkC (by decide) rfl, Below.refl _ _⟩
          | 3, ho => cases ho; exact fun a w hB hk hD => op_fa 5 113 1 gp (0) 1 rfl (fun W => fq113_1 _ _ W) (hk 5 (by kernel_rfl)) ⟨_, rfl, mkC (by decide) rfl, Below.refl _ _⟩
          | 4, ho => cases ho; exact fun a w hB hk hD => op_load1 _ (.tmp 40) rfl gp (1) (vG_c (hD 3 40 (by kernel_rfl) (by kernel_rfl)) (by decide)) (nu m2) _ (p2.out w hB) Tryz.underlying3 rfl ⟨_, rfl, mkC (by decide) rfl, Below.refl _ _⟩
          | 5, ho => cases ho; exact fun a w hB hk hD => op_fa 5 113 2 gp (0) 2 rfl (fun W => fq113_2 _ _ W) (hk 5 (by kernel_rfl)) ⟨_, rfl, mkC (by decide) rfl, Below.refl _ _⟩
          | 6, ho => cases ho; exact fun a w hB hk hD => op_load1 _ (.tmp 42) rfl gp (2) (vG_c (hD 5 42 (by kernel_rfl) (by kernel_rfl)) (by decide)) (nu m3) _ (p3.out w hB) Tryz.underlying3 rfl ⟨_, rfl, mkC (by decide) rfl, Below.refl _ _⟩
          | 7, ho => cases ho; exact fun a w hB hk hD => op_fa 5 113 3 gp (0) 3 rfl (fun W => fq113_3 _ _ W) (hk 5 (by kernel_rfl)) ⟨_, rfl, mkC (by decide) rfl, Below.refl _ _⟩
          | 8, ho => cases ho; exact fun a w hB hk hD => op_load1 _ (.tmp 44) rfl gp (3) (vG_c (hD 7 44 (by kernel_rfl) (by kernel_rfl)) (by decide)) (nu m4) _ (p4.out w hB) Tryz.underlying3 rfl ⟨_, rfl, mkC (by decide) rfl, Below.refl _ _⟩
          | 9, ho => cases ho; exact fun a w hB hk hD => op_bs4 31 39 41 43 45 rfl Tryz.underlying31 8 info3 (m1) (m2) (m3) (m4) (vG_c (hD 2 39 (by kernel_rfl) (by kernel_rfl)) (by decide)) (vG_c (hD 4 41 (by kernel_rfl) (by kernel_rfl)) (by decide)) (vG_c (hD 6 43 (by kernel_rfl) (by kernel_rfl)) (by decide)) (vG_c (hD 8 45 (by kernel_rfl) (by kernel_rfl)) (by decide)) ⟨_, rfl, mkS (by decide) (ints_of w [m1, m2, m3, m4] 4 rfl), below_a1 _ _⟩
          | 10, ho => cases ho; exact fun a w hB hk hD => op_call 53 [.tmp 46] _ #[_] (st J0) rfl (fun x W => cq_Ints x W) (args1 rfl) (KJ.out w _ (vG_s (hD 9 46 (by kernel_rfl) (by kernel_rfl)) (by decide))) (fun W hb => ⟨_, rfl, mkC (by decide) rfl, hb⟩)
          | 11, ho => cases ho; exact fun a w hB hk hD => op_addS (.tmp 37) (.tmp 47) _ _ OO J0 rfl (vG_c (hD 0 37 (by kernel_rfl) (by kernel_rfl)) (by decide)) (vG_c (hD 10 47 (by kernel_rfl) (by kernel_rfl)) (by decide)) (by first | omega | (simp only [List.length_append]; omega)) ⟨_, rfl, mkC (by decide) rfl, Below.refl _ _⟩
          | 12, ho => cases ho; exact fun a w hB hk hD => op_fa 5 113 4 gp (0) 4 rfl (fun W => fq113_4 _ _ W) (hk 5 (by kernel_rfl)) ⟨_, rfl, mkC (by decide) rfl, Below.refl _ _⟩
          | 13, ho => cases ho; exact fun a w hB hk hD => op_load _ (.tmp 49) rfl gp (4) (vG_c (hD 12 49 (by kernel_rfl) (by kernel_rfl)) (by decide)) (DA) _ (SA.out w hB) Tryz.underlying23 rfl ZA ⟨_, rfl, mkC (by decide) rfl, Below.refl _ _⟩
          | 14, ho => cases ho; exact fun a w hB hk hD => op_call 55 [.tmp 50] _ #[.agg (DA).toArray] (st J1) rfl (fun x W => cq_Dig x W) (args1 (vG_c (hD 13 50 (by kernel_rfl) (by kernel_rfl)) (by decide))) (KA.out w) (fun W hb => ⟨_, rfl, mkC (by decide) rfl, hb⟩)
          | 15, ho => cases ho; exact fun a w hB hk hD => op_addS (.tmp 48) (.tmp 51) _ _ (OO ++ J0) J1 rfl (vG_c (hD 11 48 (by kernel_rfl) (by kernel_rfl)) (by decide)) (vG_c (hD 14 51 (by kernel_rfl) (by kernel_rfl)) (by decide)) (by first | omega | (simp only [List.length_append]; omega)) ⟨_, rfl, mkC (by decide) rfl, Below.refl _ _⟩
          | 16, ho => cases ho; exact fun a w hB hk hD => op_fa 5 113 5 gp (0) 36 rfl (fun W => fq113_5 _ _ W) (hk 5 (by kernel_rfl)) ⟨_, rfl, mkC (by decide) rfl, Below.refl _ _⟩
          | 17, ho => cases ho; exact fun a w hB hk hD => op_load _ (.tmp 53) rfl gp (36) (vG_c (hD 16 53 (by kernel_rfl) (by kernel_rfl)) (by decide)) (DP) _ (SP.out w hB) Tryz.underlying23 rfl ZP ⟨_, rfl, mkC (by decide) rfl, Below.refl _ _⟩
          | 18, ho => cases ho; exact fun a w hB hk hD => op_call 55 [.tmp 54] _ #[.agg (DP).toArray] (st J2) rfl (fun x W => cq_Dig x W) (args1 (vG_c (hD 17 54 (by kernel_rfl) (by kernel_rfl)) (by decide))) (KP.out w) (fun W hb => ⟨_, rfl, mkC (by decide) rfl, hb⟩)
          | 19, ho => cases ho; exact fun a w hB hk hD => op_addS (.tmp 52) (.tmp 55) _ _ ((OO ++ J0) ++ J1) J2 rfl (vG_c (hD 15 52 (by kernel_rfl) (by kernel_rfl)) (by decide)) (vG_c (hD 18 55 (by kernel_rfl) (by kernel_rfl)) (by decide)) (by first | omega | (simp only [List.length_append]; omega)) ⟨_, rfl, mkC (by decide) rfl, Below.refl _ _⟩
          | (i + 20), ho => omega
        · intro o a W6 ho hB hs hd hk hv
          cases ho
          refine op_assignD 56 3 (st (((OO ++ J0) ++ J1) ++ J2)) rfl rfl (vG_c (hv 19 56 (by omega) (by kernel_rfl)) (by decide)) ?_
          have e := frame_lit (d0 := 3) (c0 := st (((OO ++ J0) ++ J1) ++ J2)) [9] [st OO, pt gp 0, nu m1, pt gp 1, nu m2, pt gp 2, nu m3, pt gp 3, nu m4, undef, st J0, st (OO ++ J0), pt gp 4, .agg (DA).toArray, st J1, st ((OO ++ J0) ++ J1), pt gp 36, .agg (DP).toArray, st J2, st (((OO ++ J0) ++ J1) ++ J2)] hs (by kernel_rfl) hk (fun i d hi hS hdd => vG_c (hv i d hi hdd) hS)
          have hdf : (a.put (some 3) (st (((OO ++ J0) ++ J1) ++ J2))).defers = [] := hd
          have HB6 : Hid (Below W0.heap.size W0 W6) := HBn.out.trans (hB.mono HBn.out.size)
          generalize a.put (some 3) (st (((OO ++ J0) ++ J1) ++ J2)) = a' at e hdf ⊢
          generalize a.tmps.getD 46 undef = u46 at e
          clear hk hv hs hd hB
          obtain ⟨tm, df⟩ := a'
          obtain rfl : df = [] := hdf
          have hA : tm = #[.agg RC.toArray, pt g0 0, st [], st (((OO ++ J0) ++ J1) ++ J2), nu (j : Int), pt gp 0, pt g0 0, nu n1, pt g0 1, nu n2, u, st T0, pt g0 2, st xv, st T1, st (T0 ++ T1), pt g0 3, .agg (DC).toArray, st T2, st ((T0 ++ T1) ++ T2), pt g0 35, .slice (some ⟨b, off, none⟩) r.pend.length pcap, nu (r.pend.length : Int), st T3, st AA, nu (j : Int), pt g0 35, .slice (some ⟨b, off, none⟩) r.pend.length pcap, nu (r.pend.length : Int), .bool true, u30, u31, pt g0 35, .slice (some ⟨b, off, none⟩) r.pend.length pcap, nu (j : Int), pt b (off + j * 68), .agg PC.toArray, st OO, pt gp 0, nu m1, pt gp 1, nu m2, pt gp 2, nu m3, pt gp 3, nu m4, u46, st J0, st (OO ++ J0), pt gp 4, .agg (DA).toArray, st J1, st ((OO ++ J0) ++ J1), pt gp 36, .agg (DP).toArray, st J2, st (((OO ++ J0) ++ J1) ++ J2), undef, undef, undef, undef, undef, undef, undef, undef, undef, undef, undef, undef, undef, undef, undef, undef, undef, undef, undef, undef, undef] := e.trans (by kernel_rfl)
          clear e
          subst hA
          rw [← HOS.out]
          go_wp2
          exact ⟨⟨j + 1, by omega, by go_num, rfl, HB6⟩, by simp [intOf]; omega⟩
      · have ej : j = r.pend.length := by omega
        subst ej
        have hol := HOL.out r.pend.length
        have HBw : Hid (Below w.heap.size w wr) := by
          have h1 := HB0.out
          have h2 := HB.out
          rw [← HG0.out] at *
          exact below_two h1 h2
        have HAN' := HAN
        clear KI KV KC KL c1 c2 c3 SC c5
        generalize outK AA r.pend r.pend.length = OO at *
        go_upto_region 7 with fail
        refine wp_region_grow (N := 78) 21 (vG [] (fun _ _ _ => True) [st OO, pt g0 36, nu n3, st T4, st (OO ++ T4), pt g0 37, st xx, st T5, st ((OO ++ T4) ++ T5), pt g0 38, .agg (DD).toArray, st T6, st (((OO ++ T4) ++ T5) ++ T6), pt g0 70, st xs, st T7, st ((((OO ++ T4) ++ T5) ++ T6) ++ T7), pt g0 71, .agg (DT).toArray, st T8, st (((((OO ++ T4) ++ T5) ++ T6) ++ T7) ++ T8)]) (by kernel_rfl) (by kernel_rfl) (by kernel_rfl) rfl (vG_mono (fun _ _ _ _ h _ => h)) ?_ ?_
        · intro i o hi ho
          match i, ho with
          | 0, ho => cases ho; exact fun a w hB hk hD => op_move 3 _ rfl (hk 3 (by kernel_rfl)) ⟨_, rfl, mkC (by decide) rfl, Below.refl _ _⟩
          | 1, ho => cases ho; exact fun a w hB hk hD => op_fa 1 28 5 g0 (0) 36 rfl (fun W => fq28_5 _ _ W) (hk 1 (by kernel_rfl)) ⟨_, rfl, mkC (by decide) rfl, Below.refl _ _⟩
          | 2, ho => cases ho; exact fun a w hB hk hD => op_load1 _ (.tmp 58) rfl g0 (36) (vG_c (hD 1 58 (by kernel_rfl) (by kernel_rfl)) (by decide)) (nu n3) _ (c6.out w (HB.out.trans (hB.mono HB.out.size))) Tryz.underlying3 rfl ⟨_, rfl, mkC (by decide) rfl, Below.refl _ _⟩
          | 3, ho => cases ho; exact fun a w hB hk hD => op_call 57 [.tmp 59] _ #[nu n3] (st T4) rfl (fun x W => cq_Number x W) (args1 (vG_c (hD 2 59 (by kernel_rfl) (by kernel_rfl)) (by decide))) (KU.out w) (fun W hb => ⟨_, rfl, mkC (by decide) rfl, hb⟩)
          | 4, ho => cases ho; exact fun a w hB hk hD => op_addS (.tmp 57) (.tmp 60) _ _ OO T4 rfl (vG_c (hD 0 57 (by kernel_rfl) (by kernel_rfl)) (by decide)) (vG_c (hD 3 60 (by kernel_rfl) (by kernel_rfl)) (by decide)) (by first | omega | (simp only [List.length_append]; omega)) ⟨_, rfl, mkC (by decide) rfl, Below.refl _ _⟩
          | 5, ho => cases ho; exact fun a w hB hk hD => op_fa 1 28 6 g0 (0) 37 rfl (fun W => fq28_6 _ _ W) (hk 1 (by kernel_rfl)) ⟨_, rfl, mkC (by decide) rfl, Below.refl _ _⟩
          | 6, ho => cases ho; exact fun a w hB hk hD => op_load1 _ (.tmp 62) rfl g0 (37) (vG_c (hD 5 62 (by kernel_rfl) (by kernel_rfl)) (by decide)) (st xx) _ (c7.out w (HB.out.trans (hB.mono HB.out.size))) Tryz.underlying9 rfl ⟨_, rfl, mkC (by decide) rfl, Below.refl _ _⟩
          | 7, ho => cases ho; exact fun a w hB hk hD => op_call 54 [.tmp 63] _ #[st xx] (st T5) rfl (fun x W => cq_Text x W) (args1 (vG_c (hD 6 63 (by kernel_rfl) (by kernel_rfl)) (by decide))) (KX.out w) (fun W hb => ⟨_, rfl, mkC (by decide) rfl, hb⟩)
          | 8, ho => cases ho; exact fun a w hB hk hD => op_addS (.tmp 61) (.tmp 64) _ _ (OO ++ T4) T5 rfl (vG_c (hD 4 61 (by kernel_rfl) (by kernel_rfl)) (by decide)) (vG_c (hD 7 64 (by kernel_rfl) (by kernel_rfl)) (by decide)) (by first | omega | (simp only [List.length_append]; omega)) ⟨_, rfl, mkC (by decide) rfl, Below.refl _ _⟩
          | 9, ho => cases ho; exact fun a w hB hk hD => op_fa 1 28 7 g0 (0) 38 rfl (fun W => fq28_7 _ _ W) (hk 1 (by kernel_rfl)) ⟨_, rfl, mkC (by decide) rfl, Below.refl _ _⟩
          | 10, ho => cases ho; exact fun a w hB hk hD => op_load _ (.tmp 66) rfl g0 (38) (vG_c (hD 9 66 (by kernel_rfl) (by kernel_rfl)) (by decide)) (DD) _ (SD.out w (HB.out.trans (hB.mono HB.out.size))) Tryz.underlying23 rfl ZD ⟨_, rfl, mkC (by decide) rfl, Below.refl _ _⟩
          | 11, ho => cases ho; exact fun a w hB hk hD => op_call 55 [.tmp 67] _ #[.agg (DD).toArray] (st T6) rfl (fun x W => cq_Dig x W) (args1 (vG_c (hD 10 67 (by kernel_rfl) (by kernel_rfl)) (by decide))) (KD.out w) (fun W hb => ⟨_, rfl, mkC (by decide) rfl, hb⟩)
          | 12, ho => cases ho; exact fun a w hB hk hD => op_addS (.tmp 65) (.tmp 68) _ _ ((OO ++ T4) ++ T5) T6 rfl (vG_c (hD 8 65 (by kernel_rfl) (by kernel_rfl)) (by decide)) (vG_c (hD 11 68 (by kernel_rfl) (by kernel_rfl)) (by decide)) (by first | omega | (simp only [List.length_append]; omega)) ⟨_, rfl, mkC (by decide) rfl, Below.refl _ _⟩
          | 13, ho => cases ho; exact fun a w hB hk hD => op_fa 1 28 8 g0 (0) 70 rfl (fun W => fq28_8 _ _ W) (hk 1 (by kernel_rfl)) ⟨_, rfl, mkC (by decide) rfl, Below.refl _ _⟩
          | 14, ho => cases ho; exact fun a w hB hk hD => op_load1 _ (.tmp 70) rfl g0 (70) (vG_c (hD 13 70 (by kernel_rfl) (by kernel_rfl)) (by decide)) (st xs) _ (c9.out w (HB.out.trans (hB.mono HB.out.size))) Tryz.underlying9 rfl ⟨_, rfl, mkC (by decide) rfl, Below.refl _ _⟩
          | 15, ho => cases ho; exact fun a w hB hk hD => op_call 54 [.tmp 71] _ #[st xs] (st T7) rfl (fun x W => cq_Text x W) (args1 (vG_c (hD 14 71 (by kernel_rfl) (by kernel_rfl)) (by decide))) (KS.out w) (fun W hb => ⟨_, rfl, mkC (by decide) rfl, hb⟩)
          | 16, ho => cases ho; exact fun a w hB hk hD => op_addS (.tmp 69) (.tmp 72) _ _ (((OO ++ T4) ++ T5) ++ T6) T7 rfl (vG_c (hD 12 69 (by kernel_rfl) (by kernel_rfl)) (by decide)) (vG_c (hD 15 72 (by kernel_rfl) (by kernel_rfl)) (by decide)) (by first | omega | (simp only [List.length_append]; omega)) ⟨_, rfl, mkC (by decide) rfl, Below.refl _ _⟩
          | 17, ho => cases ho; exact fun a w hB hk hD => op_fa 1 28 9 g0 (0) 71 rfl (fun W => fq28_9 _ _ W) (hk 1 (by kernel_rfl)) ⟨_, rfl, mkC (by decide) rfl, Below.refl _ _⟩
          | 18, ho => cases ho; exact fun a w hB hk hD => op_load _ (.tmp 74) rfl g0 (71) (vG_c (hD 17 74 (by kernel_rfl) (by kernel_rfl)) (by decide)) (DT) _ (ST.out w (HB.out.trans (hB.mono HB.out.size))) Tryz.underlying23 rfl ZT ⟨_, rfl, mkC (by decide) rfl, Below.refl _ _⟩
          | 19, ho => cases ho; exact fun a w hB hk hD => op_call 55 [.tmp 75] _ #[.agg (DT).toArray] (st T8) rfl (fun x W => cq_Dig x W) (args1 (vG_c (hD 18 75 (by kernel_rfl) (by kernel_rfl)) (by decide))) (KT.out w) (fun W hb => ⟨_, rfl, mkC (by decide) rfl, hb⟩)
          | 20, ho => cases ho; exact fun a w hB hk hD => op_addS (.tmp 73) (.tmp 76) _ _ ((((OO ++ T4) ++ T5) ++ T6) ++ T7) T8 rfl (vG_c (hD 16 73 (by kernel_rfl) (by kernel_rfl)) (by decide)) (vG_c (hD 19 76 (by kernel_rfl) (by kernel_rfl)) (by decide)) (by first | omega | (simp only [List.length_append]; omega)) ⟨_, rfl, mkC (by decide) rfl, Below.refl _ _⟩
          | (i + 21), ho => omega
        · intro o a w' ho hB hs hd hk hv
          cases ho
          refine op_assign 77 _ rfl (vG_c (hv 20 77 (by omega) (by kernel_rfl)) (by decide)) ?_
          have BB := hid (below_two HBw.out hB)
          obtain ⟨tm, df⟩ := a
          obtain rfl : df = [] := hd
          have h4 : 2 < tm.size := by
            have : tm.size = 78 := hs
            omega
          clear hv hk hs
          go_wp2
          go_ret
          exact ⟨by rw [HAN'.out]; simp [Act.put, h4], BB.out⟩
end Go.Proofs.YtidlgecognedlaaGreatDoor.Ms
