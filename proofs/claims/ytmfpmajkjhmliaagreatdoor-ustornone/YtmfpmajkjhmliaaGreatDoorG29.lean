/-
  What is pending in memory, as a thing that has fields: what they hold, and what it is when another value comes to lie at one's place.
-/
import Derived.Test.YtmfpmajkjhmliaaGreatDoorJhm
namespace Go.Proofs.YtmfpmajkjhmliaaGreatDoor.Ms
open Go Go.RowKit
set_option maxRecDepth 100000
def IPen (g : Nat) (A C : List Value) (x : Pen) (w : World) : Prop := w.heap[g]? = some (.cells (A ++ (penC x ++ C)).toArray 25) ∧ penOk x
structure POk (f : Fl Pen) : Prop where
  sp : ∀ x, penOk x → ∃ P S, P.length = f.off ∧ penC x = P ++ (cc (cvOf undef undef (f.get x)) (f.get x) ++ S) ∧ ∀ v cv, v.slot = f.slot → okVal v → cvForm cv v → penC (f.set x v) = P ++ (cc cv v ++ S)
  sl : ∀ x, (f.get x).slot = f.slot
  ok : ∀ x v, penOk x → v.slot = f.slot → okVal v → penOk (f.set x v)
  base : f.slot = .num ∨ f.slot = .dig
  len : ∀ x, penOk x → (cc (cvOf undef undef (f.get x)) (f.get x)).length = sz f.slot
theorem holdP {f : Fl Pen} (hf : POk f) {g : Nat} {A C : List Value} {x : Pen} {w : World} (h : IPen g A C x w) :
    (ValAt w g (A.length + f.off) (f.get x) ∧ (f.get x).slot = f.slot) ∧
    ∃ A' old C' t, w.heap[g]? = some (.cells (A' ++ (old ++ C')).toArray t) ∧ A'.length = A.length + f.off ∧ old.length = sz f.slot ∧ ∀ v w', v.slot = f.slot → okVal v → StoreAt w g A' C' t v w' → IPen g A C (f.set x v) w' := by
  obtain ⟨hrow, hok⟩ := h
  obtain ⟨P, S, hP, hx, hset⟩ := hf.sp x hok
  have e1 : A ++ (penC x ++ C) = (A ++ P) ++ (cc (cvOf undef undef (f.get x)) (f.get x) ++ (S ++ C)) := by rw [hx]; simp
  have hl : (A ++ P).length = A.length + f.off := by rw [List.length_append, hP]
  rw [e1] at hrow
  refine ⟨⟨?_, hf.sl x⟩, A ++ P, _, S ++ C, _, hrow, hl, hf.len x hok, fun v w' hs hv hst => ?_⟩
  · have hsl := hf.sl x
    have hseg := row_seg hrow rfl hl
    generalize f.get x = v at hsl hseg
    rcases hf.base with hb | hb
    · rw [hb] at hsl
      obtain ⟨n, rfl⟩ := of_num hsl
      exact hseg 0 (nu n) rfl
    · rw [hb] at hsl
      obtain ⟨n, rfl⟩ := of_dig hsl
      exact hseg
  · obtain ⟨cv, w1, -, hcv, -, hrow', -⟩ := hst
    refine ⟨?_, hf.ok x v hok hs hv⟩
    rw [hrow', hset v cv hs hv (cv_form hcv)]
    simp
theorem ok_pClient : POk pClient := by
  refine ⟨fun x hx => ⟨[], [nu x.number] ++ ([nu x.kind] ++ ([nu x.target] ++ (dg x.asked ++ (dg x.proof)))), rfl, ?_, fun v cv hs ho hc => ?_⟩, fun _ => rfl, fun x v hx hs ho => ?_, Or.inl rfl, fun _ _ => rfl⟩
  · simp [penC, pClient, cc, cvOf]
  · obtain ⟨n, rfl⟩ := of_num hs
    obtain rfl : cv = nu n := hc
    simp [penC, pClient, cc, Val.n]
  · obtain ⟨n, rfl⟩ := of_num hs
    have hv : I64 n := ho
    exact { hx with client := hv }
theorem ok_pNumber : POk pNumber := by
  refine ⟨fun x hx => ⟨[nu x.client], [nu x.kind] ++ ([nu x.target] ++ (dg x.asked ++ (dg x.proof))), rfl, ?_, fun v cv hs ho hc => ?_⟩, fun _ => rfl, fun x v hx hs ho => ?_, Or.inl rfl, fun _ _ => rfl⟩
  · simp [penC, pNumber, cc, cvOf]
  · obtain ⟨n, rfl⟩ := of_num hs
    obtain rfl : cv = nu n := hc
    simp [penC, pNumber, cc, Val.n]
  · obtain ⟨n, rfl⟩ := of_num hs
    have hv : I64 n := ho
    exact { hx with number := hv }
theorem ok_pKind : POk pKind := by
  refine ⟨fun x hx => ⟨[nu x.client] ++ ([nu x.number]), [nu x.target] ++ (dg x.asked ++ (dg x.proof)), rfl, ?_, fun v cv hs ho hc => ?_⟩, fun _ => rfl, fun x v hx hs ho => ?_, Or.inl rfl, fun _ _ => rfl⟩
  · simp [penC, pKind, cc, cvOf]
  · obtain ⟨n, rfl⟩ := of_num hs
    obtain rfl : cv = nu n := hc
    simp [penC, pKind, cc, Val.n]
  · obtain ⟨n, rfl⟩ := of_num hs
    have hv : I64 n := ho
    exact { hx with kind := hv }
theorem ok_pTarget : POk pTarget := by
  refine ⟨fun x hx => ⟨[nu x.client] ++ ([nu x.number] ++ ([nu x.kind])), dg x.asked ++ (dg x.proof), rfl, ?_, fun v cv hs ho hc => ?_⟩, fun _ => rfl, fun x v hx hs ho => ?_, Or.inl rfl, fun _ _ => rfl⟩
  · simp [penC, pTarget, cc, cvOf]
  · obtain ⟨n, rfl⟩ := of_num hs
    obtain rfl : cv = nu n := hc
    simp [penC, pTarget, cc, Val.n]
  · obtain ⟨n, rfl⟩ := of_num hs
    have hv : I64 n := ho
    exact { hx with target := hv }
theorem ok_pAsked : POk pAsked := by
  refine ⟨fun x hx => ⟨[nu x.client] ++ ([nu x.number] ++ ([nu x.kind] ++ ([nu x.target]))), dg x.proof, rfl, ?_, fun v cv hs ho hc => ?_⟩, fun _ => rfl, fun x v hx hs ho => ?_, Or.inr rfl, fun x hx => (dg_len x.asked).trans hx.asked⟩
  · simp [penC, pAsked, cc]
  · obtain ⟨n, rfl⟩ := of_dig hs
    simp [penC, pAsked, cc, Val.d]
  · obtain ⟨n, rfl⟩ := of_dig hs
    have hv : n.length = 32 := ho
    exact { hx with asked := hv }
theorem ok_pProof : POk pProof := by
  refine ⟨fun x hx => ⟨[nu x.client] ++ ([nu x.number] ++ ([nu x.kind] ++ ([nu x.target] ++ (dg x.asked)))), [], by simp [pProof, dg_len, hx.asked], ?_, fun v cv hs ho hc => ?_⟩, fun _ => rfl, fun x v hx hs ho => ?_, Or.inr rfl, fun x hx => (dg_len x.proof).trans hx.proof⟩
  · simp [penC, pProof, cc]
  · obtain ⟨n, rfl⟩ := of_dig hs
    simp [penC, pProof, cc, Val.d]
  · obtain ⟨n, rfl⟩ := of_dig hs
    have hv : n.length = 32 := ho
    exact { hx with proof := hv }
theorem ok_pens : ∀ f ∈ penFs, POk f := by
  intro f hf
  simp only [penFs, List.mem_cons, List.not_mem_nil, or_false] at hf
  rcases hf with rfl | rfl | rfl | rfl | rfl | rfl
  · exact ok_pClient
  · exact ok_pNumber
  · exact ok_pKind
  · exact ok_pTarget
  · exact ok_pAsked
  · exact ok_pProof
theorem pen_hold (g : Nat) (A C : List Value) : Hold penFs g A.length (IPen g A C) where
  own := fun _ _ h => ⟨_, _, h.1, .inr rfl⟩
  stay := fun _ _ _ h hb => ⟨row_kept h.1 hb, h.2⟩
  load := fun _ _ h f hf => (holdP (ok_pens f hf) h).1
  store := fun _ _ h f hf => (holdP (ok_pens f hf) h).2
open Go Go.RowKit
set_option maxRecDepth 100000
theorem zPen : (Tryz.prog.info? 25).map (·.zero) = some (some (.agg (penC ⟨0, 0, 0, 0, List.replicate 32 0, List.replicate 32 0⟩).toArray)) := by kernel_rfl
theorem pen_okv {p : Pen} (h : penOk p) : ∀ f ∈ penFs, okVal (f.get p) := by
  intro f hf
  simp only [penFs, List.mem_cons, List.not_mem_nil, or_false] at hf
  rcases hf with rfl | rfl | rfl | rfl | rfl | rfl
  · exact h.client
  · exact h.number
  · exact h.kind
  · exact h.target
  · exact h.asked
  · exact h.proof
theorem pens_len : ∀ l : List Pen, (∀ p ∈ l, penOk p) → ((l.map layPen).flatten).length ≤ 200 * l.length := by
  intro l
  induction l with
  | nil => simp
  | cons p l ih =>
    intro hp
    have := layPen_len p (hp p (by simp))
    have := ih (fun q hq => hp q (by simp [hq]))
    simp only [List.map_cons, List.flatten_cons, List.length_append, List.length_cons]
    omega
def HLP : Prop := ∀ f ∈ penFs, LayOne f.slot
theorem hLP : HLP := by
  intro f hf
  simp only [penFs, List.mem_cons, List.not_mem_nil, or_false] at hf
  rcases hf with rfl | rfl | rfl | rfl | rfl | rfl
  · exact mkLayNum
  · exact mkLayNum
  · exact mkLayNum
  · exact mkLayNum
  · exact mkLayDig
  · exact mkLayDig
theorem laypen1 (p : Pen) (h : penOk p) (g : Nat) (w : World) (ht : Tb w) (v : Value) (hr : w.heap[g]? = some (.cells (penC p).toArray 25)) (hv : FieldsAt w v g (spots 0 penFs)) :
    Calls Tryz.prog 151 #[v] w fun e w' => e = .returned (st (layPen p)) ∧ Below w.heap.size w w' :=
  layall_any (pen_hold g [] []) hLP hv (x := p) ⟨by simpa using hr, h⟩ (pen_okv h) (by decide) ht
set_option maxHeartbeats 1000000 in
theorem laypens_any (ps : List Pen) (hl : ps.length ≤ 8) (hp : ∀ p ∈ ps, penOk p) (w : World) (cv : Value) (ht : Tb w) (hc : PensAt w cv ps) :
    Calls Tryz.prog 233 #[cv] w fun e w' => e = .returned (st (numB ps.length ++ (ps.map layPen).flatten)) ∧ Below w.heap.size w w' := by
  have HP := hid hc
  obtain ⟨pa, cap, rfl, -⟩ := hc
  obtain ⟨ZP, hZ⟩ : ∃ ZP : List Value, penC ⟨0, 0, 0, 0, List.replicate 32 0, List.replicate 32 0⟩ = ZP := ⟨_, rfl⟩
  have hz := zPen
  have hzl : ZP.length = 68 := by rw [← hZ]; rfl
  rw [hZ] at hz
  have HZ := hid hz
  have HZL := hid hzl
  have HT := hid ht
  have HOK := hid hp
  have HN : Hid (Calls Tryz.prog 78 #[nu ps.length] w fun e w' => e = .returned (st (numB ps.length)) ∧ Below w.heap.size w w') := Lay.number_any (ps.length : Int) (by omega) (by omega) w ht
  have hnl := numB_len (ps.length : Int) ⟨by omega, by omega⟩
  clear hz hZ hzl ht hp
  generalize numB (ps.length : Int) = nb at *
  go_enter Tryz.func233, Tryz.ntmps233
  go_wp2_with fail
  refine HN.out.mono ?_
  rintro e w1 ⟨rfl, hb1⟩
  have HB1 := hid hb1
  clear hb1 HN
  go_wp2
  go_loopw [3, 11] (fun s i w' => ∃ k : Nat, k ≤ ps.length ∧ i = .int .i64 k ∧ s = st (nb ++ ((ps.take k).map layPen).flatten) ∧ Hid (Below w.heap.size w w')) (fun _ i _ => ps.length - (intOf i).toNat)
  case atStart => exact ⟨0, Nat.zero_le _, rfl, by simp, HB1⟩
  case round =>
    obtain ⟨k, hk, rfl, rfl, HB⟩ := hrel
    clear HB1
    have hlk := pens_len (ps.take k) (fun p hq => HOK.out p (List.mem_of_mem_take hq))
    have hlt' : (ps.take k).length ≤ 8 := by rw [List.length_take]; omega
    have hlk2 : (nb ++ ((ps.take k).map layPen).flatten).length ≤ 2000 := by rw [List.length_append]; omega
    by_cases hlt : k < ps.length
    · as_aux_lemma =>
      have d1 : decide ((k : Int) < (ps.length : Int)) = true := decide_eq_true (by omega)
      have d1' : decide (k < ps.length) = true := decide_eq_true hlt
      obtain ⟨a', c', e', hc⟩ := HP.out.kept HB.out
      cases e'
      obtain ⟨b, off, rfl, hcc⟩ := hc (fun e => by rw [e] at hlt; exact absurd hlt (Nat.not_lt_zero k))
      have HTk : Hid (ps.take (k + 1) = ps.take k ++ [ps.getD k noPen]) := Lay.take_snoc ps noPen k hlt
      have hpk : penOk (ps.getD k noPen) := HOK.out _ (by simp [List.getD, hlt])
      have S0 := hid (hcc k hlt)
      generalize ps.getD k noPen = p at *
      have wp := wf_of_ok hpk
      have Z0 : (Tryz.prog.info? 25).map (·.size) = some (penC p).length := by rw [penC_len wp]; exact sizePen
      have hone := hid (one_pen p)
      have hlen : ZP.length = (penC p).length := by rw [penC_len wp]; exact HZL.out
      have HBt := hid (below_a1 wr (.cells (penC p).toArray 25))
      have T0 := hid (top_obj wr (.cells (penC p).toArray 25))
      have HTt := hid ((HT.out.stays HB.out).stays HBt.out)
      have HBm := hid (below_two HB.out HBt.out)
      have HL1 := hid (laypen1 p hpk wr.heap.size)
      have hpl := layPen_len p hpk
      have HE : Hid ((⟨(nb ++ ((ps.take k).map layPen).flatten).toArray⟩ : ByteArray) ++ ⟨(layPen p).toArray⟩ = ⟨(nb ++ ((ps.take (k + 1)).map layPen).flatten).toArray⟩) := by
        show _ = _
        rw [Lay.bcat _ _ _ rfl, HTk.out]; simp
      clear hc hcc HTk hlk hlt' HP HOK HT HBt HB wp hpk
      generalize layPen p = lp at *
      generalize nb ++ ((ps.take k).map layPen).flatten = l1 at *
      generalize penC p = PA at *
      go_upto_region 5 with (first | ((with_reducible refine wl_load 25 (.tmp 13) ?_ b (off + k * 68) ?_ ?_ PA _ S0.out Tryz.underlying25 ?_ Z0 ?_); exact rfl; exact rfl; exact rfl; exact rfl) | ((with_reducible refine wl_alloc 25 ?_ ?_ ZP.toArray HZ.out ?_); exact rfl; exact rfl) | ((with_reducible refine wl_store_top 25 (.tmp 5) (.tmp 14) ?_ ?_ ?_ ?_ PA ZP ?_ 25 hlen hone.out Z0 ?_); exact rfl; exact rfl; exact rfl; exact rfl; exact rfl))
      generalize wr.alloc (.cells PA.toArray 25) = W2 at *
      clear S0
      generalize wr.heap.size = g at *
      go_wp2_with fail
      refine (penfields_any g 0 W2).mono ?_
      rintro e w3 ⟨fv, rfl, hfv, hb3⟩
      have HF3 : Hid (FieldsAt w3 fv g (spots 0 penFs)) := hfv
      have T3 := hid (row_kept T0.out hb3)
      have HT3 := hid (HTt.out.stays hb3)
      have HB3 := hid (below_two HBm.out hb3)
      clear hb3 hfv T0 HTt HBm
      go_wp2_with fail
      refine (HL1.out w3 HT3.out fv T3.out HF3.out).mono ?_
      rintro e w4 ⟨rfl, hb4⟩
      have HB4 := hid (below_two HB3.out hb4)
      clear hb4 HB3 T3 HT3 HF3 HL1
      go_wp2
      go_roundw
      case rel => exact ⟨k + 1, by omega, by go_num, congrArg Value.string HE.out, HB4⟩
      case measure => simp [intOf]; omega
    · as_aux_lemma =>
      have hkl : k = ps.length := by omega
      subst hkl
      have dk : decide ((ps.length : Int) < (ps.length : Int)) = false := decide_eq_false (by omega)
      rw [List.take_length] at *
      clear HP HOK HT
      go_wp2
      go_ret
      exact ⟨rfl, HB.out⟩
theorem mkLayPens : LayOne .pens := by
  intro v hs hv w cv ht hc
  obtain ⟨l, rfl⟩ := of_pens hs
  exact laypens_any l hv.1 hv.2 w cv ht hc
end Go.Proofs.YtmfpmajkjhmliaaGreatDoor.Ms
