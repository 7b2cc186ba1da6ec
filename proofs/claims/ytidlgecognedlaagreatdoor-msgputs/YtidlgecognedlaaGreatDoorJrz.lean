/-
  What was got is put as the very bytes; which messages may be, as the reference has it; the reference's bytes: in plain words. No program plays a part.
-/
import Derived.Test.YtidlgecognedlaaGreatDoorJry
namespace Go.Proofs.YtidlgecognedlaaGreatDoor.Ms
open Go
set_option maxRecDepth 100000

/-- All numbers are numbers of 64 bits. -/
structure Msg.Rng (m : Msg) : Prop where
  kind : I64 m.kind
  client : I64 m.client
  sn : I64 m.sub.number
  sk : I64 m.sub.kind
  st : I64 m.sub.target
  rn : I64 m.rep.number
  rl : I64 m.rep.last
  rv : I64 m.rep.vnum
  who : I64 m.who
  bo : I64 m.blob.owner
  bn : I64 m.blob.number
  ns : ∀ n ∈ m.nums, I64 n
  ps : ∀ p ∈ m.rep.pend, penOk p
theorem i64_zero : I64 0 := ⟨by decide, by decide⟩
theorem zeroD_len : zeroD.length = 32 := rfl
theorem zeroM_wf (k c : Int) : (zeroM k c).Wf := ⟨⟨rfl, rfl⟩, ⟨rfl, rfl, rfl, fun p hp => by cases hp⟩, rfl, rfl, ⟨rfl⟩⟩
theorem zeroM_rng (k c : Int) (hk : I64 k) (hc : I64 c) : (zeroM k c).Rng :=
  ⟨hk, hc, i64_zero, i64_zero, i64_zero, i64_zero, i64_zero, i64_zero, i64_zero, i64_zero, i64_zero, (fun n hn => by cases hn), (fun p hp => by cases hp)⟩
/-- What values were set stand there, and are laid as they were. -/
def FitsAll (fs : List (Fl Msg)) : Prop := ∀ (vs : List Val) (x : Msg), vs.map Val.slot = fs.map (·.slot) → x.Wf → x.Rng → (∀ v ∈ vs, okVal v) → (setAll fs vs x).Wf ∧ (setAll fs vs x).Rng ∧ (setAll fs vs x).kind = x.kind ∧ putAll layVal fs (setAll fs vs x) = (vs.map layVal).flatten
theorem fits_sub : FitsAll subFs := by
  intro vs x h0 hw hr ho
  have hs : subFs.map (·.slot) = [.num, .num, .num, .num, .txt, .dig, .dig] := rfl
  rw [hs] at h0
  obtain ⟨v1, vs, rfl, s1, h0⟩ := map_cons h0
  obtain ⟨v2, vs, rfl, s2, h0⟩ := map_cons h0
  obtain ⟨v3, vs, rfl, s3, h0⟩ := map_cons h0
  obtain ⟨v4, vs, rfl, s4, h0⟩ := map_cons h0
  obtain ⟨v5, vs, rfl, s5, h0⟩ := map_cons h0
  obtain ⟨v6, vs, rfl, s6, h0⟩ := map_cons h0
  obtain ⟨v7, vs, rfl, s7, h0⟩ := map_cons h0
  obtain rfl := map_nil h0
  obtain ⟨a1, rfl⟩ := of_num s1
  obtain ⟨a2, rfl⟩ := of_num s2
  obtain ⟨a3, rfl⟩ := of_num s3
  obtain ⟨a4, rfl⟩ := of_num s4
  obtain ⟨a5, rfl⟩ := of_txt s5
  obtain ⟨a6, rfl⟩ := of_dig s6
  obtain ⟨a7, rfl⟩ := of_dig s7
  refine ⟨⟨⟨ho (.dig a6) (by simp), ho (.dig a7) (by simp)⟩, hw.rep, hw.tag, hw.own, hw.blob⟩, ?_, rfl, rfl⟩
  exact { hr with client := ho (.num a1) (by simp), sn := ho (.num a2) (by simp), sk := ho (.num a3) (by simp), st := ho (.num a4) (by simp) }
theorem wf_of_ok {p : Pen} (h : penOk p) : p.Wf := ⟨h.asked, h.proof⟩
theorem rep_set (x : Msg) (a1 a2 : Int) (a3 a4 : List UInt8) (a5 : List Pen) (a6 : Int) (a7 a8 a9 a10 : List UInt8) : setAll repFs [.num a1, .num a2, .txt a3, .dig a4, .pens a5, .num a6, .txt a7, .dig a8, .txt a9, .dig a10] x = { x with rep := ⟨a1, a2, a3, a4, a5, a6, a7, a8, a9, a10⟩ } := by
  obtain ⟨k, c, s, ⟨r1, r2, r3, r4, r5, r6, r7, r8, r9, r10⟩, vw, wh, tg, ow, b, ns⟩ := x
  simp only [repFs, setAll, fRNumber, fRLast, fRView, fRCommit, fRPend, fRVnum, fRValue, fRData, fRSeen, fRTag, Val.n, Val.s, Val.d, Val.p]
theorem rep_put (x : Msg) (a1 a2 : Int) (a3 a4 : List UInt8) (a5 : List Pen) (a6 : Int) (a7 a8 a9 a10 : List UInt8) : putAll layVal repFs { x with rep := ⟨a1, a2, a3, a4, a5, a6, a7, a8, a9, a10⟩ } = ([Val.num a1, .num a2, .txt a3, .dig a4, .pens a5, .num a6, .txt a7, .dig a8, .txt a9, .dig a10].map layVal).flatten := rfl
theorem fits_rep : FitsAll repFs := by
  intro vs x h0 hw hr ho
  have hs : repFs.map (·.slot) = [.num, .num, .txt, .dig, .pens, .num, .txt, .dig, .txt, .dig] := rfl
  rw [hs] at h0
  obtain ⟨v1, vs, rfl, s1, h0⟩ := map_cons h0
  obtain ⟨v2, vs, rfl, s2, h0⟩ := map_cons h0
  obtain ⟨v3, vs, rfl, s3, h0⟩ := map_cons h0
  obtain ⟨v4, vs, rfl, s4, h0⟩ := map_cons h0
  obtain ⟨v5, vs, rfl, s5, h0⟩ := map_cons h0
  obtain ⟨v6, vs, rfl, s6, h0⟩ := map_cons h0
  obtain ⟨v7, vs, rfl, s7, h0⟩ := map_cons h0
  obtain ⟨v8, vs, rfl, s8, h0⟩ := map_cons h0
  obtain ⟨v9, vs, rfl, s9, h0⟩ := map_cons h0
  obtain ⟨v10, vs, rfl, s10, h0⟩ := map_cons h0
  obtain rfl := map_nil h0
  obtain ⟨a1, rfl⟩ := of_num s1
  obtain ⟨a2, rfl⟩ := of_num s2
  obtain ⟨a3, rfl⟩ := of_txt s3
  obtain ⟨a4, rfl⟩ := of_dig s4
  obtain ⟨a5, rfl⟩ := of_pens s5
  obtain ⟨a6, rfl⟩ := of_num s6
  obtain ⟨a7, rfl⟩ := of_txt s7
  obtain ⟨a8, rfl⟩ := of_dig s8
  obtain ⟨a9, rfl⟩ := of_txt s9
  obtain ⟨a10, rfl⟩ := of_dig s10
  have hp : okVal (.pens a5) := ho (.pens a5) (by simp)
  have q1 : I64 a1 := ho (.num a1) (by simp)
  have q2 : I64 a2 := ho (.num a2) (by simp)
  have q4 : a4.length = 32 := ho (.dig a4) (by simp)
  have q6 : I64 a6 := ho (.num a6) (by simp)
  have q8 : a8.length = 32 := ho (.dig a8) (by simp)
  have q10 : a10.length = 32 := ho (.dig a10) (by simp)
  rw [rep_set, rep_put]
  exact ⟨⟨hw.sub, ⟨q4, q8, q10, fun p h => wf_of_ok (hp.2 p h)⟩, hw.tag, hw.own, hw.blob⟩, ⟨hr.kind, hr.client, hr.sn, hr.sk, hr.st, q1, q2, q6, hr.who, hr.bo, hr.bn, hr.ns, hp.2⟩, rfl, rfl⟩
theorem fits_com : FitsAll comFs := by
  intro vs x h0 hw hr ho
  have hs : comFs.map (·.slot) = [.num, .txt, .dig] := rfl
  rw [hs] at h0
  obtain ⟨v1, vs, rfl, s1, h0⟩ := map_cons h0
  obtain ⟨v2, vs, rfl, s2, h0⟩ := map_cons h0
  obtain ⟨v3, vs, rfl, s3, h0⟩ := map_cons h0
  obtain rfl := map_nil h0
  obtain ⟨a1, rfl⟩ := of_num s1
  obtain ⟨a2, rfl⟩ := of_txt s2
  obtain ⟨a3, rfl⟩ := of_dig s3
  refine ⟨⟨hw.sub, hw.rep, ho (.dig a3) (by simp), hw.own, hw.blob⟩, ?_, rfl, rfl⟩
  exact { hr with client := ho (.num a1) (by simp) }
theorem fits_blo : FitsAll bloFs := by
  intro vs x h0 hw hr ho
  have hs : bloFs.map (·.slot) = [.num, .num, .txt, .dig] := rfl
  rw [hs] at h0
  obtain ⟨v1, vs, rfl, s1, h0⟩ := map_cons h0
  obtain ⟨v2, vs, rfl, s2, h0⟩ := map_cons h0
  obtain ⟨v3, vs, rfl, s3, h0⟩ := map_cons h0
  obtain ⟨v4, vs, rfl, s4, h0⟩ := map_cons h0
  obtain rfl := map_nil h0
  obtain ⟨a1, rfl⟩ := of_num s1
  obtain ⟨a2, rfl⟩ := of_num s2
  obtain ⟨a3, rfl⟩ := of_txt s3
  obtain ⟨a4, rfl⟩ := of_dig s4
  refine ⟨⟨hw.sub, hw.rep, hw.tag, hw.own, ⟨ho (.dig a4) (by simp)⟩⟩, ?_, rfl, rfl⟩
  exact { hr with bo := ho (.num a1) (by simp), bn := ho (.num a2) (by simp) }
theorem fits_lst : FitsAll lstFs := by
  intro vs x h0 hw hr ho
  have hs : lstFs.map (·.slot) = [.num, .nums] := rfl
  rw [hs] at h0
  obtain ⟨v1, vs, rfl, s1, h0⟩ := map_cons h0
  obtain ⟨v2, vs, rfl, s2, h0⟩ := map_cons h0
  obtain rfl := map_nil h0
  obtain ⟨a1, rfl⟩ := of_num s1
  obtain ⟨a2, rfl⟩ := of_nums s2
  have hp : okVal (.nums a2) := ho (.nums a2) (by simp)
  refine ⟨⟨hw.sub, hw.rep, hw.tag, hw.own, hw.blob⟩, ?_, rfl, rfl⟩
  exact { hr with client := ho (.num a1) (by simp), ns := hp.2 }
theorem fits_pro : FitsAll proFs := by
  intro vs x h0 hw hr ho
  have hs : proFs.map (·.slot) = [.num] := rfl
  rw [hs] at h0
  obtain ⟨v1, vs, rfl, s1, h0⟩ := map_cons h0
  obtain rfl := map_nil h0
  obtain ⟨a1, rfl⟩ := of_num s1
  refine ⟨⟨hw.sub, hw.rep, hw.tag, hw.own, hw.blob⟩, ?_, rfl, rfl⟩
  exact { hr with client := ho (.num a1) (by simp) }
theorem fits_ver : FitsAll verFs := by
  intro vs x h0 hw hr ho
  have hs : verFs.map (·.slot) = [.num, .num, .txt, .dig, .dig] := rfl
  rw [hs] at h0
  obtain ⟨v1, vs, rfl, s1, h0⟩ := map_cons h0
  obtain ⟨v2, vs, rfl, s2, h0⟩ := map_cons h0
  obtain ⟨v3, vs, rfl, s3, h0⟩ := map_cons h0
  obtain ⟨v4, vs, rfl, s4, h0⟩ := map_cons h0
  obtain ⟨v5, vs, rfl, s5, h0⟩ := map_cons h0
  obtain rfl := map_nil h0
  obtain ⟨a1, rfl⟩ := of_num s1
  obtain ⟨a2, rfl⟩ := of_num s2
  obtain ⟨a3, rfl⟩ := of_txt s3
  obtain ⟨a4, rfl⟩ := of_dig s4
  obtain ⟨a5, rfl⟩ := of_dig s5
  refine ⟨⟨hw.sub, hw.rep, ho (.dig a4) (by simp), ho (.dig a5) (by simp), hw.blob⟩, ?_, rfl, rfl⟩
  exact { hr with client := ho (.num a1) (by simp), who := ho (.num a2) (by simp) }
theorem fits_ala : FitsAll alaFs := by
  intro vs x h0 hw hr ho
  have hs : alaFs.map (·.slot) = [.num, .dig] := rfl
  rw [hs] at h0
  obtain ⟨v1, vs, rfl, s1, h0⟩ := map_cons h0
  obtain ⟨v2, vs, rfl, s2, h0⟩ := map_cons h0
  obtain rfl := map_nil h0
  obtain ⟨a1, rfl⟩ := of_num s1
  obtain ⟨a2, rfl⟩ := of_dig s2
  refine ⟨⟨hw.sub, hw.rep, hw.tag, ho (.dig a2) (by simp), hw.blob⟩, ?_, rfl, rfl⟩
  exact { hr with client := ho (.num a1) (by simp) }
theorem fits_none : FitsAll [] := by
  intro vs x h0 hw hr ho
  obtain rfl := map_nil h0
  exact ⟨hw, hr, rfl, rfl⟩
theorem fits_any (k : Int) : FitsAll (fieldsM k) := by
  rcases fields_cases k with ⟨_, e⟩ | ⟨_, e⟩ | ⟨_, e⟩ | ⟨_, e⟩ | ⟨_, e⟩ | ⟨_, e⟩ | ⟨_, e⟩ | ⟨_, e⟩ | ⟨_, e⟩ <;> rw [e]
  · exact fits_sub
  · exact fits_rep
  · exact fits_com
  · exact fits_blo
  · exact fits_lst
  · exact fits_pro
  · exact fits_ver
  · exact fits_ala
  · exact fits_none
/-- What fields read without an error come to. -/
theorem rd_fits (k : Int) (x : Msg) (hw : x.Wf) (hr : x.Rng) (s : List UInt8) (p : Nat) (hp : p ≤ s.length) (he : (rdAll rdVal (fieldsM k) x s p).1 = 0) :
    ∃ c, (rdAll rdVal (fieldsM k) x s p).2.1.Wf ∧ (rdAll rdVal (fieldsM k) x s p).2.1.Rng ∧ (rdAll rdVal (fieldsM k) x s p).2.1.kind = x.kind ∧ (rdAll rdVal (fieldsM k) x s p).2.2 = p + c ∧ p + c ≤ s.length ∧ (s.drop p).take c = putAll layVal (fieldsM k) (rdAll rdVal (fieldsM k) x s p).2.1 := by
  obtain ⟨vs, c, h0, h1, h2, h3, h4, h5⟩ := all_once rdVal layVal okVal s (fieldsM k) (fun g _ q hq hz => val_once g.slot s q hq hz) x p hp he
  rw [h1]
  obtain ⟨a, b, d, e⟩ := fits_any k vs x h0 hw hr h5
  exact ⟨c, a, b, d, h2, h4, by rw [h3, e]⟩
theorem readNum_fits (s : List UInt8) (h : (Lay.readNum s).1 = 0) : s.take (Lay.readNum s).2.2 = numB (Lay.readNum s).2.1 ∧ (Lay.readNum s).2.2 ≤ s.length ∧ I64 (Lay.readNum s).2.1 := num_once s _ _ (Lay.triple _ h)
/-- What was got is put as the very bytes, and may be. -/
theorem put_get (s : List UInt8) (h : (getM s).1 = 0) : (getM s).2.Wf ∧ (getM s).2.Rng ∧ mayB (getM s).2 = true ∧ putM (getM s).2 = s := by
  unfold getM at h ⊢
  by_cases h1 : (Lay.readNum s).1 ≠ 0
  · rw [if_pos h1] at h
    exact absurd h h1
  · rw [if_neg h1] at h ⊢
    obtain ⟨n1, n2, n3⟩ := readNum_fits s (by omega)
    generalize (Lay.readNum s).2.1 = k at *
    generalize (Lay.readNum s).2.2 = p at *
    by_cases h2 : (rdAll rdVal (fieldsM k) (zeroM k 0) s p).1 ≠ 0
    · rw [if_pos h2] at h
      exact absurd h h2
    · rw [if_neg h2] at h ⊢
      obtain ⟨c, a1, a2, a3, a4, a5, a6⟩ := rd_fits k (zeroM k 0) (zeroM_wf k 0) (zeroM_rng k 0 n3 i64_zero) s p n2 (by omega)
      generalize rdAll rdVal (fieldsM k) (zeroM k 0) s p = R at *
      by_cases h3 : R.2.2 < s.length ∨ mayB R.2.1 = false
      · rw [if_pos h3] at h
        exact absurd h (by decide)
      · rw [if_neg h3]
        have h4 : mayB R.2.1 = true := by
          cases hm : mayB R.2.1 with
          | true => rfl
          | false => exact absurd (Or.inr hm) h3
        refine ⟨a1, a2, h4, ?_⟩
        have hk : R.2.1.kind = k := a3
        have hc : p + c = s.length := by
          have : ¬ R.2.2 < s.length := fun x => h3 (Or.inl x)
          omega
        unfold putM
        rw [hk, ← n1, ← a6, ← List.take_add, hc, List.take_length]
theorem get_wf (s : List UInt8) : (getM s).2.Wf ∧ (getM s).2.Rng := by
  by_cases h : (getM s).1 = 0
  · exact ⟨(put_get s h).1, (put_get s h).2.1⟩
  · have : (getM s).2 = zeroM 0 0 := by
      unfold getM at h ⊢
      split
      · rfl
      · rename_i h1
        rw [if_neg h1] at h
        split
        · rfl
        · rename_i h2
          rw [if_neg h2] at h
          split
          · rfl
          · rename_i h3
            rw [if_neg h3] at h
            exact absurd rfl h
    rw [this]
    exact ⟨zeroM_wf 0 0, zeroM_rng 0 0 i64_zero i64_zero⟩

/-! ### As the reference has it -/
def bareM (m : Msg) : Msg :=
  if m.kind = 1 then { m with sub := zeroS } else if m.kind = 2 then { m with rep := zeroR } else if m.kind = 3 then { m with view := [], tag := zeroD } else
  if m.kind = 4 ∨ m.kind = 6 then { m with blob := zeroB } else if m.kind = 5 ∨ m.kind = 7 ∨ m.kind = 8 then { m with nums := [] } else
  if m.kind = 10 then { m with who := 0, view := [], tag := zeroD, own := zeroD } else if m.kind = 11 then { m with own := zeroD } else m
def refParts (m : Msg) : Bool :=
  if m.kind = 1 then subB m.sub else if m.kind = 2 then (m.client == 0) && repB m.rep else if m.kind = 3 then viewB m.view else if m.kind = 4 ∨ m.kind = 6 then (m.client == 0) && bloB m.blob else
  if m.kind = 5 ∨ m.kind = 7 ∨ m.kind = 8 then numsB m.nums else if m.kind = 10 then inB m.who 0 7 && viewB m.view else true
def rightM (m : Msg) : Bool := inB m.kind 1 11 && (inB m.client 0 7 && (sameM (bareM m) (zeroM m.kind m.client) && refParts m))
theorem may_right (m : Msg) : mayB m = rightM m := by
  rw [Bool.eq_iff_iff]
  unfold mayB rightM restB
  simp only [Bool.and_eq_true, sameM_iff, inB_iff]
  obtain ⟨k, c, ⟨s1, s2, s3, s4, s5, s6⟩, ⟨r1, r2, r3, r4, r5, r6, r7, r8, r9, r10⟩, vw, wh, tg, ow, ⟨b1, b2, b3, b4⟩, ns⟩ := m
  simp only
  rcases fields_cases k with ⟨hk, e⟩ | ⟨hk, e⟩ | ⟨hk, e⟩ | ⟨hk, e⟩ | ⟨hk, e⟩ | ⟨hk, e⟩ | ⟨hk, e⟩ | ⟨hk, e⟩ | ⟨hk, e⟩ <;> rw [e]
  · subst hk
    simp only [partsB, refParts, bareM, if_true, subFs, emptyAll, fClient, fSNumber, fSKind, fSTarget, fSValue, fSAsked, fSData, Slot.zero, Val.n, Val.s, Val.d, zeroM, zeroS, Msg.mk.injEq]
    constructor <;> (intro h; simp_all)
  · subst hk
    simp only [partsB, refParts, bareM, show ((2 : Int) = 1) = False by simp, if_false, if_true, repFs, emptyAll, fRNumber, fRLast, fRView, fRCommit, fRPend, fRVnum, fRValue, fRData, fRSeen, fRTag, Slot.zero, Val.n, Val.s, Val.d, Val.p, zeroM, zeroR, Msg.mk.injEq, Bool.and_eq_true, beq_iff_eq]
    constructor <;> (intro h; simp_all)
  · subst hk
    simp only [partsB, refParts, bareM, show ((3 : Int) = 1) = False by simp, show ((3 : Int) = 2) = False by simp, if_false, if_true, comFs, emptyAll, fClient, fView, fTag, Slot.zero, Val.n, Val.s, Val.d, zeroM, Msg.mk.injEq]
    constructor <;> (intro h; simp_all)
  · simp only [partsB, refParts, bareM, if_neg (by omega : ¬ k = 1), if_neg (by omega : ¬ k = 2), if_neg (by omega : ¬ k = 3), if_pos hk, bloFs, emptyAll, fBOwner, fBNumber, fBCipher, fBTag, Slot.zero, Val.n, Val.s, Val.d, zeroM, zeroB, Msg.mk.injEq, Bool.and_eq_true, beq_iff_eq]
    have hk' : 1 ≤ k ∧ k ≤ 11 := by omega
    constructor <;> (intro h; simp_all)
  · simp only [partsB, refParts, bareM, if_neg (by omega : ¬ k = 1), if_neg (by omega : ¬ k = 2), if_neg (by omega : ¬ k = 3), if_neg (by omega : ¬ (k = 4 ∨ k = 6)), if_pos hk, lstFs, emptyAll, fClient, fNums, Slot.zero, Val.n, Val.l, zeroM, Msg.mk.injEq]
    have hk' : 1 ≤ k ∧ k ≤ 11 := by omega
    constructor <;> (intro h; simp_all)
  · subst hk
    simp only [partsB, refParts, bareM, show ((9 : Int) = 1) = False by simp, show ((9 : Int) = 2) = False by simp, show ((9 : Int) = 3) = False by simp, show ((9 : Int) = 4 ∨ (9 : Int) = 6) = False by simp, show ((9 : Int) = 5 ∨ (9 : Int) = 7 ∨ (9 : Int) = 8) = False by simp, show ((9 : Int) = 10) = False by simp, show ((9 : Int) = 11) = False by simp, if_false, if_true, proFs, emptyAll, fClient, Slot.zero, Val.n, zeroM, Msg.mk.injEq]
    constructor <;> (intro h; simp_all)
  · subst hk
    simp only [partsB, refParts, bareM, show ((10 : Int) = 1) = False by simp, show ((10 : Int) = 2) = False by simp, show ((10 : Int) = 3) = False by simp, show ((10 : Int) = 4 ∨ (10 : Int) = 6) = False by simp, show ((10 : Int) = 5 ∨ (10 : Int) = 7 ∨ (10 : Int) = 8) = False by simp, show ((10 : Int) = 9) = False by simp, if_false, if_true, verFs, emptyAll, fClient, fBy, fView, fTag, fOwn, Slot.zero, Val.n, Val.s, Val.d, zeroM, Msg.mk.injEq]
    constructor <;> (intro h; simp_all)
  · subst hk
    simp only [partsB, refParts, bareM, show ((11 : Int) = 1) = False by simp, show ((11 : Int) = 2) = False by simp, show ((11 : Int) = 3) = False by simp, show ((11 : Int) = 4 ∨ (11 : Int) = 6) = False by simp, show ((11 : Int) = 5 ∨ (11 : Int) = 7 ∨ (11 : Int) = 8) = False by simp, show ((11 : Int) = 9) = False by simp, show ((11 : Int) = 10) = False by simp, if_false, if_true, alaFs, emptyAll, fClient, fOwn, Slot.zero, Val.n, Val.d, zeroM, Msg.mk.injEq]
    constructor <;> (intro h; simp_all)
  · simp only [partsB, if_neg (by omega : ¬ k = 1), if_neg (by omega : ¬ k = 2), if_neg (by omega : ¬ k = 3), if_neg (by omega : ¬ (k = 4 ∨ k = 6)), if_neg (by omega : ¬ (k = 5 ∨ k = 7 ∨ k = 8)), if_neg (by omega : ¬ k = 9), if_neg (by omega : ¬ k = 10), if_neg (by omega : ¬ k = 11)]
    constructor
    · rintro ⟨-, h, -⟩
      exact absurd h Bool.false_ne_true
    · rintro ⟨h, -⟩
      omega
end Go.Proofs.YtidlgecognedlaaGreatDoor.Ms
