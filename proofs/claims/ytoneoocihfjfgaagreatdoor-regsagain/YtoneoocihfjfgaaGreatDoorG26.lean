/-
  The reference's registers: what is submitted (R12.Submit), whatever it is.
-/
import Derived.Test.YtoneoocihfjfgaaGreatDoorFrt
import Derived.Test.YtoneoocihfjfgaaGreatDoorFrf
import Derived.Test.YtoneoocihfjfgaaGreatDoorG21
import Derived.Test.YtoneoocihfjfgaaGreatDoorEaf
import Derived.Test.YtoneoocihfjfgaaGreatDoorG20
import Derived.Test.YtoneoocihfjfgaaGreatDoorFof
namespace Go.Proofs.YtoneoocihfjfgaaGreatDoor.Ms
open Go Go.RowKit
theorem r12submit_any {w : World} {x : Nat} {G : List Nat} {R : Rs} (h : RY w x G R) {c : Int} {X : Sub} (hx : X.Wf) :
    Calls Tryz.prog 19 #[pt x 0, nu c, .agg (subC X).toArray] w (RSub w x G R c X) := by
  cases h1 : mayB (subM c X) with
  | false => exact rsub_a h hx h1
  | true =>
    cases h2 : hasB R.n c with
    | false => exact rsub_b h hx h1 h2
    | true =>
      cases h3 : hasB R.n X.target with
      | false => exact rsub_c h hx h1 h2 h3
      | true =>
        have hok : subOk R c X = true := by unfold subOk; rw [h1, h2, h3]; rfl
        obtain ⟨⟨h0, -⟩, -⟩ := subOk_parts hok
        obtain ⟨k, rfl⟩ : ∃ k : Nat, c = (k : Int) := ⟨c.toNat, by omega⟩
        by_cases h4 : X.number = (R.reg (k : Int)).asked.number
        · cases h5 : sameS X (R.reg (k : Int)).asked with
          | false => exact rsub_d h hx hok h4 h5
          | true => exact rsub_e h hx hok h4 h5
        · by_cases h5 : X.number = (R.reg (k : Int)).asked.number + 1
          · cases h6 : fullB R with
            | false => exact rsub_h h hx hok h5 h6
            | true => exact rsub_g h hx hok h5 h6
          · exact rsub_f h hx hok h4 h5
open Go Go.RowKit
theorem r12commit_any {w : World} {x : Nat} {G : List Nat} {R : Rs} (h : RY w x G R) {c : Int} {v t : List UInt8} (htl : t.length = 32) :
    Calls Tryz.prog 18 #[pt x 0, nu c, st v, .agg (dg t).toArray] w (RCom w x G R c v t) := by
  cases h1 : mayB (comM c v t) with
  | false => exact rcom_a h htl h1
  | true =>
    cases h2 : hasB R.n c with
    | false => exact rcom_b h htl h1 h2
    | true =>
      have hok : comOk R c v t = true := by unfold comOk; rw [h2, h1]; rfl
      obtain ⟨⟨h0, -⟩, -⟩ := comOk_parts hok
      obtain ⟨k, rfl⟩ : ∃ k : Nat, c = (k : Int) := ⟨c.toNat, by omega⟩
      by_cases h3 : lastI v = (k : Int)
      · by_cases h4 : (Hist.cnt v (k : Int) : Int) = (R.reg (k : Int)).asked.number
        · by_cases h6 : (Hist.cnt (R.reg (k : Int)).view (k : Int) : Int) = (R.reg (k : Int)).asked.number
          · exact rcom_e h htl hok h3 h4 h6
          · rcases Nat.lt_or_ge R.long.length v.length with h7 | h7
            · exact rcom_g h htl hok h3 h4 h6 h7
            · exact rcom_f h htl hok h3 h4 h6 h7
        · exact rcom_d h htl hok h3 h4
      · exact rcom_c h htl hok h3
open Go Go.RowKit
set_option maxRecDepth 100000
set_option maxHeartbeats 4000000 in
theorem r12order_any {w : World} {x : Nat} {G : List Nat} {R : Rs} (h : RY w x G R) : Calls Tryz.prog 21 #[pt x 0] w fun e w' => e = .returned (st (orderR R)) ∧ Below w.heap.size w w' := by
  obtain ⟨bs, br, bv, bt, ps, vP, Y, hz, -⟩ := h
  have cL := hz.cL
  have HZ := hid hz
  have hl1 := hz.inv.long
  have hl2 := hz.inv.plen
  have hcl' : Hid (∀ p ∈ R.pend, 0 ≤ p.client ∧ p.client < 256) := fun p hp => by
    have h1 := (hz.inv.pend p hp).cl
    have h2 := hz.inv.n
    exact ⟨h1.1, by omega⟩
  have hpe := hz.pens
  obtain ⟨va, vcap, rfl, -, -⟩ := hpe
  clear hz
  have HB := hid (below_bytes w ⟨R.long.toArray⟩)
  have HW := hid (brow_conv w R.long w.heap.size (Nat.le_refl _) (by omega))
  have hcv : (convert 9 70 (.string ⟨R.long.toArray⟩)).run Tryz.prog w = .ok (.slice (some ⟨w.heap.size, 0, none⟩) R.long.length (grownCap w R.long.length 0 5)) (Lib.bytesWorld w 5 ⟨R.long.toArray⟩) := Lib.run_convert_string_bytes w 9 70 5 ⟨R.long.toArray⟩ Tryz.underlying9 Tryz.underlying70 Tryz.underlying5
  go_enter Tryz.func21, Tryz.ntmps21
  generalize grownCap w R.long.length 0 5 = gc at *
  generalize Lib.bytesWorld w 5 ⟨R.long.toArray⟩ = W1 at *
  go_wp2
  clear hcv cL
  go_loopw [4, 3] (fun i vv wr => ∃ (k : Nat) (v : Value), k ≤ R.pend.length ∧ i = nu k ∧ v = vv ∧ Hid (brow wr w.heap.size v (R.long ++ (R.pend.take k).map fun x => by8 x.client)) ∧ Hid (Below w.heap.size w wr) ∧ Hid (v ≠ .slice none 0 0)) (fun i _ _ => R.pend.length - (intOf i).toNat)
  case atStart => exact ⟨0, _, by omega, rfl, rfl, by show brow _ _ _ _; simpa using HW.out, HB.out, fun h => by cases h⟩
  case round =>
    obtain ⟨k, v3, hk, rfl, rfl, HV, HBr, HNN⟩ := hrel
    clear HB HW
    have ZK := hid (HZ.out.kept HBr.out)
    have cP := ZK.out.cP
    have hs2 : w.heap.size ≤ wr.heap.size := HBr.out.size
    by_cases hlt : k < R.pend.length
    · have d1 : decide ((k : Int) < (R.pend.length : Int)) = true := decide_eq_true (by omega)
      have d1' : decide (k < R.pend.length) = true := decide_eq_true hlt
      have hpk := hcl'.out _ (List.getElem_mem hlt)
      obtain ⟨va', cap', ev, hcap, hat'⟩ := ZK.out.pens
      cases ev
      obtain ⟨b, off, rfl, -, hcc⟩ := hat' (fun e => by rw [e] at hlt; exact absurd hlt (Nat.not_lt_zero k))
      obtain ⟨d, hd⟩ : ∃ d : Nat, R.pend[k].client = (d : Int) := ⟨R.pend[k].client.toNat, by omega⟩
      have hd8 : d < 256 := by omega
      have c0 : wr.cell? ⟨b, off + k * 68, none⟩ = some (nu (d : Int)) := by
        rw [← hd]
        refine hcc k hlt 0 _ ?_
        rw [List.getD_eq_getElem?_getD, List.getElem?_eq_getElem hlt]
        rfl
      have htk : (R.pend.take (k + 1)).map (fun x => by8 x.client) = (R.pend.take k).map (fun x => by8 x.client) ++ [by8 R.pend[k].client] := by
        rw [List.take_succ_eq_append_getElem hlt, List.map_append]
        rfl
      rw [hd] at htk
      have hbv : Ms.bv (by8 (d : Int)) = (d : Int) := by8_val _ (by omega)
      have hll' : (R.long ++ (R.pend.take k).map fun x => by8 x.client).length ≤ 2000 := by simp; omega
      have HNX : Hid ((R.long ++ (R.pend.take k).map fun x => by8 x.client) ++ [by8 (d : Int)] = R.long ++ (R.pend.take (k + 1)).map fun x => by8 x.client) := by show _ = _; rw [htk, List.append_assoc]
      clear hcc hpk hd htk hat' ZK
      generalize (R.long ++ (R.pend.take k).map fun x => by8 x.client) = PL at *
      have hu : brow (wr.alloc (.cells #[.int .u8 (d : Int)] 5)) wr.heap.size (.slice (some ⟨wr.heap.size, 0, none⟩) 1 1) [by8 (d : Int)] := by
        have := brow_one wr wr.heap.size (by8 (d : Int)) (Nat.le_refl _)
        rw [show Go.Proofs.YtoneoocihfjfgaaGreatDoor.bv (by8 (d : Int)) = (d : Int) from hbv] at this
        exact this
      have HU := hid hu
      have V2 : Hid (brow (wr.alloc (.cells #[.int .u8 (d : Int)] 5)) w.heap.size v3 PL) := brow_below HV.out (below_a1 wr _) (Nat.le_refl _)
      have B2 := hid (below_two HBr.out (below_a1 wr (.cells #[.int .u8 (d : Int)] 5)))
      have OB := hid (brow_own HV.out)
      clear hu HV
      go_wp2_with (first | (at_builtin; refine wpList_app rfl _ _ rfl w.heap.size wr.heap.size v3 _ PL [by8 (d : Int)] rfl rfl V2.out HU.out (Or.inl HNN.out) (by simp; omega) (by simp; omega) ?_; intro v4 W4 hv4 hg4; rw [HNX.out] at hv4; have V4 := hid hv4; have G4 := hid hg4; clear hv4 hg4))
      refine ⟨⟨k + 1, v4, by omega, by go_num, rfl, V4.out, ?_, ?_⟩, by simp [intOf]; omega⟩
      · exact ((Kp.of (X := []) B2.out).grown G4.out (fun b hb => Or.inr (OB.out b hb))).below (by simp) (Nat.le_refl _)
      · rintro rfl
        rcases V4.out with ⟨-, e⟩ | ⟨g', cap', cur', fz', e, -⟩
        · rw [← HNX.out] at e
          simp at e
        · cases e
    · have e : k = R.pend.length := by omega
      subst e
      rw [List.take_length] at HV
      have hll' : (R.long ++ R.pend.map fun x => by8 x.client).length ≤ 2000 := by simp; omega
      have hx := conv_brow HV.out
      have HOe : Hid (orderR R = R.long ++ R.pend.map fun x => by8 x.client) := rfl
      generalize (R.long ++ R.pend.map fun x => by8 x.client) = PL at *
      clear HV
      go_wp2
      go_ret
      exact ⟨by rw [HOe.out]; rfl, HBr.out⟩
open Go Go.RowKit
set_option maxRecDepth 100000
set_option maxHeartbeats 4000000 in
theorem rsame_any {w : World} {p x : Nat} {F G : List Nat} {R : Rs} (h : RX w p F R) (hy : RY w x G R) : Calls Tryz.prog 9 #[.pointer (some ⟨p, 0, none⟩), pt x 0] w fun e w' => e = .returned (.bool true) ∧ Below w.heap.size w w' := by
  have HN := hid (number_x h)
  have HW := hid (view_x h)
  have HI := hid (r12is_any hy)
  have HO := hid (order_x h)
  have HQ := hid (fun (W : World) (hb : Below w.heap.size w W) => r12order_any (hy.kept hb))
  obtain ⟨bs, br, bv, bt, ps, vP, Y, hz, -⟩ := hy
  have cS := hz.cS
  have cV := hz.cV
  unfold sl at cS cV
  have HZ := hid hz
  clear hz h
  go_enter Tryz.func9, Tryz.ntmps9
  go_wp2
  go_loopw [5] (fun i wr => ∃ c : Int, -1 ≤ c ∧ c ≤ 9 ∧ i = nu c ∧ wr = w) (fun i _ => (9 - intOf i).toNat)
  case atStart => exact ⟨-1, by omega, by omega, rfl, rfl⟩
  case round =>
    obtain ⟨c, h1, h2, rfl, rfl⟩ := hrel
    by_cases hlt : c < 9
    · have d1 : decide (c < 9) = true := decide_eq_true hlt
      have I1 := hid (HI.out c)
      have N1 := hid (HN.out c)
      have V1 := hid (HW.out c)
      unfold numR at N1
      unfold viewR at V1
      cases hh : hasB R.n c with
      | false =>
        rw [hh] at I1
        rw [if_neg (by rw [hh]; simp)] at N1 V1
        clear cS cV
        go_wp2_with fail
        refine I1.out.mono ?_
        rintro e w1 ⟨rfl, hw1⟩
        subst w1
        go_wp2_with fail
        refine N1.out.mono ?_
        rintro e w1 ⟨rfl, hw1⟩
        subst w1
        go_wp2_with fail
        refine V1.out.mono ?_
        rintro e w1 ⟨rfl, hw1⟩
        subst w1
        go_wp2
        refine ⟨⟨c + 1, by omega, by omega, by go_num, by first | rfl | trivial⟩, by simp [intOf]; omega⟩
      | true =>
        rw [hh] at I1
        rw [if_pos hh] at N1 V1
        obtain ⟨k, rfl⟩ : ∃ k : Nat, c = (k : Int) := ⟨c.toNat, by have := (hasB_iff _ _).1 hh; omega⟩
        have hkR : k < R.n := by have := (hasB_iff _ _).1 hh; omega
        have c2 : wr.cell? ⟨bs, k * 68, none⟩ = some (nu (R.reg (k : Int)).asked.number) := HZ.out.sub hkR 0 _ rfl
        have c3 := HZ.out.view hkR
        generalize (R.reg (k : Int)).asked.number = AN at *
        generalize (R.reg (k : Int)).view = AV at *
        go_wp2_with fail
        refine I1.out.mono ?_
        rintro e w1 ⟨rfl, hw1⟩
        subst w1
        go_wp2_with fail
        refine N1.out.mono ?_
        rintro e w1 ⟨rfl, hw1⟩
        subst w1
        go_wp2_with fail
        refine V1.out.mono ?_
        rintro e w1 ⟨rfl, hw1⟩
        subst w1
        go_wp2
        refine ⟨⟨(k : Int) + 1, by omega, by omega, by go_num, by first | rfl | trivial⟩, by simp [intOf]; omega⟩
    · have e : c = 9 := by omega
      subst e
      clear cS cV
      generalize orderR R = OR at *
      go_wp2_with fail
      refine HO.out.mono ?_
      rintro e w1 ⟨rfl, hb1⟩
      have B1 := hid hb1
      clear hb1
      go_wp2_with fail
      refine (HQ.out _ B1.out).mono ?_
      rintro e w2 ⟨rfl, hb2⟩
      have B2 := hid (below_two B1.out hb2)
      clear hb2
      go_wp2
      go_ret
      exact ⟨rfl, B2.out⟩
open Go Go.RowKit
set_option maxRecDepth 100000
theorem sub_rngD {c : Int} {x : Sub} (hc : I64 c) (hn : I64 x.number) (hk : I64 x.kind) (ht : I64 x.target) : (subM c x).Rng := by
  have h := zeroM_rng 1 c ⟨by decide, by decide⟩ hc
  exact ⟨h.kind, h.client, hn, hk, ht, h.rn, h.rl, h.rv, h.who, h.bo, h.bn, h.ns, h.ps⟩
def KInv (R : Rs) : Prop := ∀ g ∈ R.regs, I64 g.asked.kind ∧ I64 g.asked.target
theorem KInv.reg {R : Rs} (h : KInv R) (c : Int) : I64 (R.reg c).asked.kind ∧ I64 (R.reg c).asked.target := by
  unfold Rs.reg
  by_cases hc : c.toNat < R.regs.length
  · rw [List.getD_eq_getElem?_getD, List.getElem?_eq_getElem hc]
    exact h _ (List.getElem_mem hc)
  · rw [List.getD_eq_getElem?_getD, List.getElem?_eq_none (by omega)]
    exact ⟨⟨by decide, by decide⟩, ⟨by decide, by decide⟩⟩
theorem KInv.new (n : Nat) : KInv (newR n) := fun g hg => by
  rw [List.eq_of_mem_replicate hg]
  exact ⟨⟨by decide, by decide⟩, ⟨by decide, by decide⟩⟩
theorem KInv.sub {R : Rs} (h : KInv R) {c : Int} {x : Sub} (hk : I64 x.kind) (ht : I64 x.target) : KInv (subR R c x) := by
  unfold subR
  split
  · exact h
  · split
    · exact h
    · intro g hg
      rcases mem_set_cases hg with hg | rfl
      · exact h g hg
      · exact ⟨hk, ht⟩
theorem KInv.com {R : Rs} (h : KInv R) {c : Int} {v t : List UInt8} : KInv (comR R c v t) := by
  have h0 : KInv (comS R c v t) := fun g hg => by
    rcases mem_set_cases hg with hg | rfl
    · exact h g hg
    · exact h.reg c
  unfold comR
  split
  · exact h
  · split
    · exact h0
    · exact h0
theorem ofS_ok {R : Rs} (h : RInv R) (hk : KInv R) {a : Rac} (ha : a.Ok) : (ofS R a).Wf ∧ I64 (ofS R a).number ∧ I64 (ofS R a).kind ∧ I64 (ofS R a).target := by
  have h1 := (h.reg a.client).num
  have h2 := hk.reg a.client
  unfold ofS
  split
  · exact ⟨ha.wf, ha.xn, ha.xk, ha.xt⟩
  · split
    · exact ⟨⟨ha.wf.asked, ha.wf.data⟩, ⟨by show (-9223372036854775808 : Int) ≤ (R.reg a.client).asked.number + 1; omega, by show (R.reg a.client).asked.number + 1 ≤ 9223372036854775807; omega⟩, ha.xk, ha.xt⟩
    · split
      · exact ⟨ha.wf, ha.xn, ha.xk, ha.xt⟩
      · split
        · exact ⟨ha.wf, ha.xn, ha.xk, ha.xt⟩
        · exact ⟨(h.reg a.client).asked, ⟨by omega, by omega⟩, h2.1, h2.2⟩
def doR (R : Rs) (a : Rac) : Rs := if comB a = true then comR R a.client (ofV R a) a.tag else subR R a.client (ofS R a)
theorem KInv.doR {R : Rs} (h : KInv R) (hi : RInv R) {a : Rac} (ha : a.Ok) : KInv (doR R a) := by
  unfold Ms.doR
  split
  · exact h.com
  · exact h.sub (ofS_ok hi h ha).2.2.1 (ofS_ok hi h ha).2.2.2
def DoP (w : World) (p x : Nat) (F G : List Nat) (S : Rs) (w' : World) : Prop := ∃ F' G', RX w' p F' S ∧ RY w' x G' S ∧ (∀ b ∈ F', b ∉ G') ∧ Kp (F ++ G) w w' ∧ (∀ b ∈ F', b ∈ F ∨ w.heap.size ≤ b) ∧ ∀ b ∈ G', b ∈ G ∨ w.heap.size ≤ b
theorem RY.lt {w : World} {x : Nat} {G : List Nat} {R : Rs} (h : RY w x G R) : ∀ b ∈ G, b < w.heap.size := by
  obtain ⟨bs, br, bv, bt, ps, vP, Y, -, -, h3⟩ := h
  exact h3
theorem RX.lt {w : World} {p : Nat} {F : List Nat} {R : Rs} (h : RX w p F R) : ∀ b ∈ F, b < w.heap.size := by
  obtain ⟨q, rs, vs, vP, -, -, h3⟩ := h
  exact h3
theorem duo1 {W W' : World} {x : Nat} {F F' G : List Nat} {S : Rs} (hy : RY W x G S) (hd : ∀ b ∈ F, b ∉ G) (hk : Kp F W W') (hf : ∀ b ∈ F', b ∈ F ∨ W.heap.size ≤ b) : RY W' x G S ∧ ∀ b ∈ F', b ∉ G := by
  refine ⟨hy.kp hk (fun b hb hx => hd b hx hb), fun b hb hg => ?_⟩
  rcases hf b hb with e | e
  · exact hd b e hg
  · have := hy.lt b hg
    omega
theorem duo2 {W W' : World} {p : Nat} {F G G' : List Nat} {R : Rs} (hx : RX W p F R) (hd : ∀ b ∈ F, b ∉ G) (hk : Kp G W W') (hg : ∀ b ∈ G', b ∈ G ∨ W.heap.size ≤ b) : RX W' p F R ∧ ∀ b ∈ F, b ∉ G' := by
  refine ⟨hx.kp hk (fun b hb hx => hd b hb hx), fun b hb hg' => ?_⟩
  rcases hg b hg' with e | e
  · exact hd b hb e
  · have := hx.lt b hb
    omega
theorem pens_one {w : World} {v : Value} {l : List Pen} (h : PensAt w v l) : v.oneCell' = true := by
  obtain ⟨a, cap, rfl, -⟩ := h
  rfl
theorem enterCo (args : Array Value) (w : World) : (callFunc 16 args).run Tryz.prog w = .ok (.enter 16 args) w := by kernel_rfl
theorem enterRc (args : Array Value) (w : World) : (callFunc 18 args).run Tryz.prog w = .ok (.enter 18 args) w := by kernel_rfl
theorem szA {a : Rac} (ha : a.Ok) : (Tryz.prog.info? 36).map (·.size) = some (racC a).length := by
  rw [racC, ractC_len ha.wf ha.t]
  exact sizeRac
set_option maxHeartbeats 8000000 in
theorem do_sub {w : World} {p x : Nat} {F G : List Nat} {R : Rs} (h : RX w p F R) (hy : RY w x G R) (hd : ∀ b ∈ F, b ∉ G) (hK : KInv R) {a : Rac} (ha : a.Ok) (ht : Tb w) (hc : comB a = false) :
    Calls Tryz.prog 8 #[pt p 0, pt x 0, .agg (racC a).toArray] w fun e w' => e = .returned (.bool true) ∧ DoP w p x F G (subR R a.client (ofS R a)) w' := by
  have B0 := hid (below_a1 w (.cells (racC a).toArray 36))
  have T0 := hid (top_obj w (.cells (racC a).toArray 36))
  have H0 := hid (h.kept B0.out)
  have Y0 := hid (hy.kept B0.out)
  have HO := hid (of_any Y0.out ha)
  have HC : Hid (∀ W, Calls Tryz.prog 11 #[.agg (racC a).toArray] W fun e w' => e = .returned (.bool false) ∧ Below W.heap.size W w') := fun W => by
    have := commits_any W a
    rwa [hc] at this
  have ZC := hid (szA ha)
  obtain ⟨o1, o2, o3, o4⟩ := ofS_ok h.inv hK ha
  have hrg := sub_rngD ha.c o2 o3 o4
  obtain ⟨s, HS⟩ : ∃ s, Hid (s = ofS R a) := ⟨_, rfl⟩
  obtain ⟨vv, HVV⟩ : ∃ vv, Hid (vv = ofV R a) := ⟨_, rfl⟩
  rw [← HS.out] at HO o1 hrg
  rw [← HVV.out] at HO
  have HEnd : Hid (∀ w', DoP w p x F G (subR R a.client s) w' → DoP w p x F G (subR R a.client (ofS R a)) w') := fun w' h => by rw [← HS.out]; exact h
  have HW := hid o1
  have HR := hid hrg
  have HT := hid (ht.stays B0.out)
  have YW := hid (subY_wf h.inv a.client s)
  have HD := hid hd
  have HAc := hid (fun (W : World) (hr : W.heap[w.heap.size]? = some (.cells (racC a).toArray 36)) => rac_client hr)
  have HFl := hid h.lt
  have HGl := hid hy.lt
  have hpl : (subY R a.client s).pend.length ≤ 9223372036854775807 := by
    have h1 := h.inv.plen
    have h2 := (h.inv.reg a.client).apend
    unfold subY
    split
    · exact Nat.zero_le _
    · split
      · omega
      · rw [ansR_pend, provenL_len]
        omega
  have HPl := hid hpl
  have LV := racC a
  clear hc o1 o2 o3 o4 hrg h hy ht hd hpl LV
  generalize a.client = c at *
  generalize racC a = V at *
  go_enter Tryz.func8, Tryz.ntmps8
  go_upto_region 1 with fail
  have gW0 : Hid (w.heap.size < (w.alloc (.cells V.toArray 36)).heap.size) := row_ltA T0.out
  generalize w.alloc (.cells V.toArray 36) = W0 at *
  obtain ⟨g0, hg0⟩ : ∃ g0, g0 = w.heap.size := ⟨_, rfl⟩
  rw [← hg0] at T0 HAc ⊢
  have HG0 := hid hg0
  clear hg0
  go_upto_region 2 with (first
    | ((with_reducible refine wl_load 36 (.tmp 5) ?_ g0 0 ?_ ?_ V _ (row_zero T0.out) Tryz.underlying36 ?_ ZC.out ?_); exact rfl; exact rfl; exact rfl; exact rfl)
    | (go_at_call 10; refine HO.out.mono ?_; rintro e W1 ⟨rfl, b1⟩; have B1 := hid b1; clear b1)
    | ((with_reducible refine wl_alloc 34 ?_ ?_ (subC zeroS).toArray zeroSub ?_); exact rfl; exact rfl)
    | ((with_reducible refine wl_store_top 34 (.tmp 7) (.tmp 17) ?_ ?_ ?_ ?_ (subC s) (subC zeroS) ?_ 34 (lnS HW.out) (one_sub s) (szS HW.out) ?_); exact rfl; exact rfl; exact rfl; exact rfl; exact rfl))
  have D2 := hid (below_a1 W1 (.cells (subC s).toArray 34))
  have S2 := hid (top_obj W1 (.cells (subC s).toArray 34))
  have C2 := hid (below_two B1.out D2.out)
  have T2 := hid (row_kept T0.out C2.out)
  have H2 := hid (H0.out.kept C2.out)
  have Y2 := hid (Y0.out.kept C2.out)
  have hs1 : W0.heap.size ≤ W1.heap.size := B1.out.size
  generalize W1.alloc (.cells (subC s).toArray 34) = W2 at *
  generalize W1.heap.size = gS at *
  go_upto_region 4 with (first
    | ((with_reducible refine wl_load 36 (.tmp 5) ?_ g0 0 ?_ ?_ V _ (row_zero T2.out) Tryz.underlying36 ?_ ZC.out ?_); exact rfl; exact rfl; exact rfl; exact rfl)
    | (go_at_call 11; refine (HC.out _).mono ?_; rintro e W3 ⟨rfl, b3⟩; have B3 := hid b3; clear b3))
  have C3 := hid (below_two C2.out B3.out)
  have T3 := hid (row_kept T2.out B3.out)
  have S3 := hid (row_kept S2.out B3.out)
  have H3 := hid (H2.out.kept B3.out)
  have Y3 := hid (Y2.out.kept B3.out)
  have c3 := HAc.out _ T3.out
  have HSu := hid (submit_x H3.out (c := c) HW.out HR.out (HT.out.stays C3.out))
  clear HO HC B1 D2 B3 H2 Y2 T2 S2 H0 Y0 T0
  go_upto_region 5 with (first
    | ((with_reducible refine wl_load 34 (.tmp 7) ?_ gS 0 ?_ ?_ (subC s) _ (row_zero S3.out) Tryz.underlying34 ?_ (szS HW.out) ?_); exact rfl; exact rfl; exact rfl; exact rfl)
    | (go_at_call 13; refine HSu.out.mono ?_; rintro e W4 ⟨v4, F4, rfl, h4, o4, n4, k4, f4⟩; have H4 := hid h4; have O4 := hid o4; have N4 : Hid (∀ b, v4.ownBlock = some b → W3.heap.size ≤ b ∧ b ∉ F4) := n4; have K4 := hid k4; have F4' := hid f4; clear h4 o4 n4 k4 f4)
    | ((with_reducible refine wl_alloc 45 ?_ ?_ (repC zeroR (.slice none 0 0)).toArray zeroRep ?_); exact rfl; exact rfl)
    | ((with_reducible refine wl_store_top 45 (.tmp 9) (.tmp 42) ?_ ?_ ?_ ?_ (repC (subY R c s) v4) (repC zeroR (.slice none 0 0)) ?_ 45 (lnR YW.out _) (one_rep _ _ O4.out.one) (szR YW.out _) ?_); exact rfl; exact rfl; exact rfl; exact rfl; exact rfl))
  obtain ⟨y4, d4⟩ := duo1 Y3.out HD.out K4.out F4'.out
  have hgF : g0 ∉ F := fun hx => by have := HFl.out g0 hx; have := HG0.out; omega
  have hgS : gS ∉ F := fun hx => by have h1 := HFl.out gS hx; have h2 := HG0.out; have h3 := gW0.out; omega
  have D5 := hid (below_a1 W4 (.cells (repC (subY R c s) v4).toArray 45))
  have Q5 := hid (top_obj W4 (.cells (repC (subY R c s) v4).toArray 45))
  have T5 := hid (row_kept (K4.out.row T3.out hgF) D5.out)
  have S5 := hid (row_kept (K4.out.row S3.out hgS) D5.out)
  have H5 := hid (H4.out.kept D5.out)
  have Y5 := hid (y4.kept D5.out)
  have O5 := hid (O4.out.kept D5.out)
  have HD4 := hid d4
  have K5 := hid (K4.out.trans (Kp.of D5.out))
  have hs4 : W3.heap.size ≤ W4.heap.size := K4.out.size
  have hs3 := C3.out.size
  have hgS4 : gS < W3.heap.size := row_ltA S3.out
  clear y4 d4 D5 H4 O4 K4 T3 S3 H3 Y3 c3
  generalize W4.alloc (.cells (repC (subY R c s) v4).toArray 45) = W5 at *
  generalize W4.heap.size = gQ at *
  have c5 := HAc.out _ T5.out
  have HRu := hid (r12submit_any Y5.out (c := c) HW.out)
  go_upto_region 6 with (first
    | ((with_reducible refine wl_load 34 (.tmp 7) ?_ gS 0 ?_ ?_ (subC s) _ (row_zero S5.out) Tryz.underlying34 ?_ (szS HW.out) ?_); exact rfl; exact rfl; exact rfl; exact rfl)
    | (go_at_call 19; refine HRu.out.mono ?_; rintro e W6 ⟨u6, G6, rfl, y6, p6, k6, g6⟩; have Y6 := hid y6; have P6 := hid p6; have K6 := hid k6; have G6' := hid g6; clear y6 p6 k6 g6)
    | ((with_reducible refine wl_alloc 45 ?_ ?_ (repC zeroR (.slice none 0 0)).toArray zeroRep ?_); exact rfl; exact rfl)
    | ((with_reducible refine wl_store_top 45 (.tmp 11) (.tmp 50) ?_ ?_ ?_ ?_ (repC (subY R c s) u6) (repC zeroR (.slice none 0 0)) ?_ 45 (lnR YW.out _) (one_rep _ _ (pens_one P6.out)) (szR YW.out _) ?_); exact rfl; exact rfl; exact rfl; exact rfl; exact rfl))
  obtain ⟨x6, d6⟩ := duo2 H5.out HD4.out K6.out G6'.out
  have hGl5 : Hid (∀ b ∈ G, b < g0) := fun b hb => by rw [HG0.out]; exact HGl.out b hb
  have hQG : gQ ∉ G := fun hx => by have h1 := hGl5.out gQ hx; have h2 := HG0.out; have h3 := gW0.out; omega
  have hvG : ∀ b, v4.ownBlock = some b → b ∉ G := fun b hb hx => by
    have h1 := (N4.out b hb).1
    have h2 := hGl5.out b hx
    have h3 := gW0.out
    have h4 := HG0.out
    omega
  have D7 := hid (below_a1 W6 (.cells (repC (subY R c s) u6).toArray 45))
  have R7 := hid (top_obj W6 (.cells (repC (subY R c s) u6).toArray 45))
  have Q7 := hid (row_kept (K6.out.row Q5.out hQG) D7.out)
  have X7 := hid (x6.kept D7.out)
  have Y7 := hid (Y6.out.kept D7.out)
  have HD6 := hid d6
  have O7 := hid (((O5.out.kp K6.out hvG).kept D7.out).pens YW.out.pend)
  have P7 := hid (P6.out.kept D7.out)
  have K7 : Hid (Kp (F ++ G) w (W6.alloc (.cells (repC (subY R c s) u6).toArray 45))) := ((((Kp.of (below_two B0.out C3.out)).then K5.out (fun b hb => Or.inl (by simp [hb]))).then K6.out (fun b hb => Or.inl (by simp [hb]))).trans (Kp.of D7.out))
  have hw3 : w.heap.size ≤ W3.heap.size := (below_two B0.out C3.out).size
  have hw5 : w.heap.size ≤ W5.heap.size := ((Kp.of (X := F) (below_two B0.out C3.out)).trans K5.out).size
  clear x6 d6 D7 Y6 K6 P6 K5 H5 Y5 O5 T5 S5 c5 HRu HSu
  generalize W6.alloc (.cells (repC (subY R c s) u6).toArray 45) = W7 at *
  generalize W6.heap.size = gR at *
  have HSm := hid (samereply_any YW.out YW.out O7.out P7.out HPl.out)
  rw [(sameR_iff _ _).2 rfl] at HSm
  generalize subE R c s = EE at *
  go_wp2_with (first
    | ((with_reducible refine wl_load 45 (.tmp 9) ?_ gQ 0 ?_ ?_ (repC (subY R c s) v4) _ (row_zero Q7.out) Tryz.underlying45 ?_ (szR YW.out _) ?_); exact rfl; exact rfl; exact rfl; exact rfl)
    | ((with_reducible refine wl_load 45 (.tmp 11) ?_ gR 0 ?_ ?_ (repC (subY R c s) u6) _ (row_zero R7.out) Tryz.underlying45 ?_ (szR YW.out _) ?_); exact rfl; exact rfl; exact rfl; exact rfl)
    | (go_at_call 15; refine HSm.out.mono ?_; rintro e W8 ⟨rfl, b8⟩; have B8 := hid b8; clear b8))
  go_ret
  refine ⟨rfl, HEnd.out _ ⟨F4, G6, X7.out.kept B8.out, Y7.out.kept B8.out, HD6.out, K7.out.trans (Kp.of B8.out), fun b hb => ?_, fun b hb => ?_⟩⟩
  · rcases F4'.out b hb with e | e
    · exact Or.inl e
    · exact Or.inr (by omega)
  · rcases G6'.out b hb with e | e
    · exact Or.inl e
    · exact Or.inr (by omega)
set_option maxHeartbeats 8000000 in
theorem do_com {w : World} {p x : Nat} {F G : List Nat} {R : Rs} (h : RX w p F R) (hy : RY w x G R) (hd : ∀ b ∈ F, b ∉ G) {a : Rac} (ha : a.Ok) (hsw : (ofS R a).Wf) (ht : Tb w) (hc : comB a = true) :
    Calls Tryz.prog 8 #[pt p 0, pt x 0, .agg (racC a).toArray] w fun e w' => e = .returned (.bool true) ∧ DoP w p x F G (comR R a.client (ofV R a) a.tag) w' := by
  have B0 := hid (below_a1 w (.cells (racC a).toArray 36))
  have T0 := hid (top_obj w (.cells (racC a).toArray 36))
  have H0 := hid (h.kept B0.out)
  have Y0 := hid (hy.kept B0.out)
  have HO := hid (of_any Y0.out ha)
  have HC : Hid (∀ W, Calls Tryz.prog 11 #[.agg (racC a).toArray] W fun e w' => e = .returned (.bool true) ∧ Below W.heap.size W w') := fun W => by
    have := commits_any W a
    rwa [hc] at this
  have ZC := hid (szA ha)
  obtain ⟨s, HS⟩ : ∃ s, Hid (s = ofS R a) := ⟨_, rfl⟩
  obtain ⟨vv, HVV⟩ : ∃ vv, Hid (vv = ofV R a) := ⟨_, rfl⟩
  rw [← HS.out] at HO hsw
  rw [← HVV.out] at HO
  have HEnd : Hid (∀ w', DoP w p x F G (comR R a.client vv a.tag) w' → DoP w p x F G (comR R a.client (ofV R a) a.tag) w') := fun w' h => by rw [← HVV.out]; exact h
  have HW := hid hsw
  have HT := hid (ht.stays B0.out)
  have HD := hid hd
  have HAk := hid ha
  have HAc := hid (fun (W : World) (hr : W.heap[w.heap.size]? = some (.cells (racC a).toArray 36)) => rac_client hr)
  have HAt := hid (fun (W : World) (hr : W.heap[w.heap.size]? = some (.cells (racC a).toArray 36)) => rac_tag hr ha.wf)
  have HFl := hid h.lt
  have HGl := hid hy.lt
  have HtL := hid ha.t
  have HcI := hid ha.c
  have ZT : (Tryz.prog.info? 32).map (·.size) = some (dg a.tag).length := by rw [dg_len, ha.t]; exact sizeDig
  clear hc hsw h hy ht hd
  generalize a.client = c at *
  generalize a.tag = t at *
  generalize racC a = V at *
  go_enter Tryz.func8, Tryz.ntmps8
  go_upto_region 1 with fail
  have gW0 : Hid (w.heap.size < (w.alloc (.cells V.toArray 36)).heap.size) := row_ltA T0.out
  generalize w.alloc (.cells V.toArray 36) = W0 at *
  obtain ⟨g0, hg0⟩ : ∃ g0, g0 = w.heap.size := ⟨_, rfl⟩
  rw [← hg0] at T0 HAc HAt ⊢
  have HG0 := hid hg0
  clear hg0
  go_upto_region 2 with (first
    | ((with_reducible refine wl_load 36 (.tmp 5) ?_ g0 0 ?_ ?_ V _ (row_zero T0.out) Tryz.underlying36 ?_ ZC.out ?_); exact rfl; exact rfl; exact rfl; exact rfl)
    | (go_at_call 10; refine HO.out.mono ?_; rintro e W1 ⟨rfl, b1⟩; have B1 := hid b1; clear b1)
    | ((with_reducible refine wl_alloc 34 ?_ ?_ (subC zeroS).toArray zeroSub ?_); exact rfl; exact rfl)
    | ((with_reducible refine wl_store_top 34 (.tmp 7) (.tmp 17) ?_ ?_ ?_ ?_ (subC s) (subC zeroS) ?_ 34 (lnS HW.out) (one_sub s) (szS HW.out) ?_); exact rfl; exact rfl; exact rfl; exact rfl; exact rfl))
  have D2 := hid (below_a1 W1 (.cells (subC s).toArray 34))
  have C2 := hid (below_two B1.out D2.out)
  have T2 := hid (row_kept T0.out C2.out)
  have H2 := hid (H0.out.kept C2.out)
  have Y2 := hid (Y0.out.kept C2.out)
  generalize W1.alloc (.cells (subC s).toArray 34) = W2 at *
  generalize W1.heap.size = gS at *
  go_upto_region 3 with (first
    | ((with_reducible refine wl_load 36 (.tmp 5) ?_ g0 0 ?_ ?_ V _ (row_zero T2.out) Tryz.underlying36 ?_ ZC.out ?_); exact rfl; exact rfl; exact rfl; exact rfl)
    | (go_at_call 11; refine (HC.out _).mono ?_; rintro e W3 ⟨rfl, b3⟩; have B3 := hid b3; clear b3))
  have C3 := hid (below_two C2.out B3.out)
  have T3 := hid (row_kept T2.out B3.out)
  have H3 := hid (H2.out.kept B3.out)
  have Y3 := hid (Y2.out.kept B3.out)
  have hw3 : w.heap.size ≤ W3.heap.size := (below_two B0.out C3.out).size
  have hg0F : g0 ∉ F ++ G := fun hx => by
    have h0 := HG0.out
    rcases List.mem_append.1 hx with e | e
    · have := HFl.out g0 e
      omega
    · have := HGl.out g0 e
      omega
  clear HO HC B1 D2 B3 H2 Y2 T2 H0 Y0 T0
  obtain ⟨E, HE⟩ : ∃ E, Hid (E = comE R c vv t) := ⟨_, rfl⟩
  obtain ⟨S, HS2⟩ : ∃ S, Hid (S = comR R c vv t) := ⟨_, rfl⟩
  rw [← HS2.out] at HEnd
  refine wp_region_two (N := 60) 6 13 [pt p 0, pt g0 1, nu c, st vv, pt g0 71, .agg (dg t).toArray, nu E, pt x 0, pt g0 1, nu c, st vv, pt g0 71, .agg (dg t).toArray, nu E, .bool true, .bool true]
    (fun W => W.heap[g0]? = some (.cells V.toArray 36)) (fun W => Below W3.heap.size W3 W) (fun W => ∃ F', RX W p F' S ∧ RY W x G R ∧ (∀ b ∈ F', b ∉ G) ∧ Kp (F ++ G) W3 W ∧ (∀ b ∈ F', b ∈ F ∨ W3.heap.size ≤ b)) (fun W => DoP W3 p x F G S W)
    (by kernel_rfl) (by kernel_rfl) rfl (fun o ho => by cases ho; kernel_rfl) (by decide) (fun w1 hb => hb) (fun W hW => row_kept T3.out hW) (fun W ⟨_, _, _, _, hW, _⟩ => hW.row T3.out hg0F) (fun W ⟨_, _, _, _, _, hW, _⟩ => hW.row T3.out hg0F) ?_ ?_ ?_ (by decide) ?_
  · intro i o n1 n2 ho
    match i, ho with
    | 0, ho => cases ho; exact fun a W hR hk hc K h => op_move 0 _ rfl (hk 0 (by kernel_rfl)) h
    | 1, ho => cases ho; exact fun a W hR hk hc K h => op_fa 5 _ 1 g0 0 1 rfl (fun W => fq48_1 _ _ W) (hk 5 (by kernel_rfl)) h
    | 2, ho => cases ho; exact fun a W hR hk hc K h => op_load1 _ (.tmp 22) rfl g0 1 (hc 1 22 (by kernel_rfl) (by kernel_rfl)) _ _ (HAc.out _ hR) Tryz.underlying3 rfl h
    | 3, ho => cases ho; exact fun a W hR hk hc K h => op_move 8 _ rfl (hk 8 (by kernel_rfl)) h
    | 4, ho => cases ho; exact fun a W hR hk hc K h => op_fa 5 _ 4 g0 0 71 rfl (fun W => fq48_4 _ _ W) (hk 5 (by kernel_rfl)) h
    | 5, ho => cases ho; exact fun a W hR hk hc K h => op_load _ (.tmp 25) rfl g0 71 (hc 4 25 (by kernel_rfl) (by kernel_rfl)) (dg t) _ (HAt.out _ hR) Tryz.underlying32 rfl ZT h
    | 7, ho => cases ho; exact fun a W hR hk hc K h => op_move 1 _ rfl (hk 1 (by kernel_rfl)) h
    | 8, ho => cases ho; exact fun a W hR hk hc K h => op_fa 5 _ 1 g0 0 1 rfl (fun W => fq48_1 _ _ W) (hk 5 (by kernel_rfl)) h
    | 9, ho => cases ho; exact fun a W hR hk hc K h => op_load1 _ (.tmp 29) rfl g0 1 (hc 8 29 (by kernel_rfl) (by kernel_rfl)) _ _ (HAc.out _ hR) Tryz.underlying3 rfl h
    | 10, ho => cases ho; exact fun a W hR hk hc K h => op_move 8 _ rfl (hk 8 (by kernel_rfl)) h
    | 11, ho => cases ho; exact fun a W hR hk hc K h => op_fa 5 _ 4 g0 0 71 rfl (fun W => fq48_4 _ _ W) (hk 5 (by kernel_rfl)) h
    | 12, ho => cases ho; exact fun a W hR hk hc K h => op_load _ (.tmp 32) rfl g0 71 (hc 11 32 (by kernel_rfl) (by kernel_rfl)) (dg t) _ (HAt.out _ hR) Tryz.underlying32 rfl ZT h
    | 14, ho => cases ho; exact fun a W hR hk hc K h => op_eqlI 27 34 _ _ E E rfl (hc 6 27 (by kernel_rfl) (by kernel_rfl)) (hc 13 34 (by kernel_rfl) (by kernel_rfl)) (by rw [beq_self_eq_true]; exact h)
    | 15, ho => cases ho; exact fun a W hR hk hc K h => op_assign 35 _ rfl (hc 14 35 (by kernel_rfl) (by kernel_rfl)) h
    | 6, ho => exact absurd rfl n1
    | 13, ho => exact absurd rfl n2
    | (i + 16), ho => exact absurd ho (by simp)
  · intro o ho a' W hJ hk hc K h
    cases ho
    refine op_call 16 [.tmp 21, .tmp 23, .tmp 24, .tmp 26] _ #[pt p 0, nu c, st vv, .agg (dg t).toArray] _ rfl enterCo ?_ ((commit_x (H3.out.kept hJ) HcI.out (v := vv) HtL.out ((HT.out.stays C3.out).stays hJ)).mono ?_) h
    · have e1 : a'.eval (.tmp 21) = pt p 0 := hc 0 21 (by kernel_rfl) (by kernel_rfl)
      have e2 : a'.eval (.tmp 23) = nu c := hc 2 23 (by kernel_rfl) (by kernel_rfl)
      have e3 : a'.eval (.tmp 24) = st vv := hc 3 24 (by kernel_rfl) (by kernel_rfl)
      have e4 : a'.eval (.tmp 26) = .agg (dg t).toArray := hc 5 26 (by kernel_rfl) (by kernel_rfl)
      simp only [List.map_cons, List.map_nil, e1, e2, e3, e4]
    · rintro e W' ⟨F', rfl, q1, q2, q3⟩
      obtain ⟨y1, y2⟩ := duo1 (Y3.out.kept hJ) HD.out q2 q3
      rw [← HS2.out] at q1
      refine ⟨by rw [HE.out]; rfl, F', q1, y1, y2, (Kp.of hJ).then q2 (fun b hb => Or.inl (by simp [hb])), fun b hb => ?_⟩
      rcases q3 b hb with e | e
      · exact Or.inl e
      · exact Or.inr (Nat.le_trans hJ.size e)
  · intro o ho a' W hJ hk hc K h
    cases ho
    obtain ⟨F', j1, j2, j3, j4, j5⟩ := hJ
    refine op_call 18 [.tmp 28, .tmp 30, .tmp 31, .tmp 33] _ #[pt x 0, nu c, st vv, .agg (dg t).toArray] _ rfl enterRc ?_ ((r12commit_any j2 (c := c) (v := vv) HtL.out).mono ?_) h
    · have e1 : a'.eval (.tmp 28) = pt x 0 := hc 7 28 (by kernel_rfl) (by kernel_rfl)
      have e2 : a'.eval (.tmp 30) = nu c := hc 9 30 (by kernel_rfl) (by kernel_rfl)
      have e3 : a'.eval (.tmp 31) = st vv := hc 10 31 (by kernel_rfl) (by kernel_rfl)
      have e4 : a'.eval (.tmp 33) = .agg (dg t).toArray := hc 12 33 (by kernel_rfl) (by kernel_rfl)
      simp only [List.map_cons, List.map_nil, e1, e2, e3, e4]
    · rintro e W' ⟨G', rfl, q1, q2, q3⟩
      obtain ⟨y1, y2⟩ := duo2 j1 j3 q2 q3
      rw [← HS2.out] at q1
      refine ⟨by rw [HE.out]; rfl, F', G', y1, q1, y2, j4.then q2 (fun b hb => Or.inl (by simp [hb])), j5, fun b hb => ?_⟩
      rcases q3 b hb with e | e
      · exact Or.inl e
      · exact Or.inr (Nat.le_trans j4.size e)
  · intro a' W hJ hs hd hk hc
    have h6 := hc 15 6 (by kernel_rfl)
    obtain ⟨tm, df⟩ := a'
    obtain rfl : df = [] := hd
    have HJ := hid hJ
    clear hJ hk hc hs
    go_wp2
    go_ret
    refine ⟨by rw [h6]; rfl, HEnd.out _ ?_⟩
    obtain ⟨F', G', z1, z2, z3, z4, z5, z6⟩ := HJ.out
    refine ⟨F', G', z1, z2, z3, (Kp.of (below_two B0.out C3.out)).trans z4, fun b hb => ?_, fun b hb => ?_⟩
    · rcases z5 b hb with e | e
      · exact Or.inl e
      · exact Or.inr (Nat.le_trans hw3 e)
    · rcases z6 b hb with e | e
      · exact Or.inl e
      · exact Or.inr (Nat.le_trans hw3 e)
theorem do_any {w : World} {p x : Nat} {F G : List Nat} {R : Rs} (h : RX w p F R) (hy : RY w x G R) (hd : ∀ b ∈ F, b ∉ G) (hK : KInv R) {a : Rac} (ha : a.Ok) (ht : Tb w) :
    Calls Tryz.prog 8 #[pt p 0, pt x 0, .agg (racC a).toArray] w fun e w' => e = .returned (.bool true) ∧ DoP w p x F G (doR R a) w' := by
  unfold doR
  cases hc : comB a with
  | true => rw [if_pos rfl]; exact do_com h hy hd ha (ofS_ok h.inv hK ha).1 ht hc
  | false => rw [if_neg Bool.false_ne_true]; exact do_sub h hy hd hK ha ht hc
open Go Go.RowKit
set_option maxRecDepth 100000
def Lp (w wr : World) (p xx : Nat) (R : Rs) : Prop := ∃ F G, RX wr p F R ∧ RY wr xx G R ∧ (∀ b ∈ F, b ∉ G) ∧ (∀ b ∈ F, w.heap.size ≤ b) ∧ (∀ b ∈ G, w.heap.size ≤ b) ∧ Below w.heap.size w wr ∧ KInv R
theorem Lp.kept {w W W' : World} {p xx : Nat} {R : Rs} (h : Lp w W p xx R) (hb : Below W.heap.size W W') : Lp w W' p xx R := by
  obtain ⟨F, G, h1, h2, h3, h4, h5, h6, h7⟩ := h
  exact ⟨F, G, h1.kept hb, h2.kept hb, h3, h4, h5, below_two h6 hb, h7⟩
theorem Lp.bl {w W : World} {p xx : Nat} {R : Rs} (h : Lp w W p xx R) : Below w.heap.size w W := by
  obtain ⟨F, G, h1, h2, h3, h4, h5, h6, h7⟩ := h
  exact h6
theorem Lp.new {w W1 W2 : World} {p xx n : Nat} {G : List Nat} (h1 : Sx w W1 p [p] (newR n)) (h2 : RY W2 xx G (newR n)) (hg : ∀ b ∈ G, W1.heap.size ≤ b) (hb : Below W1.heap.size W1 W2) : Lp w W2 p xx (newR n) := by
  refine ⟨[p], G, h1.rx.kept hb, h2, fun b hb' hx => ?_, h1.ge, fun b hb' => Nat.le_trans h1.bl.size (hg b hb'), below_two h1.bl hb, KInv.new n⟩
  have h3 := h1.lt b hb'
  have h4 := hg b hx
  omega
theorem do_l {w W : World} {p xx : Nat} {R : Rs} (h : Lp w W p xx R) {a : Rac} (ha : a.Ok) (ht : Tb w) :
    Calls Tryz.prog 8 #[pt p 0, pt xx 0, .agg (racC a).toArray] W fun e W' => e = .returned (.bool true) ∧ Lp w W' p xx (doR R a) := by
  obtain ⟨F, G, h1, h2, h3, h4, h5, h6, h7⟩ := h
  refine (do_any h1 h2 h3 h7 ha (ht.stays h6)).mono ?_
  rintro e W' ⟨rfl, F', G', q1, q2, q3, q4, q5, q6⟩
  refine ⟨rfl, F', G', q1, q2, q3, fun b hb => ?_, fun b hb => ?_, h6.trans (q4.below (fun b hb => ?_) h6.size), h7.doR h1.inv ha⟩
  · rcases q5 b hb with e | e
    · exact h4 b e
    · exact Nat.le_trans h6.size e
  · rcases q6 b hb with e | e
    · exact h5 b e
    · exact Nat.le_trans h6.size e
  · rcases List.mem_append.1 hb with e | e
    · exact h4 b e
    · exact h5 b e
theorem same_l {w W : World} {p xx : Nat} {R : Rs} (h : Lp w W p xx R) : Calls Tryz.prog 9 #[pt p 0, pt xx 0] W fun e W' => e = .returned (.bool true) ∧ Below W.heap.size W W' := by
  obtain ⟨F, G, h1, h2, -⟩ := h
  exact rsame_any h1 h2
end Go.Proofs.YtoneoocihfjfgaaGreatDoor.Ms
