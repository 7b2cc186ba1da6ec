/-
  What Get tells, and what Prune takes away.
-/
import Derived.Test.YtjpclmkkccffhaaBus
import Derived.Test.YtjpclmkkccffhaaShelf
namespace Go.Proofs.Ytjpclmkkccffhaa.Bl
open Go Go.RowKit Go.Maps
set_option maxRecDepth 100000

theorem clone_any (s : List UInt8) (hs : s.length ≤ 281474976710656) (w : World) : Calls Try.prog 25 #[st s] w fun e w' => e = .returned (st s) ∧ Below w.heap.size w w' := by
  have HC := hid (Try.stringslite_Clone ⟨s.toArray⟩ w hs)
  go_enter Try.func25, Try.ntmps25
  go_wp2_with (go_at_call 30; refine HC.out.mono ?_; rintro e w1 ⟨rfl, hb⟩)
  go_ret
  exact ⟨rfl, hb⟩

theorem zeroV (w : World) : (zeroValue 33).run Try.prog w = .ok (.agg (bloC zeroB).toArray) w := by kernel_rfl
theorem uMap : Try.prog.underlying 59 = some (.map 57 33) := Try.underlying59
theorem erase_hit {L : List Blo} (ha : L.Pairwise fun a b => ¬ (a.owner = b.owner ∧ a.number = b.number)) {o n : Int} : ∀ {j : Nat} {x : Blo}, L[j]? = some x → x.owner = o ∧ x.number = n → L.eraseP (hitB o n) = L.eraseIdx j := by
  induction L with
  | nil => intro j x h; simp at h
  | cons b L ih =>
    intro j x hj hx
    rw [List.pairwise_cons] at ha
    cases j with
    | zero =>
      have e : b = x := by simpa using hj
      subst e
      rw [List.eraseP_cons, (hitB_iff o n b).2 hx]
      simp
    | succ j =>
      have hj' : L[j]? = some x := by simpa using hj
      have : hitB o n b = false := by
        cases e : hitB o n b
        · rfl
        · have := (hitB_iff o n b).1 e
          exact absurd ⟨this.1.trans hx.1.symm, this.2.trans hx.2.symm⟩ (ha.1 x (List.mem_of_getElem? hj'))
      rw [List.eraseP_cons, this]
      simp [ih ha.2 hj' hx]
def NoHit (L : List Blo) (o n : Int) : Prop := L.find? (hitB o n) = none
def Hit (L : List Blo) (o n : Int) (b : Blo) : Prop := L.find? (hitB o n) = some b
section
variable {w : World} {ops : Array Oper} {rest : List Oper} {o : Oper} {a : Act} {Q : Exit → Act → World → Prop} {m : Nat} {L : List Blo} {ow n : Int}
theorem wl_lookupB (hg : o.guard = none) (x y : Operand) (hop : o.op = Op.lookup 59 x y true) (hm : a.eval x = .map (some m)) (h : MapAt w m (L.map kvB)) (hI : Inv L) (ho : I64 ow) (hn : I64 n) (hx : a.eval y = pk ow n)
    (hNo : NoHit L ow n → wpList Try.prog ops Q rest (a.put o.dst (.tuple #[.agg (bloC zeroB).toArray, .bool false])) w)
    (hYes : ∀ b, b ∈ L → Hit L ow n b → wpList Try.prog ops Q rest (a.put o.dst (.tuple #[.agg (bloC b).toArray, .bool true])) w) :
    wpList Try.prog ops Q (o :: rest) a w := by
  obtain ⟨kl, hkl⟩ := key_pk ow n ho hn
  refine wl_lookup hg x y hop lawPl uMap (zeroV w) hm h (keysL hI) _ kl hx hkl (fun h0 => hNo (find_no h0)) (fun p hp h1 => ?_)
  obtain ⟨b, hb, hf, e⟩ := find_yes hI hp h1
  rw [e]
  exact hYes b hb hf
theorem wl_deleteB (hg : o.guard = none) (x y : Operand) (hop : o.op = Op.call { callee := Callee.builtin Builtin.delete, args := #[x, y], argTypes := #[59, 57] })
    (hm : a.eval x = .map (some m)) (h : MapAt w m (L.map kvB)) (hI : Inv L) (ho : I64 ow) (hn : I64 n) (hx : a.eval y = pk ow n)
    (hK : ∀ w', Kp [m] w w' → MapAt w' m ((dropD L ow n).map kvB) → wpList Try.prog ops Q rest (a.put o.dst (.tuple #[])) w') :
    wpList Try.prog ops Q (o :: rest) a w := by
  obtain ⟨kl, hkl⟩ := key_pk ow n ho hn
  refine wl_delete hg x y hop lawPl uMap hm h (keysL hI) _ kl hx hkl (fun w' hk hor => hK w' hk ?_)
  rcases hor with ⟨h0, h1⟩ | ⟨j, p, hj, hp, h1⟩
  · have hf := find_no h0
    rw [drop_none (by rw [any_find, hf]; rfl)]
    exact h1
  · rw [List.getElem?_map] at hj
    cases hx' : L[j]? with
    | none => rw [hx'] at hj; cases hj
    | some b =>
      rw [hx'] at hj
      have e : kvB b = p := by simpa using hj
      have hbn : b.owner = ow ∧ b.number = n := by rw [← e] at hp; exact pk_inj hp
      unfold dropD
      rw [erase_hit hI.apart hx' hbn, Go.ChangeMaps.map_eraseIdx]
      exact h1
end
theorem results_row_tmp {P : Program} {fn : Func} {p q : Tmp} {ty : TypeId} (h : fn.results = #[.cell p ty, .tmp q]) (tmps : Array Value) (w : World) (g : Nat) (t : TypeId) (cs : Array Value) (fr : Nat × Nat) (d : TypeDesc)
    (hp : tmps.getD p undef = .pointer (some ⟨g, 0, none⟩)) (hg : w.heap[g]? = some (.cells cs t fr))
    (hu : P.underlying ty = some d) (hd : (match d with | .struct _ | .array _ _ => true | _ => false) = true) (hi : (P.info? ty).map (·.size) = some cs.size) :
    (results fn tmps).run P w = .ok (.tuple #[.agg cs, tmps.getD q undef]) w := by
  have hp' : tmps[p]?.getD undef = .pointer (some ⟨g, 0, none⟩) := by simpa using hp
  simp [results, h, hp', asAddr, run_loadVar_row w g t ty cs fr d hg hu hd hi]
def getB (L : List Blo) (o n : Int) : Blo := (L.find? (hitB o n)).getD zeroB
def getE (L : List Blo) (o n : Int) : Int := if (L.find? (hitB o n)).isSome then 0 else 9
theorem getB_wf {L : List Blo} (h : Inv L) (o n : Int) : (getB L o n).Wf := by
  unfold getB
  cases e : L.find? (hitB o n) with
  | none => exact zeroB_wf
  | some b => exact (h.ok b (find_some e).1).2
theorem sizeB {b : Blo} (h : b.Wf) : (Try.prog.info? 33).map (·.size) = some (bloC b).toArray.size := by
  rw [List.size_toArray, bloC_len h]
  exact sizeBlo

set_option maxHeartbeats 4000000 in
theorem get_any {w : World} {s m : Nat} {L : List Blo} (h : StAt w s m L) (o n : Int) (ho : I64 o) (hn : I64 n) : Calls Try.prog 12 #[ptr s 0, nu o, nu n] w fun e w' =>
    e = .returned (.tuple #[.agg (bloC (getB L o n)).toArray, nu (getE L o n)]) ∧ Below w.heap.size w w' := by
  have H := hid h
  clear h
  go_enter Try.func12, Try.ntmps12
  go_upto_region 1 with ((with_reducible refine wl_allocK 33 ?_ ?_ (bloC zeroB).toArray zeroBl ?_); exact rfl; exact rfl; intro W1 r1 b1 s1; have R1 := hid r1; have B1 := hid b1; have S1 := hid s1; clear r1 b1 s1)
  have H1 := hid (H.out.kept B1.out)
  have HM := hid (made_any H1.out)
  have c0 := H1.out.cell
  go_wp2_with (first
    | (go_at_call 21; refine HM.out.mono ?_; rintro e w1 ⟨rfl, hw1⟩; subst w1)
    | (at_lookup; refine wl_lookupB rfl _ _ rfl rfl H1.out.map H1.out.inv ho hn rfl ?_ ?_))
  · intro hf
    have HF : Hid (getB L o n = zeroB ∧ getE L o n = 9) := by
      show _ ∧ _
      unfold getB getE
      unfold NoHit at hf
      rw [hf]
      exact ⟨rfl, rfl⟩
    clear hf
    go_wp2_with (first
      | ((with_reducible refine wl_allocK 33 ?_ ?_ (bloC zeroB).toArray zeroBl ?_); exact rfl; exact rfl; intro W2 r2 b2 s2; have R2 := hid r2; have B2 := hid b2; have S2 := hid s2; clear r2 b2 s2)
      | ((with_reducible refine wl_putK 33 (.tmp 8) (.tmp 23) ?_ ?_ W1.heap.size ?_ ?_ (bloC zeroB) (bloC zeroB) ?_ 33 R2.out rfl (one_blo _) (sizeOf_blo zeroB_wf) ?_); exact rfl; exact rfl; exact rfl; exact rfl; exact rfl; intro W3 r3 k3 s3; have R3 := hid r3; have K3 := hid k3; have S3 := hid s3; clear r3 k3 s3)
      | ((with_reducible refine wl_build 33 ?_ ?_ (bloC zeroB).toArray (by kernel_rfl) ?_); exact rfl; exact rfl)
      | ((with_reducible refine wl_putK 33 (.tmp 6) (.tmp 27) ?_ ?_ w.heap.size ?_ ?_ (bloC zeroB) (bloC zeroB) ?_ 33 (K3.out.row (row_kept R1.out B2.out) (ne_of_size' S1.out)) rfl (one_blo _) (sizeOf_blo zeroB_wf) ?_); exact rfl; exact rfl; exact rfl; exact rfl; exact rfl; intro W4 r4 k4 s4; have R4 := hid r4; have K4 := hid k4; have S4 := hid s4; clear r4 k4 s4))
    (try simp only [Exit.inBlock, Exit.then])
    refine bodyPost_ret (results_row_tmp rfl _ _ w.heap.size _ _ _ _ rfl R4.out Try.underlying33 rfl (sizeB zeroB_wf)) rfl ?_
    refine ⟨?_, ?_⟩
    · rw [HF.out.1, HF.out.2]
      rfl
    · exact B1.out.trans ((B2.out.mono B1.out.size).trans ((K3.out.below (by simp; exact B1.out.size) (Nat.le_trans B1.out.size B2.out.size)).trans (K4.out.below (by simp) (Nat.le_trans B1.out.size (Nat.le_trans B2.out.size K3.out.size)))))
  · intro b hb hf
    have hbw : b.Wf := (H.out.inv.ok b hb).2
    have HF : Hid (getB L o n = b ∧ getE L o n = 0) := by
      show _ ∧ _
      unfold getB getE
      unfold Hit at hf
      rw [hf]
      exact ⟨rfl, rfl⟩
    clear hf hb
    go_wp2_with (first
      | ((with_reducible refine wl_allocK 33 ?_ ?_ (bloC zeroB).toArray zeroBl ?_); exact rfl; exact rfl; intro W2 r2 b2 s2; have R2 := hid r2; have B2 := hid b2; have S2 := hid s2; clear r2 b2 s2)
      | ((with_reducible refine wl_putK 33 (.tmp 8) (.tmp 23) ?_ ?_ W1.heap.size ?_ ?_ (bloC b) (bloC zeroB) ?_ 33 R2.out ((bloC_len zeroB_wf).trans (bloC_len hbw).symm) (one_blo _) (sizeOf_blo hbw) ?_); exact rfl; exact rfl; exact rfl; exact rfl; exact rfl; intro W3 r3 k3 s3; have R3 := hid r3; have K3 := hid k3; have S3 := hid s3; clear r3 k3 s3)
      | ((with_reducible refine wl_load 33 (.tmp 8) ?_ W1.heap.size 0 ?_ ?_ (bloC b) _ (brow_all R3.out) Try.underlying33 ?_ (sizeOf_blo hbw) ?_); exact rfl; exact rfl; exact rfl; exact rfl)
      | ((with_reducible refine wl_putK 33 (.tmp 6) (.tmp 28) ?_ ?_ w.heap.size ?_ ?_ (bloC b) (bloC zeroB) ?_ 33 (K3.out.row (row_kept R1.out B2.out) (ne_of_size' S1.out)) ((bloC_len zeroB_wf).trans (bloC_len hbw).symm) (one_blo _) (sizeOf_blo hbw) ?_); exact rfl; exact rfl; exact rfl; exact rfl; exact rfl; intro W4 r4 k4 s4; have R4 := hid r4; have K4 := hid k4; have S4 := hid s4; clear r4 k4 s4))
    (try simp only [Exit.inBlock, Exit.then])
    refine bodyPost_ret (results_row_tmp rfl _ _ w.heap.size _ _ _ _ rfl R4.out Try.underlying33 rfl (sizeB hbw)) rfl ?_
    refine ⟨?_, ?_⟩
    · rw [HF.out.1, HF.out.2]
      rfl
    · exact B1.out.trans ((B2.out.mono B1.out.size).trans ((K3.out.below (by simp; exact B1.out.size) (Nat.le_trans B1.out.size B2.out.size)).trans (K4.out.below (by simp) (Nat.le_trans B1.out.size (Nat.le_trans B2.out.size K3.out.size)))))
set_option maxHeartbeats 4000000 in
theorem get_nil (o n : Int) (w : World) : Calls Try.prog 12 #[.pointer none, nu o, nu n] w fun e w' =>
    e = .returned (.tuple #[.agg (bloC zeroB).toArray, nu 1]) ∧ Below w.heap.size w w' := by
  go_enter Try.func12, Try.ntmps12
  go_upto_region 1 with ((with_reducible refine wl_allocK 33 ?_ ?_ (bloC zeroB).toArray zeroBl ?_); exact rfl; exact rfl; intro W1 r1 b1 s1; have R1 := hid r1; have B1 := hid b1; have S1 := hid s1; clear r1 b1 s1)
  have HM := hid (made_nil W1)
  go_wp2_with (first
    | (go_at_call 21; refine HM.out.mono ?_; rintro e w1 ⟨rfl, hw1⟩; subst w1)
    | ((with_reducible refine wl_build 33 ?_ ?_ (bloC zeroB).toArray (by kernel_rfl) ?_); exact rfl; exact rfl)
    | ((with_reducible refine wl_putK 33 (.tmp 6) (.tmp 13) ?_ ?_ w.heap.size ?_ ?_ (bloC zeroB) (bloC zeroB) ?_ 33 R1.out rfl (one_blo _) (sizeOf_blo zeroB_wf) ?_); exact rfl; exact rfl; exact rfl; exact rfl; exact rfl; intro W4 r4 k4 s4; have R4 := hid r4; have K4 := hid k4; have S4 := hid s4; clear r4 k4 s4))
  (try simp only [Exit.inBlock, Exit.then])
  refine bodyPost_ret (results_row_tmp rfl _ _ w.heap.size _ _ _ _ rfl R4.out Try.underlying33 rfl (sizeB zeroB_wf)) rfl ?_
  exact ⟨rfl, B1.out.trans (K4.out.below (by simp) B1.out.size)⟩

/-! ### Prune -/
theorem IntsAt.kp {w w' : World} {v : Value} {ks : List Int} {X : List Nat} (h : IntsAt w v ks) (hk : Kp X w w') (hX : ∀ x ∈ X, ∀ j z, w.cell? ⟨x, j, none⟩ ≠ some (nu z)) : IntsAt w' v ks := by
  obtain ⟨a, cap, rfl, hc⟩ := h
  refine ⟨a, cap, rfl, fun hne => ?_⟩
  obtain ⟨b, off, rfl, hj⟩ := hc hne
  refine ⟨b, off, rfl, fun j hl => ?_⟩
  have h1 := hj j hl
  have hlt : b < w.heap.size := World.block_lt_of_cell? w _ h1
  have hb : b ∉ X := fun hx => hX b hx _ _ h1
  rw [← h1]
  unfold World.cell?
  simp only [hk.block b hlt hb]
theorem map_nocell {w : World} {m : Nat} {M : List (Value × Value)} (h : MapAt w m M) (j : Nat) (v : Value) : w.cell? ⟨m, j, none⟩ ≠ some v := by
  obtain ⟨es, clock, hb, -⟩ := h
  simp [World.cell?, hb]
theorem IntsAt.at {w : World} {a : Option Addr} {cap : Nat} {ks : List Int} (h : IntsAt w (.slice a ks.length cap) ks) {j : Nat} (hj : j < ks.length) : ∃ b off, a = some ⟨b, off, none⟩ ∧ w.cell? ⟨b, off + j, none⟩ = some (nu (ks.getD j 0)) := by
  obtain ⟨a', cap', e, hc⟩ := h
  cases e
  obtain ⟨b, off, rfl, h1⟩ := hc (by intro e0; rw [e0] at hj; simp at hj)
  exact ⟨b, off, rfl, h1 j hj⟩

set_option maxHeartbeats 4000000 in
theorem prune_any {w : World} {s m : Nat} {L : List Blo} (h : StAt w s m L) (o : Int) (v : Value) (ks : List Int) (ho : I64 o) (hks : ∀ k ∈ ks, I64 k) (hlen : ks.length < 9223372036854775807) (hv : IntsAt w v ks) : Calls Try.prog 13 #[ptr s 0, nu o, v] w fun e w' =>
    e = .returned (nu (pruneN L o ks)) ∧ StAt w' s m (pruneD L o ks) ∧ Kp [m] w w' := by
  have H := hid h
  have HM := hid (made_any h)
  have c0 := h.cell
  have HV := hid hv
  obtain ⟨a, cap, rfl, -⟩ := hv
  clear h
  go_enter Try.func13, Try.ntmps13
  go_wp2_with (first
    | (go_at_call 21; refine HM.out.mono ?_; rintro e w1 ⟨rfl, hw1⟩; subst w1)
    | (at_len; refine wl_len rfl _ rfl uMap rfl H.out.map ?_))
  go_loopw [20] (fun i wr => ∃ k : Nat, k ≤ ks.length ∧ i = nu k ∧ Hid (StAt wr s m (pruneD L o (ks.take k))) ∧ Hid (Kp [m] w wr)) (fun i _ => ks.length - (intOf i).toNat)
  case atStart => exact ⟨0, by omega, rfl, H, Kp.refl _ _⟩
  case round =>
    obtain ⟨k, hk, rfl, HS, HK⟩ := hrel
    have hc0 := HS.out.cell
    by_cases hlt : k < ks.length
    · have d1 : decide ((k : Int) < (ks.length : Int)) = true := by simpa using hlt
      obtain ⟨b, off, rfl, hcell⟩ := (HV.out.kp HK.out (by simp; exact fun j z => map_nocell H.out.map j _)).at hlt
      have hk64 : I64 (ks.getD k 0) := hks _ (by rw [List.getD_eq_getElem?_getD, List.getElem?_eq_getElem hlt]; exact List.getElem_mem hlt)
      have HD : Hid (pruneD L o (ks.take (k + 1)) = dropD (pruneD L o (ks.take k)) o (ks.getD k 0)) := prune_take o ks k hlt L
      generalize ks.getD k 0 = kn at *
      go_wp2_with (first
        | (at_delete; refine wl_deleteB rfl _ _ rfl rfl HS.out.map HS.out.inv ho hk64 rfl ?_; intro W2 k2 m2; have K2 := hid k2; have M2 := hid m2; clear k2 m2; go_frame))
      have HS2 : Hid (StAt W2 s m (pruneD L o (ks.take (k + 1)))) := by
        show StAt _ _ _ _
        rw [HD.out]
        exact ⟨K2.out.row HS.out.obj (by simpa using HS.out.ne), M2.out, HS.out.inv.drop _ _⟩
      go_roundw
      case rel => exact ⟨k + 1, by omega, by go_num, HS2, HK.out.trans K2.out⟩
      case measure => simp [intOf]; omega
    · have d1 : decide ((k : Int) < (ks.length : Int)) = false := by simpa using hlt
      have hke : ks.take k = ks := List.take_of_length_le (by omega)
      rw [hke] at HS
      have hpl := prune_len o ks L
      have hL := H.out.inv.len
      go_wp2_with (at_len; refine wl_len rfl _ rfl uMap rfl HS.out.map ?_)
      go_ret
      exact ⟨by go_num, HS.out, HK.out⟩
theorem prune_nil (w : World) (o : Int) (v : Value) : Calls Try.prog 13 #[.pointer none, nu o, v] w fun e w' => e = .returned (nu 0) ∧ w' = w := by
  have HM := hid (made_nil w)
  go_enter Try.func13, Try.ntmps13
  go_wp2_with (go_at_call 21; refine HM.out.mono ?_; rintro e w1 ⟨rfl, hw1⟩; subst w1)
  go_ret
  exact ⟨rfl, rfl⟩
end Go.Proofs.Ytjpclmkkccffhaa.Bl
