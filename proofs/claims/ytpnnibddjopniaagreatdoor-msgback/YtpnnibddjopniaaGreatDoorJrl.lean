/-
  What msg.readAll answers of any list of fields: they are read one behind the other, up to the first one's error.
-/
import Derived.Test.YtpnnibddjopniaaGreatDoorJll
namespace Go.Proofs.YtpnnibddjopniaaGreatDoor.Ms
open Go Go.RowKit
set_option maxRecDepth 100000

/-- The block of a thing is none of the laid variables'. -/
def Tn (g : Nat) : Prop := 2 ≠ g ∧ 1 ≠ g
theorem var_kept {w w' : World} {g G : Nat} {name : String} {v : Array Value} (hn : Tryz.prog.globalNamed name = some G) (hG : G ≠ g) (hk : Kept g w w') (h : w.var? Tryz.prog name = some v) : w'.var? Tryz.prog name = some v := by
  unfold World.var? at *
  rw [hn] at h ⊢
  simp only [Option.bind_some] at h ⊢
  cases ho : w.heap[G]? with
  | none => rw [ho] at h; cases h
  | some o =>
    rw [hk.row ho hG]
    rw [ho] at h
    exact h
theorem var_lt {w : World} {G : Nat} {name : String} {v : Array Value} (hn : Tryz.prog.globalNamed name = some G) (h : w.var? Tryz.prog name = some v) : G < w.heap.size := by
  unfold World.var? at h
  rw [hn] at h
  simp only [Option.bind_some] at h
  cases ho : w.heap[G]? with
  | none => rw [ho] at h; cases h
  | some o => exact (Array.getElem?_eq_some_iff.1 ho).1
theorem tb_kept {w w' : World} {g : Nat} (h : Tb w) (hg : Tn g) (hk : Kept g w w') : Tb w' := by
  obtain ⟨h1, tp, p, h2⟩ := h
  exact ⟨var_kept Lay.gPow hg.1 hk h1, tp, p, var_kept Lay.gRange hg.2 hk h2⟩
theorem tn_of {w : World} {g : Nat} (h : Tb w) (hg : w.heap.size ≤ g) : Tn g := by
  obtain ⟨h1, tp, p, h2⟩ := h
  have a1 := var_lt Lay.gPow h1
  have a2 := var_lt Lay.gRange h2
  exact ⟨by omega, by omega⟩
theorem StoreAt.kept {w w' : World} {g : Nat} {A C : List Value} {t : TypeId} {v : Val} (h : StoreAt w g A C t v w') : Kept g w w' := by
  obtain ⟨cv, w1, hb, -, -, -, hbut⟩ := h
  exact (Kept.of hb).trans (Kept.but hbut)
theorem FieldsAt.kept {w w' : World} {v : Value} {g : Nat} {fs : List (Slot × Nat)} (h : FieldsAt w v g fs) (ho : Own w g) (hk : Kept g w w') : FieldsAt w' v g fs := by
  obtain ⟨a, bs, h1, h2, h3, h4⟩ := h
  refine ⟨a, bs, h1, h2, fun hne => ?_, fun j hj => (h4 j hj).kept ho hk⟩
  obtain ⟨row, h5, h6⟩ := h3 hne
  obtain ⟨cs, t, hg, ht⟩ := ho
  exact ⟨row, h5, hk.row h6 (ty_ne hg h6 (by rcases ht with rfl | rfl <;> decide))⟩
theorem c2_any (k : Slot) (HR : ReadOne k) {w : World} {g off : Nat} {b : Bx} (hF : FieldAt w k g off b) (A old C : List Value) (t : TypeId) (hg : w.heap[g]? = some (.cells (A ++ (old ++ C)).toArray t)) (hA : A.length = off) (hl : old.length = sz k) (s : List UInt8) (p : Nat) (hp : p ≤ s.length) (hs : s.length ≤ 281474976710656) (ht : Tb w) :
    Calls Tryz.prog (c2Fn k) #[st s, nu p, ptr b.r 0, ptr b.x 0] w fun e w' => e = .returned (.tuple #[nu (rdVal k s p).2.2, nu (rdVal k s p).1]) ∧ StoreAt w g A C t (rdVal k s p).2.1 w' := by
  cases k using Slot.cut
  · exact c2_num HR hF A old C t hg hA hl s p hp hs ht
  · exact c2_txt HR hF A old C t hg hA hl s p hp hs ht
  · exact c2_dig HR hF A old C t hg hA hl s p hp hs ht
  · exact c2_nums HR hF A old C t hg hA hl s p hp hs ht
  · exact c2_pens HR hF A old C t hg hA hl s p hp hs ht

theorem c3_any (k : Slot) {w : World} {g off : Nat} {b : Bx} (hF : FieldAt w k g off b) (A old C : List Value) (t : TypeId) (hg : w.heap[g]? = some (.cells (A ++ (old ++ C)).toArray t)) (hA : A.length = off) (hl : old.length = sz k) :
    Calls Tryz.prog (c3Fn k) #[ptr b.x 0] w fun e w' => e = .returned (.tuple #[]) ∧ StoreAt w g A C t (Slot.zero k) w' := by
  cases k using Slot.cut
  · exact c3_num hF A old C t hg hA hl
  · exact c3_txt hF A old C t hg hA hl
  · exact c3_dig hF A old C t hg hA hl
  · exact c3_nums hF A old C t hg hA hl
  · exact c3_pens hF A old C t hg hA hl

theorem rdAll_err {α : Type} (rd : Slot → List UInt8 → Nat → Nat × Val × Nat) (f : Fl α) (fs : List (Fl α)) (x : α) (s : List UInt8) (p : Nat) (h : (rd f.slot s p).1 ≠ 0) : rdAll rd (f :: fs) x s p = ((rd f.slot s p).1, x, 0) := by unfold rdAll; rw [if_pos h]
theorem rdAll_go {α : Type} (rd : Slot → List UInt8 → Nat → Nat × Val × Nat) (f : Fl α) (fs : List (Fl α)) (x : α) (s : List UInt8) (p : Nat) (h : (rd f.slot s p).1 = 0) : rdAll rd (f :: fs) x s p = rdAll rd fs (f.set x (rd f.slot s p).2.1) s (rd f.slot s p).2.2 := by rw [rdAll, if_neg (by omega)]
theorem drop_at {α : Type} (fs : List α) (k : Nat) (h : k < fs.length) : fs.drop k = fs[k] :: fs.drop (k + 1) := List.drop_eq_getElem_cons h

set_option maxHeartbeats 8000000 in
theorem readall_any {α : Type} {fs : List (Fl α)} {g base : Nat} {I : α → World → Prop} (H : Hold fs g base I) (HR : ∀ f ∈ fs, ReadOne f.slot) {w : World} {v : Value} {x : α} (hv : FieldsAt w v g (spots base fs)) (hx : I x w) (s : List UInt8) (p : Nat) (hp : p ≤ s.length) (hs : s.length ≤ 281474976710656) (hn : fs.length ≤ 100) (ht : Tb w) (hg : Tn g) :
    Calls Tryz.prog 41 #[v, st s, nu p] w fun e w' => e = .returned (.tuple #[nu (rdAll rdVal fs x s p).2.2, nu (rdAll rdVal fs x s p).1]) ∧ Kept g w w' ∧ ((rdAll rdVal fs x s p).1 = 0 → I (rdAll rdVal fs x s p).2.1 w') := by
  have HK0 := hid (Kept.refl g w)
  have HV := hid hv
  have HOw := hid (H.own x w hx)
  obtain ⟨a, bs0, rfl, -⟩ := hv
  rw [spots_len] at HV ⊢
  have HX := hid hx
  have HH := hid H
  have HRR := hid HR
  have HT := hid ht
  have HG := hid hg
  obtain ⟨R, hR⟩ : ∃ R, R = rdAll rdVal fs x s p := ⟨_, rfl⟩
  have HRe : Hid (R = rdAll rdVal (fs.drop 0) x s p) := by show _ = _; rw [hR]; rfl
  have HP := hid hp
  rw [← hR]
  clear hx H HR ht hg hR hp
  go_enter Tryz.func41, Tryz.ntmps41
  go_wp2
  go_loopw [2, 14] (fun ap i w' => ∃ (k q : Nat) (y : α), k ≤ fs.length ∧ ap = .int .i64 q ∧ i = .int .i64 k ∧ Hid (q ≤ s.length) ∧ Hid (R = rdAll rdVal (fs.drop k) y s q) ∧ Hid (I y w') ∧ Hid (Kept g w w')) (fun _ i _ => fs.length - (intOf i).toNat)
  case atStart => exact ⟨0, p, x, Nat.zero_le _, rfl, rfl, HP, HRe, HX, HK0⟩
  case round =>
    obtain ⟨k, q, y, hk, rfl, rfl, HQ, HRk, HY, HK⟩ := hrel
    clear HRe HX HK0 HP
    by_cases hlt : k < fs.length
    · have d1 : decide ((k : Int) < (fs.length : Int)) = true := decide_eq_true (by omega)
      have d1' : decide (k < fs.length) = true := decide_eq_true hlt
      obtain ⟨row, b, ha, hF, hc⟩ := (HV.out.kept HOw.out HK.out).cells k (by rw [spots_len]; exact hlt)
      subst ha
      rw [spots_at base fs k hlt] at hF hc
      have hmem : fs[k] ∈ fs := List.getElem_mem hlt
      have Z0 : (Tryz.prog.info? 91).map (·.size) = some (fieldV fs[k].slot b).length := sizeFld
      have HOn := hid (one_fld fs[k].slot b)
      have hL : ([.nilFunc, .nilFunc, .nilFunc] : List Value).length = (fieldV fs[k].slot b).length := rfl
      have S0 := hid hc
      have HBt := hid (below_a1 wr (.cells (fieldV fs[k].slot b).toArray 91))
      have T0 := hid (top_obj wr (.cells (fieldV fs[k].slot b).toArray 91))
      obtain ⟨A, old, C, t, hrow, hA, hol, hst⟩ := HH.out.store y _ (HH.out.stay y _ _ HY.out HBt.out) _ hmem
      have HC := hid (c2_any fs[k].slot (HRR.out _ hmem) (hF.stays HBt.out) A old C t hrow hA hol s q HQ.out hs ((tb_kept HT.out HG.out HK.out).stays HBt.out))
      have HKt := hid (HK.out.trans (Kept.of HBt.out))
      have HOnce := hid (fun (h : (rdVal fs[k].slot s q).1 = 0) => val_once fs[k].slot s q HQ.out h)
      rw [drop_at fs k hlt] at HRk
      have HErr : Hid ((rdVal fs[k].slot s q).1 ≠ 0 → R = ((rdVal fs[k].slot s q).1, y, 0)) := fun h => by rw [HRk.out]; exact rdAll_err rdVal _ _ _ _ _ h
      have HGo : Hid ((rdVal fs[k].slot s q).1 = 0 → R = rdAll rdVal (fs.drop (k + 1)) (fs[k].set y (rdVal fs[k].slot s q).2.1) s (rdVal fs[k].slot s q).2.2) := fun h => by rw [HRk.out]; exact rdAll_go rdVal _ _ _ _ _ h
      have HSt := hid hst
      clear hc hmem hF hrow hA hol hst HRk HY HK HBt HH HRR HT HG HOw HV HQ
      generalize hsl : fs[k].slot = sl at *
      have HSl := hid hsl
      clear hsl
      generalize (rdVal sl s q).2.2 = nx at *
      generalize (rdVal sl s q).1 = er at *
      generalize (rdVal sl s q).2.1 = vl at *
      cases sl using Slot.cut with
      | num => as_aux_lemma =>
        have ce : (wr.alloc (.cells (fieldV .num b).toArray 91)).cell? ⟨wr.heap.size, 1, none⟩ = some (.func (.func (c2Fn .num)) #[] #[ptr b.r 0, ptr b.x 0]) := by rw [cell_of_row _ _ _ _ _ _ T0.out]; rfl
        simp only [c2Fn] at ce HC
        generalize fieldV .num b = V at *
        clear T0
        go_upto_region 4 with (first | ((with_reducible refine wl_load 91 (.tmp 16) ?_ row (k * 3) ?_ ?_ V _ S0.out Tryz.underlying91 ?_ Z0 ?_); exact rfl; exact rfl; exact rfl; exact rfl) | ((with_reducible refine wl_store_top 91 (.tmp 9) (.tmp 17) ?_ ?_ ?_ ?_ V [.nilFunc, .nilFunc, .nilFunc] ?_ 91 hL HOn.out Z0 ?_); exact rfl; exact rfl; exact rfl; exact rfl; exact rfl))
        generalize wr.alloc (.cells V.toArray 91) = W2 at *
        go_wp2_with fail
        refine HC.out.mono ?_
        rintro e w3 ⟨rfl, hst3⟩
        have HK3 := hid (HKt.out.trans hst3.kept)
        have HS3 := hid hst3
        clear hst3 HC HKt S0 ce
        by_cases he : er = 0
        · have de : ((er : Int) != 0) = false := by simp; omega
          have de' : (er != 0) = false := by simp; omega
          obtain ⟨hs1, c, hc1, -, hc3, hc4⟩ := HOnce.out he
          have HY3 := hid (HSt.out vl w3 hs1 hc4 HS3.out)
          have HQ3 : Hid (nx ≤ s.length) := by show _ ≤ _; omega
          have HR3 := hid (HGo.out he)
          clear hs1 hc1 hc3 hc4 HOnce HSt HGo HErr he HS3
          go_wp2
          exact ⟨⟨k + 1, nx, _, by omega, rfl, by go_num, HQ3, HR3, HY3, HK3⟩, by simp [intOf]; omega⟩
        · have de : ((er : Int) != 0) = true := by simp; omega
          have de' : (er != 0) = true := by simp; omega
          have HR3 := hid (HErr.out he)
          have HN := hid he
          clear HOnce HSt HGo HErr he HS3
          go_wp2
          go_ret2
          rw [HR3.out]
          exact ⟨rfl, HK3.out, fun h => absurd h HN.out⟩
      | txt => as_aux_lemma =>
        have ce : (wr.alloc (.cells (fieldV .txt b).toArray 91)).cell? ⟨wr.heap.size, 1, none⟩ = some (.func (.func (c2Fn .txt)) #[] #[ptr b.r 0, ptr b.x 0]) := by rw [cell_of_row _ _ _ _ _ _ T0.out]; rfl
        simp only [c2Fn] at ce HC
        generalize fieldV .txt b = V at *
        clear T0
        go_upto_region 4 with (first | ((with_reducible refine wl_load 91 (.tmp 16) ?_ row (k * 3) ?_ ?_ V _ S0.out Tryz.underlying91 ?_ Z0 ?_); exact rfl; exact rfl; exact rfl; exact rfl) | ((with_reducible refine wl_store_top 91 (.tmp 9) (.tmp 17) ?_ ?_ ?_ ?_ V [.nilFunc, .nilFunc, .nilFunc] ?_ 91 hL HOn.out Z0 ?_); exact rfl; exact rfl; exact rfl; exact rfl; exact rfl))
        generalize wr.alloc (.cells V.toArray 91) = W2 at *
        go_wp2_with fail
        refine HC.out.mono ?_
        rintro e w3 ⟨rfl, hst3⟩
        have HK3 := hid (HKt.out.trans hst3.kept)
        have HS3 := hid hst3
        clear hst3 HC HKt S0 ce
        by_cases he : er = 0
        · have de : ((er : Int) != 0) = false := by simp; omega
          have de' : (er != 0) = false := by simp; omega
          obtain ⟨hs1, c, hc1, -, hc3, hc4⟩ := HOnce.out he
          have HY3 := hid (HSt.out vl w3 hs1 hc4 HS3.out)
          have HQ3 : Hid (nx ≤ s.length) := by show _ ≤ _; omega
          have HR3 := hid (HGo.out he)
          clear hs1 hc1 hc3 hc4 HOnce HSt HGo HErr he HS3
          go_wp2
          exact ⟨⟨k + 1, nx, _, by omega, rfl, by go_num, HQ3, HR3, HY3, HK3⟩, by simp [intOf]; omega⟩
        · have de : ((er : Int) != 0) = true := by simp; omega
          have de' : (er != 0) = true := by simp; omega
          have HR3 := hid (HErr.out he)
          have HN := hid he
          clear HOnce HSt HGo HErr he HS3
          go_wp2
          go_ret2
          rw [HR3.out]
          exact ⟨rfl, HK3.out, fun h => absurd h HN.out⟩
      | dig => as_aux_lemma =>
        have ce : (wr.alloc (.cells (fieldV .dig b).toArray 91)).cell? ⟨wr.heap.size, 1, none⟩ = some (.func (.func (c2Fn .dig)) #[] #[ptr b.r 0, ptr b.x 0]) := by rw [cell_of_row _ _ _ _ _ _ T0.out]; rfl
        simp only [c2Fn] at ce HC
        generalize fieldV .dig b = V at *
        clear T0
        go_upto_region 4 with (first | ((with_reducible refine wl_load 91 (.tmp 16) ?_ row (k * 3) ?_ ?_ V _ S0.out Tryz.underlying91 ?_ Z0 ?_); exact rfl; exact rfl; exact rfl; exact rfl) | ((with_reducible refine wl_store_top 91 (.tmp 9) (.tmp 17) ?_ ?_ ?_ ?_ V [.nilFunc, .nilFunc, .nilFunc] ?_ 91 hL HOn.out Z0 ?_); exact rfl; exact rfl; exact rfl; exact rfl; exact rfl))
        generalize wr.alloc (.cells V.toArray 91) = W2 at *
        go_wp2_with fail
        refine HC.out.mono ?_
        rintro e w3 ⟨rfl, hst3⟩
        have HK3 := hid (HKt.out.trans hst3.kept)
        have HS3 := hid hst3
        clear hst3 HC HKt S0 ce
        by_cases he : er = 0
        · have de : ((er : Int) != 0) = false := by simp; omega
          have de' : (er != 0) = false := by simp; omega
          obtain ⟨hs1, c, hc1, -, hc3, hc4⟩ := HOnce.out he
          have HY3 := hid (HSt.out vl w3 hs1 hc4 HS3.out)
          have HQ3 : Hid (nx ≤ s.length) := by show _ ≤ _; omega
          have HR3 := hid (HGo.out he)
          clear hs1 hc1 hc3 hc4 HOnce HSt HGo HErr he HS3
          go_wp2
          exact ⟨⟨k + 1, nx, _, by omega, rfl, by go_num, HQ3, HR3, HY3, HK3⟩, by simp [intOf]; omega⟩
        · have de : ((er : Int) != 0) = true := by simp; omega
          have de' : (er != 0) = true := by simp; omega
          have HR3 := hid (HErr.out he)
          have HN := hid he
          clear HOnce HSt HGo HErr he HS3
          go_wp2
          go_ret2
          rw [HR3.out]
          exact ⟨rfl, HK3.out, fun h => absurd h HN.out⟩
      | nums => as_aux_lemma =>
        have ce : (wr.alloc (.cells (fieldV .nums b).toArray 91)).cell? ⟨wr.heap.size, 1, none⟩ = some (.func (.func (c2Fn .nums)) #[] #[ptr b.r 0, ptr b.x 0]) := by rw [cell_of_row _ _ _ _ _ _ T0.out]; rfl
        simp only [c2Fn] at ce HC
        generalize fieldV .nums b = V at *
        clear T0
        go_upto_region 4 with (first | ((with_reducible refine wl_load 91 (.tmp 16) ?_ row (k * 3) ?_ ?_ V _ S0.out Tryz.underlying91 ?_ Z0 ?_); exact rfl; exact rfl; exact rfl; exact rfl) | ((with_reducible refine wl_store_top 91 (.tmp 9) (.tmp 17) ?_ ?_ ?_ ?_ V [.nilFunc, .nilFunc, .nilFunc] ?_ 91 hL HOn.out Z0 ?_); exact rfl; exact rfl; exact rfl; exact rfl; exact rfl))
        generalize wr.alloc (.cells V.toArray 91) = W2 at *
        go_wp2_with fail
        refine HC.out.mono ?_
        rintro e w3 ⟨rfl, hst3⟩
        have HK3 := hid (HKt.out.trans hst3.kept)
        have HS3 := hid hst3
        clear hst3 HC HKt S0 ce
        by_cases he : er = 0
        · have de : ((er : Int) != 0) = false := by simp; omega
          have de' : (er != 0) = false := by simp; omega
          obtain ⟨hs1, c, hc1, -, hc3, hc4⟩ := HOnce.out he
          have HY3 := hid (HSt.out vl w3 hs1 hc4 HS3.out)
          have HQ3 : Hid (nx ≤ s.length) := by show _ ≤ _; omega
          have HR3 := hid (HGo.out he)
          clear hs1 hc1 hc3 hc4 HOnce HSt HGo HErr he HS3
          go_wp2
          exact ⟨⟨k + 1, nx, _, by omega, rfl, by go_num, HQ3, HR3, HY3, HK3⟩, by simp [intOf]; omega⟩
        · have de : ((er : Int) != 0) = true := by simp; omega
          have de' : (er != 0) = true := by simp; omega
          have HR3 := hid (HErr.out he)
          have HN := hid he
          clear HOnce HSt HGo HErr he HS3
          go_wp2
          go_ret2
          rw [HR3.out]
          exact ⟨rfl, HK3.out, fun h => absurd h HN.out⟩
      | pens => as_aux_lemma =>
        have ce : (wr.alloc (.cells (fieldV .pens b).toArray 91)).cell? ⟨wr.heap.size, 1, none⟩ = some (.func (.func (c2Fn .pens)) #[] #[ptr b.r 0, ptr b.x 0]) := by rw [cell_of_row _ _ _ _ _ _ T0.out]; rfl
        simp only [c2Fn] at ce HC
        generalize fieldV .pens b = V at *
        clear T0
        go_upto_region 4 with (first | ((with_reducible refine wl_load 91 (.tmp 16) ?_ row (k * 3) ?_ ?_ V _ S0.out Tryz.underlying91 ?_ Z0 ?_); exact rfl; exact rfl; exact rfl; exact rfl) | ((with_reducible refine wl_store_top 91 (.tmp 9) (.tmp 17) ?_ ?_ ?_ ?_ V [.nilFunc, .nilFunc, .nilFunc] ?_ 91 hL HOn.out Z0 ?_); exact rfl; exact rfl; exact rfl; exact rfl; exact rfl))
        generalize wr.alloc (.cells V.toArray 91) = W2 at *
        go_wp2_with fail
        refine HC.out.mono ?_
        rintro e w3 ⟨rfl, hst3⟩
        have HK3 := hid (HKt.out.trans hst3.kept)
        have HS3 := hid hst3
        clear hst3 HC HKt S0 ce
        by_cases he : er = 0
        · have de : ((er : Int) != 0) = false := by simp; omega
          have de' : (er != 0) = false := by simp; omega
          obtain ⟨hs1, c, hc1, -, hc3, hc4⟩ := HOnce.out he
          have HY3 := hid (HSt.out vl w3 hs1 hc4 HS3.out)
          have HQ3 : Hid (nx ≤ s.length) := by show _ ≤ _; omega
          have HR3 := hid (HGo.out he)
          clear hs1 hc1 hc3 hc4 HOnce HSt HGo HErr he HS3
          go_wp2
          exact ⟨⟨k + 1, nx, _, by omega, rfl, by go_num, HQ3, HR3, HY3, HK3⟩, by simp [intOf]; omega⟩
        · have de : ((er : Int) != 0) = true := by simp; omega
          have de' : (er != 0) = true := by simp; omega
          have HR3 := hid (HErr.out he)
          have HN := hid he
          clear HOnce HSt HGo HErr he HS3
          go_wp2
          go_ret2
          rw [HR3.out]
          exact ⟨rfl, HK3.out, fun h => absurd h HN.out⟩
    · as_aux_lemma =>
      have hkl : k = fs.length := by omega
      subst hkl
      have dk : decide ((fs.length : Int) < (fs.length : Int)) = false := decide_eq_false (by omega)
      have HRf : Hid (R = (0, y, q)) := by show _ = _; rw [HRk.out, List.drop_length]; rfl
      clear HRR HH HT HG HOw HV HRk HQ
      go_wp2
      go_ret2
      rw [HRf.out]
      exact ⟨rfl, HK.out, fun _ => HY.out⟩
end Go.Proofs.YtpnnibddjopniaaGreatDoor.Ms
