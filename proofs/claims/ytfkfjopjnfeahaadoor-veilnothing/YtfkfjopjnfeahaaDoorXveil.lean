/-
  What the reference's Veil answers.
-/
import Derived.Test.YtfkfjopjnfeahaaDoorXrow
import Derived.Deep.RegionLaw
namespace Go.Proofs.YtfkfjopjnfeahaaDoor
open Go Go.RowKit
set_option maxRecDepth 100000

section
variable {ops : Array Oper} {o : Oper} {a : Act} {K : Act → World → Prop} {Q : Exit → Act → World → Prop} {E : Prop}
/-- An append of bytes, as a step of a region that draws its order. -/
theorem step_app (W : World) (hgd : o.guard = none) (s x : Operand) (ho : o.op = .call { callee := .builtin .append, args := #[s, x], argTypes := #[36, 36] }) (v u : Value) (hs : a.eval s = v) (hx : a.eval x = u)
    (base b2 : Nat) (l l2 : List UInt8) (hown : brow W base v l) (hsrc : brow W b2 u l2) (hnn : v ≠ .slice none 0 0 ∨ l2 ≠ []) (hlen : l.length + l2.length ≤ 140737488355328) (hbase : base ≤ W.heap.size)
    (h : ∀ v' W', brow W' base v' (l ++ l2) → W.grownBy W' v.ownBlock → K (a.put o.dst v') W') :
    if Region.wanted o (yielded ops a.tmps) = true then Oper.wp Tryd.prog o a W K Q else E := by
  have hw : Region.wanted o (yielded ops a.tmps) = true := by simp [Region.wanted, hgd]
  rw [if_pos hw]
  obtain ⟨v', w', hr, h2, h3⟩ := run_app base b2 o.type v u l l2 hown hsrc hnn hlen hbase
  unfold Oper.wp execOp
  simp only [ho, resolve, invoke, builtin, Sem.run_bind, Sem.run_pure, Result.andThen_ok, List.map_toArray, List.map_cons, List.map_nil, hs, hx, hr]
  exact h v' w' h2 h3
end
theorem below_daV (w : World) (o : Obj) : Below w.heap.size w (w.drew.alloc o) := (Below.refl _ _).drew.trans (below_a1 w.drew o)
theorem byte_atX (y : List UInt8) (j : Nat) (h : j < y.length) : ((⟨y.toArray⟩ : ByteArray)[j]'(by show j < y.length; exact h)).toNat = (y.getD j 0).toNat := by
  rw [List.getD_eq_getElem?_getD, List.getElem?_eq_getElem h]; rfl

theorem xveil_bad (k t : List UInt8) (n : Int) (h : rErr n t.length ≠ 0) (w : World) :
    Calls Tryd.prog 10 #[.string ⟨k.toArray⟩, .int .i64 n, .string ⟨t.toArray⟩] w fun e w' => e = .returned (.tuple #[.string ⟨#[]⟩, .int .i64 (rErr n t.length : Nat)]) ∧ w' = w := by
  have HR := hid (xrow_bad k n t.length h w)
  have hs : (⟨t.toArray⟩ : ByteArray).size = t.length := rfl
  generalize rErr n t.length = r at *
  have hr : (((r : Nat) : Int) != 0) = true := by simp; omega
  have hr2 : (((r : Nat) : Int) == 0) = false := by simp; omega
  go_enter Tryd.func10, Tryd.ntmps10
  go_wp2_with (first | (go_at_call 13; refine Calls.mono HR.out ?_; rintro e W ⟨rfl, rfl⟩))
  go_ret2
  exact ⟨rfl, rfl⟩

set_option maxHeartbeats 2000000 in
theorem xveil_ok (k : List UInt8) (hk : k.length ≤ 140737488355228) (n : Int) (h0 : 0 ≤ n) (h1 : n ≤ 1099511627776) (t : List UInt8) (ht : t.length ≤ 16384) (w : World) :
    Calls Tryd.prog 10 #[.string ⟨k.toArray⟩, .int .i64 n, .string ⟨t.toArray⟩] w fun e w' => e = .returned (.tuple #[.string ⟨(veilB k n t).toArray⟩, .int .i64 0]) ∧ Below w.heap.size w w' := by
  have HR := hid (xrow_ok k hk n h0 h1 t.length ht w)
  have hs : (⟨t.toArray⟩ : ByteArray).size = t.length := rfl
  have hRl := rowB_len k n t.length
  have hVl := veilB_len k n t
  have HVS : Hid (∀ j, j < t.length → (veilB k n t).take j ++ [t.getD j 0 ^^^ (rowB k n t.length).getD j 0] = (veilB k n t).take (j + 1)) := fun j hj => zip_step t (rowB k n t.length) j hj (by rw [hRl]; exact hj)
  generalize rowB k n t.length = R at *
  generalize veilB k n t = V at *
  have hsR : (⟨R.toArray⟩ : ByteArray).size = t.length := hRl
  clear hk
  go_enter Tryd.func10, Tryd.ntmps10
  go_wp2_with (first | (go_at_call 13; refine Calls.mono HR.out ?_))
  rintro e w1 ⟨rfl, hb1⟩
  have HB1 := hid hb1
  have HE0 : Hid (brow w1 w1.heap.size (.slice none 0 0) (V.take 0)) := Or.inl ⟨rfl, rfl⟩
  clear hb1 HR
  go_wp2
  go_loopw [10, 11] (fun v i w' => ∃ j : Nat, j ≤ t.length ∧ i = .int .i64 j ∧ Hid (brow w' w1.heap.size v (V.take j)) ∧ Hid (Below w1.heap.size w1 w')) (fun _ i _ => t.length - (intOf i).toNat)
  case atStart => exact ⟨0, by omega, rfl, HE0, Below.refl _ _⟩
  case round =>
    clear HE0
    obtain ⟨j, hj, rfl, HR, HB⟩ := hrel
    have hsz : w1.heap.size ≤ wr.heap.size := HB.out.size
    by_cases hlt : j < t.length
    · have hq1 := byte_atX t j hlt
      have hq2 := byte_atX R j (by rw [hRl]; exact hlt)
      have hx : bits .xor .u8 ((t.getD j 0).toNat : Int) ((R.getD j 0).toNat : Int) = bv (t.getD j 0 ^^^ R.getD j 0) := bv_xor (t.getD j 0) (R.getD j 0)
      have HST := hid (HVS.out j hlt)
      have HL : Hid ((V.take j).length = j) := by show _ = _; rw [List.length_take]; omega
      have hj0 : (0 : Int) ≤ (j : Int) := Int.natCast_nonneg _
      have hj1 : (j : Int) < (t.length : Int) := by omega
      generalize t.getD j 0 ^^^ R.getD j 0 = z at *
      generalize t.getD j 0 = a at *
      generalize R.getD j 0 = b at *
      generalize hLd : V.take j = L at *
      clear hLd
      go_upto_region 8 with fail
      go_region_law (refine step_app _ (by rfl) _ _ (by rfl) _ _ (by rfl) (by rfl) w1.heap.size w1.heap.size L [z] ?_ ?_ (Or.inr (by simp)) ?_ ?_ ?_; exact brow_below HR.out (below_daV wr _) (Nat.le_refl _); exact brow_lit wr.drew _ z _ rfl hsz; (rw [HL.out]; simp; omega); (simp; omega); intro v3 w3 hr3 hg3; have HB3 : Hid (Below w1.heap.size w1 w3) := ((HB.out.drew).alloc hsz _).grown hg3 (by simp; omega) (brow_own HR.out); rw [HST.out] at hr3; have HR3 := hid hr3; clear hr3 hg3)
      all_goals (
        clear HR HB HST
        go_wp2
        go_roundw
        case rel => exact ⟨j + 1, by omega, by go_num, HR3, HB3⟩
        case measure => simp [intOf]; omega)
    · obtain rfl : j = t.length := by omega
      have HT : Hid (V.take t.length = V) := List.take_of_length_le (by omega)
      have HV : (convert 36 9 u10).run Tryd.prog wr = .ok (.string ⟨V.toArray⟩) wr := by
        have h := conv_brow HR.out
        rw [HT.out] at h
        exact h
      have HBe : Hid (Below w.heap.size w wr) := HB1.out.trans (HB.out.mono HB1.out.size)
      clear HR HB
      go_wp2
      go_ret2
      exact ⟨rfl, HBe.out⟩

theorem xveil_any (k : List UInt8) (hk : k.length ≤ 140737488355228) (n : Int) (t : List UInt8) (w : World) :
    Calls Tryd.prog 10 #[.string ⟨k.toArray⟩, .int .i64 n, .string ⟨t.toArray⟩] w fun e w' => e = .returned (.tuple #[.string ⟨(vOut k n t).toArray⟩, .int .i64 (rErr n t.length : Nat)]) ∧ Below w.heap.size w w' := by
  by_cases h : rErr n t.length = 0
  · obtain ⟨a, b, c, d⟩ := (rErr_ok n t.length).1 h
    rw [vOut, if_pos h, h]
    exact xveil_ok k hk n a b t (by omega) w
  · rw [vOut, if_neg h]
    refine (xveil_bad k t n h w).mono ?_
    rintro e w' ⟨rfl, rfl⟩
    exact ⟨rfl, Below.refl _ _⟩

end Go.Proofs.YtfkfjopjnfeahaaDoor
