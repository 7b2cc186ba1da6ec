/-
  What the reference's Numbers and Texts answer, for every list of at most 512 items, and beyond.
-/
import Derived.Test.YtldhhbkdhcidcaaDoorTxt
import Derived.Test.YtldhhbkdhcidcaaDoorRefn
import Derived.Lib.SlBytesConst
namespace Go.Proofs.YtldhhbkdhcidcaaDoor
open Go.RowKit Go.Joins
set_option maxRecDepth 100000

set_option maxHeartbeats 400000 in
theorem refNumbers_ok (a : Option Addr) (len cap : Nat) (zs : List Int) (hlen : zs.length = len) (h512 : len ≤ 512)
    (hz : ∀ z ∈ zs, -9223372036854775808 ≤ z ∧ z ≤ 9223372036854775807) (w : World)
    (hcell : ∀ (j : Nat), j < len → ∃ b off, a = some ⟨b, off, none⟩ ∧ b < w.heap.size ∧ w.cell? ⟨b, off + j, none⟩ = some (.int .i64 (zs.getD j 0))) :
    Calls Tryd.prog 15 #[.slice a len cap] w fun e w' => e = .returned (.tuple #[.string ⟨(40 :: numsBody zs ++ [41]).toArray⟩, .int .i64 0]) ∧ Below w.heap.size w w' := by
  have h13 : decide (512 < (len : Int)) = false := by simp; omega
  go_enter Tryd.func15, Tryd.ntmps15
  go_wp2
  go_loopw [4, 5] (fun o i w' => ∃ k : Nat, k ≤ len ∧ i = .int .i64 k ∧ o = .string ⟨(40 :: numsBody (zs.take k)).toArray⟩ ∧ Hid (Below w.heap.size w w')) (fun _ i _ => len - (intOf i).toNat)
  case atStart => exact ⟨0, Nat.zero_le _, rfl, rfl, Below.refl _ _⟩
  case round =>
    obtain ⟨k, hk, rfl, rfl, HB⟩ := hrel
    have hlk := numsBody_len (zs.take k) (fun z hzz => hz z (List.mem_of_mem_take hzz))
    have hlt' : (zs.take k).length ≤ 512 := by rw [List.length_take]; omega
    have hlk2 : (40 :: numsBody (zs.take k)).length ≤ 11265 := by rw [List.length_cons]; omega
    by_cases hlt : k < len
    · obtain ⟨b, off, rfl, hbs, hc⟩ := hcell k hlt
      have hzk := hz (zs.getD k 0) (by rw [getD_at _ _ _ (by omega)]; exact List.getElem_mem _)
      have HT : Hid (zs.take (k + 1) = zs.take k ++ [zs.getD k 0]) := take_snoc zs 0 k (by omega)
      generalize zs.getD k 0 = z at *
      have hcr : wr.cell? ⟨b, off + k, none⟩ = some (.int .i64 z) := (HB.out.cell hbs).trans hc
      have hil := itoa_len z hzk.1 hzk.2
      have hil2 : (Lib.itoa z ++ [59]).length ≤ 22 := by rw [List.length_append]; simp; omega
      have HE : Hid ((⟨(40 :: numsBody (zs.take k)).toArray⟩ : ByteArray) ++ ⟨(Lib.itoa z ++ [59]).toArray⟩ = ⟨(40 :: numsBody (zs.take (k + 1))).toArray⟩) := by
        show _ = _
        rw [bcat _ _ _ rfl, HT.out, numsBody_snoc]; rfl
      clear hc hcell HT hlk hlt'
      generalize 40 :: numsBody (zs.take k) = l1 at *
      go_wp2_with fail
      refine (refNumber_any z hzk.1 hzk.2 _).mono ?_
      rintro e w2 ⟨rfl, hb2⟩
      have HB2 : Hid (Below w.heap.size w w2) := below_two HB.out hb2
      clear hb2 HB hcr
      generalize Lib.itoa z ++ [59] = l3 at *
      go_wp2
      go_roundw
      case rel => exact ⟨k + 1, by omega, by go_num, congrArg Value.string HE.out, HB2⟩
      case measure => simp [intOf]; omega
    · have hkl : k = len := by omega
      have HE : Hid ((⟨(40 :: numsBody (zs.take k)).toArray⟩ : ByteArray) ++ ⟨#[41]⟩ = ⟨(40 :: numsBody zs ++ [41]).toArray⟩) := by
        show _ = _
        rw [bcat _ [41] _ rfl, show zs.take k = zs by rw [hkl, ← hlen, List.take_length]]
      clear hkl hcell hlk hlt'
      generalize 40 :: numsBody (zs.take k) = l1 at *
      go_wp2
      go_ret2
      exact ⟨congrArg (fun x => Ending.returned (.tuple #[Value.string x, .int .i64 0])) HE.out, HB.out⟩

set_option maxHeartbeats 400000 in
theorem refNumbers_big (a : Option Addr) (len cap : Nat) (h512 : 512 < len) (w : World) :
    Calls Tryd.prog 15 #[.slice a len cap] w fun e w' => e = .returned (.tuple #[.string ⟨#[]⟩, .int .i64 4]) ∧ w' = w := by
  have h13 : decide (512 < (len : Int)) = true := by simp; omega
  go_enter Tryd.func15, Tryd.ntmps15
  go_wp2
  go_ret2
  exact ⟨rfl, rfl⟩

set_option maxHeartbeats 400000 in
theorem refTexts_big (a : Option Addr) (len cap : Nat) (h512 : 512 < len) (w : World) :
    Calls Tryd.prog 17 #[.slice a len cap] w fun e w' => e = .returned (.tuple #[.string ⟨#[]⟩, .int .i64 4]) ∧ w' = w := by
  have h13 : decide (512 < (len : Int)) = true := by simp; omega
  go_enter Tryd.func17, Tryd.ntmps17
  go_wp2
  go_ret2
  exact ⟨rfl, rfl⟩

/-- A row of bytes of the call's own: one that it may append to; or one that is full, whatever marks it bears. -/
def rowB (w : World) (base : Nat) (v : Value) (xs : List Value) : Prop :=
  w.ownsRowF base 5 1 v xs.length xs ∨ ∃ g fz, v = .slice (some ⟨g, 0, none⟩) xs.length xs.length ∧ base ≤ g ∧ w.heap[g]? = some (.cells xs.toArray 5 fz)

theorem rowB_below {w w' : World} {base : Nat} {v : Value} {xs : List Value} (h : rowB w base v xs) (hb : Below w.heap.size w w') : rowB w' base v xs := by
  rcases h with h | ⟨g, fz, rfl, hB, hg⟩
  · exact .inl (ownsF_below h hb)
  · exact .inr ⟨g, fz, rfl, hB, by rw [hb.block g (Array.getElem?_eq_some_iff.1 hg).1]; exact hg⟩

theorem rowB_own {w : World} {base : Nat} {v : Value} {xs : List Value} (h : rowB w base v xs) : ∀ k, v.ownBlock = some k → base ≤ k := by
  intro k hk
  rcases h with h | ⟨g, fz, rfl, hB, hg⟩
  · exact (h.lt k hk).1
  · simp [Value.ownBlock] at hk; omega

theorem run_append_rowB {w : World} (base : Nat) (ty : TypeId) (v : Value) (xs : List Value) (h : rowB w base v xs) (s : ByteArray) (h1 : 1 ≤ s.size) (hb : xs.length + s.size ≤ 140737488355328) (hbase : base ≤ w.heap.size) :
    ∃ v' w', (Builtin.append_ #[54, 9] ty #[v, .string s]).run Tryd.prog w = .ok v' w' ∧ w'.ownsRowF base 5 1 v' (xs.length + s.size) (xs ++ Lib.strCells s) ∧ w.grownBy w' v.ownBlock := by
  obtain ⟨i0, hi, hz0, hz1, hz2⟩ := info_parts infoByte
  have h63 : xs.length + s.size ≤ maxLen := by show _ ≤ 9223372036854775807; omega
  rcases h with h | ⟨g, fz, rfl, hB, hg⟩
  · obtain ⟨v', w', r1, r2, r3, -⟩ := Lib.run_append_own_stringF (P := Tryd.prog) w base 54 9 ty 5 i0 Tryd.underlying54 Tryd.underlying9 hi hz0 hz1 hz2 v xs.length xs h s h63 hb hbase
    exact ⟨v', w', r1, r2, r3⟩
  · have holds : ∀ j u, xs[j]? = some u → w.cell? ((⟨g, 0, none⟩ : Addr).add j) = some u := by
      intro j u hj
      have : (⟨g, 0, none⟩ : Addr).add j = ⟨g, j, none⟩ := by unfold Addr.add; split <;> simp_all
      rw [this, cell_of_block hg]
      simpa using hj
    have hr := Lib.run_append_grow_string (P := Tryd.prog) w 54 9 ty 5 i0 (.int .u8 0) Tryd.underlying54 Tryd.underlying9 hi hz0 ⟨g, 0, none⟩ xs.length xs.length xs (by rw [hz1]; simp) holds s (by omega) (by omega) (by rw [hz2]; exact growslice_fits (by omega) (by omega))
    have hge := grownCap_ge w (xs.length + s.size) xs.length 5
    have hcm2 : grownCap w (xs.length + s.size) xs.length 5 ≤ maxLen := grownCap_le_maxLen w (xs.length + s.size) xs.length 5 h63
    have hlen : (xs ++ Lib.strCells s).length = (xs.length + s.size) * 1 := by rw [List.length_append, Lib.strCells_length, Nat.mul_one]
    refine ⟨_, _, hr, ⟨hlen, .inr ⟨w.heap.size, _, _, (0, 0), rfl, hbase, heap_alloc_new w.drew _, Nat.zero_le _, hge, hcm2, ?_, ?_⟩⟩, ⟨rfl, rfl, rfl, by simp, fun k hk _ => heap_alloc_old w.drew _ hk⟩⟩
    · have hz1 : (Value.int IntKind.u8 0).cells.size = 1 := rfl
      simp only [Array.size_append, List.size_toArray, size_zeroCells, hz1, Lib.strCells_length]
      omega
    · simp only [Array.toList_append, List.append_assoc]
      rw [← List.append_assoc, ← hlen]
      exact List.take_left

theorem wpList_append_rowB {w : World} {ops : Array Oper} {rest : List Oper} {o : Oper} {a : Act} {Q : Exit → Act → World → Prop} (hgd : o.guard = none) (sl x : Operand)
    (ho : o.op = .call { callee := .builtin .append, args := #[sl, x], argTypes := #[54, 9] })
    (base : Nat) (v : Value) (xs : List Value) (hs : a.eval sl = v) (hown : rowB w base v xs) (s : ByteArray) (hx : a.eval x = .string s) (h1 : 1 ≤ s.size)
    (hbytes : xs.length + s.size ≤ 140737488355328) (hbase : base ≤ w.heap.size)
    (h : ∀ v' w', w'.ownsRowF base 5 1 v' (xs.length + s.size) (xs ++ Lib.strCells s) → w.grownBy w' v.ownBlock → wpList Tryd.prog ops Q rest (a.put o.dst v') w') : wpList Tryd.prog ops Q (o :: rest) a w := by
  refine wpList_plain hgd fun K hK => ?_
  obtain ⟨v', w', hr, h2, h3⟩ := run_append_rowB base o.type v xs hown s h1 hbytes hbase
  unfold Oper.wp execOp
  simp only [ho, resolve, invoke, builtin, Sem.run_bind, Sem.run_pure, Result.andThen_ok, List.map_toArray, List.map_cons, List.map_nil, hs, hx, hr]
  exact hK _ _ (h v' w' h2 h3)

theorem conv_rowB {w : World} {base : Nat} {v : Value} {l : List UInt8} (h : rowB w base v (Lib.byteCells l)) (hne : l ≠ []) : ∃ g cap, v = .slice (some ⟨g, 0, none⟩) l.length cap ∧ (convert 54 9 (.slice (some ⟨g, 0, none⟩) l.length cap)).run Tryd.prog w = .ok (.string ⟨l.toArray⟩) w := by
  have hfin : ∀ g cap, (∀ j, j < l.length → w.cell? ⟨g, 0 + j, none⟩ = some (.int .u8 ((l.map fun b => (b.toNat : Int)).getD j 0))) → (convert 54 9 (.slice (some ⟨g, 0, none⟩) l.length cap)).run Tryd.prog w = .ok (.string ⟨l.toArray⟩) w := by
    intro g cap hc
    have := run_convert_bytes_arg (P := Tryd.prog) w 54 5 Tryd.underlying54 Tryd.underlying5 g 0 l.length cap (l.map fun b => (b.toNat : Int)) (by simp) hc 9 Tryd.underlying9
    rw [this]
    have e : strOfNums (l.map fun b => (b.toNat : Int)) = ⟨l.toArray⟩ := by
      have h1 := bytes_eta (strOfNums (l.map fun b => (b.toNat : Int)))
      rw [strOfNums_data] at h1
      rw [← h1]
      simp [Function.comp_def]
    rw [e]
  have hat : ∀ j, j < l.length → (Lib.byteCells l)[j]? = some (.int .u8 ((l.map fun b => (b.toNat : Int)).getD j 0)) := by
    intro j hj
    simp [Lib.byteCells, List.getD, hj]
  rcases h with h | ⟨g, fz, rfl, hB, hg⟩
  · rcases h.2 with ⟨_, h0⟩ | ⟨g, cap, cur, fz, rfl, hB, hg, -, -, -, hcs, htake⟩
    · rw [Lib.byteCells_length] at h0
      exact absurd (List.length_eq_zero_iff.1 h0) hne
    · rw [Lib.byteCells_length] at htake ⊢
      refine ⟨g, cap, rfl, hfin g cap fun j hj => ?_⟩
      have h2 := hat j hj
      rw [← htake, List.getElem?_take, if_pos (by omega)] at h2
      rw [Nat.zero_add, cell_of_block hg, ← Array.getElem?_toList]
      exact h2
  · rw [Lib.byteCells_length]
    refine ⟨g, l.length, rfl, hfin g _ fun j hj => ?_⟩
    rw [Nat.zero_add, cell_of_block hg]
    have h2 := hat j hj
    simpa using h2

set_option maxHeartbeats 1000000 in
theorem refTexts_any (a : Option Addr) (len cap : Nat) (Xs : List ByteArray) (hlen : Xs.length = len) (h512 : len ≤ 512) (w : World)
    (hcell : ∀ (j : Nat), j < len → ∃ b off, a = some ⟨b, off, none⟩ ∧ b < w.heap.size ∧ w.cell? ⟨b, off + j, none⟩ = some (.string (Xs.getD j ByteArray.empty))) :
    Calls Tryd.prog 17 #[.slice a len cap] w fun e w' => e = .returned (.tuple #[.string ⟨(textsOut Xs).toArray⟩, .int .i64 (textsErr Xs)]) ∧ Below w.heap.size w w' := by
  have h13 : decide (512 < (len : Int)) = false := by simp; omega
  have kc := fun (w : World) (C : Array Value) (n c : Nat) => Lib.run_convert_bytes_const (P := Tryd.prog) w 54 5 C n c Tryd.underlying54 Tryd.underlying5
  go_enter Tryd.func17, Tryd.ntmps17
  go_wp2
  go_loopw [4, 5] (fun o i w' => ∃ k : Nat, k ≤ len ∧ i = .int .i64 k ∧ Hid (∀ x ∈ Xs.take k, x.size ≤ 16384) ∧ Hid (rowB w' w.heap.size o (Lib.byteCells (40 :: textsBody (Xs.take k)))) ∧ Hid (Below w.heap.size w w')) (fun _ i _ => len - (intOf i).toNat)
  case atStart =>
    refine ⟨0, Nat.zero_le _, rfl, by intro x hx; simp at hx, Or.inr ⟨w.heap.size, (1, 2), rfl, Nat.le_refl _, ?_⟩, below_alloc1 w _⟩
    exact heap_alloc_new w _
  case round =>
    obtain ⟨k, hk, rfl, HSm, HI, HB⟩ := hrel
    clear kc
    have hsz := HB.out.size
    have hlk := textsBody_len (Xs.take k) HSm.out
    have hlt' : (Xs.take k).length ≤ 512 := by rw [List.length_take]; omega
    by_cases hlt : k < len
    · obtain ⟨b, off, rfl, hbs, hc⟩ := hcell k hlt
      have HM : Hid (Xs.getD k ByteArray.empty ∈ Xs) := by show _ ∈ _; rw [getD_at _ _ _ (by omega)]; exact List.getElem_mem _
      have HT : Hid (Xs.take (k + 1) = Xs.take k ++ [Xs.getD k ByteArray.empty]) := take_snoc Xs _ k (by omega)
      generalize Xs.getD k ByteArray.empty = z at *
      have hcr : wr.cell? ⟨b, off + k, none⟩ = some (.string z) := (HB.out.cell hbs).trans hc
      clear hc hcell
      by_cases hzs : z.size ≤ 16384
      · have htl := textB_len z.data.toList (by rw [size_list]; exact hzs)
        have htp : 1 ≤ (textB z.data.toList).length := by unfold textB; simp; omega
        go_wp2_with fail
        refine (refText_ok z hzs _).mono ?_
        rintro e w2 ⟨rfl, hb2⟩
        have HI2 : Hid (rowB w2 w.heap.size u4 (Lib.byteCells (40 :: textsBody (Xs.take k)))) := rowB_below HI.out hb2
        have HB2 : Hid (Below w.heap.size w w2) := below_two HB.out hb2
        have hsz2 : w.heap.size ≤ w2.heap.size := HB2.out.size
        clear hb2 HI HB hcr
        go_wp2_with (at_builtin; refine wpList_append_rowB rfl _ _ rfl w.heap.size _ _ rfl HI2.out ⟨(textB z.data.toList).toArray⟩ rfl ?c1 ?c2 hsz2 ?_)
        case c1 => simpa [ByteArray.size] using htp
        case c2 => simp [Lib.byteCells, ByteArray.size]; omega
        intro v' w3 hown hgr
        have HI3 : Hid (rowB w3 w.heap.size v' (Lib.byteCells (40 :: textsBody (Xs.take (k + 1))))) := by
          have e : Lib.byteCells (40 :: textsBody (Xs.take (k + 1))) = Lib.byteCells (40 :: textsBody (Xs.take k)) ++ Lib.strCells ⟨(textB z.data.toList).toArray⟩ := by
            rw [HT.out, textsBody_snoc]; simp [Lib.byteCells, Lib.strCells]
          refine Or.inl ?_
          rw [e, List.length_append, Lib.strCells_length]
          exact hown
        have HB3 : Hid (Below w.heap.size w w3) := HB2.out.grown hgr hsz2 (rowB_own HI2.out)
        have HS3 : Hid (∀ x ∈ Xs.take (k + 1), x.size ≤ 16384) := by
          show ∀ x ∈ _, _
          rw [HT.out]
          intro x hx
          rcases List.mem_append.1 hx with h | h
          · exact HSm.out x h
          · rw [List.mem_singleton.1 h]; exact hzs
        clear hown hgr HI2 HB2 HT hsz2 HSm
        go_wp2
        go_roundw
        case rel => exact ⟨k + 1, by omega, by go_num, HS3, HI3, HB3⟩
        case measure => simp [intOf]; omega
      · have HO : Hid (textsOut Xs = [] ∧ textsErr Xs = 4) := textsOut_bad HM.out (by omega)
        go_wp2_with fail
        refine (refText_big z (by omega) _).mono ?_
        rintro e w2 ⟨rfl, hw⟩
        subst hw
        go_wp2
        go_ret2
        rw [HO.out.1, HO.out.2]
        exact ⟨rfl, HB.out⟩
    · have hkl : k = len := by omega
      have HK : Hid (Xs.take k = Xs) := by show _ = _; rw [hkl, ← hlen, List.take_length]
      have HO : Hid (textsOut Xs = 40 :: textsBody Xs ++ [41] ∧ textsErr Xs = 0) := textsOut_ok (by rw [← HK.out]; exact HSm.out)
      obtain ⟨g, cp, rfl, hconv⟩ := conv_rowB HI.out (by simp)
      have hll : (40 :: textsBody (Xs.take k)).length ≤ 9000000 := by rw [List.length_cons]; omega
      have HE : Hid ((⟨(40 :: textsBody (Xs.take k)).toArray⟩ : ByteArray) ++ ⟨#[41]⟩ = ⟨(textsOut Xs).toArray⟩) := by
        show _ = _
        rw [bcat _ [41] _ rfl, HO.out.1, HK.out]
      clear hkl hcell HI hlk hlt' HK
      generalize 40 :: textsBody (Xs.take k) = l1 at *
      go_wp2
      go_ret2
      rw [HO.out.2]
      exact ⟨congrArg (fun x => Ending.returned (.tuple #[Value.string x, .int .i64 0])) HE.out, HB.out⟩

end Go.Proofs.YtldhhbkdhcidcaaDoor
