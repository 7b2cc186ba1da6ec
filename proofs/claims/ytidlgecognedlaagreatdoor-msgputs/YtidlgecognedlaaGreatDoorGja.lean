/-
  What msg.layAll answers of any list of fields: their bytes, one behind the other.
-/
import Derived.Test.YtidlgecognedlaaGreatDoorJfs
import Derived.Test.YtidlgecognedlaaGreatDoorLlst
import Derived.Test.YtidlgecognedlaaGreatDoorJrz
import Derived.Test.YtidlgecognedlaaGreatDoorJsr
import Derived.Test.YtidlgecognedlaaGreatDoorJas
import Derived.Test.YtidlgecognedlaaGreatDoorJsm
namespace Go.Proofs.YtidlgecognedlaaGreatDoor.Ms
open Go Go.RowKit
set_option maxRecDepth 100000

/-- A thing that has fields, in a block: what is kept, what its fields hold, and what it is when another value comes to lie at one's place. -/
structure Hold {α : Type} (fs : List (Fl α)) (g base : Nat) (I : α → World → Prop) : Prop where
  own : ∀ x w, I x w → Own w g
  stay : ∀ x w w', I x w → Below w.heap.size w w' → I x w'
  load : ∀ x w, I x w → ∀ f ∈ fs, ValAt w g (base + f.off) (f.get x) ∧ (f.get x).slot = f.slot
  store : ∀ x w, I x w → ∀ f ∈ fs, ∃ A old C t, w.heap[g]? = some (.cells (A ++ (old ++ C)).toArray t) ∧ A.length = base + f.off ∧ old.length = sz f.slot ∧ ∀ v w', v.slot = f.slot → okVal v → StoreAt w g A C t v w' → I (f.set x v) w'
theorem c1_any (k : Slot) (HL : LayOne k) {w : World} {g off : Nat} {b : Bx} {v : Val} (hF : FieldAt w k g off b) (hs : v.slot = k) (hv : ValAt w g off v) (ho : okVal v) (ht : Tb w) :
    Calls Tryz.prog (c1Fn k) #[ptr b.q 0, ptr b.x 0] w fun e w' => e = .returned (st (layVal v)) ∧ Below w.heap.size w w' := by
  cases k using Slot.cut
  · exact c1_num HL hF hs hv ho ht
  · exact c1_txt HL hF hs hv ho ht
  · exact c1_dig HL hF hs hv ho ht
  · exact c1_nums HL hF hs hv ho ht
  · exact c1_pens HL hF hs hv ho ht

theorem spots_len {α : Type} (base : Nat) (fs : List (Fl α)) : (spots base fs).length = fs.length := by simp [spots]
theorem spots_at {α : Type} (base : Nat) (fs : List (Fl α)) (j : Nat) (h : j < fs.length) : (spots base fs).getD j (.num, 0) = (fs[j].slot, base + fs[j].off) := by simp [spots, List.getD, h]
theorem flat3 {α : Type} (f : α → List Value) (hf : ∀ x, (f x).length = 3) : ∀ (l : List α) (j : Nat) (h : j < l.length) (i : Nat) (v : Value), (f l[j])[i]? = some v → ((l.map f).flatten)[j * 3 + i]? = some v
  | [], j, h, _, _, _ => absurd h (Nat.not_lt_zero j)
  | x :: l, 0, _, i, v, hv => by
    have hi : i < (f x).length := (List.getElem?_eq_some_iff.1 hv).1
    simp only [List.map_cons, List.flatten_cons, Nat.zero_mul, Nat.zero_add]
    rw [List.getElem?_append_left hi]
    exact hv
  | x :: l, j + 1, h, i, v, hv => by
    simp only [List.map_cons, List.flatten_cons]
    rw [List.getElem?_append_right (by rw [hf]; omega), hf, show (j + 1) * 3 + i - 3 = j * 3 + i by omega]
    exact flat3 f hf l j (by simpa using h) i v hv
/-- The cells of a list's field. -/
theorem FieldsAt.cells {w : World} {a : Option Addr} {n c : Nat} {g : Nat} {fs : List (Slot × Nat)} (h : FieldsAt w (.slice a n c) g fs) (j : Nat) (hj : j < fs.length) :
    ∃ row b, a = some ⟨row, 0, none⟩ ∧ FieldAt w (fs.getD j (.num, 0)).1 g (fs.getD j (.num, 0)).2 b ∧ ∀ i v, (fieldV (fs.getD j (.num, 0)).1 b)[i]? = some v → w.cell? ⟨row, j * 3 + i, none⟩ = some v := by
  obtain ⟨a', bs, h1, h2, h3, h4⟩ := h
  obtain ⟨row, h5, h6⟩ := h3 (fun e => by rw [e] at hj; exact absurd hj (Nat.not_lt_zero j))
  cases h1
  refine ⟨row, bs.getD j ⟨0, 0, 0⟩, h5, h4 j hj, fun i v hv => ?_⟩
  rw [cell_of_row _ _ _ _ _ _ h6, List.getElem?_toArray]
  have hjz : j < (fs.zip bs).length := by simp [h2]; omega
  refine flat3 (fun q : (Slot × Nat) × Bx => fieldV q.1.1 q.2) (fun _ => rfl) (fs.zip bs) j hjz i v ?_
  have e1 : fs.getD j (.num, 0) = fs[j] := by simp [List.getD, hj]
  have e2 : bs.getD j ⟨0, 0, 0⟩ = bs[j] := by simp [List.getD, h2, hj]
  rw [e1, e2] at hv
  simpa using hv
theorem put_take {α : Type} (f : Val → List UInt8) (fs : List (Fl α)) (x : α) (j : Nat) (h : j < fs.length) : putAll f (fs.take (j + 1)) x = putAll f (fs.take j) x ++ f (fs[j].get x) := by
  unfold putAll
  rw [List.take_succ_eq_append_getElem h, List.map_append, List.flatten_append]
  simp only [List.map_cons, List.map_nil, List.flatten_cons, List.flatten_nil, List.append_nil]
theorem layPen_len (p : Pen) (h : penOk p) : (layPen p).length ≤ 200 := by
  have a1 := numB_len p.client h.client
  have a2 := numB_len p.number h.number
  have a3 := numB_len p.kind h.kind
  have a4 := numB_len p.target h.target
  have a5 := txtB_len p.asked (by rw [h.asked]; decide)
  have a6 := txtB_len p.proof (by rw [h.proof]; decide)
  have e : layPen p = numB p.client ++ (numB p.number ++ (numB p.kind ++ (numB p.target ++ (txtB p.asked ++ (txtB p.proof ++ []))))) := rfl
  rw [e]
  simp only [List.length_append, List.length_nil]
  rw [h.asked] at a5
  rw [h.proof] at a6
  omega
theorem layVal_len (v : Val) (h : okVal v) : (layVal v).length ≤ 20000 := by
  cases v using Val.cut with
  | num n => have := numB_len n h; show (numB n).length ≤ _; omega
  | txt s =>
    have h : s.length ≤ 16384 := h
    show (layT s).length ≤ _
    unfold layT
    rw [if_neg (by omega)]
    have := txtB_len s (by omega)
    omega
  | dig d =>
    have h : d.length = 32 := h
    have := txtB_len d (by omega)
    show (txtB d).length ≤ _
    omega
  | nums l =>
    have := intsB_len l h.2
    show (layNs l).length ≤ _
    unfold layNs
    have := h.1
    rw [if_neg (by omega)]
    simp
    omega
  | pens l =>
    have h1 := numB_len (l.length : Int) ⟨by omega, by have := h.1; omega⟩
    have h2 : ∀ l : List Pen, (∀ p ∈ l, penOk p) → ((l.map layPen).flatten).length ≤ 200 * l.length := by
      intro l
      induction l with
      | nil => simp
      | cons p l ih =>
        intro hp
        have := layPen_len p (hp p (by simp))
        have := ih (fun q hq => hp q (by simp [hq]))
        simp only [List.map_cons, List.flatten_cons, List.length_append, List.length_cons]
        omega
    have h3 := h2 l h.2
    have := h.1
    show (numB l.length ++ (l.map layPen).flatten).length ≤ _
    rw [List.length_append]
    omega
theorem put_len {α : Type} (fs : List (Fl α)) (x : α) (h : ∀ f ∈ fs, okVal (f.get x)) : (putAll layVal fs x).length ≤ 20000 * fs.length := by
  unfold putAll
  induction fs with
  | nil => simp
  | cons f fs ih =>
    have := layVal_len _ (h f (by simp))
    have := ih (fun g hg => h g (by simp [hg]))
    simp only [List.map_cons, List.flatten_cons, List.length_append, List.length_cons]
    omega

set_option maxHeartbeats 8000000 in
theorem layall_any {α : Type} {fs : List (Fl α)} {g base : Nat} {I : α → World → Prop} (H : Hold fs g base I) (HL : ∀ f ∈ fs, LayOne f.slot) {w : World} {v : Value} {x : α} (hv : FieldsAt w v g (spots base fs)) (hx : I x w) (ho : ∀ f ∈ fs, okVal (f.get x)) (hn : fs.length ≤ 100) (ht : Tb w) :
    Calls Tryz.prog 41 #[v] w fun e w' => e = .returned (st (putAll layVal fs x)) ∧ Below w.heap.size w w' := by
  have HF : Hid (Lib.IsBuilderF 144 5 w.heap.size w.heap.size (Lib.byteCells (putAll layVal (fs.take 0) x)) (w.alloc (.cells #[.pointer none, .slice none 0 0] 144))) := Lib.IsBuilderF.of (Lib.fresh_isBuilder 144 5 w)
  have HB0 := hid (below_a1 w (.cells #[.pointer none, .slice none 0 0] 144))
  have HV := hid hv
  obtain ⟨a, bs0, rfl, -⟩ := hv
  rw [spots_len] at HV ⊢
  have HO := hid ho
  have HX := hid hx
  have HH := hid H
  have HLL := hid HL
  have HT := hid ht
  clear ho hx H HL ht
  go_enter Tryz.func41, Tryz.ntmps41
  go_wp2
  go_loopw [8] (fun i w' => ∃ k : Nat, k ≤ fs.length ∧ i = .int .i64 k ∧ Hid (Lib.IsBuilderF 144 5 w.heap.size w.heap.size (Lib.byteCells (putAll layVal (fs.take k) x)) w') ∧ Hid (Below w.heap.size w w')) (fun i _ => fs.length - (intOf i).toNat)
  case atStart => exact ⟨0, Nat.zero_le _, rfl, HF, HB0⟩
  case round =>
    obtain ⟨k, hk, rfl, HI, HB⟩ := hrel
    clear HF HB0
    by_cases hlt : k < fs.length
    · have d1 : decide ((k : Int) < (fs.length : Int)) = true := decide_eq_true (by omega)
      have d1' : decide (k < fs.length) = true := decide_eq_true hlt
      obtain ⟨row, b, ha, hF, hc⟩ := (HV.out.stays HB.out).cells k (by rw [spots_len]; exact hlt)
      subst ha
      rw [spots_at base fs k hlt] at hF hc
      have hmem : fs[k] ∈ fs := List.getElem_mem hlt
      have hok := HO.out _ hmem
      obtain ⟨hld, hsl⟩ := HH.out.load x _ (HH.out.stay x _ _ HX.out HB.out) _ hmem
      have htk := HT.out.stays HB.out
      have HLk := HLL.out _ hmem
      have hpt := hid (put_take layVal fs x k hlt)
      have hpl := put_len (fs.take k) x (fun f hf => HO.out f (List.mem_of_mem_take hf))
      have hvl := layVal_len _ hok
      have hct : (fs.take k).length ≤ 100 := by rw [List.length_take]; omega
      generalize fs[k].get x = val at *
      have Z0 : (Tryz.prog.info? 147).map (·.size) = some (fieldV fs[k].slot b).length := sizeFld
      have HOn := hid (one_fld fs[k].slot b)
      have hL : ([.nilFunc, .nilFunc, .nilFunc] : List Value).length = (fieldV fs[k].slot b).length := rfl
      have S0 := hid hc
      have HBt := hid (below_a1 wr (.cells (fieldV fs[k].slot b).toArray 147))
      have T0 := hid (top_obj wr (.cells (fieldV fs[k].slot b).toArray 147))
      have HC := hid (c1_any fs[k].slot HLk (hF.stays HBt.out) hsl (by
        cases val using Val.cut with
        | num n => exact (HBt.out.cell (World.block_lt_of_cell? wr _ hld)).trans hld
        | txt n => exact (HBt.out.cell (World.block_lt_of_cell? wr _ hld)).trans hld
        | dig n => exact fun i c hi => (HBt.out.cell (World.block_lt_of_cell? wr _ (hld i c hi))).trans (hld i c hi)
        | nums n => obtain ⟨cv, h1, h2⟩ := hld; exact ⟨cv, (HBt.out.cell (World.block_lt_of_cell? wr _ h1)).trans h1, h2.kept HBt.out⟩
        | pens n => obtain ⟨cv, h1, h2⟩ := hld; exact ⟨cv, (HBt.out.cell (World.block_lt_of_cell? wr _ h1)).trans h1, h2.kept HBt.out⟩) hok (htk.stays HBt.out))
      have HI1 := hid (Lay.isF_below HI.out HBt.out)
      have HB1 := hid (below_two HB.out HBt.out)
      clear hc hmem hok hld hsl htk HLk hF HBt HI HB HO HX HH HLL HT HV
      generalize layVal val = lv at *
      generalize fs[k].slot = sl at *
      generalize putAll layVal (fs.take k) x = pr at *
      have hlv : (⟨lv.toArray⟩ : ByteArray).size = lv.length := rfl
      cases sl using Slot.cut with
      | num => as_aux_lemma =>
        have ce : (wr.alloc (.cells (fieldV .num b).toArray 147)).cell? ⟨wr.heap.size, 0, none⟩ = some (.func (.func (c1Fn .num)) #[] #[ptr b.q 0, ptr b.x 0]) := by rw [cell_of_row _ _ _ _ _ _ T0.out]; rfl
        simp only [c1Fn] at ce HC
        generalize fieldV .num b = V at *
        clear T0
        go_upto_region 5 with (first | ((with_reducible refine wl_load 147 (.tmp 10) ?_ row (k * 3) ?_ ?_ V _ S0.out Tryz.underlying147 ?_ Z0 ?_); exact rfl; exact rfl; exact rfl; exact rfl) | ((with_reducible refine wl_store_top 147 (.tmp 5) (.tmp 11) ?_ ?_ ?_ ?_ V [.nilFunc, .nilFunc, .nilFunc] ?_ 147 hL HOn.out Z0 ?_); exact rfl; exact rfl; exact rfl; exact rfl; exact rfl))
        generalize wr.alloc (.cells V.toArray 147) = W2 at *
        go_wp2_with fail
        refine HC.out.mono ?_
        rintro e w3 ⟨rfl, hb3⟩
        have HB3 := hid (below_two HB1.out hb3)
        have HI3 := hid (Lay.isF_below HI1.out hb3)
        have hsz3 := HB3.out.size
        clear hb3 HC HB1 HI1 S0 ce
        go_wp2_with fail
        refine (Lay.write_string w.heap.size w.heap.size _ ⟨lv.toArray⟩ _ HI3.out (by simp [Lib.byteCells, ByteArray.size]; omega) hsz3).mono ?_
        rintro e w4 ⟨rfl, h4, hb4, -⟩
        have H4 : Hid (Lib.IsBuilderF 144 5 w.heap.size w.heap.size (Lib.byteCells (putAll layVal (fs.take (k + 1)) x)) w4) := by
          refine Or.inr ?_
          rw [hpt.out]
          simpa [Lib.byteCells, Lib.strCells] using h4
        have HB4 : Hid (Below w.heap.size w w4) := HB3.out.trans hb4
        clear h4 hb4 HI3 HB3
        go_wp2
        exact ⟨⟨k + 1, by omega, by go_num, H4, HB4⟩, by simp [intOf]; omega⟩
      | txt => as_aux_lemma =>
        have ce : (wr.alloc (.cells (fieldV .txt b).toArray 147)).cell? ⟨wr.heap.size, 0, none⟩ = some (.func (.func (c1Fn .txt)) #[] #[ptr b.q 0, ptr b.x 0]) := by rw [cell_of_row _ _ _ _ _ _ T0.out]; rfl
        simp only [c1Fn] at ce HC
        generalize fieldV .txt b = V at *
        clear T0
        go_upto_region 5 with (first | ((with_reducible refine wl_load 147 (.tmp 10) ?_ row (k * 3) ?_ ?_ V _ S0.out Tryz.underlying147 ?_ Z0 ?_); exact rfl; exact rfl; exact rfl; exact rfl) | ((with_reducible refine wl_store_top 147 (.tmp 5) (.tmp 11) ?_ ?_ ?_ ?_ V [.nilFunc, .nilFunc, .nilFunc] ?_ 147 hL HOn.out Z0 ?_); exact rfl; exact rfl; exact rfl; exact rfl; exact rfl))
        generalize wr.alloc (.cells V.toArray 147) = W2 at *
        go_wp2_with fail
        refine HC.out.mono ?_
        rintro e w3 ⟨rfl, hb3⟩
        have HB3 := hid (below_two HB1.out hb3)
        have HI3 := hid (Lay.isF_below HI1.out hb3)
        have hsz3 := HB3.out.size
        clear hb3 HC HB1 HI1 S0 ce
        go_wp2_with fail
        refine (Lay.write_string w.heap.size w.heap.size _ ⟨lv.toArray⟩ _ HI3.out (by simp [Lib.byteCells, ByteArray.size]; omega) hsz3).mono ?_
        rintro e w4 ⟨rfl, h4, hb4, -⟩
        have H4 : Hid (Lib.IsBuilderF 144 5 w.heap.size w.heap.size (Lib.byteCells (putAll layVal (fs.take (k + 1)) x)) w4) := by
          refine Or.inr ?_
          rw [hpt.out]
          simpa [Lib.byteCells, Lib.strCells] using h4
        have HB4 : Hid (Below w.heap.size w w4) := HB3.out.trans hb4
        clear h4 hb4 HI3 HB3
        go_wp2
        exact ⟨⟨k + 1, by omega, by go_num, H4, HB4⟩, by simp [intOf]; omega⟩
      | dig => as_aux_lemma =>
        have ce : (wr.alloc (.cells (fieldV .dig b).toArray 147)).cell? ⟨wr.heap.size, 0, none⟩ = some (.func (.func (c1Fn .dig)) #[] #[ptr b.q 0, ptr b.x 0]) := by rw [cell_of_row _ _ _ _ _ _ T0.out]; rfl
        simp only [c1Fn] at ce HC
        generalize fieldV .dig b = V at *
        clear T0
        go_upto_region 5 with (first | ((with_reducible refine wl_load 147 (.tmp 10) ?_ row (k * 3) ?_ ?_ V _ S0.out Tryz.underlying147 ?_ Z0 ?_); exact rfl; exact rfl; exact rfl; exact rfl) | ((with_reducible refine wl_store_top 147 (.tmp 5) (.tmp 11) ?_ ?_ ?_ ?_ V [.nilFunc, .nilFunc, .nilFunc] ?_ 147 hL HOn.out Z0 ?_); exact rfl; exact rfl; exact rfl; exact rfl; exact rfl))
        generalize wr.alloc (.cells V.toArray 147) = W2 at *
        go_wp2_with fail
        refine HC.out.mono ?_
        rintro e w3 ⟨rfl, hb3⟩
        have HB3 := hid (below_two HB1.out hb3)
        have HI3 := hid (Lay.isF_below HI1.out hb3)
        have hsz3 := HB3.out.size
        clear hb3 HC HB1 HI1 S0 ce
        go_wp2_with fail
        refine (Lay.write_string w.heap.size w.heap.size _ ⟨lv.toArray⟩ _ HI3.out (by simp [Lib.byteCells, ByteArray.size]; omega) hsz3).mono ?_
        rintro e w4 ⟨rfl, h4, hb4, -⟩
        have H4 : Hid (Lib.IsBuilderF 144 5 w.heap.size w.heap.size (Lib.byteCells (putAll layVal (fs.take (k + 1)) x)) w4) := by
          refine Or.inr ?_
          rw [hpt.out]
          simpa [Lib.byteCells, Lib.strCells] using h4
        have HB4 : Hid (Below w.heap.size w w4) := HB3.out.trans hb4
        clear h4 hb4 HI3 HB3
        go_wp2
        exact ⟨⟨k + 1, by omega, by go_num, H4, HB4⟩, by simp [intOf]; omega⟩
      | nums => as_aux_lemma =>
        have ce : (wr.alloc (.cells (fieldV .nums b).toArray 147)).cell? ⟨wr.heap.size, 0, none⟩ = some (.func (.func (c1Fn .nums)) #[] #[ptr b.q 0, ptr b.x 0]) := by rw [cell_of_row _ _ _ _ _ _ T0.out]; rfl
        simp only [c1Fn] at ce HC
        generalize fieldV .nums b = V at *
        clear T0
        go_upto_region 5 with (first | ((with_reducible refine wl_load 147 (.tmp 10) ?_ row (k * 3) ?_ ?_ V _ S0.out Tryz.underlying147 ?_ Z0 ?_); exact rfl; exact rfl; exact rfl; exact rfl) | ((with_reducible refine wl_store_top 147 (.tmp 5) (.tmp 11) ?_ ?_ ?_ ?_ V [.nilFunc, .nilFunc, .nilFunc] ?_ 147 hL HOn.out Z0 ?_); exact rfl; exact rfl; exact rfl; exact rfl; exact rfl))
        generalize wr.alloc (.cells V.toArray 147) = W2 at *
        go_wp2_with fail
        refine HC.out.mono ?_
        rintro e w3 ⟨rfl, hb3⟩
        have HB3 := hid (below_two HB1.out hb3)
        have HI3 := hid (Lay.isF_below HI1.out hb3)
        have hsz3 := HB3.out.size
        clear hb3 HC HB1 HI1 S0 ce
        go_wp2_with fail
        refine (Lay.write_string w.heap.size w.heap.size _ ⟨lv.toArray⟩ _ HI3.out (by simp [Lib.byteCells, ByteArray.size]; omega) hsz3).mono ?_
        rintro e w4 ⟨rfl, h4, hb4, -⟩
        have H4 : Hid (Lib.IsBuilderF 144 5 w.heap.size w.heap.size (Lib.byteCells (putAll layVal (fs.take (k + 1)) x)) w4) := by
          refine Or.inr ?_
          rw [hpt.out]
          simpa [Lib.byteCells, Lib.strCells] using h4
        have HB4 : Hid (Below w.heap.size w w4) := HB3.out.trans hb4
        clear h4 hb4 HI3 HB3
        go_wp2
        exact ⟨⟨k + 1, by omega, by go_num, H4, HB4⟩, by simp [intOf]; omega⟩
      | pens => as_aux_lemma =>
        have ce : (wr.alloc (.cells (fieldV .pens b).toArray 147)).cell? ⟨wr.heap.size, 0, none⟩ = some (.func (.func (c1Fn .pens)) #[] #[ptr b.q 0, ptr b.x 0]) := by rw [cell_of_row _ _ _ _ _ _ T0.out]; rfl
        simp only [c1Fn] at ce HC
        generalize fieldV .pens b = V at *
        clear T0
        go_upto_region 5 with (first | ((with_reducible refine wl_load 147 (.tmp 10) ?_ row (k * 3) ?_ ?_ V _ S0.out Tryz.underlying147 ?_ Z0 ?_); exact rfl; exact rfl; exact rfl; exact rfl) | ((with_reducible refine wl_store_top 147 (.tmp 5) (.tmp 11) ?_ ?_ ?_ ?_ V [.nilFunc, .nilFunc, .nilFunc] ?_ 147 hL HOn.out Z0 ?_); exact rfl; exact rfl; exact rfl; exact rfl; exact rfl))
        generalize wr.alloc (.cells V.toArray 147) = W2 at *
        go_wp2_with fail
        refine HC.out.mono ?_
        rintro e w3 ⟨rfl, hb3⟩
        have HB3 := hid (below_two HB1.out hb3)
        have HI3 := hid (Lay.isF_below HI1.out hb3)
        have hsz3 := HB3.out.size
        clear hb3 HC HB1 HI1 S0 ce
        go_wp2_with fail
        refine (Lay.write_string w.heap.size w.heap.size _ ⟨lv.toArray⟩ _ HI3.out (by simp [Lib.byteCells, ByteArray.size]; omega) hsz3).mono ?_
        rintro e w4 ⟨rfl, h4, hb4, -⟩
        have H4 : Hid (Lib.IsBuilderF 144 5 w.heap.size w.heap.size (Lib.byteCells (putAll layVal (fs.take (k + 1)) x)) w4) := by
          refine Or.inr ?_
          rw [hpt.out]
          simpa [Lib.byteCells, Lib.strCells] using h4
        have HB4 : Hid (Below w.heap.size w w4) := HB3.out.trans hb4
        clear h4 hb4 HI3 HB3
        go_wp2
        exact ⟨⟨k + 1, by omega, by go_num, H4, HB4⟩, by simp [intOf]; omega⟩
    · as_aux_lemma =>
      have hkl : k = fs.length := by omega
      subst hkl
      have dk : decide ((fs.length : Int) < (fs.length : Int)) = false := decide_eq_false (by omega)
      have hsz := HB.out.size
      rw [List.take_length] at HI
      clear HO HX HH HLL HT HV
      go_wp2_with fail
      refine (Tryz.Builder_String_any_k w.heap.size w.heap.size (putAll layVal fs x) _ HI.out hsz).mono ?_
      rintro e w3 ⟨rfl, h3, hb3, -⟩
      have HB3 : Hid (Below w.heap.size w w3) := HB.out.trans hb3
      clear h3 hb3
      go_wp2
      go_ret
      exact ⟨rfl, HB3.out⟩
end Go.Proofs.YtidlgecognedlaaGreatDoor.Ms

/-
  What msg.readAll answers of any list of fields: they are read one behind the other, up to the first one's error.
-/
namespace Go.Proofs.YtidlgecognedlaaGreatDoor.Ms
open Go Go.RowKit
set_option maxRecDepth 100000

/-- The block of a thing is none of the laid variables'. -/
def Tn (g : Nat) : Prop := 0 ≠ g ∧ 2 ≠ g
theorem var_kept {w w' : World} {g G : Nat} {name : String} {v : Array Value} (hn : Tryz.prog.globalNamed name = some G) (hG : G ≠ g) (hk : Kept g w w') (h : w.var? Tryz.prog name = some v) : w'.var? Tryz.prog name = some v := by
  unfold World.var? at *
  rw [hn] at h ⊢
  simp only [Option.bind_some] at h ⊢
  cases ho : w.heap[G]? with
  | none => rw [ho] at h; cases h
  | some o =>
    rw [hk.row ho hG]
    rw [ho] at h
    exact h
theorem var_lt {w : World} {G : Nat} {name : String} {v : Array Value} (hn : Tryz.prog.globalNamed name = some G) (h : w.var? Tryz.prog name = some v) : G < w.heap.size := by
  unfold World.var? at h
  rw [hn] at h
  simp only [Option.bind_some] at h
  cases ho : w.heap[G]? with
  | none => rw [ho] at h; cases h
  | some o => exact (Array.getElem?_eq_some_iff.1 ho).1
theorem tb_kept {w w' : World} {g : Nat} (h : Tb w) (hg : Tn g) (hk : Kept g w w') : Tb w' := by
  obtain ⟨h1, tp, p, h2⟩ := h
  exact ⟨var_kept Lay.gPow hg.1 hk h1, tp, p, var_kept Lay.gRange hg.2 hk h2⟩
theorem tn_of {w : World} {g : Nat} (h : Tb w) (hg : w.heap.size ≤ g) : Tn g := by
  obtain ⟨h1, tp, p, h2⟩ := h
  have a1 := var_lt Lay.gPow h1
  have a2 := var_lt Lay.gRange h2
  exact ⟨by omega, by omega⟩
theorem StoreAt.kept {w w' : World} {g : Nat} {A C : List Value} {t : TypeId} {v : Val} (h : StoreAt w g A C t v w') : Kept g w w' := by
  obtain ⟨cv, w1, hb, -, -, -, hbut⟩ := h
  exact (Kept.of hb).trans (Kept.but hbut)
theorem FieldsAt.kept {w w' : World} {v : Value} {g : Nat} {fs : List (Slot × Nat)} (h : FieldsAt w v g fs) (ho : Own w g) (hk : Kept g w w') : FieldsAt w' v g fs := by
  obtain ⟨a, bs, h1, h2, h3, h4⟩ := h
  refine ⟨a, bs, h1, h2, fun hne => ?_, fun j hj => (h4 j hj).kept ho hk⟩
  obtain ⟨row, h5, h6⟩ := h3 hne
  obtain ⟨cs, t, hg, ht⟩ := ho
  exact ⟨row, h5, hk.row h6 (ty_ne hg h6 (by rcases ht with rfl | rfl <;> decide))⟩
theorem c2_any (k : Slot) (HR : ReadOne k) {w : World} {g off : Nat} {b : Bx} (hF : FieldAt w k g off b) (A old C : List Value) (t : TypeId) (hg : w.heap[g]? = some (.cells (A ++ (old ++ C)).toArray t)) (hA : A.length = off) (hl : old.length = sz k) (s : List UInt8) (p : Nat) (hp : p ≤ s.length) (hs : s.length ≤ 281474976710656) (ht : Tb w) :
    Calls Tryz.prog (c2Fn k) #[st s, nu p, ptr b.r 0, ptr b.x 0] w fun e w' => e = .returned (.tuple #[nu (rdVal k s p).2.2, nu (rdVal k s p).1]) ∧ StoreAt w g A C t (rdVal k s p).2.1 w' := by
  cases k using Slot.cut
  · exact c2_num HR hF A old C t hg hA hl s p hp hs ht
  · exact c2_txt HR hF A old C t hg hA hl s p hp hs ht
  · exact c2_dig HR hF A old C t hg hA hl s p hp hs ht
  · exact c2_nums HR hF A old C t hg hA hl s p hp hs ht
  · exact c2_pens HR hF A old C t hg hA hl s p hp hs ht

theorem c3_any (k : Slot) {w : World} {g off : Nat} {b : Bx} (hF : FieldAt w k g off b) (A old C : List Value) (t : TypeId) (hg : w.heap[g]? = some (.cells (A ++ (old ++ C)).toArray t)) (hA : A.length = off) (hl : old.length = sz k) :
    Calls Tryz.prog (c3Fn k) #[ptr b.x 0] w fun e w' => e = .returned (.tuple #[]) ∧ StoreAt w g A C t (Slot.zero k) w' := by
  cases k using Slot.cut
  · exact c3_num hF A old C t hg hA hl
  · exact c3_txt hF A old C t hg hA hl
  · exact c3_dig hF A old C t hg hA hl
  · exact c3_nums hF A old C t hg hA hl
  · exact c3_pens hF A old C t hg hA hl

theorem rdAll_err {α : Type} (rd : Slot → List UInt8 → Nat → Nat × Val × Nat) (f : Fl α) (fs : List (Fl α)) (x : α) (s : List UInt8) (p : Nat) (h : (rd f.slot s p).1 ≠ 0) : rdAll rd (f :: fs) x s p = ((rd f.slot s p).1, x, 0) := by unfold rdAll; rw [if_pos h]
theorem rdAll_go {α : Type} (rd : Slot → List UInt8 → Nat → Nat × Val × Nat) (f : Fl α) (fs : List (Fl α)) (x : α) (s : List UInt8) (p : Nat) (h : (rd f.slot s p).1 = 0) : rdAll rd (f :: fs) x s p = rdAll rd fs (f.set x (rd f.slot s p).2.1) s (rd f.slot s p).2.2 := by rw [rdAll, if_neg (by omega)]
theorem drop_at {α : Type} (fs : List α) (k : Nat) (h : k < fs.length) : fs.drop k = fs[k] :: fs.drop (k + 1) := List.drop_eq_getElem_cons h

set_option maxHeartbeats 8000000 in
theorem readall_any {α : Type} {fs : List (Fl α)} {g base : Nat} {I : α → World → Prop} (H : Hold fs g base I) (HR : ∀ f ∈ fs, ReadOne f.slot) {w : World} {v : Value} {x : α} (hv : FieldsAt w v g (spots base fs)) (hx : I x w) (s : List UInt8) (p : Nat) (hp : p ≤ s.length) (hs : s.length ≤ 281474976710656) (hn : fs.length ≤ 100) (ht : Tb w) (hg : Tn g) :
    Calls Tryz.prog 97 #[v, st s, nu p] w fun e w' => e = .returned (.tuple #[nu (rdAll rdVal fs x s p).2.2, nu (rdAll rdVal fs x s p).1]) ∧ Kept g w w' ∧ ((rdAll rdVal fs x s p).1 = 0 → I (rdAll rdVal fs x s p).2.1 w') := by
  have HK0 := hid (Kept.refl g w)
  have HV := hid hv
  have HOw := hid (H.own x w hx)
  obtain ⟨a, bs0, rfl, -⟩ := hv
  rw [spots_len] at HV ⊢
  have HX := hid hx
  have HH := hid H
  have HRR := hid HR
  have HT := hid ht
  have HG := hid hg
  obtain ⟨R, hR⟩ : ∃ R, R = rdAll rdVal fs x s p := ⟨_, rfl⟩
  have HRe : Hid (R = rdAll rdVal (fs.drop 0) x s p) := by show _ = _; rw [hR]; rfl
  have HP := hid hp
  rw [← hR]
  clear hx H HR ht hg hR hp
  go_enter Tryz.func97, Tryz.ntmps97
  go_wp2
  go_loopw [2, 14] (fun ap i w' => ∃ (k q : Nat) (y : α), k ≤ fs.length ∧ ap = .int .i64 q ∧ i = .int .i64 k ∧ Hid (q ≤ s.length) ∧ Hid (R = rdAll rdVal (fs.drop k) y s q) ∧ Hid (I y w') ∧ Hid (Kept g w w')) (fun _ i _ => fs.length - (intOf i).toNat)
  case atStart => exact ⟨0, p, x, Nat.zero_le _, rfl, rfl, HP, HRe, HX, HK0⟩
  case round =>
    obtain ⟨k, q, y, hk, rfl, rfl, HQ, HRk, HY, HK⟩ := hrel
    clear HRe HX HK0 HP
    by_cases hlt : k < fs.length
    · have d1 : decide ((k : Int) < (fs.length : Int)) = true := decide_eq_true (by omega)
      have d1' : decide (k < fs.length) = true := decide_eq_true hlt
      obtain ⟨row, b, ha, hF, hc⟩ := (HV.out.kept HOw.out HK.out).cells k (by rw [spots_len]; exact hlt)
      subst ha
      rw [spots_at base fs k hlt] at hF hc
      have hmem : fs[k] ∈ fs := List.getElem_mem hlt
      have Z0 : (Tryz.prog.info? 147).map (·.size) = some (fieldV fs[k].slot b).length := sizeFld
      have HOn := hid (one_fld fs[k].slot b)
      have hL : ([.nilFunc, .nilFunc, .nilFunc] : List Value).length = (fieldV fs[k].slot b).length := rfl
      have S0 := hid hc
      have HBt := hid (below_a1 wr (.cells (fieldV fs[k].slot b).toArray 147))
      have T0 := hid (top_obj wr (.cells (fieldV fs[k].slot b).toArray 147))
      obtain ⟨A, old, C, t, hrow, hA, hol, hst⟩ := HH.out.store y _ (HH.out.stay y _ _ HY.out HBt.out) _ hmem
      have HC := hid (c2_any fs[k].slot (HRR.out _ hmem) (hF.stays HBt.out) A old C t hrow hA hol s q HQ.out hs ((tb_kept HT.out HG.out HK.out).stays HBt.out))
      have HKt := hid (HK.out.trans (Kept.of HBt.out))
      have HOnce := hid (fun (h : (rdVal fs[k].slot s q).1 = 0) => val_once fs[k].slot s q HQ.out h)
      rw [drop_at fs k hlt] at HRk
      have HErr : Hid ((rdVal fs[k].slot s q).1 ≠ 0 → R = ((rdVal fs[k].slot s q).1, y, 0)) := fun h => by rw [HRk.out]; exact rdAll_err rdVal _ _ _ _ _ h
      have HGo : Hid ((rdVal fs[k].slot s q).1 = 0 → R = rdAll rdVal (fs.drop (k + 1)) (fs[k].set y (rdVal fs[k].slot s q).2.1) s (rdVal fs[k].slot s q).2.2) := fun h => by rw [HRk.out]; exact rdAll_go rdVal _ _ _ _ _ h
      have HSt := hid hst
      clear hc hmem hF hrow hA hol hst HRk HY HK HBt HH HRR HT HG HOw HV HQ
      generalize hsl : fs[k].slot = sl at *
      have HSl := hid hsl
      clear hsl
      generalize (rdVal sl s q).2.2 = nx at *
      generalize (rdVal sl s q).1 = er at *
      generalize (rdVal sl s q).2.1 = vl at *
      cases sl using Slot.cut with
      | num => as_aux_lemma =>
        have ce : (wr.alloc (.cells (fieldV .num b).toArray 147)).cell? ⟨wr.heap.size, 1, none⟩ = some (.func (.func (c2Fn .num)) #[] #[ptr b.r 0, ptr b.x 0]) := by rw [cell_of_row _ _ _ _ _ _ T0.out]; rfl
        simp only [c2Fn] at ce HC
        generalize fieldV .num b = V at *
        clear T0
        go_upto_region 4 with (first | ((with_reducible refine wl_load 147 (.tmp 16) ?_ row (k * 3) ?_ ?_ V _ S0.out Tryz.underlying147 ?_ Z0 ?_); exact rfl; exact rfl; exact rfl; exact rfl) | ((with_reducible refine wl_store_top 147 (.tmp 9) (.tmp 17) ?_ ?_ ?_ ?_ V [.nilFunc, .nilFunc, .nilFunc] ?_ 147 hL HOn.out Z0 ?_); exact rfl; exact rfl; exact rfl; exact rfl; exact rfl))
        generalize wr.alloc (.cells V.toArray 147) = W2 at *
        go_wp2_with fail
        refine HC.out.mono ?_
        rintro e w3 ⟨rfl, hst3⟩
        have HK3 := hid (HKt.out.trans hst3.kept)
        have HS3 := hid hst3
        clear hst3 HC HKt S0 ce
        by_cases he : er = 0
        · have de : ((er : Int) != 0) = false := by simp; omega
          have de' : (er != 0) = false := by simp; omega
          obtain ⟨hs1, c, hc1, -, hc3, hc4⟩ := HOnce.out he
          have HY3 := hid (HSt.out vl w3 hs1 hc4 HS3.out)
          have HQ3 : Hid (nx ≤ s.length) := by show _ ≤ _; omega
          have HR3 := hid (HGo.out he)
          clear hs1 hc1 hc3 hc4 HOnce HSt HGo HErr he HS3
          go_wp2
          exact ⟨⟨k + 1, nx, _, by omega, rfl, by go_num, HQ3, HR3, HY3, HK3⟩, by simp [intOf]; omega⟩
        · have de : ((er : Int) != 0) = true := by simp; omega
          have de' : (er != 0) = true := by simp; omega
          have HR3 := hid (HErr.out he)
          have HN := hid he
          clear HOnce HSt HGo HErr he HS3
          go_wp2
          go_ret2
          rw [HR3.out]
          exact ⟨rfl, HK3.out, fun h => absurd h HN.out⟩
      | txt => as_aux_lemma =>
        have ce : (wr.alloc (.cells (fieldV .txt b).toArray 147)).cell? ⟨wr.heap.size, 1, none⟩ = some (.func (.func (c2Fn .txt)) #[] #[ptr b.r 0, ptr b.x 0]) := by rw [cell_of_row _ _ _ _ _ _ T0.out]; rfl
        simp only [c2Fn] at ce HC
        generalize fieldV .txt b = V at *
        clear T0
        go_upto_region 4 with (first | ((with_reducible refine wl_load 147 (.tmp 16) ?_ row (k * 3) ?_ ?_ V _ S0.out Tryz.underlying147 ?_ Z0 ?_); exact rfl; exact rfl; exact rfl; exact rfl) | ((with_reducible refine wl_store_top 147 (.tmp 9) (.tmp 17) ?_ ?_ ?_ ?_ V [.nilFunc, .nilFunc, .nilFunc] ?_ 147 hL HOn.out Z0 ?_); exact rfl; exact rfl; exact rfl; exact rfl; exact rfl))
        generalize wr.alloc (.cells V.toArray 147) = W2 at *
        go_wp2_with fail
        refine HC.out.mono ?_
        rintro e w3 ⟨rfl, hst3⟩
        have HK3 := hid (HKt.out.trans hst3.kept)
        have HS3 := hid hst3
        clear hst3 HC HKt S0 ce
        by_cases he : er = 0
        · have de : ((er : Int) != 0) = false := by simp; omega
          have de' : (er != 0) = false := by simp; omega
          obtain ⟨hs1, c, hc1, -, hc3, hc4⟩ := HOnce.out he
          have HY3 := hid (HSt.out vl w3 hs1 hc4 HS3.out)
          have HQ3 : Hid (nx ≤ s.length) := by show _ ≤ _; omega
          have HR3 := hid (HGo.out he)
          clear hs1 hc1 hc3 hc4 HOnce HSt HGo HErr he HS3
          go_wp2
          exact ⟨⟨k + 1, nx, _, by omega, rfl, by go_num, HQ3, HR3, HY3, HK3⟩, by simp [intOf]; omega⟩
        · have de : ((er : Int) != 0) = true := by simp; omega
          have de' : (er != 0) = true := by simp; omega
          have HR3 := hid (HErr.out he)
          have HN := hid he
          clear HOnce HSt HGo HErr he HS3
          go_wp2
          go_ret2
          rw [HR3.out]
          exact ⟨rfl, HK3.out, fun h => absurd h HN.out⟩
      | dig => as_aux_lemma =>
        have ce : (wr.alloc (.cells (fieldV .dig b).toArray 147)).cell? ⟨wr.heap.size, 1, none⟩ = some (.func (.func (c2Fn .dig)) #[] #[ptr b.r 0, ptr b.x 0]) := by rw [cell_of_row _ _ _ _ _ _ T0.out]; rfl
        simp only [c2Fn] at ce HC
        generalize fieldV .dig b = V at *
        clear T0
        go_upto_region 4 with (first | ((with_reducible refine wl_load 147 (.tmp 16) ?_ row (k * 3) ?_ ?_ V _ S0.out Tryz.underlying147 ?_ Z0 ?_); exact rfl; exact rfl; exact rfl; exact rfl) | ((with_reducible refine wl_store_top 147 (.tmp 9) (.tmp 17) ?_ ?_ ?_ ?_ V [.nilFunc, .nilFunc, .nilFunc] ?_ 147 hL HOn.out Z0 ?_); exact rfl; exact rfl; exact rfl; exact rfl; exact rfl))
        generalize wr.alloc (.cells V.toArray 147) = W2 at *
        go_wp2_with fail
        refine HC.out.mono ?_
        rintro e w3 ⟨rfl, hst3⟩
        have HK3 := hid (HKt.out.trans hst3.kept)
        have HS3 := hid hst3
        clear hst3 HC HKt S0 ce
        by_cases he : er = 0
        · have de : ((er : Int) != 0) = false := by simp; omega
          have de' : (er != 0) = false := by simp; omega
          obtain ⟨hs1, c, hc1, -, hc3, hc4⟩ := HOnce.out he
          have HY3 := hid (HSt.out vl w3 hs1 hc4 HS3.out)
          have HQ3 : Hid (nx ≤ s.length) := by show _ ≤ _; omega
          have HR3 := hid (HGo.out he)
          clear hs1 hc1 hc3 hc4 HOnce HSt HGo HErr he HS3
          go_wp2
          exact ⟨⟨k + 1, nx, _, by omega, rfl, by go_num, HQ3, HR3, HY3, HK3⟩, by simp [intOf]; omega⟩
        · have de : ((er : Int) != 0) = true := by simp; omega
          have de' : (er != 0) = true := by simp; omega
          have HR3 := hid (HErr.out he)
          have HN := hid he
          clear HOnce HSt HGo HErr he HS3
          go_wp2
          go_ret2
          rw [HR3.out]
          exact ⟨rfl, HK3.out, fun h => absurd h HN.out⟩
      | nums => as_aux_lemma =>
        have ce : (wr.alloc (.cells (fieldV .nums b).toArray 147)).cell? ⟨wr.heap.size, 1, none⟩ = some (.func (.func (c2Fn .nums)) #[] #[ptr b.r 0, ptr b.x 0]) := by rw [cell_of_row _ _ _ _ _ _ T0.out]; rfl
        simp only [c2Fn] at ce HC
        generalize fieldV .nums b = V at *
        clear T0
        go_upto_region 4 with (first | ((with_reducible refine wl_load 147 (.tmp 16) ?_ row (k * 3) ?_ ?_ V _ S0.out Tryz.underlying147 ?_ Z0 ?_); exact rfl; exact rfl; exact rfl; exact rfl) | ((with_reducible refine wl_store_top 147 (.tmp 9) (.tmp 17) ?_ ?_ ?_ ?_ V [.nilFunc, .nilFunc, .nilFunc] ?_ 147 hL HOn.out Z0 ?_); exact rfl; exact rfl; exact rfl; exact rfl; exact rfl))
        generalize wr.alloc (.cells V.toArray 147) = W2 at *
        go_wp2_with fail
        refine HC.out.mono ?_
        rintro e w3 ⟨rfl, hst3⟩
        have HK3 := hid (HKt.out.trans hst3.kept)
        have HS3 := hid hst3
        clear hst3 HC HKt S0 ce
        by_cases he : er = 0
        · have de : ((er : Int) != 0) = false := by simp; omega
          have de' : (er != 0) = false := by simp; omega
          obtain ⟨hs1, c, hc1, -, hc3, hc4⟩ := HOnce.out he
          have HY3 := hid (HSt.out vl w3 hs1 hc4 HS3.out)
          have HQ3 : Hid (nx ≤ s.length) := by show _ ≤ _; omega
          have HR3 := hid (HGo.out he)
          clear hs1 hc1 hc3 hc4 HOnce HSt HGo HErr he HS3
          go_wp2
          exact ⟨⟨k + 1, nx, _, by omega, rfl, by go_num, HQ3, HR3, HY3, HK3⟩, by simp [intOf]; omega⟩
        · have de : ((er : Int) != 0) = true := by simp; omega
          have de' : (er != 0) = true := by simp; omega
          have HR3 := hid (HErr.out he)
          have HN := hid he
          clear HOnce HSt HGo HErr he HS3
          go_wp2
          go_ret2
          rw [HR3.out]
          exact ⟨rfl, HK3.out, fun h => absurd h HN.out⟩
      | pens => as_aux_lemma =>
        have ce : (wr.alloc (.cells (fieldV .pens b).toArray 147)).cell? ⟨wr.heap.size, 1, none⟩ = some (.func (.func (c2Fn .pens)) #[] #[ptr b.r 0, ptr b.x 0]) := by rw [cell_of_row _ _ _ _ _ _ T0.out]; rfl
        simp only [c2Fn] at ce HC
        generalize fieldV .pens b = V at *
        clear T0
        go_upto_region 4 with (first | ((with_reducible refine wl_load 147 (.tmp 16) ?_ row (k * 3) ?_ ?_ V _ S0.out Tryz.underlying147 ?_ Z0 ?_); exact rfl; exact rfl; exact rfl; exact rfl) | ((with_reducible refine wl_store_top 147 (.tmp 9) (.tmp 17) ?_ ?_ ?_ ?_ V [.nilFunc, .nilFunc, .nilFunc] ?_ 147 hL HOn.out Z0 ?_); exact rfl; exact rfl; exact rfl; exact rfl; exact rfl))
        generalize wr.alloc (.cells V.toArray 147) = W2 at *
        go_wp2_with fail
        refine HC.out.mono ?_
        rintro e w3 ⟨rfl, hst3⟩
        have HK3 := hid (HKt.out.trans hst3.kept)
        have HS3 := hid hst3
        clear hst3 HC HKt S0 ce
        by_cases he : er = 0
        · have de : ((er : Int) != 0) = false := by simp; omega
          have de' : (er != 0) = false := by simp; omega
          obtain ⟨hs1, c, hc1, -, hc3, hc4⟩ := HOnce.out he
          have HY3 := hid (HSt.out vl w3 hs1 hc4 HS3.out)
          have HQ3 : Hid (nx ≤ s.length) := by show _ ≤ _; omega
          have HR3 := hid (HGo.out he)
          clear hs1 hc1 hc3 hc4 HOnce HSt HGo HErr he HS3
          go_wp2
          exact ⟨⟨k + 1, nx, _, by omega, rfl, by go_num, HQ3, HR3, HY3, HK3⟩, by simp [intOf]; omega⟩
        · have de : ((er : Int) != 0) = true := by simp; omega
          have de' : (er != 0) = true := by simp; omega
          have HR3 := hid (HErr.out he)
          have HN := hid he
          clear HOnce HSt HGo HErr he HS3
          go_wp2
          go_ret2
          rw [HR3.out]
          exact ⟨rfl, HK3.out, fun h => absurd h HN.out⟩
    · as_aux_lemma =>
      have hkl : k = fs.length := by omega
      subst hkl
      have dk : decide ((fs.length : Int) < (fs.length : Int)) = false := decide_eq_false (by omega)
      have HRf : Hid (R = (0, y, q)) := by show _ = _; rw [HRk.out, List.drop_length]; rfl
      clear HRR HH HT HG HOw HV HRk HQ
      go_wp2
      go_ret2
      rw [HRf.out]
      exact ⟨rfl, HK.out, fun _ => HY.out⟩
end Go.Proofs.YtidlgecognedlaaGreatDoor.Ms

/-
  A message in memory, as a thing that has fields: what they hold, and what it is when another value comes to lie at one's place.
-/
namespace Go.Proofs.YtidlgecognedlaaGreatDoor.Ms
open Go Go.RowKit
set_option maxRecDepth 100000

def pP : Slot → Value → Value → Value
  | .inr (.inr (.inr (.inr _))), cv, _ => cv
  | _, _, vP => vP
def pN : Slot → Value → Value → Value
  | .inr (.inr (.inr (.inl _))), cv, _ => cv
  | _, _, vN => vN
def cvOf (vP vN : Value) : Val → Value
  | .inl n => nu n
  | .inr (.inl s) => st s
  | .inr (.inr (.inl _)) => undef
  | .inr (.inr (.inr (.inl _))) => vN
  | .inr (.inr (.inr (.inr _))) => vP
/-- What a number or a text is handed over as. -/
def cvForm (cv : Value) : Val → Prop
  | .inl n => cv = nu n
  | .inr (.inl s) => cv = st s
  | _ => True
def Sp (f : Fl Msg) (m : Msg) (vP vN : Value) : Prop := ∃ A C, A.length = f.off ∧ msgC m vP vN = A ++ (cc (cvOf vP vN (f.get m)) (f.get m) ++ C) ∧
  ∀ v cv, v.slot = f.slot → cvForm cv v → msgC (f.set m v) (pP f.slot cv vP) (pN f.slot cv vN) = A ++ (cc cv v ++ C)
structure FOk (f : Fl Msg) : Prop where
  sp : ∀ m vP vN, m.Wf → Sp f m vP vN
  sl : ∀ m, (f.get m).slot = f.slot
  wf : ∀ m v, m.Wf → m.Rng → v.slot = f.slot → okVal v → (f.set m v).Wf ∧ (f.set m v).Rng
  pend : (f.slot ≠ .pens ∧ ∀ m v, (f.set m v).rep.pend = m.rep.pend) ∨ (f.slot = .pens ∧ ∀ m v, (f.set m v).rep.pend = v.p)
  nums : (f.slot ≠ .nums ∧ ∀ m v, (f.set m v).nums = m.nums) ∨ (f.slot = .nums ∧ ∀ m v, (f.set m v).nums = v.l)
  dl : ∀ m n, m.Wf → f.get m = .dig n → n.length = 32
  gp : f.slot = .pens → ∀ m, f.get m = .pens m.rep.pend
  gn : f.slot = .nums → ∀ m, f.get m = .nums m.nums
theorem ok_fClient : FOk fClient := by
  refine ⟨fun m vP vN hw => ⟨[nu m.kind], [nu m.sub.number] ++ ([nu m.sub.kind] ++ ([nu m.sub.target] ++ ([st m.sub.value] ++ (dg m.sub.asked ++ (dg m.sub.data ++ ([nu m.rep.number] ++ ([nu m.rep.last] ++ ([st m.rep.view] ++ (dg m.rep.commit ++ ([vP] ++ ([nu m.rep.vnum] ++ ([st m.rep.value] ++ (dg m.rep.data ++ ([st m.rep.seen] ++ (dg m.rep.stag ++ ([st m.view] ++ ([nu m.who] ++ (dg m.tag ++ (dg m.own ++ ([nu m.blob.owner] ++ ([nu m.blob.number] ++ ([st m.blob.cipher] ++ (dg m.blob.tag ++ ([vN])))))))))))))))))))))))), rfl, ?_, fun v cv hs hc => ?_⟩, fun m => rfl, fun m v hw hr hs ho => ?_, .inl ⟨(fun h => by cases h), fun m v => rfl⟩, .inl ⟨(fun h => by cases h), fun m v => rfl⟩, (fun m n hw h => by cases h), (fun h => by cases h), (fun h => by cases h)⟩
  · simp [msgC, subC, repC, bloC, fClient, cc, cvOf]
  · obtain ⟨n, rfl⟩ := of_num hs
    obtain rfl : cv = nu n := hc
    simp [msgC, subC, repC, bloC, fClient, cc, pP, pN, Val.n]
  · obtain ⟨n, rfl⟩ := of_num hs
    exact ⟨⟨hw.sub, hw.rep, hw.tag, hw.own, hw.blob⟩, { hr with client := ho }⟩
theorem ok_fSNumber : FOk fSNumber := by
  refine ⟨fun m vP vN hw => ⟨[nu m.kind] ++ ([nu m.client]), [nu m.sub.kind] ++ ([nu m.sub.target] ++ ([st m.sub.value] ++ (dg m.sub.asked ++ (dg m.sub.data ++ ([nu m.rep.number] ++ ([nu m.rep.last] ++ ([st m.rep.view] ++ (dg m.rep.commit ++ ([vP] ++ ([nu m.rep.vnum] ++ ([st m.rep.value] ++ (dg m.rep.data ++ ([st m.rep.seen] ++ (dg m.rep.stag ++ ([st m.view] ++ ([nu m.who] ++ (dg m.tag ++ (dg m.own ++ ([nu m.blob.owner] ++ ([nu m.blob.number] ++ ([st m.blob.cipher] ++ (dg m.blob.tag ++ ([vN]))))))))))))))))))))))), rfl, ?_, fun v cv hs hc => ?_⟩, fun m => rfl, fun m v hw hr hs ho => ?_, .inl ⟨(fun h => by cases h), fun m v => rfl⟩, .inl ⟨(fun h => by cases h), fun m v => rfl⟩, (fun m n hw h => by cases h), (fun h => by cases h), (fun h => by cases h)⟩
  · simp [msgC, subC, repC, bloC, fSNumber, cc, cvOf]
  · obtain ⟨n, rfl⟩ := of_num hs
    obtain rfl : cv = nu n := hc
    simp [msgC, subC, repC, bloC, fSNumber, cc, pP, pN, Val.n]
  · obtain ⟨n, rfl⟩ := of_num hs
    exact ⟨⟨⟨hw.sub.asked, hw.sub.data⟩, ⟨hw.rep.commit, hw.rep.data, hw.rep.stag, hw.rep.pend⟩, hw.tag, hw.own, ⟨hw.blob.tag⟩⟩, { hr with sn := ho }⟩
theorem ok_fSKind : FOk fSKind := by
  refine ⟨fun m vP vN hw => ⟨[nu m.kind] ++ ([nu m.client] ++ ([nu m.sub.number])), [nu m.sub.target] ++ ([st m.sub.value] ++ (dg m.sub.asked ++ (dg m.sub.data ++ ([nu m.rep.number] ++ ([nu m.rep.last] ++ ([st m.rep.view] ++ (dg m.rep.commit ++ ([vP] ++ ([nu m.rep.vnum] ++ ([st m.rep.value] ++ (dg m.rep.data ++ ([st m.rep.seen] ++ (dg m.rep.stag ++ ([st m.view] ++ ([nu m.who] ++ (dg m.tag ++ (dg m.own ++ ([nu m.blob.owner] ++ ([nu m.blob.number] ++ ([st m.blob.cipher] ++ (dg m.blob.tag ++ ([vN])))))))))))))))))))))), rfl, ?_, fun v cv hs hc => ?_⟩, fun m => rfl, fun m v hw hr hs ho => ?_, .inl ⟨(fun h => by cases h), fun m v => rfl⟩, .inl ⟨(fun h => by cases h), fun m v => rfl⟩, (fun m n hw h => by cases h), (fun h => by cases h), (fun h => by cases h)⟩
  · simp [msgC, subC, repC, bloC, fSKind, cc, cvOf]
  · obtain ⟨n, rfl⟩ := of_num hs
    obtain rfl : cv = nu n := hc
    simp [msgC, subC, repC, bloC, fSKind, cc, pP, pN, Val.n]
  · obtain ⟨n, rfl⟩ := of_num hs
    exact ⟨⟨⟨hw.sub.asked, hw.sub.data⟩, ⟨hw.rep.commit, hw.rep.data, hw.rep.stag, hw.rep.pend⟩, hw.tag, hw.own, ⟨hw.blob.tag⟩⟩, { hr with sk := ho }⟩
theorem ok_fSTarget : FOk fSTarget := by
  refine ⟨fun m vP vN hw => ⟨[nu m.kind] ++ ([nu m.client] ++ ([nu m.sub.number] ++ ([nu m.sub.kind]))), [st m.sub.value] ++ (dg m.sub.asked ++ (dg m.sub.data ++ ([nu m.rep.number] ++ ([nu m.rep.last] ++ ([st m.rep.view] ++ (dg m.rep.commit ++ ([vP] ++ ([nu m.rep.vnum] ++ ([st m.rep.value] ++ (dg m.rep.data ++ ([st m.rep.seen] ++ (dg m.rep.stag ++ ([st m.view] ++ ([nu m.who] ++ (dg m.tag ++ (dg m.own ++ ([nu m.blob.owner] ++ ([nu m.blob.number] ++ ([st m.blob.cipher] ++ (dg m.blob.tag ++ ([vN]))))))))))))))))))))), rfl, ?_, fun v cv hs hc => ?_⟩, fun m => rfl, fun m v hw hr hs ho => ?_, .inl ⟨(fun h => by cases h), fun m v => rfl⟩, .inl ⟨(fun h => by cases h), fun m v => rfl⟩, (fun m n hw h => by cases h), (fun h => by cases h), (fun h => by cases h)⟩
  · simp [msgC, subC, repC, bloC, fSTarget, cc, cvOf]
  · obtain ⟨n, rfl⟩ := of_num hs
    obtain rfl : cv = nu n := hc
    simp [msgC, subC, repC, bloC, fSTarget, cc, pP, pN, Val.n]
  · obtain ⟨n, rfl⟩ := of_num hs
    exact ⟨⟨⟨hw.sub.asked, hw.sub.data⟩, ⟨hw.rep.commit, hw.rep.data, hw.rep.stag, hw.rep.pend⟩, hw.tag, hw.own, ⟨hw.blob.tag⟩⟩, { hr with st := ho }⟩
theorem ok_fSValue : FOk fSValue := by
  refine ⟨fun m vP vN hw => ⟨[nu m.kind] ++ ([nu m.client] ++ ([nu m.sub.number] ++ ([nu m.sub.kind] ++ ([nu m.sub.target])))), dg m.sub.asked ++ (dg m.sub.data ++ ([nu m.rep.number] ++ ([nu m.rep.last] ++ ([st m.rep.view] ++ (dg m.rep.commit ++ ([vP] ++ ([nu m.rep.vnum] ++ ([st m.rep.value] ++ (dg m.rep.data ++ ([st m.rep.seen] ++ (dg m.rep.stag ++ ([st m.view] ++ ([nu m.who] ++ (dg m.tag ++ (dg m.own ++ ([nu m.blob.owner] ++ ([nu m.blob.number] ++ ([st m.blob.cipher] ++ (dg m.blob.tag ++ ([vN])))))))))))))))))))), rfl, ?_, fun v cv hs hc => ?_⟩, fun m => rfl, fun m v hw hr hs ho => ?_, .inl ⟨(fun h => by cases h), fun m v => rfl⟩, .inl ⟨(fun h => by cases h), fun m v => rfl⟩, (fun m n hw h => by cases h), (fun h => by cases h), (fun h => by cases h)⟩
  · simp [msgC, subC, repC, bloC, fSValue, cc, cvOf]
  · obtain ⟨n, rfl⟩ := of_txt hs
    obtain rfl : cv = st n := hc
    simp [msgC, subC, repC, bloC, fSValue, cc, pP, pN, Val.s]
  · obtain ⟨n, rfl⟩ := of_txt hs
    exact ⟨⟨⟨hw.sub.asked, hw.sub.data⟩, ⟨hw.rep.commit, hw.rep.data, hw.rep.stag, hw.rep.pend⟩, hw.tag, hw.own, ⟨hw.blob.tag⟩⟩, { hr with }⟩
theorem ok_fSAsked : FOk fSAsked := by
  refine ⟨fun m vP vN hw => ⟨[nu m.kind] ++ ([nu m.client] ++ ([nu m.sub.number] ++ ([nu m.sub.kind] ++ ([nu m.sub.target] ++ ([st m.sub.value]))))), dg m.sub.data ++ ([nu m.rep.number] ++ ([nu m.rep.last] ++ ([st m.rep.view] ++ (dg m.rep.commit ++ ([vP] ++ ([nu m.rep.vnum] ++ ([st m.rep.value] ++ (dg m.rep.data ++ ([st m.rep.seen] ++ (dg m.rep.stag ++ ([st m.view] ++ ([nu m.who] ++ (dg m.tag ++ (dg m.own ++ ([nu m.blob.owner] ++ ([nu m.blob.number] ++ ([st m.blob.cipher] ++ (dg m.blob.tag ++ ([vN]))))))))))))))))))), rfl, ?_, fun v cv hs hc => ?_⟩, fun m => rfl, fun m v hw hr hs ho => ?_, .inl ⟨(fun h => by cases h), fun m v => rfl⟩, .inl ⟨(fun h => by cases h), fun m v => rfl⟩, (fun m n hw h => by cases h; exact hw.sub.asked), (fun h => by cases h), (fun h => by cases h)⟩
  · simp [msgC, subC, repC, bloC, fSAsked, cc]
  · obtain ⟨n, rfl⟩ := of_dig hs
    simp [msgC, subC, repC, bloC, fSAsked, cc, pP, pN, Val.d]
  · obtain ⟨n, rfl⟩ := of_dig hs
    have hv : n.length = 32 := ho
    exact ⟨{ hw with sub := { hw.sub with asked := hv } }, { hr with }⟩
theorem ok_fSData : FOk fSData := by
  refine ⟨fun m vP vN hw => ⟨[nu m.kind] ++ ([nu m.client] ++ ([nu m.sub.number] ++ ([nu m.sub.kind] ++ ([nu m.sub.target] ++ ([st m.sub.value] ++ (dg m.sub.asked)))))), [nu m.rep.number] ++ ([nu m.rep.last] ++ ([st m.rep.view] ++ (dg m.rep.commit ++ ([vP] ++ ([nu m.rep.vnum] ++ ([st m.rep.value] ++ (dg m.rep.data ++ ([st m.rep.seen] ++ (dg m.rep.stag ++ ([st m.view] ++ ([nu m.who] ++ (dg m.tag ++ (dg m.own ++ ([nu m.blob.owner] ++ ([nu m.blob.number] ++ ([st m.blob.cipher] ++ (dg m.blob.tag ++ ([vN])))))))))))))))))), by simp [fSData, dg_len, hw.sub.asked], ?_, fun v cv hs hc => ?_⟩, fun m => rfl, fun m v hw hr hs ho => ?_, .inl ⟨(fun h => by cases h), fun m v => rfl⟩, .inl ⟨(fun h => by cases h), fun m v => rfl⟩, (fun m n hw h => by cases h; exact hw.sub.data), (fun h => by cases h), (fun h => by cases h)⟩
  · simp [msgC, subC, repC, bloC, fSData, cc]
  · obtain ⟨n, rfl⟩ := of_dig hs
    simp [msgC, subC, repC, bloC, fSData, cc, pP, pN, Val.d]
  · obtain ⟨n, rfl⟩ := of_dig hs
    have hv : n.length = 32 := ho
    exact ⟨{ hw with sub := { hw.sub with data := hv } }, { hr with }⟩
theorem ok_fRNumber : FOk fRNumber := by
  refine ⟨fun m vP vN hw => ⟨[nu m.kind] ++ ([nu m.client] ++ ([nu m.sub.number] ++ ([nu m.sub.kind] ++ ([nu m.sub.target] ++ ([st m.sub.value] ++ (dg m.sub.asked ++ (dg m.sub.data))))))), [nu m.rep.last] ++ ([st m.rep.view] ++ (dg m.rep.commit ++ ([vP] ++ ([nu m.rep.vnum] ++ ([st m.rep.value] ++ (dg m.rep.data ++ ([st m.rep.seen] ++ (dg m.rep.stag ++ ([st m.view] ++ ([nu m.who] ++ (dg m.tag ++ (dg m.own ++ ([nu m.blob.owner] ++ ([nu m.blob.number] ++ ([st m.blob.cipher] ++ (dg m.blob.tag ++ ([vN]))))))))))))))))), by simp [fRNumber, dg_len, hw.sub.asked, hw.sub.data], ?_, fun v cv hs hc => ?_⟩, fun m => rfl, fun m v hw hr hs ho => ?_, .inl ⟨(fun h => by cases h), fun m v => rfl⟩, .inl ⟨(fun h => by cases h), fun m v => rfl⟩, (fun m n hw h => by cases h), (fun h => by cases h), (fun h => by cases h)⟩
  · simp [msgC, subC, repC, bloC, fRNumber, cc, cvOf]
  · obtain ⟨n, rfl⟩ := of_num hs
    obtain rfl : cv = nu n := hc
    simp [msgC, subC, repC, bloC, fRNumber, cc, pP, pN, Val.n]
  · obtain ⟨n, rfl⟩ := of_num hs
    exact ⟨⟨⟨hw.sub.asked, hw.sub.data⟩, ⟨hw.rep.commit, hw.rep.data, hw.rep.stag, hw.rep.pend⟩, hw.tag, hw.own, ⟨hw.blob.tag⟩⟩, { hr with rn := ho }⟩
theorem ok_fRLast : FOk fRLast := by
  refine ⟨fun m vP vN hw => ⟨[nu m.kind] ++ ([nu m.client] ++ ([nu m.sub.number] ++ ([nu m.sub.kind] ++ ([nu m.sub.target] ++ ([st m.sub.value] ++ (dg m.sub.asked ++ (dg m.sub.data ++ ([nu m.rep.number])))))))), [st m.rep.view] ++ (dg m.rep.commit ++ ([vP] ++ ([nu m.rep.vnum] ++ ([st m.rep.value] ++ (dg m.rep.data ++ ([st m.rep.seen] ++ (dg m.rep.stag ++ ([st m.view] ++ ([nu m.who] ++ (dg m.tag ++ (dg m.own ++ ([nu m.blob.owner] ++ ([nu m.blob.number] ++ ([st m.blob.cipher] ++ (dg m.blob.tag ++ ([vN])))))))))))))))), by simp [fRLast, dg_len, hw.sub.asked, hw.sub.data], ?_, fun v cv hs hc => ?_⟩, fun m => rfl, fun m v hw hr hs ho => ?_, .inl ⟨(fun h => by cases h), fun m v => rfl⟩, .inl ⟨(fun h => by cases h), fun m v => rfl⟩, (fun m n hw h => by cases h), (fun h => by cases h), (fun h => by cases h)⟩
  · simp [msgC, subC, repC, bloC, fRLast, cc, cvOf]
  · obtain ⟨n, rfl⟩ := of_num hs
    obtain rfl : cv = nu n := hc
    simp [msgC, subC, repC, bloC, fRLast, cc, pP, pN, Val.n]
  · obtain ⟨n, rfl⟩ := of_num hs
    exact ⟨⟨⟨hw.sub.asked, hw.sub.data⟩, ⟨hw.rep.commit, hw.rep.data, hw.rep.stag, hw.rep.pend⟩, hw.tag, hw.own, ⟨hw.blob.tag⟩⟩, { hr with rl := ho }⟩
theorem ok_fRView : FOk fRView := by
  refine ⟨fun m vP vN hw => ⟨[nu m.kind] ++ ([nu m.client] ++ ([nu m.sub.number] ++ ([nu m.sub.kind] ++ ([nu m.sub.target] ++ ([st m.sub.value] ++ (dg m.sub.asked ++ (dg m.sub.data ++ ([nu m.rep.number] ++ ([nu m.rep.last]))))))))), dg m.rep.commit ++ ([vP] ++ ([nu m.rep.vnum] ++ ([st m.rep.value] ++ (dg m.rep.data ++ ([st m.rep.seen] ++ (dg m.rep.stag ++ ([st m.view] ++ ([nu m.who] ++ (dg m.tag ++ (dg m.own ++ ([nu m.blob.owner] ++ ([nu m.blob.number] ++ ([st m.blob.cipher] ++ (dg m.blob.tag ++ ([vN]))))))))))))))), by simp [fRView, dg_len, hw.sub.asked, hw.sub.data], ?_, fun v cv hs hc => ?_⟩, fun m => rfl, fun m v hw hr hs ho => ?_, .inl ⟨(fun h => by cases h), fun m v => rfl⟩, .inl ⟨(fun h => by cases h), fun m v => rfl⟩, (fun m n hw h => by cases h), (fun h => by cases h), (fun h => by cases h)⟩
  · simp [msgC, subC, repC, bloC, fRView, cc, cvOf]
  · obtain ⟨n, rfl⟩ := of_txt hs
    obtain rfl : cv = st n := hc
    simp [msgC, subC, repC, bloC, fRView, cc, pP, pN, Val.s]
  · obtain ⟨n, rfl⟩ := of_txt hs
    exact ⟨⟨⟨hw.sub.asked, hw.sub.data⟩, ⟨hw.rep.commit, hw.rep.data, hw.rep.stag, hw.rep.pend⟩, hw.tag, hw.own, ⟨hw.blob.tag⟩⟩, { hr with }⟩
theorem ok_fRCommit : FOk fRCommit := by
  refine ⟨fun m vP vN hw => ⟨[nu m.kind] ++ ([nu m.client] ++ ([nu m.sub.number] ++ ([nu m.sub.kind] ++ ([nu m.sub.target] ++ ([st m.sub.value] ++ (dg m.sub.asked ++ (dg m.sub.data ++ ([nu m.rep.number] ++ ([nu m.rep.last] ++ ([st m.rep.view])))))))))), [vP] ++ ([nu m.rep.vnum] ++ ([st m.rep.value] ++ (dg m.rep.data ++ ([st m.rep.seen] ++ (dg m.rep.stag ++ ([st m.view] ++ ([nu m.who] ++ (dg m.tag ++ (dg m.own ++ ([nu m.blob.owner] ++ ([nu m.blob.number] ++ ([st m.blob.cipher] ++ (dg m.blob.tag ++ ([vN])))))))))))))), by simp [fRCommit, dg_len, hw.sub.asked, hw.sub.data], ?_, fun v cv hs hc => ?_⟩, fun m => rfl, fun m v hw hr hs ho => ?_, .inl ⟨(fun h => by cases h), fun m v => rfl⟩, .inl ⟨(fun h => by cases h), fun m v => rfl⟩, (fun m n hw h => by cases h; exact hw.rep.commit), (fun h => by cases h), (fun h => by cases h)⟩
  · simp [msgC, subC, repC, bloC, fRCommit, cc]
  · obtain ⟨n, rfl⟩ := of_dig hs
    simp [msgC, subC, repC, bloC, fRCommit, cc, pP, pN, Val.d]
  · obtain ⟨n, rfl⟩ := of_dig hs
    have hv : n.length = 32 := ho
    exact ⟨{ hw with rep := { hw.rep with commit := hv } }, { hr with }⟩
theorem ok_fRPend : FOk fRPend := by
  refine ⟨fun m vP vN hw => ⟨[nu m.kind] ++ ([nu m.client] ++ ([nu m.sub.number] ++ ([nu m.sub.kind] ++ ([nu m.sub.target] ++ ([st m.sub.value] ++ (dg m.sub.asked ++ (dg m.sub.data ++ ([nu m.rep.number] ++ ([nu m.rep.last] ++ ([st m.rep.view] ++ (dg m.rep.commit))))))))))), [nu m.rep.vnum] ++ ([st m.rep.value] ++ (dg m.rep.data ++ ([st m.rep.seen] ++ (dg m.rep.stag ++ ([st m.view] ++ ([nu m.who] ++ (dg m.tag ++ (dg m.own ++ ([nu m.blob.owner] ++ ([nu m.blob.number] ++ ([st m.blob.cipher] ++ (dg m.blob.tag ++ ([vN]))))))))))))), by simp [fRPend, dg_len, hw.sub.asked, hw.sub.data, hw.rep.commit], ?_, fun v cv hs hc => ?_⟩, fun m => rfl, fun m v hw hr hs ho => ?_, .inr ⟨rfl, fun m v => rfl⟩, .inl ⟨(fun h => by cases h), fun m v => rfl⟩, (fun m n hw h => by cases h), fun _ m => rfl, (fun h => by cases h)⟩
  · simp [msgC, subC, repC, bloC, fRPend, cc, cvOf]
  · obtain ⟨n, rfl⟩ := of_pens hs
    simp [msgC, subC, repC, bloC, fRPend, cc, pP, pN, Val.p]
  · obtain ⟨n, rfl⟩ := of_pens hs
    have hv : okVal (.pens n) := ho
    exact ⟨{ hw with rep := { hw.rep with pend := fun p h => wf_of_ok (hv.2 p h) } }, { hr with ps := ho.2 }⟩
theorem ok_fRVnum : FOk fRVnum := by
  refine ⟨fun m vP vN hw => ⟨[nu m.kind] ++ ([nu m.client] ++ ([nu m.sub.number] ++ ([nu m.sub.kind] ++ ([nu m.sub.target] ++ ([st m.sub.value] ++ (dg m.sub.asked ++ (dg m.sub.data ++ ([nu m.rep.number] ++ ([nu m.rep.last] ++ ([st m.rep.view] ++ (dg m.rep.commit ++ ([vP])))))))))))), [st m.rep.value] ++ (dg m.rep.data ++ ([st m.rep.seen] ++ (dg m.rep.stag ++ ([st m.view] ++ ([nu m.who] ++ (dg m.tag ++ (dg m.own ++ ([nu m.blob.owner] ++ ([nu m.blob.number] ++ ([st m.blob.cipher] ++ (dg m.blob.tag ++ ([vN])))))))))))), by simp [fRVnum, dg_len, hw.sub.asked, hw.sub.data, hw.rep.commit], ?_, fun v cv hs hc => ?_⟩, fun m => rfl, fun m v hw hr hs ho => ?_, .inl ⟨(fun h => by cases h), fun m v => rfl⟩, .inl ⟨(fun h => by cases h), fun m v => rfl⟩, (fun m n hw h => by cases h), (fun h => by cases h), (fun h => by cases h)⟩
  · simp [msgC, subC, repC, bloC, fRVnum, cc, cvOf]
  · obtain ⟨n, rfl⟩ := of_num hs
    obtain rfl : cv = nu n := hc
    simp [msgC, subC, repC, bloC, fRVnum, cc, pP, pN, Val.n]
  · obtain ⟨n, rfl⟩ := of_num hs
    exact ⟨⟨⟨hw.sub.asked, hw.sub.data⟩, ⟨hw.rep.commit, hw.rep.data, hw.rep.stag, hw.rep.pend⟩, hw.tag, hw.own, ⟨hw.blob.tag⟩⟩, { hr with rv := ho }⟩
theorem ok_fRValue : FOk fRValue := by
  refine ⟨fun m vP vN hw => ⟨[nu m.kind] ++ ([nu m.client] ++ ([nu m.sub.number] ++ ([nu m.sub.kind] ++ ([nu m.sub.target] ++ ([st m.sub.value] ++ (dg m.sub.asked ++ (dg m.sub.data ++ ([nu m.rep.number] ++ ([nu m.rep.last] ++ ([st m.rep.view] ++ (dg m.rep.commit ++ ([vP] ++ ([nu m.rep.vnum]))))))))))))), dg m.rep.data ++ ([st m.rep.seen] ++ (dg m.rep.stag ++ ([st m.view] ++ ([nu m.who] ++ (dg m.tag ++ (dg m.own ++ ([nu m.blob.owner] ++ ([nu m.blob.number] ++ ([st m.blob.cipher] ++ (dg m.blob.tag ++ ([vN]))))))))))), by simp [fRValue, dg_len, hw.sub.asked, hw.sub.data, hw.rep.commit], ?_, fun v cv hs hc => ?_⟩, fun m => rfl, fun m v hw hr hs ho => ?_, .inl ⟨(fun h => by cases h), fun m v => rfl⟩, .inl ⟨(fun h => by cases h), fun m v => rfl⟩, (fun m n hw h => by cases h), (fun h => by cases h), (fun h => by cases h)⟩
  · simp [msgC, subC, repC, bloC, fRValue, cc, cvOf]
  · obtain ⟨n, rfl⟩ := of_txt hs
    obtain rfl : cv = st n := hc
    simp [msgC, subC, repC, bloC, fRValue, cc, pP, pN, Val.s]
  · obtain ⟨n, rfl⟩ := of_txt hs
    exact ⟨⟨⟨hw.sub.asked, hw.sub.data⟩, ⟨hw.rep.commit, hw.rep.data, hw.rep.stag, hw.rep.pend⟩, hw.tag, hw.own, ⟨hw.blob.tag⟩⟩, { hr with }⟩
theorem ok_fRData : FOk fRData := by
  refine ⟨fun m vP vN hw => ⟨[nu m.kind] ++ ([nu m.client] ++ ([nu m.sub.number] ++ ([nu m.sub.kind] ++ ([nu m.sub.target] ++ ([st m.sub.value] ++ (dg m.sub.asked ++ (dg m.sub.data ++ ([nu m.rep.number] ++ ([nu m.rep.last] ++ ([st m.rep.view] ++ (dg m.rep.commit ++ ([vP] ++ ([nu m.rep.vnum] ++ ([st m.rep.value])))))))))))))), [st m.rep.seen] ++ (dg m.rep.stag ++ ([st m.view] ++ ([nu m.who] ++ (dg m.tag ++ (dg m.own ++ ([nu m.blob.owner] ++ ([nu m.blob.number] ++ ([st m.blob.cipher] ++ (dg m.blob.tag ++ ([vN])))))))))), by simp [fRData, dg_len, hw.sub.asked, hw.sub.data, hw.rep.commit], ?_, fun v cv hs hc => ?_⟩, fun m => rfl, fun m v hw hr hs ho => ?_, .inl ⟨(fun h => by cases h), fun m v => rfl⟩, .inl ⟨(fun h => by cases h), fun m v => rfl⟩, (fun m n hw h => by cases h; exact hw.rep.data), (fun h => by cases h), (fun h => by cases h)⟩
  · simp [msgC, subC, repC, bloC, fRData, cc]
  · obtain ⟨n, rfl⟩ := of_dig hs
    simp [msgC, subC, repC, bloC, fRData, cc, pP, pN, Val.d]
  · obtain ⟨n, rfl⟩ := of_dig hs
    have hv : n.length = 32 := ho
    exact ⟨{ hw with rep := { hw.rep with data := hv } }, { hr with }⟩
theorem ok_fRSeen : FOk fRSeen := by
  refine ⟨fun m vP vN hw => ⟨[nu m.kind] ++ ([nu m.client] ++ ([nu m.sub.number] ++ ([nu m.sub.kind] ++ ([nu m.sub.target] ++ ([st m.sub.value] ++ (dg m.sub.asked ++ (dg m.sub.data ++ ([nu m.rep.number] ++ ([nu m.rep.last] ++ ([st m.rep.view] ++ (dg m.rep.commit ++ ([vP] ++ ([nu m.rep.vnum] ++ ([st m.rep.value] ++ (dg m.rep.data))))))))))))))), dg m.rep.stag ++ ([st m.view] ++ ([nu m.who] ++ (dg m.tag ++ (dg m.own ++ ([nu m.blob.owner] ++ ([nu m.blob.number] ++ ([st m.blob.cipher] ++ (dg m.blob.tag ++ ([vN]))))))))), by simp [fRSeen, dg_len, hw.sub.asked, hw.sub.data, hw.rep.commit, hw.rep.data], ?_, fun v cv hs hc => ?_⟩, fun m => rfl, fun m v hw hr hs ho => ?_, .inl ⟨(fun h => by cases h), fun m v => rfl⟩, .inl ⟨(fun h => by cases h), fun m v => rfl⟩, (fun m n hw h => by cases h), (fun h => by cases h), (fun h => by cases h)⟩
  · simp [msgC, subC, repC, bloC, fRSeen, cc, cvOf]
  · obtain ⟨n, rfl⟩ := of_txt hs
    obtain rfl : cv = st n := hc
    simp [msgC, subC, repC, bloC, fRSeen, cc, pP, pN, Val.s]
  · obtain ⟨n, rfl⟩ := of_txt hs
    exact ⟨⟨⟨hw.sub.asked, hw.sub.data⟩, ⟨hw.rep.commit, hw.rep.data, hw.rep.stag, hw.rep.pend⟩, hw.tag, hw.own, ⟨hw.blob.tag⟩⟩, { hr with }⟩
theorem ok_fRTag : FOk fRTag := by
  refine ⟨fun m vP vN hw => ⟨[nu m.kind] ++ ([nu m.client] ++ ([nu m.sub.number] ++ ([nu m.sub.kind] ++ ([nu m.sub.target] ++ ([st m.sub.value] ++ (dg m.sub.asked ++ (dg m.sub.data ++ ([nu m.rep.number] ++ ([nu m.rep.last] ++ ([st m.rep.view] ++ (dg m.rep.commit ++ ([vP] ++ ([nu m.rep.vnum] ++ ([st m.rep.value] ++ (dg m.rep.data ++ ([st m.rep.seen])))))))))))))))), [st m.view] ++ ([nu m.who] ++ (dg m.tag ++ (dg m.own ++ ([nu m.blob.owner] ++ ([nu m.blob.number] ++ ([st m.blob.cipher] ++ (dg m.blob.tag ++ ([vN])))))))), by simp [fRTag, dg_len, hw.sub.asked, hw.sub.data, hw.rep.commit, hw.rep.data], ?_, fun v cv hs hc => ?_⟩, fun m => rfl, fun m v hw hr hs ho => ?_, .inl ⟨(fun h => by cases h), fun m v => rfl⟩, .inl ⟨(fun h => by cases h), fun m v => rfl⟩, (fun m n hw h => by cases h; exact hw.rep.stag), (fun h => by cases h), (fun h => by cases h)⟩
  · simp [msgC, subC, repC, bloC, fRTag, cc]
  · obtain ⟨n, rfl⟩ := of_dig hs
    simp [msgC, subC, repC, bloC, fRTag, cc, pP, pN, Val.d]
  · obtain ⟨n, rfl⟩ := of_dig hs
    have hv : n.length = 32 := ho
    exact ⟨{ hw with rep := { hw.rep with stag := hv } }, { hr with }⟩
theorem ok_fView : FOk fView := by
  refine ⟨fun m vP vN hw => ⟨[nu m.kind] ++ ([nu m.client] ++ ([nu m.sub.number] ++ ([nu m.sub.kind] ++ ([nu m.sub.target] ++ ([st m.sub.value] ++ (dg m.sub.asked ++ (dg m.sub.data ++ ([nu m.rep.number] ++ ([nu m.rep.last] ++ ([st m.rep.view] ++ (dg m.rep.commit ++ ([vP] ++ ([nu m.rep.vnum] ++ ([st m.rep.value] ++ (dg m.rep.data ++ ([st m.rep.seen] ++ (dg m.rep.stag))))))))))))))))), [nu m.who] ++ (dg m.tag ++ (dg m.own ++ ([nu m.blob.owner] ++ ([nu m.blob.number] ++ ([st m.blob.cipher] ++ (dg m.blob.tag ++ ([vN]))))))), by simp [fView, dg_len, hw.sub.asked, hw.sub.data, hw.rep.commit, hw.rep.data, hw.rep.stag], ?_, fun v cv hs hc => ?_⟩, fun m => rfl, fun m v hw hr hs ho => ?_, .inl ⟨(fun h => by cases h), fun m v => rfl⟩, .inl ⟨(fun h => by cases h), fun m v => rfl⟩, (fun m n hw h => by cases h), (fun h => by cases h), (fun h => by cases h)⟩
  · simp [msgC, subC, repC, bloC, fView, cc, cvOf]
  · obtain ⟨n, rfl⟩ := of_txt hs
    obtain rfl : cv = st n := hc
    simp [msgC, subC, repC, bloC, fView, cc, pP, pN, Val.s]
  · obtain ⟨n, rfl⟩ := of_txt hs
    exact ⟨⟨⟨hw.sub.asked, hw.sub.data⟩, ⟨hw.rep.commit, hw.rep.data, hw.rep.stag, hw.rep.pend⟩, hw.tag, hw.own, ⟨hw.blob.tag⟩⟩, { hr with }⟩
theorem ok_fBy : FOk fBy := by
  refine ⟨fun m vP vN hw => ⟨[nu m.kind] ++ ([nu m.client] ++ ([nu m.sub.number] ++ ([nu m.sub.kind] ++ ([nu m.sub.target] ++ ([st m.sub.value] ++ (dg m.sub.asked ++ (dg m.sub.data ++ ([nu m.rep.number] ++ ([nu m.rep.last] ++ ([st m.rep.view] ++ (dg m.rep.commit ++ ([vP] ++ ([nu m.rep.vnum] ++ ([st m.rep.value] ++ (dg m.rep.data ++ ([st m.rep.seen] ++ (dg m.rep.stag ++ ([st m.view])))))))))))))))))), dg m.tag ++ (dg m.own ++ ([nu m.blob.owner] ++ ([nu m.blob.number] ++ ([st m.blob.cipher] ++ (dg m.blob.tag ++ ([vN])))))), by simp [fBy, dg_len, hw.sub.asked, hw.sub.data, hw.rep.commit, hw.rep.data, hw.rep.stag], ?_, fun v cv hs hc => ?_⟩, fun m => rfl, fun m v hw hr hs ho => ?_, .inl ⟨(fun h => by cases h), fun m v => rfl⟩, .inl ⟨(fun h => by cases h), fun m v => rfl⟩, (fun m n hw h => by cases h), (fun h => by cases h), (fun h => by cases h)⟩
  · simp [msgC, subC, repC, bloC, fBy, cc, cvOf]
  · obtain ⟨n, rfl⟩ := of_num hs
    obtain rfl : cv = nu n := hc
    simp [msgC, subC, repC, bloC, fBy, cc, pP, pN, Val.n]
  · obtain ⟨n, rfl⟩ := of_num hs
    exact ⟨⟨hw.sub, hw.rep, hw.tag, hw.own, hw.blob⟩, { hr with who := ho }⟩
theorem ok_fTag : FOk fTag := by
  refine ⟨fun m vP vN hw => ⟨[nu m.kind] ++ ([nu m.client] ++ ([nu m.sub.number] ++ ([nu m.sub.kind] ++ ([nu m.sub.target] ++ ([st m.sub.value] ++ (dg m.sub.asked ++ (dg m.sub.data ++ ([nu m.rep.number] ++ ([nu m.rep.last] ++ ([st m.rep.view] ++ (dg m.rep.commit ++ ([vP] ++ ([nu m.rep.vnum] ++ ([st m.rep.value] ++ (dg m.rep.data ++ ([st m.rep.seen] ++ (dg m.rep.stag ++ ([st m.view] ++ ([nu m.who]))))))))))))))))))), dg m.own ++ ([nu m.blob.owner] ++ ([nu m.blob.number] ++ ([st m.blob.cipher] ++ (dg m.blob.tag ++ ([vN]))))), by simp [fTag, dg_len, hw.sub.asked, hw.sub.data, hw.rep.commit, hw.rep.data, hw.rep.stag], ?_, fun v cv hs hc => ?_⟩, fun m => rfl, fun m v hw hr hs ho => ?_, .inl ⟨(fun h => by cases h), fun m v => rfl⟩, .inl ⟨(fun h => by cases h), fun m v => rfl⟩, (fun m n hw h => by cases h; exact hw.tag), (fun h => by cases h), (fun h => by cases h)⟩
  · simp [msgC, subC, repC, bloC, fTag, cc]
  · obtain ⟨n, rfl⟩ := of_dig hs
    simp [msgC, subC, repC, bloC, fTag, cc, pP, pN, Val.d]
  · obtain ⟨n, rfl⟩ := of_dig hs
    have hv : n.length = 32 := ho
    exact ⟨{ hw with tag := hv }, { hr with }⟩
theorem ok_fOwn : FOk fOwn := by
  refine ⟨fun m vP vN hw => ⟨[nu m.kind] ++ ([nu m.client] ++ ([nu m.sub.number] ++ ([nu m.sub.kind] ++ ([nu m.sub.target] ++ ([st m.sub.value] ++ (dg m.sub.asked ++ (dg m.sub.data ++ ([nu m.rep.number] ++ ([nu m.rep.last] ++ ([st m.rep.view] ++ (dg m.rep.commit ++ ([vP] ++ ([nu m.rep.vnum] ++ ([st m.rep.value] ++ (dg m.rep.data ++ ([st m.rep.seen] ++ (dg m.rep.stag ++ ([st m.view] ++ ([nu m.who] ++ (dg m.tag)))))))))))))))))))), [nu m.blob.owner] ++ ([nu m.blob.number] ++ ([st m.blob.cipher] ++ (dg m.blob.tag ++ ([vN])))), by simp [fOwn, dg_len, hw.sub.asked, hw.sub.data, hw.rep.commit, hw.rep.data, hw.rep.stag, hw.tag], ?_, fun v cv hs hc => ?_⟩, fun m => rfl, fun m v hw hr hs ho => ?_, .inl ⟨(fun h => by cases h), fun m v => rfl⟩, .inl ⟨(fun h => by cases h), fun m v => rfl⟩, (fun m n hw h => by cases h; exact hw.own), (fun h => by cases h), (fun h => by cases h)⟩
  · simp [msgC, subC, repC, bloC, fOwn, cc]
  · obtain ⟨n, rfl⟩ := of_dig hs
    simp [msgC, subC, repC, bloC, fOwn, cc, pP, pN, Val.d]
  · obtain ⟨n, rfl⟩ := of_dig hs
    have hv : n.length = 32 := ho
    exact ⟨{ hw with own := hv }, { hr with }⟩
theorem ok_fBOwner : FOk fBOwner := by
  refine ⟨fun m vP vN hw => ⟨[nu m.kind] ++ ([nu m.client] ++ ([nu m.sub.number] ++ ([nu m.sub.kind] ++ ([nu m.sub.target] ++ ([st m.sub.value] ++ (dg m.sub.asked ++ (dg m.sub.data ++ ([nu m.rep.number] ++ ([nu m.rep.last] ++ ([st m.rep.view] ++ (dg m.rep.commit ++ ([vP] ++ ([nu m.rep.vnum] ++ ([st m.rep.value] ++ (dg m.rep.data ++ ([st m.rep.seen] ++ (dg m.rep.stag ++ ([st m.view] ++ ([nu m.who] ++ (dg m.tag ++ (dg m.own))))))))))))))))))))), [nu m.blob.number] ++ ([st m.blob.cipher] ++ (dg m.blob.tag ++ ([vN]))), by simp [fBOwner, dg_len, hw.sub.asked, hw.sub.data, hw.rep.commit, hw.rep.data, hw.rep.stag, hw.tag, hw.own], ?_, fun v cv hs hc => ?_⟩, fun m => rfl, fun m v hw hr hs ho => ?_, .inl ⟨(fun h => by cases h), fun m v => rfl⟩, .inl ⟨(fun h => by cases h), fun m v => rfl⟩, (fun m n hw h => by cases h), (fun h => by cases h), (fun h => by cases h)⟩
  · simp [msgC, subC, repC, bloC, fBOwner, cc, cvOf]
  · obtain ⟨n, rfl⟩ := of_num hs
    obtain rfl : cv = nu n := hc
    simp [msgC, subC, repC, bloC, fBOwner, cc, pP, pN, Val.n]
  · obtain ⟨n, rfl⟩ := of_num hs
    exact ⟨⟨⟨hw.sub.asked, hw.sub.data⟩, ⟨hw.rep.commit, hw.rep.data, hw.rep.stag, hw.rep.pend⟩, hw.tag, hw.own, ⟨hw.blob.tag⟩⟩, { hr with bo := ho }⟩
theorem ok_fBNumber : FOk fBNumber := by
  refine ⟨fun m vP vN hw => ⟨[nu m.kind] ++ ([nu m.client] ++ ([nu m.sub.number] ++ ([nu m.sub.kind] ++ ([nu m.sub.target] ++ ([st m.sub.value] ++ (dg m.sub.asked ++ (dg m.sub.data ++ ([nu m.rep.number] ++ ([nu m.rep.last] ++ ([st m.rep.view] ++ (dg m.rep.commit ++ ([vP] ++ ([nu m.rep.vnum] ++ ([st m.rep.value] ++ (dg m.rep.data ++ ([st m.rep.seen] ++ (dg m.rep.stag ++ ([st m.view] ++ ([nu m.who] ++ (dg m.tag ++ (dg m.own ++ ([nu m.blob.owner])))))))))))))))))))))), [st m.blob.cipher] ++ (dg m.blob.tag ++ ([vN])), by simp [fBNumber, dg_len, hw.sub.asked, hw.sub.data, hw.rep.commit, hw.rep.data, hw.rep.stag, hw.tag, hw.own], ?_, fun v cv hs hc => ?_⟩, fun m => rfl, fun m v hw hr hs ho => ?_, .inl ⟨(fun h => by cases h), fun m v => rfl⟩, .inl ⟨(fun h => by cases h), fun m v => rfl⟩, (fun m n hw h => by cases h), (fun h => by cases h), (fun h => by cases h)⟩
  · simp [msgC, subC, repC, bloC, fBNumber, cc, cvOf]
  · obtain ⟨n, rfl⟩ := of_num hs
    obtain rfl : cv = nu n := hc
    simp [msgC, subC, repC, bloC, fBNumber, cc, pP, pN, Val.n]
  · obtain ⟨n, rfl⟩ := of_num hs
    exact ⟨⟨⟨hw.sub.asked, hw.sub.data⟩, ⟨hw.rep.commit, hw.rep.data, hw.rep.stag, hw.rep.pend⟩, hw.tag, hw.own, ⟨hw.blob.tag⟩⟩, { hr with bn := ho }⟩
theorem ok_fBCipher : FOk fBCipher := by
  refine ⟨fun m vP vN hw => ⟨[nu m.kind] ++ ([nu m.client] ++ ([nu m.sub.number] ++ ([nu m.sub.kind] ++ ([nu m.sub.target] ++ ([st m.sub.value] ++ (dg m.sub.asked ++ (dg m.sub.data ++ ([nu m.rep.number] ++ ([nu m.rep.last] ++ ([st m.rep.view] ++ (dg m.rep.commit ++ ([vP] ++ ([nu m.rep.vnum] ++ ([st m.rep.value] ++ (dg m.rep.data ++ ([st m.rep.seen] ++ (dg m.rep.stag ++ ([st m.view] ++ ([nu m.who] ++ (dg m.tag ++ (dg m.own ++ ([nu m.blob.owner] ++ ([nu m.blob.number]))))))))))))))))))))))), dg m.blob.tag ++ ([vN]), by simp [fBCipher, dg_len, hw.sub.asked, hw.sub.data, hw.rep.commit, hw.rep.data, hw.rep.stag, hw.tag, hw.own], ?_, fun v cv hs hc => ?_⟩, fun m => rfl, fun m v hw hr hs ho => ?_, .inl ⟨(fun h => by cases h), fun m v => rfl⟩, .inl ⟨(fun h => by cases h), fun m v => rfl⟩, (fun m n hw h => by cases h), (fun h => by cases h), (fun h => by cases h)⟩
  · simp [msgC, subC, repC, bloC, fBCipher, cc, cvOf]
  · obtain ⟨n, rfl⟩ := of_txt hs
    obtain rfl : cv = st n := hc
    simp [msgC, subC, repC, bloC, fBCipher, cc, pP, pN, Val.s]
  · obtain ⟨n, rfl⟩ := of_txt hs
    exact ⟨⟨⟨hw.sub.asked, hw.sub.data⟩, ⟨hw.rep.commit, hw.rep.data, hw.rep.stag, hw.rep.pend⟩, hw.tag, hw.own, ⟨hw.blob.tag⟩⟩, { hr with }⟩
theorem ok_fBTag : FOk fBTag := by
  refine ⟨fun m vP vN hw => ⟨[nu m.kind] ++ ([nu m.client] ++ ([nu m.sub.number] ++ ([nu m.sub.kind] ++ ([nu m.sub.target] ++ ([st m.sub.value] ++ (dg m.sub.asked ++ (dg m.sub.data ++ ([nu m.rep.number] ++ ([nu m.rep.last] ++ ([st m.rep.view] ++ (dg m.rep.commit ++ ([vP] ++ ([nu m.rep.vnum] ++ ([st m.rep.value] ++ (dg m.rep.data ++ ([st m.rep.seen] ++ (dg m.rep.stag ++ ([st m.view] ++ ([nu m.who] ++ (dg m.tag ++ (dg m.own ++ ([nu m.blob.owner] ++ ([nu m.blob.number] ++ ([st m.blob.cipher])))))))))))))))))))))))), [vN], by simp [fBTag, dg_len, hw.sub.asked, hw.sub.data, hw.rep.commit, hw.rep.data, hw.rep.stag, hw.tag, hw.own], ?_, fun v cv hs hc => ?_⟩, fun m => rfl, fun m v hw hr hs ho => ?_, .inl ⟨(fun h => by cases h), fun m v => rfl⟩, .inl ⟨(fun h => by cases h), fun m v => rfl⟩, (fun m n hw h => by cases h; exact hw.blob.tag), (fun h => by cases h), (fun h => by cases h)⟩
  · simp [msgC, subC, repC, bloC, fBTag, cc]
  · obtain ⟨n, rfl⟩ := of_dig hs
    simp [msgC, subC, repC, bloC, fBTag, cc, pP, pN, Val.d]
  · obtain ⟨n, rfl⟩ := of_dig hs
    have hv : n.length = 32 := ho
    exact ⟨{ hw with blob := ⟨hv⟩ }, { hr with }⟩
theorem ok_fNums : FOk fNums := by
  refine ⟨fun m vP vN hw => ⟨[nu m.kind] ++ ([nu m.client] ++ ([nu m.sub.number] ++ ([nu m.sub.kind] ++ ([nu m.sub.target] ++ ([st m.sub.value] ++ (dg m.sub.asked ++ (dg m.sub.data ++ ([nu m.rep.number] ++ ([nu m.rep.last] ++ ([st m.rep.view] ++ (dg m.rep.commit ++ ([vP] ++ ([nu m.rep.vnum] ++ ([st m.rep.value] ++ (dg m.rep.data ++ ([st m.rep.seen] ++ (dg m.rep.stag ++ ([st m.view] ++ ([nu m.who] ++ (dg m.tag ++ (dg m.own ++ ([nu m.blob.owner] ++ ([nu m.blob.number] ++ ([st m.blob.cipher] ++ (dg m.blob.tag))))))))))))))))))))))))), [], by simp [fNums, dg_len, hw.sub.asked, hw.sub.data, hw.rep.commit, hw.rep.data, hw.rep.stag, hw.tag, hw.own, hw.blob.tag], ?_, fun v cv hs hc => ?_⟩, fun m => rfl, fun m v hw hr hs ho => ?_, .inl ⟨(fun h => by cases h), fun m v => rfl⟩, .inr ⟨rfl, fun m v => rfl⟩, (fun m n hw h => by cases h), (fun h => by cases h), fun _ m => rfl⟩
  · simp [msgC, subC, repC, bloC, fNums, cc, cvOf]
  · obtain ⟨n, rfl⟩ := of_nums hs
    simp [msgC, subC, repC, bloC, fNums, cc, pP, pN, Val.l]
  · obtain ⟨n, rfl⟩ := of_nums hs
    exact ⟨⟨hw.sub, hw.rep, hw.tag, hw.own, hw.blob⟩, { hr with ns := ho.2 }⟩
theorem ok_fields (k : Int) : ∀ f ∈ fieldsM k, FOk f := by
  intro f hf
  rcases fields_cases k with ⟨_, e⟩ | ⟨_, e⟩ | ⟨_, e⟩ | ⟨_, e⟩ | ⟨_, e⟩ | ⟨_, e⟩ | ⟨_, e⟩ | ⟨_, e⟩ | ⟨_, e⟩ <;> rw [e] at hf
  · simp only [subFs, List.mem_cons, List.not_mem_nil, or_false] at hf
    rcases hf with rfl | rfl | rfl | rfl | rfl | rfl | rfl
    · exact ok_fClient
    · exact ok_fSNumber
    · exact ok_fSKind
    · exact ok_fSTarget
    · exact ok_fSValue
    · exact ok_fSAsked
    · exact ok_fSData
  · simp only [repFs, List.mem_cons, List.not_mem_nil, or_false] at hf
    rcases hf with rfl | rfl | rfl | rfl | rfl | rfl | rfl | rfl | rfl | rfl
    · exact ok_fRNumber
    · exact ok_fRLast
    · exact ok_fRView
    · exact ok_fRCommit
    · exact ok_fRPend
    · exact ok_fRVnum
    · exact ok_fRValue
    · exact ok_fRData
    · exact ok_fRSeen
    · exact ok_fRTag
  · simp only [comFs, List.mem_cons, List.not_mem_nil, or_false] at hf
    rcases hf with rfl | rfl | rfl
    · exact ok_fClient
    · exact ok_fView
    · exact ok_fTag
  · simp only [bloFs, List.mem_cons, List.not_mem_nil, or_false] at hf
    rcases hf with rfl | rfl | rfl | rfl
    · exact ok_fBOwner
    · exact ok_fBNumber
    · exact ok_fBCipher
    · exact ok_fBTag
  · simp only [lstFs, List.mem_cons, List.not_mem_nil, or_false] at hf
    rcases hf with rfl | rfl
    · exact ok_fClient
    · exact ok_fNums
  · simp only [proFs, List.mem_cons, List.not_mem_nil, or_false] at hf
    subst hf
    exact ok_fClient
  · simp only [verFs, List.mem_cons, List.not_mem_nil, or_false] at hf
    rcases hf with rfl | rfl | rfl | rfl | rfl
    · exact ok_fClient
    · exact ok_fBy
    · exact ok_fView
    · exact ok_fTag
    · exact ok_fOwn
  · simp only [alaFs, List.mem_cons, List.not_mem_nil, or_false] at hf
    rcases hf with rfl | rfl
    · exact ok_fClient
    · exact ok_fOwn
  · cases hf
/-- A list lies in a block of its own. -/
def Away (g : Nat) (v : Value) (n : Nat) : Prop := n ≠ 0 → ∀ a l c, v = .slice (some a) l c → a.block ≠ g
theorem cell_same {w w' : World} {b o : Nat} (h : w'.heap[b]? = w.heap[b]?) : w'.cell? ⟨b, o, none⟩ = w.cell? ⟨b, o, none⟩ := by unfold World.cell?; rw [h]
theorem IntsAt.but {w w' : World} {g : Nat} {v : Value} {l : List Int} (h : IntsAt w v l) (ha : Away g v l.length) (hb : But g w w') : IntsAt w' v l := by
  obtain ⟨a, cap, rfl, hc⟩ := h
  refine ⟨a, cap, rfl, fun hne => ?_⟩
  obtain ⟨b, off, rfl, hj⟩ := hc hne
  have hn : b ≠ g := ha (fun e => hne (List.length_eq_zero_iff.1 e)) _ _ _ rfl
  exact ⟨b, off, rfl, fun j h => (cell_same (hb.block b hn)).trans (hj j h)⟩
theorem PensAt.but {w w' : World} {g : Nat} {v : Value} {l : List Pen} (h : PensAt w v l) (ha : Away g v l.length) (hb : But g w w') : PensAt w' v l := by
  obtain ⟨a, cap, rfl, hc⟩ := h
  refine ⟨a, cap, rfl, fun hne => ?_⟩
  obtain ⟨b, off, rfl, hj⟩ := hc hne
  have hn : b ≠ g := ha (fun e => hne (List.length_eq_zero_iff.1 e)) _ _ _ rfl
  exact ⟨b, off, rfl, fun j h i c hi => (cell_same (hb.block b hn)).trans (hj j h i c hi)⟩
/-- A message in the block g. -/
structure MsgAt (X : List Nat) (g : Nat) (m : Msg) (w : World) : Prop where
  row : ∃ vP vN, w.heap[g]? = some (.cells (msgC m vP vN).toArray 33) ∧ PensAt w vP m.rep.pend ∧ IntsAt w vN m.nums ∧ (∀ x ∈ g :: X, Away x vP m.rep.pend.length) ∧ (∀ x ∈ g :: X, Away x vN m.nums.length)
  low : ∀ x ∈ X, x < w.heap.size
  wf : m.Wf
  rng : m.Rng
  len : m.rep.pend.length ≤ 9223372036854775807 ∧ m.nums.length ≤ 9223372036854775807
theorem fr_away {g B : Nat} {cv : Value} {n : Nat} (h : Fr B cv) (hg : g < B) : Away g cv n := fun _ a l c e => by have := h a l c e; omega
theorem cv_form {w : World} {cv : Value} {v : Val} (h : CvAt w cv v) : cvForm cv v := by cases v using Val.cut with | num _ => exact h | txt _ => exact h | dig _ => trivial | nums _ => trivial | pens _ => trivial
theorem pP_ne {k : Slot} {cv vP : Value} (h : k ≠ .pens) : pP k cv vP = vP := by cases k using Slot.cut <;> first | rfl | exact absurd rfl h
theorem pN_ne {k : Slot} {cv vN : Value} (h : k ≠ .nums) : pN k cv vN = vN := by cases k using Slot.cut <;> first | rfl | exact absurd rfl h
theorem msg_hold (X : List Nat) (g : Nat) (k : Int) : Hold (fieldsM k) g 0 (MsgAt X g) where
  own := fun m w h => by
    obtain ⟨vP, vN, hr, -⟩ := h.row
    exact ⟨_, _, hr, .inl rfl⟩
  stay := fun m w w' h hb => by
    obtain ⟨vP, vN, hr, h1, h2, h3, h4⟩ := h.row
    exact ⟨⟨vP, vN, row_kept hr hb, h1.kept hb, h2.kept hb, h3, h4⟩, (fun x hx => Nat.lt_of_lt_of_le (h.low x hx) hb.size), h.wf, h.rng, h.len⟩
  load := fun m w h f hf => by
    have hok := ok_fields k f hf
    refine ⟨?_, hok.sl m⟩
    obtain ⟨vP, vN, hr, h1, h2, h3, h4⟩ := h.row
    obtain ⟨A, C, hA, he, -⟩ := hok.sp m vP vN h.wf
    have hA' : A.length = 0 + f.off := by omega
    have hsl := hok.sl m
    have hgp := hok.gp
    have hgn := hok.gn
    cases hv : f.get m using Val.cut with
    | num n => rw [hv] at he; exact row_cell hr he hA'
    | txt n => rw [hv] at he; exact row_cell hr he hA'
    | dig n => rw [hv] at he; exact row_seg hr he hA'
    | nums n =>
      rw [hv] at he hsl
      have e := hgn hsl.symm m
      rw [hv] at e
      cases e
      exact ⟨vN, row_cell hr he hA', h2⟩
    | pens n =>
      rw [hv] at he hsl
      have e := hgp hsl.symm m
      rw [hv] at e
      cases e
      exact ⟨vP, row_cell hr he hA', h1⟩
  store := fun m w h f hf => by
    have hok := ok_fields k f hf
    obtain ⟨vP, vN, hr, h1, h2, h3, h4⟩ := h.row
    obtain ⟨A, C, hA, he, hset⟩ := hok.sp m vP vN h.wf
    refine ⟨A, cc (cvOf vP vN (f.get m)) (f.get m), C, 33, by rw [← he]; exact hr, by omega, ?_, ?_⟩
    · have hsl := hok.sl m
      cases hv : f.get m using Val.cut with
      | num n => rw [hv] at hsl; rw [← hsl]; rfl
      | txt n => rw [hv] at hsl; rw [← hsl]; rfl
      | dig n =>
        rw [hv] at hsl; rw [← hsl]
        exact (dg_len n).trans (hok.dl m n h.wf hv)
      | nums n => rw [hv] at hsl; rw [← hsl]; rfl
      | pens n => rw [hv] at hsl; rw [← hsl]; rfl
    · intro v w' hs ho hst
      obtain ⟨cv, w1, hb, hcv, hfr, hrow, hbut⟩ := hst
      have hg : g < w.heap.size := (Array.getElem?_eq_some_iff.1 hr).1
      obtain ⟨hw', hr'⟩ := hok.wf m v h.wf h.rng hs ho
      refine ⟨⟨pP f.slot cv vP, pN f.slot cv vN, by rw [hset v cv hs (cv_form hcv)]; exact hrow, ?_, ?_, ?_, ?_⟩, (fun x hx => by rw [hbut.size]; exact Nat.lt_of_lt_of_le (h.low x hx) hb.size), hw', hr', ?_, ?_⟩
      · rcases hok.pend with ⟨hne, e⟩ | ⟨hsl, e⟩
        · rw [pP_ne hne, e]
          exact (h1.kept hb).but (h3 g (by simp)) hbut
        · rw [hsl] at hs ⊢
          obtain ⟨l, rfl⟩ := of_pens hs
          rw [e]
          exact PensAt.but hcv (fr_away hfr hg) hbut
      · rcases hok.nums with ⟨hne, e⟩ | ⟨hsl, e⟩
        · rw [pN_ne hne, e]
          exact (h2.kept hb).but (h4 g (by simp)) hbut
        · rw [hsl] at hs ⊢
          obtain ⟨l, rfl⟩ := of_nums hs
          rw [e]
          exact IntsAt.but hcv (fr_away hfr hg) hbut
      · intro x hx
        have hxl : x < w.heap.size := by
          rcases List.mem_cons.1 hx with rfl | hx
          · exact hg
          · exact h.low x hx
        rcases hok.pend with ⟨hne, e⟩ | ⟨hsl, e⟩
        · rw [pP_ne hne, e]
          exact h3 x hx
        · rw [hsl]
          exact fr_away hfr hxl
      · intro x hx
        have hxl : x < w.heap.size := by
          rcases List.mem_cons.1 hx with rfl | hx
          · exact hg
          · exact h.low x hx
        rcases hok.nums with ⟨hne, e⟩ | ⟨hsl, e⟩
        · rw [pN_ne hne, e]
          exact h4 x hx
        · rw [hsl]
          exact fr_away hfr hxl
      · rcases hok.pend with ⟨hne, e⟩ | ⟨hsl, e⟩
        · rw [e]; exact h.len.1
        · rw [hsl] at hs
          obtain ⟨l, rfl⟩ := of_pens hs
          rw [e]
          have : l.length ≤ 8 := ho.1
          show l.length ≤ _
          omega
      · rcases hok.nums with ⟨hne, e⟩ | ⟨hsl, e⟩
        · rw [e]; exact h.len.2
        · rw [hsl] at hs
          obtain ⟨l, rfl⟩ := of_nums hs
          rw [e]
          have : l.length ≤ 512 := ho.1
          show l.length ≤ _
          omega
end Go.Proofs.YtidlgecognedlaaGreatDoor.Ms

/-
  The list of fields that a message's kind has: what msg.fieldsOf answers.
-/
namespace Go.Proofs.YtidlgecognedlaaGreatDoor.Ms
open Go Go.RowKit
set_option maxRecDepth 100000

theorem fnil (w : World) (g : Nat) : FieldsAt w (.slice none 0 0) g [] := ⟨none, [], rfl, rfl, fun h => absurd rfl h, fun j hj => absurd hj (Nat.not_lt_zero j)⟩
theorem wl_bs1 {ops : Array Oper} {rest : List Oper} {o : Oper} {a : Act} {w : World} {Q : Exit → Act → World → Prop} (hg : o.guard = none) (x : Operand) (ho : o.op = .buildSlice 90 1 #[(0, x)]) (V : List Value) (hV : V.length = 3) (hx : a.eval x = .agg V.toArray)
    (h : wpList Tryz.prog ops Q rest (a.put o.dst (.slice (some ⟨w.heap.size, 0, none⟩) 1 1)) (w.alloc (.cells V.toArray 147))) : wpList Tryz.prog ops Q (o :: rest) a w := by
  have hs := sizeFld
  have hz := infoFld
  cases hie : Tryz.prog.info? 147 with
  | none => simp [hie] at hs
  | some ie =>
    simp only [hie, Option.map_some, Option.some.injEq, Option.bind_some] at hs hz
    cases hzz : ie.zero with
    | none => rw [hzz] at hz; cases hz
    | some z =>
      rw [hzz] at hz
      have hz3 : z.cells.size = 3 := by simpa using hz
      have hfill := Great.fill_whole (s := 3) (by omega) [Value.agg V.toArray] ((Array.range (1 * 3)).map (z.cells[· % z.cells.size]!)) (by intro v hv; simp at hv; subst hv; simpa [Value.cells] using hV) (by simp)
      have e1 : (([Value.agg V.toArray].zipIdx 0).map fun x => (x.2, x.1)) = (#[(0, x)].map fun (i, x) => (i, a.eval x)).toList := by simp [hx]
      have e2 : ([Value.agg V.toArray].flatMap fun v => v.cells.toList).toArray = V.toArray := by simp [Value.cells]
      rw [e1, e2] at hfill
      exact wpList_buildSlice hg 90 147 1 _ ho V.toArray ie z Tryz.underlying90 hie hzz (by rw [hs]; omega) (by rw [hs]; omega) (by rw [hs]; exact hfill) h
set_option maxHeartbeats 8000000 in
theorem fieldsof_any (g : Nat) (kind : Int) (w : World) (hk : w.cell? ⟨g, 0, none⟩ = some (nu kind)) : Calls Tryz.prog 42 #[ptr g 0] w fun e w' => ∃ v, e = .returned v ∧ FieldsAt w' v g (spots 0 (fieldsM kind)) ∧ Below w.heap.size w w' := by
  have HM := hid (mk_num g 1 w)
  go_enter Tryz.func42, Tryz.ntmps42
  go_wp2_with fail
  refine HM.out.mono ?_
  rintro e w1 ⟨cb, rfl, hF, hb⟩
  have HB2 := hid (below_two hb (below_a1 w1 (.cells (fieldV .num cb).toArray 147)))
  have HCr := hid (top_obj w1 (.cells (fieldV .num cb).toArray 147))
  have HCf := hid (hF.stays (below_a1 w1 (.cells (fieldV .num cb).toArray 147)))
  have HO := hid (one_fld .num cb)
  have hL : ([.nilFunc, .nilFunc, .nilFunc] : List Value).length = (fieldV .num cb).length := rfl
  have hI : (Tryz.prog.info? 147).map (·.size) = some (fieldV .num cb).length := sizeFld
  have k0 : (w1.alloc (.cells (fieldV .num cb).toArray 147)).cell? ⟨g, 0, none⟩ = some (nu kind) := (HB2.out.cell (p := ⟨g, 0, none⟩) (World.block_lt_of_cell? w _ hk)).trans hk
  clear hb hF HM hk
  obtain ⟨V, hV⟩ : ∃ V, V = fieldV .num cb := ⟨_, rfl⟩
  rw [← hV] at HO hL hI k0 HB2 HCr HCf ⊢
  have HV := hid hV
  clear hV
  go_upto_region 2 with (first | ((with_reducible refine wl_store_top 147 (.tmp 3) (.tmp 9) ?_ ?_ ?_ ?_ V [.nilFunc, .nilFunc, .nilFunc] ?_ 147 hL HO.out hI ?_); exact rfl; exact rfl; exact rfl; exact rfl; exact rfl))
  obtain ⟨c, hc⟩ : ∃ c, c = w1.heap.size := ⟨_, rfl⟩
  generalize w1.alloc (.cells V.toArray 147) = W2 at *
  rw [← hc] at HCr ⊢
  rw [HV.out] at HCr
  clear hc hL hI HO HV
  rcases fields_cases kind with ⟨hk, e⟩ | ⟨hk, e⟩ | ⟨hk, e⟩ | ⟨hk, e⟩ | ⟨hk, e⟩ | ⟨hk, e⟩ | ⟨hk, e⟩ | ⟨hk, e⟩ | ⟨hk, e⟩
  · as_aux_lemma =>
    subst hk
    go_wp2_with fail
    refine wp_region_mid (N := 128) (keep := [3, 4]) (val := valOf [IsF .num g 1, vc (ptr g 2), vc (ptr g 2), vc (ptr g (2 + 0)), IsF .num g (2 + 0), vc (ptr g 2), vc (ptr g 2), vc (ptr g (2 + 1)), IsF .num g (2 + 1), vc (ptr g 2), vc (ptr g 2), vc (ptr g (2 + 2)), IsF .num g (2 + 2), vc (ptr g 2), vc (ptr g 2), vc (ptr g (2 + 3)), IsF .txt g (2 + 3), vc (ptr g 2), vc (ptr g 2), vc (ptr g (2 + 4)), IsF .dig g (2 + 4), vc (ptr g 2), vc (ptr g 2), vc (ptr g (2 + 36)), IsF .dig g (2 + 36), vF g [(.num, 1), (.num, (2 + 0)), (.num, (2 + 1)), (.num, (2 + 2)), (.txt, (2 + 3)), (.dig, (2 + 4)), (.dig, (2 + 36))], vF g [(.num, 1), (.num, (2 + 0)), (.num, (2 + 1)), (.num, (2 + 2)), (.txt, (2 + 3)), (.dig, (2 + 4)), (.dig, (2 + 36))]]) (by kernel_rfl) (by kernel_rfl) rfl (mono_of (by
        intro p hp
        simp only [List.mem_cons, List.not_mem_nil, or_false] at hp
        rcases hp with rfl | rfl | rfl | rfl | rfl | rfl | rfl | rfl | rfl | rfl | rfl | rfl | rfl | rfl | rfl | rfl | rfl | rfl | rfl | rfl | rfl | rfl | rfl | rfl | rfl | rfl | rfl
        all_goals first | exact mono_vc _ | exact mono_isF _ _ _ | exact mono_vF _ _)) ?_ ?_
    · intro i o ho
      match i, ho with
      | 0, ho => cases ho; exact ow_ld 3 c .num g 1 cb rfl rfl rfl HCr.out HCf.out _ Tryz.underlying147 rfl sizeFld rfl
      | 1, ho => cases ho; exact ow_move 4 (ptr g 2) rfl rfl rfl rfl
      | 2, ho => cases ho; exact ow_nil 20 1 g 2 rfl (by kernel_rfl) (by kernel_rfl) rfl rfl
      | 3, ho => cases ho; exact ow_fa 21 2 25 0 g 2 0 rfl (fun W => fa25_0 _ _ W) (by kernel_rfl) (by kernel_rfl) rfl rfl
      | 4, ho => cases ho; exact ow_mk 22 3 91 _ .num g (2 + 0) rfl (fun x W => call_num x W) (fun W => mk_num g (2 + 0) W) (by kernel_rfl) (by kernel_rfl) rfl rfl
      | 5, ho => cases ho; exact ow_move 4 (ptr g 2) rfl rfl rfl rfl
      | 6, ho => cases ho; exact ow_nil 24 5 g 2 rfl (by kernel_rfl) (by kernel_rfl) rfl rfl
      | 7, ho => cases ho; exact ow_fa 25 6 25 1 g 2 1 rfl (fun W => fa25_1 _ _ W) (by kernel_rfl) (by kernel_rfl) rfl rfl
      | 8, ho => cases ho; exact ow_mk 26 7 91 _ .num g (2 + 1) rfl (fun x W => call_num x W) (fun W => mk_num g (2 + 1) W) (by kernel_rfl) (by kernel_rfl) rfl rfl
      | 9, ho => cases ho; exact ow_move 4 (ptr g 2) rfl rfl rfl rfl
      | 10, ho => cases ho; exact ow_nil 28 9 g 2 rfl (by kernel_rfl) (by kernel_rfl) rfl rfl
      | 11, ho => cases ho; exact ow_fa 29 10 25 2 g 2 2 rfl (fun W => fa25_2 _ _ W) (by kernel_rfl) (by kernel_rfl) rfl rfl
      | 12, ho => cases ho; exact ow_mk 30 11 91 _ .num g (2 + 2) rfl (fun x W => call_num x W) (fun W => mk_num g (2 + 2) W) (by kernel_rfl) (by kernel_rfl) rfl rfl
      | 13, ho => cases ho; exact ow_move 4 (ptr g 2) rfl rfl rfl rfl
      | 14, ho => cases ho; exact ow_nil 32 13 g 2 rfl (by kernel_rfl) (by kernel_rfl) rfl rfl
      | 15, ho => cases ho; exact ow_fa 33 14 25 3 g 2 3 rfl (fun W => fa25_3 _ _ W) (by kernel_rfl) (by kernel_rfl) rfl rfl
      | 16, ho => cases ho; exact ow_mk 34 15 92 _ .txt g (2 + 3) rfl (fun x W => call_txt x W) (fun W => mk_txt g (2 + 3) W) (by kernel_rfl) (by kernel_rfl) rfl rfl
      | 17, ho => cases ho; exact ow_move 4 (ptr g 2) rfl rfl rfl rfl
      | 18, ho => cases ho; exact ow_nil 36 17 g 2 rfl (by kernel_rfl) (by kernel_rfl) rfl rfl
      | 19, ho => cases ho; exact ow_fa 37 18 25 4 g 2 4 rfl (fun W => fa25_4 _ _ W) (by kernel_rfl) (by kernel_rfl) rfl rfl
      | 20, ho => cases ho; exact ow_mk 38 19 93 _ .dig g (2 + 4) rfl (fun x W => call_dig x W) (fun W => mk_dig g (2 + 4) W) (by kernel_rfl) (by kernel_rfl) rfl rfl
      | 21, ho => cases ho; exact ow_move 4 (ptr g 2) rfl rfl rfl rfl
      | 22, ho => cases ho; exact ow_nil 40 21 g 2 rfl (by kernel_rfl) (by kernel_rfl) rfl rfl
      | 23, ho => cases ho; exact ow_fa 41 22 25 5 g 2 36 rfl (fun W => fa25_5 _ _ W) (by kernel_rfl) (by kernel_rfl) rfl rfl
      | 24, ho => cases ho; exact ow_mk 42 23 93 _ .dig g (2 + 36) rfl (fun x W => call_dig x W) (fun W => mk_dig g (2 + 36) W) (by kernel_rfl) (by kernel_rfl) rfl rfl
      | 25, ho => cases ho; exact ow_bs 90 147 7 _ g [(.num, 1), (.num, (2 + 0)), (.num, (2 + 1)), (.num, (2 + 2)), (.txt, (2 + 3)), (.dig, (2 + 4)), (.dig, (2 + 36))] [(0, 19), (4, 23), (8, 27), (12, 31), (16, 35), (20, 39), (24, 43)] rfl Tryz.underlying90 rfl sizeFld infoFld rfl (by decide) (by decide) rfl rfl (by kernel_rfl) (by intro j hj; match j, hj with | 0, _ => rfl | 1, _ => rfl | 2, _ => rfl | 3, _ => rfl | 4, _ => rfl | 5, _ => rfl | 6, _ => rfl) rfl
      | 26, ho => cases ho; exact ow_assign 44 25 g [(.num, 1), (.num, (2 + 0)), (.num, (2 + 1)), (.num, (2 + 2)), (.txt, (2 + 3)), (.dig, (2 + 4)), (.dig, (2 + 36))] rfl (by kernel_rfl) (by kernel_rfl) rfl rfl
      | (i + 27), ho => exact absurd ho (by simp)
    · intro a w' hB hs hd hk2 hv
      have h2 := hv 26 2 (by kernel_rfl)
      have HB3 := hid (below_two HB2.out hB)
      obtain ⟨tm, df⟩ := a
      obtain rfl : df = [] := hd
      go_wp2
      go_ret
      exact ⟨_, rfl, h2, HB3.out⟩
  · as_aux_lemma =>
    subst hk
    have HR := hid (fun W => repfields_any g 70 W)
    go_wp2_with fail
    refine (HR.out _).mono ?_
    rintro e1 w3 ⟨v, rfl, h2, hb⟩
    have HB3 := hid (below_two HB2.out hb)
    have H2 := hid h2
    obtain ⟨av, bs, rfl, -⟩ := h2
    clear hb
    go_wp2
    go_ret
    exact ⟨_, rfl, H2.out, HB3.out⟩
  · as_aux_lemma =>
    subst hk
    go_wp2_with fail
    refine wp_region_mid (N := 128) (keep := [0, 3]) (val := valOf [IsF .num g 1, vc (ptr g 0), vc (ptr g 0), vc (ptr g (0 + 173)), IsF .txt g (0 + 173), vc (ptr g 0), vc (ptr g 0), vc (ptr g (0 + 175)), IsF .dig g (0 + 175), vF g [(.num, 1), (.txt, (0 + 173)), (.dig, (0 + 175))], vF g [(.num, 1), (.txt, (0 + 173)), (.dig, (0 + 175))]]) (by kernel_rfl) (by kernel_rfl) rfl (mono_of (by
        intro p hp
        simp only [List.mem_cons, List.not_mem_nil, or_false] at hp
        rcases hp with rfl | rfl | rfl | rfl | rfl | rfl | rfl | rfl | rfl | rfl | rfl
        all_goals first | exact mono_vc _ | exact mono_isF _ _ _ | exact mono_vF _ _)) ?_ ?_
    · intro i o ho
      match i, ho with
      | 0, ho => cases ho; exact ow_ld 3 c .num g 1 cb rfl rfl rfl HCr.out HCf.out _ Tryz.underlying147 rfl sizeFld rfl
      | 1, ho => cases ho; exact ow_move 0 (ptr g 0) rfl rfl rfl rfl
      | 2, ho => cases ho; exact ow_nil 54 1 g 0 rfl (by kernel_rfl) (by kernel_rfl) rfl rfl
      | 3, ho => cases ho; exact ow_fa 55 2 33 4 g 0 173 rfl (fun W => fa33_4 _ _ W) (by kernel_rfl) (by kernel_rfl) rfl rfl
      | 4, ho => cases ho; exact ow_mk 56 3 92 _ .txt g (0 + 173) rfl (fun x W => call_txt x W) (fun W => mk_txt g (0 + 173) W) (by kernel_rfl) (by kernel_rfl) rfl rfl
      | 5, ho => cases ho; exact ow_move 0 (ptr g 0) rfl rfl rfl rfl
      | 6, ho => cases ho; exact ow_nil 58 5 g 0 rfl (by kernel_rfl) (by kernel_rfl) rfl rfl
      | 7, ho => cases ho; exact ow_fa 59 6 33 6 g 0 175 rfl (fun W => fa33_6 _ _ W) (by kernel_rfl) (by kernel_rfl) rfl rfl
      | 8, ho => cases ho; exact ow_mk 60 7 93 _ .dig g (0 + 175) rfl (fun x W => call_dig x W) (fun W => mk_dig g (0 + 175) W) (by kernel_rfl) (by kernel_rfl) rfl rfl
      | 9, ho => cases ho; exact ow_bs 90 147 3 _ g [(.num, 1), (.txt, (0 + 173)), (.dig, (0 + 175))] [(0, 53), (4, 57), (8, 61)] rfl Tryz.underlying90 rfl sizeFld infoFld rfl (by decide) (by decide) rfl rfl (by kernel_rfl) (by intro j hj; match j, hj with | 0, _ => rfl | 1, _ => rfl | 2, _ => rfl) rfl
      | 10, ho => cases ho; exact ow_assign 62 9 g [(.num, 1), (.txt, (0 + 173)), (.dig, (0 + 175))] rfl (by kernel_rfl) (by kernel_rfl) rfl rfl
      | (i + 11), ho => exact absurd ho (by simp)
    · intro a w' hB hs hd hk2 hv
      have h2 := hv 10 2 (by kernel_rfl)
      have HB3 := hid (below_two HB2.out hB)
      obtain ⟨tm, df⟩ := a
      obtain rfl : df = [] := hd
      go_wp2
      go_ret
      exact ⟨_, rfl, h2, HB3.out⟩
  · rcases hk with hk | hk
    · as_aux_lemma =>
      subst hk
      go_wp2_with fail
      refine wp_region_mid (N := 128) (keep := [5]) (val := valOf [vc (ptr g 239), vc (ptr g 239), vc (ptr g (239 + 0)), IsF .num g (239 + 0), vc (ptr g 239), vc (ptr g 239), vc (ptr g (239 + 1)), IsF .num g (239 + 1), vc (ptr g 239), vc (ptr g 239), vc (ptr g (239 + 2)), IsF .txt g (239 + 2), vc (ptr g 239), vc (ptr g 239), vc (ptr g (239 + 3)), IsF .dig g (239 + 3), vF g [(.num, (239 + 0)), (.num, (239 + 1)), (.txt, (239 + 2)), (.dig, (239 + 3))], vF g [(.num, (239 + 0)), (.num, (239 + 1)), (.txt, (239 + 2)), (.dig, (239 + 3))]]) (by kernel_rfl) (by kernel_rfl) rfl (mono_of (by
          intro p hp
          simp only [List.mem_cons, List.not_mem_nil, or_false] at hp
          rcases hp with rfl | rfl | rfl | rfl | rfl | rfl | rfl | rfl | rfl | rfl | rfl | rfl | rfl | rfl | rfl | rfl | rfl | rfl
          all_goals first | exact mono_vc _ | exact mono_isF _ _ _ | exact mono_vF _ _)) ?_ ?_
      · intro i o ho
        match i, ho with
        | 0, ho => cases ho; exact ow_move 5 (ptr g 239) rfl rfl rfl rfl
        | 1, ho => cases ho; exact ow_nil 69 0 g 239 rfl (by kernel_rfl) (by kernel_rfl) rfl rfl
        | 2, ho => cases ho; exact ow_fa 70 1 30 0 g 239 0 rfl (fun W => fa30_0 _ _ W) (by kernel_rfl) (by kernel_rfl) rfl rfl
        | 3, ho => cases ho; exact ow_mk 71 2 91 _ .num g (239 + 0) rfl (fun x W => call_num x W) (fun W => mk_num g (239 + 0) W) (by kernel_rfl) (by kernel_rfl) rfl rfl
        | 4, ho => cases ho; exact ow_move 5 (ptr g 239) rfl rfl rfl rfl
        | 5, ho => cases ho; exact ow_nil 73 4 g 239 rfl (by kernel_rfl) (by kernel_rfl) rfl rfl
        | 6, ho => cases ho; exact ow_fa 74 5 30 1 g 239 1 rfl (fun W => fa30_1 _ _ W) (by kernel_rfl) (by kernel_rfl) rfl rfl
        | 7, ho => cases ho; exact ow_mk 75 6 91 _ .num g (239 + 1) rfl (fun x W => call_num x W) (fun W => mk_num g (239 + 1) W) (by kernel_rfl) (by kernel_rfl) rfl rfl
        | 8, ho => cases ho; exact ow_move 5 (ptr g 239) rfl rfl rfl rfl
        | 9, ho => cases ho; exact ow_nil 77 8 g 239 rfl (by kernel_rfl) (by kernel_rfl) rfl rfl
        | 10, ho => cases ho; exact ow_fa 78 9 30 2 g 239 2 rfl (fun W => fa30_2 _ _ W) (by kernel_rfl) (by kernel_rfl) rfl rfl
        | 11, ho => cases ho; exact ow_mk 79 10 92 _ .txt g (239 + 2) rfl (fun x W => call_txt x W) (fun W => mk_txt g (239 + 2) W) (by kernel_rfl) (by kernel_rfl) rfl rfl
        | 12, ho => cases ho; exact ow_move 5 (ptr g 239) rfl rfl rfl rfl
        | 13, ho => cases ho; exact ow_nil 81 12 g 239 rfl (by kernel_rfl) (by kernel_rfl) rfl rfl
        | 14, ho => cases ho; exact ow_fa 82 13 30 3 g 239 3 rfl (fun W => fa30_3 _ _ W) (by kernel_rfl) (by kernel_rfl) rfl rfl
        | 15, ho => cases ho; exact ow_mk 83 14 93 _ .dig g (239 + 3) rfl (fun x W => call_dig x W) (fun W => mk_dig g (239 + 3) W) (by kernel_rfl) (by kernel_rfl) rfl rfl
        | 16, ho => cases ho; exact ow_bs 90 147 4 _ g [(.num, (239 + 0)), (.num, (239 + 1)), (.txt, (239 + 2)), (.dig, (239 + 3))] [(3, 72), (7, 76), (11, 80), (15, 84)] rfl Tryz.underlying90 rfl sizeFld infoFld rfl (by decide) (by decide) rfl rfl (by kernel_rfl) (by intro j hj; match j, hj with | 0, _ => rfl | 1, _ => rfl | 2, _ => rfl | 3, _ => rfl) rfl
        | 17, ho => cases ho; exact ow_assign 85 16 g [(.num, (239 + 0)), (.num, (239 + 1)), (.txt, (239 + 2)), (.dig, (239 + 3))] rfl (by kernel_rfl) (by kernel_rfl) rfl rfl
        | (i + 18), ho => exact absurd ho (by simp)
      · intro a w' hB hs hd hk2 hv
        have h2 := hv 17 2 (by kernel_rfl)
        have HB3 := hid (below_two HB2.out hB)
        obtain ⟨tm, df⟩ := a
        obtain rfl : df = [] := hd
        go_wp2
        go_ret
        exact ⟨_, rfl, h2, HB3.out⟩
    · as_aux_lemma =>
      subst hk
      go_wp2_with fail
      refine wp_region_mid (N := 128) (keep := [5]) (val := valOf [vc (ptr g 239), vc (ptr g 239), vc (ptr g (239 + 0)), IsF .num g (239 + 0), vc (ptr g 239), vc (ptr g 239), vc (ptr g (239 + 1)), IsF .num g (239 + 1), vc (ptr g 239), vc (ptr g 239), vc (ptr g (239 + 2)), IsF .txt g (239 + 2), vc (ptr g 239), vc (ptr g 239), vc (ptr g (239 + 3)), IsF .dig g (239 + 3), vF g [(.num, (239 + 0)), (.num, (239 + 1)), (.txt, (239 + 2)), (.dig, (239 + 3))], vF g [(.num, (239 + 0)), (.num, (239 + 1)), (.txt, (239 + 2)), (.dig, (239 + 3))]]) (by kernel_rfl) (by kernel_rfl) rfl (mono_of (by
          intro p hp
          simp only [List.mem_cons, List.not_mem_nil, or_false] at hp
          rcases hp with rfl | rfl | rfl | rfl | rfl | rfl | rfl | rfl | rfl | rfl | rfl | rfl | rfl | rfl | rfl | rfl | rfl | rfl
          all_goals first | exact mono_vc _ | exact mono_isF _ _ _ | exact mono_vF _ _)) ?_ ?_
      · intro i o ho
        match i, ho with
        | 0, ho => cases ho; exact ow_move 5 (ptr g 239) rfl rfl rfl rfl
        | 1, ho => cases ho; exact ow_nil 69 0 g 239 rfl (by kernel_rfl) (by kernel_rfl) rfl rfl
        | 2, ho => cases ho; exact ow_fa 70 1 30 0 g 239 0 rfl (fun W => fa30_0 _ _ W) (by kernel_rfl) (by kernel_rfl) rfl rfl
        | 3, ho => cases ho; exact ow_mk 71 2 91 _ .num g (239 + 0) rfl (fun x W => call_num x W) (fun W => mk_num g (239 + 0) W) (by kernel_rfl) (by kernel_rfl) rfl rfl
        | 4, ho => cases ho; exact ow_move 5 (ptr g 239) rfl rfl rfl rfl
        | 5, ho => cases ho; exact ow_nil 73 4 g 239 rfl (by kernel_rfl) (by kernel_rfl) rfl rfl
        | 6, ho => cases ho; exact ow_fa 74 5 30 1 g 239 1 rfl (fun W => fa30_1 _ _ W) (by kernel_rfl) (by kernel_rfl) rfl rfl
        | 7, ho => cases ho; exact ow_mk 75 6 91 _ .num g (239 + 1) rfl (fun x W => call_num x W) (fun W => mk_num g (239 + 1) W) (by kernel_rfl) (by kernel_rfl) rfl rfl
        | 8, ho => cases ho; exact ow_move 5 (ptr g 239) rfl rfl rfl rfl
        | 9, ho => cases ho; exact ow_nil 77 8 g 239 rfl (by kernel_rfl) (by kernel_rfl) rfl rfl
        | 10, ho => cases ho; exact ow_fa 78 9 30 2 g 239 2 rfl (fun W => fa30_2 _ _ W) (by kernel_rfl) (by kernel_rfl) rfl rfl
        | 11, ho => cases ho; exact ow_mk 79 10 92 _ .txt g (239 + 2) rfl (fun x W => call_txt x W) (fun W => mk_txt g (239 + 2) W) (by kernel_rfl) (by kernel_rfl) rfl rfl
        | 12, ho => cases ho; exact ow_move 5 (ptr g 239) rfl rfl rfl rfl
        | 13, ho => cases ho; exact ow_nil 81 12 g 239 rfl (by kernel_rfl) (by kernel_rfl) rfl rfl
        | 14, ho => cases ho; exact ow_fa 82 13 30 3 g 239 3 rfl (fun W => fa30_3 _ _ W) (by kernel_rfl) (by kernel_rfl) rfl rfl
        | 15, ho => cases ho; exact ow_mk 83 14 93 _ .dig g (239 + 3) rfl (fun x W => call_dig x W) (fun W => mk_dig g (239 + 3) W) (by kernel_rfl) (by kernel_rfl) rfl rfl
        | 16, ho => cases ho; exact ow_bs 90 147 4 _ g [(.num, (239 + 0)), (.num, (239 + 1)), (.txt, (239 + 2)), (.dig, (239 + 3))] [(3, 72), (7, 76), (11, 80), (15, 84)] rfl Tryz.underlying90 rfl sizeFld infoFld rfl (by decide) (by decide) rfl rfl (by kernel_rfl) (by intro j hj; match j, hj with | 0, _ => rfl | 1, _ => rfl | 2, _ => rfl | 3, _ => rfl) rfl
        | 17, ho => cases ho; exact ow_assign 85 16 g [(.num, (239 + 0)), (.num, (239 + 1)), (.txt, (239 + 2)), (.dig, (239 + 3))] rfl (by kernel_rfl) (by kernel_rfl) rfl rfl
        | (i + 18), ho => exact absurd ho (by simp)
      · intro a w' hB hs hd hk2 hv
        have h2 := hv 17 2 (by kernel_rfl)
        have HB3 := hid (below_two HB2.out hB)
        obtain ⟨tm, df⟩ := a
        obtain rfl : df = [] := hd
        go_wp2
        go_ret
        exact ⟨_, rfl, h2, HB3.out⟩
  · rcases hk with hk | hk | hk
    · as_aux_lemma =>
      subst hk
      go_wp2_with fail
      refine wp_region_mid (N := 128) (keep := [0, 3]) (val := valOf [IsF .num g 1, vc (ptr g 0), vc (ptr g 0), vc (ptr g (0 + 274)), IsF .nums g (0 + 274), vF g [(.num, 1), (.nums, (0 + 274))], vF g [(.num, 1), (.nums, (0 + 274))]]) (by kernel_rfl) (by kernel_rfl) rfl (mono_of (by
          intro p hp
          simp only [List.mem_cons, List.not_mem_nil, or_false] at hp
          rcases hp with rfl | rfl | rfl | rfl | rfl | rfl | rfl
          all_goals first | exact mono_vc _ | exact mono_isF _ _ _ | exact mono_vF _ _)) ?_ ?_
      · intro i o ho
        match i, ho with
        | 0, ho => cases ho; exact ow_ld 3 c .num g 1 cb rfl rfl rfl HCr.out HCf.out _ Tryz.underlying147 rfl sizeFld rfl
        | 1, ho => cases ho; exact ow_move 0 (ptr g 0) rfl rfl rfl rfl
        | 2, ho => cases ho; exact ow_nil 91 1 g 0 rfl (by kernel_rfl) (by kernel_rfl) rfl rfl
        | 3, ho => cases ho; exact ow_fa 92 2 33 9 g 0 274 rfl (fun W => fa33_9 _ _ W) (by kernel_rfl) (by kernel_rfl) rfl rfl
        | 4, ho => cases ho; exact ow_mk 93 3 95 _ .nums g (0 + 274) rfl (fun x W => call_nums x W) (fun W => mk_nums g (0 + 274) W) (by kernel_rfl) (by kernel_rfl) rfl rfl
        | 5, ho => cases ho; exact ow_bs 90 147 2 _ g [(.num, 1), (.nums, (0 + 274))] [(0, 90), (4, 94)] rfl Tryz.underlying90 rfl sizeFld infoFld rfl (by decide) (by decide) rfl rfl (by kernel_rfl) (by intro j hj; match j, hj with | 0, _ => rfl | 1, _ => rfl) rfl
        | 6, ho => cases ho; exact ow_assign 95 5 g [(.num, 1), (.nums, (0 + 274))] rfl (by kernel_rfl) (by kernel_rfl) rfl rfl
        | (i + 7), ho => exact absurd ho (by simp)
      · intro a w' hB hs hd hk2 hv
        have h2 := hv 6 2 (by kernel_rfl)
        have HB3 := hid (below_two HB2.out hB)
        obtain ⟨tm, df⟩ := a
        obtain rfl : df = [] := hd
        go_wp2
        go_ret
        exact ⟨_, rfl, h2, HB3.out⟩
    · as_aux_lemma =>
      subst hk
      go_wp2_with fail
      refine wp_region_mid (N := 128) (keep := [0, 3]) (val := valOf [IsF .num g 1, vc (ptr g 0), vc (ptr g 0), vc (ptr g (0 + 274)), IsF .nums g (0 + 274), vF g [(.num, 1), (.nums, (0 + 274))], vF g [(.num, 1), (.nums, (0 + 274))]]) (by kernel_rfl) (by kernel_rfl) rfl (mono_of (by
          intro p hp
          simp only [List.mem_cons, List.not_mem_nil, or_false] at hp
          rcases hp with rfl | rfl | rfl | rfl | rfl | rfl | rfl
          all_goals first | exact mono_vc _ | exact mono_isF _ _ _ | exact mono_vF _ _)) ?_ ?_
      · intro i o ho
        match i, ho with
        | 0, ho => cases ho; exact ow_ld 3 c .num g 1 cb rfl rfl rfl HCr.out HCf.out _ Tryz.underlying147 rfl sizeFld rfl
        | 1, ho => cases ho; exact ow_move 0 (ptr g 0) rfl rfl rfl rfl
        | 2, ho => cases ho; exact ow_nil 91 1 g 0 rfl (by kernel_rfl) (by kernel_rfl) rfl rfl
        | 3, ho => cases ho; exact ow_fa 92 2 33 9 g 0 274 rfl (fun W => fa33_9 _ _ W) (by kernel_rfl) (by kernel_rfl) rfl rfl
        | 4, ho => cases ho; exact ow_mk 93 3 95 _ .nums g (0 + 274) rfl (fun x W => call_nums x W) (fun W => mk_nums g (0 + 274) W) (by kernel_rfl) (by kernel_rfl) rfl rfl
        | 5, ho => cases ho; exact ow_bs 90 147 2 _ g [(.num, 1), (.nums, (0 + 274))] [(0, 90), (4, 94)] rfl Tryz.underlying90 rfl sizeFld infoFld rfl (by decide) (by decide) rfl rfl (by kernel_rfl) (by intro j hj; match j, hj with | 0, _ => rfl | 1, _ => rfl) rfl
        | 6, ho => cases ho; exact ow_assign 95 5 g [(.num, 1), (.nums, (0 + 274))] rfl (by kernel_rfl) (by kernel_rfl) rfl rfl
        | (i + 7), ho => exact absurd ho (by simp)
      · intro a w' hB hs hd hk2 hv
        have h2 := hv 6 2 (by kernel_rfl)
        have HB3 := hid (below_two HB2.out hB)
        obtain ⟨tm, df⟩ := a
        obtain rfl : df = [] := hd
        go_wp2
        go_ret
        exact ⟨_, rfl, h2, HB3.out⟩
    · as_aux_lemma =>
      subst hk
      go_wp2_with fail
      refine wp_region_mid (N := 128) (keep := [0, 3]) (val := valOf [IsF .num g 1, vc (ptr g 0), vc (ptr g 0), vc (ptr g (0 + 274)), IsF .nums g (0 + 274), vF g [(.num, 1), (.nums, (0 + 274))], vF g [(.num, 1), (.nums, (0 + 274))]]) (by kernel_rfl) (by kernel_rfl) rfl (mono_of (by
          intro p hp
          simp only [List.mem_cons, List.not_mem_nil, or_false] at hp
          rcases hp with rfl | rfl | rfl | rfl | rfl | rfl | rfl
          all_goals first | exact mono_vc _ | exact mono_isF _ _ _ | exact mono_vF _ _)) ?_ ?_
      · intro i o ho
        match i, ho with
        | 0, ho => cases ho; exact ow_ld 3 c .num g 1 cb rfl rfl rfl HCr.out HCf.out _ Tryz.underlying147 rfl sizeFld rfl
        | 1, ho => cases ho; exact ow_move 0 (ptr g 0) rfl rfl rfl rfl
        | 2, ho => cases ho; exact ow_nil 91 1 g 0 rfl (by kernel_rfl) (by kernel_rfl) rfl rfl
        | 3, ho => cases ho; exact ow_fa 92 2 33 9 g 0 274 rfl (fun W => fa33_9 _ _ W) (by kernel_rfl) (by kernel_rfl) rfl rfl
        | 4, ho => cases ho; exact ow_mk 93 3 95 _ .nums g (0 + 274) rfl (fun x W => call_nums x W) (fun W => mk_nums g (0 + 274) W) (by kernel_rfl) (by kernel_rfl) rfl rfl
        | 5, ho => cases ho; exact ow_bs 90 147 2 _ g [(.num, 1), (.nums, (0 + 274))] [(0, 90), (4, 94)] rfl Tryz.underlying90 rfl sizeFld infoFld rfl (by decide) (by decide) rfl rfl (by kernel_rfl) (by intro j hj; match j, hj with | 0, _ => rfl | 1, _ => rfl) rfl
        | 6, ho => cases ho; exact ow_assign 95 5 g [(.num, 1), (.nums, (0 + 274))] rfl (by kernel_rfl) (by kernel_rfl) rfl rfl
        | (i + 7), ho => exact absurd ho (by simp)
      · intro a w' hB hs hd hk2 hv
        have h2 := hv 6 2 (by kernel_rfl)
        have HB3 := hid (below_two HB2.out hB)
        obtain ⟨tm, df⟩ := a
        obtain rfl : df = [] := hd
        go_wp2
        go_ret
        exact ⟨_, rfl, h2, HB3.out⟩
  · as_aux_lemma =>
    subst hk
    obtain ⟨V, hV⟩ : ∃ V, V = fieldV .num cb := ⟨_, rfl⟩
    have hI : (Tryz.prog.info? 147).map (·.size) = some V.length := by rw [hV]; exact sizeFld
    have hL : V.length = 3 := by rw [hV]; rfl
    have S0 : Hid (∀ j v, V[j]? = some v → W2.cell? ⟨c, 0 + j, none⟩ = some v) := by rw [hV]; exact row_seg (off := 0) (A := []) (C := []) HCr.out (by simp) rfl
    have HFin : Hid (FieldsAt (W2.alloc (.cells V.toArray 147)) (.slice (some ⟨W2.heap.size, 0, none⟩) 1 1) g (spots 0 proFs) ∧ Below w.heap.size w (W2.alloc (.cells V.toArray 147))) := by
      refine ⟨⟨_, [cb], rfl, rfl, fun _ => ⟨_, rfl, ?_⟩, fun j hj => ?_⟩, below_two HB2.out (below_a1 _ _)⟩
      · rw [top_obj, hV]; rfl
      · have : j = 0 := by have : j < 1 := hj; omega
        subst this
        exact HCf.out.stays (below_a1 _ _)
    clear hV HCr HCf
    go_wp2_with (first | ((with_reducible refine wl_load 147 (.tmp 3) ?_ c 0 ?_ ?_ V _ S0.out Tryz.underlying147 ?_ hI ?_); exact rfl; exact rfl; exact rfl; exact rfl) | ((with_reducible refine wl_bs1 ?_ (.tmp 98) ?_ V hL ?_ ?_); exact rfl; exact rfl; exact rfl))
    go_ret
    exact ⟨_, rfl, HFin.out.1, HFin.out.2⟩
  · as_aux_lemma =>
    subst hk
    go_wp2_with fail
    refine wp_region_mid (N := 128) (keep := [0, 3]) (val := valOf [IsF .num g 1, vc (ptr g 0), vc (ptr g 0), vc (ptr g (0 + 174)), IsF .num g (0 + 174), vc (ptr g 0), vc (ptr g 0), vc (ptr g (0 + 173)), IsF .txt g (0 + 173), vc (ptr g 0), vc (ptr g 0), vc (ptr g (0 + 175)), IsF .dig g (0 + 175), vc (ptr g 0), vc (ptr g 0), vc (ptr g (0 + 207)), IsF .dig g (0 + 207), vF g [(.num, 1), (.num, (0 + 174)), (.txt, (0 + 173)), (.dig, (0 + 175)), (.dig, (0 + 207))], vF g [(.num, 1), (.num, (0 + 174)), (.txt, (0 + 173)), (.dig, (0 + 175)), (.dig, (0 + 207))]]) (by kernel_rfl) (by kernel_rfl) rfl (mono_of (by
        intro p hp
        simp only [List.mem_cons, List.not_mem_nil, or_false] at hp
        rcases hp with rfl | rfl | rfl | rfl | rfl | rfl | rfl | rfl | rfl | rfl | rfl | rfl | rfl | rfl | rfl | rfl | rfl | rfl | rfl
        all_goals first | exact mono_vc _ | exact mono_isF _ _ _ | exact mono_vF _ _)) ?_ ?_
    · intro i o ho
      match i, ho with
      | 0, ho => cases ho; exact ow_ld 3 c .num g 1 cb rfl rfl rfl HCr.out HCf.out _ Tryz.underlying147 rfl sizeFld rfl
      | 1, ho => cases ho; exact ow_move 0 (ptr g 0) rfl rfl rfl rfl
      | 2, ho => cases ho; exact ow_nil 103 1 g 0 rfl (by kernel_rfl) (by kernel_rfl) rfl rfl
      | 3, ho => cases ho; exact ow_fa 104 2 33 5 g 0 174 rfl (fun W => fa33_5 _ _ W) (by kernel_rfl) (by kernel_rfl) rfl rfl
      | 4, ho => cases ho; exact ow_mk 105 3 91 _ .num g (0 + 174) rfl (fun x W => call_num x W) (fun W => mk_num g (0 + 174) W) (by kernel_rfl) (by kernel_rfl) rfl rfl
      | 5, ho => cases ho; exact ow_move 0 (ptr g 0) rfl rfl rfl rfl
      | 6, ho => cases ho; exact ow_nil 107 5 g 0 rfl (by kernel_rfl) (by kernel_rfl) rfl rfl
      | 7, ho => cases ho; exact ow_fa 108 6 33 4 g 0 173 rfl (fun W => fa33_4 _ _ W) (by kernel_rfl) (by kernel_rfl) rfl rfl
      | 8, ho => cases ho; exact ow_mk 109 7 92 _ .txt g (0 + 173) rfl (fun x W => call_txt x W) (fun W => mk_txt g (0 + 173) W) (by kernel_rfl) (by kernel_rfl) rfl rfl
      | 9, ho => cases ho; exact ow_move 0 (ptr g 0) rfl rfl rfl rfl
      | 10, ho => cases ho; exact ow_nil 111 9 g 0 rfl (by kernel_rfl) (by kernel_rfl) rfl rfl
      | 11, ho => cases ho; exact ow_fa 112 10 33 6 g 0 175 rfl (fun W => fa33_6 _ _ W) (by kernel_rfl) (by kernel_rfl) rfl rfl
      | 12, ho => cases ho; exact ow_mk 113 11 93 _ .dig g (0 + 175) rfl (fun x W => call_dig x W) (fun W => mk_dig g (0 + 175) W) (by kernel_rfl) (by kernel_rfl) rfl rfl
      | 13, ho => cases ho; exact ow_move 0 (ptr g 0) rfl rfl rfl rfl
      | 14, ho => cases ho; exact ow_nil 115 13 g 0 rfl (by kernel_rfl) (by kernel_rfl) rfl rfl
      | 15, ho => cases ho; exact ow_fa 116 14 33 7 g 0 207 rfl (fun W => fa33_7 _ _ W) (by kernel_rfl) (by kernel_rfl) rfl rfl
      | 16, ho => cases ho; exact ow_mk 117 15 93 _ .dig g (0 + 207) rfl (fun x W => call_dig x W) (fun W => mk_dig g (0 + 207) W) (by kernel_rfl) (by kernel_rfl) rfl rfl
      | 17, ho => cases ho; exact ow_bs 90 147 5 _ g [(.num, 1), (.num, (0 + 174)), (.txt, (0 + 173)), (.dig, (0 + 175)), (.dig, (0 + 207))] [(0, 102), (4, 106), (8, 110), (12, 114), (16, 118)] rfl Tryz.underlying90 rfl sizeFld infoFld rfl (by decide) (by decide) rfl rfl (by kernel_rfl) (by intro j hj; match j, hj with | 0, _ => rfl | 1, _ => rfl | 2, _ => rfl | 3, _ => rfl | 4, _ => rfl) rfl
      | 18, ho => cases ho; exact ow_assign 119 17 g [(.num, 1), (.num, (0 + 174)), (.txt, (0 + 173)), (.dig, (0 + 175)), (.dig, (0 + 207))] rfl (by kernel_rfl) (by kernel_rfl) rfl rfl
      | (i + 19), ho => exact absurd ho (by simp)
    · intro a w' hB hs hd hk2 hv
      have h2 := hv 18 2 (by kernel_rfl)
      have HB3 := hid (below_two HB2.out hB)
      obtain ⟨tm, df⟩ := a
      obtain rfl : df = [] := hd
      go_wp2
      go_ret
      exact ⟨_, rfl, h2, HB3.out⟩
  · as_aux_lemma =>
    subst hk
    go_wp2_with fail
    refine wp_region_mid (N := 128) (keep := [0, 3]) (val := valOf [IsF .num g 1, vc (ptr g 0), vc (ptr g 0), vc (ptr g (0 + 207)), IsF .dig g (0 + 207), vF g [(.num, 1), (.dig, (0 + 207))], vF g [(.num, 1), (.dig, (0 + 207))]]) (by kernel_rfl) (by kernel_rfl) rfl (mono_of (by
        intro p hp
        simp only [List.mem_cons, List.not_mem_nil, or_false] at hp
        rcases hp with rfl | rfl | rfl | rfl | rfl | rfl | rfl
        all_goals first | exact mono_vc _ | exact mono_isF _ _ _ | exact mono_vF _ _)) ?_ ?_
    · intro i o ho
      match i, ho with
      | 0, ho => cases ho; exact ow_ld 3 c .num g 1 cb rfl rfl rfl HCr.out HCf.out _ Tryz.underlying147 rfl sizeFld rfl
      | 1, ho => cases ho; exact ow_move 0 (ptr g 0) rfl rfl rfl rfl
      | 2, ho => cases ho; exact ow_nil 123 1 g 0 rfl (by kernel_rfl) (by kernel_rfl) rfl rfl
      | 3, ho => cases ho; exact ow_fa 124 2 33 7 g 0 207 rfl (fun W => fa33_7 _ _ W) (by kernel_rfl) (by kernel_rfl) rfl rfl
      | 4, ho => cases ho; exact ow_mk 125 3 93 _ .dig g (0 + 207) rfl (fun x W => call_dig x W) (fun W => mk_dig g (0 + 207) W) (by kernel_rfl) (by kernel_rfl) rfl rfl
      | 5, ho => cases ho; exact ow_bs 90 147 2 _ g [(.num, 1), (.dig, (0 + 207))] [(0, 122), (4, 126)] rfl Tryz.underlying90 rfl sizeFld infoFld rfl (by decide) (by decide) rfl rfl (by kernel_rfl) (by intro j hj; match j, hj with | 0, _ => rfl | 1, _ => rfl) rfl
      | 6, ho => cases ho; exact ow_assign 127 5 g [(.num, 1), (.dig, (0 + 207))] rfl (by kernel_rfl) (by kernel_rfl) rfl rfl
      | (i + 7), ho => exact absurd ho (by simp)
    · intro a w' hB hs hd hk2 hv
      have h2 := hv 6 2 (by kernel_rfl)
      have HB3 := hid (below_two HB2.out hB)
      obtain ⟨tm, df⟩ := a
      obtain rfl : df = [] := hd
      go_wp2
      go_ret
      exact ⟨_, rfl, h2, HB3.out⟩
  · as_aux_lemma =>
    have d1 : (kind == 1) = false := by simp; omega
    have d2 : (kind == 2) = false := by simp; omega
    have d3 : (kind == 3) = false := by simp; omega
    have d4 : (kind == 4) = false := by simp; omega
    have d5 : (kind == 5) = false := by simp; omega
    have d6 : (kind == 6) = false := by simp; omega
    have d7 : (kind == 7) = false := by simp; omega
    have d8 : (kind == 8) = false := by simp; omega
    have d9 : (kind == 9) = false := by simp; omega
    have d10 : (kind == 10) = false := by simp; omega
    have d11 : (kind == 11) = false := by simp; omega
    have HE := hid e
    clear hk e
    go_wp2
    go_ret
    exact ⟨_, rfl, by rw [HE.out]; exact fnil _ _, HB2.out⟩
end Go.Proofs.YtidlgecognedlaaGreatDoor.Ms

/-
  What slices.Equal answers of two lists of numbers, and of two lists of what is pending.
-/
namespace Go.Proofs.YtidlgecognedlaaGreatDoor.Ms
open Go Go.RowKit
set_option maxRecDepth 100000

set_option maxHeartbeats 2000000 in
theorem eqInts_any {w : World} {u v : Value} {xs ys : List Int} (hu : IntsAt w u xs) (hv : IntsAt w v ys) (hx : xs.length ≤ 9223372036854775807) :
    Calls Tryz.prog 99 #[u, v] w fun e w' => e = .returned (.bool (xs == ys)) ∧ Below w.heap.size w w' := by
  obtain ⟨a, c1, rfl, ha⟩ := hu
  obtain ⟨b, c2, rfl, hb⟩ := hv
  have HB0 := hid (Below.refl w.heap.size w)
  by_cases hl : xs.length = ys.length
  · have HE := hid (list_eq_of (0 : Int) xs ys hl)
    have HN := hid (fun j => list_ne_at (0 : Int) xs ys j)
    have HA := hid ha
    have HBb := hid hb
    have dl : ((xs.length : Int) != (ys.length : Int)) = false := by simp; omega
    have dl' : (xs.length != ys.length) = false := by simp; omega
    have HL := hid hl
    clear ha hb hl
    go_enter Tryz.func99, Tryz.ntmps99
    go_wp2
    go_loopw [13] (fun i w' => ∃ j : Nat, j ≤ xs.length ∧ i = .int .i64 j ∧ Hid (∀ k, k < j → xs.getD k 0 = ys.getD k 0) ∧ Hid (Below w.heap.size w w')) (fun i _ => xs.length - (intOf i).toNat)
    case atStart => exact ⟨0, by omega, rfl, fun k hk => absurd hk (Nat.not_lt_zero k), HB0.out⟩
    case round =>
      obtain ⟨j, hj, rfl, HQ, HB⟩ := hrel
      by_cases hlt : j < xs.length
      · have d1 : decide ((j : Int) < (xs.length : Int)) = true := decide_eq_true (by omega)
        have d1' : decide (j < xs.length) = true := decide_eq_true hlt
        have hly : j < ys.length := by have := HL.out; omega
        obtain ⟨ba, oa, rfl, hca⟩ := HA.out (fun e => by rw [e] at hlt; exact absurd hlt (Nat.not_lt_zero j))
        obtain ⟨bb, ob, rfl, hcb⟩ := HBb.out (fun e => by rw [e] at hly; exact absurd hly (Nat.not_lt_zero j))
        have ca : wr.cell? ⟨ba, oa + j, none⟩ = some (.int .i64 (xs.getD j 0)) := (HB.out.cell (p := ⟨ba, oa + j, none⟩) (World.block_lt_of_cell? w _ (hca j hlt))).trans (hca j hlt)
        have cb' : wr.cell? ⟨bb, ob + j, none⟩ = some (.int .i64 (ys.getD j 0)) := (HB.out.cell (p := ⟨bb, ob + j, none⟩) (World.block_lt_of_cell? w _ (hcb j hly))).trans (hcb j hly)
        by_cases he : xs.getD j 0 = ys.getD j 0
        · have HQ' : Hid (∀ k, k < j + 1 → xs.getD k 0 = ys.getD k 0) := fun k hk => by
            by_cases e : k = j
            · rw [e]; exact he
            · exact HQ.out k (by omega)
          rw [← he] at cb'
          generalize xs.getD j 0 = x at *
          clear he hca hcb HQ HE HN HA HBb
          have HBd := hid HB.out.drew
          go_wp2
          go_region
          all_goals (go_wp2; exact ⟨⟨j + 1, by omega, by go_num, HQ'.out, HBd.out⟩, by simp [intOf]; omega⟩)
        · have HP := hid (HN.out j he)
          generalize xs.getD j 0 = x at *
          generalize ys.getD j 0 = y at *
          have dx : (x != y) = true := by simpa using he
          clear he hca hcb HQ HE HN HA HBb
          have HBd := hid HB.out.drew
          go_wp2
          go_region
          all_goals (go_wp2; go_ret; exact ⟨by rw [HP.out]; rfl, HBd.out⟩)
      · obtain rfl : j = xs.length := by omega
        have HP : Hid ((xs == ys) = true) := by show _ = _; rw [HE.out HQ.out]; simp
        clear HE HQ HN HA HBb
        go_wp2
        go_ret
        exact ⟨by rw [HP.out]; rfl, HB.out⟩
  · rw [list_ne_len xs ys hl]
    have dl : ((xs.length : Int) != (ys.length : Int)) = true := by simp; omega
    have dl' : (xs.length != ys.length) = true := by simp; omega
    clear ha hb hl
    go_enter Tryz.func99, Tryz.ntmps99
    go_wp2
    go_ret
    exact ⟨rfl, HB0.out⟩

set_option maxHeartbeats 4000000 in
theorem eqPens_any {w : World} {u v : Value} {xs ys : List Pen} (wx : ∀ p ∈ xs, p.Wf) (wy : ∀ p ∈ ys, p.Wf) (hu : PensAt w u xs) (hv : PensAt w v ys) (hx : xs.length ≤ 9223372036854775807) :
    Calls Tryz.prog 146 #[u, v] w fun e w' => e = .returned (.bool (sameL sameP xs ys)) ∧ Below w.heap.size w w' := by
  have HP := hid hu
  have HQ := hid hv
  obtain ⟨a, c1, rfl, -⟩ := hu
  obtain ⟨b, c2, rfl, -⟩ := hv
  have HB0 := hid (Below.refl w.heap.size w)
  by_cases hl : xs.length = ys.length
  · have HX := hid wx
    have HY := hid wy
    have dl : ((xs.length : Int) != (ys.length : Int)) = false := by simp; omega
    have dl' : (xs.length != ys.length) = false := by simp; omega
    have HL := hid hl
    clear wx wy hl
    go_enter Tryz.func146, Tryz.ntmps146
    go_wp2
    go_loopw [13] (fun i w' => ∃ j : Nat, j ≤ xs.length ∧ i = .int .i64 j ∧ Hid (∀ k, k < j → sameP (xs.getD k noPen) (ys.getD k noPen) = true) ∧ Hid (Below w.heap.size w w')) (fun i _ => xs.length - (intOf i).toNat)
    case atStart => exact ⟨0, by omega, rfl, fun k hk => absurd hk (Nat.not_lt_zero k), HB0.out⟩
    case round =>
      obtain ⟨k, hk, rfl, HN, HB⟩ := hrel
      clear dl dl'
      by_cases hlt : k < xs.length
      · as_aux_lemma =>
        have hlb : k < ys.length := by have := HL.out; omega
        have d1 : decide ((k : Int) < (xs.length : Int)) = true := decide_eq_true (by omega)
        have d1' : decide (k < xs.length) = true := decide_eq_true hlt
        obtain ⟨pa', cp', e', hpc⟩ := HP.out.kept HB.out
        cases e'
        obtain ⟨qa', cq', e', hqc⟩ := HQ.out.kept HB.out
        cases e'
        obtain ⟨ba, oa, rfl, hca⟩ := hpc (fun e => by rw [e] at hlt; exact absurd hlt (Nat.not_lt_zero k))
        obtain ⟨bb, ob, rfl, hcb⟩ := hqc (fun e => by rw [e] at hlb; exact absurd hlb (Nat.not_lt_zero k))
        have wa := getD_wf HX.out k hlt
        have wb := getD_wf HY.out k hlb
        have EP := fun W => equal_pen W _ _ wa wb
        have ZA : (Tryz.prog.info? 113).map (·.size) = some (penC (xs.getD k noPen)).length := by rw [penC_len wa]; exact sizePen
        have ZB : (Tryz.prog.info? 113).map (·.size) = some (penC (ys.getD k noPen)).length := by rw [penC_len wb]; exact sizePen
        have SA := hid (fun w' (hw : ∃ p : Regrown, w' = Sort.grow (redrawn wr p.d) p.os) => (by obtain ⟨p, rfl⟩ := hw; exact fun i c hi => cell_regrown (hca k hlt i c hi) _ _ : ∀ i c, (penC (xs.getD k noPen))[i]? = some c → w'.cell? ⟨ba, oa + k * 68 + i, none⟩ = some c))
        have SB := hid (fun w' (hw : ∃ p : Regrown, w' = Sort.grow (redrawn wr p.d) p.os) => (by obtain ⟨p, rfl⟩ := hw; exact fun i c hi => cell_regrown (hcb k hlb i c hi) _ _ : ∀ i c, (penC (ys.getD k noPen))[i]? = some c → w'.cell? ⟨bb, ob + k * 68 + i, none⟩ = some c))
        have HM : Hid (sameP (xs.getD k noPen) (ys.getD k noPen) = true → ∀ j, j < k + 1 → sameP (xs.getD j noPen) (ys.getD j noPen) = true) := fun h j hj => by
          by_cases e : j = k
          · rw [e]; exact h
          · exact HN.out j (by omega)
        have HF : Hid (sameP (xs.getD k noPen) (ys.getD k noPen) = false → sameL sameP xs ys = false) := fun h => sameL_at sameP sameP_iff noPen _ _ k h
        have HBg := hid (fun dq osq => HB.out.trans ((below_regrown wr dq osq).mono HB.out.size))
        clear hpc hqc hca hcb wa wb HN HX HY
        generalize sameP (xs.getD k noPen) (ys.getD k noPen) = r at *
        generalize penC (xs.getD k noPen) = PA at *
        generalize penC (ys.getD k noPen) = PB at *
        go_wp2_with fail
        refine wp_region_quiet_below (by kernel_rfl) (by kernel_rfl) ?_
        iterate 3 (first | go_big_quiet_step (fail) | quiet_step (fail))
        refine wq_load 113 (.tmp 18) rfl ba (oa + k * 68) rfl rfl PA _ (fun w' hw' => SA.out w' hw') Tryz.underlying113 rfl ZA ?_
        simp only [Act.put, List.setIfInBounds_toArray, List.set_cons_zero, List.set_cons_succ]
        iterate 3 (first | go_big_quiet_step (fail) | quiet_step (fail))
        refine wq_load 113 (.tmp 22) rfl bb (ob + k * 68) rfl rfl PB _ (fun w' hw' => SB.out w' hw') Tryz.underlying113 rfl ZB ?_
        simp only [Act.put, List.setIfInBounds_toArray, List.set_cons_zero, List.set_cons_succ]
        refine wq_neq rfl 113 113 (.tmp 19) (.tmp 23) rfl PA.toArray PB.toArray rfl rfl guardPen r EP ?_
        simp only [Act.put, List.setIfInBounds_toArray, List.set_cons_zero, List.set_cons_succ]
        refine wpQuiet_nil ?_
        intro _ hw'
        obtain ⟨⟨dq, osq⟩, hw''⟩ := hw'
        subst hw''
        have HBq := hid (HBg.out dq osq)
        generalize Sort.grow (redrawn wr dq) osq = w5 at *
        clear SA SB EP ZA ZB HBg
        cases hr : r with
        | true =>
          have HM' := hid (HM.out hr)
          subst hr
          clear HM HF
          go_wp2
          exact ⟨⟨k + 1, by omega, by go_num, HM'.out, HBq.out⟩, by simp [intOf]; omega⟩
        | false =>
          have HF' := hid (HF.out hr)
          subst hr
          clear HM HF
          go_wp2
          go_ret
          exact ⟨by rw [HF'.out]; rfl, HBq.out⟩
      · as_aux_lemma =>
        have e : k = xs.length := by omega
        subst e
        have dk : decide ((xs.length : Int) < (xs.length : Int)) = false := decide_eq_false (by omega)
        have HPL : Hid (sameL sameP xs ys = true) := (sameL_iff sameP sameP_iff _ _).2 (list_eq_of noPen _ _ HL.out (fun j hj => (sameP_iff _ _).1 (HN.out j hj)))
        clear HN HX HY
        go_wp2
        go_ret
        exact ⟨by rw [HPL.out]; rfl, HB.out⟩
  · rw [sameL_len sameP sameP_iff xs ys hl]
    have dl : ((xs.length : Int) != (ys.length : Int)) = true := by simp; omega
    have dl' : (xs.length != ys.length) = true := by simp; omega
    clear hl wx wy
    go_enter Tryz.func146, Tryz.ntmps146
    go_wp2
    go_ret
    exact ⟨rfl, HB0.out⟩
end Go.Proofs.YtidlgecognedlaaGreatDoor.Ms

/-
  What msg.sameReply answers of two replies: whether they are the same.
-/
namespace Go.Proofs.YtidlgecognedlaaGreatDoor.Ms
open Go Go.RowKit
set_option maxRecDepth 100000

theorem sameR_every {a b : Rep} (h0 : (a.number == b.number) = true) (h1 : (a.last == b.last) = true) (h2 : (a.view == b.view) = true) (h3 : (a.commit == b.commit) = true) (h4 : sameL sameP a.pend b.pend = true) (h5 : (a.vnum == b.vnum) = true) (h6 : (a.value == b.value) = true) (h7 : (a.data == b.data) = true) (h8 : (a.seen == b.seen) = true) (h9 : (a.stag == b.stag) = true) : sameR a b = true := by unfold sameR; rw [h0, h1, h2, h3, h4, h5, h6, h7, h8, h9]; rfl
set_option maxHeartbeats 8000000 in
theorem msamereply_any {w : World} {a b : Rep} {vP vQ : Value} (ha : a.Wf) (hb : b.Wf) (hp : PensAt w vP a.pend) (hq : PensAt w vQ b.pend) (hmx : a.pend.length ≤ 9223372036854775807) :
    Calls Tryz.prog 98 #[.agg (repC a vP).toArray, .agg (repC b vQ).toArray] w fun e w' => e = .returned (.bool (sameR a b)) ∧ Below w.heap.size w w' := by
  have HB0 : Hid (Below w.heap.size w ((w.alloc (.cells (repC a vP).toArray 28)).alloc (.cells (repC b vQ).toArray 28))) := (below_a1 w _).alloc (by simp) _
  have R0 : Hid (((w.alloc (.cells (repC a vP).toArray 28)).alloc (.cells (repC b vQ).toArray 28)).heap[w.heap.size]? = some (.cells (repC a vP).toArray 28)) := heap_alloc2_old w _ _
  have R1 : Hid (((w.alloc (.cells (repC a vP).toArray 28)).alloc (.cells (repC b vQ).toArray 28)).heap[w.heap.size + 1]? = some (.cells (repC b vQ).toArray 28)) := heap_alloc2_new w _ _
  have HP := hid (hp.kept HB0.out)
  have HQ := hid (hq.kept HB0.out)
  obtain ⟨pa, capa, hpa, -⟩ := hp
  obtain ⟨qa, capb, hqa, -⟩ := hq
  subst hpa
  subst hqa
  obtain ⟨RA, hRA⟩ : ∃ RA, RA = (repC a (.slice pa a.pend.length capa)).toArray := ⟨_, rfl⟩
  obtain ⟨RB, hRB⟩ : ∃ RB, RB = (repC b (.slice qa b.pend.length capb)).toArray := ⟨_, rfl⟩
  rw [← hRA] at HB0 R0 R1 HP HQ ⊢
  rw [← hRB] at HB0 R0 R1 HP HQ ⊢
  have HRA := hid hRA
  have HRB := hid hRB
  clear hRA hRB
  go_enter Tryz.func98, Tryz.ntmps98
  go_upto_region 1 with fail
  simp only [List.append_eq, List.cons_append, List.nil_append]
  generalize (w.alloc (.cells RA 28)).alloc (.cells RB 28) = W0 at *
  have r0 := R0.out
  have r1 := R1.out
  rw [HRA.out] at r0
  rw [HRB.out] at r1
  obtain ⟨g0, hg0⟩ : ∃ g0, g0 = w.heap.size := ⟨_, rfl⟩
  obtain ⟨g1, hg1⟩ : ∃ g1, g1 = w.heap.size + 1 := ⟨_, rfl⟩
  rw [← hg1] at r1 ⊢
  rw [← hg0] at r0 ⊢
  have Q0 := hid r0
  have Q1 := hid r1
  have HA := hid ha
  have HBw := hid hb
  clear R0 R1 HRA HRB hg0 hg1
  have c0_number := rrow_number r0 ha
  have c0_last := rrow_last r0 ha
  have c0_view := rrow_view r0 ha
  have s0_commit := hid (rrow_commit r0 ha)
  have c0_P := rrow_P r0 ha
  have c1_number := rrow_number r1 hb
  have c1_last := rrow_last r1 hb
  have c1_view := rrow_view r1 hb
  have s1_commit := hid (rrow_commit r1 hb)
  have c1_P := rrow_P r1 hb
  clear r0 r1
  cases h_number : (a.number == b.number) with
  | false => as_aux_lemma =>
    have HF := hid (sameR_number h_number)
    have d_number : (a.number == b.number) = false := h_number
    clear h_number
    clear ha hb
    go_wp2
    go_ret
    exact ⟨by rw [HF.out]; rfl, HB0.out⟩
  | true =>
    cases h_last : (a.last == b.last) with
    | false => as_aux_lemma =>
      have HF := hid (sameR_last h_last)
      have d_number : (a.number == b.number) = true := h_number
      have d_last : (a.last == b.last) = false := h_last
      clear h_number h_last
      clear ha hb
      go_wp2
      go_ret
      exact ⟨by rw [HF.out]; rfl, HB0.out⟩
    | true =>
      cases h_view : (a.view == b.view) with
      | false => as_aux_lemma =>
        have HF := hid (sameR_view h_view)
        have d_number : (a.number == b.number) = true := h_number
        have d_last : (a.last == b.last) = true := h_last
        have d_view : ¬ a.view = b.view := by simpa using h_view
        clear h_number h_last h_view
        clear ha hb
        go_wp2
        go_ret
        exact ⟨by rw [HF.out]; rfl, HB0.out⟩
      | true =>
        cases h_commit : (a.commit == b.commit) with
        | false => as_aux_lemma =>
          have HF := hid (sameR_commit h_commit)
          have d_number : (a.number == b.number) = true := h_number
          have d_last : (a.last == b.last) = true := h_last
          have d_view : a.view = b.view := by simpa using h_view
          have E_commit := fun W => equal_dig W a.commit b.commit ha.commit hb.commit
          rw [h_commit] at E_commit
          have Z0_commit : (Tryz.prog.info? 23).map (·.size) = some (dg a.commit).length := by rw [dg_len, ha.commit]; exact sizeDig
          have Z1_commit : (Tryz.prog.info? 23).map (·.size) = some (dg b.commit).length := by rw [dg_len, hb.commit]; exact sizeDig
          clear h_number h_last h_view h_commit
          clear ha hb
          generalize dg a.commit = A_commit at *
          generalize dg b.commit = B_commit at *
          go_wp2_with (first | ((with_reducible refine wl_load 23 (.tmp 25) ?_ g0 3 ?_ ?_ A_commit _ s0_commit.out Tryz.underlying23 ?_ Z0_commit ?_); exact rfl; exact rfl; exact rfl; exact rfl) | ((with_reducible refine wl_load 23 (.tmp 27) ?_ g1 3 ?_ ?_ B_commit _ s1_commit.out Tryz.underlying23 ?_ Z1_commit ?_); exact rfl; exact rfl; exact rfl; exact rfl))
          go_ret
          exact ⟨by rw [HF.out]; rfl, HB0.out⟩
        | true =>
          cases h_pend : sameL sameP a.pend b.pend with
          | false => as_aux_lemma =>
            have HF := hid (sameR_pend h_pend)
            have d_number : (a.number == b.number) = true := h_number
            have d_last : (a.last == b.last) = true := h_last
            have d_view : a.view = b.view := by simpa using h_view
            have E_commit := fun W => equal_dig W a.commit b.commit ha.commit hb.commit
            rw [h_commit] at E_commit
            have Z0_commit : (Tryz.prog.info? 23).map (·.size) = some (dg a.commit).length := by rw [dg_len, ha.commit]; exact sizeDig
            have Z1_commit : (Tryz.prog.info? 23).map (·.size) = some (dg b.commit).length := by rw [dg_len, hb.commit]; exact sizeDig
            have K_pend := hid (fun (W : World) (h1 : PensAt W (.slice pa a.pend.length capa) a.pend) (h2 : PensAt W (.slice qa b.pend.length capb) b.pend) => eqPens_any ha.pend hb.pend h1 h2 hmx)
            rw [h_pend] at K_pend
            clear h_number h_last h_view h_commit h_pend
            clear ha hb
            generalize dg a.commit = A_commit at *
            generalize dg b.commit = B_commit at *
            go_wp2_with (first | ((with_reducible refine wl_load 23 (.tmp 25) ?_ g0 3 ?_ ?_ A_commit _ s0_commit.out Tryz.underlying23 ?_ Z0_commit ?_); exact rfl; exact rfl; exact rfl; exact rfl) | ((with_reducible refine wl_load 23 (.tmp 27) ?_ g1 3 ?_ ?_ B_commit _ s1_commit.out Tryz.underlying23 ?_ Z1_commit ?_); exact rfl; exact rfl; exact rfl; exact rfl))
            refine (K_pend.out _ HP.out HQ.out).mono ?_
            rintro e w1 ⟨rfl, hb1⟩
            have HB1 := hid (below_two HB0.out hb1)
            clear hb1
            go_wp2
            go_ret
            exact ⟨by rw [HF.out]; rfl, HB1.out⟩
          | true =>
            cases h_vnum : (a.vnum == b.vnum) with
            | false => as_aux_lemma =>
              have HF := hid (sameR_vnum h_vnum)
              have d_number : (a.number == b.number) = true := h_number
              have d_last : (a.last == b.last) = true := h_last
              have d_view : a.view = b.view := by simpa using h_view
              have E_commit := fun W => equal_dig W a.commit b.commit ha.commit hb.commit
              rw [h_commit] at E_commit
              have Z0_commit : (Tryz.prog.info? 23).map (·.size) = some (dg a.commit).length := by rw [dg_len, ha.commit]; exact sizeDig
              have Z1_commit : (Tryz.prog.info? 23).map (·.size) = some (dg b.commit).length := by rw [dg_len, hb.commit]; exact sizeDig
              have K_pend := hid (fun (W : World) (h1 : PensAt W (.slice pa a.pend.length capa) a.pend) (h2 : PensAt W (.slice qa b.pend.length capb) b.pend) => eqPens_any ha.pend hb.pend h1 h2 hmx)
              rw [h_pend] at K_pend
              have d_vnum : (a.vnum == b.vnum) = false := h_vnum
              clear h_number h_last h_view h_commit h_pend h_vnum
              have HFx : Hid (∀ W, Below W0.heap.size W0 W → W.heap[g0]? = some (.cells (repC a (.slice pa a.pend.length capa)).toArray 28) ∧ W.heap[g1]? = some (.cells (repC b (.slice qa b.pend.length capb)).toArray 28)) := fun W hb => ⟨row_kept Q0.out hb, row_kept Q1.out hb⟩
              clear Q0 Q1
              obtain ⟨LA, hLA⟩ : ∃ LA, LA = repC a (.slice pa a.pend.length capa) := ⟨_, rfl⟩
              obtain ⟨LB, hLB⟩ : ∃ LB, LB = repC b (.slice qa b.pend.length capb) := ⟨_, rfl⟩
              rw [← hLA, ← hLB] at HFx
              have HLA := hid hLA
              have HLB := hid hLB
              clear hLA hLB ha hb
              generalize dg a.commit = A_commit at *
              generalize dg b.commit = B_commit at *
              go_wp2_with (first | ((with_reducible refine wl_load 23 (.tmp 25) ?_ g0 3 ?_ ?_ A_commit _ s0_commit.out Tryz.underlying23 ?_ Z0_commit ?_); exact rfl; exact rfl; exact rfl; exact rfl) | ((with_reducible refine wl_load 23 (.tmp 27) ?_ g1 3 ?_ ?_ B_commit _ s1_commit.out Tryz.underlying23 ?_ Z1_commit ?_); exact rfl; exact rfl; exact rfl; exact rfl))
              refine (K_pend.out _ HP.out HQ.out).mono ?_
              rintro e w1 ⟨rfl, hb1⟩
              have HB1 := hid (below_two HB0.out hb1)
              have ha := HA.out
              have hb := HBw.out
              obtain ⟨q0, q1⟩ := HFx.out _ hb1
              rw [HLA.out] at q0
              rw [HLB.out] at q1
              have c0_vnum := rrow_vnum q0 ha
              have c1_vnum := rrow_vnum q1 hb
              clear hb1 ha hb q0 q1 HFx HLA HLB s0_commit s1_commit E_commit Z0_commit Z1_commit c0_number c1_number c0_last c1_last c0_view c1_view c0_P c1_P
              go_wp2
              go_ret
              exact ⟨by rw [HF.out]; rfl, HB1.out⟩
            | true =>
              cases h_value : (a.value == b.value) with
              | false => as_aux_lemma =>
                have HF := hid (sameR_value h_value)
                have d_number : (a.number == b.number) = true := h_number
                have d_last : (a.last == b.last) = true := h_last
                have d_view : a.view = b.view := by simpa using h_view
                have E_commit := fun W => equal_dig W a.commit b.commit ha.commit hb.commit
                rw [h_commit] at E_commit
                have Z0_commit : (Tryz.prog.info? 23).map (·.size) = some (dg a.commit).length := by rw [dg_len, ha.commit]; exact sizeDig
                have Z1_commit : (Tryz.prog.info? 23).map (·.size) = some (dg b.commit).length := by rw [dg_len, hb.commit]; exact sizeDig
                have K_pend := hid (fun (W : World) (h1 : PensAt W (.slice pa a.pend.length capa) a.pend) (h2 : PensAt W (.slice qa b.pend.length capb) b.pend) => eqPens_any ha.pend hb.pend h1 h2 hmx)
                rw [h_pend] at K_pend
                have d_vnum : (a.vnum == b.vnum) = true := h_vnum
                have d_value : ¬ a.value = b.value := by simpa using h_value
                clear h_number h_last h_view h_commit h_pend h_vnum h_value
                have HFx : Hid (∀ W, Below W0.heap.size W0 W → W.heap[g0]? = some (.cells (repC a (.slice pa a.pend.length capa)).toArray 28) ∧ W.heap[g1]? = some (.cells (repC b (.slice qa b.pend.length capb)).toArray 28)) := fun W hb => ⟨row_kept Q0.out hb, row_kept Q1.out hb⟩
                clear Q0 Q1
                obtain ⟨LA, hLA⟩ : ∃ LA, LA = repC a (.slice pa a.pend.length capa) := ⟨_, rfl⟩
                obtain ⟨LB, hLB⟩ : ∃ LB, LB = repC b (.slice qa b.pend.length capb) := ⟨_, rfl⟩
                rw [← hLA, ← hLB] at HFx
                have HLA := hid hLA
                have HLB := hid hLB
                clear hLA hLB ha hb
                generalize dg a.commit = A_commit at *
                generalize dg b.commit = B_commit at *
                go_wp2_with (first | ((with_reducible refine wl_load 23 (.tmp 25) ?_ g0 3 ?_ ?_ A_commit _ s0_commit.out Tryz.underlying23 ?_ Z0_commit ?_); exact rfl; exact rfl; exact rfl; exact rfl) | ((with_reducible refine wl_load 23 (.tmp 27) ?_ g1 3 ?_ ?_ B_commit _ s1_commit.out Tryz.underlying23 ?_ Z1_commit ?_); exact rfl; exact rfl; exact rfl; exact rfl))
                refine (K_pend.out _ HP.out HQ.out).mono ?_
                rintro e w1 ⟨rfl, hb1⟩
                have HB1 := hid (below_two HB0.out hb1)
                have ha := HA.out
                have hb := HBw.out
                obtain ⟨q0, q1⟩ := HFx.out _ hb1
                rw [HLA.out] at q0
                rw [HLB.out] at q1
                have c0_vnum := rrow_vnum q0 ha
                have c0_value := rrow_value q0 ha
                have c1_vnum := rrow_vnum q1 hb
                have c1_value := rrow_value q1 hb
                clear hb1 ha hb q0 q1 HFx HLA HLB s0_commit s1_commit E_commit Z0_commit Z1_commit c0_number c1_number c0_last c1_last c0_view c1_view c0_P c1_P
                go_wp2
                go_ret
                exact ⟨by rw [HF.out]; rfl, HB1.out⟩
              | true =>
                cases h_data : (a.data == b.data) with
                | false => as_aux_lemma =>
                  have HF := hid (sameR_data h_data)
                  have d_number : (a.number == b.number) = true := h_number
                  have d_last : (a.last == b.last) = true := h_last
                  have d_view : a.view = b.view := by simpa using h_view
                  have E_commit := fun W => equal_dig W a.commit b.commit ha.commit hb.commit
                  rw [h_commit] at E_commit
                  have Z0_commit : (Tryz.prog.info? 23).map (·.size) = some (dg a.commit).length := by rw [dg_len, ha.commit]; exact sizeDig
                  have Z1_commit : (Tryz.prog.info? 23).map (·.size) = some (dg b.commit).length := by rw [dg_len, hb.commit]; exact sizeDig
                  have K_pend := hid (fun (W : World) (h1 : PensAt W (.slice pa a.pend.length capa) a.pend) (h2 : PensAt W (.slice qa b.pend.length capb) b.pend) => eqPens_any ha.pend hb.pend h1 h2 hmx)
                  rw [h_pend] at K_pend
                  have d_vnum : (a.vnum == b.vnum) = true := h_vnum
                  have d_value : a.value = b.value := by simpa using h_value
                  have E_data := fun W => equal_dig W a.data b.data ha.data hb.data
                  rw [h_data] at E_data
                  have Z0_data : (Tryz.prog.info? 23).map (·.size) = some (dg a.data).length := by rw [dg_len, ha.data]; exact sizeDig
                  have Z1_data : (Tryz.prog.info? 23).map (·.size) = some (dg b.data).length := by rw [dg_len, hb.data]; exact sizeDig
                  clear h_number h_last h_view h_commit h_pend h_vnum h_value h_data
                  have HFx : Hid (∀ W, Below W0.heap.size W0 W → W.heap[g0]? = some (.cells (repC a (.slice pa a.pend.length capa)).toArray 28) ∧ W.heap[g1]? = some (.cells (repC b (.slice qa b.pend.length capb)).toArray 28)) := fun W hb => ⟨row_kept Q0.out hb, row_kept Q1.out hb⟩
                  clear Q0 Q1
                  obtain ⟨LA, hLA⟩ : ∃ LA, LA = repC a (.slice pa a.pend.length capa) := ⟨_, rfl⟩
                  obtain ⟨LB, hLB⟩ : ∃ LB, LB = repC b (.slice qa b.pend.length capb) := ⟨_, rfl⟩
                  rw [← hLA, ← hLB] at HFx
                  have HLA := hid hLA
                  have HLB := hid hLB
                  clear hLA hLB ha hb
                  generalize dg a.commit = A_commit at *
                  generalize dg b.commit = B_commit at *
                  go_wp2_with (first | ((with_reducible refine wl_load 23 (.tmp 25) ?_ g0 3 ?_ ?_ A_commit _ s0_commit.out Tryz.underlying23 ?_ Z0_commit ?_); exact rfl; exact rfl; exact rfl; exact rfl) | ((with_reducible refine wl_load 23 (.tmp 27) ?_ g1 3 ?_ ?_ B_commit _ s1_commit.out Tryz.underlying23 ?_ Z1_commit ?_); exact rfl; exact rfl; exact rfl; exact rfl))
                  refine (K_pend.out _ HP.out HQ.out).mono ?_
                  rintro e w1 ⟨rfl, hb1⟩
                  have HB1 := hid (below_two HB0.out hb1)
                  have ha := HA.out
                  have hb := HBw.out
                  obtain ⟨q0, q1⟩ := HFx.out _ hb1
                  rw [HLA.out] at q0
                  rw [HLB.out] at q1
                  have c0_vnum := rrow_vnum q0 ha
                  have c0_value := rrow_value q0 ha
                  have s0_data := hid (rrow_data q0 ha)
                  have c1_vnum := rrow_vnum q1 hb
                  have c1_value := rrow_value q1 hb
                  have s1_data := hid (rrow_data q1 hb)
                  clear hb1 ha hb q0 q1 HFx HLA HLB s0_commit s1_commit E_commit Z0_commit Z1_commit c0_number c1_number c0_last c1_last c0_view c1_view c0_P c1_P
                  generalize dg a.data = A_data at *
                  generalize dg b.data = B_data at *
                  go_wp2_with (first | ((with_reducible refine wl_load 23 (.tmp 53) ?_ g0 38 ?_ ?_ A_data _ s0_data.out Tryz.underlying23 ?_ Z0_data ?_); exact rfl; exact rfl; exact rfl; exact rfl) | ((with_reducible refine wl_load 23 (.tmp 55) ?_ g1 38 ?_ ?_ B_data _ s1_data.out Tryz.underlying23 ?_ Z1_data ?_); exact rfl; exact rfl; exact rfl; exact rfl))
                  go_ret
                  exact ⟨by rw [HF.out]; rfl, HB1.out⟩
                | true =>
                  cases h_seen : (a.seen == b.seen) with
                  | false => as_aux_lemma =>
                    have HF := hid (sameR_seen h_seen)
                    have d_number : (a.number == b.number) = true := h_number
                    have d_last : (a.last == b.last) = true := h_last
                    have d_view : a.view = b.view := by simpa using h_view
                    have E_commit := fun W => equal_dig W a.commit b.commit ha.commit hb.commit
                    rw [h_commit] at E_commit
                    have Z0_commit : (Tryz.prog.info? 23).map (·.size) = some (dg a.commit).length := by rw [dg_len, ha.commit]; exact sizeDig
                    have Z1_commit : (Tryz.prog.info? 23).map (·.size) = some (dg b.commit).length := by rw [dg_len, hb.commit]; exact sizeDig
                    have K_pend := hid (fun (W : World) (h1 : PensAt W (.slice pa a.pend.length capa) a.pend) (h2 : PensAt W (.slice qa b.pend.length capb) b.pend) => eqPens_any ha.pend hb.pend h1 h2 hmx)
                    rw [h_pend] at K_pend
                    have d_vnum : (a.vnum == b.vnum) = true := h_vnum
                    have d_value : a.value = b.value := by simpa using h_value
                    have E_data := fun W => equal_dig W a.data b.data ha.data hb.data
                    rw [h_data] at E_data
                    have Z0_data : (Tryz.prog.info? 23).map (·.size) = some (dg a.data).length := by rw [dg_len, ha.data]; exact sizeDig
                    have Z1_data : (Tryz.prog.info? 23).map (·.size) = some (dg b.data).length := by rw [dg_len, hb.data]; exact sizeDig
                    have d_seen : ¬ a.seen = b.seen := by simpa using h_seen
                    clear h_number h_last h_view h_commit h_pend h_vnum h_value h_data h_seen
                    have HFx : Hid (∀ W, Below W0.heap.size W0 W → W.heap[g0]? = some (.cells (repC a (.slice pa a.pend.length capa)).toArray 28) ∧ W.heap[g1]? = some (.cells (repC b (.slice qa b.pend.length capb)).toArray 28)) := fun W hb => ⟨row_kept Q0.out hb, row_kept Q1.out hb⟩
                    clear Q0 Q1
                    obtain ⟨LA, hLA⟩ : ∃ LA, LA = repC a (.slice pa a.pend.length capa) := ⟨_, rfl⟩
                    obtain ⟨LB, hLB⟩ : ∃ LB, LB = repC b (.slice qa b.pend.length capb) := ⟨_, rfl⟩
                    rw [← hLA, ← hLB] at HFx
                    have HLA := hid hLA
                    have HLB := hid hLB
                    clear hLA hLB ha hb
                    generalize dg a.commit = A_commit at *
                    generalize dg b.commit = B_commit at *
                    go_wp2_with (first | ((with_reducible refine wl_load 23 (.tmp 25) ?_ g0 3 ?_ ?_ A_commit _ s0_commit.out Tryz.underlying23 ?_ Z0_commit ?_); exact rfl; exact rfl; exact rfl; exact rfl) | ((with_reducible refine wl_load 23 (.tmp 27) ?_ g1 3 ?_ ?_ B_commit _ s1_commit.out Tryz.underlying23 ?_ Z1_commit ?_); exact rfl; exact rfl; exact rfl; exact rfl))
                    refine (K_pend.out _ HP.out HQ.out).mono ?_
                    rintro e w1 ⟨rfl, hb1⟩
                    have HB1 := hid (below_two HB0.out hb1)
                    have ha := HA.out
                    have hb := HBw.out
                    obtain ⟨q0, q1⟩ := HFx.out _ hb1
                    rw [HLA.out] at q0
                    rw [HLB.out] at q1
                    have c0_vnum := rrow_vnum q0 ha
                    have c0_value := rrow_value q0 ha
                    have s0_data := hid (rrow_data q0 ha)
                    have c0_seen := rrow_seen q0 ha
                    have c1_vnum := rrow_vnum q1 hb
                    have c1_value := rrow_value q1 hb
                    have s1_data := hid (rrow_data q1 hb)
                    have c1_seen := rrow_seen q1 hb
                    clear hb1 ha hb q0 q1 HFx HLA HLB s0_commit s1_commit E_commit Z0_commit Z1_commit c0_number c1_number c0_last c1_last c0_view c1_view c0_P c1_P
                    generalize dg a.data = A_data at *
                    generalize dg b.data = B_data at *
                    go_wp2_with (first | ((with_reducible refine wl_load 23 (.tmp 53) ?_ g0 38 ?_ ?_ A_data _ s0_data.out Tryz.underlying23 ?_ Z0_data ?_); exact rfl; exact rfl; exact rfl; exact rfl) | ((with_reducible refine wl_load 23 (.tmp 55) ?_ g1 38 ?_ ?_ B_data _ s1_data.out Tryz.underlying23 ?_ Z1_data ?_); exact rfl; exact rfl; exact rfl; exact rfl))
                    go_ret
                    exact ⟨by rw [HF.out]; rfl, HB1.out⟩
                  | true =>
                    cases h_stag : (a.stag == b.stag) with
                    | false => as_aux_lemma =>
                      have HF := hid (sameR_stag h_stag)
                      have d_number : (a.number == b.number) = true := h_number
                      have d_last : (a.last == b.last) = true := h_last
                      have d_view : a.view = b.view := by simpa using h_view
                      have E_commit := fun W => equal_dig W a.commit b.commit ha.commit hb.commit
                      rw [h_commit] at E_commit
                      have Z0_commit : (Tryz.prog.info? 23).map (·.size) = some (dg a.commit).length := by rw [dg_len, ha.commit]; exact sizeDig
                      have Z1_commit : (Tryz.prog.info? 23).map (·.size) = some (dg b.commit).length := by rw [dg_len, hb.commit]; exact sizeDig
                      have K_pend := hid (fun (W : World) (h1 : PensAt W (.slice pa a.pend.length capa) a.pend) (h2 : PensAt W (.slice qa b.pend.length capb) b.pend) => eqPens_any ha.pend hb.pend h1 h2 hmx)
                      rw [h_pend] at K_pend
                      have d_vnum : (a.vnum == b.vnum) = true := h_vnum
                      have d_value : a.value = b.value := by simpa using h_value
                      have E_data := fun W => equal_dig W a.data b.data ha.data hb.data
                      rw [h_data] at E_data
                      have Z0_data : (Tryz.prog.info? 23).map (·.size) = some (dg a.data).length := by rw [dg_len, ha.data]; exact sizeDig
                      have Z1_data : (Tryz.prog.info? 23).map (·.size) = some (dg b.data).length := by rw [dg_len, hb.data]; exact sizeDig
                      have d_seen : a.seen = b.seen := by simpa using h_seen
                      have E_stag := fun W => equal_dig W a.stag b.stag ha.stag hb.stag
                      rw [h_stag] at E_stag
                      have Z0_stag : (Tryz.prog.info? 23).map (·.size) = some (dg a.stag).length := by rw [dg_len, ha.stag]; exact sizeDig
                      have Z1_stag : (Tryz.prog.info? 23).map (·.size) = some (dg b.stag).length := by rw [dg_len, hb.stag]; exact sizeDig
                      clear h_number h_last h_view h_commit h_pend h_vnum h_value h_data h_seen h_stag
                      have HFx : Hid (∀ W, Below W0.heap.size W0 W → W.heap[g0]? = some (.cells (repC a (.slice pa a.pend.length capa)).toArray 28) ∧ W.heap[g1]? = some (.cells (repC b (.slice qa b.pend.length capb)).toArray 28)) := fun W hb => ⟨row_kept Q0.out hb, row_kept Q1.out hb⟩
                      clear Q0 Q1
                      obtain ⟨LA, hLA⟩ : ∃ LA, LA = repC a (.slice pa a.pend.length capa) := ⟨_, rfl⟩
                      obtain ⟨LB, hLB⟩ : ∃ LB, LB = repC b (.slice qa b.pend.length capb) := ⟨_, rfl⟩
                      rw [← hLA, ← hLB] at HFx
                      have HLA := hid hLA
                      have HLB := hid hLB
                      clear hLA hLB ha hb
                      generalize dg a.commit = A_commit at *
                      generalize dg b.commit = B_commit at *
                      go_wp2_with (first | ((with_reducible refine wl_load 23 (.tmp 25) ?_ g0 3 ?_ ?_ A_commit _ s0_commit.out Tryz.underlying23 ?_ Z0_commit ?_); exact rfl; exact rfl; exact rfl; exact rfl) | ((with_reducible refine wl_load 23 (.tmp 27) ?_ g1 3 ?_ ?_ B_commit _ s1_commit.out Tryz.underlying23 ?_ Z1_commit ?_); exact rfl; exact rfl; exact rfl; exact rfl))
                      refine (K_pend.out _ HP.out HQ.out).mono ?_
                      rintro e w1 ⟨rfl, hb1⟩
                      have HB1 := hid (below_two HB0.out hb1)
                      have ha := HA.out
                      have hb := HBw.out
                      obtain ⟨q0, q1⟩ := HFx.out _ hb1
                      rw [HLA.out] at q0
                      rw [HLB.out] at q1
                      have c0_vnum := rrow_vnum q0 ha
                      have c0_value := rrow_value q0 ha
                      have s0_data := hid (rrow_data q0 ha)
                      have c0_seen := rrow_seen q0 ha
                      have s0_stag := hid (rrow_stag q0 ha)
                      have c1_vnum := rrow_vnum q1 hb
                      have c1_value := rrow_value q1 hb
                      have s1_data := hid (rrow_data q1 hb)
                      have c1_seen := rrow_seen q1 hb
                      have s1_stag := hid (rrow_stag q1 hb)
                      clear hb1 ha hb q0 q1 HFx HLA HLB s0_commit s1_commit E_commit Z0_commit Z1_commit c0_number c1_number c0_last c1_last c0_view c1_view c0_P c1_P
                      generalize dg a.data = A_data at *
                      generalize dg b.data = B_data at *
                      generalize dg a.stag = A_stag at *
                      generalize dg b.stag = B_stag at *
                      go_wp2_with (first | ((with_reducible refine wl_load 23 (.tmp 53) ?_ g0 38 ?_ ?_ A_data _ s0_data.out Tryz.underlying23 ?_ Z0_data ?_); exact rfl; exact rfl; exact rfl; exact rfl) | ((with_reducible refine wl_load 23 (.tmp 55) ?_ g1 38 ?_ ?_ B_data _ s1_data.out Tryz.underlying23 ?_ Z1_data ?_); exact rfl; exact rfl; exact rfl; exact rfl) | ((with_reducible refine wl_load 23 (.tmp 67) ?_ g0 71 ?_ ?_ A_stag _ s0_stag.out Tryz.underlying23 ?_ Z0_stag ?_); exact rfl; exact rfl; exact rfl; exact rfl) | ((with_reducible refine wl_load 23 (.tmp 69) ?_ g1 71 ?_ ?_ B_stag _ s1_stag.out Tryz.underlying23 ?_ Z1_stag ?_); exact rfl; exact rfl; exact rfl; exact rfl))
                      go_ret
                      exact ⟨by rw [HF.out]; rfl, HB1.out⟩
                    | true =>
                      as_aux_lemma =>
                      have HF := hid (sameR_every h_number h_last h_view h_commit h_pend h_vnum h_value h_data h_seen h_stag)
                      have d_number : (a.number == b.number) = true := h_number
                      have d_last : (a.last == b.last) = true := h_last
                      have d_view : a.view = b.view := by simpa using h_view
                      have E_commit := fun W => equal_dig W a.commit b.commit ha.commit hb.commit
                      rw [h_commit] at E_commit
                      have Z0_commit : (Tryz.prog.info? 23).map (·.size) = some (dg a.commit).length := by rw [dg_len, ha.commit]; exact sizeDig
                      have Z1_commit : (Tryz.prog.info? 23).map (·.size) = some (dg b.commit).length := by rw [dg_len, hb.commit]; exact sizeDig
                      have K_pend := hid (fun (W : World) (h1 : PensAt W (.slice pa a.pend.length capa) a.pend) (h2 : PensAt W (.slice qa b.pend.length capb) b.pend) => eqPens_any ha.pend hb.pend h1 h2 hmx)
                      rw [h_pend] at K_pend
                      have d_vnum : (a.vnum == b.vnum) = true := h_vnum
                      have d_value : a.value = b.value := by simpa using h_value
                      have E_data := fun W => equal_dig W a.data b.data ha.data hb.data
                      rw [h_data] at E_data
                      have Z0_data : (Tryz.prog.info? 23).map (·.size) = some (dg a.data).length := by rw [dg_len, ha.data]; exact sizeDig
                      have Z1_data : (Tryz.prog.info? 23).map (·.size) = some (dg b.data).length := by rw [dg_len, hb.data]; exact sizeDig
                      have d_seen : a.seen = b.seen := by simpa using h_seen
                      have E_stag := fun W => equal_dig W a.stag b.stag ha.stag hb.stag
                      rw [h_stag] at E_stag
                      have Z0_stag : (Tryz.prog.info? 23).map (·.size) = some (dg a.stag).length := by rw [dg_len, ha.stag]; exact sizeDig
                      have Z1_stag : (Tryz.prog.info? 23).map (·.size) = some (dg b.stag).length := by rw [dg_len, hb.stag]; exact sizeDig
                      clear h_number h_last h_view h_commit h_pend h_vnum h_value h_data h_seen h_stag
                      have HFx : Hid (∀ W, Below W0.heap.size W0 W → W.heap[g0]? = some (.cells (repC a (.slice pa a.pend.length capa)).toArray 28) ∧ W.heap[g1]? = some (.cells (repC b (.slice qa b.pend.length capb)).toArray 28)) := fun W hb => ⟨row_kept Q0.out hb, row_kept Q1.out hb⟩
                      clear Q0 Q1
                      obtain ⟨LA, hLA⟩ : ∃ LA, LA = repC a (.slice pa a.pend.length capa) := ⟨_, rfl⟩
                      obtain ⟨LB, hLB⟩ : ∃ LB, LB = repC b (.slice qa b.pend.length capb) := ⟨_, rfl⟩
                      rw [← hLA, ← hLB] at HFx
                      have HLA := hid hLA
                      have HLB := hid hLB
                      clear hLA hLB ha hb
                      generalize dg a.commit = A_commit at *
                      generalize dg b.commit = B_commit at *
                      go_wp2_with (first | ((with_reducible refine wl_load 23 (.tmp 25) ?_ g0 3 ?_ ?_ A_commit _ s0_commit.out Tryz.underlying23 ?_ Z0_commit ?_); exact rfl; exact rfl; exact rfl; exact rfl) | ((with_reducible refine wl_load 23 (.tmp 27) ?_ g1 3 ?_ ?_ B_commit _ s1_commit.out Tryz.underlying23 ?_ Z1_commit ?_); exact rfl; exact rfl; exact rfl; exact rfl))
                      refine (K_pend.out _ HP.out HQ.out).mono ?_
                      rintro e w1 ⟨rfl, hb1⟩
                      have HB1 := hid (below_two HB0.out hb1)
                      have ha := HA.out
                      have hb := HBw.out
                      obtain ⟨q0, q1⟩ := HFx.out _ hb1
                      rw [HLA.out] at q0
                      rw [HLB.out] at q1
                      have c0_vnum := rrow_vnum q0 ha
                      have c0_value := rrow_value q0 ha
                      have s0_data := hid (rrow_data q0 ha)
                      have c0_seen := rrow_seen q0 ha
                      have s0_stag := hid (rrow_stag q0 ha)
                      have c1_vnum := rrow_vnum q1 hb
                      have c1_value := rrow_value q1 hb
                      have s1_data := hid (rrow_data q1 hb)
                      have c1_seen := rrow_seen q1 hb
                      have s1_stag := hid (rrow_stag q1 hb)
                      clear hb1 ha hb q0 q1 HFx HLA HLB s0_commit s1_commit E_commit Z0_commit Z1_commit c0_number c1_number c0_last c1_last c0_view c1_view c0_P c1_P
                      generalize dg a.data = A_data at *
                      generalize dg b.data = B_data at *
                      generalize dg a.stag = A_stag at *
                      generalize dg b.stag = B_stag at *
                      go_wp2_with (first | ((with_reducible refine wl_load 23 (.tmp 53) ?_ g0 38 ?_ ?_ A_data _ s0_data.out Tryz.underlying23 ?_ Z0_data ?_); exact rfl; exact rfl; exact rfl; exact rfl) | ((with_reducible refine wl_load 23 (.tmp 55) ?_ g1 38 ?_ ?_ B_data _ s1_data.out Tryz.underlying23 ?_ Z1_data ?_); exact rfl; exact rfl; exact rfl; exact rfl) | ((with_reducible refine wl_load 23 (.tmp 67) ?_ g0 71 ?_ ?_ A_stag _ s0_stag.out Tryz.underlying23 ?_ Z0_stag ?_); exact rfl; exact rfl; exact rfl; exact rfl) | ((with_reducible refine wl_load 23 (.tmp 69) ?_ g1 71 ?_ ?_ B_stag _ s1_stag.out Tryz.underlying23 ?_ Z1_stag ?_); exact rfl; exact rfl; exact rfl; exact rfl))
                      go_ret
                      exact ⟨by rw [HF.out]; rfl, HB1.out⟩
end Go.Proofs.YtidlgecognedlaaGreatDoor.Ms

/-
  What msg.Same answers of two messages: whether they are the same.
-/
namespace Go.Proofs.YtidlgecognedlaaGreatDoor.Ms
open Go Go.RowKit
set_option maxRecDepth 100000

set_option maxHeartbeats 8000000 in
theorem msame_any {w : World} {a b : Msg} {vP vQ vN vM : Value} (ha : a.Wf) (hb : b.Wf) (hp : PensAt w vP a.rep.pend) (hq : PensAt w vQ b.rep.pend) (hn : IntsAt w vN a.nums) (hm : IntsAt w vM b.nums) (hmx : a.rep.pend.length ≤ 9223372036854775807) (hnx : a.nums.length ≤ 9223372036854775807) :
    Calls Tryz.prog 52 #[.agg (msgC a vP vN).toArray, .agg (msgC b vQ vM).toArray] w fun e w' => e = .returned (.bool (sameM a b)) ∧ Below w.heap.size w w' := by
  have HB0 : Hid (Below w.heap.size w ((w.alloc (.cells (msgC a vP vN).toArray 33)).alloc (.cells (msgC b vQ vM).toArray 33))) := (below_a1 w _).alloc (by simp) _
  have R0 : Hid (((w.alloc (.cells (msgC a vP vN).toArray 33)).alloc (.cells (msgC b vQ vM).toArray 33)).heap[w.heap.size]? = some (.cells (msgC a vP vN).toArray 33)) := heap_alloc2_old w _ _
  have R1 : Hid (((w.alloc (.cells (msgC a vP vN).toArray 33)).alloc (.cells (msgC b vQ vM).toArray 33)).heap[w.heap.size + 1]? = some (.cells (msgC b vQ vM).toArray 33)) := heap_alloc2_new w _ _
  have HP := hid (hp.kept HB0.out)
  have HQ := hid (hq.kept HB0.out)
  have HN := hid (hn.kept HB0.out)
  have HM := hid (hm.kept HB0.out)
  obtain ⟨pa, capa, hpa, -⟩ := hp
  obtain ⟨qa, capb, hqa, -⟩ := hq
  subst hpa
  subst hqa
  clear hn hm
  obtain ⟨RA, hRA⟩ : ∃ RA, RA = (msgC a (.slice pa a.rep.pend.length capa) vN).toArray := ⟨_, rfl⟩
  obtain ⟨RB, hRB⟩ : ∃ RB, RB = (msgC b (.slice qa b.rep.pend.length capb) vM).toArray := ⟨_, rfl⟩
  rw [← hRA] at HB0 R0 R1 HP HQ HN HM ⊢
  rw [← hRB] at HB0 R0 R1 HP HQ HN HM ⊢
  have HRA := hid hRA
  have HRB := hid hRB
  clear hRA hRB
  go_enter Tryz.func52, Tryz.ntmps52
  go_upto_region 1 with fail
  simp only [List.append_eq, List.cons_append, List.nil_append]
  generalize (w.alloc (.cells RA 33)).alloc (.cells RB 33) = W0 at *
  have r0 := R0.out
  have r1 := R1.out
  rw [HRA.out] at r0
  rw [HRB.out] at r1
  obtain ⟨g0, hg0⟩ : ∃ g0, g0 = w.heap.size := ⟨_, rfl⟩
  obtain ⟨g1, hg1⟩ : ∃ g1, g1 = w.heap.size + 1 := ⟨_, rfl⟩
  rw [← hg1] at r1 ⊢
  rw [← hg0] at r0 ⊢
  have Q0 := hid r0
  have Q1 := hid r1
  have HA := hid ha
  have HBw := hid hb
  clear R0 R1 HRA HRB hg0 hg1
  have c0_kind := mrow_kind r0 ha
  have c0_client := mrow_client r0 ha
  have s0_sub := hid (mrow_sub r0 ha)
  have s0_rep := hid (mrow_rep r0 ha)
  have c1_kind := mrow_kind r1 hb
  have c1_client := mrow_client r1 hb
  have s1_sub := hid (mrow_sub r1 hb)
  have s1_rep := hid (mrow_rep r1 hb)
  clear r0 r1
  cases h_kind : (a.kind == b.kind) with
  | false => as_aux_lemma =>
    have HF := hid (sameM_kind h_kind)
    have d_kind : (a.kind == b.kind) = false := h_kind
    clear h_kind
    clear ha hb
    go_wp2
    go_ret
    exact ⟨by rw [HF.out]; rfl, HB0.out⟩
  | true =>
    cases h_client : (a.client == b.client) with
    | false => as_aux_lemma =>
      have HF := hid (sameM_client h_client)
      have d_kind : (a.kind == b.kind) = true := h_kind
      have d_client : (a.client == b.client) = false := h_client
      clear h_kind h_client
      clear ha hb
      go_wp2
      go_ret
      exact ⟨by rw [HF.out]; rfl, HB0.out⟩
    | true =>
      cases h_sub : sameS a.sub b.sub with
      | false => as_aux_lemma =>
        have HF := hid (sameM_sub h_sub)
        have d_kind : (a.kind == b.kind) = true := h_kind
        have d_client : (a.client == b.client) = true := h_client
        have E_sub := fun W => equal_sub W a.sub b.sub ha.sub hb.sub
        rw [h_sub] at E_sub
        have Z0_sub : (Tryz.prog.info? 25).map (·.size) = some (subC a.sub).length := by rw [subC_len ha.sub]; exact sizeSub
        have Z1_sub : (Tryz.prog.info? 25).map (·.size) = some (subC b.sub).length := by rw [subC_len hb.sub]; exact sizeSub
        clear h_kind h_client h_sub
        clear ha hb
        generalize subC a.sub = A_sub at *
        generalize subC b.sub = B_sub at *
        go_wp2_with (first | ((with_reducible refine wl_load 25 (.tmp 18) ?_ g0 2 ?_ ?_ A_sub _ s0_sub.out Tryz.underlying25 ?_ Z0_sub ?_); exact rfl; exact rfl; exact rfl; exact rfl) | ((with_reducible refine wl_load 25 (.tmp 20) ?_ g1 2 ?_ ?_ B_sub _ s1_sub.out Tryz.underlying25 ?_ Z1_sub ?_); exact rfl; exact rfl; exact rfl; exact rfl))
        go_ret
        exact ⟨by rw [HF.out]; rfl, HB0.out⟩
      | true =>
        cases h_rep : sameR a.rep b.rep with
        | false => as_aux_lemma =>
          have HF := hid (sameM_rep h_rep)
          have d_kind : (a.kind == b.kind) = true := h_kind
          have d_client : (a.client == b.client) = true := h_client
          have E_sub := fun W => equal_sub W a.sub b.sub ha.sub hb.sub
          rw [h_sub] at E_sub
          have Z0_sub : (Tryz.prog.info? 25).map (·.size) = some (subC a.sub).length := by rw [subC_len ha.sub]; exact sizeSub
          have Z1_sub : (Tryz.prog.info? 25).map (·.size) = some (subC b.sub).length := by rw [subC_len hb.sub]; exact sizeSub
          have K_rep := hid (fun (W : World) (h1 : PensAt W (.slice pa a.rep.pend.length capa) a.rep.pend) (h2 : PensAt W (.slice qa b.rep.pend.length capb) b.rep.pend) => msamereply_any ha.rep hb.rep h1 h2 hmx)
          rw [h_rep] at K_rep
          have Z0_rep : (Tryz.prog.info? 28).map (·.size) = some (repC a.rep (.slice pa a.rep.pend.length capa)).length := by rw [repC_len ha.rep _]; exact sizeRep
          have Z1_rep : (Tryz.prog.info? 28).map (·.size) = some (repC b.rep (.slice qa b.rep.pend.length capb)).length := by rw [repC_len hb.rep _]; exact sizeRep
          clear h_kind h_client h_sub h_rep
          clear ha hb
          generalize subC a.sub = A_sub at *
          generalize subC b.sub = B_sub at *
          generalize repC a.rep (.slice pa a.rep.pend.length capa) = A_rep at *
          generalize repC b.rep (.slice qa b.rep.pend.length capb) = B_rep at *
          go_wp2_with (first | ((with_reducible refine wl_load 25 (.tmp 18) ?_ g0 2 ?_ ?_ A_sub _ s0_sub.out Tryz.underlying25 ?_ Z0_sub ?_); exact rfl; exact rfl; exact rfl; exact rfl) | ((with_reducible refine wl_load 25 (.tmp 20) ?_ g1 2 ?_ ?_ B_sub _ s1_sub.out Tryz.underlying25 ?_ Z1_sub ?_); exact rfl; exact rfl; exact rfl; exact rfl) | ((with_reducible refine wl_load 28 (.tmp 25) ?_ g0 70 ?_ ?_ A_rep _ s0_rep.out Tryz.underlying28 ?_ Z0_rep ?_); exact rfl; exact rfl; exact rfl; exact rfl) | ((with_reducible refine wl_load 28 (.tmp 27) ?_ g1 70 ?_ ?_ B_rep _ s1_rep.out Tryz.underlying28 ?_ Z1_rep ?_); exact rfl; exact rfl; exact rfl; exact rfl))
          refine (K_rep.out _ HP.out HQ.out).mono ?_
          rintro e w1 ⟨rfl, hb1⟩
          have HB1 := hid (below_two HB0.out hb1)
          clear hb1
          go_wp2
          go_ret
          exact ⟨by rw [HF.out]; rfl, HB1.out⟩
        | true =>
          cases h_view : (a.view == b.view) with
          | false => as_aux_lemma =>
            have HF := hid (sameM_view h_view)
            have d_kind : (a.kind == b.kind) = true := h_kind
            have d_client : (a.client == b.client) = true := h_client
            have E_sub := fun W => equal_sub W a.sub b.sub ha.sub hb.sub
            rw [h_sub] at E_sub
            have Z0_sub : (Tryz.prog.info? 25).map (·.size) = some (subC a.sub).length := by rw [subC_len ha.sub]; exact sizeSub
            have Z1_sub : (Tryz.prog.info? 25).map (·.size) = some (subC b.sub).length := by rw [subC_len hb.sub]; exact sizeSub
            have K_rep := hid (fun (W : World) (h1 : PensAt W (.slice pa a.rep.pend.length capa) a.rep.pend) (h2 : PensAt W (.slice qa b.rep.pend.length capb) b.rep.pend) => msamereply_any ha.rep hb.rep h1 h2 hmx)
            rw [h_rep] at K_rep
            have Z0_rep : (Tryz.prog.info? 28).map (·.size) = some (repC a.rep (.slice pa a.rep.pend.length capa)).length := by rw [repC_len ha.rep _]; exact sizeRep
            have Z1_rep : (Tryz.prog.info? 28).map (·.size) = some (repC b.rep (.slice qa b.rep.pend.length capb)).length := by rw [repC_len hb.rep _]; exact sizeRep
            have d_view : ¬ a.view = b.view := by simpa using h_view
            clear h_kind h_client h_sub h_rep h_view
            have HFx : Hid (∀ W, Below W0.heap.size W0 W → W.heap[g0]? = some (.cells (msgC a (.slice pa a.rep.pend.length capa) vN).toArray 33) ∧ W.heap[g1]? = some (.cells (msgC b (.slice qa b.rep.pend.length capb) vM).toArray 33)) := fun W hb => ⟨row_kept Q0.out hb, row_kept Q1.out hb⟩
            clear Q0 Q1
            obtain ⟨LA, hLA⟩ : ∃ LA, LA = msgC a (.slice pa a.rep.pend.length capa) vN := ⟨_, rfl⟩
            obtain ⟨LB, hLB⟩ : ∃ LB, LB = msgC b (.slice qa b.rep.pend.length capb) vM := ⟨_, rfl⟩
            rw [← hLA, ← hLB] at HFx
            have HLA := hid hLA
            have HLB := hid hLB
            clear hLA hLB ha hb
            generalize subC a.sub = A_sub at *
            generalize subC b.sub = B_sub at *
            generalize repC a.rep (.slice pa a.rep.pend.length capa) = A_rep at *
            generalize repC b.rep (.slice qa b.rep.pend.length capb) = B_rep at *
            go_wp2_with (first | ((with_reducible refine wl_load 25 (.tmp 18) ?_ g0 2 ?_ ?_ A_sub _ s0_sub.out Tryz.underlying25 ?_ Z0_sub ?_); exact rfl; exact rfl; exact rfl; exact rfl) | ((with_reducible refine wl_load 25 (.tmp 20) ?_ g1 2 ?_ ?_ B_sub _ s1_sub.out Tryz.underlying25 ?_ Z1_sub ?_); exact rfl; exact rfl; exact rfl; exact rfl) | ((with_reducible refine wl_load 28 (.tmp 25) ?_ g0 70 ?_ ?_ A_rep _ s0_rep.out Tryz.underlying28 ?_ Z0_rep ?_); exact rfl; exact rfl; exact rfl; exact rfl) | ((with_reducible refine wl_load 28 (.tmp 27) ?_ g1 70 ?_ ?_ B_rep _ s1_rep.out Tryz.underlying28 ?_ Z1_rep ?_); exact rfl; exact rfl; exact rfl; exact rfl))
            refine (K_rep.out _ HP.out HQ.out).mono ?_
            rintro e w1 ⟨rfl, hb1⟩
            have HB1 := hid (below_two HB0.out hb1)
            have ha := HA.out
            have hb := HBw.out
            obtain ⟨q0, q1⟩ := HFx.out _ hb1
            rw [HLA.out] at q0
            rw [HLB.out] at q1
            have HN1 := hid (HN.out.kept hb1)
            have HM1 := hid (HM.out.kept hb1)
            have c0_view := mrow_view q0 ha
            have c1_view := mrow_view q1 hb
            clear hb1 ha hb q0 q1 HFx HLA HLB s0_sub s1_sub s0_rep s1_rep E_sub Z0_sub Z1_sub Z0_rep Z1_rep c0_kind c1_kind c0_client c1_client
            go_wp2
            go_ret
            exact ⟨by rw [HF.out]; rfl, HB1.out⟩
          | true =>
            cases h_who : (a.who == b.who) with
            | false => as_aux_lemma =>
              have HF := hid (sameM_who h_who)
              have d_kind : (a.kind == b.kind) = true := h_kind
              have d_client : (a.client == b.client) = true := h_client
              have E_sub := fun W => equal_sub W a.sub b.sub ha.sub hb.sub
              rw [h_sub] at E_sub
              have Z0_sub : (Tryz.prog.info? 25).map (·.size) = some (subC a.sub).length := by rw [subC_len ha.sub]; exact sizeSub
              have Z1_sub : (Tryz.prog.info? 25).map (·.size) = some (subC b.sub).length := by rw [subC_len hb.sub]; exact sizeSub
              have K_rep := hid (fun (W : World) (h1 : PensAt W (.slice pa a.rep.pend.length capa) a.rep.pend) (h2 : PensAt W (.slice qa b.rep.pend.length capb) b.rep.pend) => msamereply_any ha.rep hb.rep h1 h2 hmx)
              rw [h_rep] at K_rep
              have Z0_rep : (Tryz.prog.info? 28).map (·.size) = some (repC a.rep (.slice pa a.rep.pend.length capa)).length := by rw [repC_len ha.rep _]; exact sizeRep
              have Z1_rep : (Tryz.prog.info? 28).map (·.size) = some (repC b.rep (.slice qa b.rep.pend.length capb)).length := by rw [repC_len hb.rep _]; exact sizeRep
              have d_view : a.view = b.view := by simpa using h_view
              have d_who : (a.who == b.who) = false := h_who
              clear h_kind h_client h_sub h_rep h_view h_who
              have HFx : Hid (∀ W, Below W0.heap.size W0 W → W.heap[g0]? = some (.cells (msgC a (.slice pa a.rep.pend.length capa) vN).toArray 33) ∧ W.heap[g1]? = some (.cells (msgC b (.slice qa b.rep.pend.length capb) vM).toArray 33)) := fun W hb => ⟨row_kept Q0.out hb, row_kept Q1.out hb⟩
              clear Q0 Q1
              obtain ⟨LA, hLA⟩ : ∃ LA, LA = msgC a (.slice pa a.rep.pend.length capa) vN := ⟨_, rfl⟩
              obtain ⟨LB, hLB⟩ : ∃ LB, LB = msgC b (.slice qa b.rep.pend.length capb) vM := ⟨_, rfl⟩
              rw [← hLA, ← hLB] at HFx
              have HLA := hid hLA
              have HLB := hid hLB
              clear hLA hLB ha hb
              generalize subC a.sub = A_sub at *
              generalize subC b.sub = B_sub at *
              generalize repC a.rep (.slice pa a.rep.pend.length capa) = A_rep at *
              generalize repC b.rep (.slice qa b.rep.pend.length capb) = B_rep at *
              go_wp2_with (first | ((with_reducible refine wl_load 25 (.tmp 18) ?_ g0 2 ?_ ?_ A_sub _ s0_sub.out Tryz.underlying25 ?_ Z0_sub ?_); exact rfl; exact rfl; exact rfl; exact rfl) | ((with_reducible refine wl_load 25 (.tmp 20) ?_ g1 2 ?_ ?_ B_sub _ s1_sub.out Tryz.underlying25 ?_ Z1_sub ?_); exact rfl; exact rfl; exact rfl; exact rfl) | ((with_reducible refine wl_load 28 (.tmp 25) ?_ g0 70 ?_ ?_ A_rep _ s0_rep.out Tryz.underlying28 ?_ Z0_rep ?_); exact rfl; exact rfl; exact rfl; exact rfl) | ((with_reducible refine wl_load 28 (.tmp 27) ?_ g1 70 ?_ ?_ B_rep _ s1_rep.out Tryz.underlying28 ?_ Z1_rep ?_); exact rfl; exact rfl; exact rfl; exact rfl))
              refine (K_rep.out _ HP.out HQ.out).mono ?_
              rintro e w1 ⟨rfl, hb1⟩
              have HB1 := hid (below_two HB0.out hb1)
              have ha := HA.out
              have hb := HBw.out
              obtain ⟨q0, q1⟩ := HFx.out _ hb1
              rw [HLA.out] at q0
              rw [HLB.out] at q1
              have HN1 := hid (HN.out.kept hb1)
              have HM1 := hid (HM.out.kept hb1)
              have c0_view := mrow_view q0 ha
              have c0_who := mrow_who q0 ha
              have c1_view := mrow_view q1 hb
              have c1_who := mrow_who q1 hb
              clear hb1 ha hb q0 q1 HFx HLA HLB s0_sub s1_sub s0_rep s1_rep E_sub Z0_sub Z1_sub Z0_rep Z1_rep c0_kind c1_kind c0_client c1_client
              go_wp2
              go_ret
              exact ⟨by rw [HF.out]; rfl, HB1.out⟩
            | true =>
              cases h_tag : (a.tag == b.tag) with
              | false => as_aux_lemma =>
                have HF := hid (sameM_tag h_tag)
                have d_kind : (a.kind == b.kind) = true := h_kind
                have d_client : (a.client == b.client) = true := h_client
                have E_sub := fun W => equal_sub W a.sub b.sub ha.sub hb.sub
                rw [h_sub] at E_sub
                have Z0_sub : (Tryz.prog.info? 25).map (·.size) = some (subC a.sub).length := by rw [subC_len ha.sub]; exact sizeSub
                have Z1_sub : (Tryz.prog.info? 25).map (·.size) = some (subC b.sub).length := by rw [subC_len hb.sub]; exact sizeSub
                have K_rep := hid (fun (W : World) (h1 : PensAt W (.slice pa a.rep.pend.length capa) a.rep.pend) (h2 : PensAt W (.slice qa b.rep.pend.length capb) b.rep.pend) => msamereply_any ha.rep hb.rep h1 h2 hmx)
                rw [h_rep] at K_rep
                have Z0_rep : (Tryz.prog.info? 28).map (·.size) = some (repC a.rep (.slice pa a.rep.pend.length capa)).length := by rw [repC_len ha.rep _]; exact sizeRep
                have Z1_rep : (Tryz.prog.info? 28).map (·.size) = some (repC b.rep (.slice qa b.rep.pend.length capb)).length := by rw [repC_len hb.rep _]; exact sizeRep
                have d_view : a.view = b.view := by simpa using h_view
                have d_who : (a.who == b.who) = true := h_who
                have E_tag := fun W => equal_dig W a.tag b.tag ha.tag hb.tag
                rw [h_tag] at E_tag
                have Z0_tag : (Tryz.prog.info? 23).map (·.size) = some (dg a.tag).length := by rw [(by rw [dg_len, ha.tag] : (dg a.tag).length = 32)]; exact sizeDig
                have Z1_tag : (Tryz.prog.info? 23).map (·.size) = some (dg b.tag).length := by rw [(by rw [dg_len, hb.tag] : (dg b.tag).length = 32)]; exact sizeDig
                clear h_kind h_client h_sub h_rep h_view h_who h_tag
                have HFx : Hid (∀ W, Below W0.heap.size W0 W → W.heap[g0]? = some (.cells (msgC a (.slice pa a.rep.pend.length capa) vN).toArray 33) ∧ W.heap[g1]? = some (.cells (msgC b (.slice qa b.rep.pend.length capb) vM).toArray 33)) := fun W hb => ⟨row_kept Q0.out hb, row_kept Q1.out hb⟩
                clear Q0 Q1
                obtain ⟨LA, hLA⟩ : ∃ LA, LA = msgC a (.slice pa a.rep.pend.length capa) vN := ⟨_, rfl⟩
                obtain ⟨LB, hLB⟩ : ∃ LB, LB = msgC b (.slice qa b.rep.pend.length capb) vM := ⟨_, rfl⟩
                rw [← hLA, ← hLB] at HFx
                have HLA := hid hLA
                have HLB := hid hLB
                clear hLA hLB ha hb
                generalize subC a.sub = A_sub at *
                generalize subC b.sub = B_sub at *
                generalize repC a.rep (.slice pa a.rep.pend.length capa) = A_rep at *
                generalize repC b.rep (.slice qa b.rep.pend.length capb) = B_rep at *
                go_wp2_with (first | ((with_reducible refine wl_load 25 (.tmp 18) ?_ g0 2 ?_ ?_ A_sub _ s0_sub.out Tryz.underlying25 ?_ Z0_sub ?_); exact rfl; exact rfl; exact rfl; exact rfl) | ((with_reducible refine wl_load 25 (.tmp 20) ?_ g1 2 ?_ ?_ B_sub _ s1_sub.out Tryz.underlying25 ?_ Z1_sub ?_); exact rfl; exact rfl; exact rfl; exact rfl) | ((with_reducible refine wl_load 28 (.tmp 25) ?_ g0 70 ?_ ?_ A_rep _ s0_rep.out Tryz.underlying28 ?_ Z0_rep ?_); exact rfl; exact rfl; exact rfl; exact rfl) | ((with_reducible refine wl_load 28 (.tmp 27) ?_ g1 70 ?_ ?_ B_rep _ s1_rep.out Tryz.underlying28 ?_ Z1_rep ?_); exact rfl; exact rfl; exact rfl; exact rfl))
                refine (K_rep.out _ HP.out HQ.out).mono ?_
                rintro e w1 ⟨rfl, hb1⟩
                have HB1 := hid (below_two HB0.out hb1)
                have ha := HA.out
                have hb := HBw.out
                obtain ⟨q0, q1⟩ := HFx.out _ hb1
                rw [HLA.out] at q0
                rw [HLB.out] at q1
                have HN1 := hid (HN.out.kept hb1)
                have HM1 := hid (HM.out.kept hb1)
                have c0_view := mrow_view q0 ha
                have c0_who := mrow_who q0 ha
                have s0_tag := hid (mrow_tag q0 ha)
                have c1_view := mrow_view q1 hb
                have c1_who := mrow_who q1 hb
                have s1_tag := hid (mrow_tag q1 hb)
                clear hb1 ha hb q0 q1 HFx HLA HLB s0_sub s1_sub s0_rep s1_rep E_sub Z0_sub Z1_sub Z0_rep Z1_rep c0_kind c1_kind c0_client c1_client
                generalize dg a.tag = A_tag at *
                generalize dg b.tag = B_tag at *
                go_wp2_with (first | ((with_reducible refine wl_load 23 (.tmp 46) ?_ g0 175 ?_ ?_ A_tag _ s0_tag.out Tryz.underlying23 ?_ Z0_tag ?_); exact rfl; exact rfl; exact rfl; exact rfl) | ((with_reducible refine wl_load 23 (.tmp 48) ?_ g1 175 ?_ ?_ B_tag _ s1_tag.out Tryz.underlying23 ?_ Z1_tag ?_); exact rfl; exact rfl; exact rfl; exact rfl))
                go_ret
                exact ⟨by rw [HF.out]; rfl, HB1.out⟩
              | true =>
                cases h_own : (a.own == b.own) with
                | false => as_aux_lemma =>
                  have HF := hid (sameM_own h_own)
                  have d_kind : (a.kind == b.kind) = true := h_kind
                  have d_client : (a.client == b.client) = true := h_client
                  have E_sub := fun W => equal_sub W a.sub b.sub ha.sub hb.sub
                  rw [h_sub] at E_sub
                  have Z0_sub : (Tryz.prog.info? 25).map (·.size) = some (subC a.sub).length := by rw [subC_len ha.sub]; exact sizeSub
                  have Z1_sub : (Tryz.prog.info? 25).map (·.size) = some (subC b.sub).length := by rw [subC_len hb.sub]; exact sizeSub
                  have K_rep := hid (fun (W : World) (h1 : PensAt W (.slice pa a.rep.pend.length capa) a.rep.pend) (h2 : PensAt W (.slice qa b.rep.pend.length capb) b.rep.pend) => msamereply_any ha.rep hb.rep h1 h2 hmx)
                  rw [h_rep] at K_rep
                  have Z0_rep : (Tryz.prog.info? 28).map (·.size) = some (repC a.rep (.slice pa a.rep.pend.length capa)).length := by rw [repC_len ha.rep _]; exact sizeRep
                  have Z1_rep : (Tryz.prog.info? 28).map (·.size) = some (repC b.rep (.slice qa b.rep.pend.length capb)).length := by rw [repC_len hb.rep _]; exact sizeRep
                  have d_view : a.view = b.view := by simpa using h_view
                  have d_who : (a.who == b.who) = true := h_who
                  have E_tag := fun W => equal_dig W a.tag b.tag ha.tag hb.tag
                  rw [h_tag] at E_tag
                  have Z0_tag : (Tryz.prog.info? 23).map (·.size) = some (dg a.tag).length := by rw [(by rw [dg_len, ha.tag] : (dg a.tag).length = 32)]; exact sizeDig
                  have Z1_tag : (Tryz.prog.info? 23).map (·.size) = some (dg b.tag).length := by rw [(by rw [dg_len, hb.tag] : (dg b.tag).length = 32)]; exact sizeDig
                  have E_own := fun W => equal_dig W a.own b.own ha.own hb.own
                  rw [h_own] at E_own
                  have Z0_own : (Tryz.prog.info? 23).map (·.size) = some (dg a.own).length := by rw [(by rw [dg_len, ha.own] : (dg a.own).length = 32)]; exact sizeDig
                  have Z1_own : (Tryz.prog.info? 23).map (·.size) = some (dg b.own).length := by rw [(by rw [dg_len, hb.own] : (dg b.own).length = 32)]; exact sizeDig
                  clear h_kind h_client h_sub h_rep h_view h_who h_tag h_own
                  have HFx : Hid (∀ W, Below W0.heap.size W0 W → W.heap[g0]? = some (.cells (msgC a (.slice pa a.rep.pend.length capa) vN).toArray 33) ∧ W.heap[g1]? = some (.cells (msgC b (.slice qa b.rep.pend.length capb) vM).toArray 33)) := fun W hb => ⟨row_kept Q0.out hb, row_kept Q1.out hb⟩
                  clear Q0 Q1
                  obtain ⟨LA, hLA⟩ : ∃ LA, LA = msgC a (.slice pa a.rep.pend.length capa) vN := ⟨_, rfl⟩
                  obtain ⟨LB, hLB⟩ : ∃ LB, LB = msgC b (.slice qa b.rep.pend.length capb) vM := ⟨_, rfl⟩
                  rw [← hLA, ← hLB] at HFx
                  have HLA := hid hLA
                  have HLB := hid hLB
                  clear hLA hLB ha hb
                  generalize subC a.sub = A_sub at *
                  generalize subC b.sub = B_sub at *
                  generalize repC a.rep (.slice pa a.rep.pend.length capa) = A_rep at *
                  generalize repC b.rep (.slice qa b.rep.pend.length capb) = B_rep at *
                  go_wp2_with (first | ((with_reducible refine wl_load 25 (.tmp 18) ?_ g0 2 ?_ ?_ A_sub _ s0_sub.out Tryz.underlying25 ?_ Z0_sub ?_); exact rfl; exact rfl; exact rfl; exact rfl) | ((with_reducible refine wl_load 25 (.tmp 20) ?_ g1 2 ?_ ?_ B_sub _ s1_sub.out Tryz.underlying25 ?_ Z1_sub ?_); exact rfl; exact rfl; exact rfl; exact rfl) | ((with_reducible refine wl_load 28 (.tmp 25) ?_ g0 70 ?_ ?_ A_rep _ s0_rep.out Tryz.underlying28 ?_ Z0_rep ?_); exact rfl; exact rfl; exact rfl; exact rfl) | ((with_reducible refine wl_load 28 (.tmp 27) ?_ g1 70 ?_ ?_ B_rep _ s1_rep.out Tryz.underlying28 ?_ Z1_rep ?_); exact rfl; exact rfl; exact rfl; exact rfl))
                  refine (K_rep.out _ HP.out HQ.out).mono ?_
                  rintro e w1 ⟨rfl, hb1⟩
                  have HB1 := hid (below_two HB0.out hb1)
                  have ha := HA.out
                  have hb := HBw.out
                  obtain ⟨q0, q1⟩ := HFx.out _ hb1
                  rw [HLA.out] at q0
                  rw [HLB.out] at q1
                  have HN1 := hid (HN.out.kept hb1)
                  have HM1 := hid (HM.out.kept hb1)
                  have c0_view := mrow_view q0 ha
                  have c0_who := mrow_who q0 ha
                  have s0_tag := hid (mrow_tag q0 ha)
                  have s0_own := hid (mrow_own q0 ha)
                  have c1_view := mrow_view q1 hb
                  have c1_who := mrow_who q1 hb
                  have s1_tag := hid (mrow_tag q1 hb)
                  have s1_own := hid (mrow_own q1 hb)
                  clear hb1 ha hb q0 q1 HFx HLA HLB s0_sub s1_sub s0_rep s1_rep E_sub Z0_sub Z1_sub Z0_rep Z1_rep c0_kind c1_kind c0_client c1_client
                  generalize dg a.tag = A_tag at *
                  generalize dg b.tag = B_tag at *
                  generalize dg a.own = A_own at *
                  generalize dg b.own = B_own at *
                  go_wp2_with (first | ((with_reducible refine wl_load 23 (.tmp 46) ?_ g0 175 ?_ ?_ A_tag _ s0_tag.out Tryz.underlying23 ?_ Z0_tag ?_); exact rfl; exact rfl; exact rfl; exact rfl) | ((with_reducible refine wl_load 23 (.tmp 48) ?_ g1 175 ?_ ?_ B_tag _ s1_tag.out Tryz.underlying23 ?_ Z1_tag ?_); exact rfl; exact rfl; exact rfl; exact rfl) | ((with_reducible refine wl_load 23 (.tmp 53) ?_ g0 207 ?_ ?_ A_own _ s0_own.out Tryz.underlying23 ?_ Z0_own ?_); exact rfl; exact rfl; exact rfl; exact rfl) | ((with_reducible refine wl_load 23 (.tmp 55) ?_ g1 207 ?_ ?_ B_own _ s1_own.out Tryz.underlying23 ?_ Z1_own ?_); exact rfl; exact rfl; exact rfl; exact rfl))
                  go_ret
                  exact ⟨by rw [HF.out]; rfl, HB1.out⟩
                | true =>
                  cases h_blob : sameB a.blob b.blob with
                  | false => as_aux_lemma =>
                    have HF := hid (sameM_blob h_blob)
                    have d_kind : (a.kind == b.kind) = true := h_kind
                    have d_client : (a.client == b.client) = true := h_client
                    have E_sub := fun W => equal_sub W a.sub b.sub ha.sub hb.sub
                    rw [h_sub] at E_sub
                    have Z0_sub : (Tryz.prog.info? 25).map (·.size) = some (subC a.sub).length := by rw [subC_len ha.sub]; exact sizeSub
                    have Z1_sub : (Tryz.prog.info? 25).map (·.size) = some (subC b.sub).length := by rw [subC_len hb.sub]; exact sizeSub
                    have K_rep := hid (fun (W : World) (h1 : PensAt W (.slice pa a.rep.pend.length capa) a.rep.pend) (h2 : PensAt W (.slice qa b.rep.pend.length capb) b.rep.pend) => msamereply_any ha.rep hb.rep h1 h2 hmx)
                    rw [h_rep] at K_rep
                    have Z0_rep : (Tryz.prog.info? 28).map (·.size) = some (repC a.rep (.slice pa a.rep.pend.length capa)).length := by rw [repC_len ha.rep _]; exact sizeRep
                    have Z1_rep : (Tryz.prog.info? 28).map (·.size) = some (repC b.rep (.slice qa b.rep.pend.length capb)).length := by rw [repC_len hb.rep _]; exact sizeRep
                    have d_view : a.view = b.view := by simpa using h_view
                    have d_who : (a.who == b.who) = true := h_who
                    have E_tag := fun W => equal_dig W a.tag b.tag ha.tag hb.tag
                    rw [h_tag] at E_tag
                    have Z0_tag : (Tryz.prog.info? 23).map (·.size) = some (dg a.tag).length := by rw [(by rw [dg_len, ha.tag] : (dg a.tag).length = 32)]; exact sizeDig
                    have Z1_tag : (Tryz.prog.info? 23).map (·.size) = some (dg b.tag).length := by rw [(by rw [dg_len, hb.tag] : (dg b.tag).length = 32)]; exact sizeDig
                    have E_own := fun W => equal_dig W a.own b.own ha.own hb.own
                    rw [h_own] at E_own
                    have Z0_own : (Tryz.prog.info? 23).map (·.size) = some (dg a.own).length := by rw [(by rw [dg_len, ha.own] : (dg a.own).length = 32)]; exact sizeDig
                    have Z1_own : (Tryz.prog.info? 23).map (·.size) = some (dg b.own).length := by rw [(by rw [dg_len, hb.own] : (dg b.own).length = 32)]; exact sizeDig
                    have E_blob := fun W => equal_blo W a.blob b.blob ha.blob hb.blob
                    rw [h_blob] at E_blob
                    have Z0_blob : (Tryz.prog.info? 30).map (·.size) = some (bloC a.blob).length := by rw [bloC_len ha.blob]; exact sizeBlo
                    have Z1_blob : (Tryz.prog.info? 30).map (·.size) = some (bloC b.blob).length := by rw [bloC_len hb.blob]; exact sizeBlo
                    clear h_kind h_client h_sub h_rep h_view h_who h_tag h_own h_blob
                    have HFx : Hid (∀ W, Below W0.heap.size W0 W → W.heap[g0]? = some (.cells (msgC a (.slice pa a.rep.pend.length capa) vN).toArray 33) ∧ W.heap[g1]? = some (.cells (msgC b (.slice qa b.rep.pend.length capb) vM).toArray 33)) := fun W hb => ⟨row_kept Q0.out hb, row_kept Q1.out hb⟩
                    clear Q0 Q1
                    obtain ⟨LA, hLA⟩ : ∃ LA, LA = msgC a (.slice pa a.rep.pend.length capa) vN := ⟨_, rfl⟩
                    obtain ⟨LB, hLB⟩ : ∃ LB, LB = msgC b (.slice qa b.rep.pend.length capb) vM := ⟨_, rfl⟩
                    rw [← hLA, ← hLB] at HFx
                    have HLA := hid hLA
                    have HLB := hid hLB
                    clear hLA hLB ha hb
                    generalize subC a.sub = A_sub at *
                    generalize subC b.sub = B_sub at *
                    generalize repC a.rep (.slice pa a.rep.pend.length capa) = A_rep at *
                    generalize repC b.rep (.slice qa b.rep.pend.length capb) = B_rep at *
                    go_wp2_with (first | ((with_reducible refine wl_load 25 (.tmp 18) ?_ g0 2 ?_ ?_ A_sub _ s0_sub.out Tryz.underlying25 ?_ Z0_sub ?_); exact rfl; exact rfl; exact rfl; exact rfl) | ((with_reducible refine wl_load 25 (.tmp 20) ?_ g1 2 ?_ ?_ B_sub _ s1_sub.out Tryz.underlying25 ?_ Z1_sub ?_); exact rfl; exact rfl; exact rfl; exact rfl) | ((with_reducible refine wl_load 28 (.tmp 25) ?_ g0 70 ?_ ?_ A_rep _ s0_rep.out Tryz.underlying28 ?_ Z0_rep ?_); exact rfl; exact rfl; exact rfl; exact rfl) | ((with_reducible refine wl_load 28 (.tmp 27) ?_ g1 70 ?_ ?_ B_rep _ s1_rep.out Tryz.underlying28 ?_ Z1_rep ?_); exact rfl; exact rfl; exact rfl; exact rfl))
                    refine (K_rep.out _ HP.out HQ.out).mono ?_
                    rintro e w1 ⟨rfl, hb1⟩
                    have HB1 := hid (below_two HB0.out hb1)
                    have ha := HA.out
                    have hb := HBw.out
                    obtain ⟨q0, q1⟩ := HFx.out _ hb1
                    rw [HLA.out] at q0
                    rw [HLB.out] at q1
                    have HN1 := hid (HN.out.kept hb1)
                    have HM1 := hid (HM.out.kept hb1)
                    have c0_view := mrow_view q0 ha
                    have c0_who := mrow_who q0 ha
                    have s0_tag := hid (mrow_tag q0 ha)
                    have s0_own := hid (mrow_own q0 ha)
                    have s0_blob := hid (mrow_blob q0 ha)
                    have c1_view := mrow_view q1 hb
                    have c1_who := mrow_who q1 hb
                    have s1_tag := hid (mrow_tag q1 hb)
                    have s1_own := hid (mrow_own q1 hb)
                    have s1_blob := hid (mrow_blob q1 hb)
                    clear hb1 ha hb q0 q1 HFx HLA HLB s0_sub s1_sub s0_rep s1_rep E_sub Z0_sub Z1_sub Z0_rep Z1_rep c0_kind c1_kind c0_client c1_client
                    generalize dg a.tag = A_tag at *
                    generalize dg b.tag = B_tag at *
                    generalize dg a.own = A_own at *
                    generalize dg b.own = B_own at *
                    generalize bloC a.blob = A_blob at *
                    generalize bloC b.blob = B_blob at *
                    go_wp2_with (first | ((with_reducible refine wl_load 23 (.tmp 46) ?_ g0 175 ?_ ?_ A_tag _ s0_tag.out Tryz.underlying23 ?_ Z0_tag ?_); exact rfl; exact rfl; exact rfl; exact rfl) | ((with_reducible refine wl_load 23 (.tmp 48) ?_ g1 175 ?_ ?_ B_tag _ s1_tag.out Tryz.underlying23 ?_ Z1_tag ?_); exact rfl; exact rfl; exact rfl; exact rfl) | ((with_reducible refine wl_load 23 (.tmp 53) ?_ g0 207 ?_ ?_ A_own _ s0_own.out Tryz.underlying23 ?_ Z0_own ?_); exact rfl; exact rfl; exact rfl; exact rfl) | ((with_reducible refine wl_load 23 (.tmp 55) ?_ g1 207 ?_ ?_ B_own _ s1_own.out Tryz.underlying23 ?_ Z1_own ?_); exact rfl; exact rfl; exact rfl; exact rfl) | ((with_reducible refine wl_load 30 (.tmp 60) ?_ g0 239 ?_ ?_ A_blob _ s0_blob.out Tryz.underlying30 ?_ Z0_blob ?_); exact rfl; exact rfl; exact rfl; exact rfl) | ((with_reducible refine wl_load 30 (.tmp 62) ?_ g1 239 ?_ ?_ B_blob _ s1_blob.out Tryz.underlying30 ?_ Z1_blob ?_); exact rfl; exact rfl; exact rfl; exact rfl))
                    go_ret
                    exact ⟨by rw [HF.out]; rfl, HB1.out⟩
                  | true =>
                    cases h_nums : (a.nums == b.nums) with
                    | false => as_aux_lemma =>
                      have HF := hid (sameM_nums h_nums)
                      have d_kind : (a.kind == b.kind) = true := h_kind
                      have d_client : (a.client == b.client) = true := h_client
                      have E_sub := fun W => equal_sub W a.sub b.sub ha.sub hb.sub
                      rw [h_sub] at E_sub
                      have Z0_sub : (Tryz.prog.info? 25).map (·.size) = some (subC a.sub).length := by rw [subC_len ha.sub]; exact sizeSub
                      have Z1_sub : (Tryz.prog.info? 25).map (·.size) = some (subC b.sub).length := by rw [subC_len hb.sub]; exact sizeSub
                      have K_rep := hid (fun (W : World) (h1 : PensAt W (.slice pa a.rep.pend.length capa) a.rep.pend) (h2 : PensAt W (.slice qa b.rep.pend.length capb) b.rep.pend) => msamereply_any ha.rep hb.rep h1 h2 hmx)
                      rw [h_rep] at K_rep
                      have Z0_rep : (Tryz.prog.info? 28).map (·.size) = some (repC a.rep (.slice pa a.rep.pend.length capa)).length := by rw [repC_len ha.rep _]; exact sizeRep
                      have Z1_rep : (Tryz.prog.info? 28).map (·.size) = some (repC b.rep (.slice qa b.rep.pend.length capb)).length := by rw [repC_len hb.rep _]; exact sizeRep
                      have d_view : a.view = b.view := by simpa using h_view
                      have d_who : (a.who == b.who) = true := h_who
                      have E_tag := fun W => equal_dig W a.tag b.tag ha.tag hb.tag
                      rw [h_tag] at E_tag
                      have Z0_tag : (Tryz.prog.info? 23).map (·.size) = some (dg a.tag).length := by rw [(by rw [dg_len, ha.tag] : (dg a.tag).length = 32)]; exact sizeDig
                      have Z1_tag : (Tryz.prog.info? 23).map (·.size) = some (dg b.tag).length := by rw [(by rw [dg_len, hb.tag] : (dg b.tag).length = 32)]; exact sizeDig
                      have E_own := fun W => equal_dig W a.own b.own ha.own hb.own
                      rw [h_own] at E_own
                      have Z0_own : (Tryz.prog.info? 23).map (·.size) = some (dg a.own).length := by rw [(by rw [dg_len, ha.own] : (dg a.own).length = 32)]; exact sizeDig
                      have Z1_own : (Tryz.prog.info? 23).map (·.size) = some (dg b.own).length := by rw [(by rw [dg_len, hb.own] : (dg b.own).length = 32)]; exact sizeDig
                      have E_blob := fun W => equal_blo W a.blob b.blob ha.blob hb.blob
                      rw [h_blob] at E_blob
                      have Z0_blob : (Tryz.prog.info? 30).map (·.size) = some (bloC a.blob).length := by rw [bloC_len ha.blob]; exact sizeBlo
                      have Z1_blob : (Tryz.prog.info? 30).map (·.size) = some (bloC b.blob).length := by rw [bloC_len hb.blob]; exact sizeBlo
                      have K_nums := hid (fun (W : World) (h1 : IntsAt W vN a.nums) (h2 : IntsAt W vM b.nums) => eqInts_any h1 h2 hnx)
                      rw [h_nums] at K_nums
                      clear h_kind h_client h_sub h_rep h_view h_who h_tag h_own h_blob h_nums
                      have HFx : Hid (∀ W, Below W0.heap.size W0 W → W.heap[g0]? = some (.cells (msgC a (.slice pa a.rep.pend.length capa) vN).toArray 33) ∧ W.heap[g1]? = some (.cells (msgC b (.slice qa b.rep.pend.length capb) vM).toArray 33)) := fun W hb => ⟨row_kept Q0.out hb, row_kept Q1.out hb⟩
                      clear Q0 Q1
                      obtain ⟨LA, hLA⟩ : ∃ LA, LA = msgC a (.slice pa a.rep.pend.length capa) vN := ⟨_, rfl⟩
                      obtain ⟨LB, hLB⟩ : ∃ LB, LB = msgC b (.slice qa b.rep.pend.length capb) vM := ⟨_, rfl⟩
                      rw [← hLA, ← hLB] at HFx
                      have HLA := hid hLA
                      have HLB := hid hLB
                      clear hLA hLB ha hb
                      generalize subC a.sub = A_sub at *
                      generalize subC b.sub = B_sub at *
                      generalize repC a.rep (.slice pa a.rep.pend.length capa) = A_rep at *
                      generalize repC b.rep (.slice qa b.rep.pend.length capb) = B_rep at *
                      go_wp2_with (first | ((with_reducible refine wl_load 25 (.tmp 18) ?_ g0 2 ?_ ?_ A_sub _ s0_sub.out Tryz.underlying25 ?_ Z0_sub ?_); exact rfl; exact rfl; exact rfl; exact rfl) | ((with_reducible refine wl_load 25 (.tmp 20) ?_ g1 2 ?_ ?_ B_sub _ s1_sub.out Tryz.underlying25 ?_ Z1_sub ?_); exact rfl; exact rfl; exact rfl; exact rfl) | ((with_reducible refine wl_load 28 (.tmp 25) ?_ g0 70 ?_ ?_ A_rep _ s0_rep.out Tryz.underlying28 ?_ Z0_rep ?_); exact rfl; exact rfl; exact rfl; exact rfl) | ((with_reducible refine wl_load 28 (.tmp 27) ?_ g1 70 ?_ ?_ B_rep _ s1_rep.out Tryz.underlying28 ?_ Z1_rep ?_); exact rfl; exact rfl; exact rfl; exact rfl))
                      refine (K_rep.out _ HP.out HQ.out).mono ?_
                      rintro e w1 ⟨rfl, hb1⟩
                      have HB1 := hid (below_two HB0.out hb1)
                      have ha := HA.out
                      have hb := HBw.out
                      obtain ⟨q0, q1⟩ := HFx.out _ hb1
                      rw [HLA.out] at q0
                      rw [HLB.out] at q1
                      have HN1 := hid (HN.out.kept hb1)
                      have HM1 := hid (HM.out.kept hb1)
                      have c0_view := mrow_view q0 ha
                      have c0_who := mrow_who q0 ha
                      have s0_tag := hid (mrow_tag q0 ha)
                      have s0_own := hid (mrow_own q0 ha)
                      have s0_blob := hid (mrow_blob q0 ha)
                      have c0_nums := mrow_nums q0 ha
                      have c1_view := mrow_view q1 hb
                      have c1_who := mrow_who q1 hb
                      have s1_tag := hid (mrow_tag q1 hb)
                      have s1_own := hid (mrow_own q1 hb)
                      have s1_blob := hid (mrow_blob q1 hb)
                      have c1_nums := mrow_nums q1 hb
                      clear hb1 ha hb q0 q1 HFx HLA HLB s0_sub s1_sub s0_rep s1_rep E_sub Z0_sub Z1_sub Z0_rep Z1_rep c0_kind c1_kind c0_client c1_client
                      generalize dg a.tag = A_tag at *
                      generalize dg b.tag = B_tag at *
                      generalize dg a.own = A_own at *
                      generalize dg b.own = B_own at *
                      generalize bloC a.blob = A_blob at *
                      generalize bloC b.blob = B_blob at *
                      go_wp2_with (first | ((with_reducible refine wl_load 23 (.tmp 46) ?_ g0 175 ?_ ?_ A_tag _ s0_tag.out Tryz.underlying23 ?_ Z0_tag ?_); exact rfl; exact rfl; exact rfl; exact rfl) | ((with_reducible refine wl_load 23 (.tmp 48) ?_ g1 175 ?_ ?_ B_tag _ s1_tag.out Tryz.underlying23 ?_ Z1_tag ?_); exact rfl; exact rfl; exact rfl; exact rfl) | ((with_reducible refine wl_load 23 (.tmp 53) ?_ g0 207 ?_ ?_ A_own _ s0_own.out Tryz.underlying23 ?_ Z0_own ?_); exact rfl; exact rfl; exact rfl; exact rfl) | ((with_reducible refine wl_load 23 (.tmp 55) ?_ g1 207 ?_ ?_ B_own _ s1_own.out Tryz.underlying23 ?_ Z1_own ?_); exact rfl; exact rfl; exact rfl; exact rfl) | ((with_reducible refine wl_load 30 (.tmp 60) ?_ g0 239 ?_ ?_ A_blob _ s0_blob.out Tryz.underlying30 ?_ Z0_blob ?_); exact rfl; exact rfl; exact rfl; exact rfl) | ((with_reducible refine wl_load 30 (.tmp 62) ?_ g1 239 ?_ ?_ B_blob _ s1_blob.out Tryz.underlying30 ?_ Z1_blob ?_); exact rfl; exact rfl; exact rfl; exact rfl))
                      refine (K_nums.out _ HN1.out HM1.out).mono ?_
                      rintro e w2 ⟨rfl, hb2⟩
                      have HB2 := hid (below_two HB1.out hb2)
                      clear hb2
                      go_wp2
                      go_ret
                      exact ⟨by rw [HF.out]; rfl, HB2.out⟩
                    | true =>
                      as_aux_lemma =>
                      have HF := hid (sameM_all h_kind h_client h_sub h_rep h_view h_who h_tag h_own h_blob h_nums)
                      have d_kind : (a.kind == b.kind) = true := h_kind
                      have d_client : (a.client == b.client) = true := h_client
                      have E_sub := fun W => equal_sub W a.sub b.sub ha.sub hb.sub
                      rw [h_sub] at E_sub
                      have Z0_sub : (Tryz.prog.info? 25).map (·.size) = some (subC a.sub).length := by rw [subC_len ha.sub]; exact sizeSub
                      have Z1_sub : (Tryz.prog.info? 25).map (·.size) = some (subC b.sub).length := by rw [subC_len hb.sub]; exact sizeSub
                      have K_rep := hid (fun (W : World) (h1 : PensAt W (.slice pa a.rep.pend.length capa) a.rep.pend) (h2 : PensAt W (.slice qa b.rep.pend.length capb) b.rep.pend) => msamereply_any ha.rep hb.rep h1 h2 hmx)
                      rw [h_rep] at K_rep
                      have Z0_rep : (Tryz.prog.info? 28).map (·.size) = some (repC a.rep (.slice pa a.rep.pend.length capa)).length := by rw [repC_len ha.rep _]; exact sizeRep
                      have Z1_rep : (Tryz.prog.info? 28).map (·.size) = some (repC b.rep (.slice qa b.rep.pend.length capb)).length := by rw [repC_len hb.rep _]; exact sizeRep
                      have d_view : a.view = b.view := by simpa using h_view
                      have d_who : (a.who == b.who) = true := h_who
                      have E_tag := fun W => equal_dig W a.tag b.tag ha.tag hb.tag
                      rw [h_tag] at E_tag
                      have Z0_tag : (Tryz.prog.info? 23).map (·.size) = some (dg a.tag).length := by rw [(by rw [dg_len, ha.tag] : (dg a.tag).length = 32)]; exact sizeDig
                      have Z1_tag : (Tryz.prog.info? 23).map (·.size) = some (dg b.tag).length := by rw [(by rw [dg_len, hb.tag] : (dg b.tag).length = 32)]; exact sizeDig
                      have E_own := fun W => equal_dig W a.own b.own ha.own hb.own
                      rw [h_own] at E_own
                      have Z0_own : (Tryz.prog.info? 23).map (·.size) = some (dg a.own).length := by rw [(by rw [dg_len, ha.own] : (dg a.own).length = 32)]; exact sizeDig
                      have Z1_own : (Tryz.prog.info? 23).map (·.size) = some (dg b.own).length := by rw [(by rw [dg_len, hb.own] : (dg b.own).length = 32)]; exact sizeDig
                      have E_blob := fun W => equal_blo W a.blob b.blob ha.blob hb.blob
                      rw [h_blob] at E_blob
                      have Z0_blob : (Tryz.prog.info? 30).map (·.size) = some (bloC a.blob).length := by rw [bloC_len ha.blob]; exact sizeBlo
                      have Z1_blob : (Tryz.prog.info? 30).map (·.size) = some (bloC b.blob).length := by rw [bloC_len hb.blob]; exact sizeBlo
                      have K_nums := hid (fun (W : World) (h1 : IntsAt W vN a.nums) (h2 : IntsAt W vM b.nums) => eqInts_any h1 h2 hnx)
                      rw [h_nums] at K_nums
                      clear h_kind h_client h_sub h_rep h_view h_who h_tag h_own h_blob h_nums
                      have HFx : Hid (∀ W, Below W0.heap.size W0 W → W.heap[g0]? = some (.cells (msgC a (.slice pa a.rep.pend.length capa) vN).toArray 33) ∧ W.heap[g1]? = some (.cells (msgC b (.slice qa b.rep.pend.length capb) vM).toArray 33)) := fun W hb => ⟨row_kept Q0.out hb, row_kept Q1.out hb⟩
                      clear Q0 Q1
                      obtain ⟨LA, hLA⟩ : ∃ LA, LA = msgC a (.slice pa a.rep.pend.length capa) vN := ⟨_, rfl⟩
                      obtain ⟨LB, hLB⟩ : ∃ LB, LB = msgC b (.slice qa b.rep.pend.length capb) vM := ⟨_, rfl⟩
                      rw [← hLA, ← hLB] at HFx
                      have HLA := hid hLA
                      have HLB := hid hLB
                      clear hLA hLB ha hb
                      generalize subC a.sub = A_sub at *
                      generalize subC b.sub = B_sub at *
                      generalize repC a.rep (.slice pa a.rep.pend.length capa) = A_rep at *
                      generalize repC b.rep (.slice qa b.rep.pend.length capb) = B_rep at *
                      go_wp2_with (first | ((with_reducible refine wl_load 25 (.tmp 18) ?_ g0 2 ?_ ?_ A_sub _ s0_sub.out Tryz.underlying25 ?_ Z0_sub ?_); exact rfl; exact rfl; exact rfl; exact rfl) | ((with_reducible refine wl_load 25 (.tmp 20) ?_ g1 2 ?_ ?_ B_sub _ s1_sub.out Tryz.underlying25 ?_ Z1_sub ?_); exact rfl; exact rfl; exact rfl; exact rfl) | ((with_reducible refine wl_load 28 (.tmp 25) ?_ g0 70 ?_ ?_ A_rep _ s0_rep.out Tryz.underlying28 ?_ Z0_rep ?_); exact rfl; exact rfl; exact rfl; exact rfl) | ((with_reducible refine wl_load 28 (.tmp 27) ?_ g1 70 ?_ ?_ B_rep _ s1_rep.out Tryz.underlying28 ?_ Z1_rep ?_); exact rfl; exact rfl; exact rfl; exact rfl))
                      refine (K_rep.out _ HP.out HQ.out).mono ?_
                      rintro e w1 ⟨rfl, hb1⟩
                      have HB1 := hid (below_two HB0.out hb1)
                      have ha := HA.out
                      have hb := HBw.out
                      obtain ⟨q0, q1⟩ := HFx.out _ hb1
                      rw [HLA.out] at q0
                      rw [HLB.out] at q1
                      have HN1 := hid (HN.out.kept hb1)
                      have HM1 := hid (HM.out.kept hb1)
                      have c0_view := mrow_view q0 ha
                      have c0_who := mrow_who q0 ha
                      have s0_tag := hid (mrow_tag q0 ha)
                      have s0_own := hid (mrow_own q0 ha)
                      have s0_blob := hid (mrow_blob q0 ha)
                      have c0_nums := mrow_nums q0 ha
                      have c1_view := mrow_view q1 hb
                      have c1_who := mrow_who q1 hb
                      have s1_tag := hid (mrow_tag q1 hb)
                      have s1_own := hid (mrow_own q1 hb)
                      have s1_blob := hid (mrow_blob q1 hb)
                      have c1_nums := mrow_nums q1 hb
                      clear hb1 ha hb q0 q1 HFx HLA HLB s0_sub s1_sub s0_rep s1_rep E_sub Z0_sub Z1_sub Z0_rep Z1_rep c0_kind c1_kind c0_client c1_client
                      generalize dg a.tag = A_tag at *
                      generalize dg b.tag = B_tag at *
                      generalize dg a.own = A_own at *
                      generalize dg b.own = B_own at *
                      generalize bloC a.blob = A_blob at *
                      generalize bloC b.blob = B_blob at *
                      go_wp2_with (first | ((with_reducible refine wl_load 23 (.tmp 46) ?_ g0 175 ?_ ?_ A_tag _ s0_tag.out Tryz.underlying23 ?_ Z0_tag ?_); exact rfl; exact rfl; exact rfl; exact rfl) | ((with_reducible refine wl_load 23 (.tmp 48) ?_ g1 175 ?_ ?_ B_tag _ s1_tag.out Tryz.underlying23 ?_ Z1_tag ?_); exact rfl; exact rfl; exact rfl; exact rfl) | ((with_reducible refine wl_load 23 (.tmp 53) ?_ g0 207 ?_ ?_ A_own _ s0_own.out Tryz.underlying23 ?_ Z0_own ?_); exact rfl; exact rfl; exact rfl; exact rfl) | ((with_reducible refine wl_load 23 (.tmp 55) ?_ g1 207 ?_ ?_ B_own _ s1_own.out Tryz.underlying23 ?_ Z1_own ?_); exact rfl; exact rfl; exact rfl; exact rfl) | ((with_reducible refine wl_load 30 (.tmp 60) ?_ g0 239 ?_ ?_ A_blob _ s0_blob.out Tryz.underlying30 ?_ Z0_blob ?_); exact rfl; exact rfl; exact rfl; exact rfl) | ((with_reducible refine wl_load 30 (.tmp 62) ?_ g1 239 ?_ ?_ B_blob _ s1_blob.out Tryz.underlying30 ?_ Z1_blob ?_); exact rfl; exact rfl; exact rfl; exact rfl))
                      refine (K_nums.out _ HN1.out HM1.out).mono ?_
                      rintro e w2 ⟨rfl, hb2⟩
                      have HB2 := hid (below_two HB1.out hb2)
                      clear hb2
                      go_wp2
                      go_ret
                      exact ⟨by rw [HF.out]; rfl, HB2.out⟩
end Go.Proofs.YtidlgecognedlaaGreatDoor.Ms
