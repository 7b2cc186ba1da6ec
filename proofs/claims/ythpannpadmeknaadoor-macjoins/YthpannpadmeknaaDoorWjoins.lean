/-
  What the law MacJoins answers at every key and every list of texts.
-/
import Derived.Test.YthpannpadmeknaaDoorMawk
import Derived.Lib.SmallJoins
import Derived.Lib.FrozenHead2
namespace Go.Proofs.YthpannpadmeknaaDoor
open Go Go.RowKit Go.Joins
set_option maxRecDepth 100000

theorem infoStr : (Tryd.prog.info? 9).map (fun i => (i.zero, i.size, i.bytes)) = some (some (.string ⟨#[]⟩), 1, 16) := by kernel_rfl
def txtCells (zs : List (List UInt8)) : List Value := zs.map fun l => Value.string ⟨l.toArray⟩
def mkB (l : List UInt8) : ByteArray := ⟨l.toArray⟩
theorem ownsF_below {w w' : World} {B e s n : Nat} {v : Value} {xs : List Value} (h : w.ownsRowF B e s v n xs) (hb : Below w.heap.size w w') : w'.ownsRowF B e s v n xs := by
  refine ⟨h.1, ?_⟩
  rcases h.2 with hn | ⟨g, cap, cur, fz, rfl, hB, hg, rest⟩
  · exact .inl hn
  · exact .inr ⟨g, cap, cur, fz, rfl, hB, by rw [hb.block g (Array.getElem?_eq_some_iff.1 hg).1]; exact hg, rest⟩
theorem rowF_form {w : World} {B e s n : Nat} {v : Value} {xs : List Value} (h : w.ownsRowF B e s v n xs) : ∃ ao cap, v = .slice ao n cap := by
  rcases h.2 with ⟨rfl, rfl⟩ | ⟨g, cap, cur, fz, rfl, -⟩
  · exact ⟨none, 0, rfl⟩
  · exact ⟨_, _, rfl⟩
theorem ownsF_cell {w : World} {B e n : Nat} {ao : Option Addr} {cp : Nat} {xs : List Value} (h : w.ownsRowF B e 1 (.slice ao n cp) n xs) (j : Nat) (hj : j < n) (v : Value) (hv : xs[j]? = some v) : ∃ b off, ao = some ⟨b, off, none⟩ ∧ b < w.heap.size ∧ w.cell? ⟨b, off + j, none⟩ = some v := by
  rcases h.2 with ⟨_, h0⟩ | ⟨g, cap, cur, fz, hv', hB, hg, -, -, -, hcs, htake⟩
  · omega
  · injection hv' with h1 h2 h3
    subst h1
    refine ⟨g, 0, rfl, (Array.getElem?_eq_some_iff.1 hg).1, ?_⟩
    rw [← htake, List.getElem?_take, if_pos (by omega)] at hv
    rw [Nat.zero_add, cell_of_block hg, ← Array.getElem?_toList]
    exact hv

theorem texts_of_own {w : World} {B : Nat} {ao : Option Addr} {cp : Nat} {xs : List (List UInt8)} (h : w.ownsRowF B 9 1 (.slice ao xs.length cp) xs.length (txtCells xs)) : TextsAt w ao xs.length (xs.map mkB) :=
  ⟨by simp, fun j hj => ownsF_cell h j hj _ (by simp [txtCells, List.getD, hj, mkB])⟩
theorem joined_mkB (xs : List (List UInt8)) : joined (xs.map mkB) = xs.flatten := by
  unfold joined
  rw [List.map_map]
  have h : ((fun x : ByteArray => x.data.toList) ∘ mkB) = id := by funext l; simp [mkB]
  rw [h, List.map_id]

set_option maxHeartbeats 8000000 in
theorem macJoins_any (k : List UInt8) (a : Option Addr) (len cap : Nat) (Xs : List ByteArray) (w : World) (hK : Ktab w) (hT : Lay.Tabs w) (hX : TextsAt w a len Xs) :
    Calls Tryd.prog 4 #[.string ⟨k.toArray⟩, .slice a len cap] w fun e w' => e = .returned (.bool true) ∧ Below w.heap.size w w' := by
  obtain ⟨i0, hi, hz0, hz1, hz2⟩ := info_parts infoStr
  have HFk := hid (few_any k w)
  have hkl := few_len k
  generalize k.take 1500 = x at *
  have HKb : Hid (∀ V, Below w.heap.size w V → Ktab V) := fun V h => hK.stays h hK.pos
  have HTb : Hid (∀ V, Below w.heap.size w V → Lay.Tabs V) := fun V h => hT.stays h
  have HX0 := hid hX
  have HA := hid (fun W a b => awake_any W a b)
  have HB0 : Hid (Below w.heap.size w w) := Below.refl _ _
  have HO0 : Hid (w.ownsRowF w.heap.size 9 1 (.slice none 0 0) 0 (txtCells [])) := World.ownsRowF_nil _ _ _ _
  clear hK hT hX
  go_enter Tryd.func4, Tryd.ntmps4
  go_wp2_with (first | (go_at_call 8; refine Calls.mono HFk.out ?_))
  rintro e w1 ⟨rfl, hw1⟩
  subst w1
  go_wp2
  go_loopw [5, 6, 7] (fun s v i w' => ∃ (j : Nat) (xs : List (List UInt8)), j ≤ 12 ∧ xs.length = j ∧ i = .int .i64 j ∧ s = .string ⟨xs.flatten.toArray⟩ ∧ xs.flatten.length ≤ 1500 * j ∧ Hid (w'.ownsRowF w.heap.size 9 1 v xs.length (txtCells xs)) ∧ Hid (Below w.heap.size w w')) (fun _ _ i _ => 12 - (intOf i).toNat)
  case atStart => exact ⟨0, [], by omega, rfl, rfl, rfl, by simp, HO0, HB0⟩
  case round =>
    clear HO0 HB0 HFk
    obtain ⟨j, xs, hj, hxl, rfl, rfl, hfl, HO, HB⟩ := hrel
    have hxl' := hid hxl
    have hsz : w.heap.size ≤ wr.heap.size := HB.out.size
    have hsf : (⟨xs.flatten.toArray⟩ : ByteArray).size = xs.flatten.length := rfl
    by_cases hall : j < len ∧ j < 12
    · obtain ⟨h1, h2⟩ := hall
      obtain ⟨b, off, ha, hbl, hc⟩ := HX0.out.2 j h1
      subst ha
      obtain ⟨l, hl⟩ : ∃ l, l = (Xs.getD j ByteArray.empty).data.toList := ⟨_, rfl⟩
      have hsl : Xs.getD j ByteArray.empty = ⟨l.toArray⟩ := by rw [hl, Array.toArray_toList]
      rw [hsl] at hc
      have HF := hid (few_any l)
      have hlx := few_len l
      generalize l.take 1500 = z at *
      have hfl2 : Hid ((xs ++ [z]).flatten = xs.flatten ++ z) := by show _ = _; simp
      have happ : (⟨xs.flatten.toArray⟩ : ByteArray) ++ (⟨z.toArray⟩ : ByteArray) = ⟨(xs ++ [z]).flatten.toArray⟩ := by rw [hfl2.out]; exact ByteArray.mk_append_mk _ _
      have hfl3 : Hid ((xs ++ [z]).flatten.length ≤ 1500 * (j + 1)) := by show _ ≤ _; rw [hfl2.out, List.length_append]; omega
      have hsz1 : (⟨z.toArray⟩ : ByteArray).size = z.length := rfl
      have hbz : (z.length : Int) ≤ 1500 := by omega
      have hbf : (xs.flatten.length : Int) ≤ 18000 := by omega
      obtain ⟨ao, cp, rfl⟩ := rowF_form HO.out
      have HXk : Hid (∀ W, Below w.heap.size w W → W.cell? ⟨b, off + j, none⟩ = some (.string ⟨l.toArray⟩)) := fun W hb => (hb.cell (p := ⟨b, off + j, none⟩) hbl).trans hc
      have hcr := HXk.out wr HB.out
      generalize hF2' : (xs ++ [z]).flatten = F2 at *
      have hF2 := hid hF2'
      clear hF2'
      generalize hF1 : xs.flatten = F1 at *
      clear hsl hl hF1 hfl hlx hxl
      go_wp2_with (first | (go_at_call 8; refine (HF.out _).mono ?_; rintro e W ⟨rfl, hW⟩; subst hW) | (at_builtin; refine wpList_append_ownF _ rfl _ _ 30 rfl w.heap.size 9 i0 (.string ⟨#[]⟩) 1 16 Tryd.underlying30 hi hz0 hz1 hz2 rfl (by decide) _ _ _ rfl (HO.out.alloc _) ⟨_, 0, none⟩ 1 1 [.string ⟨z.toArray⟩] rfl rfl ?c1 ?c2 ?c3 ?c4 ?c5 ?_))
      case c1 =>
        intro j u hj
        match j, hj with
        | 0, hj => simp at hj; subst hj; simp [Addr.add]
      case c2 => intro u hu; simp at hu; subst hu; rfl
      case c3 => have := hxl'.out; unfold maxLen; omega
      case c4 => have := hxl'.out; omega
      case c5 => simp; omega
      intro v' w3 hown hgr _
      have HO3 : Hid (w3.ownsRowF w.heap.size 9 1 v' (xs ++ [z]).length (txtCells (xs ++ [z]))) := by
        show w3.ownsRowF _ _ _ _ _ _
        rw [List.length_append]
        simpa [txtCells] using hown
      have HB3 : Hid (Below w.heap.size w w3) := (HB.out.alloc hsz _).grown hgr (by simp; omega) (fun k hk => (HO.out.lt k hk).1)
      have hc3 := HXk.out w3 HB3.out
      have hxl3 : Hid ((xs ++ [z]).length = j + 1) := by show _ = _; rw [List.length_append, hxl'.out]; rfl
      clear hown hgr HO HB hsz hcr HXk
      go_wp2_with (first | (go_at_call 8; refine (HF.out _).mono ?_; rintro e W ⟨rfl, hW⟩; subst hW))
      go_roundw
      case rel => exact ⟨j + 1, xs ++ [z], by omega, hxl3.out, by go_num, by first | rfl | (rw [hF2.out]), by rw [hF2.out]; exact hfl3.out, HO3, HB3⟩
      case measure => simp [intOf]; omega
    · subst hxl
      clear hxl'
      obtain ⟨ao, cp, rfl⟩ := rowF_form HO.out
      have HT2 : Hid (∀ W, Ktab W → W.ownsRowF w.heap.size 9 1 (.slice ao xs.length cp) xs.length (txtCells xs) → Calls Tryd.prog 10 #[.string ⟨x.toArray⟩, .slice ao xs.length cp] W fun e w' => e = .returned (.agg ((hmac x xs.flatten).map cb).toArray) ∧ Below W.heap.size W w') := by
        intro W kk ho
        have h := tag_any x (by omega) ao xs.length cp (xs.map mkB) W kk (texts_of_own ho) (by rw [joined_mkB]; omega) (by omega)
        rw [joined_mkB] at h
        exact h
      have HT1 := hid (fun W a => tag_one x xs.flatten (by omega) (by omega) W a)
      have HR1 := hid (fun W => rtag_any x (by omega) xs.flatten (by omega) W)
      have HE := same25 (hmac x xs.flatten) (hmac_len _ _)
      generalize ((hmac x xs.flatten).map cb).toArray = X at *
      generalize xs.flatten = F1 at *
      have HO' : Hid (wr.ownsRowF w.heap.size 9 1 (.slice ao xs.length cp) xs.length (txtCells xs)) := HO.out
      clear HO
      generalize txtCells xs = TC at *
      generalize xs.length = j at *
      have HO := hid HO'.out
      clear HO'
      have hcs : (¬ j < len) ∨ (j < len ∧ ¬ j < 12) := by omega
      clear hall hfl
      rcases hcs with h1 | ⟨h1, h2⟩
      · go_wp2_with (first | (go_at_call 9; refine (HA.out _ (HKb.out _ HB.out) (HTb.out _ HB.out)).mono ?_))
        rintro e w2 ⟨rfl, hb2⟩
        have HB2 := hid (HB.out.trans (hb2.mono HB.out.size))
        have HO2 := hid (ownsF_below HO.out hb2)
        clear hb2 HB HO HA
        go_wp2_with (first | (go_at_call 10; refine (HT2.out w2 (HKb.out _ HB2.out) HO2.out).mono ?_))
        rintro e w3 ⟨rfl, hb3⟩
        have HB3 := hid (HB2.out.trans (hb3.mono HB2.out.size))
        clear hb3 HB2 HO2 HT2
        go_wp2_with (first | (go_at_call 11; refine (HR1.out w3).mono ?_))
        rintro e w4 ⟨rfl, hb4⟩
        have HB4 := hid (HB3.out.trans (hb4.mono HB3.out.size))
        clear hb4 HB3
        go_wp2_with (first | (go_at_call 10; refine (HT1.out w4 (HKb.out _ HB4.out)).mono ?_))
        rintro e w5 ⟨rfl, hb5⟩
        have HB5 := hid (HB4.out.trans (hb5.mono HB4.out.size))
        clear hb5 HB4
        go_wp2_with (first | (go_at_call 11; refine (HR1.out w5).mono ?_))
        rintro e w6 ⟨rfl, hb6⟩
        have HB6 := hid (HB5.out.trans (hb6.mono HB5.out.size))
        clear hb6 HB5
        go_wp2
        go_ret
        exact ⟨rfl, HB6.out⟩
      · have d2 : decide ((j : Int) < 12) = false := by simp; omega
        clear h2
        go_wp2_with (first | (go_at_call 9; refine (HA.out _ (HKb.out _ HB.out) (HTb.out _ HB.out)).mono ?_))
        rintro e w2 ⟨rfl, hb2⟩
        have HB2 := hid (HB.out.trans (hb2.mono HB.out.size))
        have HO2 := hid (ownsF_below HO.out hb2)
        clear hb2 HB HO HA
        go_wp2_with (first | (go_at_call 10; refine (HT2.out w2 (HKb.out _ HB2.out) HO2.out).mono ?_))
        rintro e w3 ⟨rfl, hb3⟩
        have HB3 := hid (HB2.out.trans (hb3.mono HB2.out.size))
        clear hb3 HB2 HO2 HT2
        go_wp2_with (first | (go_at_call 11; refine (HR1.out w3).mono ?_))
        rintro e w4 ⟨rfl, hb4⟩
        have HB4 := hid (HB3.out.trans (hb4.mono HB3.out.size))
        clear hb4 HB3
        go_wp2_with (first | (go_at_call 10; refine (HT1.out w4 (HKb.out _ HB4.out)).mono ?_))
        rintro e w5 ⟨rfl, hb5⟩
        have HB5 := hid (HB4.out.trans (hb5.mono HB4.out.size))
        clear hb5 HB4
        go_wp2_with (first | (go_at_call 11; refine (HR1.out w5).mono ?_))
        rintro e w6 ⟨rfl, hb6⟩
        have HB6 := hid (HB5.out.trans (hb6.mono HB5.out.size))
        clear hb6 HB5
        go_wp2
        go_ret
        exact ⟨rfl, HB6.out⟩

end Go.Proofs.YthpannpadmeknaaDoor
