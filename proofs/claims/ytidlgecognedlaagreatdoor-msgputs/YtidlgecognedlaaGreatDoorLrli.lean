/-
  What lay.ReadNumbers answers, at every place of every text.
-/
import Derived.Test.YtidlgecognedlaaGreatDoorLrdm
import Derived.Test.YtidlgecognedlaaGreatDoorLplc
import Derived.Test.YtidlgecognedlaaGreatDoorLlst
namespace Go.Proofs.YtidlgecognedlaaGreatDoor.Lay
open Go.RowKit Go.Joins
set_option maxRecDepth 100000

theorem infoInt : (Tryz.prog.info? 3).map (fun i => (i.zero, i.size, i.bytes)) = some (some (.int .i64 0), 1, 8) := by kernel_rfl

/-- The cells of ints. -/
def intCells (zs : List Int) : List Value := zs.map (Value.int .i64)
theorem intCells_len (zs : List Int) : (intCells zs).length = zs.length := by simp [intCells]

theorem numTo_ok {p : Nat} {r : List UInt8} (h : (readNum r).1 = 0) : numTo p r = p + (readNum r).2.2 := by unfold numTo; rw [if_pos h]
theorem numTo_err {p : Nat} {r : List UInt8} (h : (readNum r).1 ≠ 0) : numTo p r = 0 := by unfold numTo; rw [if_neg h]

set_option maxHeartbeats 400000 in
theorem item42 (s : ByteArray) (b : Nat) (q : Int) (p : Nat) (hq : q = p) (h : p ≤ s.size) (hs : s.size ≤ 281474976710656) (w : World) (ht : Tabs w) (hb : w.cell? ⟨b, 0, none⟩ = some (.string s)) (r : List UInt8) (hr : s.data.toList.drop p = r) :
    Calls Tryz.prog 188 #[.int .i64 q, .pointer (some ⟨b, 0, none⟩)] w fun e w' => e = .returned (.tuple #[.int .i64 (readNum r).2.1, .int .i64 (numTo p r), .int .i64 (readNum r).1]) ∧ Below w.heap.size w w' := by
  subst hq
  have HR : Hid (s.data.toList.drop p = r) := hr
  clear hr
  go_enter Tryz.func188, Tryz.ntmps188
  go_wp2_with fail
  refine (readNumber_any s p h hs _ ht r HR.out).mono ?_
  rintro e w' ⟨rfl, hb2⟩
  go_wp2
  go_ret3
  exact ⟨rfl, hb2⟩

theorem item42_ok (s : ByteArray) (b : Nat) (q : Int) (p : Nat) (hq : q = p) (h : p ≤ s.size) (hs : s.size ≤ 281474976710656) (w : World) (ht : Tabs w) (hb : w.cell? ⟨b, 0, none⟩ = some (.string s)) (z : Int) (c : Nat) (hr : readNum (s.data.toList.drop p) = (0, z, c)) :
    Calls Tryz.prog 188 #[.int .i64 q, .pointer (some ⟨b, 0, none⟩)] w fun e w' => e = .returned (.tuple #[.int .i64 z, .int .i64 ((p + c : Nat) : Int), .int .i64 0]) ∧ Below w.heap.size w w' := by
  refine (item42 s b q p hq h hs w ht hb _ rfl).mono ?_
  rintro e w' ⟨rfl, hb2⟩
  rw [numTo_ok (by rw [hr]), hr]
  exact ⟨rfl, hb2⟩

theorem item42_err (s : ByteArray) (b : Nat) (q : Int) (p : Nat) (hq : q = p) (h : p ≤ s.size) (hs : s.size ≤ 281474976710656) (w : World) (ht : Tabs w) (hb : w.cell? ⟨b, 0, none⟩ = some (.string s)) (n : Nat) (hr : (readNum (s.data.toList.drop p)).1 = n) (hn : n ≠ 0) :
    Calls Tryz.prog 188 #[.int .i64 q, .pointer (some ⟨b, 0, none⟩)] w fun e w' => ∃ z, e = .returned (.tuple #[.int .i64 z, .int .i64 0, .int .i64 n]) ∧ Below w.heap.size w w' := by
  refine (item42 s b q p hq h hs w ht hb _ rfl).mono ?_
  rintro e w' ⟨rfl, hb2⟩
  rw [numTo_err (by rw [hr]; exact hn), hr]
  exact ⟨_, rfl, hb2⟩

theorem rowF_form {w : World} {B e s n : Nat} {v : Value} {xs : List Value} (h : w.ownsRowF B e s v n xs) : ∃ ao cap, v = .slice ao n cap := by
  rcases h.2 with ⟨rfl, rfl⟩ | ⟨g, cap, cur, fz, rfl, -⟩
  · exact ⟨none, 0, rfl⟩
  · exact ⟨_, _, rfl⟩

theorem pre_close (s : ByteArray) (q : Nat) (w : World) (b : Bool) (hb : closeB (s.data.toList.drop q) = b) :
    Calls Tryz.prog 143 #[.string (s.extract q s.size), .string ⟨#[41]⟩] w fun e w' => e = .returned (.bool b) ∧ w' = w := by
  refine (Tryz.strings_HasPrefix _ _ w).mono ?_
  rintro e w' ⟨rfl, rfl⟩
  rw [Lib.extract_data, List.take_of_length_le (by simp), ← hb]
  refine ⟨?_, rfl⟩
  congr 2
  generalize s.data.toList.drop q = l
  cases l with
  | nil => rfl
  | cons x l => simp only [Lib.hasPrefix, closeB, List.isPrefixOf, List.getD_cons_zero, Bool.and_true]; rw [Bool.eq_iff_iff, beq_iff_eq, beq_iff_eq]; exact eq_comm

set_option maxHeartbeats 400000 in
theorem rl41_out (s : ByteArray) (p : Int) (F : Value) (h : p < 0 ∨ (s.size : Int) < p) (w : World) :
    Calls Tryz.prog 187 #[.string s, .int .i64 p, F] w fun e w' => e = .returned (.tuple #[.slice none 0 0, .int .i64 0, .int .i64 3]) ∧ w' = w := by
  go_enter Tryz.func187, Tryz.ntmps187
  go_wp2_with fail
  refine (place_no s p h _).mono ?_
  rintro e w' ⟨rfl, rfl⟩
  go_wp2
  go_ret3
  exact ⟨rfl, rfl⟩

set_option maxHeartbeats 400000 in
theorem rl41_end (s : ByteArray) (F : Value) (w : World) :
    Calls Tryz.prog 187 #[.string s, .int .i64 s.size, F] w fun e w' => e = .returned (.tuple #[.slice none 0 0, .int .i64 0, .int .i64 5]) ∧ w' = w := by
  go_enter Tryz.func187, Tryz.ntmps187
  go_wp2_with fail
  refine (place_yes s s.size (Nat.le_refl _) _).mono ?_
  rintro e w' ⟨rfl, rfl⟩
  go_wp2
  go_ret3
  exact ⟨rfl, rfl⟩

set_option maxHeartbeats 400000 in
theorem rl41_form (s : ByteArray) (p : Nat) (h : p < s.size) (hb : s[p] ≠ 40) (F : Value) (w : World) :
    Calls Tryz.prog 187 #[.string s, .int .i64 p, F] w fun e w' => e = .returned (.tuple #[.slice none 0 0, .int .i64 0, .int .i64 6]) ∧ w' = w := by
  have hq : (((p : Int)) == (s.size : Int)) = false := by rw [beq_eq_false_iff_ne]; omega
  have hc : ((s[p].toNat : Int) != 40) = true := by rw [bne_iff_ne]; intro h'; apply hb; apply UInt8.toNat_inj.1; show _ = 40; omega
  go_enter Tryz.func187, Tryz.ntmps187
  go_wp2_with fail
  refine (place_yes s p (by omega) _).mono ?_
  rintro e w' ⟨rfl, rfl⟩
  go_wp2
  go_ret3
  exact ⟨rfl, rfl⟩

set_option maxHeartbeats 1000000 in
theorem rl41_in (s : ByteArray) (p b : Nat) (h : p < s.size) (hs : s.size ≤ 281474976710656) (hp : s[p] = 40) (w : World) (ht : Tabs w) (hbs : b < w.heap.size) (hbc : w.cell? ⟨b, 0, none⟩ = some (.string s)) (G : Nat × List Int × Nat)
    (hG : cont [] (p + 1) (readItems readNum (s.size - p) 0 (s.data.toList.drop (p + 1))) = G) :
    Calls Tryz.prog 187 #[.string s, .int .i64 p, .func (.func 188) #[] #[.pointer (some ⟨b, 0, none⟩)]] w fun e w' => ∃ v, e = .returned (.tuple #[v, .int .i64 G.2.2, .int .i64 G.1]) ∧ w'.ownsRowF w.heap.size 3 1 v G.2.1.length (intCells G.2.1) ∧ Below w.heap.size w w' := by
  obtain ⟨i0, hi, hz0, hz1, hz2⟩ := info_parts infoInt
  have hq : (((p : Int)) == (s.size : Int)) = false := by rw [beq_eq_false_iff_ne]; omega
  have hc : ((s[p].toNat : Int) != 40) = false := by rw [hp]; rfl
  have HG : Hid (cont [] (p + 1) (readItems readNum (s.size - p) 0 (s.data.toList.drop (p + 1))) = G) := hG
  clear hG hp
  go_enter Tryz.func187, Tryz.ntmps187
  go_wp2_with fail
  refine (place_yes s p (by omega) _).mono ?_
  rintro e w' ⟨rfl, hw⟩
  subst w'
  go_wp2
  go_loopw [1, 9] (fun i l w' => ∃ (q n : Nat) (xs : List Int), q ≤ s.size ∧ s.size < q + n ∧ xs.length ≤ 512 ∧ i = .int .i64 q ∧ Hid (cont xs q (readItems readNum n xs.length (s.data.toList.drop q)) = G) ∧ Hid (w'.ownsRowF w.heap.size 3 1 l xs.length (intCells xs)) ∧ Hid (Below w.heap.size w w')) (fun i _ _ => s.size + 1 - (intOf i).toNat)
  case atStart => exact ⟨p + 1, s.size - p, [], by omega, by omega, by simp, by go_num, HG, World.ownsRowF_nil _ _ _ _, Below.refl _ _⟩
  case round =>
    obtain ⟨q, n, xs, hqs, hqn, hx5, rfl, HC, HO, HB⟩ := hrel
    have hsz := HB.out.size
    have htr : Tabs wr := ht.stays HB.out
    have hcr : wr.cell? ⟨b, 0, none⟩ = some (.string s) := (HB.out.cell (p := ⟨b, 0, none⟩) hbs).trans hbc
    obtain ⟨m, rfl⟩ : ∃ m, n = m + 1 := ⟨n - 1, by omega⟩
    have hlq : (s.data.toList.drop q).length = s.size - q := by simp
    cases hcl : closeB (s.data.toList.drop q) with
    | true =>
      have HGv : Hid (G = (0, xs, q + 1)) := by show _ = _; rw [← HC.out]; exact cont_close readNum xs q m xs.length _ hcl
      have HCl : Hid (closeB (s.data.toList.drop q) = true) := hcl
      clear hcl HC
      go_wp2_with fail
      refine (pre_close s q _ true HCl.out).mono ?_
      rintro e w2 ⟨rfl, hw2⟩
      subst w2
      go_wp2
      go_ret3
      rw [HGv.out]
      exact ⟨u9, by simp, HO.out, HB.out⟩
    | false =>
      by_cases h5 : xs.length = 512
      · have HGv : Hid (G = (4, [], 0)) := by show _ = _; rw [← HC.out]; exact cont_full readNum xs q m xs.length _ hcl h5
        have HCl : Hid (closeB (s.data.toList.drop q) = false) := hcl
        clear hcl HC
        obtain ⟨ao, cp, rfl⟩ := rowF_form HO.out
        have hb5 : ((xs.length : Int) == 512) = true := by rw [beq_iff_eq]; omega
        clear h5
        go_wp2_with fail
        refine (pre_close s q _ false HCl.out).mono ?_
        rintro e w2 ⟨rfl, hw2⟩
        subst w2
        go_wp2
        go_ret3
        rw [HGv.out]
        exact ⟨_, rfl, World.ownsRowF_nil _ _ _ _, HB.out⟩
      · have HCl : Hid (closeB (s.data.toList.drop q) = false) := hcl
        have hb5 : ((xs.length : Int) == 512) = false := by rw [beq_eq_false_iff_ne]; omega
        have hl5 : xs.length + 1 ≤ 512 := by omega
        by_cases he : (readNum (s.data.toList.drop q)).1 = 0
        · obtain ⟨z, c, hzc⟩ : ∃ z c, readNum (s.data.toList.drop q) = (0, z, c) := ⟨_, _, triple _ he⟩
          obtain ⟨-, hc1, hc2, -, -⟩ := readNum_once _ _ _ hzc
          rw [hlq] at hc1
          have HC2 : Hid (cont (xs ++ [z]) (q + c) (readItems readNum m (xs ++ [z]).length (s.data.toList.drop (q + c))) = G) := by
            show _ = _
            rw [← HC.out, cont_item readNum xs q m xs.length _ hcl h5 he, hzc, List.length_append, List.drop_drop]; rfl
          have HZ : Hid (readNum (s.data.toList.drop q) = (0, z, c)) := hzc
          clear hcl HC he hzc
          obtain ⟨ao, cp, rfl⟩ := rowF_form HO.out
          clear h5
          go_wp2_with fail
          refine (pre_close s q _ false HCl.out).mono ?_
          rintro e w2 ⟨rfl, hw2⟩
          subst w2
          go_wp2_with fail
          refine (item42_ok s b _ q (by omega) hqs hs _ htr hcr z c HZ.out).mono ?_
          rintro e w2 ⟨rfl, hb2⟩
          have HO2 : Hid (w2.ownsRowF w.heap.size 3 1 (.slice ao xs.length cp) xs.length (intCells xs)) := ownsF_below HO.out hb2
          have HB2 : Hid (Below w.heap.size w w2) := below_two HB.out hb2
          have hsz2 : w.heap.size ≤ w2.heap.size := HB2.out.size
          clear hb2 HO HB hcr htr
          go_wp2_with (at_builtin; refine wpList_append_ownF _ rfl _ _ 31 rfl w.heap.size 3 i0 (.int .i64 0) 1 8 Tryz.underlying31 hi hz0 hz1 hz2 rfl (by decide) _ _ _ rfl (HO2.out.alloc _) ⟨w2.heap.size, 0, none⟩ 1 1 [.int .i64 z] rfl rfl ?c1 ?c2 ?c3 ?c4 ?c5 ?_)
          case c1 =>
            intro j u hj
            match j, hj with
            | 0, hj => simp at hj; subst hj; simp [Addr.add]
          case c2 => intro u hu; simp at hu; subst hu; rfl
          case c3 => unfold maxLen; omega
          case c4 => omega
          case c5 => simp; omega
          intro v' w3 hown hgr _
          have HO3 : Hid (w3.ownsRowF w.heap.size 3 1 v' (xs ++ [z]).length (intCells (xs ++ [z]))) := by
            show w3.ownsRowF _ _ _ _ _ _
            rw [List.length_append]
            simpa [intCells] using hown
          have HB3 : Hid (Below w.heap.size w w3) := (HB2.out.alloc hsz2 _).grown hgr (by simp; omega) (fun k hk => (HO2.out.lt k hk).1)
          clear hown hgr HO2 HB2 hsz2
          go_wp2
          go_roundw
          case rel => exact ⟨q + c, m, xs ++ [z], by omega, by omega, by simp; omega, by go_num, HC2, HO3, HB3⟩
          case measure => simp [intOf]; omega
        · have HGv : Hid (G = ((readNum (s.data.toList.drop q)).1, [], 0)) := by show _ = _; rw [← HC.out]; exact cont_err readNum xs q m xs.length _ hcl h5 he
          obtain ⟨en, hen⟩ : ∃ en, (readNum (s.data.toList.drop q)).1 = en := ⟨_, rfl⟩
          rw [hen] at HGv he
          have HEn : Hid ((readNum (s.data.toList.drop q)).1 = en) := hen
          have hnb : ((en : Int) != 0) = true := by rw [bne_iff_ne]; omega
          clear hcl HC hen
          obtain ⟨ao, cp, rfl⟩ := rowF_form HO.out
          clear h5
          go_wp2_with fail
          refine (pre_close s q _ false HCl.out).mono ?_
          rintro e w2 ⟨rfl, hw2⟩
          subst w2
          go_wp2_with fail
          refine (item42_err s b _ q (by omega) hqs hs _ htr hcr en HEn.out he).mono ?_
          rintro e w2 ⟨z, rfl, hb2⟩
          have HB2 : Hid (Below w.heap.size w w2) := below_two HB.out hb2
          clear hb2 HB
          go_wp2
          go_ret3
          rw [HGv.out]
          exact ⟨_, rfl, World.ownsRowF_nil _ _ _ _, HB2.out⟩

/-- What ReadNumbers answers at a place from 0 to the number of bytes. -/
theorem readNumbers_any (s : ByteArray) (p : Nat) (h : p ≤ s.size) (hs : s.size ≤ 281474976710656) (w : World) (ht : Tabs w) (r : List UInt8) (hr : s.data.toList.drop p = r) :
    Calls Tryz.prog 141 #[.string s, .int .i64 p] w fun e w' => ∃ v, e = .returned (.tuple #[v, .int .i64 (listRes readNum p r).2.2, .int .i64 (listRes readNum p r).1]) ∧ w'.ownsRowF w.heap.size 3 1 v (listRes readNum p r).2.1.length (intCells (listRes readNum p r).2.1) ∧ Below w.heap.size w w' := by
  have hlen : r.length = s.size - p := by rw [← hr]; simp
  have hb1 : Below w.heap.size w (w.alloc (.cells #[.string s] 9)) := below_alloc1 w _
  have key : Calls Tryz.prog 187 #[.string s, .int .i64 p, .func (.func 188) #[] #[.pointer (some ⟨w.heap.size, 0, none⟩)]] (w.alloc (.cells #[.string s] 9)) fun e w' => ∃ v, e = .returned (.tuple #[v, .int .i64 (listRes readNum p r).2.2, .int .i64 (listRes readNum p r).1]) ∧ w'.ownsRowF w.heap.size 3 1 v (listRes readNum p r).2.1.length (intCells (listRes readNum p r).2.1) ∧ Below w.heap.size w w' := by
    by_cases he : p = s.size
    · subst he
      have hr0 : r = [] := List.length_eq_zero_iff.1 (by omega)
      have e0 : listRes readNum s.size r = (5, [], 0) := by unfold listRes; rw [if_pos hr0]
      refine (rl41_end s _ _).mono ?_
      rintro e w' ⟨rfl, rfl⟩
      rw [e0]
      exact ⟨_, rfl, World.ownsRowF_nil _ _ _ _, hb1⟩
    · have hp : p < s.size := by omega
      have hg : r.getD 0 0 = s[p] := by have := byte_drop s p 0 hp; rw [hr] at this; exact this
      have hne : r ≠ [] := by intro h0; rw [h0] at hlen; simp at hlen; omega
      by_cases h4 : s[p] = 40
      · have e0 : listRes readNum p r = cont [] (p + 1) (readItems readNum (s.size - p) 0 (s.data.toList.drop (p + 1))) := by
          unfold listRes
          rw [if_neg hne, hg, if_neg (by rw [h4]; simp), hlen, ← List.drop_drop, hr]
        have hb2 := rl41_in s p w.heap.size hp hs h4 (w.alloc (.cells #[.string s] 9)) (ht.stays hb1) (by simp) (by simp) _ e0.symm
        refine hb2.mono ?_
        rintro e w' ⟨v, rfl, ho, hb⟩
        refine ⟨v, rfl, ?_, below_two hb1 hb⟩
        refine ⟨ho.1, ?_⟩
        rcases ho.2 with hn | ⟨g, cap, cur, fz, hv, hB, rest⟩
        · exact .inl hn
        · exact .inr ⟨g, cap, cur, fz, hv, by simp at hB; omega, rest⟩
      · have e0 : listRes readNum p r = (6, [], 0) := by unfold listRes; rw [if_neg hne, hg, if_pos h4]
        refine (rl41_form s p hp h4 _ _).mono ?_
        rintro e w' ⟨rfl, rfl⟩
        rw [e0]
        exact ⟨_, rfl, World.ownsRowF_nil _ _ _ _, hb1⟩
  have HK : Hid (Calls Tryz.prog 187 #[.string s, .int .i64 p, .func (.func 188) #[] #[.pointer (some ⟨w.heap.size, 0, none⟩)]] (w.alloc (.cells #[.string s] 9)) fun e w' => ∃ v, e = .returned (.tuple #[v, .int .i64 (listRes readNum p r).2.2, .int .i64 (listRes readNum p r).1]) ∧ w'.ownsRowF w.heap.size 3 1 v (listRes readNum p r).2.1.length (intCells (listRes readNum p r).2.1) ∧ Below w.heap.size w w') := key
  clear key hb1 hr hlen ht
  go_enter Tryz.func141, Tryz.ntmps141
  go_wp2_with fail
  refine HK.out.mono ?_
  rintro e w' ⟨v, rfl, ho, hb⟩
  have HO := ho
  obtain ⟨ao, cp, rfl⟩ := rowF_form ho
  have H2 : Hid (w'.ownsRowF w.heap.size 3 1 (.slice ao (listRes readNum p r).2.1.length cp) (listRes readNum p r).2.1.length (intCells (listRes readNum p r).2.1)) := ho
  have H3 : Hid (Below w.heap.size w w') := hb
  clear ho hb HO HK
  go_wp2
  go_ret3
  exact ⟨_, rfl, H2.out, H3.out⟩

set_option maxHeartbeats 400000 in
theorem readNumbers_out (s : ByteArray) (p : Int) (h : p < 0 ∨ (s.size : Int) < p) (w : World) :
    Calls Tryz.prog 141 #[.string s, .int .i64 p] w fun e w' => e = .returned (.tuple #[.slice none 0 0, .int .i64 0, .int .i64 3]) ∧ Below w.heap.size w w' := by
  go_enter Tryz.func141, Tryz.ntmps141
  go_wp2_with fail
  refine (rl41_out s p _ h _).mono ?_
  rintro e w' ⟨rfl, rfl⟩
  go_wp2
  go_ret3
  exact ⟨rfl, below_alloc1 w _⟩

end Go.Proofs.YtidlgecognedlaaGreatDoor.Lay
