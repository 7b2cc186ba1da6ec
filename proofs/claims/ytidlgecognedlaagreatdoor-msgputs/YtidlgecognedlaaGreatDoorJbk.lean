/-
  Fields go there and back: what was laid is read as it was, what is read is laid as the very bytes. No program plays a part.
-/
import Derived.Test.YtidlgecognedlaaGreatDoorJfd
namespace Go.Proofs.YtidlgecognedlaaGreatDoor.Ms
open Go
set_option maxRecDepth 100000

structure penOk (p : Pen) : Prop where
  client : I64 p.client
  number : I64 p.number
  kind : I64 p.kind
  target : I64 p.target
  asked : p.asked.length = 32
  proof : p.proof.length = 32
def okBase : Val → Prop
  | .inl n => I64 n
  | .inr (.inl s) => s.length ≤ 16384
  | .inr (.inr (.inl d)) => d.length = 32
  | .inr (.inr (.inr (.inl l))) => l.length ≤ 512 ∧ ∀ n ∈ l, I64 n
  | .inr (.inr (.inr (.inr _))) => False
def okVal : Val → Prop
  | .inr (.inr (.inr (.inr l))) => l.length ≤ 8 ∧ ∀ p ∈ l, penOk p
  | v => okBase v
theorem drop_pre (pre r : List UInt8) : (pre ++ r).drop pre.length = r := List.drop_left
theorem ints_body (l : List Int) : Lay.bodyOf numB l = intsB l := rfl
theorem num_head (n : Int) : Lay.closeB (numB n) = false ∧ numB n ≠ [] := by
  have h : ∀ u, Lay.closeB (Lib.decDigits u ++ [59]) = false := by
    intro u
    have h1 := Lay.dec_digits u
    have h2 := Lay.dec_ne u
    cases hd : Lib.decDigits u with
    | nil => exact absurd hd h2
    | cons c r =>
      rw [hd] at h1
      have hc := h1 c (by simp)
      unfold Lay.isDig at hc
      simp only [Lay.closeB, List.cons_append, List.getD_cons_zero]
      rw [beq_eq_false_iff_ne]
      intro e
      subst e
      simp at hc
  unfold numB Lib.itoa
  split
  · exact ⟨by simp [Lay.closeB], by simp⟩
  · exact ⟨h _, by simp⟩
theorem nums_back (l : List Int) (hl : l.length ≤ 512) (hk : ∀ n ∈ l, I64 n) (p : Nat) (rest : List UInt8) : Lay.listRes Lay.readNum p (layNs l ++ rest) = (0, l, p + (layNs l).length) := by
  have h := Lay.list_back Lay.readNum numB I64 (fun x hx r => num_back x hx r) (fun x _ => num_head x) l hk hl p rest
  have e : layNs l ++ rest = 40 :: Lay.bodyOf numB l ++ 41 :: rest := by unfold layNs; rw [if_neg (by omega), ints_body]; simp
  rw [e, h]
  unfold layNs
  rw [if_neg (by omega), ints_body]
  simp
theorem base_back (v : Val) (hv : okBase v) (pre rest : List UInt8) : rdBase v.slot (pre ++ (layBase v ++ rest)) pre.length = (0, v, pre.length + (layBase v).length) := by
  cases v using Val.cut with
  | num n => simp only [Val.slot, rdBase, layBase, drop_pre, num_back n hv, toP, if_true]
  | txt s =>
    have hl : ¬ 16384 < s.length := by have : s.length ≤ 16384 := hv; omega
    simp only [Val.slot, rdBase, layBase, layT, if_neg hl, drop_pre, txt_back s hv, toP, if_true]
  | dig d =>
    have h32 : d.length = 32 := hv
    simp only [Val.slot, rdBase, rdDig, layBase, drop_pre, txt_back d (by omega), ne_eq, not_true, if_false, h32, if_true]
  | nums l => simp only [Val.slot, rdBase, layBase, drop_pre, nums_back l hv.1 hv.2]
  | pens l => exact False.elim hv
def copyAll {α : Type} : List (Fl α) → α → α → α
  | [], _, x => x
  | g :: fs, y, x => copyAll fs y (g.set x (g.get y))
theorem all_back {α : Type} (rd : Slot → List UInt8 → Nat → Nat × Val × Nat) (f : Val → List UInt8) (ok : Val → Prop) (hb : ∀ v, ok v → ∀ pre rest, rd v.slot (pre ++ (f v ++ rest)) pre.length = (0, v, pre.length + (f v).length)) :
    ∀ (fs : List (Fl α)) (y x : α), (∀ g ∈ fs, (g.get y).slot = g.slot ∧ ok (g.get y)) → ∀ pre rest, rdAll rd fs x (pre ++ (putAll f fs y ++ rest)) pre.length = (0, copyAll fs y x, pre.length + (putAll f fs y).length)
  | [], y, x, _, pre, rest => by simp [rdAll, copyAll, putAll]
  | g :: fs, y, x, h, pre, rest => by
    obtain ⟨h1, h2⟩ := h g (by simp)
    have e : putAll f (g :: fs) y = f (g.get y) ++ putAll f fs y := rfl
    have h3 := hb (g.get y) h2 pre (putAll f fs y ++ rest)
    rw [h1] at h3
    have ih := all_back rd f ok hb fs y (g.set x (g.get y)) (fun k hk => h k (by simp [hk])) (pre ++ f (g.get y)) rest
    rw [e]
    unfold rdAll
    rw [List.append_assoc, h3]
    simp only [ne_eq, not_true, if_false]
    rw [List.append_assoc, List.length_append] at ih
    rw [ih, List.length_append, ← Nat.add_assoc]
    rfl
theorem pen_fits {p : Pen} (h : penOk p) : ∀ g ∈ penFs, (g.get p).slot = g.slot ∧ okBase (g.get p) := by
  intro g hg
  simp only [penFs, List.mem_cons, List.not_mem_nil, or_false] at hg
  rcases hg with rfl | rfl | rfl | rfl | rfl | rfl
  · exact ⟨rfl, h.client⟩
  · exact ⟨rfl, h.number⟩
  · exact ⟨rfl, h.kind⟩
  · exact ⟨rfl, h.target⟩
  · exact ⟨rfl, h.asked⟩
  · exact ⟨rfl, h.proof⟩
theorem pen_back (p : Pen) (h : penOk p) (pre rest : List UInt8) : rdPen (pre ++ (layPen p ++ rest)) pre.length = (0, p, pre.length + (layPen p).length) := by
  have := all_back rdBase layBase okBase base_back penFs p zeroP (pen_fits h) pre rest
  unfold rdPen layPen
  rw [this]
  rfl
theorem pensN_back : ∀ (ps : List Pen), (∀ p ∈ ps, penOk p) → ∀ pre rest, rdPensN ps.length (pre ++ ((ps.map layPen).flatten ++ rest)) pre.length = (0, ps, pre.length + ((ps.map layPen).flatten).length)
  | [], _, pre, rest => by simp [rdPensN]
  | p :: ps, h, pre, rest => by
    have h1 := pen_back p (h p (by simp)) pre ((ps.map layPen).flatten ++ rest)
    have ih := pensN_back ps (fun q hq => h q (by simp [hq])) (pre ++ layPen p) rest
    rw [List.append_assoc, List.length_append] at ih
    have e : ((p :: ps).map layPen).flatten = layPen p ++ (ps.map layPen).flatten := rfl
    rw [e, List.append_assoc, List.length_cons]
    unfold rdPensN
    simp only [h1, ih]
    simp only [ne_eq, not_true, if_false, List.length_append, Nat.add_assoc]
theorem pens_back (ps : List Pen) (hl : ps.length ≤ 8) (h : ∀ p ∈ ps, penOk p) (pre rest : List UInt8) : rdPens (pre ++ (layVal (.pens ps) ++ rest)) pre.length = (0, ps, pre.length + (layVal (.pens ps)).length) := by
  have h1 := num_back (ps.length : Int) ⟨by omega, by omega⟩ ((ps.map layPen).flatten ++ rest)
  have h2 := pensN_back ps h (pre ++ numB ps.length) rest
  rw [List.append_assoc, List.length_append] at h2
  have e : layVal (.pens ps) ++ rest = numB ps.length ++ ((ps.map layPen).flatten ++ rest) := by simp [layVal]
  have e2 : (layVal (.pens ps)).length = (numB ps.length).length + ((ps.map layPen).flatten).length := by simp [layVal]
  rw [e, e2]
  unfold rdPens
  rw [drop_pre, h1]
  simp only [ne_eq, not_true, if_false]
  rw [if_neg (by omega), Int.toNat_natCast, h2, Nat.add_assoc]
theorem val_back (v : Val) (hv : okVal v) (pre rest : List UInt8) : rdVal v.slot (pre ++ (layVal v ++ rest)) pre.length = (0, v, pre.length + (layVal v).length) := by
  cases v using Val.cut with
  | num n => exact base_back (.num n) hv pre rest
  | txt s => exact base_back (.txt s) hv pre rest
  | dig d => exact base_back (.dig d) hv pre rest
  | nums l => exact base_back (.nums l) hv pre rest
  | pens l =>
    have := pens_back l hv.1 hv.2 pre rest
    simp only [Val.slot, rdVal, this]

/-! ### What is read is laid as the very bytes -/
def setAll {α : Type} : List (Fl α) → List Val → α → α
  | g :: fs, v :: vs, x => setAll fs vs (g.set x v)
  | _, _, x => x
theorem toP_ok (p c : Nat) : toP 0 p c = p + c := by simp [toP]
theorem base_once (k : Slot) (hk : k ≠ .pens) (s : List UInt8) (p : Nat) (hp : p ≤ s.length) (he : (rdBase k s p).1 = 0) :
    ∃ c, (rdBase k s p).2.2 = p + c ∧ (s.drop p).take c = layBase (rdBase k s p).2.1 ∧ p + c ≤ s.length ∧ okBase (rdBase k s p).2.1 := by
  have hd : (s.drop p).length = s.length - p := by simp
  cases k using Slot.cut with
  | num =>
    have he : (Lay.readNum (s.drop p)).1 = 0 := he
    obtain ⟨h1, h2, h3⟩ := num_once _ _ _ (Lay.triple _ he)
    refine ⟨(Lay.readNum (s.drop p)).2.2, ?_, h1, by omega, h3⟩
    show toP (Lay.readNum (s.drop p)).1 p _ = _
    rw [he, toP_ok]
  | txt =>
    have he : (Lay.readTxt (s.drop p)).1 = 0 := he
    obtain ⟨h1, h2, h3⟩ := txt_once _ _ _ (Lay.triple _ he)
    refine ⟨(Lay.readTxt (s.drop p)).2.2, ?_, ?_, by omega, h3⟩
    · show toP (Lay.readTxt (s.drop p)).1 p _ = _
      rw [he, toP_ok]
    · show _ = layT (Lay.readTxt (s.drop p)).2.1
      unfold layT
      rw [if_neg (by omega)]
      exact h1
  | dig =>
    have he : (rdDig s p).1 = 0 := he
    show ∃ c, (rdDig s p).2.2 = p + c ∧ (s.drop p).take c = layBase (rdDig s p).2.1 ∧ p + c ≤ s.length ∧ okBase (rdDig s p).2.1
    unfold rdDig at he ⊢
    by_cases h : (Lay.readTxt (s.drop p)).1 ≠ 0
    · rw [if_pos h] at he
      exact absurd he h
    · rw [if_neg h] at he ⊢
      by_cases h2 : (Lay.readTxt (s.drop p)).2.1.length = 32
      · rw [if_pos h2]
        have h0 : (Lay.readTxt (s.drop p)).1 = 0 := by omega
        obtain ⟨j1, j2, j3⟩ := txt_once _ _ _ (Lay.triple _ h0)
        exact ⟨_, rfl, j1, by omega, h2⟩
      · rw [if_neg h2] at he
        exact absurd he (by decide)
  | nums =>
    have he : (Lay.listRes Lay.readNum p (s.drop p)).1 = 0 := he
    obtain ⟨c, j1, j2, j3, j4, j5⟩ := Lay.list_once Lay.readNum numB I64 (fun r x c h => num_once r x c h) p (s.drop p) _ _ (Lay.triple _ he)
    refine ⟨c, j1, ?_, by omega, j4, j5⟩
    rw [j2]
    show _ = layNs _
    unfold layNs
    rw [if_neg (by omega)]
    rfl
  | pens => exact absurd rfl hk
theorem all_once {α : Type} (rd : Slot → List UInt8 → Nat → Nat × Val × Nat) (f : Val → List UInt8) (ok : Val → Prop) (s : List UInt8) :
    ∀ (fs : List (Fl α)) (_ : ∀ g ∈ fs, ∀ p, p ≤ s.length → (rd g.slot s p).1 = 0 → (rd g.slot s p).2.1.slot = g.slot ∧ ∃ c, (rd g.slot s p).2.2 = p + c ∧ (s.drop p).take c = f (rd g.slot s p).2.1 ∧ p + c ≤ s.length ∧ ok (rd g.slot s p).2.1)
      (x : α) (p : Nat), p ≤ s.length → (rdAll rd fs x s p).1 = 0 →
    ∃ vs c, vs.map Val.slot = fs.map (·.slot) ∧ (rdAll rd fs x s p).2.1 = setAll fs vs x ∧ (rdAll rd fs x s p).2.2 = p + c ∧ (s.drop p).take c = (vs.map f).flatten ∧ p + c ≤ s.length ∧ ∀ v ∈ vs, ok v
  | [], _, x, p, hp, _ => ⟨[], 0, rfl, rfl, rfl, by simp, by omega, by simp⟩
  | g :: fs, hb, x, p, hp, he => by
    unfold rdAll at he ⊢
    by_cases h1 : (rd g.slot s p).1 ≠ 0
    · rw [if_pos h1] at he
      exact absurd he h1
    · rw [if_neg h1] at he ⊢
      obtain ⟨i0, c, i1, i2, i3, i4⟩ := hb g (by simp) p hp (by omega)
      rw [i1] at he ⊢
      obtain ⟨vs, c2, j0, j1, j2, j3, j4, j5⟩ := all_once rd f ok s fs (fun k hk => hb k (by simp [hk])) (g.set x (rd g.slot s p).2.1) (p + c) i3 he
      refine ⟨(rd g.slot s p).2.1 :: vs, c + c2, by rw [List.map_cons, List.map_cons, i0, j0], j1, by rw [j2]; omega, ?_, by omega, ?_⟩
      · rw [List.take_add, List.drop_drop, i2, j3]
        rfl
      · intro v hv
        rcases List.mem_cons.1 hv with rfl | hv
        · exact i4
        · exact j5 v hv
theorem of_num {v : Val} (h : v.slot = .num) : ∃ n, v = .num n := by cases v using Val.cut with | num n => exact ⟨n, rfl⟩ | txt _ => cases h | dig _ => cases h | nums _ => cases h | pens _ => cases h
theorem of_txt {v : Val} (h : v.slot = .txt) : ∃ n, v = .txt n := by cases v using Val.cut with | txt n => exact ⟨n, rfl⟩ | num _ => cases h | dig _ => cases h | nums _ => cases h | pens _ => cases h
theorem of_dig {v : Val} (h : v.slot = .dig) : ∃ n, v = .dig n := by cases v using Val.cut with | dig n => exact ⟨n, rfl⟩ | txt _ => cases h | num _ => cases h | nums _ => cases h | pens _ => cases h
theorem of_nums {v : Val} (h : v.slot = .nums) : ∃ n, v = .nums n := by cases v using Val.cut with | nums n => exact ⟨n, rfl⟩ | txt _ => cases h | dig _ => cases h | num _ => cases h | pens _ => cases h
theorem of_pens {v : Val} (h : v.slot = .pens) : ∃ n, v = .pens n := by cases v using Val.cut with | pens n => exact ⟨n, rfl⟩ | txt _ => cases h | dig _ => cases h | nums _ => cases h | num _ => cases h
theorem map_cons {α β : Type} {f : α → β} {vs : List α} {a : β} {l : List β} (h : vs.map f = a :: l) : ∃ x xs, vs = x :: xs ∧ f x = a ∧ xs.map f = l := by
  cases vs with
  | nil => cases h
  | cons x xs => simp only [List.map_cons, List.cons.injEq] at h; exact ⟨x, xs, rfl, h.1, h.2⟩
theorem map_nil {α β : Type} {f : α → β} {vs : List α} (h : vs.map f = []) : vs = [] := by cases vs with | nil => rfl | cons x xs => cases h
theorem pen_base : ∀ g ∈ penFs, g.slot ≠ .pens := by
  intro g hg
  simp only [penFs, List.mem_cons, List.not_mem_nil, or_false] at hg
  rcases hg with rfl | rfl | rfl | rfl | rfl | rfl <;> (intro h; cases h)
theorem pen_set (a b c d : Int) (e f : List UInt8) : setAll penFs [.num a, .num b, .num c, .num d, .dig e, .dig f] zeroP = ⟨a, b, c, d, e, f⟩ := rfl
theorem pen_lay (a b c d : Int) (e f : List UInt8) : layPen ⟨a, b, c, d, e, f⟩ = ([Val.num a, .num b, .num c, .num d, .dig e, .dig f].map layBase).flatten := rfl
theorem pen_once (s : List UInt8) (p : Nat) (hp : p ≤ s.length) (he : (rdPen s p).1 = 0) :
    ∃ c, (rdPen s p).2.2 = p + c ∧ (s.drop p).take c = layPen (rdPen s p).2.1 ∧ p + c ≤ s.length ∧ penOk (rdPen s p).2.1 := by
  unfold rdPen at he ⊢
  obtain ⟨vs, c, h0, h1, h2, h3, h4, h5⟩ := all_once rdBase layBase okBase s penFs (fun g hg q hq hz => ⟨rdBase_slot _ _ _, base_once g.slot (pen_base g hg) s q hq hz⟩) zeroP p hp he
  generalize rdAll rdBase penFs zeroP s p = R at *
  have hs : penFs.map (·.slot) = [.num, .num, .num, .num, .dig, .dig] := rfl
  rw [hs] at h0
  obtain ⟨v1, vs, rfl, s1, h0⟩ := map_cons h0
  obtain ⟨v2, vs, rfl, s2, h0⟩ := map_cons h0
  obtain ⟨v3, vs, rfl, s3, h0⟩ := map_cons h0
  obtain ⟨v4, vs, rfl, s4, h0⟩ := map_cons h0
  obtain ⟨v5, vs, rfl, s5, h0⟩ := map_cons h0
  obtain ⟨v6, vs, rfl, s6, h0⟩ := map_cons h0
  obtain rfl := map_nil h0
  obtain ⟨a, rfl⟩ := of_num s1
  obtain ⟨b, rfl⟩ := of_num s2
  obtain ⟨c', rfl⟩ := of_num s3
  obtain ⟨d, rfl⟩ := of_num s4
  obtain ⟨e, rfl⟩ := of_dig s5
  obtain ⟨f, rfl⟩ := of_dig s6
  rw [pen_set] at h1
  rw [h1, pen_lay]
  exact ⟨c, h2, h3, h4, ⟨h5 (.num a) (by simp), h5 (.num b) (by simp), h5 (.num c') (by simp), h5 (.num d) (by simp), h5 (.dig e) (by simp), h5 (.dig f) (by simp)⟩⟩
theorem pensN_once (s : List UInt8) : ∀ (n p : Nat), p ≤ s.length → (rdPensN n s p).1 = 0 →
    ∃ c, (rdPensN n s p).2.2 = p + c ∧ (s.drop p).take c = ((rdPensN n s p).2.1.map layPen).flatten ∧ p + c ≤ s.length ∧ (rdPensN n s p).2.1.length = n ∧ ∀ x ∈ (rdPensN n s p).2.1, penOk x
  | 0, p, hp, _ => ⟨0, rfl, by simp [rdPensN], by omega, rfl, by simp [rdPensN]⟩
  | n + 1, p, hp, he => by
    unfold rdPensN at he ⊢
    by_cases h1 : (rdPen s p).1 ≠ 0
    · rw [if_pos h1] at he
      exact absurd he h1
    · rw [if_neg h1] at he ⊢
      obtain ⟨c, i1, i2, i3, i4⟩ := pen_once s p hp (by omega)
      rw [i1] at he ⊢
      by_cases h2 : (rdPensN n s (p + c)).1 ≠ 0
      · rw [if_pos h2] at he
        exact absurd he h2
      · rw [if_neg h2]
        obtain ⟨c2, j1, j2, j3, j4, j5⟩ := pensN_once s n (p + c) i3 (by omega)
        refine ⟨c + c2, by rw [j1]; omega, ?_, by omega, by rw [List.length_cons, j4], ?_⟩
        · rw [List.take_add, List.drop_drop, i2, j2]
          rfl
        · intro x hx
          rcases List.mem_cons.1 hx with rfl | hx
          · exact i4
          · exact j5 x hx
theorem val_once (k : Slot) (s : List UInt8) (p : Nat) (hp : p ≤ s.length) (he : (rdVal k s p).1 = 0) :
    (rdVal k s p).2.1.slot = k ∧ ∃ c, (rdVal k s p).2.2 = p + c ∧ (s.drop p).take c = layVal (rdVal k s p).2.1 ∧ p + c ≤ s.length ∧ okVal (rdVal k s p).2.1 := by
  refine ⟨rdVal_slot k s p, ?_⟩
  cases k using Slot.cut with
  | num => exact base_once .num (fun h => by cases h) s p hp he
  | txt => exact base_once .txt (fun h => by cases h) s p hp he
  | dig =>
    obtain ⟨c, h1, h2, h3, h4⟩ := base_once .dig (fun h => by cases h) s p hp he
    obtain ⟨d, hd⟩ := of_dig (rdBase_slot .dig s p)
    have e : rdVal .dig s p = rdBase .dig s p := rfl
    rw [e]
    rw [hd] at h2 h4 ⊢
    exact ⟨c, h1, h2, h3, h4⟩
  | nums => exact base_once .nums (fun h => by cases h) s p hp he
  | pens =>
    have he : (rdPens s p).1 = 0 := he
    show ∃ c, (rdPens s p).2.2 = p + c ∧ (s.drop p).take c = layVal (.pens (rdPens s p).2.1) ∧ p + c ≤ s.length ∧ okVal (.pens (rdPens s p).2.1)
    unfold rdPens at he ⊢
    by_cases h1 : (Lay.readNum (s.drop p)).1 ≠ 0
    · rw [if_pos h1] at he
      exact absurd he h1
    · rw [if_neg h1] at he ⊢
      by_cases h2 : (Lay.readNum (s.drop p)).2.1 < 0 ∨ 8 < (Lay.readNum (s.drop p)).2.1
      · rw [if_pos h2] at he
        exact absurd he (by decide)
      · rw [if_neg h2] at he ⊢
        obtain ⟨i1, i2, i3⟩ := num_once _ _ _ (Lay.triple _ (by omega : (Lay.readNum (s.drop p)).1 = 0))
        have hd : (s.drop p).length = s.length - p := by simp
        obtain ⟨c2, j1, j2, j3, j4, j5⟩ := pensN_once s _ _ (by omega : p + (Lay.readNum (s.drop p)).2.2 ≤ s.length) he
        refine ⟨(Lay.readNum (s.drop p)).2.2 + c2, by rw [j1]; omega, ?_, by omega, by rw [j4]; omega, j5⟩
        rw [List.take_add, List.drop_drop, i1, j2]
        show _ = numB _ ++ _
        rw [j4, show (((Lay.readNum (s.drop p)).2.1.toNat : Nat) : Int) = (Lay.readNum (s.drop p)).2.1 by omega]
end Go.Proofs.YtidlgecognedlaaGreatDoor.Ms
