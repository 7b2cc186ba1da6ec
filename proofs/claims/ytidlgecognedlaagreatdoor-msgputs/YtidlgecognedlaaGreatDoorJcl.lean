/-
  The functions that are made for a message's fields, and who makes them.
-/
import Derived.Test.YtidlgecognedlaaGreatDoorJrd
import Derived.Laws.EntriesVeiled
import Derived.Handy
namespace Go.Proofs.YtidlgecognedlaaGreatDoor.Ms
open Go Go.RowKit
set_option maxRecDepth 100000

/-- The blocks that a field's functions hold: where it lies, what lays it, what reads it. -/
structure Bx where
  x : Nat
  q : Nat
  r : Nat
abbrev ptr (g off : Nat) : Value := .pointer (some ⟨g, off, none⟩)
abbrev fnV (f : Nat) : Value := .func (.func f) #[] #[]
def layFn : Slot → Nat
  | .inl _ => 40
  | .inr (.inl _) => 133
  | .inr (.inr (.inl _)) => 136
  | .inr (.inr (.inr (.inl _))) => 140
  | .inr (.inr (.inr (.inr _))) => 181
def readFn : Slot → Nat
  | .inl _ => 96
  | .inr (.inl _) => 134
  | .inr (.inr (.inl _)) => 137
  | .inr (.inr (.inr (.inl _))) => 141
  | .inr (.inr (.inr (.inr _))) => 182
def c1Fn : Slot → Nat
  | .inl _ => 168
  | .inr (.inl _) => 171
  | .inr (.inr (.inl _)) => 175
  | .inr (.inr (.inr (.inl _))) => 183
  | .inr (.inr (.inr (.inr _))) => 215
def c2Fn : Slot → Nat
  | .inl _ => 169
  | .inr (.inl _) => 172
  | .inr (.inr (.inl _)) => 176
  | .inr (.inr (.inr (.inl _))) => 184
  | .inr (.inr (.inr (.inr _))) => 216
def c3Fn : Slot → Nat
  | .inl _ => 170
  | .inr (.inl _) => 173
  | .inr (.inr (.inl _)) => 177
  | .inr (.inr (.inr (.inl _))) => 185
  | .inr (.inr (.inr (.inr _))) => 217
def mkFn : Slot → Nat
  | .inl _ => 91
  | .inr (.inl _) => 92
  | .inr (.inr (.inl _)) => 93
  | .inr (.inr (.inr (.inl _))) => 95
  | .inr (.inr (.inr (.inr _))) => 138
def xTy : Slot → TypeId
  | .inl _ => 153
  | .inr (.inl _) => 156
  | .inr (.inr (.inl _)) => 158
  | .inr (.inr (.inr (.inl _))) => 163
  | .inr (.inr (.inr (.inr _))) => 205
def qTy : Slot → TypeId
  | .inl _ => 59
  | .inr (.inl _) => 103
  | .inr (.inr (.inl _)) => 101
  | .inr (.inr (.inr (.inl _))) => 102
  | .inr (.inr (.inr (.inr _))) => 234
def rTy : Slot → TypeId
  | .inl _ => 165
  | .inr (.inl _) => 201
  | .inr (.inr (.inl _)) => 203
  | .inr (.inr (.inr (.inl _))) => 207
  | .inr (.inr (.inr (.inr _))) => 235
def fieldV (k : Slot) (b : Bx) : List Value := [.func (.func (c1Fn k)) #[] #[ptr b.q 0, ptr b.x 0], .func (.func (c2Fn k)) #[] #[ptr b.r 0, ptr b.x 0], .func (.func (c3Fn k)) #[] #[ptr b.x 0]]
structure FieldAt (w : World) (k : Slot) (g off : Nat) (b : Bx) : Prop where
  hx : w.heap[b.x]? = some (.cells #[ptr g off] (xTy k))
  hq : w.heap[b.q]? = some (.cells #[fnV (layFn k)] (qTy k))
  hr : w.heap[b.r]? = some (.cells #[fnV (readFn k)] (rTy k))
/-- All that was there stands, but for the block g; more may have come. -/
structure Kept (g : Nat) (w w' : World) : Prop where
  os : w'.os = w.os
  tape : w'.tape = w.tape
  output : w'.output = w.output
  size : w.heap.size ≤ w'.heap.size
  block : ∀ k, k < w.heap.size → k ≠ g → w'.heap[k]? = w.heap[k]?
theorem Kept.of {g : Nat} {w w' : World} (h : Below w.heap.size w w') : Kept g w w' := ⟨h.os, h.tape, h.output, h.size, fun k hk _ => h.block k hk⟩
theorem Kept.refl (g : Nat) (w : World) : Kept g w w := Kept.of (Below.refl _ _)
theorem Kept.trans {g : Nat} {w w1 w2 : World} (h1 : Kept g w w1) (h2 : Kept g w1 w2) : Kept g w w2 :=
  ⟨h2.os.trans h1.os, h2.tape.trans h1.tape, h2.output.trans h1.output, Nat.le_trans h1.size h2.size, fun k hk hg => (h2.block k (Nat.lt_of_lt_of_le hk h1.size) hg).trans (h1.block k hk hg)⟩
theorem Kept.but {g : Nat} {w w' : World} (h : But g w w') : Kept g w w' := ⟨h.os, h.tape, h.output, by rw [h.size]; exact Nat.le_refl _, fun k _ hg => h.block k hg⟩
theorem Kept.row {g k : Nat} {w w' : World} {o : Obj} (h : Kept g w w') (hr : w.heap[k]? = some o) (hk : k ≠ g) : w'.heap[k]? = some o := (h.block k (Array.getElem?_eq_some_iff.1 hr).1 hk).trans hr
theorem Kept.below {g : Nat} {a w w' : World} (h : Kept g w w') (h0 : Below a.heap.size a w) (h1 : a.heap.size ≤ g) : Below a.heap.size a w' :=
  ⟨h.os.trans h0.os, h.tape.trans h0.tape, h.output.trans h0.output, Nat.le_trans h0.size h.size, fun k hk => (h.block k (Nat.lt_of_lt_of_le hk h0.size) (by omega)).trans (h0.block k hk)⟩
/-- A block that holds a message, or what is pending: none that a field's functions hold. -/
def Own (w : World) (g : Nat) : Prop := ∃ cs t, w.heap[g]? = some (.cells cs t) ∧ (t = 33 ∨ t = 113)
theorem ty_ne {w : World} {g b : Nat} {cs cs' : Array Value} {t t' : TypeId} (h : w.heap[g]? = some (.cells cs t)) (h' : w.heap[b]? = some (.cells cs' t')) (hne : t' ≠ t) : b ≠ g := by
  intro e
  rw [e, h] at h'
  injection h' with h'
  injection h' with _ h'
  exact hne h'.symm
theorem FieldAt.ne {w : World} {k : Slot} {g off : Nat} {b : Bx} (h : FieldAt w k g off b) (ho : Own w g) : b.x ≠ g ∧ b.q ≠ g ∧ b.r ≠ g := by
  obtain ⟨cs, t, hg, ht⟩ := ho
  have h1 : xTy k ≠ t := by cases k using Slot.cut <;> rcases ht with rfl | rfl <;> decide
  have h2 : qTy k ≠ t := by cases k using Slot.cut <;> rcases ht with rfl | rfl <;> decide
  have h3 : rTy k ≠ t := by cases k using Slot.cut <;> rcases ht with rfl | rfl <;> decide
  exact ⟨ty_ne hg h.hx h1, ty_ne hg h.hq h2, ty_ne hg h.hr h3⟩
theorem FieldAt.kept {w w' : World} {k : Slot} {g off : Nat} {b : Bx} (h : FieldAt w k g off b) (ho : Own w g) (hk : Kept g w w') : FieldAt w' k g off b := by
  obtain ⟨n1, n2, n3⟩ := h.ne ho
  exact ⟨hk.row h.hx n1, hk.row h.hq n2, hk.row h.hr n3⟩
theorem FieldAt.stays {w w' : World} {k : Slot} {g off : Nat} {b : Bx} (h : FieldAt w k g off b) (hb : Below w.heap.size w w') : FieldAt w' k g off b :=
  ⟨row_kept h.hx hb, row_kept h.hq hb, row_kept h.hr hb⟩
def LayOne (k : Slot) : Prop := ∀ (v : Val), v.slot = k → okVal v → ∀ (w : World) (cv : Value), Tb w → CvAt w cv v → Calls Tryz.prog (layFn k) #[cv] w fun e w' => e = .returned (st (layVal v)) ∧ Below w.heap.size w w'
/-- A list that was made just now. -/
def Fr (B : Nat) (cv : Value) : Prop := ∀ a n c, cv = .slice (some a) n c → B ≤ a.block
def ReadOne (k : Slot) : Prop := ∀ (s : List UInt8) (p : Nat), p ≤ s.length → s.length ≤ 281474976710656 → ∀ (w : World), Tb w → Calls Tryz.prog (readFn k) #[st s, nu p] w fun e w' => ∃ cv, e = .returned (.tuple #[cv, nu (rdVal k s p).2.2, nu (rdVal k s p).1]) ∧ CvAt w' cv (rdVal k s p).2.1 ∧ Fr w.heap.size cv ∧ Below w.heap.size w w'
theorem cell_one {w : World} {b : Nat} {v : Value} {t : TypeId} (h : w.heap[b]? = some (.cells #[v] t)) : w.cell? ⟨b, 0, none⟩ = some v := by rw [cell_of_row _ _ _ _ _ _ h]; rfl

theorem mkLayNum : LayOne .num := by
  intro v hs hv w cv ht hc
  obtain ⟨n, rfl⟩ := of_num hs
  subst hc
  exact Lay.number_any n hv.1 hv.2 w ht
theorem mkLayTxt : LayOne .txt := by
  intro v hs hv w cv ht hc
  obtain ⟨n, rfl⟩ := of_txt hs
  subst hc
  exact laytext_any n w ht
theorem mkLayDig : LayOne .dig := by
  intro v hs hv w cv ht hc
  obtain ⟨n, rfl⟩ := of_dig hs
  subst hc
  exact laydig_any n hv w ht
theorem mkLayNums : LayOne .nums := by
  intro v hs hv w cv ht hc
  obtain ⟨n, rfl⟩ := of_nums hs
  exact laynums_any hc hv.1 hv.2 ht
theorem mkReadNum : ReadOne .num := by
  intro s p hp hs w ht
  refine (Lay.readNumber_any ⟨s.toArray⟩ p hp hs w ht (s.drop p) rfl).mono ?_
  rintro e w' ⟨rfl, hb⟩
  exact ⟨_, rfl, rfl, (fun a n c h => by cases h), hb⟩
theorem mkReadTxt : ReadOne .txt := by
  intro s p hp hs w ht
  refine (Lay.readText_any ⟨s.toArray⟩ p hp hs w ht (s.drop p) rfl).mono ?_
  rintro e w' ⟨rfl, hb⟩
  exact ⟨_, rfl, rfl, (fun a n c h => by cases h), hb⟩
theorem mkReadDig : ReadOne .dig := by
  intro s p hp hs w ht
  refine (readdig_any s p hp hs w ht).mono ?_
  rintro e w' ⟨rfl, hb⟩
  refine ⟨_, rfl, ?_, (fun a n c h => by cases h), hb⟩
  obtain ⟨d, hd⟩ := of_dig (rdDig_slot s p)
  show CvAt w' _ (rdDig s p).2.1
  rw [hd]
  rfl
theorem ints_own {w : World} {B : Nat} {v : Value} {l : List Int} (h : w.ownsRowF B 3 1 v l.length (Lay.intCells l)) : IntsAt w v l ∧ Fr B v := by
  obtain ⟨h1, h2 | ⟨g, cap, cur, fz, hv, hB, hg, hrest⟩⟩ := h
  · obtain ⟨rfl, h0⟩ := h2
    have : l = [] := by simpa using h0
    subst this
    exact ⟨IntsAt.nil w, fun a n c h => by cases h⟩
  · obtain ⟨h4, h5, h6, h7, h8⟩ := hrest
    subst hv
    refine ⟨⟨_, _, rfl, fun _ => ⟨g, 0, rfl, fun j hj => ?_⟩⟩, fun a n c h => by cases h; exact hB⟩
    rw [cell_of_row _ _ _ _ _ _ hg, Nat.zero_add, ← Array.getElem?_toList]
    have e : (cur.toList.take (l.length * 1))[j]? = (Lay.intCells l)[j]? := by rw [h8]
    rw [Nat.mul_one, List.getElem?_take_of_lt hj] at e
    rw [e]
    simp [Lay.intCells, List.getD, hj]
theorem mkReadNums : ReadOne .nums := by
  intro s p hp hs w ht
  refine (Lay.readNumbers_any ⟨s.toArray⟩ p hp hs w ht (s.drop p) rfl).mono ?_
  rintro e w' ⟨v, rfl, ho, hb⟩
  obtain ⟨h1, h2⟩ := ints_own ho
  exact ⟨v, rfl, h1, h2, hb⟩

set_option maxHeartbeats 2000000 in
theorem c1_num (HL : LayOne .num) {w : World} {g off : Nat} {b : Bx} {v : Val} (hF : FieldAt w .num g off b) (hs : v.slot = .num) (hv : ValAt w g off v) (ho : okVal v) (ht : Tb w) :
    Calls Tryz.prog 168 #[ptr b.q 0, ptr b.x 0] w fun e w' => e = .returned (st (layVal v)) ∧ Below w.heap.size w w' := by
  have q1 := cell_one hF.hq
  have q2 := cell_one hF.hx
  obtain ⟨n, rfl⟩ := of_num hs
  have q3 : w.cell? ⟨g, off, none⟩ = some (nu n) := hv
  have HC : ∀ dd os, Calls Tryz.prog 40 #[nu n] (Sort.grow (redrawn w dd) os) fun e w'' => e = .returned (st (layVal (.num n))) ∧ ∃ p : Regrown, w'' = Sort.grow (redrawn w p.d) p.os := fun dd os => Calls.regrown_of (HL (.num n) rfl ho _ _ (ht.stays (below_regrown w dd os)) rfl)
  have c1 : ∀ dd os, (Sort.grow (redrawn w dd) os).cell? ⟨b.q, 0, none⟩ = some (fnV (layFn .num)) := fun dd os => cell_regrown q1 _ _
  have c2 : ∀ dd os, (Sort.grow (redrawn w dd) os).cell? ⟨b.x, 0, none⟩ = some (ptr g off) := fun dd os => cell_regrown q2 _ _
  have c3 : ∀ dd os, (Sort.grow (redrawn w dd) os).cell? ⟨g, off, none⟩ = _ := fun dd os => cell_regrown q3 _ _
  generalize layVal (.num n) = T at *
  clear HL hF ho ht hs q1 q2 q3
  have hbg := hid (fun dq osq => below_regrown w dq osq)
  simp only [layFn] at c1
  go_enter Tryz.func168, Tryz.ntmps168
  go_wp2_with fail
  refine wp_region_quiet_below (by kernel_rfl) (by kernel_rfl) ?_
  iterate 4 (first | go_big_quiet_step (fail) | quiet_step (fail))
  (first | go_big_quiet_step (exact HC _ _) | quiet_step (exact HC _ _))
  iterate 1 (first | go_big_quiet_step (fail) | quiet_step (fail))
  refine wpQuiet_nil ?_
  intro _ hw'
  obtain ⟨⟨dq, osq⟩, hw''⟩ := hw'
  subst hw''
  have HBq := hid (hbg.out dq osq)
  go_wp2
  go_ret
  exact ⟨rfl, HBq.out⟩

set_option maxHeartbeats 2000000 in
theorem c1_txt (HL : LayOne .txt) {w : World} {g off : Nat} {b : Bx} {v : Val} (hF : FieldAt w .txt g off b) (hs : v.slot = .txt) (hv : ValAt w g off v) (ho : okVal v) (ht : Tb w) :
    Calls Tryz.prog 171 #[ptr b.q 0, ptr b.x 0] w fun e w' => e = .returned (st (layVal v)) ∧ Below w.heap.size w w' := by
  have q1 := cell_one hF.hq
  have q2 := cell_one hF.hx
  obtain ⟨n, rfl⟩ := of_txt hs
  have q3 : w.cell? ⟨g, off, none⟩ = some (st n) := hv
  have HC : ∀ dd os, Calls Tryz.prog 133 #[st n] (Sort.grow (redrawn w dd) os) fun e w'' => e = .returned (st (layVal (.txt n))) ∧ ∃ p : Regrown, w'' = Sort.grow (redrawn w p.d) p.os := fun dd os => Calls.regrown_of (HL (.txt n) rfl ho _ _ (ht.stays (below_regrown w dd os)) rfl)
  have c1 : ∀ dd os, (Sort.grow (redrawn w dd) os).cell? ⟨b.q, 0, none⟩ = some (fnV (layFn .txt)) := fun dd os => cell_regrown q1 _ _
  have c2 : ∀ dd os, (Sort.grow (redrawn w dd) os).cell? ⟨b.x, 0, none⟩ = some (ptr g off) := fun dd os => cell_regrown q2 _ _
  have c3 : ∀ dd os, (Sort.grow (redrawn w dd) os).cell? ⟨g, off, none⟩ = _ := fun dd os => cell_regrown q3 _ _
  generalize layVal (.txt n) = T at *
  clear HL hF ho ht hs q1 q2 q3
  have hbg := hid (fun dq osq => below_regrown w dq osq)
  simp only [layFn] at c1
  go_enter Tryz.func171, Tryz.ntmps171
  go_wp2_with fail
  refine wp_region_quiet_below (by kernel_rfl) (by kernel_rfl) ?_
  iterate 4 (first | go_big_quiet_step (fail) | quiet_step (fail))
  (first | go_big_quiet_step (exact HC _ _) | quiet_step (exact HC _ _))
  iterate 1 (first | go_big_quiet_step (fail) | quiet_step (fail))
  refine wpQuiet_nil ?_
  intro _ hw'
  obtain ⟨⟨dq, osq⟩, hw''⟩ := hw'
  subst hw''
  have HBq := hid (hbg.out dq osq)
  go_wp2
  go_ret
  exact ⟨rfl, HBq.out⟩

set_option maxHeartbeats 2000000 in
theorem c1_dig (HL : LayOne .dig) {w : World} {g off : Nat} {b : Bx} {v : Val} (hF : FieldAt w .dig g off b) (hs : v.slot = .dig) (hv : ValAt w g off v) (ho : okVal v) (ht : Tb w) :
    Calls Tryz.prog 175 #[ptr b.q 0, ptr b.x 0] w fun e w' => e = .returned (st (layVal v)) ∧ Below w.heap.size w w' := by
  have q1 := cell_one hF.hq
  have q2 := cell_one hF.hx
  obtain ⟨n, rfl⟩ := of_dig hs
  have hn : n.length = 32 := ho
  have q3 := hid (fun w' (hw : ∃ p : Regrown, w' = Sort.grow (redrawn w p.d) p.os) => (by obtain ⟨p, rfl⟩ := hw; exact fun i c hi => cell_regrown (hv i c hi) _ _ : ∀ i c, (dg n)[i]? = some c → w'.cell? ⟨g, off + i, none⟩ = some c))
  have Z0 : (Tryz.prog.info? 23).map (·.size) = some (dg n).length := by rw [dg_len, hn]; exact sizeDig
  have HC : ∀ dd os, Calls Tryz.prog 136 #[.agg (dg n).toArray] (Sort.grow (redrawn w dd) os) fun e w'' => e = .returned (st (layVal (.dig n))) ∧ ∃ p : Regrown, w'' = Sort.grow (redrawn w p.d) p.os := fun dd os => Calls.regrown_of (HL (.dig n) rfl ho _ _ (ht.stays (below_regrown w dd os)) rfl)
  have c1 : ∀ dd os, (Sort.grow (redrawn w dd) os).cell? ⟨b.q, 0, none⟩ = some (fnV (layFn .dig)) := fun dd os => cell_regrown q1 _ _
  have c2 : ∀ dd os, (Sort.grow (redrawn w dd) os).cell? ⟨b.x, 0, none⟩ = some (ptr g off) := fun dd os => cell_regrown q2 _ _
  generalize layVal (.dig n) = T at *
  generalize dg n = D at *
  clear HL hF hv ho ht hs hn q1 q2
  have hbg := hid (fun dq osq => below_regrown w dq osq)
  simp only [layFn] at c1
  go_enter Tryz.func175, Tryz.ntmps175
  go_wp2_with fail
  refine wp_region_quiet_below (by kernel_rfl) (by kernel_rfl) ?_
  iterate 3 (first | go_big_quiet_step (fail) | quiet_step (fail))
  refine wq_load 23 (.tmp 5) rfl g off rfl rfl D _ (fun w' hw' => q3.out w' hw') Tryz.underlying23 rfl Z0 ?_
  simp only [Act.put, List.setIfInBounds_toArray, List.set_cons_zero, List.set_cons_succ]
  (first | go_big_quiet_step (exact HC _ _) | quiet_step (exact HC _ _))
  iterate 1 (first | go_big_quiet_step (fail) | quiet_step (fail))
  refine wpQuiet_nil ?_
  intro _ hw'
  obtain ⟨⟨dq, osq⟩, hw''⟩ := hw'
  subst hw''
  have HBq := hid (hbg.out dq osq)
  go_wp2
  go_ret
  exact ⟨rfl, HBq.out⟩

set_option maxHeartbeats 2000000 in
theorem c1_nums (HL : LayOne .nums) {w : World} {g off : Nat} {b : Bx} {v : Val} (hF : FieldAt w .nums g off b) (hs : v.slot = .nums) (hv : ValAt w g off v) (ho : okVal v) (ht : Tb w) :
    Calls Tryz.prog 183 #[ptr b.q 0, ptr b.x 0] w fun e w' => e = .returned (st (layVal v)) ∧ Below w.heap.size w w' := by
  have q1 := cell_one hF.hq
  have q2 := cell_one hF.hx
  obtain ⟨n, rfl⟩ := of_nums hs
  obtain ⟨cv, q3, hcv⟩ := hv
  have HC : ∀ dd os, Calls Tryz.prog 140 #[cv] (Sort.grow (redrawn w dd) os) fun e w'' => e = .returned (st (layVal (.nums n))) ∧ ∃ p : Regrown, w'' = Sort.grow (redrawn w p.d) p.os := fun dd os => Calls.regrown_of (HL (.nums n) rfl ho _ _ (ht.stays (below_regrown w dd os)) (hcv.kept (below_regrown w dd os)))
  obtain ⟨av, cap, rfl, -⟩ := hcv
  have c1 : ∀ dd os, (Sort.grow (redrawn w dd) os).cell? ⟨b.q, 0, none⟩ = some (fnV (layFn .nums)) := fun dd os => cell_regrown q1 _ _
  have c2 : ∀ dd os, (Sort.grow (redrawn w dd) os).cell? ⟨b.x, 0, none⟩ = some (ptr g off) := fun dd os => cell_regrown q2 _ _
  have c3 : ∀ dd os, (Sort.grow (redrawn w dd) os).cell? ⟨g, off, none⟩ = _ := fun dd os => cell_regrown q3 _ _
  generalize layVal (.nums n) = T at *
  clear HL hF ho ht hs q1 q2 q3
  have hbg := hid (fun dq osq => below_regrown w dq osq)
  simp only [layFn] at c1
  go_enter Tryz.func183, Tryz.ntmps183
  go_wp2_with fail
  refine wp_region_quiet_below (by kernel_rfl) (by kernel_rfl) ?_
  iterate 4 (first | go_big_quiet_step (fail) | quiet_step (fail))
  (first | go_big_quiet_step (exact HC _ _) | quiet_step (exact HC _ _))
  iterate 1 (first | go_big_quiet_step (fail) | quiet_step (fail))
  refine wpQuiet_nil ?_
  intro _ hw'
  obtain ⟨⟨dq, osq⟩, hw''⟩ := hw'
  subst hw''
  have HBq := hid (hbg.out dq osq)
  go_wp2
  go_ret
  exact ⟨rfl, HBq.out⟩

set_option maxHeartbeats 2000000 in
theorem c1_pens (HL : LayOne .pens) {w : World} {g off : Nat} {b : Bx} {v : Val} (hF : FieldAt w .pens g off b) (hs : v.slot = .pens) (hv : ValAt w g off v) (ho : okVal v) (ht : Tb w) :
    Calls Tryz.prog 215 #[ptr b.q 0, ptr b.x 0] w fun e w' => e = .returned (st (layVal v)) ∧ Below w.heap.size w w' := by
  have q1 := cell_one hF.hq
  have q2 := cell_one hF.hx
  obtain ⟨n, rfl⟩ := of_pens hs
  obtain ⟨cv, q3, hcv⟩ := hv
  have HC : ∀ dd os, Calls Tryz.prog 181 #[cv] (Sort.grow (redrawn w dd) os) fun e w'' => e = .returned (st (layVal (.pens n))) ∧ ∃ p : Regrown, w'' = Sort.grow (redrawn w p.d) p.os := fun dd os => Calls.regrown_of (HL (.pens n) rfl ho _ _ (ht.stays (below_regrown w dd os)) (hcv.kept (below_regrown w dd os)))
  obtain ⟨av, cap, rfl, -⟩ := hcv
  have c1 : ∀ dd os, (Sort.grow (redrawn w dd) os).cell? ⟨b.q, 0, none⟩ = some (fnV (layFn .pens)) := fun dd os => cell_regrown q1 _ _
  have c2 : ∀ dd os, (Sort.grow (redrawn w dd) os).cell? ⟨b.x, 0, none⟩ = some (ptr g off) := fun dd os => cell_regrown q2 _ _
  have c3 : ∀ dd os, (Sort.grow (redrawn w dd) os).cell? ⟨g, off, none⟩ = _ := fun dd os => cell_regrown q3 _ _
  generalize layVal (.pens n) = T at *
  clear HL hF ho ht hs q1 q2 q3
  have hbg := hid (fun dq osq => below_regrown w dq osq)
  simp only [layFn] at c1
  go_enter Tryz.func215, Tryz.ntmps215
  go_wp2_with fail
  refine wp_region_quiet_below (by kernel_rfl) (by kernel_rfl) ?_
  iterate 4 (first | go_big_quiet_step (fail) | quiet_step (fail))
  (first | go_big_quiet_step (exact HC _ _) | quiet_step (exact HC _ _))
  iterate 1 (first | go_big_quiet_step (fail) | quiet_step (fail))
  refine wpQuiet_nil ?_
  intro _ hw'
  obtain ⟨⟨dq, osq⟩, hw''⟩ := hw'
  subst hw''
  have HBq := hid (hbg.out dq osq)
  go_wp2
  go_ret
  exact ⟨rfl, HBq.out⟩

def sz : Slot → Nat
  | .inr (.inr (.inl _)) => 32
  | _ => 1
/-- The cells that a value takes. -/
def cc (cv : Value) : Val → List Value
  | .inr (.inr (.inl d)) => dg d
  | _ => [cv]
/-- A value came to lie at its place, and nothing else has changed of what there was. -/
def StoreAt (w : World) (g : Nat) (A C : List Value) (t : TypeId) (v : Val) (w' : World) : Prop := ∃ cv w1, Below w.heap.size w w1 ∧ CvAt w1 cv v ∧ Fr w.heap.size cv ∧ w'.heap[g]? = some (.cells (A ++ (cc cv v ++ C)).toArray t) ∧ But g w1 w'
theorem rdDig_32 (s : List UInt8) (p : Nat) : ∀ d, (rdVal .dig s p).2.1 = .dig d → d.length = 32 := by
  intro d hd
  have hd : (rdDig s p).2.1 = .dig d := hd
  unfold rdDig at hd
  by_cases h : (Lay.readTxt (s.drop p)).1 ≠ 0
  · rw [if_pos h] at hd; cases hd; rfl
  · rw [if_neg h] at hd
    by_cases h2 : (Lay.readTxt (s.drop p)).2.1.length = 32
    · rw [if_pos h2] at hd; cases hd; exact h2
    · rw [if_neg h2] at hd; cases hd; rfl
theorem froz {w : World} {g off : Nat} {cs : Array Value} {t : TypeId} (h : w.heap[g]? = some (.cells cs t)) : w.frozen? ⟨g, off, none⟩ = false := by simp [World.frozen?, h]
theorem one_old {old : List Value} (h : old.length = 1) : ∃ v, old = [v] := by
  match old, h with
  | [v], _ => exact ⟨v, rfl⟩

set_option maxHeartbeats 2000000 in
theorem c2_num (HR : ReadOne .num) {w : World} {g off : Nat} {b : Bx} (hF : FieldAt w .num g off b) (A old C : List Value) (t : TypeId) (hg : w.heap[g]? = some (.cells (A ++ (old ++ C)).toArray t)) (hA : A.length = off) (hl : old.length = sz .num) (s : List UInt8) (p : Nat) (hp : p ≤ s.length) (hs : s.length ≤ 281474976710656) (ht : Tb w) :
    Calls Tryz.prog 169 #[st s, nu p, ptr b.r 0, ptr b.x 0] w fun e w' => e = .returned (.tuple #[nu (rdVal .num s p).2.2, nu (rdVal .num s p).1]) ∧ StoreAt w g A C t (rdVal .num s p).2.1 w' := by
  have q1 := cell_one hF.hr
  have HX := hid hF.hx
  simp only [readFn] at q1
  have HC := hid (HR s p hp hs w ht)
  have HSl := hid (rdVal_slot .num s p)
  have HG := hid hg
  simp only [readFn] at HC
  generalize (rdVal .num s p).2.2 = to1 at *
  generalize (rdVal .num s p).1 = e1 at *
  generalize (rdVal .num s p).2.1 = x at *
  clear hp hs ht HR hF hg
  obtain ⟨o1, rfl⟩ := one_old hl
  clear hl
  go_enter Tryz.func169, Tryz.ntmps169
  go_wp2_with fail
  refine HC.out.mono ?_
  rintro e w1 ⟨cv, rfl, hcv, hfr, hb⟩
  have HCV := hid hcv
  have HFr := hid hfr
  have HB := hid hb
  have q2 := cell_one (row_kept HX.out hb)
  have R1 := hid (row_kept HG.out hb)
  have q3 : w1.cell? ⟨g, off, none⟩ = some o1 := row_cell R1.out rfl hA
  have q4 : w1.frozen? ⟨g, off, none⟩ = false := froz R1.out
  obtain ⟨n, rfl⟩ := of_num HSl.out
  obtain rfl : cv = nu n := hcv
  clear hb hfr HC HX HG q1
  go_wp2
  go_ret2
  exact ⟨rfl, _, w1, HB.out, HCV.out, HFr.out, row_set R1.out hA, but_setCell w1 g off _⟩

set_option maxHeartbeats 2000000 in
theorem c3_num {w : World} {g off : Nat} {b : Bx} (hF : FieldAt w .num g off b) (A old C : List Value) (t : TypeId) (hg : w.heap[g]? = some (.cells (A ++ (old ++ C)).toArray t)) (hA : A.length = off) (hl : old.length = sz .num) :
    Calls Tryz.prog 170 #[ptr b.x 0] w fun e w' => e = .returned (.tuple #[]) ∧ StoreAt w g A C t (Slot.zero .num) w' := by
  obtain ⟨o1, rfl⟩ := one_old hl
  have q2 := cell_one hF.hx
  have q3 : w.cell? ⟨g, off, none⟩ = some o1 := row_cell hg rfl hA
  have q4 : w.frozen? ⟨g, off, none⟩ = false := froz hg
  have HG := hid hg
  clear hF hl hg
  go_enter Tryz.func170, Tryz.ntmps170
  go_wp2
  go_end0
  exact ⟨rfl, nu 0, w, Below.refl _ _, rfl, (fun a n c h => by cases h), row_set HG.out hA, but_setCell w g off _⟩

set_option maxHeartbeats 2000000 in
theorem c2_txt (HR : ReadOne .txt) {w : World} {g off : Nat} {b : Bx} (hF : FieldAt w .txt g off b) (A old C : List Value) (t : TypeId) (hg : w.heap[g]? = some (.cells (A ++ (old ++ C)).toArray t)) (hA : A.length = off) (hl : old.length = sz .txt) (s : List UInt8) (p : Nat) (hp : p ≤ s.length) (hs : s.length ≤ 281474976710656) (ht : Tb w) :
    Calls Tryz.prog 172 #[st s, nu p, ptr b.r 0, ptr b.x 0] w fun e w' => e = .returned (.tuple #[nu (rdVal .txt s p).2.2, nu (rdVal .txt s p).1]) ∧ StoreAt w g A C t (rdVal .txt s p).2.1 w' := by
  have q1 := cell_one hF.hr
  have HX := hid hF.hx
  simp only [readFn] at q1
  have HC := hid (HR s p hp hs w ht)
  have HSl := hid (rdVal_slot .txt s p)
  have HG := hid hg
  simp only [readFn] at HC
  generalize (rdVal .txt s p).2.2 = to1 at *
  generalize (rdVal .txt s p).1 = e1 at *
  generalize (rdVal .txt s p).2.1 = x at *
  clear hp hs ht HR hF hg
  obtain ⟨o1, rfl⟩ := one_old hl
  clear hl
  go_enter Tryz.func172, Tryz.ntmps172
  go_wp2_with fail
  refine HC.out.mono ?_
  rintro e w1 ⟨cv, rfl, hcv, hfr, hb⟩
  have HCV := hid hcv
  have HFr := hid hfr
  have HB := hid hb
  have q2 := cell_one (row_kept HX.out hb)
  have R1 := hid (row_kept HG.out hb)
  have q3 : w1.cell? ⟨g, off, none⟩ = some o1 := row_cell R1.out rfl hA
  have q4 : w1.frozen? ⟨g, off, none⟩ = false := froz R1.out
  obtain ⟨n, rfl⟩ := of_txt HSl.out
  obtain rfl : cv = st n := hcv
  clear hb hfr HC HX HG q1
  go_wp2
  go_ret2
  exact ⟨rfl, _, w1, HB.out, HCV.out, HFr.out, row_set R1.out hA, but_setCell w1 g off _⟩

set_option maxHeartbeats 2000000 in
theorem c3_txt {w : World} {g off : Nat} {b : Bx} (hF : FieldAt w .txt g off b) (A old C : List Value) (t : TypeId) (hg : w.heap[g]? = some (.cells (A ++ (old ++ C)).toArray t)) (hA : A.length = off) (hl : old.length = sz .txt) :
    Calls Tryz.prog 173 #[ptr b.x 0] w fun e w' => e = .returned (.tuple #[]) ∧ StoreAt w g A C t (Slot.zero .txt) w' := by
  obtain ⟨o1, rfl⟩ := one_old hl
  have q2 := cell_one hF.hx
  have q3 : w.cell? ⟨g, off, none⟩ = some o1 := row_cell hg rfl hA
  have q4 : w.frozen? ⟨g, off, none⟩ = false := froz hg
  have HG := hid hg
  clear hF hl hg
  go_enter Tryz.func173, Tryz.ntmps173
  go_wp2
  go_end0
  exact ⟨rfl, st [], w, Below.refl _ _, rfl, (fun a n c h => by cases h), row_set HG.out hA, but_setCell w g off _⟩

set_option maxHeartbeats 2000000 in
theorem c2_dig (HR : ReadOne .dig) {w : World} {g off : Nat} {b : Bx} (hF : FieldAt w .dig g off b) (A old C : List Value) (t : TypeId) (hg : w.heap[g]? = some (.cells (A ++ (old ++ C)).toArray t)) (hA : A.length = off) (hl : old.length = sz .dig) (s : List UInt8) (p : Nat) (hp : p ≤ s.length) (hs : s.length ≤ 281474976710656) (ht : Tb w) :
    Calls Tryz.prog 176 #[st s, nu p, ptr b.r 0, ptr b.x 0] w fun e w' => e = .returned (.tuple #[nu (rdVal .dig s p).2.2, nu (rdVal .dig s p).1]) ∧ StoreAt w g A C t (rdVal .dig s p).2.1 w' := by
  have q1 := cell_one hF.hr
  have HX := hid hF.hx
  simp only [readFn] at q1
  have HC := hid (HR s p hp hs w ht)
  have HSl := hid (rdVal_slot .dig s p)
  have HG := hid hg
  have HSd := hid (rdDig_32 s p)
  simp only [readFn] at HC
  generalize (rdVal .dig s p).2.2 = to1 at *
  generalize (rdVal .dig s p).1 = e1 at *
  generalize (rdVal .dig s p).2.1 = x at *
  clear hp hs ht HR hF hg
  have HZ := zeroDig
  have hZl : Hid ((dg zeroD).length = 32) := show (dg zeroD).length = 32 from rfl
  have HLn := hid hl
  generalize dg zeroD = Z at *
  clear hl
  go_enter Tryz.func176, Tryz.ntmps176
  go_wp2_with fail
  refine HC.out.mono ?_
  rintro e w1 ⟨cv, rfl, hcv, hfr, hb⟩
  obtain ⟨n, hn⟩ := of_dig HSl.out
  have hn32 := HSd.out n hn
  subst hn
  obtain rfl : cv = .agg (dg n).toArray := hcv
  have hDl : Hid ((dg n).length = 32) := (dg_len _).trans hn32
  have HOD := hid (one_dg n)
  have HFin := hid (fun (w2 w3 : World) (h1 : Below w.heap.size w w2) (h2 : w3.heap[g]? = some (.cells (A ++ (dg n ++ C)).toArray t)) (h3 : But g w2 w3) => (⟨_, w2, h1, rfl, (fun a n c h => by cases h), h2, h3⟩ : StoreAt w g A C t (.dig n) w3))
  generalize dg n = D at *
  have hID : (Tryz.prog.info? 23).map (·.size) = some D.length := by rw [hDl.out]; exact sizeDig
  have hLZ : Z.length = D.length := hZl.out.trans hDl.out.symm
  have hLo : old.length = D.length := HLn.out.trans hDl.out.symm
  have HB := hid (below_two hb (below_a1 w1 (.cells D.toArray 23)))
  have q2 := cell_one (row_kept (row_kept HX.out hb) (below_a1 w1 (.cells D.toArray 23)))
  have R1 := hid (row_kept (row_kept HG.out hb) (below_a1 w1 (.cells D.toArray 23)))
  have T1 := hid (top_obj w1 (.cells D.toArray 23))
  have S1 := hid (row_seg (off := 0) (A := []) (cs := D) (C := []) T1.out (by simp) rfl)
  clear hb hfr HC HX HG q1 HSl hn32
  go_upto_region 2 with (first | ((with_reducible refine wl_alloc 23 ?_ ?_ Z.toArray HZ ?_); exact rfl; exact rfl) | ((with_reducible refine wl_store_top 23 (.tmp 8) (.tmp 16) ?_ ?_ ?_ ?_ D Z ?_ 23 hLZ HOD.out hID ?_); exact rfl; exact rfl; exact rfl; exact rfl; exact rfl))
  obtain ⟨g2, hg2⟩ : ∃ g2, g2 = w1.heap.size := ⟨_, rfl⟩
  generalize w1.alloc (.cells D.toArray 23) = W3 at *
  rw [← hg2] at S1 ⊢
  clear T1 hg2
  go_wp2_with (first | ((with_reducible refine wl_load 23 (.tmp 8) ?_ g2 0 ?_ ?_ D _ S1.out Tryz.underlying23 ?_ hID ?_); exact rfl; exact rfl; exact rfl; exact rfl) | ((with_reducible refine wl_put 23 (.tmp 21) (.tmp 20) ?_ ?_ g off ?_ ?_ A D old C ?_ t R1.out hA hLo HOD.out hID ?_); exact rfl; exact rfl; exact rfl; exact rfl; exact rfl; intro w4 hr4 hbut))
  go_ret2
  exact ⟨rfl, HFin.out _ _ HB.out hr4 hbut⟩

set_option maxHeartbeats 2000000 in
theorem c3_dig {w : World} {g off : Nat} {b : Bx} (hF : FieldAt w .dig g off b) (A old C : List Value) (t : TypeId) (hg : w.heap[g]? = some (.cells (A ++ (old ++ C)).toArray t)) (hA : A.length = off) (hl : old.length = sz .dig) :
    Calls Tryz.prog 177 #[ptr b.x 0] w fun e w' => e = .returned (.tuple #[]) ∧ StoreAt w g A C t (Slot.zero .dig) w' := by
  have HZ := zeroDig
  have hZl : Hid ((dg zeroD).length = 32) := show (dg zeroD).length = 32 from rfl
  have HOD := hid (one_dg zeroD)
  have HFin := hid (fun (w2 w3 : World) (h1 : Below w.heap.size w w2) (h2 : w3.heap[g]? = some (.cells (A ++ (dg zeroD ++ C)).toArray t)) (h3 : But g w2 w3) => (⟨_, w2, h1, rfl, (fun a n c h => by cases h), h2, h3⟩ : StoreAt w g A C t (Slot.zero .dig) w3))
  generalize dg zeroD = D at *
  have hID : (Tryz.prog.info? 23).map (·.size) = some D.length := by rw [hZl.out]; exact sizeDig
  have hLo : old.length = D.length := hl.trans hZl.out.symm
  have HB := hid (below_a1 w (.cells D.toArray 23))
  have q2 := cell_one (row_kept hF.hx (below_a1 w (.cells D.toArray 23)))
  have R1 := hid (row_kept hg (below_a1 w (.cells D.toArray 23)))
  have S1 := hid (row_seg (off := 0) (A := []) (cs := D) (C := []) (top_obj w (.cells D.toArray 23)) (by simp) rfl)
  clear hF hg hl hZl
  go_enter Tryz.func177, Tryz.ntmps177
  go_upto_region 1 with (first | ((with_reducible refine wl_alloc 23 ?_ ?_ D.toArray HZ ?_); exact rfl; exact rfl))
  obtain ⟨g2, hg2⟩ : ∃ g2, g2 = w.heap.size := ⟨_, rfl⟩
  generalize w.alloc (.cells D.toArray 23) = W3 at *
  rw [← hg2] at S1 ⊢
  clear hg2
  go_wp2_with (first | ((with_reducible refine wl_load 23 (.tmp 1) ?_ g2 0 ?_ ?_ D _ S1.out Tryz.underlying23 ?_ hID ?_); exact rfl; exact rfl; exact rfl; exact rfl) | ((with_reducible refine wl_put 23 (.tmp 4) (.tmp 3) ?_ ?_ g off ?_ ?_ A D old C ?_ t R1.out hA hLo HOD.out hID ?_); exact rfl; exact rfl; exact rfl; exact rfl; exact rfl; intro w4 hr4 hbut))
  go_end0
  exact ⟨rfl, HFin.out _ _ HB.out hr4 hbut⟩

set_option maxHeartbeats 2000000 in
theorem c2_nums (HR : ReadOne .nums) {w : World} {g off : Nat} {b : Bx} (hF : FieldAt w .nums g off b) (A old C : List Value) (t : TypeId) (hg : w.heap[g]? = some (.cells (A ++ (old ++ C)).toArray t)) (hA : A.length = off) (hl : old.length = sz .nums) (s : List UInt8) (p : Nat) (hp : p ≤ s.length) (hs : s.length ≤ 281474976710656) (ht : Tb w) :
    Calls Tryz.prog 184 #[st s, nu p, ptr b.r 0, ptr b.x 0] w fun e w' => e = .returned (.tuple #[nu (rdVal .nums s p).2.2, nu (rdVal .nums s p).1]) ∧ StoreAt w g A C t (rdVal .nums s p).2.1 w' := by
  have q1 := cell_one hF.hr
  have HX := hid hF.hx
  simp only [readFn] at q1
  have HC := hid (HR s p hp hs w ht)
  have HSl := hid (rdVal_slot .nums s p)
  have HG := hid hg
  simp only [readFn] at HC
  generalize (rdVal .nums s p).2.2 = to1 at *
  generalize (rdVal .nums s p).1 = e1 at *
  generalize (rdVal .nums s p).2.1 = x at *
  clear hp hs ht HR hF hg
  obtain ⟨o1, rfl⟩ := one_old hl
  clear hl
  go_enter Tryz.func184, Tryz.ntmps184
  go_wp2_with fail
  refine HC.out.mono ?_
  rintro e w1 ⟨cv, rfl, hcv, hfr, hb⟩
  have HCV := hid hcv
  have HFr := hid hfr
  have HB := hid hb
  have q2 := cell_one (row_kept HX.out hb)
  have R1 := hid (row_kept HG.out hb)
  have q3 : w1.cell? ⟨g, off, none⟩ = some o1 := row_cell R1.out rfl hA
  have q4 : w1.frozen? ⟨g, off, none⟩ = false := froz R1.out
  obtain ⟨n, rfl⟩ := of_nums HSl.out
  obtain ⟨av, cap, rfl, -⟩ := hcv
  clear hb hfr HC HX HG q1
  go_wp2
  go_ret2
  exact ⟨rfl, _, w1, HB.out, HCV.out, HFr.out, row_set R1.out hA, but_setCell w1 g off _⟩

set_option maxHeartbeats 2000000 in
theorem c3_nums {w : World} {g off : Nat} {b : Bx} (hF : FieldAt w .nums g off b) (A old C : List Value) (t : TypeId) (hg : w.heap[g]? = some (.cells (A ++ (old ++ C)).toArray t)) (hA : A.length = off) (hl : old.length = sz .nums) :
    Calls Tryz.prog 185 #[ptr b.x 0] w fun e w' => e = .returned (.tuple #[]) ∧ StoreAt w g A C t (Slot.zero .nums) w' := by
  obtain ⟨o1, rfl⟩ := one_old hl
  have q2 := cell_one hF.hx
  have q3 : w.cell? ⟨g, off, none⟩ = some o1 := row_cell hg rfl hA
  have q4 : w.frozen? ⟨g, off, none⟩ = false := froz hg
  have HG := hid hg
  clear hF hl hg
  go_enter Tryz.func185, Tryz.ntmps185
  go_wp2
  go_end0
  exact ⟨rfl, (.slice none 0 0), w, Below.refl _ _, IntsAt.nil w, (fun a n c h => by cases h), row_set HG.out hA, but_setCell w g off _⟩

set_option maxHeartbeats 2000000 in
theorem c2_pens (HR : ReadOne .pens) {w : World} {g off : Nat} {b : Bx} (hF : FieldAt w .pens g off b) (A old C : List Value) (t : TypeId) (hg : w.heap[g]? = some (.cells (A ++ (old ++ C)).toArray t)) (hA : A.length = off) (hl : old.length = sz .pens) (s : List UInt8) (p : Nat) (hp : p ≤ s.length) (hs : s.length ≤ 281474976710656) (ht : Tb w) :
    Calls Tryz.prog 216 #[st s, nu p, ptr b.r 0, ptr b.x 0] w fun e w' => e = .returned (.tuple #[nu (rdVal .pens s p).2.2, nu (rdVal .pens s p).1]) ∧ StoreAt w g A C t (rdVal .pens s p).2.1 w' := by
  have q1 := cell_one hF.hr
  have HX := hid hF.hx
  simp only [readFn] at q1
  have HC := hid (HR s p hp hs w ht)
  have HSl := hid (rdVal_slot .pens s p)
  have HG := hid hg
  simp only [readFn] at HC
  generalize (rdVal .pens s p).2.2 = to1 at *
  generalize (rdVal .pens s p).1 = e1 at *
  generalize (rdVal .pens s p).2.1 = x at *
  clear hp hs ht HR hF hg
  obtain ⟨o1, rfl⟩ := one_old hl
  clear hl
  go_enter Tryz.func216, Tryz.ntmps216
  go_wp2_with fail
  refine HC.out.mono ?_
  rintro e w1 ⟨cv, rfl, hcv, hfr, hb⟩
  have HCV := hid hcv
  have HFr := hid hfr
  have HB := hid hb
  have q2 := cell_one (row_kept HX.out hb)
  have R1 := hid (row_kept HG.out hb)
  have q3 : w1.cell? ⟨g, off, none⟩ = some o1 := row_cell R1.out rfl hA
  have q4 : w1.frozen? ⟨g, off, none⟩ = false := froz R1.out
  obtain ⟨n, rfl⟩ := of_pens HSl.out
  obtain ⟨av, cap, rfl, -⟩ := hcv
  clear hb hfr HC HX HG q1
  go_wp2
  go_ret2
  exact ⟨rfl, _, w1, HB.out, HCV.out, HFr.out, row_set R1.out hA, but_setCell w1 g off _⟩

set_option maxHeartbeats 2000000 in
theorem c3_pens {w : World} {g off : Nat} {b : Bx} (hF : FieldAt w .pens g off b) (A old C : List Value) (t : TypeId) (hg : w.heap[g]? = some (.cells (A ++ (old ++ C)).toArray t)) (hA : A.length = off) (hl : old.length = sz .pens) :
    Calls Tryz.prog 217 #[ptr b.x 0] w fun e w' => e = .returned (.tuple #[]) ∧ StoreAt w g A C t (Slot.zero .pens) w' := by
  obtain ⟨o1, rfl⟩ := one_old hl
  have q2 := cell_one hF.hx
  have q3 : w.cell? ⟨g, off, none⟩ = some o1 := row_cell hg rfl hA
  have q4 : w.frozen? ⟨g, off, none⟩ = false := froz hg
  have HG := hid hg
  clear hF hl hg
  go_enter Tryz.func217, Tryz.ntmps217
  go_wp2
  go_end0
  exact ⟨rfl, (.slice none 0 0), w, Below.refl _ _, PensAt.nil w, (fun a n c h => by cases h), row_set HG.out hA, but_setCell w g off _⟩
end Go.Proofs.YtidlgecognedlaaGreatDoor.Ms
