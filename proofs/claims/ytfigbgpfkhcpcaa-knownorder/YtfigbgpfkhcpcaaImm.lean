/-
  What is known, in memory: the program's (52 cells) and the reference's (its list of lines). What New, made, has, endsWith answer.
-/
import Derived.Test.YtfigbgpfkhcpcaaIpl
import Derived.Test.YtfigbgpfkhcpcaaIrg
import Derived.Test.YtfigbgpfkhcpcaaHref
import Derived.Test.YtfigbgpfkhcpcaaHri
namespace Go.Proofs.Ytfigbgpfkhcpcaa.Kn
open Go Go.RowKit
set_option maxRecDepth 100000

def wC (f : Int → Nat) : List Value := (List.range 8).map fun (i : Nat) => nu (f (i : Int))
theorem wC_len (f : Int → Nat) : (wC f).length = 8 := by simp [wC]
theorem wC_at (f : Int → Nat) (i : Nat) (hi : i < 8) : (wC f)[i]? = some (nu (f (i : Int))) := by simp [wC, hi]
def upd (f : Int → Nat) (i : Int) (v : Nat) : Int → Nat := fun j => if j = i then v else f j
theorem wC_set (f : Int → Nat) (i : Nat) (v : Nat) (hi : i < 8) : wC f = (wC f).take i ++ ([nu (f (i : Int))] ++ (wC f).drop (i + 1)) ∧ wC (upd f i v) = (wC f).take i ++ ([nu v] ++ (wC f).drop (i + 1)) := by
  have e : ∀ g : Int → Nat, wC g = [nu (g 0), nu (g 1), nu (g 2), nu (g 3), nu (g 4), nu (g 5), nu (g 6), nu (g 7)] := fun g => by simp [wC, List.range_succ]
  rw [e f, e (upd f i v)]
  have h8 : i = 0 ∨ i = 1 ∨ i = 2 ∨ i = 3 ∨ i = 4 ∨ i = 5 ∨ i = 6 ∨ i = 7 := by omega
  rcases h8 with rfl | rfl | rfl | rfl | rfl | rfl | rfl | rfl <;> simp [upd]
def krow (n me : Int) (T : List UInt8) (b : Int) (tg : List UInt8) (f g : Int → Nat) : List Value := [nu n, nu me, st T, nu b] ++ (dg tg ++ (wC f ++ wC g))
def kC (n me : Int) (L : List Ln) : List Value := krow n me (longL L) (topL L).byc (topL L).tag (wl L) (ol L)
/-- The program's: in block p, what is known behind the lines L. -/
structure KAt (w : World) (p n me : Nat) (L : List Ln) : Prop where
  obj : w.heap[p]? = some (.cells (kC n me L).toArray 61)
  inv : PI n L
  n2 : 2 ≤ n
  n8 : n ≤ 8
  hme : me < n
/-- The reference's: in block q, its list v. -/
structure RAt (w : World) (q : Nat) (v : Value) (n me : Nat) (L : List Ln) : Prop where
  obj : w.heap[q]? = some (.cells #[nu n, nu me, v] 53)
  row : OwnB w 0 v L
  inv : PI n L
  n2 : 2 ≤ n
  n8 : n ≤ 8
  hme : me < n
  len : L.length ≤ 100000
section
variable {w w' : World} {p q n me : Nat} {L : List Ln} {v : Value}
theorem KAt.kp {X : List Nat} (h : KAt w p n me L) (hk : Kp X w w') (hp : p ∉ X) : KAt w' p n me L := ⟨hk.row h.obj hp, h.inv, h.n2, h.n8, h.hme⟩
theorem KAt.kept (h : KAt w p n me L) (hb : Below w.heap.size w w') : KAt w' p n me L := h.kp (X := []) (Kp.of hb) (by simp)
theorem KAt.lt (h : KAt w p n me L) : p < w.heap.size := row_lt h.obj
theorem RAt.kp {X : List Nat} (h : RAt w q v n me L) (hk : Kp X w w') (h1 : q ∉ X) (h2 : ∀ k, v.ownBlock = some k → k ∉ X) : RAt w' q v n me L :=
  ⟨hk.row h.obj h1, own_same h.row (fun k hv => hk.block k (own_lt h.row k hv) (h2 k hv)), h.inv, h.n2, h.n8, h.hme, h.len⟩
theorem RAt.kept (h : RAt w q v n me L) (hb : Below w.heap.size w w') : RAt w' q v n me L := h.kp (X := []) (Kp.of hb) (by simp) (by simp)
theorem RAt.ne (h : RAt w q v n me L) : ∀ k, v.ownBlock = some k → k ≠ q := own_ne h.row h.obj (by intro cur e; cases e)
theorem both_ne (h : KAt w p n me L) {L' : List Ln} (h' : RAt w q v n me L') : q ≠ p ∧ ∀ k, v.ownBlock = some k → k ≠ p := by
  refine ⟨?_, own_ne h'.row h.obj (by intro cur e; cases e)⟩
  rintro rfl
  have := h.obj
  rw [h'.obj] at this
  cases this
theorem RAt.c0 (h : RAt w q v n me L) : w.cell? ⟨q, 0, none⟩ = some (nu n) := by rw [cell_of_row _ _ _ _ _ _ h.obj]; rfl
theorem RAt.c1 (h : RAt w q v n me L) : w.cell? ⟨q, 1, none⟩ = some (nu me) := by rw [cell_of_row _ _ _ _ _ _ h.obj]; rfl
theorem RAt.c2 (h : RAt w q v n me L) : w.cell? ⟨q, 2, none⟩ = some v := by rw [cell_of_row _ _ _ _ _ _ h.obj]; rfl
section
variable {a b : Int} {T : List UInt8} {c : Int} {tg : List UInt8} {f g : Int → Nat} {t : TypeId}
theorem kr0 (h : w.heap[p]? = some (.cells (krow a b T c tg f g).toArray t)) : w.cell? ⟨p, 0, none⟩ = some (nu a) := row_cell (A := []) (C := [nu b, st T, nu c] ++ (dg tg ++ (wC f ++ wC g))) h rfl rfl
theorem kr1 (h : w.heap[p]? = some (.cells (krow a b T c tg f g).toArray t)) : w.cell? ⟨p, 1, none⟩ = some (nu b) := row_cell (A := [nu a]) (C := [st T, nu c] ++ (dg tg ++ (wC f ++ wC g))) h rfl rfl
theorem kr2 (h : w.heap[p]? = some (.cells (krow a b T c tg f g).toArray t)) : w.cell? ⟨p, 2, none⟩ = some (st T) := row_cell (A := [nu a, nu b]) (C := [nu c] ++ (dg tg ++ (wC f ++ wC g))) h rfl rfl
theorem kr3 (h : w.heap[p]? = some (.cells (krow a b T c tg f g).toArray t)) : w.cell? ⟨p, 3, none⟩ = some (nu c) := row_cell (A := [nu a, nu b, st T]) (C := dg tg ++ (wC f ++ wC g)) h rfl rfl
theorem kr4 (h : w.heap[p]? = some (.cells (krow a b T c tg f g).toArray t)) : ∀ j y, (dg tg)[j]? = some y → w.cell? ⟨p, 4 + j, none⟩ = some y := row_seg (A := [nu a, nu b, st T, nu c]) (C := wC f ++ wC g) h rfl rfl
theorem kr36 (h : w.heap[p]? = some (.cells (krow a b T c tg f g).toArray t)) (ht : tg.length = 32) : ∀ j y, (wC f)[j]? = some y → w.cell? ⟨p, 36 + j, none⟩ = some y := row_seg (A := [nu a, nu b, st T, nu c] ++ dg tg) (C := wC g) h (by simp [krow]) (by simp [dg_len, ht])
theorem kr44 (h : w.heap[p]? = some (.cells (krow a b T c tg f g).toArray t)) (ht : tg.length = 32) : ∀ j y, (wC g)[j]? = some y → w.cell? ⟨p, 44 + j, none⟩ = some y := row_seg (A := [nu a, nu b, st T, nu c] ++ (dg tg ++ wC f)) (C := []) h (by simp [krow]) (by simp [dg_len, ht, wC_len])
theorem krow_w {i : Nat} (hi : i < 8) (x : Nat) : krow a b T c tg f g = ([nu a, nu b, st T, nu c] ++ (dg tg ++ (wC f).take i)) ++ ([nu (f (i : Int))] ++ ((wC f).drop (i + 1) ++ wC g)) ∧ krow a b T c tg (upd f i x) g = ([nu a, nu b, st T, nu c] ++ (dg tg ++ (wC f).take i)) ++ ([nu x] ++ ((wC f).drop (i + 1) ++ wC g)) := by
  have e := wC_set f i x hi
  constructor
  · unfold krow
    conv => lhs; rw [e.1]
    simp
  · unfold krow
    rw [e.2]
    simp
theorem krow_o {i : Nat} (hi : i < 8) (x : Nat) : krow a b T c tg f g = ([nu a, nu b, st T, nu c] ++ (dg tg ++ (wC f ++ (wC g).take i))) ++ ([nu (g (i : Int))] ++ (wC g).drop (i + 1)) ∧ krow a b T c tg f (upd g i x) = ([nu a, nu b, st T, nu c] ++ (dg tg ++ (wC f ++ (wC g).take i))) ++ ([nu x] ++ (wC g).drop (i + 1)) := by
  have e := wC_set g i x hi
  constructor
  · unfold krow
    conv => lhs; rw [e.1]
    simp
  · unfold krow
    rw [e.2]
    simp
theorem krow_A {i : Nat} (hi : i < 8) (ht : tg.length = 32) : ([nu a, nu b, st T, nu c] ++ (dg tg ++ (wC f).take i)).length = 36 + i ∧ ([nu a, nu b, st T, nu c] ++ (dg tg ++ (wC f ++ (wC g).take i))).length = 44 + i := by
  constructor <;> simp [dg_len, ht, wC_len] <;> omega
end
end
theorem sizeDg {d : List UInt8} (h : d.length = 32) : (Try.prog.info? 32).map (·.size) = some (dg d).length := by rw [dg_len, h]; exact sizeDig
theorem sizeWs (f : Int → Nat) : (Try.prog.info? 59).map (·.size) = some (wC f).length := by rw [wC_len]; kernel_rfl
theorem zeroDg : (Try.prog.info? 32).map (·.zero) = some (some (.agg (dg (List.replicate 32 0)).toArray)) := by kernel_rfl
theorem build_known (W : World) (n me : Int) : (Instr.build 61 #[(0, nu n), (1, nu me), (3, nu (-1))]).run Try.prog W = .ok (.agg (krow n me [] (-1) (List.replicate 32 0) (fun _ => 0) (fun _ => 0)).toArray) W := by kernel_rfl
theorem build_rknown (W : World) (n me : Int) : (Instr.build 53 #[(0, nu n), (1, nu me)]).run Try.prog W = .ok (.agg #[nu n, nu me, .slice none 0 0]) W := by kernel_rfl
theorem build_dg (W : World) : (Instr.build 32 #[]).run Try.prog W = .ok (.agg (dg (List.replicate 32 0)).toArray) W := by kernel_rfl
theorem build_noLn (W : World) : (Instr.build 36 #[(1, nu (-1))]).run Try.prog W = .ok (.agg (lnC noLn).toArray) W := by kernel_rfl

set_option maxHeartbeats 2000000 in
theorem new_ok (n me : Nat) (h2 : 2 ≤ n) (h8 : n ≤ 8) (hm : me < n) (w : World) : Calls Try.prog 27 #[nu n, nu me] w fun e w' => e = .returned (.tuple #[pt w.heap.size 0, nu 0]) ∧ KAt w' w.heap.size n me [] ∧ Below w.heap.size w w' := by
  have d1 : decide ((n : Int) < 2) = false := decide_eq_false (by omega)
  have d2 : decide ((8 : Int) < (n : Int)) = false := decide_eq_false (by omega)
  have d3 : decide ((me : Int) < 0) = false := decide_eq_false (by omega)
  have d4 : decide ((n : Int) ≤ (me : Int)) = false := decide_eq_false (by omega)
  have hk : kC n me [] = krow n me [] (-1) (List.replicate 32 0) (fun _ => 0) (fun _ => 0) := rfl
  have HZ := hid (fun W => build_known W n me)
  obtain ⟨Z, hZ⟩ : ∃ Z, krow n me [] (-1) (List.replicate 32 0) (fun _ => 0) (fun _ => 0) = Z := ⟨_, rfl⟩
  rw [hZ] at HZ hk
  have HK := hid hk
  clear hZ hk
  go_enter Try.func27, Try.ntmps27
  go_wp2_with ((with_reducible refine wl_buildY 61 [(0, .tmp 21), (1, .tmp 22), (3, .const (nu (-1)))] ?_ ?_ Z.toArray ?_ ?_); exact rfl; exact rfl; exact HZ.out _)
  go_ret2
  refine ⟨rfl, ⟨?_, PI.nil _, h2, h8, hm⟩, below_a1 _ _⟩
  rw [HK.out]
  exact top_obj _ _
set_option maxHeartbeats 2000000 in
theorem new_bad (n me : Int) (h : n < 2 ∨ 8 < n ∨ me < 0 ∨ n ≤ me) (w : World) : Calls Try.prog 27 #[nu n, nu me] w fun e w' => e = .returned (.tuple #[.pointer none, nu 2]) ∧ w' = w := by
  have hor : n < 2 ∨ (¬ n < 2 ∧ 8 < n) ∨ (¬ n < 2 ∧ ¬ 8 < n ∧ me < 0) ∨ (¬ n < 2 ∧ ¬ 8 < n ∧ ¬ me < 0 ∧ n ≤ me) := by omega
  clear h
  rcases hor with h1 | ⟨h1, h2⟩ | ⟨h1, h2, h3⟩ | ⟨h1, h2, h3, h4⟩
  · have d1 : decide (n < 2) = true := decide_eq_true h1
    clear h1
    go_enter Try.func27, Try.ntmps27
    go_wp2
    go_ret2
    exact ⟨rfl, rfl⟩
  · have d1 : decide (n < 2) = false := decide_eq_false h1
    have d2 : decide (8 < n) = true := decide_eq_true h2
    clear h1 h2
    go_enter Try.func27, Try.ntmps27
    go_wp2
    go_ret2
    exact ⟨rfl, rfl⟩
  · have d1 : decide (n < 2) = false := decide_eq_false h1
    have d2 : decide (8 < n) = false := decide_eq_false h2
    have d3 : decide (me < 0) = true := decide_eq_true h3
    clear h1 h2 h3
    go_enter Try.func27, Try.ntmps27
    go_wp2
    go_ret2
    exact ⟨rfl, rfl⟩
  · have d1 : decide (n < 2) = false := decide_eq_false h1
    have d2 : decide (8 < n) = false := decide_eq_false h2
    have d3 : decide (me < 0) = false := decide_eq_false h3
    have d4 : decide (n ≤ me) = true := decide_eq_true h4
    clear h1 h2 h3 h4
    go_enter Try.func27, Try.ntmps27
    go_wp2
    go_ret2
    exact ⟨rfl, rfl⟩
set_option maxHeartbeats 2000000 in
theorem made_any {w : World} {p n me : Nat} {L : List Ln} (h : KAt w p n me L) : Calls Try.prog 32 #[pt p 0] w fun e w' => e = .returned (.bool true) ∧ w' = w := by
  have c0 : w.cell? ⟨p, 0, none⟩ = some (nu n) := kr0 h.obj
  have h2 := h.n2
  have d1 : decide ((0 : Int) < (n : Int)) = true := decide_eq_true (by omega)
  have d1' : decide (0 < n) = true := decide_eq_true (by omega)
  clear h
  go_enter Try.func32, Try.ntmps32
  go_wp2
  go_ret
  exact ⟨rfl, rfl⟩
theorem made_nil (w : World) : Calls Try.prog 32 #[.pointer none] w fun e w' => e = .returned (.bool false) ∧ w' = w := by
  go_enter Try.func32, Try.ntmps32
  go_wp2
  go_ret
  exact ⟨rfl, rfl⟩
def hasB (n : Nat) (c : Int) : Bool := decide (0 ≤ c) && decide (c < (n : Int))
set_option maxHeartbeats 2000000 in
theorem has_any {w : World} {p n me : Nat} {L : List Ln} (h : KAt w p n me L) (c : Int) : Calls Try.prog 33 #[pt p 0, nu c] w fun e w' => e = .returned (.bool (hasB n c)) ∧ w' = w := by
  have c0 : w.cell? ⟨p, 0, none⟩ = some (nu n) := kr0 h.obj
  clear h
  unfold hasB
  by_cases h1 : 0 ≤ c
  · have d1 : decide (0 ≤ c) = true := decide_eq_true h1
    clear h1
    go_enter Try.func33, Try.ntmps33
    go_wp2
    go_ret
    exact ⟨by simp [d1], rfl⟩
  · have d1 : decide (0 ≤ c) = false := decide_eq_false h1
    clear h1
    go_enter Try.func33, Try.ntmps33
    go_wp2
    go_ret
    exact ⟨by simp [d1], rfl⟩
theorem getD_byte (y : List UInt8) (j : Nat) (h : j < (⟨y.toArray⟩ : ByteArray).size) : ((⟨y.toArray⟩ : ByteArray)[j]'h).toNat = (y.getD j 0).toNat := by
  have h' : j < y.length := h
  show (y.toArray[j]).toNat = _
  simp [List.getD, h']
set_option maxHeartbeats 2000000 in
theorem ends_any (v : List UInt8) (c : Int) (hv : v.length ≤ 9223372036854775807) (w : World) : Calls Try.prog 38 #[st v, nu c] w fun e w' => e = .returned (.bool (endsB v c)) ∧ w' = w := by
  have hss : (⟨v.toArray⟩ : ByteArray).size = v.length := rfl
  cases hq : v with
  | nil =>
    go_enter Try.func38, Try.ntmps38
    go_wp2
    go_ret
    exact ⟨rfl, rfl⟩
  | cons x y =>
    rw [← hq]
    have hl : 0 < v.length := by rw [hq]; simp
    have hE : endsB v c = (bv (v.getD (v.length - 1) 0) == c) := by
      unfold endsB
      rw [decide_eq_true hl]
      rfl
    have he : v.isEmpty = false := by rw [hq]; rfl
    obtain ⟨m, hm⟩ : ∃ m, v.length = m + 1 := ⟨v.length - 1, by omega⟩
    have hb : ((⟨v.toArray⟩ : ByteArray)[m]'(by rw [hss]; omega)).toNat = (v.getD m 0).toNat := getD_byte v m _
    have hx2 : (v.getD m 0).toNat < 256 := (v.getD m 0).toNat_lt
    rw [hE, hm]
    show Calls _ _ _ _ fun e w' => e = .returned (.bool (bv (v.getD m 0) == c)) ∧ w' = w
    unfold bv
    generalize (v.getD m 0).toNat = b at *
    clear hE hq
    rw [hm] at hss hv
    have hv2 : v ≠ [] := fun e => by rw [e] at hm; simp at hm
    go_enter Try.func38, Try.ntmps38
    go_wp2
    go_ret
    exact ⟨rfl, rfl⟩
end Go.Proofs.Ytfigbgpfkhcpcaa.Kn
