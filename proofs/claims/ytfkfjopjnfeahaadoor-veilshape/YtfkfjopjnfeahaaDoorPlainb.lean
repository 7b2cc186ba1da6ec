/-
  A block's words as they are laid one byte behind the other; cells of words and bytes. No program plays a part.
-/
import Derived.Test.YtfkfjopjnfeahaaDoorPlain
namespace Go.Proofs.YtfkfjopjnfeahaaDoor
open Go
set_option maxRecDepth 100000

def cb (c : UInt8) : Value := .int .u8 (bv c)
def cw (x : W32) : Value := .int .u32 (wv x)

def w1 (b : List UInt8) : Nat → List W32
  | 0 => List.replicate 64 0
  | i + 1 => (w1 b i).set (i / 4) ((w1 b i).getD (i / 4) 0 <<< 8 ||| BitVec.ofNat 32 (b.getD i 0).toNat)

theorem w1_len (b : List UInt8) (i : Nat) : (w1 b i).length = 64 := by
  induction i with
  | zero => rfl
  | succ i ih => simp [w1, ih]

theorem set_mid {α : Type} (l r : List α) (x y : α) : (l ++ x :: r).set l.length y = l ++ y :: r := by simp
theorem getD_mid {α : Type} (l r : List α) (x d : α) : (l ++ x :: r).getD l.length d = x := by simp

theorem w1_step (b : List UInt8) (i k : Nat) (l r : List W32) (x : W32) (hl : l.length = k) (hi : i / 4 = k) (h : w1 b i = l ++ x :: r) :
    w1 b (i + 1) = l ++ BitVec.ofNat 32 (x.toNat * 256 + (b.getD i 0).toNat) :: r := by
  rw [w1, h, hi]; subst hl; rw [set_mid, getD_mid, or_byte]

theorem four (b : List UInt8) (k : Nat) (l r : List W32) (hl : l.length = k) (h : w1 b (4 * k) = l ++ 0 :: r) : w1 b (4 * (k + 1)) = l ++ wrd b k :: r := by
  have h1 := w1_step b (4 * k) k l r 0 hl (by omega) h
  have h2 := w1_step b (4 * k + 1) k l r _ hl (by omega) h1
  have h3 := w1_step b (4 * k + 2) k l r _ hl (by omega) h2
  have h4 := w1_step b (4 * k + 3) k l r _ hl (by omega) h3
  rw [show 4 * (k + 1) = 4 * k + 3 + 1 by omega, h4]
  congr 2
  unfold wrd
  have a0 := (b.getD (4 * k) 0).toNat_lt
  have a1 := (b.getD (4 * k + 1) 0).toNat_lt
  have a2 := (b.getD (4 * k + 2) 0).toNat_lt
  have a3 := (b.getD (4 * k + 3) 0).toNat_lt
  apply BitVec.eq_of_toNat_eq
  simp only [BitVec.toNat_ofNat]
  omega

theorem w1_at (b : List UInt8) (k : Nat) (hk : k ≤ 16) : w1 b (4 * k) = firsts b k ++ List.replicate (64 - k) 0 := by
  induction k with
  | zero => rfl
  | succ k ih =>
    have e : List.replicate (64 - k) (0 : W32) = 0 :: List.replicate (64 - (k + 1)) 0 := by rw [← List.replicate_succ]; congr 1; omega
    have h := ih (by omega)
    rw [e] at h
    rw [four b k _ _ (firsts_len b k) h, firsts]
    simp

theorem w1_end (b : List UInt8) : w1 b 64 = sched b 0 ++ List.replicate 48 0 := w1_at b 16 (Nat.le_refl _)

/-- The words so far, and no more yet. -/
def wq (b : List UInt8) (n : Nat) : List W32 := sched b n ++ List.replicate (48 - n) 0
theorem wq_len (b : List UInt8) (n : Nat) (h : n ≤ 48) : (wq b n).length = 64 := by unfold wq; rw [List.length_append, sched_len, List.length_replicate]; omega
theorem wq_end (b : List UInt8) : wq b 48 = sched b 48 := by simp [wq]
theorem wq_at (b : List UInt8) (n j : Nat) (h : j < 16 + n) : (wq b n).getD j 0 = (sched b n).getD j 0 := by
  unfold wq; simp only [List.getD]; rw [List.getElem?_append_left (by rw [sched_len]; exact h)]
theorem wq_step (b : List UInt8) (n : Nat) (h : n < 48) :
    (wq b n).set (n + 16) (sig1 ((wq b n).getD (n + 14) 0) + (wq b n).getD (n + 9) 0 + sig0 ((wq b n).getD (n + 1) 0) + (wq b n).getD n 0) = wq b (n + 1) := by
  rw [wq_at b n _ (by omega), wq_at b n _ (by omega), wq_at b n _ (by omega), wq_at b n _ (by omega)]
  unfold wq
  have e : List.replicate (48 - n) (0 : W32) = 0 :: List.replicate (48 - (n + 1)) 0 := by rw [← List.replicate_succ]; congr 1; omega
  have hl := sched_len b n
  rw [e, show n + 16 = (sched b n).length by omega, set_mid, sched, more, hl]
  simp only [show 16 + n - 2 = n + 14 by omega, show 16 + n - 7 = n + 9 by omega, show 16 + n - 15 = n + 1 by omega, show 16 + n - 16 = n by omega, List.append_assoc, List.singleton_append]

theorem cw_at (l : List W32) (C : Array Value) (h : C = (l.map cw).toArray) (i : Nat) (hi : i < l.length) : C[i]? = some (.int .u32 (wv (l.getD i 0))) := by
  subst h
  simp [List.getD, cw, List.getElem?_eq_getElem hi]
theorem cw_set (l : List W32) (C : Array Value) (h : C = (l.map cw).toArray) (i : Nat) (x : W32) : C.setIfInBounds i (.int .u32 (wv x)) = ((l.set i x).map cw).toArray := by
  subst h
  simp [cw, List.map_set]
theorem cw_size (l : List W32) (C : Array Value) (h : C = (l.map cw).toArray) (n : Nat) (hl : l.length = n) : C.size = n := by
  subst h; simpa using hl
theorem cb_at (b : List UInt8) (i : Nat) (hi : i < b.length) : (b.map cb)[i]? = some (.int .u8 (bv (b.getD i 0))) := by
  simp [List.getD, cb, List.getElem?_eq_getElem hi]
theorem one_cw (l : List W32) : ∀ v ∈ l.map cw, v.oneCell' = true := by
  intro v hv; simp only [List.mem_map] at hv; obtain ⟨x, -, rfl⟩ := hv; rfl
theorem one_cb (l : List UInt8) : ∀ v ∈ l.map cb, v.oneCell' = true := by
  intro v hv; simp only [List.mem_map] at hv; obtain ⟨x, -, rfl⟩ := hv; rfl
theorem wv_byte (x : W32) (c : UInt8) : bits .or .u32 (wv x * 256 % 4294967296) (bv c) = wv (x <<< 8 ||| BitVec.ofNat 32 c.toNat) := by
  have hc : bv c = wv (BitVec.ofNat 32 c.toNat) := by
    have := c.toNat_lt
    unfold bv wv; rw [BitVec.toNat_ofNat]; omega
  rw [hc, show (256 : Int) = 2 ^ 8 from rfl, wv_shl', wv_or]
end Go.Proofs.YtfkfjopjnfeahaaDoor
