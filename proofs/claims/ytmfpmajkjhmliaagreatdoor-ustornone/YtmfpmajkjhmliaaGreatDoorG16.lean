/-
  Words of 32 bits, blocks, rounds and sums as plain functions, and the model's arithmetic on words as theirs. No program plays a part.
-/
import Derived.Test.YtmfpmajkjhmliaaGreatDoorG04
import Derived.WalkKit
import Derived.Test.YtmfpmajkjhmliaaGreatDoorProg
import Derived.Below
import Derived.BigQuiet
namespace Go.Proofs.YtmfpmajkjhmliaaGreatDoor
open Go
set_option maxRecDepth 100000
abbrev W32 := BitVec 32
def wv (x : W32) : Int := (x.toNat : Int)
theorem wv_range (x : W32) : 0 ≤ wv x ∧ wv x < 4294967296 := by
  have := x.isLt
  unfold wv
  omega
theorem wv_xor (a b : W32) : bits .xor .u32 (wv a) (wv b) = wv (a ^^^ b) := by
  unfold wv; rw [u32_xor_nat _ _ a.isLt b.isLt, BitVec.toNat_xor]
theorem wv_and (a b : W32) : bits .and .u32 (wv a) (wv b) = wv (a &&& b) := by
  unfold wv; rw [u32_and_nat _ _ a.isLt b.isLt, BitVec.toNat_and]
theorem wv_or (a b : W32) : bits .or .u32 (wv a) (wv b) = wv (a ||| b) := by
  unfold wv; rw [u32_or_nat _ _ a.isLt b.isLt, BitVec.toNat_or]
theorem wv_add (a b : W32) : IntKind.u32.wrap (wv a + wv b) = wv (a + b) := by
  unfold wv; rw [IntKind.wrap_u32', BitVec.toNat_add]; omega
theorem wv_add' (a b : W32) : (wv a + wv b) % 4294967296 = wv (a + b) := by rw [← wv_add, IntKind.wrap_u32']
theorem wv_not (a : W32) : bits .xor .u32 4294967295 (wv a) = wv (~~~ a) := by
  have e : (4294967295 : Int) = wv (BitVec.allOnes 32) := by decide
  rw [e, wv_xor, BitVec.allOnes_xor]
theorem wv_shr (a : W32) (n : Nat) : wv a / 2 ^ n = wv (a >>> n) := by
  unfold wv; rw [BitVec.toNat_ushiftRight, Nat.shiftRight_eq_div_pow]; simp
theorem wv_shl (a : W32) (n : Nat) : IntKind.u32.wrap (wv a * 2 ^ n) = wv (a <<< n) := by
  unfold wv; rw [IntKind.wrap_u32', BitVec.toNat_shiftLeft, Nat.shiftLeft_eq]; simp
theorem wv_shl' (a : W32) (n : Nat) : wv a * 2 ^ n % 4294967296 = wv (a <<< n) := by rw [← wv_shl, IntKind.wrap_u32']
def rotr (x : W32) (n : Nat) : W32 := x >>> n ||| x <<< (32 - n)
def sig0 (x : W32) : W32 := rotr x 7 ^^^ rotr x 18 ^^^ x >>> 3
def sig1 (x : W32) : W32 := rotr x 17 ^^^ rotr x 19 ^^^ x >>> 10
structure S8 where
  (a b c d e f g h : W32)
def S8.list (s : S8) : List W32 := [s.a, s.b, s.c, s.d, s.e, s.f, s.g, s.h]
def S8.plus (s t : S8) : S8 := ⟨s.a + t.a, s.b + t.b, s.c + t.c, s.d + t.d, s.e + t.e, s.f + t.f, s.g + t.g, s.h + t.h⟩
def tem1 (k w : W32) (s : S8) : W32 := s.h + (rotr s.e 6 ^^^ rotr s.e 11 ^^^ rotr s.e 25) + ((s.e &&& s.f) ^^^ (~~~ s.e &&& s.g)) + k + w
def tem2 (s : S8) : W32 := (rotr s.a 2 ^^^ rotr s.a 13 ^^^ rotr s.a 22) + ((s.a &&& s.b) ^^^ (s.a &&& s.c) ^^^ (s.b &&& s.c))
def rnd (k w : W32) (s : S8) : S8 := ⟨tem1 k w s + tem2 s, s.a, s.b, s.c, s.d + tem1 k w s, s.e, s.f, s.g⟩
def kks : List W32 := [
  1116352408, 1899447441, 3049323471, 3921009573, 961987163, 1508970993, 2453635748, 2870763221,
  3624381080, 310598401, 607225278, 1426881987, 1925078388, 2162078206, 2614888103, 3248222580,
  3835390401, 4022224774, 264347078, 604807628, 770255983, 1249150122, 1555081692, 1996064986,
  2554220882, 2821834349, 2952996808, 3210313671, 3336571891, 3584528711, 113926993, 338241895,
  666307205, 773529912, 1294757372, 1396182291, 1695183700, 1986661051, 2177026350, 2456956037,
  2730485921, 2820302411, 3259730800, 3345764771, 3516065817, 3600352804, 4094571909, 275423344,
  430227734, 506948616, 659060556, 883997877, 958139571, 1322822218, 1537002063, 1747873779,
  1955562222, 2024104815, 2227730452, 2361852424, 2428436474, 2756734187, 3204031479, 3329325298]
def ini : S8 := ⟨1779033703, 3144134277, 1013904242, 2773480762, 1359893119, 2600822924, 528734635, 1541459225⟩
def wrd (b : List UInt8) (i : Nat) : W32 :=
  BitVec.ofNat 32 ((b.getD (4 * i) 0).toNat * 16777216 + (b.getD (4 * i + 1) 0).toNat * 65536 + (b.getD (4 * i + 2) 0).toNat * 256 + (b.getD (4 * i + 3) 0).toNat)
def firsts (b : List UInt8) : Nat → List W32
  | 0 => []
  | n + 1 => firsts b n ++ [wrd b n]
def more (l : List W32) : List W32 :=
  l ++ [sig1 (l.getD (l.length - 2) 0) + l.getD (l.length - 7) 0 + sig0 (l.getD (l.length - 15) 0) + l.getD (l.length - 16) 0]
def sched (b : List UInt8) : Nat → List W32
  | 0 => firsts b 16
  | n + 1 => more (sched b n)
def rnds (ws : List W32) (s : S8) : Nat → S8
  | 0 => s
  | n + 1 => rnd (kks.getD n 0) (ws.getD n 0) (rnds ws s n)
def comp (s : S8) (b : List UInt8) : S8 := s.plus (rnds (sched b 48) s 64)
def blkAt (m : List UInt8) (n : Nat) : List UInt8 := (m.drop (64 * n)).take 64
def after (m : List UInt8) : Nat → S8
  | 0 => ini
  | n + 1 => comp (after m n) (blkAt m n)
def wbyte (x : W32) (j : Nat) : UInt8 := UInt8.ofNat (x.toNat / 2 ^ (8 * (3 - j)))
def digOf (s : S8) : Nat → List UInt8
  | 0 => []
  | n + 1 => digOf s n ++ [wbyte (s.list.getD (n / 4) 0) (n % 4)]
def dig (s : S8) : List UInt8 := digOf s 32
def nbyte (n i : Nat) : UInt8 := UInt8.ofNat (n / 2 ^ (8 * (7 - i)))
def nbytes (n : Nat) : Nat → List UInt8
  | 0 => []
  | i + 1 => nbytes n i ++ [nbyte n i]
def tail (n : Nat) : List UInt8 := 128 :: (List.replicate ((119 - n % 64) % 64) 0 ++ nbytes (n * 8) 8)
def sha (m : List UInt8) : List UInt8 := dig (after (m ++ tail m.length) ((m ++ tail m.length).length / 64))
theorem firsts_len (b : List UInt8) (n : Nat) : (firsts b n).length = n := by
  induction n with
  | zero => rfl
  | succ n ih => simp [firsts, ih]
theorem sched_len (b : List UInt8) (n : Nat) : (sched b n).length = 16 + n := by
  induction n with
  | zero => simp [sched, firsts_len]
  | succ n ih => simp [sched, more, ih]; omega
theorem digOf_len (s : S8) (n : Nat) : (digOf s n).length = n := by
  induction n with
  | zero => rfl
  | succ n ih => simp [digOf, ih]
theorem dig_len (s : S8) : (dig s).length = 32 := digOf_len s 32
theorem nbytes_len (n i : Nat) : (nbytes n i).length = i := by
  induction i with
  | zero => rfl
  | succ i ih => simp [nbytes, ih]
theorem tail_len (n : Nat) : (tail n).length = (119 - n % 64) % 64 + 9 := by simp [tail, nbytes_len]
theorem whole (n : Nat) : (n + (tail n).length) % 64 = 0 := by rw [tail_len]; omega
theorem kks_len : kks.length = 64 := rfl
theorem list_len (s : S8) : s.list.length = 8 := rfl
theorem blkAt_app (m x : List UInt8) (n : Nat) (h : 64 * (n + 1) ≤ m.length) : blkAt (m ++ x) n = blkAt m n := by
  unfold blkAt
  rw [List.drop_append_of_le_length (by omega), List.take_append_of_le_length (by rw [List.length_drop]; omega)]
theorem after_app (m x : List UInt8) : ∀ n, 64 * n ≤ m.length → after (m ++ x) n = after m n
  | 0, _ => rfl
  | n + 1, h => by rw [after, after, after_app m x n (by omega), blkAt_app m x n h]
theorem or_byte (x : W32) (c : UInt8) : (x <<< 8 ||| BitVec.ofNat 32 c.toNat : W32) = BitVec.ofNat 32 (x.toNat * 256 + c.toNat) := by
  apply BitVec.eq_of_toNat_eq
  have hc := c.toNat_lt
  rw [BitVec.toNat_or, BitVec.toNat_shiftLeft, BitVec.toNat_ofNat, BitVec.toNat_ofNat, Nat.shiftLeft_eq, nat_join 8 _ _ (by omega) (by omega)]
  omega
open Go
set_option maxRecDepth 100000
def cw (x : W32) : Value := .int .u32 (wv x)
def w1 (b : List UInt8) : Nat → List W32
  | 0 => List.replicate 64 0
  | i + 1 => (w1 b i).set (i / 4) ((w1 b i).getD (i / 4) 0 <<< 8 ||| BitVec.ofNat 32 (b.getD i 0).toNat)
theorem w1_len (b : List UInt8) (i : Nat) : (w1 b i).length = 64 := by
  induction i with
  | zero => rfl
  | succ i ih => simp [w1, ih]
theorem set_mid {α : Type} (l r : List α) (x y : α) : (l ++ x :: r).set l.length y = l ++ y :: r := by simp
theorem getD_mid {α : Type} (l r : List α) (x d : α) : (l ++ x :: r).getD l.length d = x := by simp
theorem w1_step (b : List UInt8) (i k : Nat) (l r : List W32) (x : W32) (hl : l.length = k) (hi : i / 4 = k) (h : w1 b i = l ++ x :: r) :
    w1 b (i + 1) = l ++ BitVec.ofNat 32 (x.toNat * 256 + (b.getD i 0).toNat) :: r := by
  rw [w1, h, hi]; subst hl; rw [set_mid, getD_mid, or_byte]
theorem four (b : List UInt8) (k : Nat) (l r : List W32) (hl : l.length = k) (h : w1 b (4 * k) = l ++ 0 :: r) : w1 b (4 * (k + 1)) = l ++ wrd b k :: r := by
  have h1 := w1_step b (4 * k) k l r 0 hl (by omega) h
  have h2 := w1_step b (4 * k + 1) k l r _ hl (by omega) h1
  have h3 := w1_step b (4 * k + 2) k l r _ hl (by omega) h2
  have h4 := w1_step b (4 * k + 3) k l r _ hl (by omega) h3
  rw [show 4 * (k + 1) = 4 * k + 3 + 1 by omega, h4]
  congr 2
  unfold wrd
  have a0 := (b.getD (4 * k) 0).toNat_lt
  have a1 := (b.getD (4 * k + 1) 0).toNat_lt
  have a2 := (b.getD (4 * k + 2) 0).toNat_lt
  have a3 := (b.getD (4 * k + 3) 0).toNat_lt
  apply BitVec.eq_of_toNat_eq
  simp only [BitVec.toNat_ofNat]
  omega
theorem w1_at (b : List UInt8) (k : Nat) (hk : k ≤ 16) : w1 b (4 * k) = firsts b k ++ List.replicate (64 - k) 0 := by
  induction k with
  | zero => rfl
  | succ k ih =>
    have e : List.replicate (64 - k) (0 : W32) = 0 :: List.replicate (64 - (k + 1)) 0 := by rw [← List.replicate_succ]; congr 1; omega
    have h := ih (by omega)
    rw [e] at h
    rw [four b k _ _ (firsts_len b k) h, firsts]
    simp
theorem w1_end (b : List UInt8) : w1 b 64 = sched b 0 ++ List.replicate 48 0 := w1_at b 16 (Nat.le_refl _)
def wq (b : List UInt8) (n : Nat) : List W32 := sched b n ++ List.replicate (48 - n) 0
theorem wq_len (b : List UInt8) (n : Nat) (h : n ≤ 48) : (wq b n).length = 64 := by unfold wq; rw [List.length_append, sched_len, List.length_replicate]; omega
theorem wq_end (b : List UInt8) : wq b 48 = sched b 48 := by simp [wq]
theorem wq_at (b : List UInt8) (n j : Nat) (h : j < 16 + n) : (wq b n).getD j 0 = (sched b n).getD j 0 := by
  unfold wq; simp only [List.getD]; rw [List.getElem?_append_left (by rw [sched_len]; exact h)]
theorem wq_step (b : List UInt8) (n : Nat) (h : n < 48) :
    (wq b n).set (n + 16) (sig1 ((wq b n).getD (n + 14) 0) + (wq b n).getD (n + 9) 0 + sig0 ((wq b n).getD (n + 1) 0) + (wq b n).getD n 0) = wq b (n + 1) := by
  rw [wq_at b n _ (by omega), wq_at b n _ (by omega), wq_at b n _ (by omega), wq_at b n _ (by omega)]
  unfold wq
  have e : List.replicate (48 - n) (0 : W32) = 0 :: List.replicate (48 - (n + 1)) 0 := by rw [← List.replicate_succ]; congr 1; omega
  have hl := sched_len b n
  rw [e, show n + 16 = (sched b n).length by omega, set_mid, sched, more, hl]
  simp only [show 16 + n - 2 = n + 14 by omega, show 16 + n - 7 = n + 9 by omega, show 16 + n - 15 = n + 1 by omega, show 16 + n - 16 = n by omega, List.append_assoc, List.singleton_append]
theorem cw_at (l : List W32) (C : Array Value) (h : C = (l.map cw).toArray) (i : Nat) (hi : i < l.length) : C[i]? = some (.int .u32 (wv (l.getD i 0))) := by
  subst h
  simp [List.getD, cw, List.getElem?_eq_getElem hi]
theorem cw_set (l : List W32) (C : Array Value) (h : C = (l.map cw).toArray) (i : Nat) (x : W32) : C.setIfInBounds i (.int .u32 (wv x)) = ((l.set i x).map cw).toArray := by
  subst h
  simp [cw, List.map_set]
theorem cw_size (l : List W32) (C : Array Value) (h : C = (l.map cw).toArray) (n : Nat) (hl : l.length = n) : C.size = n := by
  subst h; simpa using hl
theorem one_cw (l : List W32) : ∀ v ∈ l.map cw, v.oneCell' = true := by
  intro v hv; simp only [List.mem_map] at hv; obtain ⟨x, -, rfl⟩ := hv; rfl
theorem wv_byte (x : W32) (c : UInt8) : bits .or .u32 (wv x * 256 % 4294967296) (bv c) = wv (x <<< 8 ||| BitVec.ofNat 32 c.toNat) := by
  have hc : bv c = wv (BitVec.ofNat 32 c.toNat) := by
    have := c.toNat_lt
    unfold bv wv; rw [BitVec.toNat_ofNat]; omega
  rw [hc, show (256 : Int) = 2 ^ 8 from rfl, wv_shl', wv_or]
open Go Go.RowKit
set_option maxRecDepth 100000
theorem and31 (n : Nat) (h0 : 1 ≤ n) (h1 : n ≤ 31) : bits .and .u64 (IntKind.u64.wrap (-(n : Int))) 31 = ((32 - n : Nat) : Int) := by
  have e : IntKind.u64.wrap (-(n : Int)) = ((18446744073709551616 - n : Nat) : Int) := by rw [IntKind.wrap_u64]; omega
  rw [e, show (31 : Int) = ((31 : Nat) : Int) from rfl, u64_and_nat _ _ (by omega) (by omega), nat_mask5]
  omega
set_option maxHeartbeats 400000 in
theorem rotl (x : W32) (n : Nat) (h0 : 1 ≤ n) (h1 : n ≤ 31) (w : World) :
    Calls Tryz.prog 202 #[.int .u32 (wv x), .int .i64 (-(n : Int))] w fun e w' => e = .returned (.int .u32 (wv (rotr x n))) ∧ w' = w := by
  have hand := and31 n h0 h1
  go_enter Tryz.func202, Tryz.ntmps202
  go_wp2
  go_ret
  refine ⟨?_, rfl⟩
  show Ending.returned (.int .u32 (bits BinOp.or IntKind.u32 (wv x * 2 ^ (32 - n) % 4294967296) (wv x / 2 ^ (32 - (32 - n))))) = _
  rw [wv_shl', wv_shr, wv_or, BitVec.or_comm, show 32 - (32 - n) = n by omega]
  rfl
theorem rot_any (x : W32) (n : Int) (h0 : 1 ≤ n) (h1 : n ≤ 31) (w : World) :
    Calls Tryz.prog 177 #[.int .u32 (wv x), .int .i64 n] w fun e w' => e = .returned (.int .u32 (wv (rotr x n.toNat))) ∧ w' = w := by
  have H := fun w => rotl x n.toNat (by omega) (by omega) w
  rw [show -(n.toNat : Int) = -n by omega] at H
  go_enter Tryz.func177, Tryz.ntmps177
  go_wp2_with (go_at_call 202; refine (H _).mono ?_)
  rintro e w1 ⟨rfl, rfl⟩
  go_wp2
  go_ret
  exact ⟨rfl, rfl⟩
theorem byteOf_any (x : Int) (n : Nat) (hn : n < 8) (w : World) :
    Calls Tryz.prog 157 #[.int .u64 x, .int .i64 n] w fun e w' => e = .returned (.int .u8 (x / 2 ^ (8 * n) % 256)) ∧ w' = w := by
  go_enter Tryz.func157, Tryz.ntmps157
  go_wp2
  go_ret
  exact ⟨rfl, rfl⟩
end Go.Proofs.YtmfpmajkjhmliaaGreatDoor
