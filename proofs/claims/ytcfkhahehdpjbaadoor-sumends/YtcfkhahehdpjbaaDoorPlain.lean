/-
  Words of 32 bits, blocks, rounds and sums as plain functions, and the model's arithmetic on words as theirs. No program plays a part.
-/
import Derived.WalkKit
namespace Go.Proofs.YtcfkhahehdpjbaaDoor
open Go
set_option maxRecDepth 100000

abbrev W32 := BitVec 32
/-- A word as the model's number. -/
def wv (x : W32) : Int := (x.toNat : Int)
/-- A byte as the model's number. -/
def bv (c : UInt8) : Int := (c.toNat : Int)

theorem wv_range (x : W32) : 0 ≤ wv x ∧ wv x < 4294967296 := by
  have := x.isLt
  unfold wv
  omega
theorem bv_range (c : UInt8) : 0 ≤ bv c ∧ bv c < 256 := by
  have := c.toNat_lt
  unfold bv
  omega

theorem wv_xor (a b : W32) : bits .xor .u32 (wv a) (wv b) = wv (a ^^^ b) := by
  unfold wv; rw [u32_xor_nat _ _ a.isLt b.isLt, BitVec.toNat_xor]
theorem wv_and (a b : W32) : bits .and .u32 (wv a) (wv b) = wv (a &&& b) := by
  unfold wv; rw [u32_and_nat _ _ a.isLt b.isLt, BitVec.toNat_and]
theorem wv_or (a b : W32) : bits .or .u32 (wv a) (wv b) = wv (a ||| b) := by
  unfold wv; rw [u32_or_nat _ _ a.isLt b.isLt, BitVec.toNat_or]
theorem wv_add (a b : W32) : IntKind.u32.wrap (wv a + wv b) = wv (a + b) := by
  unfold wv; rw [IntKind.wrap_u32', BitVec.toNat_add]; omega
theorem wv_add' (a b : W32) : (wv a + wv b) % 4294967296 = wv (a + b) := by rw [← wv_add, IntKind.wrap_u32']
theorem wv_mod (a : W32) : wv a % 4294967296 = wv a := by have := wv_range a; omega
theorem wv_not (a : W32) : bits .xor .u32 4294967295 (wv a) = wv (~~~ a) := by
  have e : (4294967295 : Int) = wv (BitVec.allOnes 32) := by decide
  rw [e, wv_xor, BitVec.allOnes_xor]
theorem wv_not' (a : W32) : IntKind.u32.wrap (4294967295 - wv a) = wv (~~~ a) := by
  unfold wv; rw [IntKind.wrap_u32', BitVec.toNat_not]; have := a.isLt; omega
theorem wv_shr (a : W32) (n : Nat) : wv a / 2 ^ n = wv (a >>> n) := by
  unfold wv; rw [BitVec.toNat_ushiftRight, Nat.shiftRight_eq_div_pow]; simp
theorem wv_shl (a : W32) (n : Nat) : IntKind.u32.wrap (wv a * 2 ^ n) = wv (a <<< n) := by
  unfold wv; rw [IntKind.wrap_u32', BitVec.toNat_shiftLeft, Nat.shiftLeft_eq]; simp
theorem wv_shl' (a : W32) (n : Nat) : wv a * 2 ^ n % 4294967296 = wv (a <<< n) := by rw [← wv_shl, IntKind.wrap_u32']

def rotr (x : W32) (n : Nat) : W32 := x >>> n ||| x <<< (32 - n)
def sig0 (x : W32) : W32 := rotr x 7 ^^^ rotr x 18 ^^^ x >>> 3
def sig1 (x : W32) : W32 := rotr x 17 ^^^ rotr x 19 ^^^ x >>> 10

structure S8 where
  (a b c d e f g h : W32)

def S8.list (s : S8) : List W32 := [s.a, s.b, s.c, s.d, s.e, s.f, s.g, s.h]
def S8.plus (s t : S8) : S8 := ⟨s.a + t.a, s.b + t.b, s.c + t.c, s.d + t.d, s.e + t.e, s.f + t.f, s.g + t.g, s.h + t.h⟩
def tem1 (k w : W32) (s : S8) : W32 := s.h + (rotr s.e 6 ^^^ rotr s.e 11 ^^^ rotr s.e 25) + ((s.e &&& s.f) ^^^ (~~~ s.e &&& s.g)) + k + w
def tem2 (s : S8) : W32 := (rotr s.a 2 ^^^ rotr s.a 13 ^^^ rotr s.a 22) + ((s.a &&& s.b) ^^^ (s.a &&& s.c) ^^^ (s.b &&& s.c))
def rnd (k w : W32) (s : S8) : S8 := ⟨tem1 k w s + tem2 s, s.a, s.b, s.c, s.d + tem1 k w s, s.e, s.f, s.g⟩

def kks : List W32 := [
  1116352408, 1899447441, 3049323471, 3921009573, 961987163, 1508970993, 2453635748, 2870763221,
  3624381080, 310598401, 607225278, 1426881987, 1925078388, 2162078206, 2614888103, 3248222580,
  3835390401, 4022224774, 264347078, 604807628, 770255983, 1249150122, 1555081692, 1996064986,
  2554220882, 2821834349, 2952996808, 3210313671, 3336571891, 3584528711, 113926993, 338241895,
  666307205, 773529912, 1294757372, 1396182291, 1695183700, 1986661051, 2177026350, 2456956037,
  2730485921, 2820302411, 3259730800, 3345764771, 3516065817, 3600352804, 4094571909, 275423344,
  430227734, 506948616, 659060556, 883997877, 958139571, 1322822218, 1537002063, 1747873779,
  1955562222, 2024104815, 2227730452, 2361852424, 2428436474, 2756734187, 3204031479, 3329325298]
def ini : S8 := ⟨1779033703, 3144134277, 1013904242, 2773480762, 1359893119, 2600822924, 528734635, 1541459225⟩

/-- A word of four bytes, the highest first. -/
def wrd (b : List UInt8) (i : Nat) : W32 :=
  BitVec.ofNat 32 ((b.getD (4 * i) 0).toNat * 16777216 + (b.getD (4 * i + 1) 0).toNat * 65536 + (b.getD (4 * i + 2) 0).toNat * 256 + (b.getD (4 * i + 3) 0).toNat)
def firsts (b : List UInt8) : Nat → List W32
  | 0 => []
  | n + 1 => firsts b n ++ [wrd b n]
def more (l : List W32) : List W32 :=
  l ++ [sig1 (l.getD (l.length - 2) 0) + l.getD (l.length - 7) 0 + sig0 (l.getD (l.length - 15) 0) + l.getD (l.length - 16) 0]
def sched (b : List UInt8) : Nat → List W32
  | 0 => firsts b 16
  | n + 1 => more (sched b n)
def rnds (ws : List W32) (s : S8) : Nat → S8
  | 0 => s
  | n + 1 => rnd (kks.getD n 0) (ws.getD n 0) (rnds ws s n)
/-- The state behind a block. -/
def comp (s : S8) (b : List UInt8) : S8 := s.plus (rnds (sched b 48) s 64)
def blkAt (m : List UInt8) (n : Nat) : List UInt8 := (m.drop (64 * n)).take 64
/-- The state behind the first n blocks. -/
def after (m : List UInt8) : Nat → S8
  | 0 => ini
  | n + 1 => comp (after m n) (blkAt m n)
def wbyte (x : W32) (j : Nat) : UInt8 := UInt8.ofNat (x.toNat / 2 ^ (8 * (3 - j)))
def digOf (s : S8) : Nat → List UInt8
  | 0 => []
  | n + 1 => digOf s n ++ [wbyte (s.list.getD (n / 4) 0) (n % 4)]
def dig (s : S8) : List UInt8 := digOf s 32
def nbyte (n i : Nat) : UInt8 := UInt8.ofNat (n / 2 ^ (8 * (7 - i)))
def nbytes (n : Nat) : Nat → List UInt8
  | 0 => []
  | i + 1 => nbytes n i ++ [nbyte n i]
/-- What follows so many bytes. -/
def tail (n : Nat) : List UInt8 := 128 :: (List.replicate ((119 - n % 64) % 64) 0 ++ nbytes (n * 8) 8)
def sha (m : List UInt8) : List UInt8 := dig (after (m ++ tail m.length) ((m ++ tail m.length).length / 64))

theorem firsts_len (b : List UInt8) (n : Nat) : (firsts b n).length = n := by
  induction n with
  | zero => rfl
  | succ n ih => simp [firsts, ih]
theorem sched_len (b : List UInt8) (n : Nat) : (sched b n).length = 16 + n := by
  induction n with
  | zero => simp [sched, firsts_len]
  | succ n ih => simp [sched, more, ih]; omega
theorem digOf_len (s : S8) (n : Nat) : (digOf s n).length = n := by
  induction n with
  | zero => rfl
  | succ n ih => simp [digOf, ih]
theorem dig_len (s : S8) : (dig s).length = 32 := digOf_len s 32
theorem nbytes_len (n i : Nat) : (nbytes n i).length = i := by
  induction i with
  | zero => rfl
  | succ i ih => simp [nbytes, ih]
theorem tail_len (n : Nat) : (tail n).length = (119 - n % 64) % 64 + 9 := by simp [tail, nbytes_len]
theorem whole (n : Nat) : (n + (tail n).length) % 64 = 0 := by rw [tail_len]; omega
theorem kks_len : kks.length = 64 := rfl
theorem list_len (s : S8) : s.list.length = 8 := rfl

theorem blkAt_app (m x : List UInt8) (n : Nat) (h : 64 * (n + 1) ≤ m.length) : blkAt (m ++ x) n = blkAt m n := by
  unfold blkAt
  rw [List.drop_append_of_le_length (by omega), List.take_append_of_le_length (by rw [List.length_drop]; omega)]
theorem after_app (m x : List UInt8) : ∀ n, 64 * n ≤ m.length → after (m ++ x) n = after m n
  | 0, _ => rfl
  | n + 1, h => by rw [after, after, after_app m x n (by omega), blkAt_app m x n h]
theorem blkAt_len (m : List UInt8) (n : Nat) (h : 64 * (n + 1) ≤ m.length) : (blkAt m n).length = 64 := by
  unfold blkAt; rw [List.length_take, List.length_drop]; omega

theorem or_byte (x : W32) (c : UInt8) : (x <<< 8 ||| BitVec.ofNat 32 c.toNat : W32) = BitVec.ofNat 32 (x.toNat * 256 + c.toNat) := by
  apply BitVec.eq_of_toNat_eq
  have hc := c.toNat_lt
  rw [BitVec.toNat_or, BitVec.toNat_shiftLeft, BitVec.toNat_ofNat, BitVec.toNat_ofNat, Nat.shiftLeft_eq, nat_join 8 _ _ (by omega) (by omega)]
  omega

end Go.Proofs.YtcfkhahehdpjbaaDoor
