/- S16 -/
import Derived.Test.YtagmnmoaekbffaaGreatDoorS04
import Derived.WalkKit
import Derived.Test.YtagmnmoaekbffaaGreatDoorProg
import Derived.Below
import Derived.BigQuiet
import Derived.Deep.CutRange
import Derived.Deep.RegionWith
import Derived.Deep.QuietTactic
import Derived.DeepKeys
set_option maxHeartbeats 4000000
namespace Go.Proofs.YtagmnmoaekbffaaGreatDoor
open Go.Proofs.Tryz
open Go
set_option maxRecDepth 100000
abbrev W32:=BitVec 32
def wv (x:W32):Int:=(x.toNat:Int)
theorem n0z (x:W32):0 <= wv x/\wv x < 4294967296:=by
 have:=x.isLt;unfold wv;omega
theorem l0a (a b:W32):bits .xor .u32 (wv a) (wv b)=wv (a ^^^ b):=by
 unfold wv;rw [u32_xor_nat _ _ a.isLt b.isLt,BitVec.toNat_xor]
theorem v0Y (a b:W32):bits .and .u32 (wv a) (wv b)=wv (a &&& b):=by
 unfold wv;rw [u32_and_nat _ _ a.isLt b.isLt,BitVec.toNat_and]
theorem v0Z (a b:W32):bits .or .u32 (wv a) (wv b)=wv (a ||| b):=by
 unfold wv;rw [u32_or_nat _ _ a.isLt b.isLt,BitVec.toNat_or]
theorem w0a (a b:W32):IntKind.u32.wrap (wv a + wv b)=wv (a + b):=by
 unfold wv;rw [IntKind.wrap_u32',BitVec.toNat_add];omega
theorem m0A (a b:W32):(wv a + wv b) % 4294967296=wv (a + b):=by rw [← w0a,IntKind.wrap_u32']
theorem w0b (a:W32):bits .xor .u32 4294967295 (wv a)=wv (~~~ a):=by
 have e:(4294967295:Int)=wv (BitVec.allOnes 32):=by decide
 rw [e,l0a,BitVec.allOnes_xor]
theorem q0i (a:W32) (n:Nat):wv a / 2 ^ n=wv (a >>> n):=by
 unfold wv;rw [BitVec.toNat_ushiftRight,Nat.shiftRight_eq_div_pow];simp
theorem w0c (a:W32) (n:Nat):IntKind.u32.wrap (wv a * 2 ^ n)=wv (a <<< n):=by
 unfold wv;rw [IntKind.wrap_u32',BitVec.toNat_shiftLeft,Nat.shiftLeft_eq];simp
theorem q0j (a:W32) (n:Nat):wv a * 2 ^ n % 4294967296=wv (a <<< n):=by rw [← w0c,IntKind.wrap_u32']
def rotr (x:W32) (n:Nat):W32:=x >>> n ||| x <<< (32 - n)
def sig0 (x:W32):W32:=rotr x 7 ^^^ rotr x 18 ^^^ x >>> 3
def sig1 (x:W32):W32:=rotr x 17 ^^^ rotr x 19 ^^^ x >>> 10
structure S8 where
 (a b c d e f g h:W32)
def S8.list (s:S8):List W32:=[s.a,s.b,s.c,s.d,s.e,s.f,s.g,s.h]
def S8.plus (s t:S8):S8:=⟨s.a + t.a,s.b + t.b,s.c + t.c,s.d + t.d,s.e + t.e,s.f + t.f,s.g + t.g,s.h + t.h⟩
def tem1 (k w:W32) (s:S8):W32:=s.h + (rotr s.e 6 ^^^ rotr s.e 11 ^^^ rotr s.e 25) + ((s.e &&& s.f) ^^^ (~~~ s.e &&& s.g)) + k + w
def tem2 (s:S8):W32:=(rotr s.a 2 ^^^ rotr s.a 13 ^^^ rotr s.a 22) + ((s.a &&& s.b) ^^^ (s.a &&& s.c) ^^^ (s.b &&& s.c))
def rnd (k w:W32) (s:S8):S8:=⟨tem1 k w s + tem2 s,s.a,s.b,s.c,s.d + tem1 k w s,s.e,s.f,s.g⟩
def kks:List W32:=[
 1116352408,1899447441,3049323471,3921009573,961987163,1508970993,2453635748,2870763221,
 3624381080,310598401,607225278,1426881987,1925078388,2162078206,2614888103,3248222580,
 3835390401,4022224774,264347078,604807628,770255983,1249150122,1555081692,1996064986,
 2554220882,2821834349,2952996808,3210313671,3336571891,3584528711,113926993,338241895,
 666307205,773529912,1294757372,1396182291,1695183700,1986661051,2177026350,2456956037,
 2730485921,2820302411,3259730800,3345764771,3516065817,3600352804,4094571909,275423344,
 430227734,506948616,659060556,883997877,958139571,1322822218,1537002063,1747873779,
 1955562222,2024104815,2227730452,2361852424,2428436474,2756734187,3204031479,3329325298]
def ini:S8:=⟨1779033703,3144134277,1013904242,2773480762,1359893119,2600822924,528734635,1541459225⟩
def wrd (b:List UInt8) (i:Nat):W32 :=
 BitVec.ofNat 32 ((b.getD (4 * i) 0).toNat * 16777216 + (b.getD (4 * i + 1) 0).toNat * 65536 + (b.getD (4 * i + 2) 0).toNat * 256 + (b.getD (4 * i + 3) 0).toNat)
def i0T (b:List UInt8):Nat->List W32
 | 0=>[]
 | n + 1=>i0T b n++[wrd b n]
def more (l:List W32):List W32 :=
 l++[sig1 (l.getD (l.length - 2) 0) + l.getD (l.length - 7) 0 + sig0 (l.getD (l.length - 15) 0) + l.getD (l.length - 16) 0]
def sched (b:List UInt8):Nat->List W32
 | 0=>i0T b 16
 | n + 1=>more (sched b n)
def rnds (ws:List W32) (s:S8):Nat->S8
 | 0=>s
 | n + 1=>rnd (kks.getD n 0) (ws.getD n 0) (rnds ws s n)
def comp (s:S8) (b:List UInt8):S8:=s.plus (rnds (sched b 48) s 64)
def o0x (m:List UInt8) (n:Nat):List UInt8:=(m.drop (64 * n)).take 64
def after (m:List UInt8):Nat->S8
 | 0=>ini
 | n + 1=>comp (after m n) (o0x m n)
def m0B (x:W32) (j:Nat):UInt8:=UInt8.ofNat (x.toNat / 2 ^ (8 * (3 - j)))
def o0y (s:S8):Nat->List UInt8
 | 0=>[]
 | n + 1=>o0y s n++[m0B (s.list.getD (n / 4) 0) (n % 4)]
def dig (s:S8):List UInt8:=o0y s 32
def q0k (n i:Nat):UInt8:=UInt8.ofNat (n / 2 ^ (8 * (7 - i)))
def e0c (n:Nat):Nat->List UInt8
 | 0=>[]
 | i + 1=>e0c n i++[q0k n i]
def tail (n:Nat):List UInt8:=128 :: (List.replicate ((119 - n % 64) % 64) 0++e0c (n * 8) 8)
def sha (m:List UInt8):List UInt8:=dig (after (m++tail m.length) ((m++tail m.length).length / 64))
theorem i0U (b:List UInt8) (n:Nat):(i0T b n).length=n:=by
 induction n with
 | zero=>rfl
 | succ n ih=>simp [i0T,ih]
theorem e0K (b:List UInt8) (n:Nat):(sched b n).length=16 + n:=by
 induction n with
 | zero=>simp [sched,i0U]
 | succ n ih=>simp [sched,more,ih];omega
theorem h0H (s:S8) (n:Nat):(o0y s n).length=n:=by
 induction n with
 | zero=>rfl
 | succ n ih=>simp [o0y,ih]
theorem m0C (s:S8):(dig s).length=32:=h0H s 32
theorem i0V (n i:Nat):(e0c n i).length=i:=by
 induction i with
 | zero=>rfl
 | succ i ih=>simp [e0c,ih]
theorem n0A (n:Nat):(tail n).length=(119 - n % 64) % 64 + 9:=by simp [tail,i0V]
theorem whole (n:Nat):(n + (tail n).length) % 64=0:=by rw [n0A];omega
theorem kks_len:kks.length=64:=rfl
theorem b0L (s:S8):s.list.length=8:=rfl
theorem q0l (m x:List UInt8) (n:Nat) (h:64 * (n + 1) <= m.length):o0x (m++x) n=o0x m n:=by
 unfold o0x;rw [List.drop_append_of_le_length (by omega),List.take_append_of_le_length (by rw [List.length_drop];omega)]
theorem h0I (m x:List UInt8):∀ n,64 * n <= m.length->after (m++x) n=after m n
 | 0,_=>rfl
 | n + 1,h=>by rw [after,after,h0I m x n (by omega),q0l m x n h]
theorem u0p (x:W32) (c:UInt8):(x <<< 8 ||| BitVec.ofNat 32 c.toNat:W32)=BitVec.ofNat 32 (x.toNat * 256 + c.toNat):=by
 apply BitVec.eq_of_toNat_eq;have hc:=c.toNat_lt;rw [BitVec.toNat_or,BitVec.toNat_shiftLeft,BitVec.toNat_ofNat,BitVec.toNat_ofNat,Nat.shiftLeft_eq,nat_join 8 _ _ (by omega) (by omega)];omega
open Go
set_option maxRecDepth 100000
def cw (x:W32):Value:=.int .u32 (wv x)
def w1 (b:List UInt8):Nat->List W32
 | 0=>List.replicate 64 0
 | i + 1=>(w1 b i).set (i / 4) ((w1 b i).getD (i / 4) 0 <<< 8 ||| BitVec.ofNat 32 (b.getD i 0).toNat)
theorem t0C (b:List UInt8) (i:Nat):(w1 b i).length=64:=by
 induction i with
 | zero=>rfl
 | succ i ih=>simp [w1,ih]
theorem set_mid {α:Type} (l r:List α) (x y:α):(l++x :: r).set l.length y=l++y :: r:=by simp
theorem s0s {α:Type} (l r:List α) (x d:α):(l++x :: r).getD l.length d=x:=by simp
theorem j0S (b:List UInt8) (i k:Nat) (l r:List W32) (x:W32) (hl:l.length=k) (hi:i / 4=k) (h:w1 b i=l++x :: r) :
  w1 b (i + 1)=l++BitVec.ofNat 32 (x.toNat * 256 + (b.getD i 0).toNat) :: r:=by
 rw [w1,h,hi];subst hl;rw [set_mid,s0s,u0p]
theorem four (b:List UInt8) (k:Nat) (l r:List W32) (hl:l.length=k) (h:w1 b (4 * k)=l++0 :: r):w1 b (4 * (k + 1))=l++wrd b k :: r:=by
 have h1:=j0S b (4 * k) k l r 0 hl (by omega) h;have h2:=j0S b (4 * k + 1) k l r _ hl (by omega) h1;have h3:=j0S b (4 * k + 2) k l r _ hl (by omega) h2;have h4:=j0S b (4 * k + 3) k l r _ hl (by omega) h3;rw [show 4 * (k + 1)=4 * k + 3 + 1 by omega,h4]
 congr 2
 unfold wrd;have a0:=(b.getD (4 * k) 0).toNat_lt;have a1:=(b.getD (4 * k + 1) 0).toNat_lt;have a2:=(b.getD (4 * k + 2) 0).toNat_lt;have a3:=(b.getD (4 * k + 3) 0).toNat_lt;apply BitVec.eq_of_toNat_eq;simp only [BitVec.toNat_ofNat];omega
theorem x0g (b:List UInt8) (k:Nat) (hk:k <= 16):w1 b (4 * k)=i0T b k++List.replicate (64 - k) 0:=by
 induction k with
 | zero=>rfl
 | succ k ih =>
  have e:List.replicate (64 - k) (0:W32)=0 :: List.replicate (64 - (k + 1)) 0:=by rw [← List.replicate_succ];congr 1;omega
  have h:=ih (by omega);rw [e] at h;rw [four b k _ _ (i0U b k) h,i0T];simp
theorem w0d (b:List UInt8):w1 b 64=sched b 0++List.replicate 48 0:=x0g b 16 (Nat.le_refl _)
def wq (b:List UInt8) (n:Nat):List W32:=sched b n++List.replicate (48 - n) 0
theorem i0W (b:List UInt8) (n:Nat) (h:n <= 48):(wq b n).length=64:=by unfold wq;rw [List.length_append,e0K,List.length_replicate];omega
theorem w0e (b:List UInt8):wq b 48=sched b 48:=by simp [wq]
theorem s0t (b:List UInt8) (n j:Nat) (h:j < 16 + n):(wq b n).getD j 0=(sched b n).getD j 0:=by
 unfold wq;simp only [List.getD];rw [List.getElem?_append_left (by rw [e0K];exact h)]
theorem u0q (b:List UInt8) (n:Nat) (h:n < 48) :
  (wq b n).set (n + 16) (sig1 ((wq b n).getD (n + 14) 0) + (wq b n).getD (n + 9) 0 + sig0 ((wq b n).getD (n + 1) 0) + (wq b n).getD n 0)=wq b (n + 1):=by
 rw [s0t b n _ (by omega),s0t b n _ (by omega),s0t b n _ (by omega),s0t b n _ (by omega)];unfold wq;have e:List.replicate (48 - n) (0:W32)=0 :: List.replicate (48 - (n + 1)) 0:=by rw [← List.replicate_succ];congr 1;omega
 have hl:=e0K b n;rw [e,show n + 16=(sched b n).length by omega,set_mid,sched,more,hl];simp only [show 16 + n - 2=n + 14 by omega,show 16 + n - 7=n + 9 by omega,show 16 + n - 15=n + 1 by omega,show 16 + n - 16=n by omega,List.append_assoc,List.singleton_append]
theorem g0L (l:List W32) (C:Array Value) (h:C=(l.map cw).toArray) (i:Nat) (hi:i < l.length):C[i]? = some (.int .u32 (wv (l.getD i 0))):=by
 subst h;simp [List.getD,cw,List.getElem?_eq_getElem hi]
theorem q0m (l:List W32) (C:Array Value) (h:C=(l.map cw).toArray) (i:Nat) (x:W32):C.setIfInBounds i (.int .u32 (wv x))=((l.set i x).map cw).toArray:=by
 subst h;simp [cw,List.map_set]
theorem q0n (l:List W32) (C:Array Value) (h:C=(l.map cw).toArray) (n:Nat) (hl:l.length=n):C.size=n:=by
 subst h;simpa using hl
theorem i0X (l:List W32):∀ v ∈ l.map cw,v.oneCell' = true:=by
 intro v hv;simp only [List.mem_map] at hv;obtain ⟨x,-,rfl⟩:=hv;rfl
theorem u0r (x:W32) (c:UInt8):bits .or .u32 (wv x * 256 % 4294967296) (bv c)=wv (x <<< 8 ||| BitVec.ofNat 32 c.toNat):=by
 have hc:bv c=wv (BitVec.ofNat 32 c.toNat):=by
  have:=c.toNat_lt;unfold bv wv;rw [BitVec.toNat_ofNat];omega
 rw [hc,show (256:Int)=2 ^ 8 from rfl,q0j,v0Z]
open Go Go.RowKit
set_option maxRecDepth 100000
theorem x0h (n:Nat) (h0:1 <= n) (h1:n <= 31):bits .and .u64 (IntKind.u64.wrap (-(n:Int))) 31=((32 - n:Nat):Int):=by
 have e:IntKind.u64.wrap (-(n:Int))=((18446744073709551616 - n:Nat):Int):=by rw [IntKind.wrap_u64];omega
 rw [e,show (31:Int)=((31:Nat):Int) from rfl,u64_and_nat _ _ (by omega) (by omega),nat_mask5];omega
theorem rotl (x:W32) (n:Nat) (h0:1 <= n) (h1:n <= 31) (w:World) :
  Calls prog 147 #[.int .u32 (wv x),.int .i64 (-(n:Int))] w fun e w'=>e = .returned (.int .u32 (wv (rotr x n)))/\w' = w:=by
 have hand:=x0h n h0 h1;go_enter func147,ntmps147;go_wp2;go_ret;refine ⟨?_,rfl⟩;show Ending.returned (.int .u32 (bits BinOp.or IntKind.u32 (wv x * 2 ^ (32 - n) % 4294967296) (wv x / 2 ^ (32 - (32 - n)))))=_;rw [q0j,q0i,v0Z,BitVec.or_comm,show 32 - (32 - n)=n by omega];rfl
theorem m0D (x:W32) (n:Int) (h0:1 <= n) (h1:n <= 31) (w:World) :
  Calls prog 123 #[.int .u32 (wv x),.int .i64 n] w fun e w'=>e = .returned (.int .u32 (wv (rotr x n.toNat)))/\w' = w:=by
 have H:=fun w=>rotl x n.toNat (by omega) (by omega) w;rw [show -(n.toNat:Int) = -n by omega] at H;go_enter func123,ntmps123
 go_wp2_with (go_at_call 147;refine (H _).mono ?_)
 rintro e w1 ⟨rfl,rfl⟩;go_wp2;go_ret;exact ⟨rfl,rfl⟩
theorem o0z (x:Int) (n:Nat) (hn:n < 8) (w:World) :
  Calls prog 106 #[.int .u64 x,.int .i64 n] w fun e w'=>e = .returned (.int .u8 (x / 2 ^ (8 * n) % 256))/\w' = w:=by
 go_enter func106,ntmps106;go_wp2;go_ret;exact ⟨rfl,rfl⟩
open Go Go.RowKit
set_option maxRecDepth 100000
def zw64:Array Value:=((List.replicate 64 0).map cw).toArray
theorem zero52:(prog.info? 198).map (·.zero)=some (some (.agg zw64)):=by kernel_rfl
theorem size52:(prog.info? 198).map (·.size)=some 64:=by kernel_rfl
theorem size43:(prog.info? 163).map (·.size)=some 64:=by kernel_rfl
theorem size38:(prog.info? 159).map (·.size)=some 1:=by kernel_rfl
theorem m0E (b:List UInt8) (hb:b.length=64) (w:World) :
  Calls prog 122 #[.agg (b.map cb).toArray] w fun e w'=>e = .returned (.agg ((sched b 48).map cw).toArray)/\Below w.heap.size w w':=by
 have HZ:=zero52;have HZ0:Hid (zw64=((w1 b 0).map cw).toArray):=show zw64=_ from rfl
 have HBL:(b.map cb).length=64:=by simpa using hb
 have HB:Hid (∀ k,k < 64->(b.map cb)[k]? = some (.int .u8 (bv (b.getD k 0)))):=fun k hk=>i0i b k (by omega);have hZs:Hid (zw64.size=64):=show zw64.size=64 from rfl
 generalize b.map cb=B at *;generalize zw64=Z at *;have HI:Hid ((prog.info? 163).map (·.size)=some B.length):=by show _=_;rw [HBL];exact size43
 have HC:Hid (∀ j v,B[j]? = some v->(((w.alloc (.cells B.toArray 163)).alloc (.cells Z 198)).alloc (.cells Z 198)).cell? ⟨w.heap.size,0 + j,none⟩=some v):=by
  intro j v hv;rw [cell_of_row _ _ _ _ _ _ (h0s w _ _ _)];simpa using hv
 go_enter func122,ntmps122
 go_wp2_with (first | (refine a0t rfl 198 rfl Z HZ ?_) | (refine a0W rfl 163 _ rfl w.heap.size 0 rfl B _ HC.out underlying163 rfl HI.out ?_))
 go_loopw [12] (fun i w'=>∃ (k:Nat) (C:Array Value),k <= 64/\i = .int .i64 k/\Hid (C=((w1 b k).map cw).toArray)/\w' = ((w.alloc (.cells B.toArray 163)).alloc (.cells Z 198)).alloc (.cells C 198)) (fun i _=>64 - (intOf i).toNat)
 case atStart=>exact ⟨0,Z,by omega,rfl,HZ0,rfl⟩
 case round =>
  obtain ⟨k,C,hk,rfl,HD,hw⟩:=hrel;subst wr;clear HC HZ0;have hsz:=q0n _ C HD.out 64 (t0C b k);by_cases hlt:k < 64
  ·have hB:=HB.out k hlt
   have hC:=g0L _ C HD.out (k / 4) (by rw [t0C];omega);have HS:=q0m _ C HD.out (k / 4) ((w1 b k).getD (k / 4) 0 <<< 8 ||| BitVec.ofNat 32 (b.getD k 0).toNat);have HS':Hid (C.setIfInBounds (k / 4) (.int .u32 (wv ((w1 b k).getD (k / 4) 0 <<< 8 ||| BitVec.ofNat 32 (b.getD k 0).toNat)))=((w1 b (k + 1)).map cw).toArray):=HS;clear HS;generalize (w1 b k).getD (k / 4) 0=x at *;generalize b.getD k 0=c at *;have hix:=fun W=>f0o (P:=prog) W 163 5 64 _ B.toArray k _ underlying163 underlying5 rfl size5 hlt (by simpa using hB);have hor:=u0r x c;have hbm:bv c % 4294967296=bv c:=by have:=j0u c;omega
   go_wp2
   go_roundw
   case rel=>exact ⟨k + 1,_,by omega,by go_num,HS',rfl⟩
   case measure=>simp [intOf];omega
  ·have e64:k=64:=by omega
   have HD':Hid (C=((wq b 0).map cw).toArray):=by have h:=HD.out;subst e64;rw [w0d] at h;exact h
   clear HD e64;go_wp2;go_loopw [6] (fun i w'=>∃ (t n:Nat) (C:Array Value),t <= 48/\i = .int .i64 ((t + 16:Nat):Int)/\Hid (C=((wq b t).map cw).toArray)/\w' = (((w.alloc (.cells B.toArray 163)).alloc (.cells Z 198)).alloc (.cells C 198)).drewN n) (fun i _=>64 - (intOf i).toNat)
   case atStart=>exact ⟨0,0,C,by omega,rfl,HD',rfl⟩
   case round =>
    clear HD' hsz hlt C HB HBL HI;obtain ⟨t,n,C,ht,rfl,HD,hw⟩:=hrel;subst wr;have hsz:=q0n _ C HD.out 64 (i0W b t ht);by_cases hlt:t < 48
    ·have h1:=g0L _ C HD.out (t + 1) (by rw [i0W b t ht];omega)
     have h14:=g0L _ C HD.out (t + 14) (by rw [i0W b t ht];omega);have h9:=g0L _ C HD.out (t + 9) (by rw [i0W b t ht];omega);have h16:=g0L _ C HD.out (t + 16) (by rw [i0W b t ht];omega);have h0:=g0L _ C HD.out t (by rw [i0W b t ht];omega);have HS:=q0m _ C HD.out (t + 16) (sig1 ((wq b t).getD (t + 14) 0) + (wq b t).getD (t + 9) 0 + sig0 ((wq b t).getD (t + 1) 0) + (wq b t).getD t 0);rw [u0q b t hlt] at HS;unfold sig0 sig1 at HS;have HS':Hid _:=HS;clear HS;generalize (wq b t).getD (t + 1) 0=x1 at *;generalize (wq b t).getD (t + 14) 0=x14 at *;generalize (wq b t).getD (t + 9) 0=x9 at *;generalize (wq b t).getD t 0=x0 at *;go_upto_region 10 with fail
     go_quiet (fail)
     have hxor:=l0a;have hs3:∀ y,bits .xor .u32 (wv y) (wv x1 / 8)=wv (y ^^^ x1 >>> 3):=fun y=>by rw [← l0a,← q0i x1 3];rfl
     have hs10:∀ y,bits .xor .u32 (wv y) (wv x14 / 1024)=wv (y ^^^ x14 >>> 10):=fun y=>by rw [← l0a,← q0i x14 10];rfl
     go_upto_region 13 with (first | (go_at_call 123;refine (m0D _ _ (by decide) (by decide) _).mono ?_;rintro e w1 ⟨rfl,rfl⟩))
     have hadd:=m0A
     go_region
     go_wp2
     go_roundw
     case rel=>exact ⟨t + 1,n + nq + 1,_,by omega,by go_num,HS',m0h _ _ _ _ _ _ _ (by simp)⟩
     case measure=>simp [intOf];omega
    ·have e48:t=48:=by omega
     have HE:Hid (C=((sched b 48).map cw).toArray):=by have h:=HD.out;subst e48;rw [w0e] at h;exact h
     have h3:Hid (((((w.alloc (.cells B.toArray 163)).alloc (.cells Z 198)).alloc (.cells C 198)).drewN n).heap[w.heap.size + 1 + 1]? = some (.cells C 198)):=h0u w _ _ _;have h2:Hid (((((w.alloc (.cells B.toArray 163)).alloc (.cells Z 198)).alloc (.cells C 198)).drewN n).heap[w.heap.size + 1]? = some (.cells Z 198)):=h0t w _ _ _
     have HC:Hid (∀ j v,C.toList[j]? = some v->((((w.alloc (.cells B.toArray 163)).alloc (.cells Z 198)).alloc (.cells C 198)).drewN n).cell? ⟨w.heap.size + 1 + 1,0 + j,none⟩=some v):=by
      intro j v hv;rw [cell_of_row _ _ _ _ _ _ h3.out];simpa using hv
     have HI:Hid ((prog.info? 198).map (·.size)=some C.toList.length):=by show _=_;rw [Array.length_toList,hsz];exact size52
     have HF:Hid (0 + C.toList.length <= Z.size):=by show _ <= _;rw [Array.length_toList,hsz,hZs.out];omega
     have H1:Hid (∀ v ∈ C.toList,v.oneCell' = true):=by
      have h:=HE.out;show ∀ v ∈ C.toList,_;rw [h];simpa using i0X (sched b 48)
     clear HD e48
     go_wp2_with (first | (refine a0W rfl 198 _ rfl (w.heap.size + 1 + 1) 0 rfl C.toList _ HC.out underlying198 rfl HI.out ?_) | (refine b0c rfl 198 _ _ rfl rfl (w.heap.size + 1) 0 rfl C.toList rfl Z 198 h2.out HF.out H1.out HI.out ?_))
     have HR:Hid ((List.take 0 Z.toList++C.toList++List.drop (0 + C.toList.length) Z.toList).toArray=C):=by
      have h64:Z.toList.length <= 0 + C.toList.length:=by rw [Array.length_toList,Array.length_toList,hsz,hZs.out];omega
      show _=_;rw [List.drop_eq_nil_of_le h64];simp
     refine bodyPost_ret_by (results_cell_row (fn:=Tryz.f122) (p:=2) (ty:=198) (by kernel_rfl) _ _ (w.heap.size + 1) 198 C (0,0) _ rfl (by rw [HR.out];exact setRow_heap _ _ _ _ _ _ h2.out) underlying198 rfl (by rw [hsz];exact size52)) rfl ?_;refine ⟨by rw [HE.out],?_⟩;exact below_setRow (h0v w _ _ _ n) _ _ (by omega)
open Go Go.RowKit
set_option maxRecDepth 100000
def Ktab (w:World):Prop:=∃ t fr,w.heap[0]? = some (.cells (kks.map cw).toArray t fr)
theorem Ktab.pos {w:World} (h:Ktab w):0 < w.heap.size:=by
 obtain ⟨t,fr,h⟩:=h;exact (Array.getElem?_eq_some_iff.1 h).1
theorem Ktab.stays {w w':World} {B:Nat} (h:Ktab w) (hb:Below B w w') (hB:0 < B):Ktab w':=by
 obtain ⟨t,fr,h⟩:=h;exact ⟨t,fr,(hb.block 0 hB).trans h⟩
theorem Ktab.cell {w:World} (h:Ktab w) (k:Nat) (hk:k < 64):w.cell? ⟨0,k,none⟩=some (.int .u32 (wv (kks.getD k 0))):=by
 obtain ⟨t,fr,h⟩:=h;rw [cell_of_row _ _ _ _ _ _ h];exact g0L kks _ rfl k (by rw [kks_len];exact hk)
def zw8:Array Value:=((List.replicate 8 0).map cw).toArray
theorem zero42:(prog.info? 165).map (·.zero)=some (some (.agg zw8)):=by kernel_rfl
theorem size42:(prog.info? 165).map (·.size)=some 8:=by kernel_rfl
def g0C (s t:List W32) (k:Nat):List W32:=(List.zipWith (· + ·) s t).take k++s.drop k
theorem o0A (s t:List W32) (hs:s.length=8) (ht:t.length=8) (k:Nat) (hk:k <= 8):(g0C s t k).length=8:=by
 simp [g0C,hs,ht];omega
theorem q0o (s:S8) (a b c d e f g h:W32) (k:Nat) (hk:k < 8):(g0C s.list [a,b,c,d,e,f,g,h] k).getD k 0=s.list.getD k 0:=by
 rcases k with _ | _ | _ | _ | _ | _ | _ | _ | k
 all_goals first | rfl | omega
theorem m0F (s:S8) (a b c d e f g h:W32) (k:Nat) (hk:k < 8) :
  (g0C s.list [a,b,c,d,e,f,g,h] k).set k (s.list.getD k 0 + [a,b,c,d,e,f,g,h].getD k 0)=g0C s.list [a,b,c,d,e,f,g,h] (k + 1):=by
 rcases k with _ | _ | _ | _ | _ | _ | _ | _ | k
 all_goals first | rfl | omega
theorem c0o {P:Program} {ops:Array Oper} {rest:List Oper} {o:Oper} {a:Act} {W:World} {Q:Exit->Act->World->Prop} (hgd:o.guard=none) (ty:TypeId) (x y:Operand) (hn:o.dst=none) (ho:o.op = .store ty x y)
  (g:Nat) (hx:a.eval x = .pointer (some ⟨g,0,none⟩)) (cs:List Value) (hy:a.eval y = .agg cs.toArray) (cur:Array Value) (t:TypeId) (hg:W.heap.size=g)
  (hfit:cs.length=cur.size) (h1:∀ v ∈ cs,v.oneCell' = true) (hi:(P.info? ty).map (·.size)=some cs.length)
  (h:wpList P ops Q rest a (W.alloc (.cells cs.toArray t))):wpList P ops Q (o :: rest) a (W.alloc (.cells cur t)):=by
 subst hg;have hh:(W.alloc (.cells cur t)).heap[W.heap.size]? = some (.cells cur t):=by show (W.heap.push _)[W.heap.size]? = _;simp
 refine b0c hgd ty x y hn ho W.heap.size 0 hx cs hy cur t hh (by omega) h1 hi ?_
 have e:(cur.toList.take 0++cs++cur.toList.drop (0 + cs.length)).toArray=cs.toArray:=by
  rw [List.drop_eq_nil_of_le (by rw [Array.length_toList];omega)];simp
 rw [e];have e2:(W.alloc (.cells cur t)).setRow W.heap.size cs.toArray=W.alloc (.cells cs.toArray t):=g0g W cur cs.toArray t;rw [e2];exact h
theorem t0D (st:S8) (b:List UInt8) (hb:b.length=64) (w:World) (hK:Ktab w) :
  Calls prog 104 #[.agg (st.list.map cw).toArray,.agg (b.map cb).toArray] w fun e w'=>e = .returned (.agg ((comp st b).list.map cw).toArray)/\Below w.heap.size w w':=by
 have HW:Hid (∀ w,Calls prog 122 #[.agg (b.map cb).toArray] w fun e w'=>e = .returned (.agg ((sched b 48).map cw).toArray)/\Below w.heap.size w w'):=m0E b hb;have HZ:=zero52;have HZ8:=zero42;have hZs:Hid (zw64.size=64):=show zw64.size=64 from rfl
 have hZ8s:Hid (zw8.size=8):=show zw8.size=8 from rfl
 have HBL:(b.map cb).length=64:=by simpa using hb
 have HSL:Hid ((st.list.map cw).length=8):=show (st.list.map cw).length=8 from rfl
 have HWS:Hid (((sched b 48).map cw).length=64):=by show List.length _=_;rw [List.length_map,e0K]
 have HW1:Hid (∀ v ∈ (sched b 48).map cw,v.oneCell' = true):=i0X _;have HWC:Hid (∀ k,k < 64->((sched b 48).map cw).toArray[k]? = some (.int .u32 (wv ((sched b 48).getD k 0)))):=fun k hk=>g0L _ _ rfl k (by rw [e0K];omega);have HSC:Hid (∀ k,k < 8->(st.list.map cw).toArray[k]? = some (.int .u32 (wv (st.list.getD k 0)))):=fun k hk=>g0L _ _ rfl k (by rw [b0L];omega);generalize (b.map cb)=B at *;generalize zw64=Z at *;generalize zw8=Z8 at *;have HCM:Hid (comp st b=st.plus (rnds (sched b 48) st 64)):=rfl;generalize comp st b=r at *;generalize sched b 48=ws at *;have HWI:Hid ((prog.info? 198).map (·.size)=some (ws.map cw).length):=by show _=_;rw [HWS.out];exact size52
 have HWf:Hid ((ws.map cw).length=Z.size):=by show _=_;rw [HWS.out,hZs.out]
 have HI:Hid ((prog.info? 163).map (·.size)=some B.length):=by show _=_;rw [HBL];exact size43
 generalize ws.map cw=WC at *
 have HC:Hid (∀ j v,B[j]? = some v->(((w.alloc (.cells (st.list.map cw).toArray 165)).alloc (.cells B.toArray 163)).alloc (.cells Z8 165)).cell? ⟨w.heap.size + 1,0 + j,none⟩=some v):=by
  intro j v hv;rw [cell_of_row _ _ _ _ _ _ (h0t w _ _ _)];simpa using hv
 have HSS:Hid (st.list.map cw = [.int .u32 (wv st.a),.int .u32 (wv st.b),.int .u32 (wv st.c),.int .u32 (wv st.d),.int .u32 (wv st.e),.int .u32 (wv st.f),.int .u32 (wv st.g),.int .u32 (wv st.h)]):=rfl;generalize st.list.map cw=S at *;go_enter func104,ntmps104
 go_wp2_with (first | (refine a0t rfl 165 rfl Z8 HZ8 ?_) | (refine a0W rfl 163 _ rfl (w.heap.size + 1) 0 rfl B _ HC.out underlying163 rfl HI.out ?_))
 refine (HW.out _).mono ?_;rintro e w1 ⟨rfl,hb1⟩;have HB1:Hid (Below w.heap.size w w1):=(h0v w _ _ _ 0).trans (hb1.mono (by simp;omega));have hsz1:w.heap.size + 3 <= w1.heap.size:=by have:=hb1.size;simp at this;omega
 have hS1:Hid (w1.heap[w.heap.size]? = some (.cells S.toArray 165)):=(hb1.block _ (by simp;omega)).trans (h0s w _ _ _);have hZ1:Hid (w1.heap[w.heap.size + 1 + 1]? = some (.cells Z8 165)):=(hb1.block _ (by simp)).trans (h0u w _ _ _);have hK1:Hid (Ktab w1):=hK.stays HB1.out hK.pos;have hp1:0 < w1.heap.size:=by omega
 have hp2:w.heap.size < w1.heap.size:=by omega
 have hp3:w.heap.size + 1 + 1 < w1.heap.size:=by omega
 have hcl:∀ i,w1.cell? ⟨w.heap.size,i,none⟩=S.toArray[i]?:=fun i=>cell_of_row _ _ _ _ _ _ hS1.out;rw [HSS.out] at hcl;have c0:=hcl 0;have c1:=hcl 1;have c2:=hcl 2;have c3:=hcl 3;have c4:=hcl 4;have c5:=hcl 5;have c6:=hcl 6;have c7:=hcl 7;clear hcl HW hb1 hK HC;simp at c0 c1 c2 c3 c4 c5 c6 c7;go_upto_region 2 with (first | (refine a0t rfl 198 rfl Z HZ ?_) | (refine c0o rfl 198 _ _ rfl rfl w1.heap.size rfl WC rfl Z 198 rfl HWf.out HW1.out HWI.out ?_))
 go_quiet (fail)
 go_wp2_with fail
 clear c0 c1 c2 c3 c4 c5 c6 c7;go_loopw [37,6,7,8,9,10,11,12,13] (fun i va vb vc vd ve vf vg vh w'=>∃ (k n:Nat) (a b c d e f g h:W32),k <= 64/\i = .int .i64 k/\va = .int .u32 (wv a)/\vb = .int .u32 (wv b)/\vc = .int .u32 (wv c)/\vd = .int .u32 (wv d)/\ve = .int .u32 (wv e)/\vf = .int .u32 (wv f)/\vg = .int .u32 (wv g)/\vh = .int .u32 (wv h)/\Hid (rnds ws st k=⟨a,b,c,d,e,f,g,h⟩)/\Hid (w' = (w1.alloc (.cells WC.toArray 198)).drewN n)) (fun i _ _ _ _ _ _ _ _ _=>64 - (intOf i).toNat)
 case atStart=>exact ⟨0,nq,st.a,st.b,st.c,st.d,st.e,st.f,st.g,st.h,by omega,rfl,rfl,rfl,rfl,rfl,rfl,rfl,rfl,rfl,rfl,rfl⟩
 case round =>
  obtain ⟨k,n,a,b,c,d,e,f,g,h,hk,rfl,rfl,rfl,rfl,rfl,rfl,rfl,rfl,rfl,HD,hw⟩:=hrel;by_cases hlt:k < 64
  ·have hkc:wr.cell? ⟨0,k,none⟩=some (.int .u32 (wv (kks.getD k 0))):=by
    rw [hw.out];exact (hK1.out.stays (b0d (a0c w1 _) n) hp1).cell k hlt
   have hwc:wr.cell? ⟨w1.heap.size,k,none⟩=some (.int .u32 (wv (ws.getD k 0))):=by
    rw [hw.out];have:=HWC.out k hlt;simpa using this
   have HS:Hid (rnds ws st (k + 1)=rnd (kks.getD k 0) (ws.getD k 0) ⟨a,b,c,d,e,f,g,h⟩):=by show rnd _ _ _=_;rw [HD.out]
   generalize kks.getD k 0=kk at *;generalize ws.getD k 0=ww at *;clear HD HWC HCM;go_upto_region 6 with fail
   have hxor:=l0a;have hand:=v0Y;have hadd:=m0A;have hnot:∀ x,bits .xor .u32 (if IntKind.u32.signed=true then -1 else IntKind.u32.max) (wv x)=wv (~~~ x):=w0b
   go_quiet (first | (go_at_call 123;refine Calls.quiet_of_same (m0D _ _ (by decide) (by decide) _)))
   go_wp2_with (first | (go_at_call 123;refine (m0D _ _ (by decide) (by decide) _).mono ?_;rintro e w1 ⟨rfl,rfl⟩))
   go_roundw
   case rel=>exact ⟨k + 1,n + nq,_,_,_,_,_,_,_,_,by omega,by go_num,rfl,rfl,rfl,rfl,rfl,rfl,rfl,rfl,HS,by show _=_;rw [hw.out];simp⟩
   case measure=>simp [intOf];omega
  ·have e64:k=64:=by omega
   have HR:Hid (r=st.plus ⟨a,b,c,d,e,f,g,h⟩):=by have h1:=HCM.out;have h2:=HD.out;subst e64;rw [h2] at h1;exact h1
   have hS2:Hid (wr.heap[w.heap.size]? = some (.cells S.toArray 165)):=by
    show _=_;rw [hw.out];exact ((b0d (a0c w1 _) n).block _ hp2).trans hS1.out
   have hZ2:Hid (wr.heap[w.heap.size + 1 + 1]? = some (.cells Z8 165)):=by
    show _=_;rw [hw.out];exact ((b0d (a0c w1 _) n).block _ hp3).trans hZ1.out
   have HB2:Hid (Below w.heap.size w wr):=by
    show Below _ _ _;rw [hw.out];exact HB1.out.trans ((b0d (a0c w1 _) n).mono (by omega))
   have HS0:Hid (S.toArray=((g0C st.list [a,b,c,d,e,f,g,h] 0).map cw).toArray):=by show _=_;rw [HSS.out];rfl
   clear HD HCM HWC hK1 hS1 hZ1 HB1 e64 hw HW1 HWI HWf HWS hp1 hp2 hp3 hsz1;go_wp2;generalize hA:(#[.int .u32 (wv a),.int .u32 (wv b),.int .u32 (wv c),.int .u32 (wv d),.int .u32 (wv e),.int .u32 (wv f),.int .u32 (wv g),.int .u32 (wv h)]:Array Value)=A;have HA:Hid (∀ j,j < 8->A[j]? = some (.int .u32 (wv ([a,b,c,d,e,f,g,h].getD j 0)))):=fun j hj=>g0L [a,b,c,d,e,f,g,h] A hA.symm j hj;clear hA;go_loopw [109] (fun i w'=>∃ (j:Nat) (D:Array Value),j <= 8/\i = .int .i64 j/\Hid (D=((g0C st.list [a,b,c,d,e,f,g,h] j).map cw).toArray)/\Hid (w'.heap[w.heap.size]? = some (.cells D 165))/\Hid (w'.heap[w.heap.size + 1 + 1]? = some (.cells Z8 165))/\Hid (Below w.heap.size w w')) (fun i _=>8 - (intOf i).toNat)
   case atStart=>exact ⟨0,_,by omega,rfl,HS0,hS2,hZ2,HB2⟩
   case round =>
    clear hS2 hZ2 HB2 HS0 hlt hk;obtain ⟨j,D,hj,rfl,HD,hS3,hZ3,HB3⟩:=hrel;by_cases hlt:j < 8
    ·have hD:=g0L _ D HD.out j (by rw [o0A st.list [a,b,c,d,e,f,g,h] rfl rfl j hj];omega)
     rw [q0o st a b c d e f g h j hlt] at hD;have hc1:wr.cell? ⟨w.heap.size,j,none⟩=some (.int .u32 (wv (st.list.getD j 0))):=by rw [cell_of_row _ _ _ _ _ _ hS3.out];exact hD
     have hf1:wr.frozen? ⟨w.heap.size,j,none⟩=false:=frozen_of_row _ _ _ _ _ hS3.out;have hix:=fun W=>f0o (P:=prog) W 165 159 8 _ A j _ underlying165 underlying159 rfl size38 hlt (HA.out j hlt)
     have HS:Hid (D.setIfInBounds j (.int .u32 (wv (st.list.getD j 0 + [a,b,c,d,e,f,g,h].getD j 0)))=((g0C st.list [a,b,c,d,e,f,g,h] (j + 1)).map cw).toArray):=by
      show _=_;rw [q0m _ D HD.out,m0F st a b c d e f g h j hlt]
     have HBs:Hid (w.heap.size < wr.heap.size):=(Array.getElem?_eq_some_iff.1 hS3.out).1;clear hD HD;generalize st.list.getD j 0=x at *;generalize [a,b,c,d,e,f,g,h].getD j 0=y at *;go_upto_region 13 with fail
     have hadd:=m0A x y;go_wp2
     go_roundw
     case rel=>exact ⟨j + 1,_,by omega,by go_num,HS,heap_setCell_same _ _ _ _ _ _ hS3.out,(heap_setCell_other _ ⟨w.heap.size,j,none⟩ (w.heap.size + 1 + 1) _ (by show w.heap.size + 1 + 1 ≠ w.heap.size;omega)).trans hZ3.out,c0K HB3.out _ _ (Nat.le_refl _)⟩
     case measure=>simp [intOf];omega
    ·have e8:j=8:=by omega
     have HE:Hid (D=(r.list.map cw).toArray):=by
      have h1:=HD.out;show _=_;rw [h1,e8,HR.out];rfl
     have hDs:D.size=8:=by rw [HE.out];rfl
     have HC:Hid (∀ i v,D.toList[i]? = some v->wr.cell? ⟨w.heap.size,0 + i,none⟩=some v):=by
      intro i v hv;rw [cell_of_row _ _ _ _ _ _ hS3.out];simpa using hv
     have HI8:Hid ((prog.info? 165).map (·.size)=some D.toList.length):=by show _=_;rw [Array.length_toList,hDs];exact size42
     have HF:Hid (0 + D.toList.length <= Z8.size):=by show _ <= _;rw [Array.length_toList,hDs,hZ8s.out];omega
     have H1:Hid (∀ v ∈ D.toList,v.oneCell' = true):=by
      have h:=HE.out;show ∀ v ∈ D.toList,_;rw [h];simpa using i0X r.list
     clear HD e8
     go_wp2_with (first | (refine a0W rfl 165 _ rfl w.heap.size 0 rfl D.toList _ HC.out underlying165 rfl HI8.out ?_) | (refine b0c rfl 165 _ _ rfl rfl (w.heap.size + 1 + 1) 0 rfl D.toList rfl Z8 165 hZ3.out HF.out H1.out HI8.out ?_))
     have HRR:Hid ((List.take 0 Z8.toList++D.toList++List.drop (0 + D.toList.length) Z8.toList).toArray=D):=by
      have h64:Z8.toList.length <= 0 + D.toList.length:=by rw [Array.length_toList,Array.length_toList,hDs,hZ8s.out];omega
      show _=_;rw [List.drop_eq_nil_of_le h64];simp
     refine bodyPost_ret_by (results_cell_row (fn:=Tryz.f104) (p:=4) (ty:=165) (by kernel_rfl) _ _ (w.heap.size + 1 + 1) 165 D (0,0) _ rfl (by rw [HRR.out];exact setRow_heap _ _ _ _ _ _ hZ3.out) underlying165 rfl (by rw [hDs];exact size42)) rfl ?_;refine ⟨by rw [HE.out],?_⟩;exact below_setRow HB3.out _ _ (by omega)
open Go Go.RowKit
theorem t0T (a b:UInt8):(bv a == bv b)=decide (a=b):=by
 unfold bv;by_cases h:a=b
 ·subst h;simp
 ·have:¬ a.toNat=b.toNat:=fun e=>h (UInt8.toNat_inj.1 e)
  simp [h];omega
theorem c0G {P:Program} (w:World) (e:TypeId) (k:IntKind) (he:P.underlying e=some (.int k)) (x y:List UInt8) (d:Nat):∀ is:List Nat,(∀ i ∈ is,i < x.length/\i < y.length) ->
  (Op.eqItems (d + 1) e 1 (x.map cb).toArray (y.map cb).toArray is).run P w = .ok (decide (∀ i ∈ is,x.getD i 0=y.getD i 0)) w
 | [],_=>by simp [Op.eqItems]
 | i :: is,h=>by
  have hx:((x.map cb).toArray)[i * 1]? = some (.int .u8 (bv (x.getD i 0))):=by
   rw [Nat.mul_one,List.getElem?_toArray];exact i0i x i (h i (by simp)).1
  have hy:((y.map cb).toArray)[i * 1]? = some (.int .u8 (bv (y.getD i 0))):=by
   rw [Nat.mul_one,List.getElem?_toArray];exact i0i y i (h i (by simp)).2
  have hagg:(isAgg e).run P w = .ok false w:=by
   unfold isAgg;rw [Sem.run_bind,run_underlying he w];simp
  have px:(part e (x.map cb).toArray (i * 1)).run P w = .ok (.int .u8 (bv (x.getD i 0))) w:=by
   unfold part;rw [Sem.run_bind,hagg];simp only [Result.andThen_ok,Bool.false_eq_true,if_false,hx,Sem.run_pure]
  have py:(part e (y.map cb).toArray (i * 1)).run P w = .ok (.int .u8 (bv (y.getD i 0))) w:=by
   unfold part;rw [Sem.run_bind,hagg];simp only [Result.andThen_ok,Bool.false_eq_true,if_false,hy,Sem.run_pure]
  have pe:(Op.equalIn (d + 1) e (.int .u8 (bv (x.getD i 0))) (.int .u8 (bv (y.getD i 0)))).run P w = .ok (decide (x.getD i 0=y.getD i 0)) w:=by
   unfold Op.equalIn;rw [Sem.run_bind,run_underlying he w];simp only [Result.andThen_ok,if_true,Sem.run_pure,t0T]
  have ih:=c0G w e k he x y d is (fun j hj=>h j (by simp [hj]));unfold Op.eqItems;simp only [Sem.run_bind,px,py,pe,Result.andThen_ok];by_cases hh:x.getD i 0=y.getD i 0
  ·simp only [hh,decide_true,Bool.not_true,Bool.false_eq_true,if_false,ih,List.forall_mem_cons,true_and]
  ·simp only [hh,decide_false,Bool.not_false,if_true,List.forall_mem_cons,false_and,Sem.run_pure]
theorem j0y (x y:List UInt8) (n:Nat) (hx:x.length=n) (hy:y.length=n):(∀ i ∈ List.range n,x.getD i 0=y.getD i 0) ↔ x=y:=by
 constructor
 ·intro h
  apply List.ext_getElem (by omega);intro i h1 h2;have:=h i (by simp;omega);simpa [List.getD,List.getElem?_eq_getElem h1,List.getElem?_eq_getElem h2] using this
 ·rintro rfl i _;rfl
theorem h0J {P:Program} (w:World) (t e:TypeId) (n:Nat) (k:IntKind) (hu:P.underlying t=some (.array n e)) (he:P.underlying e=some (.int k)) (hs:(P.info? e).map (·.size)=some 1) (x y:List UInt8) (hx:x.length=n) (hy:y.length=n) :
  (Op.equal t (.agg (x.map cb).toArray) (.agg (y.map cb).toArray)).run P w = .ok (decide (x=y)) w:=by
 cases hq:P.info? e with
 | none=>simp [hq] at hs
 | some i =>
  have hi:i.size=1:=by simpa [hq] using hs
  have hc:P.cellsOf e=1:=by simp [Program.cellsOf,hq,hi]
  unfold Op.equal;rw [show Op.maxDepth=9998 + 1 + 1 from rfl,run_equalIn_array w (9998 + 1) _ _ hu hq,hc,c0G w e k he x y 9998 _ (by intro j hj;simp at hj;omega)];simp only [j0y x y n hx hy]
end Go.Proofs.YtagmnmoaekbffaaGreatDoor
