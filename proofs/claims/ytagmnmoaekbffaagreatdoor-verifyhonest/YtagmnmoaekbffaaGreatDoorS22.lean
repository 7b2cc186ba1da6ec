/- S22 -/
import Derived.Test.YtagmnmoaekbffaaGreatDoorS17
import Derived.Test.YtagmnmoaekbffaaGreatDoorS04
import Derived.Test.YtagmnmoaekbffaaGreatDoorS16
import Derived.Maps.OwnSet
import Derived.DeepKeys4
import Derived.Test.YtagmnmoaekbffaaGreatDoorS21
import Derived.Deep.RegionHeld3
import Derived.WalkKit
import Derived.WalkSpells
import Derived.StillTactics
import Derived.Laws.Pointers
set_option maxHeartbeats 4000000
namespace Go.Proofs.YtagmnmoaekbffaaGreatDoor
open Go.Proofs.Tryz
open Go Go.RowKit
open Go.WideElems (Fit rd rd_mk rd_key)
open Go.MapKept (stamped_push stamped_empty)
open Go.ChangeMaps (setBlock)
set_option maxRecDepth 100000
abbrev Ent:=Int × Int × List UInt8
def entV (x:Ent):Value:=.agg #[.int .i64 x.1,.int .i64 x.2.1,.string ⟨x.2.2.toArray⟩]
def o0H (x:Ent):Prop:=(Lit.int .i64 x.1).wf=true/\(Lit.int .i64 x.2.1).wf=true/\x.2.2.length <= maxLen
theorem n0F {x y:Ent} (h:entV x=entV y):x=y:=by
 obtain ⟨a,b,c⟩:=x;obtain ⟨a',b',c'⟩:=y;unfold entV at h;simp only [Value.agg.injEq,Array.mk.injEq,List.cons.injEq,Value.int.injEq,true_and,Value.string.injEq,ByteArray.mk.injEq,and_true] at h;obtain ⟨rfl,rfl,h⟩:=h;have h':c=c':=h;rw [h']
theorem s0z:laidOutB prog=true:=by kernel_rfl
theorem rowE:(112:TypeId) < prog.types.size:=of_decide_eq_true (by kernel_rfl)
theorem x0k:(match prog.underlying 112 with | some (.array _ _) | some (.struct _)=>true | _=>false)=true:=by kernel_rfl
theorem keyTypeE:prog.keyType 112=true:=by kernel_rfl
theorem cellsE:prog.cellsOf 112=3:=by kernel_rfl
theorem keyedE:Maps.Keyed prog 112:=Maps.Keyed.of_law (deep_law_laid s0z (m:=3) (by omega) rowE (by kernel_rfl) x0k)
theorem x0l (w:World):(zeroValue 132).run prog w = .ok (.agg #[]) w:=by kernel_rfl
theorem w0g:∃ n,prog.types.size + 1=n + 2:=⟨prog.types.size - 1,by have h:112 < prog.types.size:=rowE;omega⟩
theorem c3:prog.cellsOf 3=1:=by kernel_rfl
theorem c9:prog.cellsOf 9=1:=by kernel_rfl
theorem keyE {x:Ent} (h:o0H x):∃ l,keyOf prog 112 (entV x)=some l:=by
 obtain ⟨n,hn⟩:=w0g;obtain ⟨h1,h2,h3⟩:=h;have h3':(⟨x.2.2.toArray⟩:ByteArray).size <= maxLen:=h3;unfold keyOf;rw [underlying112];simp only [keyTypeE,Bool.true_and,hn];have hf:(entV x).formed prog 112=true:=by simp [entV,Value.formed,underlying112,cellsE]
 rw [hf];simp [entV,Value.cells,Program.keyLits,underlying112,underlying3,underlying9,cellsE,c3,c9,h1,h2,h3']
def Book (w:World) (b:Nat) (L:List Ent):Prop :=
 ∃ es clock,w.heap[b]? = some (.map es clock)/\Fit prog 112 (unitElem (H:=Unit)) es clock/\es.toList.map (·.key)=L.map entV
theorem s0A (w:World):Book (w.alloc (.map #[] 0)) w.heap.size []:=⟨#[],0,b0z w _,⟨by simp,stamped_empty 0,by simp⟩,rfl⟩
theorem Book.lt {w:World} {b:Nat} {L:List Ent} (h:Book w b L):b < w.heap.size:=by
 obtain ⟨es,clock,hb,_⟩:=h;exact (Array.getElem?_eq_some_iff.1 hb).1
theorem Book.at {w w':World} {b:Nat} {L:List Ent} (h:Book w b L) (e:w'.heap[b]? = w.heap[b]?):Book w' b L:=by
 obtain ⟨es,clock,hb,r⟩:=h;exact ⟨es,clock,e.trans hb,r⟩
theorem Book.kept {w w':World} {b:Nat} {L:List Ent} (h:Book w b L) (hb:Below w.heap.size w w'):Book w' b L:=h.at (hb.block b h.lt)
theorem Book.ne {w:World} {b p:Nat} {L:List Ent} {cs:Array Value} {t:TypeId} {f:Nat × Nat} (h:Book w b L) (hp:w.heap[p]? = some (.cells cs t f)):p ≠ b:=by
 obtain ⟨es,clock,hb,_⟩:=h;intro e;subst e;rw [hb] at hp
 cases hp
theorem q0C {w:World} {b:Nat} {L:List Ent} (h:Book w b L) {x:Ent} (hx:o0H x) :
  (Instr.lookup 105 (.map (some b)) (entV x) true).run prog w = .ok (.tuple #[.agg #[],.bool (decide (x ∈ L))]) w:=by
 obtain ⟨es,clock,hb,F,hk⟩:=h;obtain ⟨l,hl⟩:=keyE hx;rcases Maps.fit_look true keyedE underlying105 (x0l w) hb F hl with ⟨hrun,hne,_⟩ | ⟨e0,y,hm,he,hrun,hv,_⟩
 ·have hn:x ∉ L:=fun hm=>by
   have:entV x ∈ es.toList.map (·.key):=by rw [hk];exact List.mem_map.2 ⟨x,hm,rfl⟩
   obtain ⟨e,he,hee⟩:=List.mem_map.1 this;exact hne e he hee
  rw [hrun,decide_eq_false hn];rfl
 ·have hn:x ∈ L:=by
   have:entV x ∈ L.map entV:=by rw [← hk];exact List.mem_map.2 ⟨e0,hm,he⟩
   obtain ⟨y,hy,hyy⟩:=List.mem_map.1 this;rw [← n0F hyy];exact hy
  obtain ⟨hv1,_⟩:=unitElem_inv hv;rw [hrun,decide_eq_true hn,hv1];rfl
theorem i0n (w:World) (b:Nat) (o:Obj):Touch b w (setBlock w b o) :=
 ⟨rfl,rfl,rfl,by simp [setBlock],fun k hk hp=>by unfold setBlock;show (w.heap.setIfInBounds b o)[k]? = _;rw [Array.getElem?_setIfInBounds_ne (Ne.symm hp)]⟩
open Go Go.RowKit
set_option maxRecDepth 100000
def keyB (s:List UInt8) (c:Int):List UInt8:=j0X s [99,108,105,101,110,116] c
def secB (s:List UInt8):List UInt8:=j0X s [115,101,99,114,101,116] 0
def tagB (s:List UInt8) (x:Ent):List UInt8:=hmac (keyB s x.1) ((Lib.itoa x.2.1++[59])++x.2.2)
theorem s0B (s:List UInt8) (c:Int):(keyB s c).length=32:=l0e _ _ _
theorem c0e (s:List UInt8) (x:Ent):(tagB s x).length=32:=j0W _ _
abbrev May (n:Nat) (x:Ent):Prop:=0 <= x.1/\x.1 < n/\1 <= x.2.1/\x.2.1 <= 6/\x.2.2.length <= 16384
theorem May.wf {n:Nat} {x:Ent} (h:May n x) (hn:n <= 8):o0H x:=by
 obtain ⟨h0,h1,h2,h3,h4⟩:=h;refine ⟨WalkArith.wf_i64 (by omega),WalkArith.wf_i64 (by omega),by unfold maxLen;omega⟩
def l0f (s:List UInt8) (n:Nat):List Value:=(List.range n).map fun (i:Nat)=>Value.string ⟨(keyB s i).toArray⟩
structure RingAt (w:World) (p h g b:Nat) (s:List UInt8) (n:Nat) (L:List Ent):Prop where
 obj:w.heap[p]? = some (.cells #[.int .i64 n,.string ⟨(secB s).toArray⟩,.func (.func 69) #[] #[.pointer (some ⟨h,0,none⟩)],.map (some b)] 107)
 var:w.heap[h]? = some (.cells #[.slice (some ⟨g,0,none⟩) n n] 33)
 keys:w.heap[g]? = some (.cells (l0f s n).toArray 9)
 book:Book w b L
theorem RingAt.kept {w w':World} {p h g b n:Nat} {s:List UInt8} {L:List Ent} (r:RingAt w p h g b s n L) (hb:Below w.heap.size w w'):RingAt w' p h g b s n L :=
 ⟨a0a r.obj hb,a0a r.var hb,a0a r.keys hb,r.book.kept hb⟩
theorem RingAt.grown {w w':World} {p h g b n:Nat} {s:List UInt8} {L L':List Ent} (r:RingAt w p h g b s n L) (hq:Book w' b L') (ht:Touch b w w'):RingAt w' p h g b s n L' :=
 ⟨a0x r.obj ht (r.book.ne r.obj),a0x r.var ht (r.book.ne r.var),a0x r.keys ht (r.book.ne r.keys),hq⟩
theorem l0g (s:List UInt8) (n i:Nat) (h:i < n):(l0f s n)[i]? = some (.string ⟨(keyB s i).toArray⟩):=by
 unfold l0f;rw [List.getElem?_map,List.getElem?_range h];rfl
theorem RingAt.key {w:World} {p h g b n:Nat} {s:List UInt8} {L:List Ent} (r:RingAt w p h g b s n L) (i:Nat) (hi:i < n):w.cell? ⟨g,i,none⟩=some (.string ⟨(keyB s i).toArray⟩):=by
 rw [cell_of_row _ _ _ _ _ _ r.keys,List.getElem?_toArray,l0g s n i hi]
theorem RingAt.c0 {w:World} {p h g b n:Nat} {s:List UInt8} {L:List Ent} (r:RingAt w p h g b s n L):w.cell? ⟨p,0,none⟩=some (.int .i64 n):=by rw [cell_of_row _ _ _ _ _ _ r.obj];rfl
theorem RingAt.c2 {w:World} {p h g b n:Nat} {s:List UInt8} {L:List Ent} (r:RingAt w p h g b s n L):w.cell? ⟨p,2,none⟩=some (.func (.func 69) #[] #[.pointer (some ⟨h,0,none⟩)]):=by rw [cell_of_row _ _ _ _ _ _ r.obj];rfl
theorem RingAt.c3 {w:World} {p h g b n:Nat} {s:List UInt8} {L:List Ent} (r:RingAt w p h g b s n L):w.cell? ⟨p,3,none⟩=some (.map (some b)):=by rw [cell_of_row _ _ _ _ _ _ r.obj];rfl
theorem RingAt.v0 {w:World} {p h g b n:Nat} {s:List UInt8} {L:List Ent} (r:RingAt w p h g b s n L):w.cell? ⟨h,0,none⟩=some (.slice (some ⟨g,0,none⟩) n n):=by rw [cell_of_row _ _ _ _ _ _ r.var];rfl
section
variable {w:World} {p h g b n:Nat} {s:List UInt8} {L:List Ent}
theorem e0p (r:RingAt w p h g b s n L):Calls prog 50 #[.pointer (some ⟨p,0,none⟩)] w fun e w'=>e = .returned (.int .i64 n)/\w' = w:=by
 have hc:=r.c0;clear r;go_enter func50,ntmps50;go_wp2;go_ret;exact ⟨rfl,rfl⟩
end
open Go Go.RowKit
set_option maxRecDepth 100000
theorem m0K {B:Nat} {w w':World} (h:Below B w w'):Below B w w'.drew:=h.drew
theorem c0A {w w':World} (h:Below w.heap.size w w') (o:Obj):Below w.heap.size w (w'.alloc o):=h.alloc h.size o
section
variable {w:World} {p h g b n:Nat} {s:List UInt8} {L:List Ent}
theorem q0D (r:RingAt w p h g b s n L) (c d:Int) (t:List UInt8) (hx:o0H (c,d,t)) :
  Calls prog 70 #[.pointer (some ⟨p,0,none⟩),.agg #[.int .i64 c,.int .i64 d,.string ⟨t.toArray⟩]] w fun e w'=>e = .returned (.bool (decide ((c,d,t) ∈ L)))/\Below w.heap.size w w':=by
 have HB0:Hid (Below w.heap.size w (w.alloc (.cells #[.int .i64 c,.int .i64 d,.string ⟨t.toArray⟩] 112))):=a0c w _;have r0:=r.kept HB0.out;have hq:(w.alloc (.cells #[.int .i64 c,.int .i64 d,.string ⟨t.toArray⟩] 112)).heap[w.heap.size]? = some (.cells #[.int .i64 c,.int .i64 d,.string ⟨t.toArray⟩] 112):=b0z w _;go_enter func70,ntmps70;go_upto_region 1 with fail
 generalize w.alloc (.cells #[.int .i64 c,.int .i64 d,.string ⟨t.toArray⟩] 112)=w0 at *;obtain ⟨q,hq0⟩:∃ q,q=w.heap.size:=⟨_,rfl⟩;rw [← hq0] at hq
 have hh:∀ W,Below w0.heap.size w0 W->W.cell? ⟨p,3,none⟩=some (.map (some b))/\W.cell? ⟨q,0,none⟩=some (.int .i64 c)/\W.cell? ⟨q,1,none⟩=some (.int .i64 d)/\W.cell? ⟨q,2,none⟩=some (.string ⟨t.toArray⟩) /\
   (Instr.lookup 105 (.map (some b)) (.agg #[.int .i64 c,.int .i64 d,.string ⟨t.toArray⟩]) true).run prog W = .ok (.tuple #[.agg #[],.bool (decide ((c,d,t) ∈ L))]) W:=by
  intro W hb;have hq':=a0a hq hb;refine ⟨(r0.kept hb).c3,?_,?_,?_,q0C (r0.kept hb).book hx⟩
  ·rw [cell_of_row _ _ _ _ _ _ hq'];rfl
  ·rw [cell_of_row _ _ _ _ _ _ hq'];rfl
  ·rw [cell_of_row _ _ _ _ _ _ hq'];rfl
 have HH:=hid hh;clear hh hq r0 r;have HQ:=hid hq0;obtain ⟨B,hB⟩:∃ B,B=decide ((c,d,t) ∈ L):=⟨_,rfl⟩;have HBe:=hid hB;rw [← hB] at HH;rw [← hq0];clear hB hq0
 go_region_held3 (fun W=>W.cell? ⟨p,3,none⟩=some (.map (some b))/\W.cell? ⟨q,0,none⟩=some (.int .i64 c)/\W.cell? ⟨q,1,none⟩=some (.int .i64 d)/\W.cell? ⟨q,2,none⟩=some (.string ⟨t.toArray⟩) /\
   (Instr.lookup 105 (.map (some b)) (.agg #[.int .i64 c,.int .i64 d,.string ⟨t.toArray⟩]) true).run prog W = .ok (.tuple #[.agg #[],.bool B]) W)
  (first | exact HH.out _ (Below.refl _ _) | exact HH.out _ (Below.refl _ _).drew | exact HH.out _ (c0A (Below.refl _ _) _) | exact HH.out _ (c0A (Below.refl _ _).drew _) | exact HH.out _ (c0A (Below.refl _ _) _).drew | exact HH.out _ (c0A (Below.refl _ _).drew _).drew) (fail)
 all_goals go_wp2
 all_goals go_ret
 all_goals refine ⟨by rw [← HBe.out];rfl,HB0.out.trans (Below.mono ?_ HB0.out.size)⟩
 all_goals repeat first | exact Below.refl _ _ | refine m0K ?_ | refine c0A ?_ _ | refine b0d ?_ _
end
open Go Go.RowKit
set_option maxRecDepth 100000
theorem s0D (n:Nat) (c d:Int) (t:List UInt8) (B:Bool) (hB:B=decide (May n (c,d,t))) :
  (decide ((0:Int) <= c)=false/\decide ((1:Int) <= d)=false/\B=false) ∨ (decide ((0:Int) <= c)=false/\decide ((1:Int) <= d)=true/\decide (d <= (6:Int))=false/\B=false) ∨ (decide ((0:Int) <= c)=false/\decide ((1:Int) <= d)=true/\decide (d <= (6:Int))=true/\B=false) ∨
  (decide ((0:Int) <= c)=true/\decide (c < (n:Int))=false/\decide ((1:Int) <= d)=false/\B=false) ∨ (decide ((0:Int) <= c)=true/\decide (c < (n:Int))=false/\decide ((1:Int) <= d)=true/\decide (d <= (6:Int))=false/\B=false) ∨ (decide ((0:Int) <= c)=true/\decide (c < (n:Int))=false/\decide ((1:Int) <= d)=true/\decide (d <= (6:Int))=true/\B=false) ∨
  (decide ((0:Int) <= c)=true/\decide (c < (n:Int))=true/\decide ((1:Int) <= d)=false/\B=false) ∨ (decide ((0:Int) <= c)=true/\decide (c < (n:Int))=true/\decide ((1:Int) <= d)=true/\decide (d <= (6:Int))=false/\B=false) ∨
  (decide ((0:Int) <= c)=true/\decide (c < (n:Int))=true/\decide ((1:Int) <= d)=true/\decide (d <= (6:Int))=true/\decide ((t.length:Int) <= 16384)=false/\B=false) ∨ (decide ((0:Int) <= c)=true/\decide (c < (n:Int))=true/\decide ((1:Int) <= d)=true/\decide (d <= (6:Int))=true/\decide ((t.length:Int) <= 16384)=true/\B=true):=by
 simp only [decide_eq_true_eq,decide_eq_false_iff_not];by_cases h:May n (c,d,t)
 ·have hb:B=true:=by rw [hB];exact decide_eq_true h
  have h':0 <= c/\c < n/\1 <= d/\d <= 6/\t.length <= 16384:=h;simp only [hb,and_true,Bool.true_eq_false,and_false,false_or];omega
 ·have hf:B=false:=by rw [hB];exact decide_eq_false h
  have hn:¬ (0 <= c/\c < n/\1 <= d/\d <= 6/\t.length <= 16384):=h;simp only [hf,and_true,Bool.false_eq_true,and_false,or_false];omega
theorem m0L (w:World) (po:Option Addr) (n:Nat) (HC:Hid (∀ W,Below w.heap.size w W->Calls prog 50 #[.pointer po] W fun e w'=>e = .returned (.int .i64 n)/\w' = W)) (c d:Int) (t:List UInt8) (B:Bool) (hB:B=decide (May n (c,d,t))) :
  Calls prog 39 #[.pointer po,.agg #[.int .i64 c,.int .i64 d,.string ⟨t.toArray⟩]] w fun e w'=>e = .returned (.bool B)/\Below w.heap.size w w':=by
 have hw:=s0D n c d t B hB;have hs:(⟨t.toArray⟩:ByteArray).size=t.length:=rfl;clear hB;have HB0:Hid (Below w.heap.size w (w.alloc (.cells #[.int .i64 c,.int .i64 d,.string ⟨t.toArray⟩] 112))):=a0c w _;have hq:(w.alloc (.cells #[.int .i64 c,.int .i64 d,.string ⟨t.toArray⟩] 112)).heap[w.heap.size]? = some (.cells #[.int .i64 c,.int .i64 d,.string ⟨t.toArray⟩] 112):=b0z w _;have hq0:(w.alloc (.cells #[.int .i64 c,.int .i64 d,.string ⟨t.toArray⟩] 112)).cell? ⟨w.heap.size,0,none⟩=some (.int .i64 c):=by rw [cell_of_row _ _ _ _ _ _ hq];rfl
 have hq1:(w.alloc (.cells #[.int .i64 c,.int .i64 d,.string ⟨t.toArray⟩] 112)).cell? ⟨w.heap.size,1,none⟩=some (.int .i64 d):=by rw [cell_of_row _ _ _ _ _ _ hq];rfl
 have hq2:(w.alloc (.cells #[.int .i64 c,.int .i64 d,.string ⟨t.toArray⟩] 112)).cell? ⟨w.heap.size,2,none⟩=some (.string ⟨t.toArray⟩):=by rw [cell_of_row _ _ _ _ _ _ hq];rfl
 clear hq;go_enter func39,ntmps39;go_upto_region 1 with fail
 generalize w.alloc (.cells #[.int .i64 c,.int .i64 d,.string ⟨t.toArray⟩] 112)=w0 at *;have HC0:Hid (∀ W,Below w0.heap.size w0 W->Calls prog 50 #[.pointer po] W fun e w'=>e = .returned (.int .i64 n)/\w' = W):=fun W hb=>HC.out W (HB0.out.trans (hb.mono HB0.out.size));clear HC;rcases hw with ⟨a1,a2,rfl⟩ | ⟨a1,a2,a3,rfl⟩ | ⟨a1,a2,a3,rfl⟩ | ⟨a1,a2,a3,rfl⟩ | ⟨a1,a2,a3,a4,rfl⟩ | ⟨a1,a2,a3,a4,rfl⟩ | ⟨a1,a2,a3,rfl⟩ | ⟨a1,a2,a3,a4,rfl⟩ | ⟨a1,a2,a3,a4,a5,rfl⟩ | ⟨a1,a2,a3,a4,a5,rfl⟩
 all_goals go_quiet (first | (go_at_call 50;refine Calls.quiet_of_same (HC0.out _ (b0d (Below.refl _ _) _))))
 all_goals go_wp2
 all_goals go_ret
 all_goals exact ⟨rfl,b0d HB0.out _⟩
open Go Go.RowKit
open Go.ChangeMaps (setBlock)
set_option maxRecDepth 100000
theorem q0E {w:World} {b:Nat} {L:List Ent} (h:Book w b L) {x:Ent} (hx:o0H x) (hn:x ∉ L) (hr:L.length < 1000000) :
  ∃ o,∀ W,W.heap[b]? = w.heap[b]?->(Instr.mapUpdate 105 (.map (some b)) (entV x) (.agg #[])).run prog W = .ok () (setBlock W b o)/\Book (setBlock W b o) b (L++[x]):=by
 obtain ⟨es,clock,hb,F,hk⟩:=h;obtain ⟨l,hl⟩:=keyE hx;have e1:es.size=L.length:=by have:=congrArg List.length hk;simpa using this
 have hkeys:∀ e ∈ es.toList,∃ l,keyOf prog 112 e.key=some l:=fun e he=>by
  obtain ⟨y,hy⟩:=F.reads e he;exact ⟨_,WideElems.rd_key hy⟩
 have hne:∀ e ∈ es.toList,e.key ≠ entV x:=by
  intro e he hee;apply hn;have:entV x ∈ L.map entV:=by rw [← hk];exact List.mem_map.2 ⟨e,he,hee⟩
  obtain ⟨y,hy,hyy⟩:=List.mem_map.1 this;rw [← n0F hyy];exact hy
 refine ⟨.map (es.push ⟨entV x,.agg #[],clock⟩) (clock + 1),fun W hW=>?_⟩;have hb':W.heap[b]? = some (.map es clock):=hW.trans hb;rcases keyedE.find W hl es.toList hkeys with ⟨h1,h2⟩ | ⟨j,e0,h1,h2,h3⟩
 ·refine ⟨?_,⟨_,_,ChangeMaps.heap_setBlock_same hb' _,⟨by simp [maxLen];omega,MapKept.stamped_push F.stamped h2,?_⟩,?_⟩⟩
  ·simp [Instr.mapUpdate,run_underlying underlying105,MapKept.run_getObj_map hb',keyedE.check W false hl,h1,MapKept.run_setObj_map _ hb',Result.andThen,setBlock]
  ·intro e he
   simp only [Array.toList_push,List.mem_append,List.mem_singleton] at he;rcases he with he | rfl
   ·exact F.reads e he
   ·exact ⟨_,WideElems.rd_mk hl unitElem_mk⟩
  ·simp [hk]
 ·exact absurd h3 (hne e0 (List.mem_of_getElem? h2))
theorem clone_any (l:List UInt8) (w:World) (hl:l.length <= 1000000):Calls prog 58 #[.string ⟨l.toArray⟩] w fun e w'=>e = .returned (.string ⟨l.toArray⟩)/\Below w.heap.size w w':=by
 have H:=hid (fun W=>Tryz.stringslite_Clone ⟨l.toArray⟩ W (by show l.length <= _;omega));go_enter func58,ntmps58
 go_wp2_with (first | (go_at_call 79;refine (H.out _).mono ?_))
 rintro e w1 ⟨rfl,hb⟩;have HB:=hid hb;clear hb;go_wp2;go_ret;exact ⟨rfl,HB.out⟩
def e0M (L:List Ent) (x:Ent):List Ent:=if x ∈ L then L else L++[x]
section
variable {w:World} {p h g b n:Nat} {s:List UInt8} {L:List Ent}
theorem s0E (r:RingAt w p h g b s n L) (c d:Int) (t:List UInt8) (hx:o0H (c,d,t)) (hl:t.length <= 16384) (hr:L.length < 1000000) :
  Calls prog 40 #[.pointer (some ⟨p,0,none⟩),.agg #[.int .i64 c,.int .i64 d,.string ⟨t.toArray⟩]] w fun e w'=>e = .returned (.tuple #[])/\RingAt w' p h g b s n (e0M L (c,d,t))/\Touch b w w':=by
 have HB0:Hid (Below w.heap.size w (w.alloc (.cells #[.int .i64 c,.int .i64 d,.string ⟨t.toArray⟩] 112))):=a0c w _;have r0:=hid (r.kept HB0.out);have hq:=hid (b0z w (.cells #[.int .i64 c,.int .i64 d,.string ⟨t.toArray⟩] 112));have HC:=hid (fun W=>clone_any t W (by omega));have Hqb:Hid (w.heap.size ≠ b):=by have:=r.book.lt;show _ ≠ _;omega
 by_cases hin:(c,d,t) ∈ L
 ·have hN:Hid (e0M L (c,d,t)=L):=if_pos hin
  have H0:=hid (q0D r0.out c d t hx);rw [decide_eq_true hin] at H0;clear hin;go_enter func40,ntmps40;go_upto_region 1 with fail
  have hc0:(w.alloc (.cells #[.int .i64 c,.int .i64 d,.string ⟨t.toArray⟩] 112)).cell? ⟨w.heap.size,0,none⟩=some (.int .i64 c):=by rw [cell_of_row _ _ _ _ _ _ hq.out];rfl
  have hc1:(w.alloc (.cells #[.int .i64 c,.int .i64 d,.string ⟨t.toArray⟩] 112)).cell? ⟨w.heap.size,1,none⟩=some (.int .i64 d):=by rw [cell_of_row _ _ _ _ _ _ hq.out];rfl
  have hc2:(w.alloc (.cells #[.int .i64 c,.int .i64 d,.string ⟨t.toArray⟩] 112)).cell? ⟨w.heap.size,2,none⟩=some (.string ⟨t.toArray⟩):=by rw [cell_of_row _ _ _ _ _ _ hq.out];rfl
  generalize w.alloc (.cells #[.int .i64 c,.int .i64 d,.string ⟨t.toArray⟩] 112)=w0 at *
  go_wp2_with (first | (go_at_call 70;refine Calls.mono H0.out ?_))
  rintro e w1 ⟨rfl,hb1⟩;have HB1:=hid hb1;clear hb1 H0 hc0 hc1 hc2;go_wp2;refine bodyPost_ret (results_none (by kernel_rfl) _ _ _) rfl ?_;exact ⟨rfl,by rw [hN.out];exact r0.out.kept HB1.out,Touch.of (HB0.out.trans (HB1.out.mono HB0.out.size))⟩
 ·have hN:Hid (e0M L (c,d,t)=L++[(c,d,t)]):=if_neg hin
  have H0:=hid (q0D r0.out c d t hx);rw [decide_eq_false hin] at H0;obtain ⟨o,ho⟩:=q0E r.book hx hin hr;have HO:=hid ho
  have Hbb:Hid (∀ W,Below (w.alloc (.cells #[.int .i64 c,.int .i64 d,.string ⟨t.toArray⟩] 112)).heap.size (w.alloc (.cells #[.int .i64 c,.int .i64 d,.string ⟨t.toArray⟩] 112)) W->W.heap[b]? = w.heap[b]?):=fun W hb=>by
   rw [hb.block b r0.out.book.lt];exact HB0.out.block b r.book.lt
  clear hin ho;go_enter func40,ntmps40;go_upto_region 1 with fail
  have hc0:(w.alloc (.cells #[.int .i64 c,.int .i64 d,.string ⟨t.toArray⟩] 112)).cell? ⟨w.heap.size,0,none⟩=some (.int .i64 c):=by rw [cell_of_row _ _ _ _ _ _ hq.out];rfl
  have hc1:(w.alloc (.cells #[.int .i64 c,.int .i64 d,.string ⟨t.toArray⟩] 112)).cell? ⟨w.heap.size,1,none⟩=some (.int .i64 d):=by rw [cell_of_row _ _ _ _ _ _ hq.out];rfl
  have hc2:(w.alloc (.cells #[.int .i64 c,.int .i64 d,.string ⟨t.toArray⟩] 112)).cell? ⟨w.heap.size,2,none⟩=some (.string ⟨t.toArray⟩):=by rw [cell_of_row _ _ _ _ _ _ hq.out];rfl
  generalize w.alloc (.cells #[.int .i64 c,.int .i64 d,.string ⟨t.toArray⟩] 112)=w0 at *
  go_wp2_with (first | (go_at_call 70;refine Calls.mono H0.out ?_))
  rintro e w1 ⟨rfl,hb1⟩;have HB1:=hid hb1;have hq1:=hid (a0a hq.out hb1);clear hb1 H0 hc0 hc1 hc2;have hc2:w1.cell? ⟨w.heap.size,2,none⟩=some (.string ⟨t.toArray⟩):=by rw [cell_of_row _ _ _ _ _ _ hq1.out];rfl
  go_wp2_with (first | (go_at_call 58;refine (HC.out _).mono ?_))
  rintro e w2 ⟨rfl,hb2⟩;have HB2:=hid (HB1.out.trans (hb2.mono HB1.out.size));have hq2:=hid (a0a hq1.out hb2);clear hb2 hc2 HC HB1 hq1;have hc2:w2.cell? ⟨w.heap.size,2,none⟩=some (.string ⟨t.toArray⟩):=by rw [cell_of_row _ _ _ _ _ _ hq2.out];rfl
  have hf2:w2.frozen? ⟨w.heap.size,2,none⟩=false:=frozen_of_row _ _ _ _ _ hq2.out;go_upto_region 3 with fail
  have HT3:Hid (Touch w.heap.size w2 (w2.setCell ⟨w.heap.size,2,none⟩ (.string ⟨t.toArray⟩))):=e0o _ _ _ _;have hq3:Hid ((w2.setCell ⟨w.heap.size,2,none⟩ (.string ⟨t.toArray⟩)).heap[w.heap.size]? = some (.cells #[.int .i64 c,.int .i64 d,.string ⟨t.toArray⟩] 112)):=heap_setCell_same _ _ _ _ _ _ hq2.out;generalize w2.setCell ⟨w.heap.size,2,none⟩ (.string ⟨t.toArray⟩)=w3 at *;clear hc2 hf2 hq2
  have r3:Hid (RingAt w3 p h g b s n L):=by
   have r2:=r0.out.kept HB2.out;have hlt:=r2.book.lt;have e:=HT3.out.block;refine ⟨a0x r2.obj HT3.out ?_,a0x r2.var HT3.out ?_,a0x r2.keys HT3.out ?_,r2.book.at (e b hlt (Ne.symm Hqb.out))⟩
   ·have:=e0y r.obj;omega
   ·have:=e0y r.var;omega
   ·have:=e0y r.keys;omega
  have H3b:Hid (w3.heap[b]? = w.heap[b]?):=(HT3.out.block b (r0.out.kept HB2.out).book.lt (Ne.symm Hqb.out)).trans (Hbb.out _ HB2.out);have HT:Hid (Touch b w w3):=Touch.of ((HB0.out.trans (HB2.out.mono HB0.out.size)).trans (HT3.out.below (Nat.le_refl _) (by have:=HB0.out.size;have:=HB2.out.size;omega)))
  have HH:Hid (∀ W,Touch b w3 W->W.cell? ⟨p,3,none⟩=some (.map (some b))/\W.cell? ⟨w.heap.size,0,none⟩=some (.int .i64 c)/\W.cell? ⟨w.heap.size,1,none⟩=some (.int .i64 d)/\W.cell? ⟨w.heap.size,2,none⟩=some (.string ⟨t.toArray⟩)):=by
   intro W hb;have hq':=a0x hq3.out hb Hqb.out;have hp':=a0x r3.out.obj hb (r3.out.book.ne r3.out.obj);refine ⟨?_,?_,?_,?_⟩
   ·rw [cell_of_row _ _ _ _ _ _ hp'];rfl
   ·rw [cell_of_row _ _ _ _ _ _ hq'];rfl
   ·rw [cell_of_row _ _ _ _ _ _ hq'];rfl
   ·rw [cell_of_row _ _ _ _ _ _ hq'];rfl
  have hU:(Instr.mapUpdate 105 (.map (some b)) (.agg #[.int .i64 c,.int .i64 d,.string ⟨t.toArray⟩]) (.agg #[])).run prog w3.drew = .ok () (setBlock w3.drew b o):=(HO.out w3.drew H3b.out).1;have HBk:Hid (Book (setBlock w3.drew b o) b (L++[(c,d,t)])):=(HO.out w3.drew H3b.out).2;have HTd:Hid (Touch b w3 w3.drew):=Touch.of (Below.refl _ _).drew;have HTs:Hid (Touch b w3 (setBlock w3.drew b o)):=HTd.out.trans (i0n _ _ _);clear r Hbb hq hq3 HT3 HB2 Hqb;obtain ⟨q,hqq⟩:∃ q,q=w.heap.size:=⟨_,rfl⟩;rw [← hqq] at HH ⊢;clear hqq
  go_region_held3 (fun W=>W.cell? ⟨p,3,none⟩=some (.map (some b))/\W.cell? ⟨q,0,none⟩=some (.int .i64 c)/\W.cell? ⟨q,1,none⟩=some (.int .i64 d)/\W.cell? ⟨q,2,none⟩=some (.string ⟨t.toArray⟩))
   (first | exact HH.out _ (Touch.refl _ _) | exact HH.out _ HTd.out | exact HH.out _ HTs.out) (fail)
  go_end0
  exact ⟨rfl,by rw [hN.out];exact r3.out.grown HBk.out HTs.out,HT.out.trans HTs.out⟩
end
end Go.Proofs.YtagmnmoaekbffaaGreatDoor
