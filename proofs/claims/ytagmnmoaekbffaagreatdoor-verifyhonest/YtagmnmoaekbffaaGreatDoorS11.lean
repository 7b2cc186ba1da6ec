/- S11 -/
import Derived.RangeFuncNested
import Derived.RangeFuncBound
import Derived.RangeFuncCalls
import Derived.RangeFuncLeaves
import Derived.WalkKit
import Derived.Below
import Derived.Test.YtagmnmoaekbffaaGreatDoorS01
import Derived.Test.YtagmnmoaekbffaaGreatDoorChecked
import Derived.Laws.Rows
import Derived.Laws.EntriesVeiled
import Derived.Laws.AppendOwn
import Derived.BigQuiet
import Derived.Sort.Grow
import Derived.OwnWalkIn
import Derived.TacticsInMore
import Derived.LoopNIn
import Derived.LoopIn
import Derived.Shelf.Abstract
import Derived.Shelf.RegionOpen
set_option maxHeartbeats 2000000
namespace Go.Proofs.YtagmnmoaekbffaaGreatDoor.Hist
open Go.Proofs.Tryz
open Go Go.RowKit
set_option maxRecDepth 100000
theorem hid {p:Prop} (h:p):Hid p:=h
structure Above (B:Nat) (W W':World):Prop where
 size:W.heap.size <= W'.heap.size
 block:∀ k,B <= k->k < W.heap.size->W'.heap[k]? = W.heap[k]?
theorem Above.refl (B:Nat) (W:World):Above B W W:=⟨Nat.le_refl _,fun _ _ _=>rfl⟩
theorem Above.trans {B:Nat} {X Y Z:World} (h:Above B X Y) (k:Above B Y Z):Above B X Z :=
 ⟨Nat.le_trans h.size k.size,fun i hB hi=>(k.block i hB (Nat.lt_of_lt_of_le hi h.size)).trans (h.block i hB hi)⟩
theorem Above.setCell {B:Nat} {X W:World} (h:Above B X W) {p:Addr} (hp:p.block < B) (u:Value):Above B X (W.setCell p u) :=
 h.trans ⟨by simp [World.setCell],fun k hB _=>Below.heap_setCell _ _ _ _ (by omega)⟩
theorem Above.row {B:Nat} {W W':World} (h:Above B W W') {k:Nat} {o:Obj} (hk:W.heap[k]? = some o) (hB:B <= k):W'.heap[k]? = some o :=
 (h.block k hB (Array.getElem?_eq_some_iff.1 hk).1).trans hk
theorem b0O {B:Nat} (W:World) (l:Nat) (o o':Obj) (hB:B <= l) (h:W.heap[l]? = some o):Below B W (W.putObj l o') :=
 (Below.refl B W).grown (grownBy_putObj' W l o') (by have:=(Array.getElem?_eq_some_iff.1 h).1;omega) (fun k e=>by cases e;omega)
def SeqB (F:Fence) (n:Nat) (P:Program) (g:Nat) (lb:Array Value) (xs:List (Array Value)) (B:Nat) (w:World):Prop :=
 ∀ (l:Nat) (J Jx:Nat->World->Prop) (W:World),Below w.heap.size w W ->
  (∀ k X Y,J k X->Below W.heap.size X Y->J k Y) ->
  (∀ k x W1,xs[k]? = some x->J k W1->YieldAt F (n - 1) P l x W1 fun e W' =>
   (e = .returned (.bool true)/\J (k + 1) W'/\Above B W1 W') ∨ (e = .returned (.bool false)/\Jx (k + 1) W')) ->
  J 0 W ->
  CallsIn F n P g (#[.func (.yield l) #[] #[]]++lb) W fun e W'=>(∃ v,e = .returned v)/\(J xs.length W' ∨ ∃ k,k < xs.length/\Jx (k + 1) W')
def s0h (B:Nat) (I:Nat->World->Prop) (Ix:Code->Nat->World->Prop) (k:Nat) (W:World):Exit->Act->World->Prop
 | .normal,_,W'=>Above B W W'/\I k W'
 | .ret,_,W'=>Above B W W'/\Ix .ret k W'
 | .exit id,_,W'=>Above B W W'/\Ix (.exit id) k W'
 | .goto t,_,W'=>Above B W W'/\Ix (.goto t) k W'
 | .panic _,_,_=>False
 | .outgrown,_,_=>False
variable {F:Fence} {n:Nat} {P:Program}
theorem c0M {g:Operand} {ps:Array Tmp} {assign body:Code} {Q:Exit->Act->World->Prop} {a:Act} {w:World}
  (hro:F.round=none) (h1:1 <= n) {gf:Nat} {lb:Array Value} (hg:a.eval g = .func (.func gf) #[] lb) (hFg:F.fn gf) (eg:∀ args w,(callFunc gf args).run P w = .ok (.enter gf args) w)
  {xs:List (Array Value)} {B:Nat} {w0:World} (hseq:SeqB F (n - 1) P gf lb xs B w0) (hb0:Below w0.heap.size w0 w) (hB:B <= w.heap.size) (hps:∀ x ∈ xs,x.size=ps.size)
  (I:Nat->World->Prop) (Ix:Code->Nat->World->Prop) (hI:∀ k X Y,I k X->Below B X Y->I k Y) (hIx:∀ c k X Y,Ix c k X->Below B X Y->Ix c k Y) (h0:I 0 w) (a₁:Array Value->Act)
  (hassign:∀ (l:Nat) (x:Array Value) (W:World) (K:Act->World->Prop),x ∈ xs->K (a₁ x) W ->
   assign.wpIn (F.inRound l) (n - 1 - 1) P (Exit.then K (fun _ _ _=>False)) { tmps:=(ps.zip x).foldl (fun t (p,v)=>t.setIfInBounds p v) a.tmps,defers:=[] } W)
  (hbody:∀ (l k:Nat) (x:Array Value) (W:World),xs[k]? = some x->I k W->body.wpIn (F.inRound l) (n - 1 - 1) P (s0h B I Ix (k + 1) W) (a₁ x) W)
  (hdone:∀ (D:Nat) (W:World),w.heap.size <= D->I xs.length W->W.heap[D]? = some (.deferred (some []))->Q .normal { a with defers:={ target:=.collected D,args:=#[] } :: a.defers } W)
  (hstop:∀ (D:Nat) (c:Code) (k:Nat) (W:World),w.heap.size <= D->k < xs.length->Ix c (k + 1) W->W.heap[D]? = some (.deferred (some []))->c.wpIn F n P Q { a with defers:={ target:=.collected D,args:=#[] } :: a.defers } W) :
  (Code.rangeFunc g ps assign body).wpIn F n P Q a w:=by
 refine wpIn_rangeFunc ?_;intro fn hfn;rw [hro];obtain ⟨rec,hrec⟩:∃ rec:LoopState->Option Code->Loop,rec=fun st pe=>{ state:=st,pending:=pe,fn,tmps:=a.tmps,params:=ps,assign,body,defers:=w.heap.size }:=⟨_,rfl⟩;obtain ⟨W1,hW1⟩:∃ W1,(w.alloc (.deferred (some []))).alloc (.loop (rec .ready none))=W1:=⟨_,rfl⟩;have hs1:W1.heap.size=w.heap.size + 2:=by rw [← hW1];simp
 have hL1:W1.heap[w.heap.size + 1]? = some (.loop (rec .ready none)):=by
  rw [← hW1];have:=World.alloc_heap_new (w.alloc (.deferred (some []))) (.loop (rec .ready none));rwa [World.size_alloc] at this
 have hK1:W1.heap[w.heap.size]? = some (.deferred (some [])):=by
  rw [← hW1];exact (Below.heap_alloc _ _ _ (by simp)).trans (World.alloc_heap_new w _)
 have hbw:Below w.heap.size w W1:=by rw [← hW1];exact ((Below.refl _ w).alloc (Nat.le_refl _) _).alloc (by simp) _
 have hI1:I 0 W1:=hI _ _ _ h0 (hbw.mono hB);have hb1:Below w0.heap.size w0 W1:=hb0.trans (hbw.mono hb0.size)
 refine ⟨w.heap.size + 1,[{ target:=.collected w.heap.size,args:=#[] }],W1,{ target:=.fn (.func gf) lb,args:=#[.func (.yield (w.heap.size + 1)) #[] #[]] },W1,gf,
  #[.func (.yield (w.heap.size + 1)) #[] #[]]++lb,W1,?_,?_,?_,?_,fun _=>h1,?_⟩
 ·rw [← hW1,hrec];exact run_enterLoop_outer _ _ _ _ _
 ·simp only [resolve,hg]
  simp [go_sem]
 ·intro f' hf';simp [Target.leads] at hf';subst hf';exact hFg
 ·simp [invoke,go_sem,eg]
 ·refine (hseq (w.heap.size + 1)
   (fun k W=>I k W/\W.heap[w.heap.size + 1]? = some (.loop (rec .ready none))/\W.heap[w.heap.size]? = some (.deferred (some [])))
   (fun k W=>∃ c,Ix c k W/\W.heap[w.heap.size + 1]? = some (.loop (rec .done (some c)))/\W.heap[w.heap.size]? = some (.deferred (some [])))
   W1 hb1
   (fun k X Y hs hb=>⟨hI k X Y hs.1 (hb.mono (by omega)),(hb.block _ (by omega)).trans hs.2.1,(hb.block _ (by omega)).trans hs.2.2⟩)
   ?_ ⟨hI1,hL1,hK1⟩).mono ?_
  ·-- one round
   rintro k x W hx ⟨hi,hl,hk⟩;have hmem:x ∈ xs:=List.mem_of_getElem? hx;have hlt:w.heap.size + 1 < W.heap.size:=(Array.getElem?_eq_some_iff.1 hl).1;have hy:=run_yield (P:=P) (args:=x) hl (by rw [hrec];exact hps x hmem);rw [hrec] at hy;refine ⟨fn,_,assign,body,hy,roundIn_of_wpIn hfn (hassign _ x W _ hmem ⟨_,run_beginRound hl (by rw [hrec]),?_⟩)⟩;have hl2:(W.putObj (w.heap.size + 1) (.loop { rec .ready none with state:=.busy })).heap[w.heap.size + 1]? = some (.loop { rec .ready none with state:=.busy }):=World.putObj_heap_same hlt;have hk2:(W.putObj (w.heap.size + 1) (.loop { rec .ready none with state:=.busy })).heap[w.heap.size]? = some (.deferred (some [])):=(World.putObj_heap_other (by omega)).trans hk;refine wpIn_mono (hbody _ k x _ hx (hI _ _ _ hi (b0O W _ _ _ (by omega) hl))) ?_;have hsz2:(W.putObj (w.heap.size + 1) (.loop { rec .ready none with state:=.busy })).heap.size=W.heap.size:=by simp
   have hoth:∀ (V:World) (o':Obj) (i:Nat),i ≠ w.heap.size + 1->(V.putObj (w.heap.size + 1) o').heap[i]? = V.heap[i]?:=fun V o' i hne=>World.putObj_heap_other hne
   have fin:∀ (jump:Option Code) (W3:World),Above B (W.putObj (w.heap.size + 1) (.loop { rec .ready none with state:=.busy })) W3 ->
     (Instr.endRound (w.heap.size + 1) jump).run P W3 = .ok (.bool jump.isNone) (W3.putObj (w.heap.size + 1) (.loop (rec (if jump.isNone then .ready else .done) jump))) /\
     W3.heap[w.heap.size + 1]? = some (.loop { rec .ready none with state:=.busy }) /\
     (W3.putObj (w.heap.size + 1) (.loop (rec (if jump.isNone then .ready else .done) jump))).heap[w.heap.size + 1]? = some (.loop (rec (if jump.isNone then .ready else .done) jump)) /\
     (W3.putObj (w.heap.size + 1) (.loop (rec (if jump.isNone then .ready else .done) jump))).heap[w.heap.size]? = some (.deferred (some [])):=fun jump W3 hk3=>by
    have hl3:=hk3.row hl2 (by omega);have:=run_endRound (P:=P) jump hl3;rw [hrec] at this ⊢;exact ⟨this,by rw [hrec] at hl3;exact hl3,World.putObj_heap_same (Array.getElem?_eq_some_iff.1 hl3).1,(World.putObj_heap_other (by omega)).trans (hk3.row hk2 (by omega))⟩
   rintro e a3 W3 hp
   cases e with
   | normal =>
    obtain ⟨hk3,hi3⟩:=hp;obtain ⟨hr,hl3,hl4,hk4⟩:=fin none W3 hk3;refine ⟨_,_,hr,.inl ⟨rfl,⟨hI _ _ _ hi3 (b0O W3 _ _ _ (by omega) hl3),hl4,hk4⟩,?_⟩⟩;refine ⟨by have:=hk3.size;simp at this ⊢;omega,fun i hBi hi'=>?_⟩;by_cases e:i=w.heap.size + 1
    ·subst e;rw [hl];simpa using hl4
    ·rw [hoth _ _ _ e,hk3.block i hBi (by rw [hsz2];exact hi'),hoth _ _ _ e]
   | ret =>
    obtain ⟨hk3,hi3⟩:=hp;obtain ⟨hr,hl3,hl4,hk4⟩:=fin (some .ret) W3 hk3;exact ⟨_,_,hr,.inr ⟨rfl,.ret,hIx _ _ _ _ hi3 (b0O W3 _ _ _ (by omega) hl3),hl4,hk4⟩⟩
   | exit id =>
    obtain ⟨hk3,hi3⟩:=hp;obtain ⟨hr,hl3,hl4,hk4⟩:=fin (some (.exit id)) W3 hk3;exact ⟨_,_,hr,.inr ⟨rfl,.exit id,hIx _ _ _ _ hi3 (b0O W3 _ _ _ (by omega) hl3),hl4,hk4⟩⟩
   | goto t =>
    obtain ⟨hk3,hi3⟩:=hp;obtain ⟨hr,hl3,hl4,hk4⟩:=fin (some (.goto t)) W3 hk3;exact ⟨_,_,hr,.inr ⟨rfl,.goto t,hIx _ _ _ _ hi3 (b0O W3 _ _ _ (by omega) hl3),hl4,hk4⟩⟩
   | panic ch=>exact hp.elim
   | outgrown=>exact hp.elim
  ·-- behind the iterator
   rintro e W2 ⟨⟨v,rfl⟩,(⟨hi,hl,hk⟩ | ⟨k,hkl,c,hi,hl,hk⟩)⟩
   ·exact ⟨none,_,by have:=run_endLoop (P:=P) hl (by rw [hrec];simp);rw [hrec] at this;exact this,hdone _ _ (Nat.le_refl _) (hI _ _ _ hi (b0O W2 _ _ _ (by omega) hl)) ((World.putObj_heap_other (by omega)).trans hk)⟩
   ·exact ⟨some c,_,by have:=run_endLoop (P:=P) hl (by rw [hrec];simp);rw [hrec] at this;exact this,hstop _ c k _ (Nat.le_refl _) hkl (hIx _ _ _ _ hi (b0O W2 _ _ _ (by omega) hl)) ((World.putObj_heap_other (by omega)).trans hk)⟩
open Go Go.RowKit
set_option maxRecDepth 100000
structure But (b:Nat) (w w':World):Prop where
 os:w'.os=w.os
 tape:w'.tape=w.tape
 output:w'.output=w.output
 size:w.heap.size <= w'.heap.size
 block:∀ k,k < w.heap.size->k ≠ b->w'.heap[k]? = w.heap[k]?
theorem But.below {b n:Nat} {w w':World} (h:But b w w') (h1:n <= b) (h2:n <= w.heap.size):Below n w w' :=
 ⟨h.os,h.tape,h.output,h.size,fun k hk=>h.block k (by omega) (by omega)⟩
theorem b0D (w:World) (g i:Nat) (cur:Array Value) (t:TypeId) (v:Value) (h:w.heap[g]? = some (.cells cur t)):(w.setCell ⟨g,i,none⟩ v).heap[g]? = some (.cells (cur.setIfInBounds i v) t):=heap_setCell_same w g i cur t v h
theorem c0X (w:World) (b i:Nat) (v:Value):But b w (w.setCell ⟨b,i,none⟩ v) :=
 ⟨rfl,rfl,rfl,by simp [World.setCell],fun k _ hk=>heap_setCell_other w ⟨b,i,none⟩ k v hk⟩
theorem But.drew {b:Nat} {w w':World} (h:But b w w'):But b w w'.drew:=⟨h.os,h.tape,h.output,h.size,h.block⟩
theorem h0F (y:List UInt8) (j:Nat) (h:j < (⟨y.toArray⟩:ByteArray).size):((⟨y.toArray⟩:ByteArray)[j]'h).toNat=(y.getD j 0).toNat:=by
 have h':j < y.length:=h;show (y.toArray[j]).toNat=_;simp [List.getD,h']
section
variable {w:World} {bh bc k:Nat} {h:List UInt8}
theorem k0T (hh:w.heap[bh]? = some (.cells #[.string ⟨h.toArray⟩] 9)) (hc:w.heap[bc]? = some (.cells (f0u h k).toArray 171)) (hk:k < h.length) (hl:h.length < 9223372036854775807) :
  Calls prog 107 #[.int .i64 k,.pointer (some ⟨bh,0,none⟩),.pointer (some ⟨bc,0,none⟩)] w fun e w' =>
   e = .returned (.tuple (opA h k))/\w'.heap[bc]? = some (.cells (f0u h (k + 1)).toArray 171)/\But bc w w':=by
 have hss:(⟨h.toArray⟩:ByteArray).size=h.length:=rfl;have c0:w.cell? ⟨bh,0,none⟩=some (.string ⟨h.toArray⟩):=by rw [cell_of_row _ _ _ _ _ _ hh];rfl
 have hq:((⟨h.toArray⟩:ByteArray)[k]'(by rw [hss];exact hk)).toNat=(h.getD k 0).toNat:=h0F h k _;obtain ⟨c,hcd⟩:∃ c,h.getD k 0=c:=⟨_,rfl⟩;have hc256:c.toNat < 256:=c.toNat_lt;have hn:cnt (h.take k) (bv c) <= h.length:=Nat.le_trans (cnt_take_le h k _) (cnt_le h _);obtain ⟨n,hnd⟩:∃ n,cnt (h.take k) (bv c)=n:=⟨_,rfl⟩
 have c1:w.cell? ⟨bc,c.toNat,none⟩=some (.int .i64 n):=by
  rw [cell_of_row _ _ _ _ _ _ hc,List.getElem?_toArray,g0N h k _ hc256];show some (Value.int .i64 (cnt (h.take k) (bv c)))=_;rw [hnd]
 have f1:w.frozen? ⟨bc,c.toNat,none⟩=false:=by simp [World.frozen?,hc]
 have hst:(f0u h k).toArray.setIfInBounds c.toNat (.int .i64 ((n:Int) + 1))=(f0u h (k + 1)).toArray:=by
  rw [← o0g h k hk,hcd,hnd];simp
 have hop:opA h k=#[.int .i64 (c.toNat:Int),.int .i64 ((n:Int) + 1)]:=by
  unfold opA;rw [cnt_step h k hk,hcd,hnd,if_pos rfl];rfl
 have HC:Hid (w.heap[bc]? = some (.cells (f0u h k).toArray 171)):=hc;have HS:=hid hst;rw [hcd] at hq;rw [hop];rw [hnd] at hn;clear hc hst hop hcd hnd hh;go_enter func107,ntmps107;go_wp2;have HW1:=hid (c0X w bc c.toNat (.int .i64 ((n:Int) + 1)))
 have HR1:Hid ((w.setCell ⟨bc,c.toNat,none⟩ (.int .i64 ((n:Int) + 1))).heap[bc]? = some (.cells (f0u h (k + 1)).toArray 171)):=by
  show _=_;rw [b0D w bc c.toNat _ _ _ HC.out,HS.out]
 have c2:(w.setCell ⟨bc,c.toNat,none⟩ (.int .i64 ((n:Int) + 1))).cell? ⟨bc,c.toNat,none⟩=some (.int .i64 ((n:Int) + 1)):=World.cell?_setCell_same' _ _ _ (by rw [c1];rfl);generalize w.setCell ⟨bc,c.toNat,none⟩ (.int .i64 ((n:Int) + 1))=w1 at *;clear HC HS c0 c1 f1 hq;have ecv:IntKind.i64.wrap (c.toNat:Int)=(c.toNat:Int):=by rw [IntKind.wrap_i64];omega
 go_region
 all_goals (go_wp2;go_ret2;exact ⟨rfl,HR1.out,HW1.out.drew⟩)
end
theorem a0t {P:Program} {ops:Array Oper} {rest:List Oper} {o:Oper} {a:Act} {w:World} {Q:Exit->Act->World->Prop} (hgd:o.guard=none) (ty:TypeId) (ho:o.op = .alloc ty)
  (z:Array Value) (hi:(P.info? ty).map (·.zero)=some (some (.agg z)))
  (h:wpList P ops Q rest (a.put o.dst (.pointer (some ⟨w.heap.size,0,none⟩))) (w.alloc (.cells z ty))):wpList P ops Q (o :: rest) a w:=by
 refine wpList_plain hgd fun K hK=>?_;have h':=hK _ _ h
 cases hq:P.info? ty with
 | none=>simp [hq] at hi
 | some i =>
  have hz:i.zero=some (.agg z):=by simpa [hq] using hi
  unfold Oper.wp execOp;simp [ho,Instr.alloc,zeroValue,typeInfo,hq,hz,newVar,newRow,newObj,Sem.run_bind,Value.cells];exact h'
theorem zero256:(prog.info? 171).map (·.zero)=some (some (.agg (List.replicate 256 (.int .i64 0)).toArray)):=by kernel_rfl
theorem m0q (h:List UInt8) (w:World):Calls prog 92 #[.string ⟨h.toArray⟩] w fun e w' =>
  ∃ bh bc,e = .returned (.func (.func 107) #[] #[.pointer (some ⟨bh,0,none⟩),.pointer (some ⟨bc,0,none⟩)])/\w'.heap[bh]? = some (.cells #[.string ⟨h.toArray⟩] 9)/\w'.heap[bc]? = some (.cells (f0u h 0).toArray 171) /\
   Below w.heap.size w w'/\w.heap.size <= bh/\w.heap.size <= bc/\bh ≠ bc:=by
 obtain ⟨Z,hZ⟩:∃ Z:Array Value,(List.replicate 256 (Value.int .i64 0)).toArray=Z:=⟨_,rfl⟩;have hz:=zero256;rw [hZ] at hz;rw [o0h,hZ];have HZ:=hid hz;clear hz hZ;go_enter func92,ntmps92
 go_wp2_with (refine a0t rfl 171 rfl Z HZ.out ?_)
 go_ret;refine ⟨w.heap.size,w.heap.size + 1,rfl,?_,?_,?_,Nat.le_refl _,by omega,by omega⟩
 ·exact heap_alloc2_old w _ _
 ·exact heap_alloc2_new w _ _
 ·exact ((Below.refl _ w).alloc (Nat.le_refl _) _).alloc (by simp) _
theorem d0R (h:List UInt8) (w:World):Calls prog 74 #[.string ⟨h.toArray⟩] w fun e w' =>
  e = .returned (.func (.func 91) #[] #[.pointer (some ⟨w.heap.size,0,none⟩)])/\w' = w.alloc (.cells #[.string ⟨h.toArray⟩] 9):=by
 go_enter func74,ntmps74;go_wp2;go_ret;exact ⟨rfl,rfl⟩
open Go Go.RowKit Go.Shelf
set_option maxRecDepth 100000
attribute [local go_sem] Oper.semAt_some
theorem f0k {P:Program} (w:World) (d:Nat) (t:TypeId) (ps rs:Array TypeId) (va:Bool) (f:Fn) (x y:Array Value) (h:P.underlying t=some (.func ps rs va)) :
  (Op.equalIn (d + 1) t (.func f x y) .nilFunc).run P w = .ok false w:=by
 simp [Op.equalIn,run_underlying h]
theorem f0N {P:Program} (w:World) (t:TypeId) (ps rs:Array TypeId) (va:Bool) (f:Fn) (x y:Array Value) (h:P.underlying t=some (.func ps rs va)) :
  (Op.equal t (.func f x y) .nilFunc).run P w = .ok false w:=f0k w 9999 t ps rs va f x y h
theorem g0K {P:Program} (w:World) (t:TypeId) (ps rs:Array TypeId) (va:Bool) (f:Fn) (x y:Array Value) (h:P.underlying t=some (.func ps rs va)) :
  (binOp .eql t (.func f x y) .nilFunc).run P w = .ok (.bool false) w:=by
 simp only [binOp];simp [f0N w t ps rs va f x y h]
theorem m0r (n:Nat) (h:List UInt8) (hl:h.length < 9223372036854775807) (bh:Nat) (w:World) (hw:bh < w.heap.size) (hh:w.heap[bh]? = some (.cells #[.string ⟨h.toArray⟩] 9)) :
  SeqB Fence.wide n prog 91 #[.pointer (some ⟨bh,0,none⟩)] (opsA h) bh w:=by
 intro l J Jx W hW hJ hY h0;have hhW:W.heap[bh]? = some (.cells #[.string ⟨h.toArray⟩] 9):=(hW.block bh hw).trans hh;have hwW:w.heap.size <= W.heap.size:=hW.size;have HC:=hid (m0q h W);have c0:W.cell? ⟨bh,0,none⟩=some (.string ⟨h.toArray⟩):=by rw [cell_of_row _ _ _ _ _ _ hhW];rfl
 have hss:(⟨h.toArray⟩:ByteArray).size=h.length:=rfl;have hef:=fun f x y (V:World)=>g0K (P:=prog) V 149 _ _ _ f x y underlying149;have HH:=hid hhW;have HY:=hid hY;have HJ:=hid hJ;have HJ0:=hid h0;rw [g0M] at *;clear hW hh hhW hY hJ h0;refine callsIn_of_wp func91 rfl trivial ?_ rfl;simp only [ntmps91,List.size_toArray,List.length_cons,List.length_nil,Nat.reduceAdd,Nat.reduceSub,Array.replicate_succ,Array.replicate_zero,List.push_toArray,List.append_toArray,List.nil_append,List.cons_append]
 gi_wp2_with (refine ⟨trivial,(fun hq=>absurd hq (by decide)),?_⟩;gi_at_call 92;refine (callsIn_wide.2 HC.out).mono ?_;rintro e w1 ⟨b1,b2,rfl,hb1,hb2,hbl,hg1,hg2,hne⟩;have HB1:=hid hb1;have HB2:=hid hb2;have HBL:=hid hbl;have c1:w1.cell? ⟨bh,0,none⟩=some (.string ⟨h.toArray⟩):=(hbl.cell (p:=⟨bh,0,none⟩) (by show bh < _;omega)).trans c0;clear hb1 hb2 hbl)
 gi_loopw [11] (fun i wr=>∃ k:Nat,k <= h.length/\i = .int .i64 k/\Hid (J k wr)/\Hid (wr.heap[bh]? = some (.cells #[.string ⟨h.toArray⟩] 9))/\Hid (wr.heap[b1]? = some (.cells #[.string ⟨h.toArray⟩] 9))/\Hid (wr.heap[b2]? = some (.cells (f0u h k).toArray 171))/\Hid (W.heap.size <= wr.heap.size)) (fun i _=>h.length - (intOf i).toNat)
 case atStart=>exact ⟨0,Nat.zero_le _,rfl,HJ.out _ _ _ HJ0.out HBL.out,(HBL.out.block bh (by omega)).trans HH.out,HB1.out,HB2.out,HBL.out.size⟩
 case round =>
  obtain ⟨k,hk,rfl,hj,r0,r1,r2,hz⟩:=hrel;by_cases hlt:k < h.length
  ·have HK:=hid (k0T r1.out r2.out hlt hl)
   have hx:=r0Q hlt;obtain ⟨p,q,hop⟩:∃ p q:Int,opA h k=#[.int .i64 p,.int .i64 q]:=⟨_,_,rfl⟩;rw [hop] at HK hx;have HYk:=hid (fun V hv=>HY.out k _ V hx hv);clear hop hx
   gi_wp2_with (refine ⟨trivial,(fun hq=>absurd hq (by decide)),?_⟩;gi_at_call 107;refine (callsIn_wide.2 HK.out).mono ?_;rintro e w2 ⟨rfl,hc2,hbut⟩;have HC2:=hid hc2;have HU:=hid hbut;have HJ2:=hid (HJ.out _ _ _ hj.out (hbut.below hg2 hz.out));clear hc2 hbut;obtain ⟨fn,tmps,assign,body,hy,hR⟩:=HYk.out w2 HJ2.out)
   refine ⟨(fun hq=>absurd hq (by decide)),hR.mono ?_⟩;rintro e W3 (⟨rfl,hJ3,hk3⟩ | ⟨rfl,hJx3⟩)
   ·have HJ3:=hid hJ3
    have HK3:=hid hk3;clear hJ3 hk3 hR hy
    gi_wp2
    go_roundw
    case rel =>
     have hlt2:∀ i,i < wr.heap.size->i < w2.heap.size:=fun i hi=>Nat.lt_of_lt_of_le hi HU.out.size;have hbne:bh ≠ b2:=by omega
     refine ⟨k + 1,by omega,by go_num,HJ3.out,HK3.out.row ((HU.out.block bh (Array.getElem?_eq_some_iff.1 r0.out).1 hbne).trans r0.out) (Nat.le_refl _),HK3.out.row ((HU.out.block b1 (Array.getElem?_eq_some_iff.1 r1.out).1 hne).trans r1.out) (by omega),HK3.out.row HC2.out (by omega),Nat.le_trans hz.out (Nat.le_trans HU.out.size HK3.out.size)⟩
    case measure=>simp [intOf];omega
   ·gi_wp2
    refine bodyPost_ret (results_none rfl _ _ _) rfl ?_;exact ⟨⟨_,rfl⟩,.inr ⟨k,hlt,hJx3⟩⟩
  ·obtain rfl:k=h.length:=by omega
   gi_wp2
   go_end0
   exact ⟨⟨_,rfl⟩,.inl hj.out⟩
open Go Go.RowKit Go.Shelf
set_option maxRecDepth 100000
attribute [local go_sem] Oper.semAt_some
theorem f0O {W:World} {b:Nat} {v u:Value} (h:W.cell? ⟨b,0,none⟩=some v):(W.setCell ⟨b,0,none⟩ u).cell? ⟨b,0,none⟩=some u:=World.cell?_setCell_same' _ _ _ (by rw [h];rfl)
theorem a0f (W:World) (o:Obj):(W.alloc o).heap[W.heap.size]? = some o:=by show (W.heap.push o)[W.heap.size]? = _;simp
theorem count_any (h:List UInt8) (hl:h.length < 9223372036854775807) (c:Int) (w:World):Calls prog 51 #[.string ⟨h.toArray⟩,.int .i64 c] w fun e w' =>
  e = .returned (.int .i64 (cnt h c))/\Below w.heap.size w w':=by
 have hC:=fun W=>d0R h W;refine (callsIn_wide (n:=3)).1 ?_;refine callsIn_of_wp_marks func51 rfl trivial ?_ rfl;simp only [ntmps51,List.size_toArray,List.length_cons,List.length_nil,Nat.reduceAdd,Nat.reduceSub,Array.replicate_succ,Array.replicate_zero,List.push_toArray,List.append_toArray,List.nil_append,List.cons_append]
 gi_wp2_with (refine ⟨trivial,?_⟩;gi_at_call 74;refine (callsIn_wide.2 (hC _)).mono ?_;rintro e w' ⟨rfl,rfl⟩)
 have z2:((w.alloc (.cells #[.int .i64 c] 3)).alloc (.cells #[.int .i64 0] 3)).heap.size=w.heap.size + 2:=by simp
 have hbw:Below w.heap.size w (((w.alloc (.cells #[.int .i64 c] 3)).alloc (.cells #[.int .i64 0] 3)).alloc (.cells #[.string ⟨h.toArray⟩] 9)):=(((Below.refl _ w).alloc (Nat.le_refl _) _).alloc (by simp) _).alloc (by simp;omega) _;have r0:(((w.alloc (.cells #[.int .i64 c] 3)).alloc (.cells #[.int .i64 0] 3)).alloc (.cells #[.string ⟨h.toArray⟩] 9)).heap[w.heap.size]? = some (.cells #[.int .i64 c] 3):=(Below.heap_alloc _ _ _ (by simp;omega)).trans (heap_alloc2_old w _ _);have r1:(((w.alloc (.cells #[.int .i64 c] 3)).alloc (.cells #[.int .i64 0] 3)).alloc (.cells #[.string ⟨h.toArray⟩] 9)).heap[w.heap.size + 1]? = some (.cells #[.int .i64 0] 3):=(Below.heap_alloc _ _ _ (by simp)).trans (heap_alloc2_new w _ _);have r2:(((w.alloc (.cells #[.int .i64 c] 3)).alloc (.cells #[.int .i64 0] 3)).alloc (.cells #[.string ⟨h.toArray⟩] 9)).heap[w.heap.size + 2]? = some (.cells #[.string ⟨h.toArray⟩] 9):=by rw [← z2];exact a0f _ _
 have z3:(((w.alloc (.cells #[.int .i64 c] 3)).alloc (.cells #[.int .i64 0] 3)).alloc (.cells #[.string ⟨h.toArray⟩] 9)).heap.size=w.heap.size + 3:=by simp
 generalize ((w.alloc (.cells #[.int .i64 c] 3)).alloc (.cells #[.int .i64 0] 3)).alloc (.cells #[.string ⟨h.toArray⟩] 9)=W0 at *
 refine c0M rfl (by decide) (gf:=91) (lb:=#[.pointer (some ⟨w.heap.size + 2,0,none⟩)]) rfl trivial (enters_of func91 (by kernel_rfl) rfl)
  (m0r _ h hl (w.heap.size + 2) W0 (by omega) r2) (Below.refl _ _) (by omega) (fun x hx=>by obtain ⟨k,_,rfl⟩:=e0U hx;rfl)
  (fun k W=>(W.heap[w.heap.size]? = some (.cells #[.int .i64 c] 3)/\W.heap[w.heap.size + 1]? = some (.cells #[.int .i64 (cnt (h.take k) c)] 3))/\Below w.heap.size w W)
  (fun _ _ _=>False)
  (fun k X Y hs hb=>⟨⟨(hb.block _ (by omega)).trans hs.1.1,(hb.block _ (by omega)).trans hs.1.2⟩,hs.2.trans (hb.mono (by omega))⟩)
  (fun _ _ _ _ hs _=>hs)
  ⟨⟨r0,r1⟩,hbw⟩
  (fun x=>{ tmps:=#[.string ⟨h.toArray⟩,.int .i64 c,undef,.pointer (some ⟨w.heap.size,0,none⟩),.int .i64 0,.pointer (some ⟨w.heap.size + 1,0,none⟩),x.getD 0 undef,x.getD 1 undef,.string ⟨h.toArray⟩,.func (.func 91) #[] #[.pointer (some ⟨w.heap.size + 2,0,none⟩)],x.getD 0 undef,x.getD 1 undef,undef,undef,undef,undef,undef],defers:=[] }) ?assign ?body ?done ?stop
 case assign =>
  intro l x W K hx hK;obtain ⟨k,hk,rfl⟩:=e0U hx;obtain ⟨p,q,hop⟩:∃ p q:Int,opA h k=#[.int .i64 p,.int .i64 q]:=⟨_,_,rfl⟩;rw [hop] at hK ⊢;clear hx hk hop
  gi_wp2
  exact hK
 case body =>
  rintro l k x W hx ⟨⟨q0,q1⟩,hB⟩;obtain ⟨hk,rfl⟩:=l0Y hx;have c0:W.cell? ⟨w.heap.size,0,none⟩=some (.int .i64 c):=by rw [cell_of_row _ _ _ _ _ _ q0];rfl
  have c1:W.cell? ⟨w.heap.size + 1,0,none⟩=some (.int .i64 (cnt (h.take k) c)):=by rw [cell_of_row _ _ _ _ _ _ q1];rfl
  have f1:W.frozen? ⟨w.heap.size + 1,0,none⟩=false:=by simp [World.frozen?,q1]
  have hs:=cnt_step h k hk c;unfold opA;generalize h.getD k 0=x at *;have Q0:=hid q0;have Q1:=hid q1;have HB:=hid hB;clear hx q0 q1 hB;by_cases he:bv x=c
  ·rw [if_pos he,← he] at hs
   have HS:=hid hs;subst he;clear hs;have d1:(bv x == bv x)=true:=by simp
   gi_wp2
   refine ⟨(Above.refl _ W).setCell (p:=⟨w.heap.size + 1,0,none⟩) (by show w.heap.size + 1 < w.heap.size + 2;omega) _,⟨?_,?_⟩,HB.out.setCell (p:=⟨w.heap.size + 1,0,none⟩) (by simp) _⟩
   ·rw [Below.heap_setCell _ _ _ _ (by simp)];exact Q0.out
   ·rw [b0D W _ 0 _ _ _ Q1.out];rfl
  ·rw [if_neg he] at hs
   have d1:(bv x == c)=false:=by simpa using he
   gi_wp2
   refine ⟨Above.refl _ W,⟨Q0.out,?_⟩,HB.out⟩;rw [hs];exact Q1.out
 case done =>
  rintro D W hD ⟨⟨q0,q1⟩,hB⟩ hK;rw [g0M,cnt_all] at q1;have c1:W.cell? ⟨w.heap.size + 1,0,none⟩=some (.int .i64 (cnt h c)):=by rw [cell_of_row _ _ _ _ _ _ q1];rfl
  have HB:=hid hB;have HKk:=hid hK;clear hB q0 q1 hK
  gi_wp2
  refine ⟨by simp,.inl ⟨_,_,rfl,run_takeDeferred HKk.out,?_⟩⟩;exact ⟨_,results_tmp rfl _ _ _,rfl,HB.out.trans (b0O W D _ _ (by omega) HKk.out)⟩
 case stop =>
  rintro D c k W _ _ h _;exact h.elim
open Go Go.RowKit Go.Shelf
set_option maxRecDepth 100000
attribute [local go_sem] Oper.semAt_some
theorem right_any (h:List UInt8) (n:Int) (w:World):Calls prog 49 #[.string ⟨h.toArray⟩,.int .i64 n] w fun e w' =>
  e = .returned (.bool (rightB h n))/\Below w.heap.size w w':=by
 have hC:=fun W=>d0R h W;have hss:(⟨h.toArray⟩:ByteArray).size=h.length:=rfl;have HF0:Hid (Below w.heap.size w (((w.alloc (.cells #[.int .i64 n] 3)).alloc (.cells #[.bool false] 4)))):=((Below.refl _ w).alloc (by simp) _).alloc (by simp) _
 have HC0:Hid ((((w.alloc (.cells #[.int .i64 n] 3)).alloc (.cells #[.bool false] 4))).cell? ⟨w.heap.size + 1,0,none⟩=some (.bool false)):=by
  show _=_;rw [cell_of_row _ _ _ _ _ _ (heap_alloc2_new w _ _)];rfl
 refine (callsIn_wide (n:=3)).1 ?_;refine callsIn_of_wp_marks func49 rfl trivial ?_ rfl;simp only [ntmps49,List.size_toArray,List.length_cons,List.length_nil,Nat.reduceAdd,Nat.reduceSub,Array.replicate_succ,Array.replicate_zero,List.push_toArray,List.append_toArray,List.nil_append,List.cons_append];by_cases h1:n < 1
 ·have e0:rightB h n=false:=by
   exact g0t h n h1
  rw [e0];have d1:decide (n < 1)=true:=decide_eq_true h1;clear hC e0
  gi_wp2
  refine ⟨.bool false,?_,rfl,HF0.out⟩;simp [results,Tryz.f49,go_sem,HC0.out]
 by_cases h2:256 < n
 ·have e0:rightB h n=false:=by
   exact g0u h n h2
  rw [e0];have d1:decide (n < 1)=false:=decide_eq_false h1;have d2:decide (256 < n)=true:=decide_eq_true h2;clear hC e0
  gi_wp2
  refine ⟨.bool false,?_,rfl,HF0.out⟩;simp [results,Tryz.f49,go_sem,HC0.out]
 by_cases h3:512 < h.length
 ·have e0:rightB h n=false:=by
   exact g0v h n h3
  rw [e0];have d1:decide (n < 1)=false:=decide_eq_false h1;have d2:decide (256 < n)=false:=decide_eq_false h2;have d3:decide ((512:Int) < (h.length:Int))=true:=by simp;omega
  clear hC e0
  gi_wp2
  refine ⟨.bool false,?_,rfl,HF0.out⟩;simp [results,Tryz.f49,go_sem,HC0.out]
 have d1:decide (n < 1)=false:=decide_eq_false h1;have d2:decide (256 < n)=false:=decide_eq_false h2;have d3:decide ((512:Int) < (h.length:Int))=false:=by simp;omega
 have HR:=hid (i0w h n h1 h2 h3);have H3:=hid h3;clear HF0 HC0 h1 h2 h3
 gi_wp2_with (refine ⟨trivial,?_⟩;gi_at_call 74;refine (callsIn_wide.2 (hC _)).mono ?_;rintro e w' ⟨rfl,rfl⟩)
 have hbw:Below w.heap.size w (((w.alloc (.cells #[.int .i64 n] 3)).alloc (.cells #[.bool false] 4)).alloc (.cells #[.string ⟨h.toArray⟩] 9)):=(((Below.refl _ w).alloc (by first | (simp;done) | (simp;omega)) _).alloc (by first | (simp;done) | (simp;omega)) _).alloc (by first | (simp;done) | (simp;omega)) _
 have r0:(((w.alloc (.cells #[.int .i64 n] 3)).alloc (.cells #[.bool false] 4)).alloc (.cells #[.string ⟨h.toArray⟩] 9)).heap[w.heap.size]? = some (.cells #[.int .i64 n] 3):=by
  have e:(w.alloc (.cells #[.int .i64 n] 3)).heap[w.heap.size]? = some (.cells #[.int .i64 n] 3):=by
   exact a0f w _
  have e:=(Below.heap_alloc (w.alloc (.cells #[.int .i64 n] 3)) (.cells #[.bool false] 4) (w.heap.size) (by first | (simp;done) | (simp;omega))).trans e;have e:=(Below.heap_alloc ((w.alloc (.cells #[.int .i64 n] 3)).alloc (.cells #[.bool false] 4)) (.cells #[.string ⟨h.toArray⟩] 9) (w.heap.size) (by first | (simp;done) | (simp;omega))).trans e;exact e
 have r1:(((w.alloc (.cells #[.int .i64 n] 3)).alloc (.cells #[.bool false] 4)).alloc (.cells #[.string ⟨h.toArray⟩] 9)).heap[w.heap.size + 1]? = some (.cells #[.bool false] 4):=by
  have e:((w.alloc (.cells #[.int .i64 n] 3)).alloc (.cells #[.bool false] 4)).heap[w.heap.size + 1]? = some (.cells #[.bool false] 4):=by
   have z:(w.alloc (.cells #[.int .i64 n] 3)).heap.size=w.heap.size + 1:=by simp
   rw [← z];exact a0f _ _
  have e:=(Below.heap_alloc ((w.alloc (.cells #[.int .i64 n] 3)).alloc (.cells #[.bool false] 4)) (.cells #[.string ⟨h.toArray⟩] 9) (w.heap.size + 1) (by first | (simp;done) | (simp;omega))).trans e;exact e
 have r2:(((w.alloc (.cells #[.int .i64 n] 3)).alloc (.cells #[.bool false] 4)).alloc (.cells #[.string ⟨h.toArray⟩] 9)).heap[w.heap.size + 2]? = some (.cells #[.string ⟨h.toArray⟩] 9):=by
  have e:(((w.alloc (.cells #[.int .i64 n] 3)).alloc (.cells #[.bool false] 4)).alloc (.cells #[.string ⟨h.toArray⟩] 9)).heap[w.heap.size + 2]? = some (.cells #[.string ⟨h.toArray⟩] 9):=by
   have z:((w.alloc (.cells #[.int .i64 n] 3)).alloc (.cells #[.bool false] 4)).heap.size=w.heap.size + 2:=by simp
   rw [← z];exact a0f _ _
  exact e
 have zz:(((w.alloc (.cells #[.int .i64 n] 3)).alloc (.cells #[.bool false] 4)).alloc (.cells #[.string ⟨h.toArray⟩] 9)).heap.size=w.heap.size + 3:=by simp
 generalize (((w.alloc (.cells #[.int .i64 n] 3)).alloc (.cells #[.bool false] 4)).alloc (.cells #[.string ⟨h.toArray⟩] 9))=W0 at *;have hl:h.length < 9223372036854775807:=by have:=H3.out;omega
 refine c0M rfl (by decide) (gf:=91) (lb:=#[.pointer (some ⟨w.heap.size + 2,0,none⟩)]) rfl trivial (enters_of func91 (by kernel_rfl) rfl)
  (m0r _ h hl (w.heap.size + 2) W0 (by omega) r2) (Below.refl _ _) (by omega) (fun x hx=>by obtain ⟨k,_,rfl⟩:=e0U hx;rfl)
  (fun k W=>(∀ j,j < k->bv (h.getD j 0) < n)/\(W.heap[w.heap.size]? = some (.cells #[.int .i64 n] 3)/\W.heap[w.heap.size + 1]? = some (.cells #[.bool false] 4))/\Below w.heap.size w W)
  (fun j _ W=>j = .ret/\rightB h n=false/\W.heap[w.heap.size + 1]? = some (.cells #[.bool false] 4)/\Below w.heap.size w W)
  (fun k X Y hs hb=>⟨hs.1,⟨(hb.block _ (by omega)).trans hs.2.1.1,(hb.block _ (by omega)).trans hs.2.1.2⟩,hs.2.2.trans (hb.mono (by omega))⟩)
  (fun j k X Y hs hb=>⟨hs.1,hs.2.1,(hb.block _ (by omega)).trans hs.2.2.1,hs.2.2.2.trans (hb.mono (by omega))⟩)
  ⟨fun j hj=>absurd hj (Nat.not_lt_zero j),⟨r0,r1⟩,hbw⟩
  (fun x=>{ tmps:=#[.string ⟨h.toArray⟩,.int .i64 n,undef,.pointer (some ⟨w.heap.size,0,none⟩),.pointer (some ⟨w.heap.size + 1,0,none⟩),x.getD 0 undef,.int .i64 n,.bool false,.bool false,.int .i64 n,.bool false,.bool false,.bool false,.string ⟨h.toArray⟩,.int .i64 h.length,.bool false,.bool false,.string ⟨h.toArray⟩,.func (.func 91) #[] #[.pointer (some ⟨w.heap.size + 2,0,none⟩)],x.getD 0 undef,x.getD 1 undef,undef,undef,undef],defers:=[] }) ?assign ?body ?done ?stop
 case assign =>
  intro l x W K hx hK;obtain ⟨k,hk,rfl⟩:=e0U hx;obtain ⟨p,q,hop⟩:∃ p q:Int,opA h k=#[.int .i64 p,.int .i64 q]:=⟨_,_,rfl⟩;rw [hop] at hK ⊢;clear hx hk hop
  gi_wp2
  exact hK
 case body =>
  rintro l k x W hx ⟨hn,⟨q0,q1⟩,hB⟩;obtain ⟨hk,rfl⟩:=l0Y hx;have c0:W.cell? ⟨w.heap.size,0,none⟩=some (.int .i64 n):=by rw [cell_of_row _ _ _ _ _ _ q0];rfl
  have c1:W.cell? ⟨w.heap.size + 1,0,none⟩=some (.bool false):=by rw [cell_of_row _ _ _ _ _ _ q1];rfl
  have f1:W.frozen? ⟨w.heap.size + 1,0,none⟩=false:=by simp [World.frozen?,q1]
  have Q0:=hid q0;have Q1:=hid q1;have HB:=hid hB;by_cases he:n <= bv (h.getD k 0)
  ·have HR4:=hid (g0w h n k hk he)
   have dx:decide (n <= bv (h.getD k 0))=true:=decide_eq_true he;clear hx q0 q1 hB hn he HR;unfold opA;generalize (cnt (h.take (k + 1)) (bv (h.getD k 0)):Int)=m at *;generalize bv (h.getD k 0)=x at *
   gi_wp2
   refine ⟨(Above.refl _ W).setCell (p:=⟨w.heap.size + 1,0,none⟩) (by show w.heap.size + 1 < w.heap.size + 2;omega) _,rfl,HR4.out,?_,HB.out.setCell (p:=⟨w.heap.size + 1,0,none⟩) (by simp) _⟩;rw [b0D W _ 0 _ _ _ Q1.out];rfl
  ·have HN:Hid (∀ j,j < k + 1->bv (h.getD j 0) < n):=fun j hj=>by
    by_cases e:j=k
    ·rw [e];omega
    ·exact hn j (by omega)
   have dx:decide (n <= bv (h.getD k 0))=false:=decide_eq_false he;clear hx q0 q1 hB hn he HR;unfold opA;generalize (cnt (h.take (k + 1)) (bv (h.getD k 0)):Int)=m at *;generalize bv (h.getD k 0)=x at *
   gi_wp2
   exact ⟨Above.refl _ W,HN.out,⟨Q0.out,Q1.out⟩,HB.out⟩
 case done =>
  rintro D W hD ⟨hn,⟨q0,q1⟩,hB⟩ hK;rw [g0M] at hn;have c2:W.cell? ⟨w.heap.size + 1,0,none⟩=some (.bool false):=by rw [cell_of_row _ _ _ _ _ _ q1];rfl
  have f2:W.frozen? ⟨w.heap.size + 1,0,none⟩=false:=by simp [World.frozen?,q1]
  have HB:=hid (hB.setCell (p:=⟨w.heap.size + 1,0,none⟩) (by simp) (.bool true))
  have HKk:Hid ((W.setCell ⟨w.heap.size + 1,0,none⟩ (.bool true)).heap[D]? = some (.deferred (some []))):=by
   show _=_;rw [Below.heap_setCell _ _ _ _ (by show D ≠ w.heap.size + 1;omega)];exact hK
  have HC5:Hid ((W.setCell ⟨w.heap.size + 1,0,none⟩ (.bool true)).cell? ⟨w.heap.size + 1,0,none⟩=some (.bool true)):=f0O c2;have HP:=hid (HR.out hn);clear hB q0 q1 hK hn HR
  gi_wp2
  refine ⟨by simp,.inl ⟨_,_,rfl,run_takeDeferred HKk.out,?_⟩⟩;have hc6:((W.setCell ⟨w.heap.size + 1,0,none⟩ (.bool true)).putObj D (.deferred none)).cell? ⟨w.heap.size + 1,0,none⟩=some (.bool true):=(World.cell?_of_block (w:=W.setCell ⟨w.heap.size + 1,0,none⟩ (.bool true)) (World.putObj_heap_other (by show w.heap.size + 1 ≠ D;omega))).trans HC5.out;refine ⟨.bool true,?_,by rw [HP.out],HB.out.trans (b0O _ D _ _ (by omega) HKk.out)⟩;simp [results,Tryz.f49,go_sem,hc6]
 case stop =>
  rintro D j k W hD hk ⟨rfl,hr,q2,hB⟩ hK;have hc5:W.cell? ⟨w.heap.size + 1,0,none⟩=some (.bool false):=by rw [cell_of_row _ _ _ _ _ _ q2];rfl
  have hc6:(W.putObj D (.deferred none)).cell? ⟨w.heap.size + 1,0,none⟩=some (.bool false):=(World.cell?_of_block (w:=W) (World.putObj_heap_other (by show w.heap.size + 1 ≠ D;omega))).trans hc5;have HC6:=hid hc6;have HB:=hid hB;have HKk:=hid hK;have HP:=hid hr;clear hB q2 hK hc5 hc6 hr HR
  gi_wp2
  refine ⟨by simp,.inl ⟨_,_,rfl,run_takeDeferred HKk.out,?_⟩⟩;refine ⟨.bool false,?_,by rw [HP.out],HB.out.trans (b0O _ D _ _ (by omega) HKk.out)⟩;simp [results,Tryz.f49,go_sem,HC6.out]
open Go Go.RowKit Go.Shelf
set_option maxRecDepth 100000
attribute [local go_sem] Oper.semAt_some
theorem p0N (h:List UInt8) (hl:h.length < 9223372036854775807) (c n:Int) (w:World):Calls prog 142 #[.string ⟨h.toArray⟩,.int .i64 c,.int .i64 n] w fun e w' =>
  e = .returned (.int .i64 (placeI h c n))/\Below w.heap.size w w':=by
 have hC:=fun W=>d0R h W;refine (callsIn_wide (n:=3)).1 ?_;refine callsIn_of_wp_marks func142 rfl trivial ?_ rfl;simp only [ntmps142,List.size_toArray,List.length_cons,List.length_nil,Nat.reduceAdd,Nat.reduceSub,Array.replicate_succ,Array.replicate_zero,List.push_toArray,List.append_toArray,List.nil_append,List.cons_append]
 gi_wp2_with (refine ⟨trivial,?_⟩;gi_at_call 74;refine (callsIn_wide.2 (hC _)).mono ?_;rintro e w' ⟨rfl,rfl⟩)
 have hbw:Below w.heap.size w (((((w.alloc (.cells #[.int .i64 c] 3)).alloc (.cells #[.int .i64 n] 3)).alloc (.cells #[.int .i64 0] 3)).alloc (.cells #[.int .i64 0] 3)).alloc (.cells #[.string ⟨h.toArray⟩] 9)):=(((((Below.refl _ w).alloc (by first | (simp;done) | (simp;omega)) _).alloc (by first | (simp;done) | (simp;omega)) _).alloc (by first | (simp;done) | (simp;omega)) _).alloc (by first | (simp;done) | (simp;omega)) _).alloc (by first | (simp;done) | (simp;omega)) _
 have r0:(((((w.alloc (.cells #[.int .i64 c] 3)).alloc (.cells #[.int .i64 n] 3)).alloc (.cells #[.int .i64 0] 3)).alloc (.cells #[.int .i64 0] 3)).alloc (.cells #[.string ⟨h.toArray⟩] 9)).heap[w.heap.size]? = some (.cells #[.int .i64 c] 3):=by
  have e:(w.alloc (.cells #[.int .i64 c] 3)).heap[w.heap.size]? = some (.cells #[.int .i64 c] 3):=by
   exact a0f w _
  have e:=(Below.heap_alloc (w.alloc (.cells #[.int .i64 c] 3)) (.cells #[.int .i64 n] 3) (w.heap.size) (by first | (simp;done) | (simp;omega))).trans e;have e:=(Below.heap_alloc ((w.alloc (.cells #[.int .i64 c] 3)).alloc (.cells #[.int .i64 n] 3)) (.cells #[.int .i64 0] 3) (w.heap.size) (by first | (simp;done) | (simp;omega))).trans e;have e:=(Below.heap_alloc (((w.alloc (.cells #[.int .i64 c] 3)).alloc (.cells #[.int .i64 n] 3)).alloc (.cells #[.int .i64 0] 3)) (.cells #[.int .i64 0] 3) (w.heap.size) (by first | (simp;done) | (simp;omega))).trans e;have e:=(Below.heap_alloc ((((w.alloc (.cells #[.int .i64 c] 3)).alloc (.cells #[.int .i64 n] 3)).alloc (.cells #[.int .i64 0] 3)).alloc (.cells #[.int .i64 0] 3)) (.cells #[.string ⟨h.toArray⟩] 9) (w.heap.size) (by first | (simp;done) | (simp;omega))).trans e;exact e
 have r1:(((((w.alloc (.cells #[.int .i64 c] 3)).alloc (.cells #[.int .i64 n] 3)).alloc (.cells #[.int .i64 0] 3)).alloc (.cells #[.int .i64 0] 3)).alloc (.cells #[.string ⟨h.toArray⟩] 9)).heap[w.heap.size + 1]? = some (.cells #[.int .i64 n] 3):=by
  have e:((w.alloc (.cells #[.int .i64 c] 3)).alloc (.cells #[.int .i64 n] 3)).heap[w.heap.size + 1]? = some (.cells #[.int .i64 n] 3):=by
   have z:(w.alloc (.cells #[.int .i64 c] 3)).heap.size=w.heap.size + 1:=by simp
   rw [← z];exact a0f _ _
  have e:=(Below.heap_alloc ((w.alloc (.cells #[.int .i64 c] 3)).alloc (.cells #[.int .i64 n] 3)) (.cells #[.int .i64 0] 3) (w.heap.size + 1) (by first | (simp;done) | (simp;omega))).trans e;have e:=(Below.heap_alloc (((w.alloc (.cells #[.int .i64 c] 3)).alloc (.cells #[.int .i64 n] 3)).alloc (.cells #[.int .i64 0] 3)) (.cells #[.int .i64 0] 3) (w.heap.size + 1) (by first | (simp;done) | (simp;omega))).trans e;have e:=(Below.heap_alloc ((((w.alloc (.cells #[.int .i64 c] 3)).alloc (.cells #[.int .i64 n] 3)).alloc (.cells #[.int .i64 0] 3)).alloc (.cells #[.int .i64 0] 3)) (.cells #[.string ⟨h.toArray⟩] 9) (w.heap.size + 1) (by first | (simp;done) | (simp;omega))).trans e;exact e
 have r2:(((((w.alloc (.cells #[.int .i64 c] 3)).alloc (.cells #[.int .i64 n] 3)).alloc (.cells #[.int .i64 0] 3)).alloc (.cells #[.int .i64 0] 3)).alloc (.cells #[.string ⟨h.toArray⟩] 9)).heap[w.heap.size + 2]? = some (.cells #[.int .i64 0] 3):=by
  have e:(((w.alloc (.cells #[.int .i64 c] 3)).alloc (.cells #[.int .i64 n] 3)).alloc (.cells #[.int .i64 0] 3)).heap[w.heap.size + 2]? = some (.cells #[.int .i64 0] 3):=by
   have z:((w.alloc (.cells #[.int .i64 c] 3)).alloc (.cells #[.int .i64 n] 3)).heap.size=w.heap.size + 2:=by simp
   rw [← z];exact a0f _ _
  have e:=(Below.heap_alloc (((w.alloc (.cells #[.int .i64 c] 3)).alloc (.cells #[.int .i64 n] 3)).alloc (.cells #[.int .i64 0] 3)) (.cells #[.int .i64 0] 3) (w.heap.size + 2) (by first | (simp;done) | (simp;omega))).trans e;have e:=(Below.heap_alloc ((((w.alloc (.cells #[.int .i64 c] 3)).alloc (.cells #[.int .i64 n] 3)).alloc (.cells #[.int .i64 0] 3)).alloc (.cells #[.int .i64 0] 3)) (.cells #[.string ⟨h.toArray⟩] 9) (w.heap.size + 2) (by first | (simp;done) | (simp;omega))).trans e;exact e
 have r3:(((((w.alloc (.cells #[.int .i64 c] 3)).alloc (.cells #[.int .i64 n] 3)).alloc (.cells #[.int .i64 0] 3)).alloc (.cells #[.int .i64 0] 3)).alloc (.cells #[.string ⟨h.toArray⟩] 9)).heap[w.heap.size + 3]? = some (.cells #[.int .i64 0] 3):=by
  have e:((((w.alloc (.cells #[.int .i64 c] 3)).alloc (.cells #[.int .i64 n] 3)).alloc (.cells #[.int .i64 0] 3)).alloc (.cells #[.int .i64 0] 3)).heap[w.heap.size + 3]? = some (.cells #[.int .i64 0] 3):=by
   have z:(((w.alloc (.cells #[.int .i64 c] 3)).alloc (.cells #[.int .i64 n] 3)).alloc (.cells #[.int .i64 0] 3)).heap.size=w.heap.size + 3:=by simp
   rw [← z];exact a0f _ _
  have e:=(Below.heap_alloc ((((w.alloc (.cells #[.int .i64 c] 3)).alloc (.cells #[.int .i64 n] 3)).alloc (.cells #[.int .i64 0] 3)).alloc (.cells #[.int .i64 0] 3)) (.cells #[.string ⟨h.toArray⟩] 9) (w.heap.size + 3) (by first | (simp;done) | (simp;omega))).trans e;exact e
 have r4:(((((w.alloc (.cells #[.int .i64 c] 3)).alloc (.cells #[.int .i64 n] 3)).alloc (.cells #[.int .i64 0] 3)).alloc (.cells #[.int .i64 0] 3)).alloc (.cells #[.string ⟨h.toArray⟩] 9)).heap[w.heap.size + 4]? = some (.cells #[.string ⟨h.toArray⟩] 9):=by
  have e:(((((w.alloc (.cells #[.int .i64 c] 3)).alloc (.cells #[.int .i64 n] 3)).alloc (.cells #[.int .i64 0] 3)).alloc (.cells #[.int .i64 0] 3)).alloc (.cells #[.string ⟨h.toArray⟩] 9)).heap[w.heap.size + 4]? = some (.cells #[.string ⟨h.toArray⟩] 9):=by
   have z:((((w.alloc (.cells #[.int .i64 c] 3)).alloc (.cells #[.int .i64 n] 3)).alloc (.cells #[.int .i64 0] 3)).alloc (.cells #[.int .i64 0] 3)).heap.size=w.heap.size + 4:=by simp
   rw [← z];exact a0f _ _
  exact e
 have zz:(((((w.alloc (.cells #[.int .i64 c] 3)).alloc (.cells #[.int .i64 n] 3)).alloc (.cells #[.int .i64 0] 3)).alloc (.cells #[.int .i64 0] 3)).alloc (.cells #[.string ⟨h.toArray⟩] 9)).heap.size=w.heap.size + 5:=by simp
 generalize (((((w.alloc (.cells #[.int .i64 c] 3)).alloc (.cells #[.int .i64 n] 3)).alloc (.cells #[.int .i64 0] 3)).alloc (.cells #[.int .i64 0] 3)).alloc (.cells #[.string ⟨h.toArray⟩] 9))=W0 at *
 refine c0M rfl (by decide) (gf:=91) (lb:=#[.pointer (some ⟨w.heap.size + 4,0,none⟩)]) rfl trivial (enters_of func91 (by kernel_rfl) rfl)
  (m0r _ h hl (w.heap.size + 4) W0 (by omega) r4) (Below.refl _ _) (by omega) (fun x hx=>by obtain ⟨k,_,rfl⟩:=e0U hx;rfl)
  (fun k W=>(∀ j,j < k->hit h c n j=false)/\(W.heap[w.heap.size]? = some (.cells #[.int .i64 c] 3)/\W.heap[w.heap.size + 1]? = some (.cells #[.int .i64 n] 3)/\W.heap[w.heap.size + 2]? = some (.cells #[.int .i64 0] 3)/\W.heap[w.heap.size + 3]? = some (.cells #[.int .i64 (k:Int)] 3))/\Below w.heap.size w W)
  (fun j _ W=>j = .ret/\W.heap[w.heap.size + 2]? = some (.cells #[.int .i64 (placeI h c n)] 3)/\Below w.heap.size w W)
  (fun k X Y hs hb=>⟨hs.1,⟨(hb.block _ (by omega)).trans hs.2.1.1,(hb.block _ (by omega)).trans hs.2.1.2.1,(hb.block _ (by omega)).trans hs.2.1.2.2.1,(hb.block _ (by omega)).trans hs.2.1.2.2.2⟩,hs.2.2.trans (hb.mono (by omega))⟩)
  (fun j k X Y hs hb=>⟨hs.1,(hb.block _ (by omega)).trans hs.2.1,hs.2.2.trans (hb.mono (by omega))⟩)
  ⟨fun j hj=>absurd hj (Nat.not_lt_zero j),⟨r0,r1,r2,r3⟩,hbw⟩
  (fun x=>{ tmps:=#[.string ⟨h.toArray⟩,.int .i64 c,.int .i64 n,undef,.pointer (some ⟨w.heap.size,0,none⟩),.pointer (some ⟨w.heap.size + 1,0,none⟩),.pointer (some ⟨w.heap.size + 2,0,none⟩),.pointer (some ⟨w.heap.size + 3,0,none⟩),x.getD 0 undef,x.getD 1 undef,.string ⟨h.toArray⟩,.func (.func 91) #[] #[.pointer (some ⟨w.heap.size + 4,0,none⟩)],x.getD 0 undef,x.getD 1 undef,undef,undef,undef,undef,undef,undef,undef,undef,undef,undef,undef],defers:=[] }) ?assign ?body ?done ?stop
 case assign =>
  intro l x W K hx hK;obtain ⟨k,hk,rfl⟩:=e0U hx;obtain ⟨p,q,hop⟩:∃ p q:Int,opA h k=#[.int .i64 p,.int .i64 q]:=⟨_,_,rfl⟩;rw [hop] at hK ⊢;clear hx hk hop
  gi_wp2
  exact hK
 case body =>
  rintro l k x W hx ⟨hn,⟨q0,q1,q2,q3⟩,hB⟩;obtain ⟨hk,rfl⟩:=l0Y hx;have c0:W.cell? ⟨w.heap.size,0,none⟩=some (.int .i64 c):=by rw [cell_of_row _ _ _ _ _ _ q0];rfl
  have c1:W.cell? ⟨w.heap.size + 1,0,none⟩=some (.int .i64 n):=by rw [cell_of_row _ _ _ _ _ _ q1];rfl
  have c2:W.cell? ⟨w.heap.size + 2,0,none⟩=some (.int .i64 0):=by rw [cell_of_row _ _ _ _ _ _ q2];rfl
  have c3:W.cell? ⟨w.heap.size + 3,0,none⟩=some (.int .i64 (k:Int)):=by rw [cell_of_row _ _ _ _ _ _ q3];rfl
  have f2:W.frozen? ⟨w.heap.size + 2,0,none⟩=false:=by simp [World.frozen?,q2]
  have f3:W.frozen? ⟨w.heap.size + 3,0,none⟩=false:=by simp [World.frozen?,q3]
  have Q0:=hid q0;have Q1:=hid q1;have Q2:=hid q2;have Q3:=hid q3;have HB:=hid hB;have HN:=hid hn
  have hon:Hid (hit h c n k=false->∀ j,j < k + 1->hit h c n j=false):=fun hf j hj=>by
   by_cases e:j=k
   ·rw [e];exact hf
   ·exact hn j (by omega)
  have hhit:=hit_iff h c n k;have hpl:Hid (hit h c n k=true->placeI h c n=(k:Int)):=fun ht=>plc_some hk ht hn;clear hx q0 q1 q2 q3 hB hn;unfold opA;by_cases he:bv (h.getD k 0)=c
  ·have d1:(bv (h.getD k 0) == c)=true:=by simpa using he
   by_cases hm:(cnt (h.take (k + 1)) c:Int)=n
   ·have HP:=hid (hpl.out (hhit.2 ⟨he,hm⟩))
    have d2:((cnt (h.take (k + 1)) (bv (h.getD k 0)):Int) == n)=true:=by rw [he];simpa using hm
    clear hhit hpl hon he hm HN;generalize (cnt (h.take (k + 1)) (bv (h.getD k 0)):Int)=m at *;generalize bv (h.getD k 0)=x at *
    gi_wp2
    refine ⟨(Above.refl _ W).setCell (p:=⟨w.heap.size + 2,0,none⟩) (by show w.heap.size + 2 < w.heap.size + 4;omega) _,rfl,?_,HB.out.setCell (p:=⟨w.heap.size + 2,0,none⟩) (by simp) _⟩;rw [b0D W _ 0 _ _ _ Q2.out,HP.out];rfl
   ·have hf:hit h c n k=false:=Bool.eq_false_iff.2 fun ht=>hm (hhit.1 ht).2
    have HF:=hid (hon.out hf);have d2:((cnt (h.take (k + 1)) (bv (h.getD k 0)):Int) == n)=false:=by rw [he];simpa using hm
    clear hhit hpl hon he hm HN hf;generalize (cnt (h.take (k + 1)) (bv (h.getD k 0)):Int)=m at *;generalize bv (h.getD k 0)=x at *
    gi_wp2
    refine ⟨(Above.refl _ W).setCell (p:=⟨w.heap.size + 3,0,none⟩) (by show w.heap.size + 3 < w.heap.size + 4;omega) _,HF.out,⟨?_,?_,?_,?_⟩,HB.out.setCell (p:=⟨w.heap.size + 3,0,none⟩) (by simp) _⟩
    ·rw [Below.heap_setCell _ _ _ _ (by simp)];exact Q0.out
    ·rw [Below.heap_setCell _ _ _ _ (by simp)];exact Q1.out
    ·rw [Below.heap_setCell _ _ _ _ (by simp)];exact Q2.out
    ·rw [b0D W _ 0 _ _ _ Q3.out];rfl
  ·have d1:(bv (h.getD k 0) == c)=false:=by simpa using he
   have hf:hit h c n k=false:=Bool.eq_false_iff.2 fun ht=>he (hhit.1 ht).1;have HF:=hid (hon.out hf);clear hhit hpl hon he HN hf;generalize (cnt (h.take (k + 1)) (bv (h.getD k 0)):Int)=m at *;generalize bv (h.getD k 0)=x at *
   gi_wp2
   refine ⟨(Above.refl _ W).setCell (p:=⟨w.heap.size + 3,0,none⟩) (by show w.heap.size + 3 < w.heap.size + 4;omega) _,HF.out,⟨?_,?_,?_,?_⟩,HB.out.setCell (p:=⟨w.heap.size + 3,0,none⟩) (by simp) _⟩
   ·rw [Below.heap_setCell _ _ _ _ (by simp)];exact Q0.out
   ·rw [Below.heap_setCell _ _ _ _ (by simp)];exact Q1.out
   ·rw [Below.heap_setCell _ _ _ _ (by simp)];exact Q2.out
   ·rw [b0D W _ 0 _ _ _ Q3.out];rfl
 case done =>
  rintro D W hD ⟨hn,⟨q0,q1,q2,q3⟩,hB⟩ hK;rw [g0M] at hn;have c2:W.cell? ⟨w.heap.size + 2,0,none⟩=some (.int .i64 0):=by rw [cell_of_row _ _ _ _ _ _ q2];rfl
  have f2:W.frozen? ⟨w.heap.size + 2,0,none⟩=false:=by simp [World.frozen?,q2]
  have HB:=hid (hB.setCell (p:=⟨w.heap.size + 2,0,none⟩) (by simp) (.int .i64 (-1)))
  have HKk:Hid ((W.setCell ⟨w.heap.size + 2,0,none⟩ (.int .i64 (-1))).heap[D]? = some (.deferred (some []))):=by
   show _=_;rw [Below.heap_setCell _ _ _ _ (by show D ≠ w.heap.size + 2;omega)];exact hK
  have HC5:Hid ((W.setCell ⟨w.heap.size + 2,0,none⟩ (.int .i64 (-1))).cell? ⟨w.heap.size + 2,0,none⟩=some (.int .i64 (-1))):=f0O c2;have hp:=n0f hn;have HP:=hid hp;clear hB q0 q1 q2 q3 hK hn hp
  gi_wp2
  refine ⟨by simp,.inl ⟨_,_,rfl,run_takeDeferred HKk.out,?_⟩⟩;have hc6:((W.setCell ⟨w.heap.size + 2,0,none⟩ (.int .i64 (-1))).putObj D (.deferred none)).cell? ⟨w.heap.size + 2,0,none⟩=some (.int .i64 (-1)):=(World.cell?_of_block (w:=W.setCell ⟨w.heap.size + 2,0,none⟩ (.int .i64 (-1))) (World.putObj_heap_other (by show w.heap.size + 2 ≠ D;omega))).trans HC5.out;refine ⟨.int .i64 (-1),?_,by rw [HP.out],HB.out.trans (b0O _ D _ _ (by omega) HKk.out)⟩;simp [results,Tryz.f142,go_sem,hc6]
 case stop =>
  rintro D j k W hD hk ⟨rfl,q2,hB⟩ hK;have hc5:W.cell? ⟨w.heap.size + 2,0,none⟩=some (.int .i64 (placeI h c n)):=by rw [cell_of_row _ _ _ _ _ _ q2];rfl
  have hc6:(W.putObj D (.deferred none)).cell? ⟨w.heap.size + 2,0,none⟩=some (.int .i64 (placeI h c n)):=(World.cell?_of_block (w:=W) (World.putObj_heap_other (by show w.heap.size + 2 ≠ D;omega))).trans hc5;have HC6:=hid hc6;have HB:=hid hB;have HKk:=hid hK;clear hB q2 hK hc5 hc6
  gi_wp2
  refine ⟨by simp,.inl ⟨_,_,rfl,run_takeDeferred HKk.out,?_⟩⟩;refine ⟨.int .i64 (placeI h c n),?_,rfl,HB.out.trans (b0O _ D _ _ (by omega) HKk.out)⟩;simp [results,Tryz.f142,go_sem,HC6.out]
end Go.Proofs.YtagmnmoaekbffaaGreatDoor.Hist
