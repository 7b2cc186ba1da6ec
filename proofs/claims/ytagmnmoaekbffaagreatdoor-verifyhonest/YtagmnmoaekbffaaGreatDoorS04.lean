/- S04 -/
import Derived.WalkKit
import Derived.Laws.Rows
import Derived.Laws.CopyRow
import Derived.Below
import Derived.Laws.AppendOwn
import Derived.BigQuiet
import Derived.Test.YtagmnmoaekbffaaGreatDoorChecked
import Derived.Laws.MakeOwn
import Derived.Laws.IdiomStrings
import Derived.Lib.ConvBytes
import Derived.Sort.Grow
import Derived.OwnWalk
import Derived.Laws.BitsAllLaws
import Derived.Handy
import Derived.Deep.CutBlock
import Derived.Deep.CutRange
namespace Go.Proofs.YtagmnmoaekbffaaGreatDoor
open Go.Proofs.Tryz
open Go
set_option maxRecDepth 100000
def bv (c:UInt8):Int:=(c.toNat:Int)
def cb (c:UInt8):Value:=.int .u8 (bv c)
theorem j0u (c:UInt8):0 <= bv c/\bv c < 256:=by
 have:=c.toNat_lt;unfold bv;omega
theorem i0i (b:List UInt8) (i:Nat) (hi:i < b.length):(b.map cb)[i]? = some (.int .u8 (bv (b.getD i 0))):=by
 simp [List.getD,cb,List.getElem?_eq_getElem hi]
theorem e0x (l:List UInt8):∀ v ∈ l.map cb,v.oneCell' = true:=by
 intro v hv;simp only [List.mem_map] at hv;obtain ⟨x,-,rfl⟩:=hv;rfl
open Go Go.RowKit
variable {P:Program}
theorem a0t {ops:Array Oper} {rest:List Oper} {o:Oper} {a:Act} {w:World} {Q:Exit->Act->World->Prop} (hgd:o.guard=none) (ty:TypeId) (ho:o.op = .alloc ty)
  (z:Array Value) (hi:(P.info? ty).map (·.zero)=some (some (.agg z)))
  (h:wpList P ops Q rest (a.put o.dst (.pointer (some ⟨w.heap.size,0,none⟩))) (w.alloc (.cells z ty))):wpList P ops Q (o :: rest) a w:=by
 refine wpList_plain hgd fun K hK=>?_;have h':=hK _ _ h
 cases hq:P.info? ty with
 | none=>simp [hq] at hi
 | some i =>
  have hz:i.zero=some (.agg z):=by simpa [hq] using hi
  unfold Oper.wp execOp;simp [ho,Instr.alloc,zeroValue,typeInfo,hq,hz,newVar,newRow,newObj,Sem.run_bind,Value.cells];exact h'
theorem b0f (g o j:Nat):(⟨g,o,none⟩:Addr).add j=⟨g,o + j,none⟩:=by unfold Addr.add;split <;> simp_all
theorem a0W {ops:Array Oper} {rest:List Oper} {o:Oper} {a:Act} {w:World} {Q:Exit->Act->World->Prop} (hgd:o.guard=none) (ty:TypeId) (x:Operand) (ho:o.op = .load ty x)
  (g off:Nat) (hx:a.eval x = .pointer (some ⟨g,off,none⟩)) (cs:List Value) (d:TypeDesc) (hc:∀ j v,cs[j]? = some v->w.cell? ⟨g,off + j,none⟩=some v)
  (hu:P.underlying ty=some d) (hd:(match d with | .struct _ | .array _ _=>true | _=>false)=true) (hi:(P.info? ty).map (·.size)=some cs.length)
  (h:wpList P ops Q rest (a.put o.dst (.agg cs.toArray)) w):wpList P ops Q (o :: rest) a w:=by
 refine wpList_plain hgd fun K hK=>?_;have h':=hK _ _ h
 have hl:(loadCells ⟨g,off,none⟩ cs.length).run P w = .ok cs.toArray w :=
  run_loadCells_list (P:=P) w ⟨g,off,none⟩ cs (fun j v hv=>by rw [b0f];exact hc j v hv)
 cases hq:P.info? ty with
 | none=>simp [hq] at hi
 | some i =>
  have hs:i.size=cs.length:=by simpa [hq] using hi
  have hagg:(isAgg ty).run P w = .ok true w:=by
   unfold isAgg;rw [Sem.run_bind,run_underlying hu w]
   cases d <;> simp_all
  unfold Oper.wp execOp;simp [ho,hx,Instr.loadAt,Instr.sureAddr,Sem.run_bind,loadVar,hagg,sizeOf,typeInfo,hq,hs,hl];exact h'
theorem b0c {ops:Array Oper} {rest:List Oper} {o:Oper} {a:Act} {w:World} {Q:Exit->Act->World->Prop} (hgd:o.guard=none) (ty:TypeId) (x y:Operand) (hn:o.dst=none) (ho:o.op = .store ty x y)
  (g off:Nat) (hx:a.eval x = .pointer (some ⟨g,off,none⟩)) (cs:List Value) (hy:a.eval y = .agg cs.toArray) (cur:Array Value) (t:TypeId) (hg:w.heap[g]? = some (.cells cur t (0,0)))
  (hfit:off + cs.length <= cur.size) (h1:∀ v ∈ cs,v.oneCell' = true) (hi:(P.info? ty).map (·.size)=some cs.length)
  (h:wpList P ops Q rest a (w.setRow g (cur.toList.take off++cs++cur.toList.drop (off + cs.length)).toArray)):wpList P ops Q (o :: rest) a w:=by
 refine wpList_plain hgd fun K hK=>?_;have h':=hK _ _ h;have hst:=run_storeCells_at P g off t cs 0 cur w hg (by simpa using hfit) h1
 cases hq:P.info? ty with
 | none=>simp [hq] at hi
 | some i =>
  have hs:i.size=cs.length:=by simpa [hq] using hi
  unfold Oper.wp execOp;simp [ho,hx,hy,Instr.storeAt,Instr.sureAddr,Sem.run_bind,storeVar,sizeOf,typeInfo,hq,hs,hst,Value.cells];rw [List.append_assoc] at h';show K (a.put o.dst undef) _;rw [hn];exact h'
theorem f0o (W:World) (ty e:TypeId) (len:Nat) (d:TypeDesc) (cs:Array Value) (k:Nat) (v:Value) (hu:P.underlying ty=some (.array len e)) (he:P.underlying e=some d)
  (hd:(match d with | .struct _ | .array _ _=>true | _=>false)=false) (hs:(P.info? e).map (·.size)=some 1) (hk:k < len) (hv:cs[k]? = some v) :
  (Instr.index ty (.agg cs) (.int .i64 k)).run P W = .ok v W:=by
 cases hq:P.info? e with
 | none=>simp [hq] at hs
 | some i =>
  have hi:i.size=1:=by simpa [hq] using hs
  have hagg:(isAgg e).run P W = .ok false W:=by
   unfold isAgg;rw [Sem.run_bind,run_underlying he W]
   cases d <;> simp_all
  simp [Instr.index,asIntOf,run_underlying hu,hk,sizeOf,typeInfo,hq,hi,part,hagg,hv]
theorem d0j (w:World) (o:Obj) (i:Nat) (h:i < w.heap.size):(w.alloc o).heap[i]? = w.heap[i]?:=by
 show (w.heap.push o)[i]? = w.heap[i]?;rw [Array.getElem?_push,if_neg (Nat.ne_of_lt h)]
theorem h0s (w:World) (A B C:Obj):(((w.alloc A).alloc B).alloc C).heap[w.heap.size]? = some A:=by
 have h:=d0j ((w.alloc A).alloc B) C w.heap.size (by simp;omega);exact h.trans (heap_alloc2_old w A B)
theorem h0t (w:World) (A B C:Obj):(((w.alloc A).alloc B).alloc C).heap[w.heap.size + 1]? = some B:=by
 have h:=d0j ((w.alloc A).alloc B) C (w.heap.size + 1) (by simp);exact h.trans (heap_alloc2_new w A B)
theorem h0u (w:World) (A B C:Obj):(((w.alloc A).alloc B).alloc C).heap[w.heap.size + 1 + 1]? = some C:=by
 have h:=heap_alloc2_new (w.alloc A) B C;rw [show (w.alloc A).heap.size=w.heap.size + 1 by simp] at h;exact h
theorem below_setRow {B:Nat} {w w':World} (h:Below B w w') (g:Nat) (cs:Array Value) (hg:B <= g):Below B w (w'.setRow g cs):=by
 refine ⟨h.os,h.tape,h.output,?_,?_⟩
 ·have:(w'.setRow g cs).heap.size=w'.heap.size:=by unfold World.setRow;simp
  rw [this];exact h.size
 ·intro k hk
  rw [← h.block k hk];unfold World.setRow;simp [Array.getElem?_modify,show g ≠ k by omega]
theorem a0c (w:World) (o:Obj):Below w.heap.size w (w.alloc o) :=
 ⟨rfl,rfl,rfl,by simp,fun k hk=>d0j w o k hk⟩
theorem a0H {B:Nat} {w w':World} (h:Below B w w') (o:Obj) (hB:B <= w.heap.size):Below B w (w'.alloc o) :=
 ⟨h.os,h.tape,h.output,by have:=h.size;simp;omega,fun k hk=>(d0j w' o k (by have:=h.size;omega)).trans (h.block k hk)⟩
theorem b0d {B:Nat} {w w':World} (h:Below B w w') (n:Nat):Below B w (w'.drewN n):=⟨h.os,h.tape,h.output,h.size,h.block⟩
theorem h0v (w:World) (A B C:Obj) (n:Nat):Below w.heap.size w ((((w.alloc A).alloc B).alloc C).drewN n) :=
 b0d (a0H (a0H (a0c w A) B (Nat.le_refl _)) C (Nat.le_refl _)) n
theorem m0h (W:World) (C:Array Value) (t:TypeId) (n i:Nat) (v:Value) (g:Nat) (hg:W.heap.size=g) :
  ((W.alloc (.cells C t)).drewN n).setCell ⟨g,i,none⟩ v=(W.alloc (.cells (C.setIfInBounds i v) t)).drewN n:=by
 subst hg;exact congrArg (fun w=>World.drewN w n) (World.setCell_alloc_at (w:=W) C t _ i v rfl)
theorem g0g (W:World) (cur cs:Array Value) (t:TypeId):(W.alloc (.cells cur t)).setRow W.heap.size cs=W.alloc (.cells cs t):=by
 have e:((W.alloc (.cells cur t)).setRow W.heap.size cs).heap=(W.alloc (.cells cs t)).heap:=by
  apply Array.ext_getElem?;intro i;have hn:∀ o:Obj,(W.alloc o).heap[W.heap.size]? = some o:=fun o=>by show (W.heap.push o)[W.heap.size]? = _;simp
  by_cases h:i=W.heap.size
  ·subst h
   rw [setRow_heap _ _ cur cs t (0,0) (hn _),hn]
  ·rw [setRow_other _ _ _ _ h]
   show (W.heap.push _)[i]? = (W.heap.push _)[i]?;rw [Array.getElem?_push,Array.getElem?_push,if_neg h,if_neg h]
 exact congrArg (fun hp=>({ W with heap:=hp }:World)) e
theorem c0K {B:Nat} {w w':World} (h:Below B w w') (a:Addr) (v:Value) (hg:B <= a.block):Below B w (w'.setCell a v) :=
 ⟨h.os,h.tape,h.output,by have:=h.size;simpa [World.setCell] using this,fun k hk=>(heap_setCell_other w' a k v (by omega)).trans (h.block k hk)⟩
open Go Go.RowKit
set_option maxRecDepth 100000
theorem infoByte:(prog.info? 5).map (fun i=>(i.zero,i.size,i.bytes))=some (some (.int .u8 0),1,1):=by kernel_rfl
theorem info_parts {t:TypeId} {z:Value} {s b:Nat} (h:(prog.info? t).map (fun i=>(i.zero,i.size,i.bytes))=some (some z,s,b)) :
  ∃ i,prog.info? t=some i/\i.zero=some z/\i.size=s/\i.bytes=b:=by
 cases hq:prog.info? t with
 | none=>simp [hq] at h
 | some i =>
  simp [hq] at h;exact ⟨i,rfl,h.1,h.2.1,h.2.2⟩
def loose (fz:Nat × Nat) (n:Nat):Prop:=∀ j,j < n->¬ (fz.1 <= j/\j < fz.2)
def brow (w:World) (base:Nat) (v:Value) (l:List UInt8):Prop :=
 (v = .slice none 0 0/\l = []) ∨
 ∃ g cap cur fz,v = .slice (some ⟨g,0,none⟩) l.length cap/\base <= g/\w.heap[g]? = some (.cells cur 5 fz)/\loose fz cur.size/\l.length <= cap/\cur.size=cap/\cap <= maxLen/\cur.toList.take l.length=l.map cb
theorem d0n {P:Program} (g o:Nat) (t:TypeId) (fz:Nat × Nat):∀ (vs:List Value) (i:Nat) (cur:Array Value) (w:World),w.heap[g]? = some (.cells cur t fz)->loose fz cur.size->o + i + vs.length <= cur.size->(∀ v ∈ vs,v.oneCell' = true) ->
  (storeCells ⟨g,o,none⟩ vs i).run P w = .ok () (w.setRow g (cur.toList.take (o + i)++vs++cur.toList.drop (o + i + vs.length)).toArray)
 | [],i,cur,w,hg,_,_,_=>by
  simp only [storeCells,List.append_nil,List.length_nil,Nat.add_zero,List.take_append_drop,Array.toArray_toList];rw [setRow_self w g cur t fz hg];rfl
 | v :: rest,i,cur,w,hg,hz,hl,h1=>by
  have hi:o + i < cur.size:=by simp at hl;omega
  have hcell:w.cell? ⟨g,o + i,none⟩=some cur[o + i]:=by simp [World.cell?,hg,hi]
  have hfro:w.frozen? ⟨g,o + i,none⟩=false:=by
   have:=hz (o + i) hi;simp only [World.frozen?,hg];rw [Bool.eq_false_iff];intro hx;simp at hx;exact this hx
  have hst:(store ((⟨g,o,none⟩:Addr).add i) v).run P w = .ok () (w.setRow g (cur.setIfInBounds (o + i) v)):=by
   rw [b0f,run_store P w _ v _ (h1 v (by simp)),hcell];simp [hfro,setCell_eq_setRow w g (o + i) cur t fz v hg]
  have ih:=d0n (P:=P) g o t fz rest (i + 1) (cur.setIfInBounds (o + i) v) (w.setRow g (cur.setIfInBounds (o + i) v)) (setRow_heap w g cur _ t _ hg) (by simpa using hz) (by simp at hl ⊢;omega) (fun x hx=>h1 x (by simp [hx]));simp only [storeCells,Sem.run_bind,hst,Result.andThen_ok,ih,setRow_setRow]
  congr 3
  have e:=list_seg_step cur.toList (o + i) v rest (by simp at hl ⊢;omega);simpa [Array.toList_setIfInBounds,Nat.add_assoc] using e
theorem g0k {w w':World} {base B:Nat} {v:Value} {l:List UInt8} (h:brow w base v l) (hb:Below B w w') (hB:w.heap.size <= B):brow w' base v l:=by
 rcases h with h | ⟨g,cap,cur,fz,rfl,h1,h2,h3⟩
 ·exact .inl h
 ·exact .inr ⟨g,cap,cur,fz,rfl,h1,by rw [hb.block g (by have:=(Array.getElem?_eq_some_iff.1 h2).1;omega)];exact h2,h3⟩
theorem j0G {w:World} {base:Nat} {v:Value} {l:List UInt8} (h:brow w base v l):∀ k,v.ownBlock=some k->base <= k:=by
 intro k hk;rcases h with ⟨rfl,_⟩ | ⟨g,cap,cur,fz,rfl,h1,h2,h3⟩
 ·simp [Value.ownBlock] at hk
 ·simp [Value.ownBlock] at hk;omega
theorem o0m {w:World} {base g cap n:Nat} {l:List UInt8} (h:brow w base (.slice (some ⟨g,0,none⟩) n cap) l):n=l.length/\∀ j,j < l.length->w.cell? ⟨g,j,none⟩=some (cb (l.getD j 0)):=by
 rcases h with ⟨h,_⟩ | ⟨g',cap',cur,fz,h,h1,h2,h3,h4,h5,h6,h7⟩
 ·simp at h
 ·simp at h
  obtain ⟨rfl,rfl,rfl⟩:=h;refine ⟨rfl,fun j hj=>?_⟩;rw [cell_of_row _ _ _ _ _ _ h2,← Array.getElem?_toList];have e:(cur.toList.take l.length)[j]? = (l.map cb)[j]?:=by rw [h7]
  rw [List.getElem?_take,if_pos hj] at e;rw [e,i0i l j hj];rfl
theorem b0z (W:World) (o:Obj):(W.alloc o).heap[W.heap.size]? = some o:=by show (W.heap.push o)[W.heap.size]? = _;simp
theorem g0S (W:World) (base:Nat) (c:UInt8) (hb:base <= W.heap.size):brow (W.alloc (.cells #[.int .u8 (bv c)] 5)) base (.slice (some ⟨W.heap.size,0,none⟩) 1 1) [c]:=by
 refine .inr ⟨W.heap.size,1,#[.int .u8 (bv c)],(0,0),rfl,hb,?_,?_,by simp,rfl,by decide,rfl⟩
 ·show (W.heap.push _)[W.heap.size]? = _;simp
 ·intro j _ h;simp at h
theorem t0W {w:World} (base b2:Nat) (ty:TypeId) (v u:Value) (l l2:List UInt8) (h:brow w base v l) (hs:brow w b2 u l2) (hnn:v ≠ .slice none 0 0 ∨ l2 ≠ []) (hlen:l.length + l2.length <= 140737488355328) (hbase:base <= w.heap.size) :
  ∃ v' w',(Builtin.append_ #[63,63] ty #[v,u]).run prog w = .ok v' w'/\brow w' base v' (l++l2)/\w.grownBy w' v.ownBlock:=by
 obtain ⟨i,hi,hz0,hz1,hz2⟩:=info_parts infoByte
 have hf:(Builtin.firstCells i.size l2.length u).run prog w = .ok (l2.map cb).toArray w:=by
  rcases hs with ⟨rfl,rfl⟩ | ⟨g,cap,cur,fz,rfl,h1,h2,h3,h4,h5,h6,h7⟩
  ·rfl
  ·refine run_firstCells_some w i.size l2.length _ _ _ (l2.map cb) (by rw [hz1];simp) (fun j x hj=>?_)
   rw [b0f,Nat.zero_add,cell_of_row _ _ _ _ _ _ h2,← Array.getElem?_toList];have hj2:j < l2.length:=by have:=(List.getElem?_eq_some_iff.1 hj).1;simpa using this
   have e:(cur.toList.take l2.length)[j]? = (l2.map cb)[j]?:=by rw [h7]
   rw [List.getElem?_take,if_pos hj2] at e;rw [e,hj]
 have hlo:(Builtin.lenOf u).run prog w = .ok l2.length w:=by
  rcases hs with ⟨rfl,rfl⟩ | ⟨g,cap,cur,fz,rfl,h1⟩
  ·rfl
  ·rfl
 rcases h with ⟨rfl,rfl⟩ | ⟨g,cap,cur,fz,rfl,h1,h2,h3,h4,h5,h6,h7⟩
 ·have hne:l2 ≠ []:=by simpa using hnn
  rcases hs with ⟨rfl,rfl⟩ | ⟨g,cap,cur,fz,rfl,h1,h2,h3,h4,h5,h6,h7⟩
  ·exact absurd rfl hne
  ·have hn:∀ j x,(l2.map cb)[j]? = some x->w.cell? ((⟨g,0,none⟩:Addr).add j)=some x:=by
    intro j x hj;rw [b0f,Nat.zero_add,cell_of_row _ _ _ _ _ _ h2,← Array.getElem?_toList];have hj2:j < l2.length:=by have:=(List.getElem?_eq_some_iff.1 hj).1;simpa using this
    have e:(cur.toList.take l2.length)[j]? = (l2.map cb)[j]?:=by rw [h7]
    rw [List.getElem?_take,if_pos hj2] at e;rw [e,hj]
   obtain ⟨v',w',r1,r2,r3,-⟩:=run_append_own (P:=prog) w base 63 ty 5 i (.int .u8 0) 1 1 underlying63 hi hz0 hz1 hz2 rfl (by decide) (.slice none 0 0) 0 [] (World.ownsRow_nil w base 5 1) ⟨g,0,none⟩ l2.length cap (l2.map cb) (by simp) hn (e0x l2) (by unfold maxLen;simp at hlen;omega) (by simp at hlen;omega) hbase;refine ⟨v',w',r1,?_,r3⟩;rcases r2.2 with ⟨_,h0⟩ | ⟨g',cap',cur',q1,q2,q3,q4,q5,q6,q7⟩
   ·exact absurd (List.length_eq_zero_iff.1 (by omega)) hne
   ·refine .inr ⟨g',cap',cur',(0,0),by rw [q1];simp,q2,q3,fun j _ h=>by simp at h,by simpa using q4,by rw [q6];omega,q5,?_⟩
    simpa using q7
 ·by_cases hroom:l.length + l2.length <= cap
  ·have hst:=d0n (P:=prog) g l.length 5 fz (l2.map cb) 0 cur w h2 h3 (by simp;omega) (e0x l2)
   simp only [Nat.add_zero,List.length_map] at hst
   have hr:(Builtin.append_ #[63,63] ty #[.slice (some ⟨g,0,none⟩) l.length cap,u]).run prog w = .ok (.slice (some ⟨g,0,none⟩) (l.length + l2.length) cap) (w.setRow g (cur.toList.take l.length++l2.map cb++cur.toList.drop (l.length + l2.length)).toArray):=by
    simp only [hz1] at hf;simp [Builtin.append_,run_underlying underlying63,sizeOf,typeInfo,hi,hz1,hlo,hf,hroom,b0f,hst]
   refine ⟨_,_,hr,.inr ⟨g,cap,_,fz,by simp,h1,setRow_heap w g cur _ 5 fz h2,?_,by simpa using hroom,?_,h6,?_⟩,⟨rfl,rfl,rfl,by simp,fun k _ hk=>setRow_other w g k _ (fun e=>hk (by simp [Value.ownBlock,e]))⟩⟩
   ·have e:(cur.toList.take l.length++l2.map cb++cur.toList.drop (l.length + l2.length)).toArray.size=cur.size:=by simp;omega
    rw [e];exact h3
   ·simp;omega
   ·rw [h7]
    have e2:(l.map cb++l2.map cb).length=(l++l2).length:=by simp
    rw [← e2,List.map_append];exact List.take_left
  ·have hl2:l2 ≠ []:=by intro h;subst h;simp at hroom;omega
   rcases hs with ⟨rfl,rfl⟩ | ⟨g2,cap2,cur2,fz2,rfl,k1,k2,k3,k4,k5,k6,k7⟩
   ·exact absurd rfl hl2
   ·have hn:∀ j x,(l2.map cb)[j]? = some x->w.cell? ((⟨g2,0,none⟩:Addr).add j)=some x:=by
     intro j x hj;rw [b0f,Nat.zero_add,cell_of_row _ _ _ _ _ _ k2,← Array.getElem?_toList];have hj2:j < l2.length:=by have:=(List.getElem?_eq_some_iff.1 hj).1;simpa using this
     have e:(cur2.toList.take l2.length)[j]? = (l2.map cb)[j]?:=by rw [k7]
     rw [List.getElem?_take,if_pos hj2] at e;rw [e,hj]
    have ho:∀ j x,(l.map cb)[j]? = some x->w.cell? ((⟨g,0,none⟩:Addr).add j)=some x:=by
     intro j x hj;rw [b0f,Nat.zero_add,cell_of_row _ _ _ _ _ _ h2,← Array.getElem?_toList];have hj2:j < l.length:=by have:=(List.getElem?_eq_some_iff.1 hj).1;simpa using this
     have e:(cur.toList.take l.length)[j]? = (l.map cb)[j]?:=by rw [h7]
     rw [List.getElem?_take,if_pos hj2] at e;rw [e,hj]
    have hr:=run_append_grow (P:=prog) w 63 ty 5 i (.int .u8 0) underlying63 hi hz0 ⟨g,0,none⟩ l.length cap (l.map cb) (by rw [hz1];simp) ho ⟨g2,0,none⟩ l2.length cap2 (l2.map cb) (by rw [hz1];simp) hn (by omega) (by omega) (by rw [hz2];exact growslice_fits (by omega) (by omega));have hge:=grownCap_ge w (l.length + l2.length) cap 5;have hcm2:grownCap w (l.length + l2.length) cap 5 <= maxLen:=grownCap_le_maxLen w (l.length + l2.length) cap 5 (by unfold maxLen;omega);refine ⟨_,_,hr,.inr ⟨w.heap.size,_,_,(0,0),by simp,hbase,b0z w.drew _,fun j _ h=>by simp at h,by simpa using hge,?_,hcm2,?_⟩,⟨rfl,rfl,rfl,by simp,fun k hk _=>d0j w.drew _ k hk⟩⟩
    ·have hzz:(Value.int IntKind.u8 0).cells.size=1:=rfl
     simp only [Array.size_append,List.size_toArray,size_zeroCells,hzz,List.length_map];omega
    ·have e2:(l++l2).length=(l.map cb++l2.map cb).length:=by simp
     simp only [Array.toList_append,List.append_assoc];rw [e2,← List.append_assoc,List.map_append];exact List.take_left
theorem g0l {w:World} {ops:Array Oper} {rest:List Oper} {o:Oper} {a:Act} {Q:Exit->Act->World->Prop} (hgd:o.guard=none) (sl x:Operand)
  (ho:o.op = .call { callee:=.builtin .append,args:=#[sl,x],argTypes:=#[63,63] })
  (base b2:Nat) (v u:Value) (l l2:List UInt8) (hs:a.eval sl=v) (hx:a.eval x=u) (hown:brow w base v l) (hsrc:brow w b2 u l2) (hnn:v ≠ .slice none 0 0 ∨ l2 ≠ []) (hlen:l.length + l2.length <= 140737488355328) (hbase:base <= w.heap.size)
  (h:∀ v' w',brow w' base v' (l++l2)->w.grownBy w' v.ownBlock->wpList prog ops Q rest (a.put o.dst v') w'):wpList prog ops Q (o :: rest) a w:=by
 refine wpList_plain hgd fun K hK=>?_;obtain ⟨v',w',hr,h2,h3⟩:=t0W base b2 o.type v u l l2 hown hsrc hnn hlen hbase;unfold Oper.wp execOp;simp only [ho,resolve,invoke,builtin,Sem.run_bind,Sem.run_pure,Result.andThen_ok,List.map_toArray,List.map_cons,List.map_nil,hs,hx,hr];exact hK _ _ (h v' w' h2 h3)
theorem h0w {w:World} {base:Nat} {v:Value} {l:List UInt8} (h:brow w base v l):(convert 63 9 v).run prog w = .ok (.string ⟨l.toArray⟩) w:=by
 rcases h with ⟨rfl,rfl⟩ | ⟨g,cap,cur,fz,rfl,h1,h2,h3,h4,h5,h6,h7⟩
 ·simp [convert,run_underlying underlying63,run_underlying underlying9,run_underlying underlying5]
  rfl
 ·refine run_convert_bytes_back w 63 9 5 ⟨g,0,none⟩ cap l underlying63 underlying5 underlying9 (fun j hj=>?_)
  have:=(o0m (w:=w) (base:=base) (g:=g) (cap:=cap) (n:=l.length) (l:=l) (.inr ⟨g,cap,cur,fz,rfl,h1,h2,h3,h4,h5,h6,h7⟩)).2 j hj;rw [b0f,Nat.zero_add,this];simp [cb,bv,List.getD,hj]
open Go Go.RowKit
set_option maxRecDepth 100000
theorem hid {p:Prop} (h:p):Hid p:=h
theorem wpList_build {P:Program} {ops:Array Oper} {rest:List Oper} {o:Oper} {a:Act} {w:World} {Q:Exit->Act->World->Prop} (hgd:o.guard=none) (ty:TypeId) (parts:List (Nat × Operand)) (ho:o.op = .build ty parts.toArray)
  (vs:List (Nat × Value)) (hv:(parts.map fun p=>(p.1,a.eval p.2))=vs) (v:Value) (hr:(Instr.build ty vs.toArray).run P w = .ok v w)
  (h:wpList P ops Q rest (a.put o.dst v) w):wpList P ops Q (o :: rest) a w:=by
 refine wpList_plain hgd fun K hK=>?_;have h':=hK _ _ h;subst hv;unfold Oper.wp execOp;simp only [ho,List.map_toArray,Sem.run_bind,hr,Result.andThen_ok,Sem.run_pure];exact h'
theorem run_copy_string {P:Program} (w:World) (dT sT ty elem:TypeId) (g o dLen dCap:Nat) (s:ByteArray) (cur:Array Value) (t:TypeId) (y:List UInt8) (n:Nat) (hs:s=⟨y.toArray⟩) (hn:n=Nat.min y.length dLen)
  (hu:P.underlying dT=some (.slice elem)) (hz:(P.info? elem).map (·.size)=some 1) (hg:w.heap[g]? = some (.cells cur t (0,0))) (hfit:o + n <= cur.size) :
  (Builtin.copy_ #[dT,sT] ty #[.slice (some ⟨g,o,none⟩) dLen dCap,.string s]).run P w =
   .ok (.int .i64 (n:Int)) (w.setRow g (cur.toList.take o++(y.take n).map cb++cur.toList.drop (o + ((y.take n).map cb).length)).toArray):=by
 have hn1:n <= y.length:=by rw [hn];exact Nat.min_le_left _ _
 have hl:((y.take n).map cb).length=n:=by simp;omega
 have hst:=run_storeCells_at P g o t ((y.take n).map cb) 0 cur w hg (by rw [hl];simpa using hfit) (e0x _);have hsz:s.size=y.length:=by subst hs;rfl
 cases hq:P.info? elem with
 | none=>simp [hq] at hz
 | some i =>
  have hi:i.size=1:=by simpa [hq] using hz
  simp only [Nat.add_zero] at hst;subst hs
  have hst':(storeCells ⟨g,o,none⟩ (List.take n (List.map (fun b=>Value.int IntKind.u8 (b.toNat:Int)) y))).run P w = .ok () (w.setRow g (cur.toList.take o++(y.take n).map cb++cur.toList.drop (o + ((y.take n).map cb).length)).toArray):=by
   rw [← List.map_take];exact hst
  simp [Builtin.copy_,run_underlying hu,Builtin.lenOf,Builtin.firstCells,sizeOf,typeInfo,hq,hsz,← hn,hst',goInt]
def zb32:Array Value:=((List.replicate 32 0).map cb).toArray
theorem zero25:(prog.info? 38).map (·.zero)=some (some (.agg zb32)):=by kernel_rfl
theorem size25:(prog.info? 38).map (·.size)=some 32:=by kernel_rfl
theorem size5:(prog.info? 5).map (·.size)=some 1:=by kernel_rfl
theorem copied (y:List UInt8) (n:Nat) (hn:n=y.length) (m:Nat) (h:n <= m) (Z:Array Value) (hZ:Z=((List.replicate m 0).map cb).toArray):(Z.toList.take 0++(y.take n).map cb++Z.toList.drop (0 + ((y.take n).map cb).length))=(y++List.replicate (m - n) 0).map cb:=by
 subst hZ hn;rw [List.take_of_length_le (Nat.le_refl _),List.length_map];simp
theorem n0p (W:World) (g cap:Nat) (l:List UInt8) (n:Nat) (hn:n=l.length) (t:TypeId) (h:W.heap[g]? = some (.cells (l.map cb).toArray t)) :
  (convert 63 9 (.slice (some ⟨g,0,none⟩) n cap)).run prog W = .ok (.string ⟨l.toArray⟩) W:=by
 subst hn;refine run_convert_bytes_back W 63 9 5 ⟨g,0,none⟩ cap l underlying63 underlying5 underlying9 (fun j hj=>?_);rw [b0f,Nat.zero_add,cell_of_row _ _ _ _ _ _ h,List.getElem?_toArray,i0i l j hj];simp [bv,List.getD,hj]
theorem f0J (l:List UInt8) (hl:l.length=32) (w:World):Calls prog 66 #[.agg (l.map cb).toArray] w fun e w'=>e = .returned (.string ⟨l.toArray⟩)/\Below w.heap.size w w':=by
 have HV:=n0p (w.alloc (.cells (l.map cb).toArray 38)) w.heap.size 32 l 32 hl.symm 38 (b0z w _);have HB:Hid (Below w.heap.size w (w.alloc (.cells (l.map cb).toArray 38))):=a0c w _;generalize (l.map cb).toArray=D at *;go_enter func66,ntmps66;go_wp2;go_ret;exact ⟨rfl,HB.out⟩
theorem h0x {P:Program} {fn:Func} {p u:Tmp} {ty:TypeId} (h:fn.results=#[.cell p ty,.tmp u]) (tmps:Array Value) (w:World) (g:Nat) (t:TypeId) (cs:Array Value) (fr:Nat × Nat) (d:TypeDesc)
  (hp:tmps.getD p undef = .pointer (some ⟨g,0,none⟩)) (hg:w.heap[g]? = some (.cells cs t fr))
  (hu:P.underlying ty=some d) (hd:(match d with | .struct _ | .array _ _=>true | _=>false)=true) (hi:(P.info? ty).map (·.size)=some cs.size) :
  (results fn tmps).run P w = .ok (.tuple #[.agg cs,tmps.getD u undef]) w:=by
 have hp':tmps[p]?.getD undef = .pointer (some ⟨g,0,none⟩):=by simpa using hp
 simp [results,h,hp',asAddr,run_loadVar_row w g t ty cs fr d hg hu hd hi]
end Go.Proofs.YtagmnmoaekbffaaGreatDoor
