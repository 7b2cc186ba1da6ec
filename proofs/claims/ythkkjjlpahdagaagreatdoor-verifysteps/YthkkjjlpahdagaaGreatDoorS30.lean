/-
  Single operations of a region that draws its order: texts that are joined, lists of numbers, arguments of calls; fields' places.
-/
import Derived.Test.YthkkjjlpahdagaaGreatDoorS03
import Derived.Test.YthkkjjlpahdagaaGreatDoorS08
import Derived.Test.YthkkjjlpahdagaaGreatDoorS01
import Derived.Laws.Concat
import Derived.Test.YthkkjjlpahdagaaGreatDoorS25
namespace Go.Proofs.YthkkjjlpahdagaaGreatDoor.Ms
open Go Go.RowKit
set_option maxRecDepth 100000
theorem args1 {x c:Value} (h:x=c):[x].toArray=#[c]:=by rw [h]
theorem args2 {x c y d:Value} (h:x=c) (k:y=d):[x,y].toArray=#[c,d]:=by rw [h,k]
theorem args3 {x c y d z e:Value} (h:x=c) (k:y=d) (l:z=e):[x,y,z].toArray=#[c,d,e]:=by rw [h,k,l]
theorem args4 {x c y d z e u f:Value} (h:x=c) (k:y=d) (l:z=e) (m:u=f):[x,y,z,u].toArray=#[c,d,e,f]:=by rw [h,k,l,m]
theorem ints_of (w:World) (ks:List Int) (k:Nat) (hk:ks.length=k):IntsAt (w.alloc (.cells (ks.map nu).toArray 3)) (.slice (some ⟨w.heap.size,0,none⟩) k k) ks:=by
 subst hk
 refine ⟨_,_,rfl,fun _=>⟨w.heap.size,0,rfl,fun j hj=>?_⟩⟩
 rw [cell_of_row _ _ _ _ _ _ (top_obj w _),Nat.zero_add,List.getElem?_toArray]
 simp [List.getD,hj]
section
variable {P:Program} {w:World} {o:Oper} {a:Act} {Q:Exit→Act→World→Prop} {K:Act→World→Prop}
theorem op_bs4 (t:TypeId) (y0 y1 y2 y3:Tmp) (ho:o.op = .buildSlice t 4 #[(0,.tmp y0),(1,.tmp y1),(2,.tmp y2),(3,.tmp y3)]) (ht:Tryz.prog.underlying t=some (.slice 3)) (bytes:Nat) (hinfo:(Tryz.prog.info? 3).map (fun i=>(i.zero,i.size,i.bytes))=some (some (nu 0),1,bytes))
  (n0 n1 n2 n3:Int) (h0:a.tmps.getD y0 undef=nu n0) (h1:a.tmps.getD y1 undef=nu n1) (h2:a.tmps.getD y2 undef=nu n2) (h3:a.tmps.getD y3 undef=nu n3)
  (h:K (a.put o.dst (.slice (some ⟨w.heap.size,0,none⟩) 4 4)) (w.alloc (.cells ([n0,n1,n2,n3].map nu).toArray 3))):o.wp Tryz.prog a w K Q:=by
 obtain ⟨i,hi,hz0,hz1,hz2⟩:=info_parts hinfo
 have hfill:=Great.fill_whole (s:=1) (by decide) [nu n0,nu n1,nu n2,nu n3] ((Array.range (4 * 1)).map ((nu 0).cells[· % (nu 0).cells.size]!)) (by simp [Value.cells]) (by simp)
 have e1:([nu n0,nu n1,nu n2,nu n3].flatMap fun v=>v.cells.toList).toArray=([n0,n1,n2,n3].map nu).toArray:=by simp [Value.cells]
 rw [e1] at hfill
 have ey0:a.eval (.tmp y0)=nu n0:=h0
 have ey1:a.eval (.tmp y1)=nu n1:=h1
 have ey2:a.eval (.tmp y2)=nu n2:=h2
 have ey3:a.eval (.tmp y3)=nu n3:=h3
 refine wp_buildSlice t 3 4 _ ho _ i (nu 0) ht hi hz0 (by rw [hz1];omega) (by rw [hz1];omega) (by rw [hz1];simpa [ey0,ey1,ey2,ey3] using hfill) h
end
def vG (S:List Nat) (sp:Nat→Value→World→Prop) (cs:List Value) (i:Nat) (v:Value) (w:World):Prop:=if i ∈ S then sp i v w else v=cs.getD i undef
section
variable {S:List Nat} {sp:Nat→Value→World→Prop} {cs:List Value} {i:Nat} {v:Value} {w:World}
theorem vG_c (h:vG S sp cs i v w) (hi:i ∉ S):v=cs.getD i undef:=by
 unfold vG at h
 rwa [if_neg hi] at h
theorem vG_s (h:vG S sp cs i v w) (hi:i ∈ S):sp i v w:=by
 unfold vG at h
 rwa [if_pos hi] at h
theorem mkC (hi:i ∉ S) (h:v=cs.getD i undef):vG S sp cs i v w:=by
 unfold vG
 rwa [if_neg hi]
theorem mkS (hi:i ∈ S) (h:sp i v w):vG S sp cs i v w:=by
 unfold vG
 rwa [if_pos hi]
theorem vG_mono (hsp:∀ i v w w',sp i v w→Below w.heap.size w w'→sp i v w'):∀ i v w w',vG S sp cs i v w→Below w.heap.size w w'→vG S sp cs i v w':=by
 intro i v w w' h hb
 unfold vG at h ⊢
 by_cases hi:i ∈ S
 ·rw [if_pos hi] at h ⊢
  exact hsp i v w w' h hb
 ·rw [if_neg hi] at h ⊢
  exact h
end
theorem info3:(Tryz.prog.info? 3).map (fun i=>(i.zero,i.size,i.bytes))=some (some (nu 0),1,8):=by kernel_rfl
theorem fq25_0 (g off:Nat) (w:World):(Instr.fieldAt 39 (.pointer (some ⟨g,off,none⟩)) 0).run Tryz.prog w = .ok (.pointer (some ⟨g,off + 0,none⟩)) w:=by kernel_rfl
theorem fq25_1 (g off:Nat) (w:World):(Instr.fieldAt 39 (.pointer (some ⟨g,off,none⟩)) 1).run Tryz.prog w = .ok (.pointer (some ⟨g,off + 1,none⟩)) w:=by kernel_rfl
theorem fq25_2 (g off:Nat) (w:World):(Instr.fieldAt 39 (.pointer (some ⟨g,off,none⟩)) 2).run Tryz.prog w = .ok (.pointer (some ⟨g,off + 2,none⟩)) w:=by kernel_rfl
theorem fq25_4 (g off:Nat) (w:World):(Instr.fieldAt 39 (.pointer (some ⟨g,off,none⟩)) 4).run Tryz.prog w = .ok (.pointer (some ⟨g,off + 4,none⟩)) w:=by kernel_rfl
theorem fq70_4 (g off:Nat) (w:World):(Instr.fieldAt 108 (.pointer (some ⟨g,off,none⟩)) 4).run Tryz.prog w = .ok (.pointer (some ⟨g,off + 4,none⟩)) w:=by kernel_rfl
theorem fq70_5 (g off:Nat) (w:World):(Instr.fieldAt 108 (.pointer (some ⟨g,off,none⟩)) 5).run Tryz.prog w = .ok (.pointer (some ⟨g,off + 5,none⟩)) w:=by kernel_rfl
theorem fq70_6 (g off:Nat) (w:World):(Instr.fieldAt 108 (.pointer (some ⟨g,off,none⟩)) 6).run Tryz.prog w = .ok (.pointer (some ⟨g,off + 6,none⟩)) w:=by kernel_rfl
theorem fq70_7 (g off:Nat) (w:World):(Instr.fieldAt 108 (.pointer (some ⟨g,off,none⟩)) 7).run Tryz.prog w = .ok (.pointer (some ⟨g,off + 38,none⟩)) w:=by kernel_rfl
open Go Go.RowKit
def vA (ia st:Nat) (T:TypeId) (len:Nat) (new:List Value) (B:Nat) (cs:List Value) (L:Nat→Bool) (i:Nat) (v:Value) (w:World):Prop :=
 if i=ia then ∃ g row,v=pt g 0∧B ≤ g∧w.heap[g]? = some (.cells (List.toArray row) T)∧row.length=len∧(L st=true→row=new) else v=cs.getD i undef
section
variable {P:Program} {ops:Array Oper} {Q:Exit→Act→World→Prop} {N:Nat} {a0:Act} {w0:World} {ia st:Nat} {T:TypeId} {len:Nat} {new cs:List Value} {i:Nat} {o:Oper}
theorem vA_c {B:Nat} {L:Nat→Bool} {v:Value} {w:World} (h:vA ia st T len new B cs L i v w) (hi:i ≠ ia):v=cs.getD i undef:=by
 unfold vA at h
 rwa [if_neg hi] at h
theorem oweA_c (c:Value) (hi:i ≠ ia) (hi':i ≠ st) (hc:cs.getD i undef=c)
  (H:∀ (L:Nat→Bool) (a:Act) (w:World),Below w0.heap.size w0 w→(∀ j,waits o j=true→L j=true)→(∀ t,keepOk ops i t=true→a.tmps.getD t undef=a0.tmps.getD t undef)→(∀ j d,waits o j=true→j ≠ ia→dstOf ops j=some d→a.tmps.getD d undef=cs.getD j undef)→∀ K:Act→World→Prop,K (a.put o.dst c) w→o.wp P a w K Q) :
  Owe P ops Q N a0 (vA ia st T len new w0.heap.size cs) (fun _ w=>Below w0.heap.size w0 w) i o:=by
 intro L a w hLi hw hnot hJ hs hk hv
 refine H L a w hJ hw hk (fun j d hj h9 hd=>vA_c (hv j d (hw j hj) hd) h9) _ ⟨c,rfl,fun _=>?_,hJ,fun j d hj hd=>?_⟩
 ·unfold vA
  rw [if_neg hi]
  exact hc.symm
 ·have hu:=hv j d hj hd
  unfold vA at hu ⊢
  rw [up_ne hi']
  exact hu
theorem oweA_alloc (hop:o.op = .alloc T) (z:List Value) (hz:(P.info? T).map (·.zero)=some (some (.agg z.toArray))) (hl:z.length=len) (ost:Oper) (hst:ops[st]? = some ost) (hws:waits ost ia=true) (hne:ia ≠ st) :
  Owe P ops Q N a0 (vA ia st T len new w0.heap.size cs) (fun _ w=>Below w0.heap.size w0 w) ia o:=by
 intro L a w hLi hw hnot hJ hs hk hv
 refine op_alloc T hop z.toArray hz ⟨_,rfl,fun _=>?_,hJ.trans ((below_a1 w _).mono hJ.size),fun j d hj hd=>?_⟩
 ·unfold vA
  rw [if_pos rfl]
  refine ⟨w.heap.size,z,rfl,hJ.size,top_obj w _,hl,fun h10=>?_⟩
  rw [up_ne hne,hnot st _ hst hws] at h10
  cases h10
 ·have hj9:j ≠ ia:=by rintro rfl;rw [hLi] at hj;cases hj
  have:=vA_c (hv j d hj hd) hj9
  unfold vA
  rw [if_neg hj9]
  exact this
theorem oweA_store (x y:Tmp) (hop:o.op = .store T (.tmp x) (.tmp y)) (hn:o.dst=none) (hx:dstOf ops ia=some x) (iy:Nat) (hiy:dstOf ops iy=some y) (hia:iy ≠ ia) (hw1:waits o ia=true) (hw2:waits o iy=true) (hcy:cs.getD iy undef = .agg new.toArray) (hlen:new.length=len) (h1:∀ v ∈ new,v.oneCell' = true) (hi:(P.info? T).map (·.size)=some new.length) :
  Owe P ops Q N a0 (vA ia st T len new w0.heap.size cs) (fun _ w=>Below w0.heap.size w0 w) st o:=by
 intro L a w hLi hw hnot hJ hs hk hv
 have h9:=hv ia x (hw ia hw1) hx
 have h7:=(vA_c (hv iy y (hw iy hw2) hiy) hia).trans hcy
 unfold vA at h9
 rw [if_pos rfl] at h9
 obtain ⟨g,row,e1,hg,hrow,hl,-⟩:=h9
 refine op_store T (.tmp x) (.tmp y) hop hn g e1 new row h7 T hrow (hl.trans hlen.symm) h1 hi ⟨undef,by rw [hn];rfl,fun h=>(by rw [hn] at h;exact Bool.noConfusion h),?_,fun j d hj hd=>?_⟩
 ·exact hJ.trans (((Kp.refl [g] w).setRow g _ (Or.inl (by simp))).below (by simpa using hg) hJ.size)
 ·by_cases hj9:j=ia
  ·subst hj9
   have:d=x:=by
    rw [hx] at hd
    cases hd
    rfl
   subst this
   unfold vA
   rw [if_pos rfl]
   exact ⟨g,new,e1,hg,setRow_heap w g _ _ _ (0,0) hrow,hlen,fun _=>rfl⟩
  ·have:=vA_c (hv j d hj hd) hj9
   unfold vA
   rw [if_neg hj9]
   exact this
theorem fold_pairs (f:Nat→Option Nat) (c:Nat→Value):∀ (l:List Nat) (B:Array Value),l.foldl (fun B i=>match f i with | some d=>B.setIfInBounds d (c i) | none=>B) B=(l.filterMap fun i=>(f i).map fun d=>(d,c i)).foldl (fun B p=>B.setIfInBounds p.1 p.2) B
 | [],_=>rfl
 | i :: l,B=>by
  rw [List.foldl_cons,fold_pairs f c l,List.filterMap_cons]
  cases f i <;> rfl
theorem wp_region_new {id:Nat} (ia st da:Nat) (T:TypeId) (len:Nat) (new cs:List Value) (ds:Nat→List (Nat × Value)) (hf:P.follows .mixedOrders=true) (hok:okMd ops N=true) (hN:a0.tmps.size=N)
  (hdst:dstOf ops ia=some da) (hst:st < ops.size) (hic:ia < cs.length) (hds:∀ g,(List.range ops.size).filterMap (fun i=>(dstOf ops i).map fun d=>(d,(cs.set ia (pt g 0)).getD i undef))=ds g)
  (hown:∀ i o,ops[i]? = some o→Owe P ops Q N a0 (vA ia st T len new w0.heap.size cs) (fun _ w=>Below w0.heap.size w0 w) i o)
  (hend:∀ g W,w0.heap.size ≤ g→W.heap[g]? = some (.cells new.toArray T)→Below w0.heap.size w0 W→Q .normal { tmps:=(ds g).foldl (fun B p=>B.setIfInBounds p.1 p.2) a0.tmps,defers:=a0.defers } W) :
  (Code.region id ops true).wp P Q a0 w0:=by
 refine wp_region_md (N:=N) (vA ia st T len new w0.heap.size cs) (fun _ w=>Below w0.heap.size w0 w) hf hok hN (fun w1 h1=>h1) hown ?_
 intro L a W hall hJ hs hd hk hv
 have h9:=hv ia da hdst
 unfold vA at h9
 rw [if_pos rfl] at h9
 obtain ⟨g,row,e1,hg,hrow,-,hrx⟩:=h9
 obtain rfl:=hrx (hall st hst)
 have e:=frame_of (c:=fun i=>(cs.set ia (pt g 0)).getD i undef) (hs.trans hN.symm) hk (fun i d hdd=>by
  by_cases h9:i=ia
  ·subst h9
   rw [hdst] at hdd
   cases hdd
   rw [e1,List.getD_eq_getElem?_getD,List.getElem?_set_self hic]
   rfl
  ·rw [vA_c (hv i d hdd) h9,List.getD_eq_getElem?_getD,List.getD_eq_getElem?_getD,List.getElem?_set_ne (fun h=>h9 h.symm)])
 have e2:=e.trans (fold_pairs (fun i=>dstOf ops i) (fun i=>(cs.set ia (pt g 0)).getD i undef) (List.range ops.size) a0.tmps)
 rw [hds] at e2
 have ea:a = { tmps:=(ds g).foldl (fun B p=>B.setIfInBounds p.1 p.2) a0.tmps,defers:=a0.defers }:=by
  obtain ⟨tm,df⟩:=a
  cases e2
  cases hd
  rfl
 rw [ea]
 exact hend g W hg hrow hJ
end
open Go Go.RowKit
set_option maxRecDepth 100000
section
variable {P:Program} {ops:Array Oper} {Q:Exit→Act→World→Prop} {N:Nat} {a0:Act} {w0:World} {i:Nat} {o:Oper}
def OweK (P:Program) (ops:Array Oper) (Q:Exit→Act→World→Prop) (a0:Act) (cs:List Value) (J:(Nat→Bool)→World→Prop) (i:Nat) (o:Oper):Prop :=
 ∀ L a w,L i=false→(∀ j,waits o j=true→L j=true)→(∀ j oj,ops[j]? = some oj→waits oj i=true→L j=false)→J L w →
  (∀ t,keepOk ops i t=true→a.tmps.getD t undef=a0.tmps.getD t undef)→(∀ j d,waits o j=true→dstOf ops j=some d→a.tmps.getD d undef=cs.getD j undef) →
  ∀ K:Act→World→Prop,(∀ w',J (up L i) w'→K (a.put o.dst (cs.getD i undef)) w')→o.wp P a w K Q
theorem wp_region_cs {id:Nat} (cs:List Value) (J:(Nat→Bool)→World→Prop) (ds:List (Nat × Value)) (hf:P.follows .mixedOrders=true) (hok:okMd ops N=true) (hN:a0.tmps.size=N)
  (h0:∀ w1,Below w0.heap.size w0 w1→J (fun _=>false) w1) (hds:(List.range ops.size).filterMap (fun i=>(dstOf ops i).map fun d=>(d,cs.getD i undef))=ds)
  (hown:∀ i o,ops[i]? = some o→OweK P ops Q a0 cs J i o)
  (hend:∀ L W,(∀ i,i < ops.size→L i=true)→J L W→Q .normal { tmps:=ds.foldl (fun B p=>B.setIfInBounds p.1 p.2) a0.tmps,defers:=a0.defers } W) :
  (Code.region id ops true).wp P Q a0 w0:=by
 refine wp_region_md (N:=N) (fun _ i v _=>v=cs.getD i undef) J hf hok hN h0 ?_ ?_
 ·intro i o ho L a w hLi hw hnot hJ hs hk hv
  exact hown i o ho L a w hLi hw hnot hJ hk (fun j d hj hd=>hv j d (hw j hj) hd) _ (fun w' hJ'=>⟨_,rfl,fun _=>rfl,hJ',fun j d hj hd=>hv j d hj hd⟩)
 ·intro L a W hall hJ hs hd hk hv
  have e:=frame_of (c:=fun i=>cs.getD i undef) (hs.trans hN.symm) hk hv
  have e2:=e.trans (fold_pairs (fun i=>dstOf ops i) (fun i=>cs.getD i undef) (List.range ops.size) a0.tmps)
  rw [hds] at e2
  have ea:a = { tmps:=ds.foldl (fun B p=>B.setIfInBounds p.1 p.2) a0.tmps,defers:=a0.defers }:=by
   obtain ⟨tm,df⟩:=a
   cases e2
   cases hd
   rfl
  rw [ea]
  exact hend L W hall hJ
theorem op_buildY (ty:TypeId) (l:List (Nat × Operand)) (ho:o.op = .build ty l.toArray) (z:Value) {a:Act} {w:World} {K:Act→World→Prop} (hr:(Instr.build ty (l.map fun x=>(x.1,a.eval x.2)).toArray).run P w = .ok z w) (h:K (a.put o.dst z) w):o.wp P a w K Q:=by
 unfold Oper.wp execOp
 simp only [ho,List.map_toArray,Sem.run_bind,hr,Result.andThen_ok,Sem.run_pure]
 exact h
end
def spN (st:Nat) (T:TypeId) (len:Nat) (new:List Value) (B:Nat) (L:Nat→Bool) (v:Value) (w:World):Prop :=
 ∃ g row,v=pt g 0∧B ≤ g∧w.heap[g]? = some (.cells (List.toArray row) T)∧row.length=len∧(L st=true→row=new)
def vN (ia st:Nat) (T:TypeId) (len:Nat) (new:List Value) (B:Nat) (cs:List Value) (L:Nat→Bool) (i:Nat) (v:Value) (w:World):Prop :=
 if i=ia then spN st T len new B L v w else v=cs.getD i undef
section
variable {P:Program} {ops:Array Oper} {Q:Exit→Act→World→Prop} {N:Nat} {a0:Act} {w0:World} {i:Nat} {o:Oper} {ia st:Nat} {T:TypeId} {len:Nat} {new cs:List Value} {B:Nat} {J:(Nat→Bool)→World→Prop}
theorem vN_c {L:Nat→Bool} {v:Value} {w:World} (h:vN ia st T len new B cs L i v w) (hi:i ≠ ia):v=cs.getD i undef:=by
 unfold vN at h
 rwa [if_neg hi] at h
theorem oweN (c:Value) (hi:i ≠ ia) (hi':i ≠ st) (hc:cs.getD i undef=c)
  (H:∀ (L:Nat→Bool) (a:Act) (w:World),L i=false→J L w→(∀ j,waits o j=true→L j=true)→(∀ j oj,ops[j]? = some oj→waits oj i=true→L j=false)→(∀ t,keepOk ops i t=true→a.tmps.getD t undef=a0.tmps.getD t undef)→(∀ j d,waits o j=true→j ≠ ia→dstOf ops j=some d→a.tmps.getD d undef=cs.getD j undef) →
   ∀ K:Act→World→Prop,(∀ w',J (up L i) w'→(∀ k r,B ≤ k→w.heap[k]? = some (.cells r T)→w'.heap[k]? = some (.cells r T))→K (a.put o.dst c) w')→o.wp P a w K Q) :
  Owe P ops Q N a0 (vN ia st T len new B cs) J i o:=by
 intro L a w hLi hw hnot hJ hs hk hv
 refine H L a w hLi hJ hw hnot hk (fun j d hj h9 hd=>vN_c (hv j d (hw j hj) hd) h9) _ (fun w' hJ' hrow=>⟨c,rfl,fun _=>?_,hJ',fun j d hj hd=>?_⟩)
 ·unfold vN
  rw [if_neg hi]
  exact hc.symm
 ·have hu:=hv j d hj hd
  unfold vN at hu ⊢
  split at hu
  ·rename_i e
   rw [if_pos e]
   obtain ⟨g,row,e1,hg,hr,hl,hx⟩:=hu
   exact ⟨g,row,e1,hg,hrow g _ hg hr,hl,by rw [up_ne hi'];exact hx⟩
  ·rename_i e
   rw [if_neg e]
   exact hu
theorem oweN_alloc (hop:o.op = .alloc T) (z:List Value) (hz:(P.info? T).map (·.zero)=some (some (.agg z.toArray))) (hl:z.length=len) (ost:Oper) (hst:ops[st]? = some ost) (hws:waits ost ia=true) (hne:ia ≠ st)
  (hJB:∀ L w,J L w→B ≤ w.heap.size) (hJa:∀ L w o',J L w→J (up L ia) (w.alloc o')) :
  Owe P ops Q N a0 (vN ia st T len new B cs) J ia o:=by
 intro L a w hLi hw hnot hJ hs hk hv
 refine op_alloc T hop z.toArray hz ⟨_,rfl,fun _=>?_,hJa _ _ _ hJ,fun j d hj hd=>?_⟩
 ·unfold vN
  rw [if_pos rfl]
  refine ⟨w.heap.size,z,rfl,hJB _ _ hJ,top_obj w _,hl,fun h10=>?_⟩
  rw [up_ne hne,hnot st _ hst hws] at h10
  cases h10
 ·have hj9:j ≠ ia:=by rintro rfl;rw [hLi] at hj;cases hj
  have:=vN_c (hv j d hj hd) hj9
  unfold vN
  rw [if_neg hj9]
  exact this
theorem oweN_store (x y:Tmp) (hop:o.op = .store T (.tmp x) (.tmp y)) (hn:o.dst=none) (hx:dstOf ops ia=some x) (iy:Nat) (hiy:dstOf ops iy=some y) (hia:iy ≠ ia) (hw1:waits o ia=true) (hw2:waits o iy=true) (hcy:cs.getD iy undef = .agg new.toArray) (hlen:new.length=len) (h1:∀ v ∈ new,v.oneCell' = true) (hi:(P.info? T).map (·.size)=some new.length)
  (hJs:∀ L w w' g r,J L w→B ≤ g→w.heap[g]? = some (.cells r T)→But g w w'→J (up L st) w') :
  Owe P ops Q N a0 (vN ia st T len new B cs) J st o:=by
 intro L a w hLi hw hnot hJ hs hk hv
 have h9:=hv ia x (hw ia hw1) hx
 have h7:=(vN_c (hv iy y (hw iy hw2) hiy) hia).trans hcy
 unfold vN at h9
 rw [if_pos rfl] at h9
 obtain ⟨g,row,e1,hg,hrow,hl,-⟩:=h9
 refine op_store T (.tmp x) (.tmp y) hop hn g e1 new row h7 T hrow (hl.trans hlen.symm) h1 hi ⟨undef,by rw [hn];rfl,fun h=>(by rw [hn] at h;exact Bool.noConfusion h),?_,fun j d hj hd=>?_⟩
 ·exact hJs L w _ g _ hJ hg hrow (but_setRow w g _)
 ·by_cases hj9:j=ia
  ·subst hj9
   have:d=x:=by
    rw [hx] at hd
    cases hd
    rfl
   subst this
   unfold vN
   rw [if_pos rfl]
   exact ⟨g,new,e1,hg,setRow_heap w g _ _ _ (0,0) hrow,hlen,fun _=>rfl⟩
  ·have:=vN_c (hv j d hj hd) hj9
   unfold vN
   rw [if_neg hj9]
   exact this
theorem wp_region_nj {id:Nat} (ia st da:Nat) (T:TypeId) (len:Nat) (new:List Value) (B:Nat) (cs:List Value) (J:(Nat→Bool)→World→Prop) (ds:Nat→List (Nat × Value)) (hf:P.follows .mixedOrders=true) (hok:okMd ops N=true) (hN:a0.tmps.size=N)
  (hdst:dstOf ops ia=some da) (hst:st < ops.size) (hic:ia < cs.length) (hds:∀ g,(List.range ops.size).filterMap (fun i=>(dstOf ops i).map fun d=>(d,(cs.set ia (pt g 0)).getD i undef))=ds g)
  (h0:∀ w1,Below w0.heap.size w0 w1→J (fun _=>false) w1)
  (hown:∀ i o,ops[i]? = some o→Owe P ops Q N a0 (vN ia st T len new B cs) J i o)
  (hend:∀ g L W,B ≤ g→W.heap[g]? = some (.cells new.toArray T)→(∀ i,i < ops.size→L i=true)→J L W→Q .normal { tmps:=(ds g).foldl (fun B p=>B.setIfInBounds p.1 p.2) a0.tmps,defers:=a0.defers } W) :
  (Code.region id ops true).wp P Q a0 w0:=by
 refine wp_region_md (N:=N) (vN ia st T len new B cs) J hf hok hN h0 hown ?_
 intro L a W hall hJ hs hd hk hv
 have h9:=hv ia da hdst
 unfold vN at h9
 rw [if_pos rfl] at h9
 obtain ⟨g,row,e1,hg,hrow,-,hrx⟩:=h9
 obtain rfl:=hrx (hall st hst)
 have e:=frame_of (c:=fun i=>(cs.set ia (pt g 0)).getD i undef) (hs.trans hN.symm) hk (fun i d hdd=>by
  by_cases h9:i=ia
  ·subst h9
   rw [hdst] at hdd
   cases hdd
   rw [e1,List.getD_eq_getElem?_getD,List.getElem?_set_self hic]
   rfl
  ·rw [vN_c (hv i d hdd) h9,List.getD_eq_getElem?_getD,List.getD_eq_getElem?_getD,List.getElem?_set_ne (fun h=>h9 h.symm)])
 have e2:=e.trans (fold_pairs (fun i=>dstOf ops i) (fun i=>(cs.set ia (pt g 0)).getD i undef) (List.range ops.size) a0.tmps)
 rw [hds] at e2
 have ea:a = { tmps:=(ds g).foldl (fun B p=>B.setIfInBounds p.1 p.2) a0.tmps,defers:=a0.defers }:=by
  obtain ⟨tm,df⟩:=a
  cases e2
  cases hd
  rfl
 rw [ea]
 exact hend g L W hg hrow hall hJ
end
end Go.Proofs.YthkkjjlpahdagaaGreatDoor.Ms
