/- S03 -/
import Derived.Test.YtagmnmoaekbffaaGreatDoorThsr
import Derived.Test.YtagmnmoaekbffaaGreatDoorS01
import Derived.Orders
import Derived.Maps.AppendAt
import Derived.Great.BuildSlice
import Derived.OwnWalk
namespace Go.Proofs.YtagmnmoaekbffaaGreatDoor.Ms
open Go.Proofs.Tryz
open Go Go.RowKit
set_option maxRecDepth 100000
theorem p0w (W:World):(Instr.build 40 #[]).run prog W = .ok (.agg (subC c0j).toArray) W:=by kernel_rfl
theorem p0x (W:World):(Instr.build 38 #[]).run prog W = .ok (.agg (dg a0n).toArray) W:=by kernel_rfl
theorem d0i (W:World):(Instr.build 44 #[]).run prog W = .ok (.agg (repC a0p (.slice none 0 0)).toArray) W:=by kernel_rfl
theorem v0f (W:World):(Instr.build 78 #[]).run prog W = .ok (.agg (bloC o0d).toArray) W:=by kernel_rfl
theorem zeroMsg:(prog.info? 80).map (·.zero)=some (some (.agg (msgC (b0m 0 0) (.slice none 0 0) (.slice none 0 0)).toArray)):=by kernel_rfl
theorem p0y (W:World) (k c:Int):(Instr.build 80 #[(0,nu k),(1,nu c)]).run prog W = .ok (.agg (msgC (b0m k c) (.slice none 0 0) (.slice none 0 0)).toArray) W:=by kernel_rfl
structure But (b:Nat) (w w':World):Prop where
 os:w'.os=w.os
 tape:w'.tape=w.tape
 output:w'.output=w.output
 size:w'.heap.size=w.heap.size
 block:∀ k,k ≠ b->w'.heap[k]? = w.heap[k]?
theorem But.below {b n:Nat} {a w w':World} (h:But b w w') (h0:Below n a w) (h1:n <= b):Below n a w' :=
 ⟨h.os.trans h0.os,h.tape.trans h0.tape,h.output.trans h0.output,by rw [h.size];exact h0.size,fun k hk=>(h.block k (by omega)).trans (h0.block k hk)⟩
theorem But.row {b k:Nat} {w w':World} {o:Obj} (h:But b w w') (hr:w.heap[k]? = some o) (hk:k ≠ b):w'.heap[k]? = some o:=(h.block k hk).trans hr
theorem d0u (w:World) (g:Nat) (cs:Array Value):But g w (w.setRow g cs):=⟨rfl,rfl,rfl,by simp,fun k hk=>setRow_other w g k cs hk⟩
theorem c0X (w:World) (b i:Nat) (v:Value):But b w (w.setCell ⟨b,i,none⟩ v):=⟨rfl,rfl,rfl,by simp [World.setCell],fun k hk=>heap_setCell_other w ⟨b,i,none⟩ k v hk⟩
theorem j0A {w:World} {g off:Nat} {A C:List Value} {old v:Value} {t:TypeId} (h:w.heap[g]? = some (.cells (A++([old]++C)).toArray t)) (hA:A.length=off):(w.setCell ⟨g,off,none⟩ v).heap[g]? = some (.cells (A++([v]++C)).toArray t):=by
 rw [heap_setCell_same w g off _ t v h];subst hA;simp
section
variable {P:Program} {ops:Array Oper} {rest:List Oper} {o:Oper} {a:Act} {w:World} {Q:Exit->Act->World->Prop}
theorem c0c (ty:TypeId) (ho:o.op = .build ty #[]) (hw:Region.wanted o (yielded ops a.tmps)=true) (z:Array Value) (hr:(Instr.build ty #[]).run P w = .ok (.agg z) w)
  (h:wpList P ops Q rest (a.put o.dst (.agg z)) w):wpList P ops Q (o :: rest) a w:=by
 refine BigFrame.wpList_want hw fun K hK=>?_;have h':=hK _ _ h;unfold Oper.wp execOp;simp only [ho,List.map_toArray,List.map_nil,Sem.run_bind,hr,Result.andThen_ok,Sem.run_pure];exact h'
theorem b0b (ty:TypeId) (x y:Operand) (ho:o.op = .store ty x y) (hn:o.dst=none) (g off:Nat) (hx:a.eval x = .pointer (some ⟨g,off,none⟩)) (hw:Region.wanted o (yielded ops a.tmps)=true)
  (A cs old C:List Value) (hy:a.eval y = .agg cs.toArray) (t:TypeId) (hg:w.heap[g]? = some (.cells (A++(old++C)).toArray t)) (hA:A.length=off) (hold:old.length=cs.length) (h1:∀ v ∈ cs,v.oneCell' = true) (hi:(P.info? ty).map (·.size)=some cs.length)
  (h:∀ w1,w1.heap[g]? = some (.cells (A++(cs++C)).toArray t)->But g w w1->wpList P ops Q rest a w1):wpList P ops Q (o :: rest) a w :=
 n0j ty x y ho hn g off hx hw A cs old C hy t hg hA hold h1 hi (h _ (setRow_heap w g _ _ t (0,0) hg) (d0u w g _))
end
theorem c0t {P:Program} {fn:Func} {p:Tmp} {ty:TypeId} (h:fn.results=#[.cell p ty]) (tmps:Array Value) (w:World) (g:Nat) (t:TypeId) (cs:Array Value) (fr:Nat × Nat) (d:TypeDesc)
  (hp:tmps.getD p undef = .pointer (some ⟨g,0,none⟩)) (hg:w.heap[g]? = some (.cells cs t fr))
  (hu:P.underlying ty=some d) (hd:(match d with | .struct _ | .array _ _=>true | _=>false)=true) (hi:(P.info? ty).map (·.size)=some cs.size) :
  (results fn tmps).run P w = .ok (.agg cs) w:=by
 have hp':tmps[p]?.getD undef = .pointer (some ⟨g,0,none⟩):=by simpa using hp
 simp [results,h,hp',asAddr,run_loadVar_row w g t ty cs fr d hg hu hd hi]
theorem f0w (x:Sub):∀ v ∈ subC x,v.oneCell' = true:=by
 intro v hv;simp only [subC,List.mem_append,List.mem_cons,List.not_mem_nil,or_false] at hv;rcases hv with (rfl | rfl | rfl | rfl) | hv | hv
 ·rfl
 ·rfl
 ·rfl
 ·rfl
 ·exact d0h _ v hv
 ·exact d0h _ v hv
theorem t0U (x:Blo):∀ v ∈ bloC x,v.oneCell' = true:=by
 intro v hv;simp only [bloC,List.mem_append,List.mem_cons,List.not_mem_nil,or_false] at hv;rcases hv with (rfl | rfl | rfl) | hv
 ·rfl
 ·rfl
 ·rfl
 ·exact d0h _ v hv
theorem c0I (x:Rep) (vP:Value) (h:vP.oneCell' = true):∀ v ∈ repC x vP,v.oneCell' = true:=by
 intro v hv;simp only [repC,List.mem_append,List.mem_cons,List.not_mem_nil,or_false] at hv;rcases hv with (rfl | rfl | rfl) | hv | (rfl | rfl | rfl) | hv | rfl | hv
 ·rfl
 ·rfl
 ·rfl
 ·exact d0h _ v hv
 ·exact h
 ·rfl
 ·rfl
 ·exact d0h _ v hv
 ·rfl
 ·exact d0h _ v hv
theorem t0V (m:Msg) (vP vN:Value) (hp:vP.oneCell' = true) (hn:vN.oneCell' = true):∀ v ∈ msgC m vP vN,v.oneCell' = true:=by
 intro v hv;simp only [msgC,List.mem_append,List.mem_cons,List.not_mem_nil,or_false] at hv;rcases hv with (rfl | rfl) | hv | hv | (rfl | rfl) | hv | hv | hv | rfl
 ·rfl
 ·rfl
 ·exact f0w _ v hv
 ·exact c0I _ _ hp v hv
 ·rfl
 ·rfl
 ·exact d0h _ v hv
 ·exact d0h _ v hv
 ·exact t0U _ v hv
 ·exact hn
theorem wfZeroS:c0j.Wf:=⟨rfl,rfl⟩
theorem wfZeroR:a0p.Wf:=⟨rfl,rfl,rfl,fun p hp=>by cases hp⟩
theorem wfZeroB:o0d.Wf:=⟨rfl⟩
def m0d (m:Msg) (vP:Value):Value:=if m.kind=2 then .slice none 0 0 else vP
def m0e (m:Msg) (vN:Value):Value:=if m.kind=5 ∨ m.kind=7 ∨ m.kind=8 then .slice none 0 0 else vN
open Go Go.RowKit
set_option maxRecDepth 100000
structure Kp (X:List Nat) (w w':World):Prop where
 os:w'.os=w.os
 tape:w'.tape=w.tape
 output:w'.output=w.output
 size:w.heap.size <= w'.heap.size
 block:∀ k,k < w.heap.size->k ∉ X->w'.heap[k]? = w.heap[k]?
theorem Kp.refl (X:List Nat) (w:World):Kp X w w:=⟨rfl,rfl,rfl,Nat.le_refl _,fun _ _ _=>rfl⟩
theorem Kp.trans {X:List Nat} {a b c:World} (h:Kp X a b) (k:Kp X b c):Kp X a c :=
 ⟨k.os.trans h.os,k.tape.trans h.tape,k.output.trans h.output,Nat.le_trans h.size k.size,fun i hi hp=>(k.block i (Nat.lt_of_lt_of_le hi h.size) hp).trans (h.block i hi hp)⟩
theorem Kp.drop {X Y:List Nat} {w w':World} (h:Kp X w w') (hX:∀ x ∈ X,x ∈ Y ∨ w.heap.size <= x):Kp Y w w' :=
 ⟨h.os,h.tape,h.output,h.size,fun k hk hp=>h.block k hk (fun hx=>by rcases hX k hx with e | e;exact hp e;omega)⟩
theorem Kp.then {X Y:List Nat} {a b c:World} (h:Kp X a b) (k:Kp Y b c) (hY:∀ x ∈ Y,x ∈ X ∨ a.heap.size <= x):Kp X a c :=
 ⟨k.os.trans h.os,k.tape.trans h.tape,k.output.trans h.output,Nat.le_trans h.size k.size,fun i hi hp=>(k.block i (Nat.lt_of_lt_of_le hi h.size) (fun hx=>by rcases hY i hx with e | e;exact hp e;omega)).trans (h.block i hi hp)⟩
theorem Kp.of {X:List Nat} {w w':World} (h:Below w.heap.size w w'):Kp X w w':=⟨h.os,h.tape,h.output,h.size,fun k hk _=>h.block k hk⟩
theorem Kp.below {X:List Nat} {B:Nat} {w w':World} (h:Kp X w w') (h1:∀ x ∈ X,B <= x) (h2:B <= w.heap.size):Below B w w' :=
 ⟨h.os,h.tape,h.output,h.size,fun k hk=>h.block k (by omega) (fun hx=>by have:=h1 k hx;omega)⟩
theorem Kp.setRow {X:List Nat} {a w:World} (h:Kp X a w) (g:Nat) (cs:Array Value) (hg:g ∈ X ∨ a.heap.size <= g):Kp X a (w.setRow g cs):=by
 refine ⟨h.os,h.tape,h.output,by simpa using h.size,fun k hk hx=>?_⟩;rw [← h.block k hk hx];refine setRow_other w g k cs ?_;rintro rfl;rcases hg with e | e
 ·exact hx e
 ·omega
theorem Kp.but {X:List Nat} {a w w':World} {b:Nat} (h:Kp X a w) (hb:But b w w') (hg:b ∈ X ∨ a.heap.size <= b):Kp X a w':=by
 refine ⟨hb.os.trans h.os,hb.tape.trans h.tape,hb.output.trans h.output,by rw [hb.size];exact h.size,fun k hk hx=>?_⟩;rw [← h.block k hk hx];refine hb.block k ?_;rintro rfl;rcases hg with e | e
 ·exact hx e
 ·omega
theorem Kp.drew {X:List Nat} {a w:World} (h:Kp X a w):Kp X a w.drew:=⟨h.os,h.tape,h.output,h.size,h.block⟩
theorem a0D {w:World} {k:Nat} {o:Obj} (hr:w.heap[k]? = some o):k < w.heap.size:=(Array.getElem?_eq_some_iff.1 hr).1
theorem Kp.row {X:List Nat} {w w':World} (h:Kp X w w') {k:Nat} {o:Obj} (hr:w.heap[k]? = some o) (hk:k ∉ X):w'.heap[k]? = some o :=
 (h.block k (a0D hr) hk).trans hr
theorem Kp.grown {X:List Nat} {a w w':World} {row:Option Nat} (h:Kp X a w) (hg:w.grownBy w' row) (hr:∀ k,row=some k->k ∈ X ∨ a.heap.size <= k):Kp X a w' :=
 ⟨hg.os.trans h.os,hg.tape.trans h.tape,hg.output.trans h.output,Nat.le_trans h.size hg.size,fun k hk hx=>(hg.block k (by have:=h.size;omega) (fun e=>by rcases hr k e.symm with q | q;exact hx q;omega)).trans (h.block k hk hx)⟩
def c0S (ps:List Pen):List Value:=ps.flatMap penC
theorem k0L {ps:List Pen} (h:∀ p ∈ ps,p.Wf):(c0S ps).length=ps.length * 68:=by
 induction ps with
 | nil=>rfl
 | cons a l ih =>
  have:=ih (fun p hp=>h p (by simp [hp]));simp only [c0S,List.flatMap_cons,List.length_append,a0K (h a (by simp)),List.length_cons] at this ⊢;omega
theorem j0B (ps:List Pen):∀ v ∈ c0S ps,v.oneCell' = true:=by
 intro v hv;simp only [c0S,List.mem_flatMap] at hv;obtain ⟨p,-,hp⟩:=hv;exact h0n p v hp
theorem n0l {ps:List Pen} (h:∀ p ∈ ps,p.Wf):∀ j,j < ps.length->∀ i c,(penC (ps.getD j a0z))[i]? = some c->(c0S ps)[j * 68 + i]? = some c:=by
 induction ps with
 | nil=>intro j hj;cases hj
 | cons a l ih =>
  intro j hj i c hc;have ha:=a0K (h a (by simp));simp only [c0S,List.flatMap_cons]
  cases j with
  | zero =>
   simp only [List.getD_cons_zero] at hc;rw [Nat.zero_mul,Nat.zero_add,List.getElem?_append_left (List.getElem?_eq_some_iff.1 hc).1];exact hc
  | succ j =>
   simp only [List.getD_cons_succ] at hc;rw [List.getElem?_append_right (by rw [ha];omega),ha,show (j + 1) * 68 + i - 68=j * 68 + i by omega];exact ih (fun p hp=>h p (by simp [hp])) j (by simpa using hj) i c hc
def OwnP (w:World) (v:Value) (ps:List Pen):Prop:=w.ownsRow 0 57 68 v ps.length (c0S ps)
theorem OwnP.nil (w:World):OwnP w (.slice none 0 0) []:=World.ownsRow_nil w 0 _ _
theorem OwnP.kp {X:List Nat} {w w':World} {v:Value} {ps:List Pen} (h:OwnP w v ps) (hk:Kp X w w') (hv:∀ b,v.ownBlock=some b->b ∉ X):OwnP w' v ps:=by
 obtain ⟨h1,h2⟩:=h;refine ⟨h1,?_⟩;rcases h2 with h2 | ⟨g,cap,cur,rfl,h3,h4,h5⟩
 ·exact .inl h2
 ·exact .inr ⟨g,cap,cur,rfl,h3,hk.row h4 (hv g rfl),h5⟩
theorem OwnP.lt {w:World} {v:Value} {ps:List Pen} (h:OwnP w v ps):∀ b,v.ownBlock=some b->b < w.heap.size:=fun b hb=>(World.ownsRow.lt h b hb).2
theorem OwnP.one {w:World} {v:Value} {ps:List Pen} (h:OwnP w v ps):v.oneCell' = true:=by
 rcases h.2 with ⟨rfl,-⟩ | ⟨g,cap,cur,rfl,-⟩ <;> rfl
theorem OwnP.form {w:World} {v:Value} {ps:List Pen} (h:OwnP w v ps):(v = .slice none 0 0/\ps = []) ∨ ∃ g cap cur,v = .slice (some ⟨g,0,none⟩) ps.length cap/\w.heap[g]? = some (.cells cur 57 (0,0))/\ps.length <= cap/\cap <= maxLen/\cur.size=cap * 68/\cur.toList.take (ps.length * 68)=c0S ps:=by
 rcases h.2 with ⟨e,h0⟩ | ⟨g,cap,cur,e,-,h4⟩
 ·exact .inl ⟨e,List.eq_nil_of_length_eq_zero h0⟩
 ·exact .inr ⟨g,cap,cur,e,h4⟩
theorem OwnP.cell {w:World} {g n cap:Nat} {ps:List Pen} (h:OwnP w (.slice (some ⟨g,0,none⟩) n cap) ps):∀ j u,(c0S ps)[j]? = some u->w.cell? ⟨g,j,none⟩=some u:=by
 intro j u hj;have:=World.ownsRow.cells h (g:=g) rfl j u hj
 rwa [b0f,Nat.zero_add] at this
def regC (g:Reg) (v:Value):List Value:=subC g.asked++(repC g.ans v++([st g.view]++dg g.tag))
def v0g:List Reg->List Value->List Value
 | g :: gs,v :: vs=>regC g v++v0g gs vs
 | _,_=>[]
theorem j0C {α:Type} (l:List α) (c:Nat) (a d:α) (h:c < l.length):(l.set c a).getD c d=a:=by
 rw [List.getD_eq_getElem?_getD,List.getElem?_set_self h];rfl
def preC (R:Rs) (vs:List Value) (c:Nat):List Value:=[nu (R.n:Int)]++v0g (R.regs.take c) (vs.take c)
open Go Go.RowKit
set_option maxRecDepth 100000
abbrev pt (g off:Nat):Value:=.pointer (some ⟨g,off,none⟩)
section
variable {ops:Array Oper}
def unlB (n:Nat) (listed:Array Bool):List Nat:=(List.range n).filter fun i=>!listed.getD i true
theorem j0D {n:Nat} {listed:Array Bool} {i:Nat}:i ∈ unlB n listed ↔ i < n/\listed.getD i true=false:=by simp [unlB]
theorem n0m (l:Array Bool) (i j:Nat) (d:Bool) (hi:i < l.size):(l.setIfInBounds i true).getD j d=if i=j then true else l.getD j d:=by
 by_cases h:i=j
 ·subst h
  simp [Array.getD_eq_getD_getElem?,hi]
 ·simp [Array.getD_eq_getD_getElem?,h]
theorem r0V {n:Nat} {listed:Array Bool} {i:Nat} (hn:listed.size=n) (hi:i ∈ unlB n listed):(unlB n (listed.setIfInBounds i true)).length < (unlB n listed).length:=by
 have hlt:=(j0D.1 hi).1
 have e:unlB n (listed.setIfInBounds i true)=(unlB n listed).filter (fun j=>j != i):=by
  unfold unlB;rw [List.filter_filter];apply List.filter_congr;intro j _;rw [n0m listed i j true (by omega)];by_cases h:i=j
  ·subst h;simp
  ·have h':j ≠ i:=fun e=>h e.symm
   simp [h,h']
 rw [e];have:=List.length_filter_lt_length_iff_exists (p:=fun j=>j != i) (l:=unlB n listed);exact this.2 ⟨i,hi,by simp⟩
theorem k0M {listed:Array Bool} {i:Nat} (h:i ∈ Region.ready .any ops listed):i < ops.size/\listed.getD i true=false/\∀ o,ops[i]? = some o->∀ e ∈ o.after,Region.binds .any e=true->listed.getD e.on false=true:=by
 unfold Region.ready at h;simp only [List.mem_filter,List.mem_range,Bool.and_eq_true,Bool.not_eq_true'] at h;refine ⟨h.1,h.2.1,fun o ho e he hb=>?_⟩;have h3:=h.2.2;rw [ho] at h3;simp only [Option.map_some,Option.getD_some,Array.all_eq_true_iff_forall_mem] at h3;have:=h3 e he;simpa [hb] using this
theorem p0z {listed:Array Bool} {i:Nat} {o:Oper} (ho:ops[i]? = some o) (hu:listed.getD i true=false) (h:∀ e ∈ o.after,Region.binds .any e=true->listed.getD e.on false=true):i ∈ Region.ready .any ops listed:=by
 unfold Region.ready;simp only [List.mem_filter,List.mem_range,Bool.and_eq_true,Bool.not_eq_true'];refine ⟨(Array.getElem?_eq_some_iff.1 ho).1,hu,?_⟩;rw [ho];simp only [Option.map_some,Option.getD_some,Array.all_eq_true_iff_forall_mem];intro e he;by_cases hb:Region.binds .any e=true
 ·simp [h e he hb]
 ·simp [hb]
theorem g0i {l:Array Bool} {i:Nat} (hi:i < l.size) (d:Bool):l.getD i d=l.getD i true:=by simp [hi]
end
def m0f (ops:Array Oper):Bool :=
 (List.range ops.size).all fun i=>match ops[i]? with
  | some o=>o.guard.isNone && o.after.all (fun e=>!Region.binds .any e || decide (e.on < i))
  | none=>false
theorem n0n {ops:Array Oper} (h:m0f ops=true) {i:Nat} {o:Oper} (ho:ops[i]? = some o):o.guard=none/\∀ e ∈ o.after,Region.binds .any e=true->e.on < i:=by
 have hi:i < ops.size:=(Array.getElem?_eq_some_iff.1 ho).1;unfold m0f at h;rw [List.all_eq_true] at h;have h1:=h i (List.mem_range.2 hi);rw [ho] at h1;simp only [Bool.and_eq_true] at h1;obtain ⟨h1,h3⟩:=h1;refine ⟨by simpa using h1,?_⟩;intro e he hb;rw [Array.all_eq_true_iff_forall_mem] at h3;have:=h3 e he;simpa [hb] using this
def up (L:Nat->Bool) (i:Nat):Nat->Bool:=fun j=>if i=j then true else L j
theorem b0s (L:Nat->Bool) (i:Nat):up L i i=true:=by simp [up]
theorem b0p {L:Nat->Bool} {i j:Nat} (h:i ≠ j):up L i j=L j:=by simp [up,h]
section
variable {P:Program} {ops:Array Oper} {Q:Exit->Act->World->Prop} {a0:Act} {w0:World} {I:(Nat->Bool)->Act->World->Prop}
theorem p0A (hok:m0f ops=true) {listed:Array Bool} (hn:listed.size=ops.size) (hr:Region.ready .any ops listed = []):∀ n i,i < n->i < ops.size->listed.getD i true=true
 | 0,i,h,_=>absurd h (Nat.not_lt_zero i)
 | n + 1,i,_,hi=>by
  cases hu:listed.getD i true with
  | true=>rfl
  | false =>
   obtain ⟨o,ho⟩:∃ o,ops[i]? = some o:=⟨ops[i],Array.getElem?_eq_getElem hi⟩;obtain ⟨-,he⟩:=n0n hok ho
   have hm:=p0z ho hu (fun e hm hb=>by
    have hlt:=he e hm hb;have:=p0A hok hn hr n e.on (by omega) (by omega);rw [g0i (by omega) false]
    exact this)
   rw [hr] at hm
   cases hm
theorem p0B (hok:m0f ops=true)
  (hstep:∀ L a w i o,ops[i]? = some o->I L a w->L i=false->(∀ j,(o.after.any fun e=>Region.binds .any e && e.on == j)=true->L j=true)->o.wp P a w (fun a' w'=>I (up L i) a' w') Q)
  (hend:∀ L a w,(∀ i,i < ops.size->L i=true)->I L a w->Q .normal a w) :
  ∀ (fuel:Nat) (listed:Array Bool) (a:Act) (w:World),listed.size=ops.size->(unlB ops.size listed).length <= fuel->I (fun j=>listed.getD j false) a w->wpAny P .any ops Q fuel listed a w:=by
 have fin:∀ (listed:Array Bool) (a:Act) (w:World),listed.size=ops.size->I (fun j=>listed.getD j false) a w->(∀ i,i < ops.size->listed.getD i true=true)->Q .normal a w:=by
  intro listed a w hn hm hall;refine hend _ a w (fun i hi=>?_) hm;show listed.getD i false=true;rw [g0i (by omega) false];exact hall i hi
 intro fuel
 induction fuel with
 | zero =>
  intro listed a w hn hf hm
  have hall:∀ i,i < ops.size->listed.getD i true=true:=by
   intro i hi
   cases hu:listed.getD i true with
   | true=>rfl
   | false =>
    have:i ∈ unlB ops.size listed:=j0D.2 ⟨hi,hu⟩;have h0:unlB ops.size listed = []:=List.length_eq_zero_iff.1 (by omega);rw [h0] at this
    cases this
  refine ⟨?_,fin listed a w hn hm hall⟩
  cases hr:Region.ready .any ops listed with
  | nil=>rfl
  | cons i l =>
   have hi:i ∈ Region.ready .any ops listed:=by rw [hr];simp
   obtain ⟨h1,h2,-⟩:=k0M hi;rw [hall i h1] at h2
   cases h2
 | succ fuel ih =>
  intro listed a w hn hf hm;refine ⟨fun hr=>fin listed a w hn hm (fun i hi=>p0A hok hn hr (i + 1) i (by omega) hi),fun i hi=>?_⟩;obtain ⟨h1,h2,h3⟩:=k0M hi;obtain ⟨o,ho⟩:∃ o,ops[i]? = some o:=⟨ops[i],Array.getElem?_eq_getElem h1⟩;obtain ⟨hg,-⟩:=n0n hok ho;have hw:Region.wanted o (yielded ops a.tmps)=true:=by unfold Region.wanted;rw [hg]
  unfold wpOp;rw [ho];simp only [hw,if_true]
  left
  refine Oper.wp_mono ?_ (hstep _ a w i o ho hm (by show listed.getD i false=false;rw [g0i (by omega) false];exact h2) (fun j hj=>?_))
  ·intro a' w' hI
   refine ih _ _ _ (by simp [hn]) (by have:=r0V hn (j0D.2 ⟨h1,h2⟩);omega) ?_;have e:(fun j=>(listed.setIfInBounds i true).getD j false)=up (fun j=>listed.getD j false) i:=funext fun j=>n0m listed i j false (by omega);rw [e];exact hI
  ·rw [Array.any_eq_true'] at hj
   obtain ⟨e,he,hb⟩:=hj;simp only [Bool.and_eq_true,beq_iff_eq] at hb;rw [← hb.2];exact h3 o ho e he hb.1
theorem d0r {id:Nat} (I:(Nat->Bool)->Act->World->Prop) (hf:P.follows .mixedOrders=true) (hok:m0f ops=true) (h0:∀ w1,Below w0.heap.size w0 w1->I (fun _=>false) a0 w1)
  (hstep:∀ L a w i o,ops[i]? = some o->I L a w->L i=false->(∀ j,(o.after.any fun e=>Region.binds .any e && e.on == j)=true->L j=true)->o.wp P a w (fun a' w'=>I (up L i) a' w') Q)
  (hend:∀ L a w,(∀ i,i < ops.size->L i=true)->I L a w->Q .normal a w) :
  (Code.region id ops true).wp P Q a0 w0:=by
 refine wp_region_any hf ?_;refine p0B (I:=I) hok hstep hend _ _ _ _ (by simp) ?_ ?_
 ·have:=List.length_filter_le (fun i=>!(Array.replicate ops.size false).getD i true) (List.range ops.size)
  simpa [unlB] using this
 ·have e:(fun j=>(Array.replicate ops.size false).getD j false)=fun _=>false:=by
   funext j
   simp [Array.getD_eq_getD_getElem?,Array.getElem?_replicate]
   split <;> simp
  rw [e];exact h0 _ ⟨rfl,rfl,rfl,Nat.le_refl _,fun k hk=>rfl⟩
end
section
variable {P:Program} {o:Oper} {a:Act} {w:World} {Q:Exit->Act->World->Prop} {K:Act->World->Prop}
theorem c0u (ty:TypeId) (x:Operand) (ho:o.op = .load ty x)
  (g off:Nat) (hx:a.eval x = .pointer (some ⟨g,off,none⟩)) (cs:List Value) (d:TypeDesc) (hc:∀ j v,cs[j]? = some v->w.cell? ⟨g,off + j,none⟩=some v)
  (hu:P.underlying ty=some d) (hd:(match d with | .struct _ | .array _ _=>true | _=>false)=true) (hi:(P.info? ty).map (·.size)=some cs.length)
  (h:K (a.put o.dst (.agg cs.toArray)) w):o.wp P a w K Q:=by
 have hl:(loadCells ⟨g,off,none⟩ cs.length).run P w = .ok cs.toArray w :=
  run_loadCells_list (P:=P) w ⟨g,off,none⟩ cs (fun j v hv=>by rw [b0f];exact hc j v hv)
 cases hq:P.info? ty with
 | none=>simp [hq] at hi
 | some i =>
  have hs:i.size=cs.length:=by simpa [hq] using hi
  have hagg:(isAgg ty).run P w = .ok true w:=by
   unfold isAgg;rw [Sem.run_bind,run_underlying hu w]
   cases d <;> simp_all
  unfold Oper.wp execOp;simp [ho,hx,Instr.loadAt,Instr.sureAddr,Sem.run_bind,loadVar,hagg,sizeOf,typeInfo,hq,hs,hl];exact h
theorem a0A (ty:TypeId) (x:Operand) (ho:o.op = .load ty x)
  (g off:Nat) (hx:a.eval x = .pointer (some ⟨g,off,none⟩)) (v:Value) (d:TypeDesc) (hc:w.cell? ⟨g,off,none⟩=some v)
  (hu:P.underlying ty=some d) (hd:(match d with | .struct _ | .array _ _=>false | _=>true)=true)
  (h:K (a.put o.dst v) w):o.wp P a w K Q:=by
 have hagg:(isAgg ty).run P w = .ok false w:=by
  unfold isAgg;rw [Sem.run_bind,run_underlying hu w]
  cases d <;> simp_all
 unfold Oper.wp execOp;simp [ho,hx,Instr.loadAt,Instr.sureAddr,Sem.run_bind,loadVar,hagg,hc];exact h
theorem g0Q (ty:TypeId) (ho:o.op = .alloc ty) (z:Array Value) (hi:(P.info? ty).map (·.zero)=some (some (.agg z)))
  (h:K (a.put o.dst (.pointer (some ⟨w.heap.size,0,none⟩))) (w.alloc (.cells z ty))):o.wp P a w K Q:=by
 cases hq:P.info? ty with
 | none=>simp [hq] at hi
 | some i =>
  have hz:i.zero=some (.agg z):=by simpa [hq] using hi
  unfold Oper.wp execOp;simp [ho,Instr.alloc,zeroValue,typeInfo,hq,hz,newVar,newRow,newObj,Sem.run_bind,Value.cells];exact h
theorem j0E (ty:TypeId) (x y:Operand) (ho:o.op = .store ty x y) (hn:o.dst=none)
  (g:Nat) (hx:a.eval x = .pointer (some ⟨g,0,none⟩)) (cs old:List Value) (hy:a.eval y = .agg cs.toArray) (t:TypeId) (hg:w.heap[g]? = some (.cells old.toArray t))
  (hold:old.length=cs.length) (h1:∀ v ∈ cs,v.oneCell' = true) (hi:(P.info? ty).map (·.size)=some cs.length)
  (h:K a (w.setRow g cs.toArray)):o.wp P a w K Q:=by
 have e:(old.toArray.toList.take 0++cs++old.toArray.toList.drop (0 + cs.length))=cs:=by
  simp [← hold]
 have hst:=run_storeCells_at P g 0 t cs 0 old.toArray w hg (by simp;omega) h1;rw [Nat.add_zero,e] at hst
 cases hq:P.info? ty with
 | none=>simp [hq] at hi
 | some i =>
  have hs:i.size=cs.length:=by simpa [hq] using hi
  unfold Oper.wp execOp;simp [ho,hx,hy,Instr.storeAt,Instr.sureAddr,Sem.run_bind,storeVar,sizeOf,typeInfo,hq,hs,Value.cells];simp [hst];show K (a.put o.dst undef) _;rw [hn];exact h
theorem b0C (t:Tmp) (T:TypeId) (k g off d:Nat) (ho:o.op = .fieldAddr T (.tmp t) k) (hr:∀ w,(Instr.fieldAt T (.pointer (some ⟨g,off,none⟩)) k).run P w = .ok (.pointer (some ⟨g,off + d,none⟩)) w)
  (hx:a.eval (.tmp t) = .pointer (some ⟨g,off,none⟩)) (h:K (a.put o.dst (.pointer (some ⟨g,off + d,none⟩))) w):o.wp P a w K Q:=by
 unfold Oper.wp execOp;simp only [ho,hx,Sem.run_bind,hr,Result.andThen_ok,Sem.run_pure,Oper.upon];exact h
theorem c0l (t:Tmp) (c:Value) (ho:o.op = .assign (.tmp t)) (hx:a.eval (.tmp t)=c) (h:K (a.put o.dst c) w):o.wp P a w K Q:=by
 unfold Oper.wp execOp;simp only [ho,hx,Sem.run_pure,Oper.upon];exact h
end
def a0E (ops:Array Oper) (i:Nat):Option Tmp:=(ops[i]?).bind (·.dst)
def waits (o:Oper) (j:Nat):Bool:=o.after.any fun e=>Region.binds .any e && e.on == j
def okMd (ops:Array Oper) (N:Nat):Bool :=
 m0f ops && (List.range ops.size).all fun i=>match a0E ops i with
  | some d=>decide (d < N) && (List.range ops.size).all (fun j=>j == i || a0E ops j != some d)
  | none=>true
theorem h0q {ops:Array Oper} {i:Nat} {d:Tmp} (h:a0E ops i=some d):i < ops.size:=by
 unfold a0E at h
 cases ho:ops[i]? with
 | none=>rw [ho] at h;cases h
 | some o=>exact (Array.getElem?_eq_some_iff.1 ho).1
theorem g0j {ops:Array Oper} {N:Nat} (h:okMd ops N=true):m0f ops=true/\∀ i d,a0E ops i=some d->d < N/\∀ j,a0E ops j=some d->j=i:=by
 unfold okMd at h;rw [Bool.and_eq_true,List.all_eq_true] at h;refine ⟨h.1,fun i d hd=>?_⟩;have h1:=h.2 i (List.mem_range.2 (h0q hd));rw [hd] at h1;simp only [Bool.and_eq_true,decide_eq_true_eq,List.all_eq_true,List.mem_range] at h1;refine ⟨h1.1,fun j hj=>?_⟩;have:=h1.2 j (h0q hj);simpa [hj] using this
def d0Z (ops:Array Oper) (i:Nat) (t:Tmp):Bool:=(List.range ops.size).all fun j=>match ops[j]? with
 | some oj=>oj.dst != some t || (j == i || waits oj i)
 | none=>true
def m0g (ops:Array Oper) (t:Tmp):Bool:=(List.range ops.size).all fun j=>a0E ops j != some t
structure Md (ops:Array Oper) (N:Nat) (a0:Act) (val:(Nat->Bool)->Nat->Value->World->Prop) (J:(Nat->Bool)->World->Prop) (L:Nat->Bool) (a:Act) (w:World):Prop where
 size:a.tmps.size=N
 defs:a.defers=a0.defers
 kept:∀ t,(∀ i,L i=true->a0E ops i ≠ some t)->a.tmps.getD t undef=a0.tmps.getD t undef
 done:∀ i d,L i=true->a0E ops i=some d->val L i (a.tmps.getD d undef) w
 clos:∀ i o,ops[i]? = some o->L i=true->∀ j,waits o j=true->L j=true
 inv:J L w
def Owe (P:Program) (ops:Array Oper) (Q:Exit->Act->World->Prop) (N:Nat) (a0:Act) (val:(Nat->Bool)->Nat->Value->World->Prop) (J:(Nat->Bool)->World->Prop) (i:Nat) (o:Oper):Prop :=
 ∀ L a w,L i=false->(∀ j,waits o j=true->L j=true)->(∀ j oj,ops[j]? = some oj->waits oj i=true->L j=false)->J L w->a.tmps.size=N ->
  (∀ t,d0Z ops i t=true->a.tmps.getD t undef=a0.tmps.getD t undef)->(∀ j d,L j=true->a0E ops j=some d->val L j (a.tmps.getD d undef) w) ->
  o.wp P a w (fun a' w'=>∃ v,a' = a.put o.dst v/\(o.dst.isSome=true->val (up L i) i v w')/\J (up L i) w'/\∀ j d,L j=true->a0E ops j=some d->val (up L i) j (a.tmps.getD d undef) w') Q
theorem k0N (a:Act) (d t:Nat) (v:Value) (h:d ≠ t):(a.put (some d) v).tmps.getD t undef=a.tmps.getD t undef:=by
 simp [Act.put,Array.getD_eq_getD_getElem?,h]
theorem put_eq (a:Act) (d:Nat) (v:Value) (h:d < a.tmps.size):(a.put (some d) v).tmps.getD d undef=v:=by
 simp [Act.put,h]
theorem r0W (a:Act) (d:Option Nat) (v:Value):(a.put d v).tmps.size=a.tmps.size:=by
 cases d <;> simp [Act.put]
theorem r0X (a:Act) (d:Option Nat) (v:Value):(a.put d v).defers=a.defers:=by cases d <;> rfl
section
variable {P:Program} {ops:Array Oper} {Q:Exit->Act->World->Prop} {N:Nat} {a0:Act} {w0:World} {val:(Nat->Bool)->Nat->Value->World->Prop} {J:(Nat->Bool)->World->Prop} {L:Nat->Bool} {a:Act} {w w':World} {i:Nat} {o:Oper}
theorem Md.not (hm:Md ops N a0 val J L a w) (hLi:L i=false):∀ j oj,ops[j]? = some oj->waits oj i=true->L j=false:=by
 intro j oj hoj hwj
 cases e:L j
 ·rfl
 ·rw [hm.clos j oj hoj e i hwj] at hLi
  cases hLi
theorem Md.keepAt (hm:Md ops N a0 val J L a w) (hLi:L i=false) (t:Tmp) (ht:d0Z ops i t=true):a.tmps.getD t undef=a0.tmps.getD t undef:=by
 refine hm.kept t (fun j hj hdj=>?_);unfold d0Z at ht;rw [List.all_eq_true] at ht;have h1:=ht j (List.mem_range.2 (h0q hdj))
 cases hoj:ops[j]? with
 | none=>unfold a0E at hdj;rw [hoj] at hdj;cases hdj
 | some oj =>
  rw [hoj] at h1;have e:oj.dst=some t:=by unfold a0E at hdj;rw [hoj] at hdj;exact hdj
  simp only [e,bne_self_eq_false,Bool.false_or,Bool.or_eq_true,beq_iff_eq] at h1;rcases h1 with rfl | h1
  ·rw [hj] at hLi;cases hLi
  ·rw [hm.not hLi j oj hoj h1] at hj;cases hj
theorem Md.step (hok:okMd ops N=true) (hm:Md ops N a0 val J L a w) (ho:ops[i]? = some o) (hw:∀ j,waits o j=true->L j=true) {v:Value} (hv:o.dst.isSome=true->val (up L i) i v w') (hJ:J (up L i) w') (hmono:∀ j d,L j=true->a0E ops j=some d->val (up L i) j (a.tmps.getD d undef) w') :
  Md ops N a0 val J (up L i) (a.put o.dst v) w':=by
 obtain ⟨-,hd⟩:=g0j hok;have hdi:a0E ops i=o.dst:=by unfold a0E;rw [ho];rfl
 refine ⟨(r0W _ _ _).trans hm.size,(r0X _ _ _).trans hm.defs,fun t ht=>?_,fun j d hj hdj=>?_,fun j oj hoj hj x hx=>?_,hJ⟩
 ·have h1:=ht i (b0s L i)
  rw [hdi] at h1;have h2:=hm.kept t (fun j hj=>ht j (by unfold up;split <;> first | rfl | exact hj));rw [← h2]
  cases e:o.dst with
  | none=>rfl
  | some d=>exact k0N _ _ _ _ (fun e2=>h1 (by rw [e,e2]))
 ·by_cases hij:i=j
  ·subst hij
   rw [hdi] at hdj;rw [hdj];rw [put_eq _ _ _ (by rw [hm.size];exact (hd i d (hdi.trans hdj)).1)];exact hv (by rw [hdj];rfl)
  ·rw [b0p hij] at hj
   have hne:o.dst ≠ some d:=fun e=>hij ((hd j d hdj).2 i (hdi.trans e))
   have e2:(a.put o.dst v).tmps.getD d undef=a.tmps.getD d undef:=by
    cases e:o.dst with
    | none=>rfl
    | some d'=>exact k0N _ _ _ _ (fun e2=>hne (by rw [e,e2]))
   rw [e2];exact hmono j d hj hdj
 ·by_cases hij:i=j
  ·subst hij
   rw [ho] at hoj
   cases hoj
   unfold up
   split
   ·rfl
   ·exact hw x hx
  ·rw [b0p hij] at hj
   unfold up
   split
   ·rfl
   ·exact hm.clos j oj hoj hj x hx
theorem e0G {id:Nat} (val:(Nat->Bool)->Nat->Value->World->Prop) (J:(Nat->Bool)->World->Prop) (hf:P.follows .mixedOrders=true) (hok:okMd ops N=true) (hN:a0.tmps.size=N) (h0:∀ w1,Below w0.heap.size w0 w1->J (fun _=>false) w1)
  (hown:∀ i o,ops[i]? = some o->Owe P ops Q N a0 val J i o)
  (hend:∀ L a w,(∀ i,i < ops.size->L i=true)->J L w->a.tmps.size=N->a.defers=a0.defers->(∀ t,m0g ops t=true->a.tmps.getD t undef=a0.tmps.getD t undef)->(∀ i d,a0E ops i=some d->val L i (a.tmps.getD d undef) w)->Q .normal a w) :
  (Code.region id ops true).wp P Q a0 w0:=by
 refine d0r (Md ops N a0 val J) hf (g0j hok).1 (fun w1 hw1=>⟨hN,rfl,fun _ _=>rfl,by simp,by simp,h0 w1 hw1⟩) ?_ ?_
 ·intro L a w i o ho hm hLi hw
  refine Oper.wp_mono ?_ (hown i o ho L a w hLi hw (hm.not hLi) hm.inv hm.size (hm.keepAt hLi) hm.done);rintro a' w' ⟨v,rfl,hv,hJ,hmono⟩;exact hm.step hok ho hw hv hJ hmono
 ·intro L a w hall hm
  refine hend L a w hall hm.inv hm.size hm.defs (fun t ht=>hm.kept t (fun i _ e=>?_)) (fun i d hdi=>hm.done i d (hall i (h0q hdi)) hdi);unfold m0g at ht;rw [List.all_eq_true] at ht;have:=ht i (List.mem_range.2 (h0q e));simp [e] at this
def n0o (ops:Array Oper) (n:Nat):Bool:=decide (n + 1=ops.size) && (List.range n).all fun i=>match ops[n]? with
 | some o=>waits o i || (List.range n).any (fun j=>waits o j && (match ops[j]? with | some oj=>waits oj i | none=>false))
 | none=>false
def OweG (P:Program) (ops:Array Oper) (Q:Exit->Act->World->Prop) (a0:Act) (w0:World) (val:Nat->Value->World->Prop) (i:Nat) (o:Oper):Prop :=
 ∀ a w,Below w0.heap.size w0 w->(∀ t,d0Z ops i t=true->a.tmps.getD t undef=a0.tmps.getD t undef)->(∀ j d,waits o j=true->a0E ops j=some d->val j (a.tmps.getD d undef) w) ->
  o.wp P a w (fun a' w'=>∃ v,a' = a.put o.dst v/\val i v w'/\Below w.heap.size w w') Q
theorem i0k {id:Nat} (n:Nat) (val:Nat->Value->World->Prop) (hf:P.follows .mixedOrders=true) (hok:okMd ops N=true) (hlast:n0o ops n=true) (hN:a0.tmps.size=N)
  (hmono:∀ i v w w',val i v w->Below w.heap.size w w'->val i v w')
  (hown:∀ i o,i < n->ops[i]? = some o->OweG P ops Q a0 w0 val i o)
  (hlo:∀ o a w,ops[n]? = some o->Below w0.heap.size w0 w->a.tmps.size=N->a.defers=a0.defers->(∀ t,d0Z ops n t=true->a.tmps.getD t undef=a0.tmps.getD t undef)->(∀ i d,i < n->a0E ops i=some d->val i (a.tmps.getD d undef) w)->o.wp P a w (Q .normal) Q) :
  (Code.region id ops true).wp P Q a0 w0:=by
 have hsz:n + 1=ops.size/\∀ i,i < n->∀ o,ops[n]? = some o->waits o i=true ∨ ∃ j oj,waits o j=true/\ops[j]? = some oj/\waits oj i=true:=by
  unfold n0o at hlast;rw [Bool.and_eq_true,decide_eq_true_eq,List.all_eq_true] at hlast;refine ⟨hlast.1,fun i hi o ho=>?_⟩;have h1:=hlast.2 i (List.mem_range.2 hi);rw [ho] at h1;simp only [Bool.or_eq_true,List.any_eq_true,List.mem_range,Bool.and_eq_true] at h1;rcases h1 with h1 | ⟨j,-,h1,h2⟩
  ·exact Or.inl h1
  ·cases hoj:ops[j]? with
   | none=>rw [hoj] at h2;cases h2
   | some oj=>rw [hoj] at h2;exact Or.inr ⟨j,oj,h1,hoj,h2⟩
 refine d0r (fun L a w=>(L n=true->Q .normal a w/\∀ i,i < ops.size->L i=true)/\(L n=false->Md ops N a0 (fun _=>val) (fun _ w=>Below w0.heap.size w0 w) L a w)) hf (g0j hok).1 (fun w1 hw1=>⟨fun h=>Bool.noConfusion h,fun _=>⟨hN,rfl,fun _ _=>rfl,by simp,by simp,hw1⟩⟩) ?_ ?_
 ·intro L a w i o ho hI hLi hw
  have hi:i < ops.size:=(Array.getElem?_eq_some_iff.1 ho).1
  cases hLn:L n with
  | true =>
   rw [(hI.1 hLn).2 i hi] at hLi
   cases hLi
  | false =>
   have hm:=hI.2 hLn;by_cases hin:i=n
   ·subst hin
    have hall:∀ j,j < i->L j=true:=by
     intro j hj;rcases hsz.2 j hj o ho with h1 | ⟨k,ok,h1,h2,h3⟩
     ·exact hw j h1
     ·exact hm.clos k ok h2 (hw k h1) j h3
    refine Oper.wp_mono ?_ (hlo o a w ho hm.inv hm.size hm.defs (hm.keepAt hLi) (fun j d hj hd=>hm.done j d (hall j hj) hd));intro a' w' hQ;refine ⟨fun _=>⟨hQ,fun j hj=>?_⟩,fun h=>?_⟩
    ·unfold up
     split
     ·rfl
     ·exact hall j (by omega)
    ·rw [b0s] at h
     cases h
   ·have hil:i < n:=by omega
    refine Oper.wp_mono ?_ (hown i o hil ho a w hm.inv (hm.keepAt hLi) (fun j d hj hd=>hm.done j d (hw j hj) hd));rintro a' w' ⟨v,rfl,hv,hB⟩;refine ⟨fun h=>?_,fun _=>hm.step hok ho hw (fun _=>hv) (hm.inv.trans (hB.mono hm.inv.size)) (fun j d hj hd=>hmono j _ _ _ (hm.done j d hj hd) hB)⟩;rw [b0p hin,hLn] at h
    cases h
 ·intro L a w hall hI
  exact (hI.1 (hall n (by omega))).1
end
section
variable {P:Program} {o:Oper} {a:Act} {w:World} {Q:Exit->Act->World->Prop} {K:Act->World->Prop}
theorem a0q (t:Tmp) (c:Value) (ho:o.op = .move (.tmp t)) (hx:a.tmps.getD t undef=c) (h:K (a.put o.dst c) w):o.wp P a w K Q:=by
 have hx':a.eval (.tmp t)=c:=hx;unfold Oper.wp execOp;simp only [ho,hx',Sem.run_pure,Oper.upon];exact h
theorem c0m (t:Tmp) (g off:Nat) (ho:o.op = .nilCheck (.tmp t)) (hx:a.tmps.getD t undef=pt g off) (h:K (a.put o.dst (pt g off)) w):o.wp P a w K Q:=by
 have hx':a.eval (.tmp t)=pt g off:=hx;unfold Oper.wp execOp;simp only [ho,hx',Sem.run_pure,Oper.upon];exact h
theorem b0a (t:Tmp) (k:Nat) (vs:Array Value) (c:Value) (ho:o.op = .extract (.tmp t) k) (hx:a.tmps.getD t undef = .tuple vs) (hc:vs[k]? = some c) (h:K (a.put o.dst c) w):o.wp P a w K Q:=by
 have hx':a.eval (.tmp t) = .tuple vs:=hx;unfold Oper.wp execOp;simp [ho,hx',Instr.extract,hc];exact h
end
theorem j0F {ops:Array Oper} {A:Array Value} {c:Nat->Value} (hv:∀ i d,a0E ops i=some d->A.getD d undef=c i):∀ (l:List Nat) (B:Array Value),B.size=A.size->(∀ t,t < A.size->(∀ i ∈ l,a0E ops i ≠ some t)->B.getD t undef=A.getD t undef) ->
  l.foldl (fun B i=>match a0E ops i with | some d=>B.setIfInBounds d (c i) | none=>B) B=A
 | [],B,hs,hB=>by
  apply Array.ext hs;intro i h1 h2;have:=hB i h2 (by simp);simpa [h1,h2] using this
 | i :: l,B,hs,hB=>by
  rw [List.foldl_cons]
  cases e:a0E ops i with
  | none =>
   refine j0F hv l B hs (fun t ht hl=>hB t ht (fun j hj=>?_));rcases List.mem_cons.1 hj with rfl | hj
   ·rw [e];simp
   ·exact hl j hj
  | some d =>
   refine j0F hv l (B.setIfInBounds d (c i)) (by simpa using hs) (fun t ht hl=>?_);by_cases hd:d=t
   ·subst hd
    rw [hv i d e];have:d < B.size:=by rw [hs];exact ht
    simp [this]
   ·have h1:=hB t ht (fun j hj=>by
     rcases List.mem_cons.1 hj with rfl | hj
     ·rw [e];simpa using hd
     ·exact hl j hj)
    rw [← h1];simp [Array.getD_eq_getD_getElem?,hd]
theorem g0R {ops:Array Oper} {a a0:Act} {c:Nat->Value} (hs:a.tmps.size=a0.tmps.size) (hk:∀ t,m0g ops t=true->a.tmps.getD t undef=a0.tmps.getD t undef) (hv:∀ i d,a0E ops i=some d->a.tmps.getD d undef=c i) :
  a.tmps=(List.range ops.size).foldl (fun B i=>match a0E ops i with | some d=>B.setIfInBounds d (c i) | none=>B) a0.tmps:=by
 refine (j0F hv _ _ hs.symm (fun t _ hl=>(hk t ?_).symm)).symm;unfold m0g;rw [List.all_eq_true];intro j hj;have:=hl j hj;simpa using this
def vS (S:List Nat) (vs:(Nat->Bool)->Nat->Value->World->Prop) (cs:List Value) (L:Nat->Bool) (i:Nat) (v:Value) (w:World):Prop:=if i ∈ S then vs L i v w else v=cs.getD i undef
section
variable {P:Program} {ops:Array Oper} {Q:Exit->Act->World->Prop} {N:Nat} {a0:Act} {w0:World} {S:List Nat} {vs:(Nat->Bool)->Nat->Value->World->Prop} {cs:List Value}
theorem vS_c {L:Nat->Bool} {i:Nat} {v:Value} {w:World} (h:vS S vs cs L i v w) (hi:i ∉ S):v=cs.getD i undef:=by
 unfold vS at h
 rwa [if_neg hi] at h
theorem vS_s {L:Nat->Bool} {i:Nat} {v:Value} {w:World} (h:vS S vs cs L i v w) (hi:i ∈ S):vs L i v w:=by
 unfold vS at h
 rwa [if_pos hi] at h
def Cst (ops:Array Oper) (S:List Nat) (cs:List Value) (a:Act) (o:Oper):Prop:=∀ j d,waits o j=true->j ∉ S->a0E ops j=some d->a.tmps.getD d undef=cs.getD j undef
def Kpt (ops:Array Oper) (a0 a:Act) (i:Nat):Prop:=∀ t,d0Z ops i t=true->a.tmps.getD t undef=a0.tmps.getD t undef
end
def Pc (w:World) (size:Nat) (x:Value) (m:Nat) (news:List Value):Prop:=news.length=m * size/\∃ a c,x = .slice a m c/\(m ≠ 0->∃ ad,a=some ad/\∀ j u,news[j]? = some u->w.cell? (ad.add j)=some u)
section
variable {P:Program} {w:World} {o:Oper} {a:Act} {Q:Exit->Act->World->Prop} {K:Act->World->Prop}
theorem e0n (base:Nat) (t ty e:TypeId) (z:Value) (size bytes:Nat) (ht:P.underlying t=some (.slice e)) (hinfo:(P.info? e).map (fun i=>(i.zero,i.size,i.bytes))=some (some z,size,bytes)) (hzs:z.cells.size=size) (hsz:0 < size)
  (v x:Value) (n m:Nat) (xs news:List Value) (hown:w.ownsRow base e size v n xs) (hp:Pc w size x m news) (h1:∀ u ∈ news,u.oneCell' = true) (hnm:n + m <= 1000000) (hby:bytes <= 1000) (hbase:base <= w.heap.size) :
  ∃ v' w',(Builtin.append_ #[t,t] ty #[v,x]).run P w = .ok v' w'/\w'.ownsRow base e size v' (n + m) (xs++news)/\w.grownBy w' v.ownBlock/\(v'.ownBlock=v.ownBlock ∨ v'.ownBlock=some w.heap.size):=by
 obtain ⟨i,hi,hz0,hz1,hz2⟩:=info_parts hinfo;obtain ⟨hl,ax,c,rfl,hc⟩:=hp
 have hb:(n + m) * bytes <= 140737488355328:=by
  have:=Nat.mul_le_mul hnm hby
  omega
 cases ax with
 | some ad =>
  have hnews:∀ j u,news[j]? = some u->w.cell? (ad.add j)=some u:=by
   intro j u hj;by_cases hm:m=0
   ·subst hm
    have:news = []:=List.eq_nil_of_length_eq_zero (by simpa using hl);rw [this] at hj;simp at hj
   ·obtain ⟨ad',e1,h2⟩:=hc hm
    cases e1
    exact h2 j u hj
  obtain ⟨v',w',g1,g2,g3,-,g5⟩:=run_append_own_at (P:=P) w base t ty e i z size bytes ht hi hz0 hz1 hz2 hzs hsz v n xs hown ad m c news hl hnews h1 (by unfold maxLen;omega) hb hbase;exact ⟨v',w',g1,g2,g3,g5⟩
 | none =>
  have hm:m=0:=by
   by_cases hm:m=0
   ·exact hm
   ·obtain ⟨ad',e1,-⟩:=hc hm
    cases e1
  subst hm;have hn:news = []:=List.eq_nil_of_length_eq_zero (by simpa using hl);subst hn;refine ⟨v,w,?_,by simpa using hown,⟨rfl,rfl,rfl,Nat.le_refl _,fun _ _ _=>rfl⟩,Or.inl rfl⟩;rcases hown.2 with ⟨rfl,rfl⟩ | ⟨g,cap,cur,rfl,-,-,hnc,-⟩
  ·simp [Builtin.append_,run_underlying ht,sizeOf,typeInfo,hi,Builtin.lenOf,Builtin.firstCells]
  ·simp [Builtin.append_,run_underlying ht,sizeOf,typeInfo,hi,Builtin.lenOf,Builtin.firstCells,hnc,storeCells]
theorem v0h (t e:TypeId) (ho:o.op = .buildSlice t 0 #[]) (ht:P.underlying t=some (.slice e)) (size:Nat) (hi:(P.info? e).map (·.size)=some size)
  (h:K (a.put o.dst (.slice (some ⟨w.heap.size,0,none⟩) 0 0)) (w.alloc (.cells #[] e))):o.wp P a w K Q:=by
 cases hq:P.info? e with
 | none=>simp [hq] at hi
 | some i =>
  have e0:Array.map (fun _=>(default:Value)) (Array.range 0)=#[]:=by simp
  have hr:(Instr.buildSlice t 0 #[]).run P w = .ok (.slice (some ⟨w.heap.size,0,none⟩) 0 0) (w.alloc (.cells #[] e)):=by
   simp [Instr.buildSlice,run_underlying ht,sizeOf,typeInfo,hq,Instr.fill,newRow];rw [e0]
  unfold Oper.wp execOp;simp only [ho,List.map_toArray,List.map_nil,Sem.run_bind,hr,Result.andThen_ok,Sem.run_pure];exact h
theorem v0i (t e:TypeId) (y:Tmp) (ho:o.op = .buildSlice t 1 #[(0,.tmp y)]) (ht:P.underlying t=some (.slice e)) (z:Value) (size bytes:Nat) (hinfo:(P.info? e).map (fun i=>(i.zero,i.size,i.bytes))=some (some z,size,bytes)) (hsz:0 < size) (hsm:size <= 1000)
  (v:Value) (hy:a.tmps.getD y undef=v) (cs:Array Value) (hcs:v.cells=cs) (hs:cs.size=size)
  (h:K (a.put o.dst (.slice (some ⟨w.heap.size,0,none⟩) 1 1)) (w.alloc (.cells cs e))):o.wp P a w K Q:=by
 obtain ⟨i,hi,hz0,hz1,hz2⟩:=info_parts hinfo;have hfill:=Great.fill_whole (s:=size) hsz [v] ((Array.range (1 * size)).map (z.cells[· % z.cells.size]!)) (by simp [hcs,hs]) (by simp);have e1:([v].flatMap fun v=>v.cells.toList).toArray=cs:=by simp [hcs]
 rw [e1] at hfill;have ey:a.eval (.tmp y)=v:=hy;refine wp_buildSlice t e 1 _ ho cs i z ht hi hz0 (by rw [hz1];omega) (by rw [hz1];omega) (by rw [hz1];simpa [ey] using hfill) h
end
section
variable {P:Program} {o:Oper} {a:Act} {w:World} {Q:Exit->Act->World->Prop} {K:Act->World->Prop}
theorem c0J (f:FuncId) (xs:List Operand) (ts:Array TypeId) (vs:Array Value) (v:Value) (ho:o.op = .call { callee:=.value (.func f),args:=xs.toArray,argTypes:=ts }) (hc:∀ args w,(callFunc f args).run P w = .ok (.enter f args) w) (hx:(xs.map a.eval).toArray=vs)
  {J:World->Prop} (hm:Calls P f vs w fun e w'=>e = .returned v/\J w') (h:∀ w',J w'->K (a.put o.dst v) w'):o.wp P a w K Q:=by
 unfold Oper.wp execOp
 have e:(do let d ← resolve a.eval { callee:=.value (.func f),args:=xs.toArray,argTypes:=ts } o.type;invoke d.target d.args:Sem Next).run P w = .ok (.enter f vs) w:=by
  have e0:a.eval (.func f) = .func (.func f) #[] #[]:=rfl;simp [resolve,Deferred.ofValue,invoke,hc,e0,hx]
 simp only [ho];rw [e];simp only [Oper.upon];refine hm.mono ?_;rintro e w' ⟨rfl,hJ⟩;exact h w' hJ
end
theorem cells_one {v:Value} (h:v.oneCell' = true):v.cells=#[v]:=by
 cases v <;> first | rfl | (exact absurd h (by simp [Value.oneCell']))
theorem i0I {P:Program} {w:World} {g off:Nat} {A C:List Value} {old v:Value} {t ty:TypeId} (hg:w.heap[g]? = some (.cells (A++([old]++C)).toArray t)) (hA:A.length=off) (h1:v.oneCell' = true) (hi:(P.info? ty).map (·.size)=some 1) :
  (storeVar ty ⟨g,off,none⟩ v).run P w = .ok () (w.setRow g (A++([v]++C)).toArray):=by
 have e:((A++([old]++C)).toArray.toList.take off++[v]++(A++([old]++C)).toArray.toList.drop (off + [v].length))=A++([v]++C):=by
  subst hA;simp
 have hst:=run_storeCells_at P g off t [v] 0 (A++([old]++C)).toArray w hg (by subst hA;simp) (by simpa using h1);rw [Nat.add_zero,e] at hst
 cases hq:P.info? ty with
 | none=>simp [hq] at hi
 | some i =>
  have hs:i.size=1:=by simpa [hq] using hi
  simp [storeVar,sizeOf,typeInfo,hq,hs,cells_one h1];simpa using hst
section
variable {P:Program} {ops:Array Oper} {rest:List Oper} {o:Oper} {a:Act} {w:World} {Q:Exit->Act->World->Prop} {K:Act->World->Prop}
theorem c0v (ty:TypeId) (x y:Operand) (ho:o.op = .store ty x y) (hn:o.dst=none) (g off:Nat) (hx:a.eval x = .pointer (some ⟨g,off,none⟩)) (hw:Region.wanted o (yielded ops a.tmps)=true)
  (A C:List Value) (old v:Value) (hy:a.eval y=v) (t:TypeId) (hg:w.heap[g]? = some (.cells (A++([old]++C)).toArray t)) (hA:A.length=off) (h1:v.oneCell' = true) (hi:(P.info? ty).map (·.size)=some 1)
  (h:∀ w1,w1.heap[g]? = some (.cells (A++([v]++C)).toArray t)->But g w w1->wpList P ops Q rest a w1):wpList P ops Q (o :: rest) a w:=by
 refine BigFrame.wpList_want hw fun K hK=>?_;have h':=hK _ _ (h _ (setRow_heap w g _ (A++([v]++C)).toArray t (0,0) hg) (d0u w g _));unfold Oper.wp execOp;simp only [ho,hx,hy,Instr.storeAt,Instr.sureAddr,Sem.run_bind,Sem.run_pure,Result.andThen_ok,i0I hg hA h1 hi];show K (a.put o.dst undef) _;rw [hn];exact h'
theorem f0x (ty:TypeId) (x y:Tmp) (ho:o.op = .store ty (.tmp x) (.tmp y)) (hn:o.dst=none) (g off:Nat) (hx:a.tmps.getD x undef=pt g off)
  (A C:List Value) (old v:Value) (hy:a.tmps.getD y undef=v) (t:TypeId) (hg:w.heap[g]? = some (.cells (A++([old]++C)).toArray t)) (hA:A.length=off) (h1:v.oneCell' = true) (hi:(P.info? ty).map (·.size)=some 1)
  (h:∀ w1,w1.heap[g]? = some (.cells (A++([v]++C)).toArray t)->But g w w1->K a w1):o.wp P a w K Q:=by
 have ex:a.eval (.tmp x)=pt g off:=hx;have ey:a.eval (.tmp y)=v:=hy;have h':=h _ (setRow_heap w g _ (A++([v]++C)).toArray t (0,0) hg) (d0u w g _);unfold Oper.wp execOp;simp only [ho,ex,ey,Instr.storeAt,Instr.sureAddr,Sem.run_bind,Sem.run_pure,Result.andThen_ok,i0I hg hA h1 hi];show K (a.put o.dst undef) _;rw [hn];exact h'
theorem p0C (ty:TypeId) (x y:Tmp) (ho:o.op = .store ty (.tmp x) (.tmp y)) (hn:o.dst=none) (g off:Nat) (hx:a.tmps.getD x undef=pt g off)
  (A cs old C:List Value) (hy:a.tmps.getD y undef = .agg cs.toArray) (t:TypeId) (hg:w.heap[g]? = some (.cells (A++(old++C)).toArray t)) (hA:A.length=off) (hold:old.length=cs.length) (h1:∀ v ∈ cs,v.oneCell' = true) (hi:(P.info? ty).map (·.size)=some cs.length)
  (h:∀ w1,w1.heap[g]? = some (.cells (A++(cs++C)).toArray t)->But g w w1->K a w1):o.wp P a w K Q:=by
 have ex:a.eval (.tmp x)=pt g off:=hx;have ey:a.eval (.tmp y) = .agg cs.toArray:=hy
 have e:((A++(old++C)).toArray.toList.take off++cs++(A++(old++C)).toArray.toList.drop (off + cs.length))=A++(cs++C):=by
  subst hA;simp [← hold,List.append_assoc]
 have h':=h _ (setRow_heap w g _ (A++(cs++C)).toArray t (0,0) hg) (d0u w g _);have hst:=run_storeCells_at P g off t cs 0 (A++(old++C)).toArray w hg (by subst hA;simp;omega) h1;rw [Nat.add_zero,e] at hst
 cases hq:P.info? ty with
 | none=>simp [hq] at hi
 | some i =>
  have hs:i.size=cs.length:=by simpa [hq] using hi
  unfold Oper.wp execOp;simp [ho,ex,ey,Instr.storeAt,Instr.sureAddr,Sem.run_bind,storeVar,sizeOf,typeInfo,hq,hs,Value.cells];simp [hst];show K (a.put o.dst undef) _;rw [hn];exact h'
theorem r0Y (ty:TypeId) (xs:Array (Nat × Operand)) (ho:o.op = .build ty xs) (z:Value) (hr:(Instr.build ty (xs.map fun x=>(x.1,a.eval x.2))).run P w = .ok z w) (h:K (a.put o.dst z) w):o.wp P a w K Q:=by
 unfold Oper.wp execOp;simp only [ho,Sem.run_bind,hr,Result.andThen_ok,Sem.run_pure];exact h
theorem d0C (x y:Tmp) (t e:TypeId) (ho:o.op = .indexAddr t (.tmp x) (.tmp y)) (ht:P.underlying t=some (.slice e)) (size:Nat) (hi:(P.info? e).map (·.size)=some size) (g off len cap k:Nat) (hk:k < len)
  (hx:a.tmps.getD x undef = .slice (some ⟨g,off,none⟩) len cap) (hy:a.tmps.getD y undef=nu k) (h:K (a.put o.dst (pt g (off + k * size))) w):o.wp P a w K Q:=by
 have ex:a.eval (.tmp x) = .slice (some ⟨g,off,none⟩) len cap:=hx;have ey:a.eval (.tmp y)=nu k:=hy
 cases hq:P.info? e with
 | none=>simp [hq] at hi
 | some i =>
  have hs:i.size=size:=by simpa [hq] using hi
  unfold Oper.wp execOp;simp [ho,ex,ey,Instr.indexAt,asIntOf,run_underlying ht,sizeOf,typeInfo,hq,hs,hk,b0f];exact h
end
end Go.Proofs.YtagmnmoaekbffaaGreatDoor.Ms
