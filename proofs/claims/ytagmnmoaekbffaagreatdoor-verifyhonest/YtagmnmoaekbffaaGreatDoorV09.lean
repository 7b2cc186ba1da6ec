/- V09 -/
import Derived.Test.YtagmnmoaekbffaaGreatDoorV07
import Derived.Test.YtagmnmoaekbffaaGreatDoorTvan
import Derived.Test.YtagmnmoaekbffaaGreatDoorU09
import Derived.Test.YtagmnmoaekbffaaGreatDoorV05
import Derived.Test.YtagmnmoaekbffaaGreatDoorU01
import Derived.Test.YtagmnmoaekbffaaGreatDoorTvbg
import Derived.Test.YtagmnmoaekbffaaGreatDoorS23
namespace Go.Proofs.YtagmnmoaekbffaaGreatDoor.Ms
open Go.Proofs.Tryz
open Go Go.ChangeShapes Go.WideShapes Go.ChangeAt Go.WideMaps Go.WideElems Go.RowKit
set_option maxRecDepth 100000
def r0L (w:World) (x:Option Addr) (acs:List Ac):Prop:=∀ j,j < acs.length->∃ b off,x=some ⟨b,off,none⟩/\(acs.getD j noAc).Ok/\∀ c y,(acC (acs.getD j noAc))[c]? = some y->w.cell? ⟨b,off + j * 4 + c,none⟩=some y
theorem r0L.kept {w w':World} {x:Option Addr} {acs:List Ac} (h:r0L w x acs) (hb:Below w.heap.size w w'):r0L w' x acs:=by
 intro j hj;obtain ⟨b,off,rfl,h1,h2⟩:=h j hj;exact ⟨b,off,rfl,h1,fun c y hy=>(hb.cell (p:=⟨b,off + j * 4 + c,none⟩) (World.block_lt_of_cell? w _ (h2 c y hy))).trans (h2 c y hy)⟩
theorem cells_ac14:prog.cellsOf 27=4:=by kernel_rfl
theorem t0Q {H:Type} {enc:TypeId × Value->H} {W:World} {cs:List Value} {x:DataW H × List MemPlace} {held:Bool} {fuel:Nat} (h:DataW.trod enc prog W 0 (fun _=>true) held fuel 27 cs=some x):∃ y:Ac,cs=acC y/\y.Ok:=by
 obtain ⟨xs,n,_,_,hl,hlen,hfs⟩:=DataW.trod_struct underlying27 h;rw [cells_ac14] at hl;have hxl:xs.length=4:=hlen;have g0:DataW.trod enc prog W 0 (fun _=>true) held n 3 ((cs.drop 0).take (prog.cellsOf 3))=xs[0]?:=hfs 0 _ rfl;rw [cells_int] at g0;obtain ⟨y0,hy0⟩:=k0h 0 hxl (by decide);rw [hy0] at g0;obtain ⟨a0,e0,b0⟩:=u0T g0;have g1:DataW.trod enc prog W 0 (fun _=>true) held n 3 ((cs.drop 1).take (prog.cellsOf 3))=xs[1]?:=hfs 1 _ rfl;rw [cells_int] at g1;obtain ⟨y1,hy1⟩:=k0h 1 hxl (by decide);rw [hy1] at g1;obtain ⟨a1,e1,b1⟩:=u0T g1;have g2:DataW.trod enc prog W 0 (fun _=>true) held n 3 ((cs.drop 2).take (prog.cellsOf 3))=xs[2]?:=hfs 2 _ rfl;rw [cells_int] at g2;obtain ⟨y2,hy2⟩:=k0h 2 hxl (by decide);rw [hy2] at g2;obtain ⟨a2,e2,b2⟩:=u0T g2;have g3:DataW.trod enc prog W 0 (fun _=>true) held n 9 ((cs.drop 3).take (prog.cellsOf 9))=xs[3]?:=hfs 3 _ rfl;rw [cells_str] at g3;obtain ⟨y3,hy3⟩:=k0h 3 hxl (by decide);rw [hy3] at g3;obtain ⟨a3,e3⟩:=x0x g3;have hcs:cs = [nu a0]++([nu a1]++([nu a2]++([st a3]++[]))):=(stp cs 0 1 1 rfl).trans (congr (congrArg HAppend.hAppend e0) ((stp cs 1 1 2 rfl).trans (congr (congrArg HAppend.hAppend e1) ((stp cs 2 1 3 rfl).trans (congr (congrArg HAppend.hAppend e2) ((stp cs 3 1 4 rfl).trans (congr (congrArg HAppend.hAppend e3) (List.drop_eq_nil_of_le (by omega)))))))));exact ⟨⟨a0,a1,a2,a3⟩,hcs,b0,b1,b2⟩
theorem l0M {W:World} (b off:Nat):∀ (n:Nat),(∀ j,j < n->∃ y:Ac,y.Ok/\∀ c u,(acC y)[c]? = some u->W.cell? ⟨b,off + j * 4 + c,none⟩=some u)->∃ acs:List Ac,acs.length=n/\∀ j,j < n->(acs.getD j noAc).Ok/\∀ c u,(acC (acs.getD j noAc))[c]? = some u->W.cell? ⟨b,off + j * 4 + c,none⟩=some u
 | 0,_=>⟨[],rfl,fun j hj=>absurd hj (Nat.not_lt_zero j)⟩
 | n + 1,h=>by
  obtain ⟨acs,hl,ha⟩:=l0M b off n (fun j hj=>h j (by omega));obtain ⟨y,h1,h2⟩:=h n (by omega);refine ⟨acs++[y],by simp [hl],fun j hj=>?_⟩;by_cases e:j=n
  ·subst e
   have:(acs++[y]).getD j noAc=y:=by simp [List.getD,← hl]
   rw [this];exact ⟨h1,h2⟩
  ·have hlt:j < acs.length:=by omega
   have:(acs++[y]).getD j noAc=acs.getD j noAc:=by simp [List.getD,List.getElem?_append_left hlt]
   rw [this];exact ha j (by omega)
theorem p0j {H:Type} {enc:TypeId × Value->H} {W:World} {base:Nat} {v:Value} {d:DataW H} {p:List MemPlace} (hv:Value.okWide prog W .any base 22 v)
  (h:DataW.Trod enc prog W 0 (fun _=>true) true 22 v d p):∃ a acs cap,v = .slice a acs.length cap/\r0L W a acs:=by
 obtain ⟨a,len,cap,rfl⟩:=okWide_slice underlying22 hv;obtain ⟨fuel,hf⟩:=h;rcases Go.Deep.open_slice underlying22 hf with ⟨hcs,hx⟩ | ⟨a',len',cap',m,n,Df,Pf,hcs,hb,hl,hm,hmm,hx,hat⟩
 ·simp [Value.cells] at hcs
  obtain ⟨rfl,rfl,rfl⟩:=hcs;exact ⟨none,[],0,rfl,fun j hj=>absurd hj (Nat.not_lt_zero j)⟩
 ·simp [Value.cells] at hcs
  obtain ⟨rfl,rfl,rfl⟩:=hcs;simp only [if_true] at hmm;subst hmm;obtain ⟨b,off,spot⟩:=a';by_cases hz:len=0
  ·subst hz
   exact ⟨_,[],_,rfl,fun j hj=>absurd hj (Nat.not_lt_zero j)⟩
  have hspot:spot=none:=by
   obtain ⟨cs0,hcs0,ht0⟩:=hat 0 (by omega);rw [cells_ac14] at hcs0;obtain ⟨y0,rfl,-⟩:=t0Q ht0;have h0:=(World.cells?_some hcs0).2.2 0 (by omega);have h1:(acC y0)[0]? = some (nu y0.kind):=rfl;rw [h1] at h0;simpa [Addr.add] using World.cell?_spot h0
  subst hspot
  obtain ⟨acs,hal,hac⟩:=l0M (W:=W) b off len (fun j hj=>by
   obtain ⟨cs,hcs,ht⟩:=hat j (by omega);rw [cells_ac14] at hcs;obtain ⟨y,rfl,h1⟩:=t0Q ht;have hcell:=(World.cells?_some hcs).2.2;refine ⟨y,h1,fun i u hi=>?_⟩;have hi':i < 4:=(List.getElem?_eq_some_iff.1 hi).1;have h0:=hcell i hi';rw [hi,Go.WideShapes.add_plain,Go.WideShapes.add_plain] at h0
   exact h0)
  subst hal;exact ⟨_,acs,_,rfl,fun j hj=>⟨b,off,rfl,(hac j hj).1,(hac j hj).2⟩⟩
section
variable {B0:Nat} {w W:World} {P p q x vb wb hb h g b n:Nat} {G G':List Nat} {R R':Rs} {V Wt H:List (List UInt8)} {L:List Ent}
theorem St.kpx (s:St B0 w P p q x vb wb hb h g b n G R V Wt H L) {X:List Nat} (hk:Kp X w W) (hX:∀ y ∈ X,6 <= y/\y ∉ [P,vb,wb,hb,p,h,g,b,q]/\y ∉ G):St B0 W P p q x vb wb hb h g b n G R V Wt H L:=by
 have hn:∀ z ∈ [P,vb,wb,hb,p,h,g,b,q],z ∉ X:=fun z hz hx=>(hX z hx).2.1 hz
 exact ⟨hk.row s.row (hn _ (by simp)),hk.row s.views (hn _ (by simp)),hk.row s.waits (hn _ (by simp)),hk.row s.held (hn _ (by simp)),s.regs.kp hk (fun y hy hx=>(hX y hx).2.2 hy),
  n0Y s.ring hk (fun y hy=>(hX y hy).1) (hn _ (by simp)) (hn _ (by simp)) (hn _ (by simp)) (s.ring.ring.book.at (hk.block b s.ring.ring.book.lt (hn _ (by simp)))),⟨hk.row s.ref.obj (hn _ (by simp)),Or.inl ⟨rfl,rfl⟩⟩,s.lv,s.lw,s.lh,s.k6,s.low,s.o1,s.qb,s.ne,s.out⟩
theorem St.kept (s:St B0 w P p q x vb wb hb h g b n G R V Wt H L) (hb':Below w.heap.size w W):St B0 W P p q x vb wb hb h g b n G R V Wt H L:=s.kpx (X:=[]) (Kp.of hb') (by simp)
theorem St.but (s:St B0 w P p q x vb wb hb h g b n G R V Wt H L) {gy:Nat} (h6:6 <= gy) (h9:gy ∉ [P,vb,wb,hb,p,h,g,b,q]) (hG:gy ∉ G) (hb':But gy w W):St B0 W P p q x vb wb hb h g b n G R V Wt H L :=
 s.kpx (X:=[gy]) ((Kp.refl _ _).but hb' (Or.inl (by simp))) (fun y hy=>by rw [List.mem_singleton] at hy;subst hy;exact ⟨h6,h9,hG⟩)
theorem St.bnG (s:St B0 w P p q x vb wb hb h g b n G R V Wt H L):b ∉ G:=fun hm=>by have:=(s.o1 b (by simp)).2.2.2.2 b hm;omega
theorem St.regsTo (s:St B0 w P p q x vb wb hb h g b n G R V Wt H L) (hr:RY W x G' R') (hk:Kp G w W) (hG:∀ y ∈ G',y ∈ G ∨ w.heap.size <= y):St B0 W P p q x vb wb hb h g b n G' R' V Wt H L:=by
 obtain ⟨l1,l2,l3,l4,l5,l6⟩:=s.low;obtain ⟨q1,q2,q3,q4⟩:=s.out;have hn:=s.old;have hz:∀ z ∈ [p,h,g,b,q],z ∉ G:=fun z hz hm=>by have:=(s.o1 z hz).2.2.2.2 z hm;omega
 have h6:=s.k6;refine ⟨hk.row s.row q1,hk.row s.views q2,hk.row s.waits q3,hk.row s.held q4,hr,n0Y s.ring hk (fun y hy=>by have:=l6 y hy;omega) (hz _ (by simp)) (hz _ (by simp)) (hz _ (by simp)) (s.ring.ring.book.at (hk.block b s.ring.ring.book.lt s.bnG)),⟨hk.row s.ref.obj (hz _ (by simp)),Or.inl ⟨rfl,rfl⟩⟩,s.lv,s.lw,s.lh,s.k6,⟨l1,l2,l3,l4,l5,fun y hy=>?_⟩,fun z hz'=>?_,s.qb,s.ne,?_⟩
 ·rcases hG y hy with e | e
  ·exact l6 y e
  ·have:=hn P (by simp);omega
 ·obtain ⟨a1,a2,a3,a4,a5⟩:=s.o1 z hz'
  refine ⟨a1,a2,a3,a4,fun y hy=>?_⟩;rcases hG y hy with e | e
  ·exact a5 y e
  ·have:=hn P (by simp);omega
 ·refine ⟨fun hm=>?_,fun hm=>?_,fun hm=>?_,fun hm=>?_⟩
  ·rcases hG _ hm with e | e
   ·exact q1 e
   ·have:=hn P (by simp);omega
  ·rcases hG _ hm with e | e
   ·exact q2 e
   ·have:=hn vb (by simp);omega
  ·rcases hG _ hm with e | e
   ·exact q3 e
   ·have:=hn wb (by simp);omega
  ·rcases hG _ hm with e | e
   ·exact q4 e
   ·have:=hn hb (by simp);omega
theorem St.waitsTo (s:St B0 w P p q x vb wb hb h g b n G R V Wt H L) (hk:Kp [wb] w W) {c:Nat} (hc:c < n) {v:List UInt8} (hw:W.heap[wb]? = some (.cells ((Wt.take c).map st++([st v]++(Wt.drop (c + 1)).map st)).toArray 9)):St B0 W P p q x vb wb hb h g b n G R V (Wt.set c v) H L:=by
 obtain ⟨n1,n2,n3,n4,n5,n6⟩:=s.ne;obtain ⟨l1,l2,l3,l4,l5,l6⟩:=s.low;have h6:=s.k6;have hz:∀ z ∈ [p,h,g,b,q],z ∉ [wb]:=fun z hz hm=>by have:=(s.o1 z hz).2.2.1;rw [List.mem_singleton] at hm;omega
 have hcW:c < Wt.length:=by rw [s.lw];exact hc
 exact ⟨hk.row s.row (by simpa using n5),hk.row s.views (by simpa using n1),k0l hw hcW,hk.row s.held (by simp;omega),s.regs.kp hk (fun y hy=>by simp only [List.mem_singleton];exact fun e=>s.out.2.2.1 (e ▸ hy)),n0Y s.ring hk (fun y hy=>by rw [List.mem_singleton] at hy;omega) (hz _ (by simp)) (hz _ (by simp)) (hz _ (by simp)) (s.ring.ring.book.at (hk.block b s.ring.ring.book.lt (hz _ (by simp)))),⟨hk.row s.ref.obj (hz _ (by simp)),Or.inl ⟨rfl,rfl⟩⟩,s.lv,by simpa using s.lw,s.lh,s.k6,s.low,s.o1,s.qb,s.ne,s.out⟩
end
theorem r0M {R:Rs} (h:RInv R) (c:Int) (x:Sub):(subY R c x).Wf/\(subY R c x).view.length <= 512/\(subY R c x).pend.length <= 8/\∀ p ∈ (subY R c x).pend,0 <= p.client/\p.client < 256:=by
 unfold subY
 split
 ·exact ⟨wfZeroR,by decide,by decide,fun p hp=>by cases hp⟩
 ·split
  ·have g:=h.reg c
   exact ⟨g.ans,g.aview,g.apend,fun p hp=>by have:=g.acl p hp;omega⟩
  ·refine ⟨l0Z h x,by rw [d0e];exact h.long,by rw [c0k,c0p];exact h.plen,fun p hp=>?_⟩
   rw [c0k] at hp;simp only [a0M,List.mem_map] at hp;obtain ⟨z,hz,rfl⟩:=hp;have h1:=(h.pend z hz).cl;have h2:=h.n;show 0 <= z.client/\z.client < 256;omega
theorem r0N {R:Rs} (h:RInv R) (c:Int) (x:Sub) (d:Int):(d0X (subY R c x) d).length <= 1000:=by
 obtain ⟨-,h1,h2,-⟩:=r0M h c x;simp only [d0X,List.length_append,List.length_map,List.length_singleton];omega
structure Bd (V Wt H:List (List UInt8)) (L:List Ent) (j:Nat):Prop where
 v:∀ i,(V.getD i []).length <= 1000
 w:∀ i,(Wt.getD i []).length <= 1000
 h:∀ i,(H.getD i []).length <= 256
 l:L.length <= 3 * j
theorem e0t {l:List (List UInt8)} {m c:Nat} {v:List UInt8} (h:∀ i,(l.getD i []).length <= m) (hv:v.length <= m):∀ i,((l.set c v).getD i []).length <= m:=by
 intro i;rw [List.getD_eq_getElem?_getD,List.getElem?_set]
 split
 ·split
  ·exact hv
  ·exact Nat.zero_le _
 ·rw [← List.getD_eq_getElem?_getD]
  exact h i
theorem Bd.new (n:Nat):Bd (List.replicate n []) (List.replicate n []) (List.replicate n []) [] 0:=by
 have:∀ i m,((List.replicate n ([]:List UInt8)).getD i []).length <= m:=fun i m=>by
  rw [List.getD_eq_getElem?_getD,List.getElem?_replicate]
  split <;> exact Nat.zero_le _
 exact ⟨fun i=>this i _,fun i=>this i _,fun i=>this i _,Nat.zero_le _⟩
section
variable {V Wt H:List (List UInt8)} {L L':List Ent} {j c:Nat}
theorem Bd.next (h:Bd V Wt H L j):Bd V Wt H L (j + 1):=⟨h.v,h.w,h.h,by have:=h.l;omega⟩
theorem Bd.commit (h:Bd V Wt H L j) (hl:L'.length <= L.length + 1):Bd (V.set c (Wt.getD c [])) (Wt.set c []) H L' (j + 1):=⟨e0t h.v (h.w c),e0t h.w (Nat.zero_le _),h.h,by have:=h.l;omega⟩
theorem Bd.submit (h:Bd V Wt H L j) (hl:L'.length <= L.length + 2) {a v:List UInt8} (ha:a.length <= 1000) (hv:v.length <= 256):Bd V (Wt.set c a) (H.set c v) L' (j + 1):=⟨h.v,e0t h.w ha,e0t h.h hv,by have:=h.l;omega⟩
end
open Go Go.RowKit
set_option maxRecDepth 100000
section
variable {P:Program} {ops:Array Oper} {Q:Exit->Act->World->Prop} {N:Nat} {a0:Act} {w0:World}
structure CyJ (ic im ix ia st:Nat) (cs:List Value) (YC:Value->List Value) (EC:Value) (Z:List Value) (T:TypeId) (F:List Nat) (Ok:World->Value->Prop) (Pre:(Nat->Bool)->World->Prop) (Post:List Nat->World->Prop) (w0:World) (L:Nat->Bool) (u:Nat->Value) (W:World):Prop where
 kp:Kp F w0 W
 con:∀ i,i ≠ ic->i ≠ im->i ≠ ix->i ≠ ia->i ≠ st->L i=true->u i=cs.getD i undef
 pre:L ic=false->Pre L W
 post:L ic=true->∃ v G,Post G W/\Ok W v/\u ic = .tuple #[.agg (YC v).toArray,EC]/\(L im=true->u im = .tuple #[.agg (YC v).toArray,EC])/\(L ix=true->u ix = .agg (YC v).toArray)/\(L ia=true->∀ gy,u ia=pt gy 0->gy ∉ G)/\(L st=true->∀ gy,u ia=pt gy 0->W.heap[gy]? = some (.cells (YC v).toArray T))
 mkd:L ia=true->∃ gy,u ia=pt gy 0/\w0.heap.size <= gy/\gy < W.heap.size/\(L st=false->W.heap[gy]? = some (.cells Z.toArray T))
 os:L st=true->L ic=true/\L ia=true
 om:L im=true->L ic=true
 ox:L ix=true->L ic=true
theorem m0Z {a b:Nat} (h:pt a 0=pt b 0):a=b:=by
 injection h with h
 injection h with h
 injection h
theorem l0N {id:Nat} (ic im ix ia st dc dm da dx:Nat) (cs:List Value) (YC:Value->List Value) (EC:Value) (Z:List Value) (T:TypeId) (F:List Nat) (Ok:World->Value->Prop) (Pre:(Nat->Bool)->World->Prop) (Post:List Nat->World->Prop) (ds:(Nat->Value)->List (Nat × Value))
  (hf:P.follows .mixedOrders=true) (hok:okMd ops N=true) (hN:a0.tmps.size=N) (hds:∀ u:Nat->Value,(List.range ops.size).filterMap (fun i=>(a0E ops i).map fun d=>(d,u i))=ds u)
  (hne:ic ≠ im/\ic ≠ ix/\ic ≠ ia/\ic ≠ st/\im ≠ ix/\im ≠ ia/\im ≠ st/\ix ≠ ia/\ix ≠ st/\ia ≠ st) (hsz:st < ops.size/\ic < ops.size/\ia < ops.size/\ix < ops.size/\im < ops.size)
  (hdc:a0E ops ic=some dc) (hdm:a0E ops im=some dm) (hda:a0E ops ia=some da) (hdx:a0E ops ix=some dx) (hdst:a0E ops st=none) (hd:(List.range ops.size).all (fun i=>i == st || (a0E ops i).isSome)=true)
  (him:∀ o,ops[im]? = some o->o.op = .move (.tmp dc)/\waits o ic=true) (hix:∀ o,ops[ix]? = some o->o.op = .extract (.tmp dm) 0/\waits o im=true) (hia:∀ o,ops[ia]? = some o->o.op = .alloc T) (hst:∀ o,ops[st]? = some o->o.op = .store T (.tmp da) (.tmp dx)/\waits o ix=true/\waits o ia=true)
  (hZ:(P.info? T).map (·.zero)=some (some (.agg Z.toArray))) (hlen:∀ v,(YC v).length=Z.length) (hone:∀ v,∀ x ∈ YC v,x.oneCell' = true) (hsize:∀ v,(P.info? T).map (·.size)=some (YC v).length)
  (hF:∀ y ∈ F,y < w0.heap.size) (h0:∀ w1,Below w0.heap.size w0 w1->Pre (fun _=>false) w1)
  (preC:∀ L i W,i=ia->Pre L W->∀ o,Pre (up L i) (W.alloc o)) (postL:∀ G W,Post G W->∀ y ∈ G,y < W.heap.size) (postA:∀ G W o,Post G W->Post G (W.alloc o)) (okA:∀ W v o,Ok W v->Ok (W.alloc o) v)
  (postB:∀ G W W' gy,Post G W->w0.heap.size <= gy->gy ∉ G->But gy W W'->Post G W') (okB:∀ W W' v gy,Ok W v->W.heap[gy]? = some (.cells Z.toArray T)->But gy W W'->Ok W' v)
  (hcall:∀ o,ops[ic]? = some o->∀ L a W,L ic=false->(∀ j,waits o j=true->L j=true)->Pre L W->(∀ t,d0Z ops ic t=true->a.tmps.getD t undef=a0.tmps.getD t undef)->(∀ j d,waits o j=true->j ≠ im->j ≠ ix->j ≠ ia->j ≠ st->a0E ops j=some d->a.tmps.getD d undef=cs.getD j undef) ->
   ∀ K:Act->World->Prop,(∀ v G W',Post G W'->Ok W' v->Kp F W W'->(∀ y ∈ G,y < w0.heap.size ∨ W.heap.size <= y)->K (a.put o.dst (.tuple #[.agg (YC v).toArray,EC])) W')->o.wp P a W K Q)
  (hown:∀ i o,ops[i]? = some o->i ≠ ic->i ≠ im->i ≠ ix->i ≠ ia->i ≠ st->∀ L a W,L i=false->(∀ j,waits o j=true->L j=true)->(∀ j oj,ops[j]? = some oj->waits oj i=true->L j=false)->Kp F w0 W->(L ic=false->Pre L W)->(∀ t,d0Z ops i t=true->a.tmps.getD t undef=a0.tmps.getD t undef)->(∀ j d,waits o j=true->j ≠ ic->j ≠ im->j ≠ ix->j ≠ ia->j ≠ st->a0E ops j=some d->a.tmps.getD d undef=cs.getD j undef) ->
   (∀ d,waits o im=true->a0E ops im=some d->∃ v,a.tmps.getD d undef = .tuple #[.agg (YC v).toArray,EC])->∀ K:Act->World->Prop,(∀ W',Kp F W W'->(L ic=false->Pre (up L i) W')->(L ic=true->W' = W)->K (a.put o.dst (cs.getD i undef)) W')->o.wp P a W K Q)
  (hend:∀ u gy v G W,Kp F w0 W->Post G W->Ok W v->gy ∉ G->w0.heap.size <= gy->W.heap[gy]? = some (.cells (YC v).toArray T)->(∀ i,i < ops.size->i ≠ ic->i ≠ im->i ≠ ix->i ≠ ia->i ≠ st->u i=cs.getD i undef)->u ic = .tuple #[.agg (YC v).toArray,EC]->u im = .tuple #[.agg (YC v).toArray,EC]->u ix = .agg (YC v).toArray->u ia=pt gy 0 ->
   Q .normal { tmps:=(ds u).foldl (fun B p=>B.setIfInBounds p.1 p.2) a0.tmps,defers:=a0.defers } W) :
  (Code.region id ops true).wp P Q a0 w0:=by
 obtain ⟨n1,n2,n3,n4,n5,n6,n7,n8,n9,n10⟩:=hne;refine e0O (CyJ ic im ix ia st cs YC EC Z T F Ok Pre Post w0) ds hf hok hN hds (fun u w1 hb=>⟨Kp.of hb,(by intro i _ _ _ _ _ h;cases h),(fun _=>h0 w1 hb),(by intro h;cases h),(by intro h;cases h),(by intro h;cases h),(by intro h;cases h),(by intro h;cases h)⟩) ?_ ?_
 ·intro i o ho L a W u hLi hw hnot hJ hk hv K h
  have hcon:∀ j d,waits o j=true->j ≠ ic->j ≠ im->j ≠ ix->j ≠ ia->j ≠ st->a0E ops j=some d->a.tmps.getD d undef=cs.getD j undef:=fun j d hj e1 e2 e3 e4 e5 hd=>(hv j d (hw j hj) hd).trans (hJ.con j e1 e2 e3 e4 e5 (hw j hj));by_cases c1:i=ic
  ·subst c1
   have lst:L st=false:=by
    cases e:L st with
    | false=>rfl
    | true=>have:=(hJ.os e).1;rw [hLi] at this;cases this
   have lim:L im=false:=by
    cases e:L im with
    | false=>rfl
    | true=>have:=hJ.om e;rw [hLi] at this;cases this
   have lix:L ix=false:=by
    cases e:L ix with
    | false=>rfl
    | true=>have:=hJ.ox e;rw [hLi] at this;cases this
   refine hcall o ho L a W hLi hw (hJ.pre hLi) hk (fun j d hj e2 e3 e4 e5 hd=>hcon j d hj (fun e=>by subst e;rw [hw _ hj] at hLi;cases hLi) e2 e3 e4 e5 hd) K (fun v G W' hp hok' hkp hG=>h _ _ (fun u' hu hi=>?_));have hi':=hi (by have:=hdc;unfold a0E at this;rw [ho] at this;simp only [Option.bind_some] at this;rw [this];rfl);refine ⟨hJ.kp.trans hkp,?_,?_,?_,?_,?_,?_,?_⟩
   ·intro j e1 e2 e3 e4 e5 hj
    rw [hu j e1];exact hJ.con j e1 e2 e3 e4 e5 (a0i hj (Ne.symm e1))
   ·intro e;rw [b0s] at e;cases e
   ·intro _
    refine ⟨v,G,hp,hok',hi',?_,?_,?_,?_⟩
    ·intro e;rw [b0p n1,lim] at e;cases e
    ·intro e;rw [b0p n2,lix] at e;cases e
    ·intro e gy hgy hm
     rw [b0p n3] at e;obtain ⟨gy',h1,h2,h3,-⟩:=hJ.mkd e;rw [hu ia (Ne.symm n3),h1] at hgy;have:=m0Z hgy;subst this;have:=hG _ hm;omega
    ·intro e;rw [b0p n4,lst] at e;cases e
   ·intro e
    rw [b0p n3] at e;obtain ⟨gy,h1,h2,h3,h4⟩:=hJ.mkd e;refine ⟨gy,by rw [hu ia (Ne.symm n3)];exact h1,h2,by have:=hkp.size;omega,fun _=>?_⟩;exact hkp.row (h4 lst) (fun hm=>by have:=hF gy hm;omega)
   ·intro e;rw [b0p n4,lst] at e;cases e
   ·intro _;exact b0s _ _
   ·intro _;exact b0s _ _
  ·by_cases c2:i=im
   ·subst c2
    obtain ⟨h1,h2⟩:=him o ho;have lic:=hw ic h2;obtain ⟨v,G,p1,p2,p3,p4,p5,p6,p7⟩:=hJ.post lic;refine a0q dc _ h1 ((hv ic dc lic hdc).trans p3) (h _ _ (fun u' hu hi=>?_));have hi':=hi (by have:=hdm;unfold a0E at this;rw [ho] at this;simp only [Option.bind_some] at this;rw [this];rfl);refine ⟨hJ.kp,?_,?_,?_,?_,?_,?_,?_⟩
    ·intro j e1 e2 e3 e4 e5 hj
     rw [hu j e2];exact hJ.con j e1 e2 e3 e4 e5 (a0i hj (Ne.symm e2))
    ·intro e;rw [b0p (Ne.symm n1),lic] at e;cases e
    ·intro _
     exact ⟨v,G,p1,p2,by rw [hu ic n1];exact p3,fun _=>hi',fun e=>by rw [hu ix (Ne.symm n5)];exact p5 (a0i e n5),fun e gy hgy=>p6 (a0i e n6) gy (by rw [← hu ia (Ne.symm n6)];exact hgy),fun e gy hgy=>p7 (a0i e n7) gy (by rw [← hu ia (Ne.symm n6)];exact hgy)⟩
    ·intro e
     obtain ⟨gy,h1,h2,h3,h4⟩:=hJ.mkd (a0i e n6);exact ⟨gy,by rw [hu ia (Ne.symm n6)];exact h1,h2,h3,fun e2=>h4 (by rw [← e2];exact (b0p n7).symm)⟩
    ·intro e
     obtain ⟨q1,q2⟩:=hJ.os (a0i e n7);exact ⟨a0C q1,a0C q2⟩
    ·intro _;exact a0C lic
    ·intro e;exact a0C (hJ.ox (a0i e n5))
   ·by_cases c3:i=ix
    ·subst c3
     obtain ⟨h1,h2⟩:=hix o ho;have lim:=hw im h2;have lic:=hJ.om lim;obtain ⟨v,G,p1,p2,p3,p4,p5,p6,p7⟩:=hJ.post lic;refine b0a dm 0 _ (.agg (YC v).toArray) h1 ((hv im dm lim hdm).trans (p4 lim)) rfl (h _ _ (fun u' hu hi=>?_));have hi':=hi (by have:=hdx;unfold a0E at this;rw [ho] at this;simp only [Option.bind_some] at this;rw [this];rfl);refine ⟨hJ.kp,?_,?_,?_,?_,?_,?_,?_⟩
     ·intro j e1 e2 e3 e4 e5 hj
      rw [hu j e3];exact hJ.con j e1 e2 e3 e4 e5 (a0i hj (Ne.symm e3))
     ·intro e;rw [b0p (Ne.symm n2),lic] at e;cases e
     ·intro _
      exact ⟨v,G,p1,p2,by rw [hu ic n2];exact p3,fun e=>by rw [hu im n5];exact p4 (a0i e (Ne.symm n5)),fun _=>hi',fun e gy hgy=>p6 (a0i e n8) gy (by rw [← hu ia (Ne.symm n8)];exact hgy),fun e gy hgy=>p7 (a0i e n9) gy (by rw [← hu ia (Ne.symm n8)];exact hgy)⟩
     ·intro e
      obtain ⟨gy,h1,h2,h3,h4⟩:=hJ.mkd (a0i e n8);exact ⟨gy,by rw [hu ia (Ne.symm n8)];exact h1,h2,h3,fun e2=>h4 (by rw [← e2];exact (b0p n9).symm)⟩
     ·intro e
      obtain ⟨q1,q2⟩:=hJ.os (a0i e n9);exact ⟨a0C q1,a0C q2⟩
     ·intro e;exact a0C (hJ.om (a0i e (Ne.symm n5)))
     ·intro _;exact a0C lic
    ·by_cases c4:i=ia
     ·subst c4
      have lst:L st=false:=by
       cases e:L st with
       | false=>rfl
       | true=>have:=(hJ.os e).2;rw [hLi] at this;cases this
      refine g0Q T (hia o ho) Z.toArray hZ (h _ _ (fun u' hu hi=>?_));have hi':=hi (by have:=hda;unfold a0E at this;rw [ho] at this;simp only [Option.bind_some] at this;rw [this];rfl);have hba:=a0c W (.cells Z.toArray T);refine ⟨hJ.kp.trans (Kp.of hba),?_,?_,?_,?_,?_,?_,?_⟩
      ·intro j e1 e2 e3 e4 e5 hj
       rw [hu j e4];exact hJ.con j e1 e2 e3 e4 e5 (a0i hj (Ne.symm e4))
      ·intro e
       rw [b0p (Ne.symm n3)] at e;exact preC L i W rfl (hJ.pre e) _
      ·intro e
       rw [b0p (Ne.symm n3)] at e;obtain ⟨v,G,p1,p2,p3,p4,p5,p6,p7⟩:=hJ.post e;refine ⟨v,G,postA G W _ p1,okA W v _ p2,by rw [hu ic n3];exact p3,fun e=>by rw [hu im n6];exact p4 (a0i e (Ne.symm n6)),fun e=>by rw [hu ix n8];exact p5 (a0i e (Ne.symm n8)),fun _ gy hgy hm=>?_,fun e=>?_⟩
       ·rw [hi'] at hgy
        have:=m0Z hgy;subst this;have:=postL G W p1 _ hm;omega
       ·rw [b0p n10,lst] at e;cases e
      ·intro _
       exact ⟨W.heap.size,hi',hJ.kp.size,by simp,fun _=>a0f W _⟩
      ·intro e;rw [b0p n10,lst] at e;cases e
      ·intro e;exact a0C (hJ.om (a0i e (Ne.symm n6)))
      ·intro e;exact a0C (hJ.ox (a0i e (Ne.symm n8)))
     ·by_cases c5:i=st
      ·subst c5
       obtain ⟨h1,h2,h3⟩:=hst o ho;have lix:=hw ix h2;have lia:=hw ia h3;have lic:=hJ.ox lix;obtain ⟨v,G,p1,p2,p3,p4,p5,p6,p7⟩:=hJ.post lic;obtain ⟨gy,m1,m2,m3,m4⟩:=hJ.mkd lia;have hno:=p6 lia gy m1;have hon:o.dst=none:=by have:=hdst;unfold a0E at this;rw [ho] at this;exact this
       refine j0E T (.tmp da) (.tmp dx) h1 hon gy ((hv ia da lia hda).trans m1) (YC v) Z ((hv ix dx lix hdx).trans (p5 lix)) T (m4 hLi) (hlen v).symm (hone v) (hsize v) ?_;have hbut:=d0u W gy (YC v).toArray;have hrow:=setRow_heap W gy _ (YC v).toArray T (0,0) (m4 hLi);have hput:a.put o.dst undef=a:=by rw [hon];rfl
       rw [← hput];refine h undef _ (fun u' hu _=>?_);have k2:Kp F w0 (W.setRow gy (YC v).toArray):=hJ.kp.but hbut (Or.inr m2);refine ⟨k2,?_,?_,?_,?_,?_,?_,?_⟩
       ·intro j e1 e2 e3 e4 e5 hj
        rw [hu j e5];exact hJ.con j e1 e2 e3 e4 e5 (a0i hj (Ne.symm e5))
       ·intro e;rw [b0p (Ne.symm n4),lic] at e;cases e
       ·intro _
        refine ⟨v,G,postB G W _ gy p1 m2 hno hbut,okB W _ v gy p2 (m4 hLi) hbut,by rw [hu ic n4];exact p3,fun e=>by rw [hu im n7];exact p4 (a0i e (Ne.symm n7)),fun e=>by rw [hu ix n9];exact p5 (a0i e (Ne.symm n9)),fun e gy' hgy=>p6 lia gy' (by rw [← hu ia n10];exact hgy),fun _ gy' hgy=>?_⟩;rw [hu ia n10,m1] at hgy;have:=m0Z hgy;subst this;exact hrow
       ·intro _
        exact ⟨gy,by rw [hu ia n10];exact m1,m2,by rw [hbut.size];exact m3,fun e=>by rw [b0s] at e;cases e⟩
       ·intro _;exact ⟨a0C lic,a0C lia⟩
       ·intro e;exact a0C (hJ.om (a0i e (Ne.symm n7)))
       ·intro e;exact a0C (hJ.ox (a0i e (Ne.symm n9)))
      ·refine hown i o ho c1 c2 c3 c4 c5 L a W hLi hw hnot hJ.kp hJ.pre hk hcon (fun d hwm hd=>?_) K (fun W' hkp hpre hsame=>h _ _ (fun u' hu hi=>?_))
       ·have lim:=hw im hwm
        obtain ⟨v,G,p1,p2,p3,p4,p5,p6,p7⟩:=hJ.post (hJ.om lim);exact ⟨v,(hv im d lim hd).trans (p4 lim)⟩
       ·refine ⟨hJ.kp.trans hkp,?_,?_,?_,?_,?_,?_,?_⟩
        ·intro j e1 e2 e3 e4 e5 hj
         by_cases e:j=i
         ·subst e
          cases hdo:o.dst with
          | some d=>exact hi (by rw [hdo];rfl)
          | none =>
           have hlt:j < ops.size:=(Array.getElem?_eq_some_iff.1 ho).1;have:=List.all_eq_true.1 hd j (List.mem_range.2 hlt);unfold a0E at this;rw [ho] at this;simp only [Option.bind_some,hdo,Option.isSome_none,Bool.or_false,beq_iff_eq] at this;exact absurd this c5
         ·rw [hu j e]
          exact hJ.con j e1 e2 e3 e4 e5 (a0i hj (Ne.symm e))
        ·intro e
         exact hpre (by rw [← e];exact (b0p c1).symm)
        ·intro e
         have lic:=a0i e c1;obtain ⟨v,G,p1,p2,p3,p4,p5,p6,p7⟩:=hJ.post lic;obtain rfl:=hsame lic;exact ⟨v,G,p1,p2,by rw [hu ic (Ne.symm c1)];exact p3,fun e=>by rw [hu im (Ne.symm c2)];exact p4 (a0i e c2),fun e=>by rw [hu ix (Ne.symm c3)];exact p5 (a0i e c3),fun e gy hgy=>p6 (a0i e c4) gy (by rw [← hu ia (Ne.symm c4)];exact hgy),fun e gy hgy=>p7 (a0i e c5) gy (by rw [← hu ia (Ne.symm c4)];exact hgy)⟩
        ·intro e
         obtain ⟨gy,h1,h2,h3,h4⟩:=hJ.mkd (a0i e c4);refine ⟨gy,by rw [hu ia (Ne.symm c4)];exact h1,h2,by have:=hkp.size;omega,fun e2=>?_⟩;exact hkp.row (h4 (by rw [← e2];exact (b0p c5).symm)) (fun hm=>by have:=hF gy hm;omega)
        ·intro e
         obtain ⟨q1,q2⟩:=hJ.os (a0i e c5);exact ⟨a0C q1,a0C q2⟩
        ·intro e;exact a0C (hJ.om (a0i e c2))
        ·intro e;exact a0C (hJ.ox (a0i e c3))
 ·intro u L W hall hJ
  obtain ⟨s1,s2,s3,s4,s5⟩:=hsz;obtain ⟨v,G,p1,p2,p3,p4,p5,p6,p7⟩:=hJ.post (hall ic s2);obtain ⟨gy,m1,m2,m3,m4⟩:=hJ.mkd (hall ia s3);exact hend u gy v G W hJ.kp p1 p2 (p6 (hall ia s3) gy m1) m2 (p7 (hall st s1) gy m1) (fun i hi e1 e2 e3 e4 e5=>hJ.con i e1 e2 e3 e4 e5 (hall i hi)) p3 (p4 (hall im s5)) (p5 (hall ix s4)) m1
end
open Go Go.RowKit
set_option maxRecDepth 100000
theorem t0n {x:Pen} (h:x.Wf) {i:Nat} (h4:4 <= i) (h68:i < 68):∃ d:UInt8,(penC x)[i]? = some (cb d):=by
 have hl:([nu x.client,nu x.number,nu x.kind,nu x.target]:List Value).length=4:=rfl;unfold penC;rw [List.getElem?_append_right (by omega),hl];have ha:(x.asked++x.proof).length=64:=by rw [List.length_append,h.asked,h.proof]
 have e:dg x.asked++dg x.proof=dg (x.asked++x.proof):=by simp [dg]
 rw [e,dg,List.getElem?_map,List.getElem?_eq_getElem (by omega)];exact ⟨_,rfl⟩
theorem t0o {w:World} {g i:Nat} {cs:List Value} {t:TypeId} (h:w.heap[g]? = some (.cells cs.toArray t)) {v:Value} (hv:w.cell? ⟨g,i,none⟩=some v):cs[i]? = some v:=by
 simpa [World.cell?,h] using hv
theorem t0p {W W':World} {v:Value} {ps:List Pen} {gy:Nat} (hp:a0g W v ps) (hw:∀ p ∈ ps,p.Wf) (hr:W.heap[gy]? = some (.cells (repC a0p (.slice none 0 0)).toArray 44)) (hb:But gy W W'):a0g W' v ps:=by
 obtain ⟨a,cap,rfl,hc⟩:=hp;refine ⟨a,cap,rfl,fun hne=>?_⟩;obtain ⟨b,off,rfl,hj⟩:=hc hne;refine ⟨b,off,rfl,fun j hjl i c hi=>?_⟩
 have hbg:b ≠ gy:=by
  rintro rfl;have hl:0 < ps.length:=List.length_pos_iff.2 hne;have hx:(ps.getD 0 a0z).Wf:=by rw [List.getD_eq_getElem?_getD,List.getElem?_eq_getElem hl];exact hw _ (List.getElem_mem hl)
  have key:∀ i,4 <= i->i < 68->∃ d:UInt8,(repC a0p (.slice none 0 0))[off + i]? = some (cb d):=fun i h4 h68=>by
   obtain ⟨d,hd⟩:=t0n hx h4 h68;have:=t0o hr (hj 0 hl i _ hd);rw [Nat.zero_mul,Nat.add_zero] at this;exact ⟨d,this⟩
  by_cases h1:off <= 31
  ·obtain ⟨d,hd⟩:=key (35 - off) (by omega) (by omega)
   rw [show off + (35 - off)=35 by omega] at hd;exact absurd hd (by simp [repC,a0p,a0n,dg,cb])
  ·by_cases h2:off <= 66
   ·obtain ⟨d,hd⟩:=key (70 - off) (by omega) (by omega)
    rw [show off + (70 - off)=70 by omega] at hd;exact absurd hd (by simp [repC,a0p,a0n,dg,cb])
   ·obtain ⟨d,hd⟩:=key 67 (by omega) (by omega)
    have:=(List.getElem?_eq_some_iff.1 hd).1;rw [a0j wfZeroR] at this;omega
 have e:=hj j hjl i c hi;have h2:=hb.block b hbg;unfold World.cell? at *;rw [h2];exact e
def slc:Value->Value
 | .slice a n c=>.slice a n c
 | _=>.slice none 0 0
theorem u0Z (v:Value):(slc v).oneCell' = true:=by unfold slc;split <;> rfl
theorem t0q {W:World} {v:Value} {ps:List Pen} (h:a0g W v ps):slc v=v:=by
 obtain ⟨a,c,rfl,-⟩:=h;rfl
end Go.Proofs.YtagmnmoaekbffaaGreatDoor.Ms
