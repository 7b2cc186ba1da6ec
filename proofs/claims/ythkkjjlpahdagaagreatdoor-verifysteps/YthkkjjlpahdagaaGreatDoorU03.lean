/-
  The reference's registers: New, Is (R12).
-/
import Derived.Test.YthkkjjlpahdagaaGreatDoorU02
import Derived.Test.YthkkjjlpahdagaaGreatDoorS30
import Derived.Test.YthkkjjlpahdagaaGreatDoorS27
set_option maxHeartbeats 4000000
namespace Go.Proofs.YthkkjjlpahdagaaGreatDoor.Ms
open Go Go.RowKit
set_option maxRecDepth 100000
theorem fm_rep {α:Type} (f:α→List Value) (n:Nat) (a:α):(List.replicate n a).flatMap f=(List.replicate n (f a)).flatten:=by
 induction n with
 | zero=>rfl
 | succ n ih=>rw [List.replicate_succ,List.flatMap_cons,ih,List.replicate_succ,List.flatten_cons]
theorem infoSub:(Tryz.prog.info? 39).map (fun i=>(i.zero,i.size,i.bytes))=some (some (.agg (subC zeroS).toArray),68,104):=by kernel_rfl
theorem infoRep:(Tryz.prog.info? 42).map (fun i=>(i.zero,i.size,i.bytes))=some (some (.agg (repC zeroR (.slice none 0 0)).toArray),103,192):=by kernel_rfl
theorem infoDig:(Tryz.prog.info? 23).map (fun i=>(i.zero,i.size,i.bytes))=some (some (.agg (dg zeroD).toArray),32,32):=by kernel_rfl
theorem infoSt:(Tryz.prog.info? 9).map (fun i=>(i.zero,i.size,i.bytes))=some (some (st []),1,16):=by kernel_rfl
theorem sizeStr:(Tryz.prog.info? 9).map (·.size)=some 1:=by kernel_rfl
theorem make_row {T e:TypeId} {z:Value} {L:List Value} {k by':Nat} (hT:Tryz.prog.underlying T=some (.slice e)) (hI:(Tryz.prog.info? e).map (fun i=>(i.zero,i.size,i.bytes))=some (some z,k,by')) (hz:z.cells=L.toArray) (hL:L.length=k) (hk:0 < k∧k ≤ 1000) (hb:by' ≤ 1000) (n:Nat) (hn:n ≤ 8) (W:World) :
  (Instr.makeSlice T (.int .i64 (n:Int)) (.int .i64 (n:Int))).run Tryz.prog W = .ok (sl W.heap.size n) (W.alloc (.cells ((List.replicate n L).flatten).toArray e)):=by
 cases hi:Tryz.prog.info? e with
 | none=>rw [hi] at hI;cases hI
 | some i =>
  rw [hi] at hI
  simp only [Option.map_some,Option.some.injEq,Prod.mk.injEq] at hI
  obtain ⟨hz0,hz1,hz2⟩:=hI
  have hnk:n * k ≤ 8 * 1000:=Nat.mul_le_mul hn hk.2
  have hnb:n * by' ≤ 8 * 1000:=Nat.mul_le_mul hn hb
  have h:=run_makeSlice (P:=Tryz.prog) W T e i _ hT hi hz0 .i64 .i64 n n (by omega) (by omega) (by rw [hz1,Int.toNat_natCast];omega) (by rw [hz2,Int.mul_comm];omega) (by omega)
  rw [hz1] at h
  simp only [Int.toNat_natCast] at h
  rw [hz,← hL,made_list L (by omega) n] at h
  exact h
section
variable {w:World} {o:Oper} {a:Act} {Q:Exit→Act→World→Prop} {K:Act→World→Prop}
theorem op_make {T e:TypeId} {z:Value} {L:List Value} {k by':Nat} (x:Tmp) (ho:o.op = .makeSlice T (.tmp x) (.tmp x)) (hT:Tryz.prog.underlying T=some (.slice e)) (hI:(Tryz.prog.info? e).map (fun i=>(i.zero,i.size,i.bytes))=some (some z,k,by')) (hz:z.cells=L.toArray) (hL:L.length=k) (hk:0 < k∧k ≤ 1000) (hb:by' ≤ 1000) (n:Nat) (hn:n ≤ 8)
  (hx:a.tmps.getD x undef=nu (n:Int)) (h:K (a.put o.dst (sl w.heap.size n)) (w.alloc (.cells ((List.replicate n L).flatten).toArray e))):o.wp Tryz.prog a w K Q:=by
 have ex:a.eval (.tmp x)=nu (n:Int):=hx
 have hr:=make_row hT hI hz hL hk hb n hn w
 unfold Oper.wp execOp
 simp only [ho,ex,Sem.run_bind,hr,Result.andThen_ok,Sem.run_pure]
 exact h
theorem op_box (T:TypeId) (x:Tmp) (cs:List Value) (ho:o.op = .box T (.tmp x)) (hx:a.tmps.getD x undef = .agg cs.toArray) (hr:∀ w,(Instr.box T (.agg cs.toArray)).run Tryz.prog w = .ok (pt w.heap.size 0) (w.alloc (.cells cs.toArray T))) (h:K (a.put o.dst (pt w.heap.size 0)) (w.alloc (.cells cs.toArray T))):o.wp Tryz.prog a w K Q:=by
 have ex:a.eval (.tmp x) = .agg cs.toArray:=hx
 unfold Oper.wp execOp
 simp only [ho,ex,Sem.run_bind,hr,Result.andThen_ok,Sem.run_pure]
 exact h
end
theorem build_ref (W:World) (n gs gr gv gt:Nat):(Instr.build 108 #[(0,sl gs n),(1,sl gr n),(2,sl gv n),(3,sl gt n),(4,.int .i64 (-1))]).run Tryz.prog W = .ok (.agg (refC (newR n) gs gr gv gt (.slice none 0 0)).toArray) W:=by kernel_rfl
def rowS (n:Nat):List Value:=(List.replicate n (subC zeroS)).flatten
def rowRp (n:Nat):List Value:=(List.replicate n (repC zeroR (.slice none 0 0))).flatten
def rowV (n:Nat):List Value:=(List.replicate n [st []]).flatten
def rowT (n:Nat):List Value:=(List.replicate n (dg zeroD)).flatten
def vNn (B n:Nat) (i:Nat) (v:Value) (w:World):Prop :=
 if i=1 then ∃ g,v=sl g n∧B ≤ g∧w.heap[g]? = some (.cells (rowS n).toArray 39)
 else if i=3 then ∃ g,v=sl g n∧B ≤ g∧w.heap[g]? = some (.cells (rowRp n).toArray 42)
 else if i=5 then ∃ g,v=sl g n∧B ≤ g∧w.heap[g]? = some (.cells (rowV n).toArray 9)
 else if i=7 then ∃ g,v=sl g n∧B ≤ g∧w.heap[g]? = some (.cells (rowT n).toArray 23)
 else ∃ gs gr gv gt,(if i=8 then v = .agg (refC (newR n) gs gr gv gt (.slice none 0 0)).toArray else ∃ x,v=pt x 0∧B ≤ x∧w.heap[x]? = some (.cells (refC (newR n) gs gr gv gt (.slice none 0 0)).toArray 108)) ∧
  (B ≤ gs∧w.heap[gs]? = some (.cells (rowS n).toArray 39))∧(B ≤ gr∧w.heap[gr]? = some (.cells (rowRp n).toArray 42))∧(B ≤ gv∧w.heap[gv]? = some (.cells (rowV n).toArray 9))∧(B ≤ gt∧w.heap[gt]? = some (.cells (rowT n).toArray 23))
theorem vNn_mono (B n:Nat):∀ i v w w',vNn B n i v w→Below w.heap.size w w'→vNn B n i v w':=by
 intro i v w w' h hb
 unfold vNn at h ⊢
 split
 ·rename_i e
  rw [if_pos e] at h
  obtain ⟨g,h1,h2,h3⟩:=h
  exact ⟨g,h1,h2,row_kept h3 hb⟩
 ·rename_i e1
  rw [if_neg e1] at h
  split
  ·rename_i e
   rw [if_pos e] at h
   obtain ⟨g,h1,h2,h3⟩:=h
   exact ⟨g,h1,h2,row_kept h3 hb⟩
  ·rename_i e2
   rw [if_neg e2] at h
   split
   ·rename_i e
    rw [if_pos e] at h
    obtain ⟨g,h1,h2,h3⟩:=h
    exact ⟨g,h1,h2,row_kept h3 hb⟩
   ·rename_i e3
    rw [if_neg e3] at h
    split
    ·rename_i e
     rw [if_pos e] at h
     obtain ⟨g,h1,h2,h3⟩:=h
     exact ⟨g,h1,h2,row_kept h3 hb⟩
    ·rename_i e4
     rw [if_neg e4] at h
     obtain ⟨gs,gr,gv,gt,h0,h1,h2,h3,h4⟩:=h
     refine ⟨gs,gr,gv,gt,?_,⟨h1.1,row_kept h1.2 hb⟩,⟨h2.1,row_kept h2.2 hb⟩,⟨h3.1,row_kept h3.2 hb⟩,⟨h4.1,row_kept h4.2 hb⟩⟩
     split
     ·rename_i e
      rw [if_pos e] at h0
      exact h0
     ·rename_i e
      rw [if_neg e] at h0
      obtain ⟨x,h5,h6,h7⟩:=h0
      exact ⟨x,h5,h6,row_kept h7 hb⟩
theorem zeroPs (n:Nat) (hn:n ≤ 8):(List.replicate n (zeroG,Value.slice none 0 0)).map (·.1)=(newR n).regs.take (newR n).n:=by
 show _=(List.replicate 8 zeroG).take n
 rw [List.map_replicate,List.take_replicate,Nat.min_eq_left hn]
theorem new_rz {w:World} {n x gs gr gv gt:Nat} (hn:2 ≤ n∧n ≤ 8) (hx:w.heap[x]? = some (.cells (refC (newR n) gs gr gv gt (.slice none 0 0)).toArray 108)) (h1:w.heap[gs]? = some (.cells (rowS n).toArray 39)) (h2:w.heap[gr]? = some (.cells (rowRp n).toArray 42)) (h3:w.heap[gv]? = some (.cells (rowV n).toArray 9)) (h4:w.heap[gt]? = some (.cells (rowT n).toArray 23)) :
  RZ w x gs gr gv gt (newR n) (List.replicate n (zeroG,Value.slice none 0 0)) (.slice none 0 0) [] :=
 ⟨RInv.new n hn,hx,by rw [fm_rep];exact h1,by rw [fm_rep];exact h2,by rw [fm_rep];exact h3,by rw [fm_rep];exact h4,zeroPs n hn.2,PensG.nil w [],fun q hq=>by rw [List.eq_of_mem_replicate hq];exact PensG.nil w [],fun b hb=>by cases hb⟩
theorem r12new_any (w:World) (n:Nat) (hn:2 ≤ n∧n ≤ 8):Calls Tryz.prog 39 #[nu (n:Int)] w fun e w'=>∃ x G,e = .returned (pt x 0)∧RY w' x G (newR n)∧(∀ b ∈ G,w.heap.size ≤ b)∧Below w.heap.size w w':=by
 have hn8:=hn.2
 go_enter Tryz.func39,Tryz.ntmps39
 go_upto_region 1 with fail
 refine wp_region_grow (N:=13) 10 (vG [1,3,5,7,8,9] (vNn w.heap.size n) [nu (n:Int),undef,nu (n:Int),undef,nu (n:Int),undef,nu (n:Int)]) (by kernel_rfl) (by kernel_rfl) (by kernel_rfl) rfl (vG_mono (vNn_mono w.heap.size n)) ?_ ?_
 ·intro i o hi ho
  match i,ho with
  | 0,ho=>cases ho;exact fun a w hB hk hD=>op_move 0 _ rfl (hk 0 (by kernel_rfl)) ⟨_,rfl,mkC (by decide) rfl,Below.refl _ _⟩
  | 1,ho=>cases ho;exact fun a w hB hk hD=>op_make 3 rfl Tryz.underlying104 infoSub rfl (subC_len wfZeroS) ⟨by decide,by decide⟩ (by decide) n hn8 (vG_c (hD 0 3 (by kernel_rfl) (by kernel_rfl)) (by decide)) ⟨_,rfl,mkS (by decide) ⟨w.heap.size,rfl,hB.size,top_obj w _⟩,below_a1 _ _⟩
  | 2,ho=>cases ho;exact fun a w hB hk hD=>op_move 0 _ rfl (hk 0 (by kernel_rfl)) ⟨_,rfl,mkC (by decide) rfl,Below.refl _ _⟩
  | 3,ho=>cases ho;exact fun a w hB hk hD=>op_make 5 rfl Tryz.underlying105 infoRep rfl (repC_len wfZeroR _) ⟨by decide,by decide⟩ (by decide) n hn8 (vG_c (hD 2 5 (by kernel_rfl) (by kernel_rfl)) (by decide)) ⟨_,rfl,mkS (by decide) ⟨w.heap.size,rfl,hB.size,top_obj w _⟩,below_a1 _ _⟩
  | 4,ho=>cases ho;exact fun a w hB hk hD=>op_move 0 _ rfl (hk 0 (by kernel_rfl)) ⟨_,rfl,mkC (by decide) rfl,Below.refl _ _⟩
  | 5,ho=>cases ho;exact fun a w hB hk hD=>op_make 7 rfl Tryz.underlying66 infoSt rfl rfl ⟨by decide,by decide⟩ (by decide) n hn8 (vG_c (hD 4 7 (by kernel_rfl) (by kernel_rfl)) (by decide)) ⟨_,rfl,mkS (by decide) ⟨w.heap.size,rfl,hB.size,top_obj w _⟩,below_a1 _ _⟩
  | 6,ho=>cases ho;exact fun a w hB hk hD=>op_move 0 _ rfl (hk 0 (by kernel_rfl)) ⟨_,rfl,mkC (by decide) rfl,Below.refl _ _⟩
  | 7,ho=>cases ho;exact fun a w hB hk hD=>op_make 9 rfl Tryz.underlying106 infoDig rfl rfl ⟨by decide,by decide⟩ (by decide) n hn8 (vG_c (hD 6 9 (by kernel_rfl) (by kernel_rfl)) (by decide)) ⟨_,rfl,mkS (by decide) ⟨w.heap.size,rfl,hB.size,top_obj w _⟩,below_a1 _ _⟩
  | 8,ho =>
   cases ho
   intro a w hB hk hD
   obtain ⟨gs,e1,b1,r1⟩:=vG_s (hD 1 4 (by kernel_rfl) (by kernel_rfl)) (by decide)
   obtain ⟨gr,e2,b2,r2⟩:=vG_s (hD 3 6 (by kernel_rfl) (by kernel_rfl)) (by decide)
   obtain ⟨gv,e3,b3,r3⟩:=vG_s (hD 5 8 (by kernel_rfl) (by kernel_rfl)) (by decide)
   obtain ⟨gt,e4,b4,r4⟩:=vG_s (hD 7 10 (by kernel_rfl) (by kernel_rfl)) (by decide)
   have hb:=build_ref w n gs gr gv gt
   rw [← e1,← e2,← e3,← e4] at hb
   exact op_build _ _ rfl _ (by simp only [List.map_toArray,List.map_cons,List.map_nil];exact hb) ⟨_,rfl,mkS (by decide) ⟨gs,gr,gv,gt,rfl,⟨b1,r1⟩,⟨b2,r2⟩,⟨b3,r3⟩,⟨b4,r4⟩⟩,Below.refl _ _⟩
  | 9,ho =>
   cases ho
   intro a w hB hk hD
   obtain ⟨gs,gr,gv,gt,e0,h1,h2,h3,h4⟩:=vG_s (hD 8 11 (by kernel_rfl) (by kernel_rfl)) (by decide)
   refine op_box _ 11 _ rfl e0 (fun W=>rfl) ⟨_,rfl,mkS (by decide) ⟨gs,gr,gv,gt,⟨w.heap.size,rfl,hB.size,top_obj w _⟩,⟨h1.1,row_kept h1.2 (below_a1 _ _)⟩,⟨h2.1,row_kept h2.2 (below_a1 _ _)⟩,⟨h3.1,row_kept h3.2 (below_a1 _ _)⟩,⟨h4.1,row_kept h4.2 (below_a1 _ _)⟩⟩,below_a1 _ _⟩
  | (i + 10),ho=>omega
 ·intro o a w' ho hB hs hd hk hv
  cases ho
  obtain ⟨gs,gr,gv,gt,⟨x,e0,b0,r0⟩,h1,h2,h3,h4⟩:=vG_s (hv 9 12 (by omega) (by kernel_rfl)) (by decide)
  refine op_assign 12 _ rfl e0 ?_
  obtain ⟨tm,df⟩:=a
  obtain rfl:df = []:=hd
  have h5:2 < tm.size:=by
   have:tm.size=13:=hs
   omega
  have HZ:=hid (new_rz hn r0 h1.2 h2.2 h3.2 h4.2)
  have HB:=hid hB
  have HG:Hid (∀ b ∈ [x,gs,gr,gv,gt],w.heap.size ≤ b):=by
   intro b hb
   simp only [List.mem_cons,List.not_mem_nil,or_false] at hb
   rcases hb with rfl | rfl | rfl | rfl | rfl
   ·exact b0
   ·exact h1.1
   ·exact h2.1
   ·exact h3.1
   ·exact h4.1
  have HL:Hid (∀ b ∈ [x,gs,gr,gv,gt],b < w'.heap.size):=by
   intro b hb
   simp only [List.mem_cons,List.not_mem_nil,or_false] at hb
   rcases hb with rfl | rfl | rfl | rfl | rfl
   ·exact row_ltA r0
   ·exact row_ltA h1.2
   ·exact row_ltA h2.2
   ·exact row_ltA h3.2
   ·exact row_ltA h4.2
  clear hv hk hs r0 h1 h2 h3 h4 b0 hB
  go_wp2
  go_ret
  exact ⟨x,by simp [h5],[x,gs,gr,gv,gt],⟨gs,gr,gv,gt,_,_,[],HZ.out,by simp,HL.out⟩,HG.out,HB.out⟩
theorem r12is_any {w:World} {x:Nat} {G:List Nat} {R:Rs} (h:RY w x G R) (c:Int):Calls Tryz.prog 44 #[pt x 0,nu c] w fun e w'=>e = .returned (.bool (hasB R.n c))∧w' = w:=by
 obtain ⟨bs,br,bv,bt,ps,vP,Y,hz,-⟩:=h
 have c1:=hz.cS
 unfold sl at c1
 unfold hasB
 clear hz
 by_cases h0:0 ≤ c
 ·have d0:decide (0 ≤ c)=true:=decide_eq_true h0
  rw [d0,Bool.true_and]
  go_enter Tryz.func44,Tryz.ntmps44
  go_wp2
  go_ret
  exact ⟨rfl,rfl⟩
 ·have d0:decide (0 ≤ c)=false:=decide_eq_false h0
  rw [d0,Bool.false_and]
  go_enter Tryz.func44,Tryz.ntmps44
  go_wp2
  go_ret
  exact ⟨rfl,rfl⟩
open Go Go.RowKit
set_option maxRecDepth 100000
theorem fm_same {α:Type} (f:α→List Value) (l:List α) (c:Nat) (h:c < l.length) (a:α) (e:f a=f l[c]):(l.set c a).flatMap f=l.flatMap f:=by
 rw [fm_set f l c a h,fm_split f l c h,e]
theorem map_set_take {R R':Rs} {ps:List RG} {c:Nat} {g':Reg} (v':Value) (h:ps.map (·.1)=R.regs.take R.n) (e1:R'.n=R.n) (e2:R'.regs=R.regs.set c g'):(ps.set c (g',v')).map (·.1)=R'.regs.take R'.n:=by
 rw [List.map_set,h,e1,e2,List.take_set]
def setG (R:Rs) (c:Nat) (g:Reg):Rs:={ R with regs:=R.regs.set c g }
section
variable {w w':World} {x bs br bv bt:Nat} {R:Rs} {ps:List RG} {vP:Value} {Y:List Nat}
theorem RZ.snd (h:RZ w x bs br bv bt R ps vP Y) {c:Nat} (hc:c < R.n):∃ u,ps[c]? = some (R.reg (c:Int),u)∧PensG w Y u (R.reg (c:Int)).ans.pend:=by
 have hc':c < ps.length:=by rw [h.len];exact hc
 refine ⟨(ps[c]).2,?_,?_⟩
 ·rw [List.getElem?_eq_getElem hc',← h.at hc']
 ·have:=h.all _ (List.getElem_mem hc')
  rwa [h.at hc'] at this
theorem RZ.open (h:RZ w x bs br bv bt R ps vP Y) {c:Nat} (hc:c < R.n) {u:Value} (hu:ps[c]? = some (R.reg (c:Int),u)) :
  (ps.flatMap fS=(ps.take c).flatMap fS++(subC (R.reg (c:Int)).asked++(ps.drop (c + 1)).flatMap fS))∧(ps.flatMap fR=(ps.take c).flatMap fR++(repC (R.reg (c:Int)).ans u++(ps.drop (c + 1)).flatMap fR)) ∧
  (ps.flatMap fV=(ps.take c).flatMap fV++([st (R.reg (c:Int)).view]++(ps.drop (c + 1)).flatMap fV))∧(ps.flatMap fT=(ps.take c).flatMap fT++(dg (R.reg (c:Int)).tag++(ps.drop (c + 1)).flatMap fT)):=by
 have hc':c < ps.length:=by rw [h.len];exact hc
 have e:ps[c]=(R.reg (c:Int),u):=by
  rw [List.getElem?_eq_getElem hc'] at hu
  exact Option.some.inj hu
 refine ⟨?_,?_,?_,?_⟩
 ·have:=fm_split fS ps c hc'
  rwa [e] at this
 ·have:=fm_split fR ps c hc'
  rwa [e] at this
 ·have:=fm_split fV ps c hc'
  rwa [e] at this
 ·have:=fm_split fT ps c hc'
  rwa [e] at this
theorem RZ.nes (h:RZ w x bs br bv bt R ps vP Y):x ≠ bs∧x ≠ br∧x ≠ bv∧x ≠ bt∧bs ≠ br∧bs ≠ bv∧bs ≠ bt∧br ≠ bv∧br ≠ bt∧bv ≠ bt :=
 ⟨typ_ne h.row h.subs (by decide),typ_ne h.row h.reps (by decide),typ_ne h.row h.views (by decide),typ_ne h.row h.tags (by decide),typ_ne h.subs h.reps (by decide),typ_ne h.subs h.views (by decide),typ_ne h.subs h.tags (by decide),typ_ne h.reps h.views (by decide),typ_ne h.reps h.tags (by decide),typ_ne h.views h.tags (by decide)⟩
theorem PensG.but {v:Value} {l:List Pen} {g:Nat} (h:PensG w Y v l) (hb:But g w w') (hg:g ∉ Y):PensG w' Y v l:=h.kp (X:=[g]) ((Kp.refl _ _).but hb (Or.inl (by simp))) (fun b hb' hx=>by rw [List.mem_singleton] at hx;subst hx;exact hg hb')
theorem mem_setC {α:Type} {l:List α} {c:Nat} {a q:α} (h:q ∈ l.set c a):q ∈ l ∨ q=a:=List.mem_or_eq_of_mem_set h
theorem RZ.putSub (h:RZ w x bs br bv bt R ps vP Y) {c:Nat} (hc:c < R.n) {u:Value} (hu:ps[c]? = some (R.reg (c:Int),u)) (hp:PensG w Y u (R.reg (c:Int)).ans.pend) {s:Sub} (hv:RInv (setG R c { R.reg (c:Int) with asked:=s }))
  (hr:w'.heap[bs]? = some (.cells ((ps.take c).flatMap fS++(subC s++(ps.drop (c + 1)).flatMap fS)).toArray 39)) (hb:But bs w w') :
  RZ w' x bs br bv bt (setG R c { R.reg (c:Int) with asked:=s }) (ps.set c ({ R.reg (c:Int) with asked:=s },u)) vP Y:=by
 have hc':c < ps.length:=by rw [h.len];exact hc
 have e:ps[c]=(R.reg (c:Int),u):=by
  rw [List.getElem?_eq_getElem hc'] at hu
  exact Option.some.inj hu
 obtain ⟨n1,-,-,-,n5,n6,n7,-,-,-⟩:=h.nes
 have hY:bs ∉ Y:=fun hy=>h.away bs hy (by simp)
 refine ⟨hv,hb.row h.row n1,?_,?_,?_,?_,map_set_take u h.regs rfl rfl,h.pens.but hb hY,fun q hq=>?_,h.away⟩
 ·rw [fm_set fS ps c _ hc']
  exact hr
 ·rw [fm_same fR ps c hc' _ (by rw [e];rfl)]
  exact hb.row h.reps n5.symm
 ·rw [fm_same fV ps c hc' _ (by rw [e];rfl)]
  exact hb.row h.views n6.symm
 ·rw [fm_same fT ps c hc' _ (by rw [e];rfl)]
  exact hb.row h.tags n7.symm
 ·rcases mem_setC hq with hq | rfl
  ·exact (h.all q hq).but hb hY
  ·exact hp.but hb hY
theorem RZ.putRep (h:RZ w x bs br bv bt R ps vP Y) {c:Nat} (hc:c < R.n) {u:Value} (hu:ps[c]? = some (R.reg (c:Int),u)) {y:Rep} {u':Value} (hp:PensG w Y u' y.pend) (hv:RInv (setG R c { R.reg (c:Int) with ans:=y }))
  (hr:w'.heap[br]? = some (.cells ((ps.take c).flatMap fR++(repC y u' ++ (ps.drop (c + 1)).flatMap fR)).toArray 42)) (hb:But br w w') :
  RZ w' x bs br bv bt (setG R c { R.reg (c:Int) with ans:=y }) (ps.set c ({ R.reg (c:Int) with ans:=y },u')) vP Y:=by
 have hc':c < ps.length:=by rw [h.len];exact hc
 have e:ps[c]=(R.reg (c:Int),u):=by
  rw [List.getElem?_eq_getElem hc'] at hu
  exact Option.some.inj hu
 obtain ⟨-,n2,-,-,n5,-,-,n8,n9,-⟩:=h.nes
 have hY:br ∉ Y:=fun hy=>h.away br hy (by simp)
 refine ⟨hv,hb.row h.row n2,?_,?_,?_,?_,map_set_take u' h.regs rfl rfl,h.pens.but hb hY,fun q hq=>?_,h.away⟩
 ·rw [fm_same fS ps c hc' _ (by rw [e];rfl)]
  exact hb.row h.subs n5
 ·rw [fm_set fR ps c _ hc']
  exact hr
 ·rw [fm_same fV ps c hc' _ (by rw [e];rfl)]
  exact hb.row h.views n8.symm
 ·rw [fm_same fT ps c hc' _ (by rw [e];rfl)]
  exact hb.row h.tags n9.symm
 ·rcases mem_setC hq with hq | rfl
  ·exact (h.all q hq).but hb hY
  ·exact hp.but hb hY
theorem RZ.more (h:RZ w x bs br bv bt R ps vP Y) {Y':List Nat} (hY:∀ b ∈ Y,b ∈ Y') (ha:∀ b ∈ Y',b ∉ [x,bs,br,bv,bt]):RZ w x bs br bv bt R ps vP Y':=⟨h.inv,h.row,h.subs,h.reps,h.views,h.tags,h.regs,h.pens.more hY,fun q hq=>(h.all q hq).more hY,ha⟩
end
theorem ref_pend (R:Rs) (bs br bv bt:Nat) (vP:Value):refC R bs br bv bt vP=([sl bs R.n,sl br R.n,sl bv R.n,sl bt R.n,nu R.who,st R.long]++dg R.ltag)++([vP]++[]):=by simp [refC]
theorem setG_reg {R:Rs} (h:RInv R) {c:Nat} (hc:c < R.n) (g:Reg):(setG R c g).reg (c:Int)=g:=by
 rw [reg_nat]
 have h8:=h.n
 exact getD_set_same R.regs c g zeroG (by rw [h.len];omega)
theorem setG_two (R:Rs) (c:Nat) (g g':Reg):setG (setG R c g) c g' = setG R c g':=by
 unfold setG
 simp [List.set_set]
end Go.Proofs.YthkkjjlpahdagaaGreatDoor.Ms
