/- S17 -/
import Derived.Test.YtagmnmoaekbffaaGreatDoorS16
import Derived.Deep.RegionLaw
set_option maxHeartbeats 1000000
namespace Go.Proofs.YtagmnmoaekbffaaGreatDoor
open Go.Proofs.Tryz
open Go
set_option maxRecDepth 100000
def objL (st:S8) (rest:List UInt8) (n:Nat):List Value:=st.list.map cw++(rest.map cb++[.int .i64 (n:Int)])
def Inv (st:S8) (rest m:List UInt8):Prop:=rest.length=64/\st=after m (m.length / 64)/\rest.take (m.length % 64)=m.drop (64 * (m.length / 64))
theorem j0T (st:S8) (rest:List UInt8) (n:Nat) (h:rest.length=64):(objL st rest n).length=73:=by simp [objL,b0L,h]
theorem h0K (st:S8) (rest:List UInt8) (n:Nat) (h:rest.length=64):(objL st rest n)[72]? = some (.int .i64 (n:Int)):=by
 unfold objL;rw [List.getElem?_append_right (by simp [b0L]),List.getElem?_append_right (by simp [b0L,h])];simp [b0L,h]
theorem i0Y (st:S8) (rest:List UInt8) (n:Nat) (j:Nat) (v:Value) (hv:(st.list.map cw)[j]? = some v):(objL st rest n)[0 + j]? = some v:=by
 have hj:=(List.getElem?_eq_some_iff.1 hv).1;unfold objL;rw [Nat.zero_add,List.getElem?_append_left hj];exact hv
theorem q0p (st:S8) (rest:List UInt8) (n:Nat) (j:Nat) (v:Value) (hv:(rest.map cb)[j]? = some v):(objL st rest n)[8 + j]? = some v:=by
 have hj:=(List.getElem?_eq_some_iff.1 hv).1;unfold objL;rw [List.getElem?_append_right (by simp [b0L]),List.getElem?_append_left (by simp [b0L] at hj ⊢;omega)];simpa [b0L] using hv
theorem s0u (st:S8) (rest:List UInt8) (n k:Nat) (h:rest.length=64):(objL st rest n).set 72 (.int .i64 (k:Int))=objL st rest k:=by
 unfold objL;rw [← List.append_assoc,← List.append_assoc];have e:72=(st.list.map cw++rest.map cb).length:=by simp [b0L,h]
 rw [e,set_mid]
theorem o0B (st st':S8) (rest:List UInt8) (n:Nat):(objL st rest n).take 0++st'.list.map cw++(objL st rest n).drop (0 + (st'.list.map cw).length)=objL st' rest n:=by
 unfold objL;rw [List.drop_append_of_le_length (by simp [b0L]),List.drop_eq_nil_of_le (by simp [b0L])];simp
def laid (rest y:List UInt8) (r t:Nat):List UInt8:=rest.take r++(y.take t++rest.drop (r + t))
theorem j0U (rest y:List UInt8) (r t:Nat) (h:rest.length=64) (hy:t <= y.length) (hr:r + t <= 64):(laid rest y r t).length=64:=by
 simp [laid,h];omega
theorem q0q (st:S8) (rest y:List UInt8) (n r t:Nat) (h:rest.length=64) (hy:t <= y.length) (hr:r + t <= 64) :
  (objL st rest n).take (8 + r)++(y.take t).map cb++(objL st rest n).drop (8 + r + ((y.take t).map cb).length)=objL st (laid rest y r t) n:=by
 have hs:(st.list.map cw).length=8:=by simp [b0L]
 have hl:((y.take t).map cb).length=t:=by simp;omega
 rw [hl];unfold objL laid;rw [List.take_append,List.drop_append,hs,List.take_of_length_le (by rw [hs];omega),List.drop_eq_nil_of_le (by rw [hs];omega)];rw [show 8 + r - 8=r by omega,show 8 + r + t - 8=r + t by omega];rw [List.take_append_of_le_length (by simp [h];omega),List.drop_append_of_le_length (by simp [h];omega)];simp [List.map_take,List.map_drop]
theorem u0s (rest:List UInt8) (h:rest.length=64):Inv ini rest []:=⟨h,rfl,by simp⟩
theorem x0i {st:S8} {rest m:List UInt8} (h:Inv st rest m) (y:List UInt8) (t:Nat) (hy:t <= y.length) (hr:m.length % 64 + t <= 64) (h0:(m.length + t) % 64 ≠ 0) :
  Inv st (laid rest y (m.length % 64) t) (m++y.take t):=by
 obtain ⟨h1,h2,h3⟩:=h;have hl:(m++y.take t).length=m.length + t:=by simp;omega
 have hq:(m.length + t) / 64=m.length / 64:=by omega
 have hm:(m.length + t) % 64=m.length % 64 + t:=by omega
 refine ⟨j0U _ _ _ _ h1 hy (by omega),?_,?_⟩
 ·rw [hl,hq,h2,h0I m _ _ (by omega)]
 ·rw [hl,hq,hm,List.drop_append_of_le_length (by omega),← h3]
  unfold laid;rw [← List.append_assoc,List.take_append_of_le_length (by simp [h1];omega),List.take_of_length_le (by simp [h1];omega)]
theorem x0j {st:S8} {rest m:List UInt8} (h:Inv st rest m) (y:List UInt8) (t:Nat) (hy:t <= y.length) (hr:m.length % 64 + t <= 64) (h0:(m.length + t) % 64=0) (ht:0 < t) :
  Inv (comp st (laid rest y (m.length % 64) t)) (laid rest y (m.length % 64) t) (m++y.take t):=by
 obtain ⟨h1,h2,h3⟩:=h;have hl:(m++y.take t).length=m.length + t:=by simp;omega
 have hq:(m.length + t) / 64=m.length / 64 + 1:=by omega
 have h64:m.length % 64 + t=64:=by omega
 have hb:laid rest y (m.length % 64) t=o0x (m++y.take t) (m.length / 64):=by
  unfold laid o0x;rw [List.drop_append_of_le_length (by omega),← h3,h64,List.drop_eq_nil_of_le (by omega),List.append_nil];exact (List.take_of_length_le (by simp [h1];omega)).symm
 refine ⟨j0U _ _ _ _ h1 hy (by omega),?_,?_⟩
 ·rw [hl,hq,after,h0I m _ _ (by omega),← h2,← hb]
 ·rw [hl,hq,h0,List.drop_eq_nil_of_le (by rw [hl];omega)]
  simp
def l0b:Value->Nat
 | .string s=>s.size
 | _=>0
open Go Go.RowKit
set_option maxRecDepth 100000
def Has (w:World) (p:Nat) (m:List UInt8):Prop:=∃ st rest,Inv st rest m/\w.heap[p]? = some (.cells (objL st rest m.length).toArray 167)
structure Touch (p:Nat) (w w':World):Prop where
 os:w'.os=w.os
 tape:w'.tape=w.tape
 output:w'.output=w.output
 size:w.heap.size <= w'.heap.size
 block:∀ k,k < w.heap.size->k ≠ p->w'.heap[k]? = w.heap[k]?
theorem Touch.refl (p:Nat) (w:World):Touch p w w:=⟨rfl,rfl,rfl,Nat.le_refl _,fun _ _ _=>rfl⟩
theorem Touch.trans {p:Nat} {a b c:World} (h:Touch p a b) (k:Touch p b c):Touch p a c :=
 ⟨k.os.trans h.os,k.tape.trans h.tape,k.output.trans h.output,Nat.le_trans h.size k.size,fun i hi hp=>(k.block i (Nat.lt_of_lt_of_le hi h.size) hp).trans (h.block i hi hp)⟩
theorem Touch.of {p:Nat} {w w':World} (h:Below w.heap.size w w'):Touch p w w':=⟨h.os,h.tape,h.output,h.size,fun k hk _=>h.block k hk⟩
theorem Touch.below {p B:Nat} {w w':World} (h:Touch p w w') (h1:B <= p) (h2:B <= w.heap.size):Below B w w':=⟨h.os,h.tape,h.output,h.size,fun k hk=>h.block k (by omega) (by omega)⟩
theorem e0L (p:Nat) (w:World) (cs:Array Value):Touch p w (w.setRow p cs):=⟨rfl,rfl,rfl,by simp,fun k _ hp=>setRow_other w p k cs hp⟩
theorem e0o (p i:Nat) (w:World) (v:Value):Touch p w (w.setCell ⟨p,i,none⟩ v):=⟨rfl,rfl,rfl,by simp [World.setCell],fun k _ hp=>heap_setCell_other w ⟨p,i,none⟩ k v hp⟩
theorem e0Y (p:Nat) (w:World) (n:Nat):Touch p w (w.drewN n):=⟨rfl,rfl,rfl,Nat.le_refl _,fun _ _ _=>rfl⟩
theorem Ktab.touch {w w':World} {p:Nat} (h:Ktab w) (ht:Touch p w w') (hp:0 < p):Ktab w':=by
 obtain ⟨t,fr,h0⟩:=h;exact ⟨t,fr,(ht.block 0 (Ktab.pos ⟨t,fr,h0⟩) (by omega)).trans h0⟩
theorem step_copy_string {P:Program} {ops:Array Oper} {o:Oper} {a:Act} {w:World} {K:Act->World->Prop} {Q:Exit->Act->World->Prop} {E:Prop}
  (hgd:o.guard=none) (d x:Operand) (dT sT elem:TypeId) (hop:o.op=Op.call { callee:=Callee.builtin Builtin.copy,args:=#[d,x],argTypes:=#[dT,sT] })
  (g off dLen dCap:Nat) (hd:a.eval d = .slice (some ⟨g,off,none⟩) dLen dCap) (s:ByteArray) (hx:a.eval x = .string s) (cur:Array Value) (t:TypeId) (y:List UInt8) (n:Nat) (hs:s=⟨y.toArray⟩) (hn:n=Nat.min y.length dLen)
  (hu:P.underlying dT=some (.slice elem)) (hz:(P.info? elem).map (·.size)=some 1) (hg:w.heap[g]? = some (.cells cur t (0,0))) (hfit:off + n <= cur.size)
  (hK:K (a.put o.dst (.int .i64 (n:Int))) (w.setRow g (cur.toList.take off++(y.take n).map cb++cur.toList.drop (off + ((y.take n).map cb).length)).toArray)) :
  if Region.wanted o (yielded ops a.tmps)=true then Oper.wp P o a w K Q else E:=by
 have hw:Region.wanted o (yielded ops a.tmps)=true:=by simp [Region.wanted,hgd]
 rw [if_pos hw];have hrun:=run_copy_string (P:=P) w dT sT o.type elem g off dLen dCap s cur t y n hs hn hu hz hg hfit;unfold Oper.wp;simp only [execOp,hop,resolve,invoke,builtin,Sem.run_bind,Sem.run_pure,Result.andThen_ok,List.map_toArray,List.map_cons,List.map_nil,hd,hx,hrun];exact hK
theorem d0s {P:Program} {ops:Array Oper} {o:Oper} {a:Act} {w:World} {K:Act->World->Prop} {Q:Exit->Act->World->Prop} {E:Prop} (hgd:o.guard=none) (ty:TypeId) (x:Operand) (ho:o.op = .load ty x)
  (g off:Nat) (hx:a.eval x = .pointer (some ⟨g,off,none⟩)) (cs:List Value) (d:TypeDesc) (hc:∀ j v,cs[j]? = some v->w.cell? ⟨g,off + j,none⟩=some v)
  (hu:P.underlying ty=some d) (hd:(match d with | .struct _ | .array _ _=>true | _=>false)=true) (hi:(P.info? ty).map (·.size)=some cs.length)
  (hK:K (a.put o.dst (.agg cs.toArray)) w):if Region.wanted o (yielded ops a.tmps)=true then Oper.wp P o a w K Q else E:=by
 have hw:Region.wanted o (yielded ops a.tmps)=true:=by simp [Region.wanted,hgd]
 rw [if_pos hw]
 have hl:(loadCells ⟨g,off,none⟩ cs.length).run P w = .ok cs.toArray w :=
  run_loadCells_list (P:=P) w ⟨g,off,none⟩ cs (fun j v hv=>by rw [b0f];exact hc j v hv)
 cases hq:P.info? ty with
 | none=>simp [hq] at hi
 | some i =>
  have hs:i.size=cs.length:=by simpa [hq] using hi
  have hagg:(isAgg ty).run P w = .ok true w:=by
   unfold isAgg;rw [Sem.run_bind,run_underlying hu w]
   cases d <;> simp_all
  unfold Oper.wp execOp;simp [ho,hx,Instr.loadAt,Instr.sureAddr,Sem.run_bind,loadVar,hagg,sizeOf,typeInfo,hq,hs,hl];exact hK
theorem f0p {P:Program} {ops:Array Oper} {o:Oper} {a:Act} {w:World} {K:Act->World->Prop} {Q:Exit->Act->World->Prop} {E:Prop} (hgd:o.guard=none) (ty:TypeId) (x y:Operand) (hn:o.dst=none) (ho:o.op = .store ty x y)
  (g off:Nat) (hx:a.eval x = .pointer (some ⟨g,off,none⟩)) (cs:List Value) (hy:a.eval y = .agg cs.toArray) (cur:Array Value) (t:TypeId) (hg:w.heap[g]? = some (.cells cur t (0,0)))
  (hfit:off + cs.length <= cur.size) (h1:∀ v ∈ cs,v.oneCell' = true) (hi:(P.info? ty).map (·.size)=some cs.length)
  (hK:K a (w.setRow g (cur.toList.take off++cs++cur.toList.drop (off + cs.length)).toArray)):if Region.wanted o (yielded ops a.tmps)=true then Oper.wp P o a w K Q else E:=by
 have hw:Region.wanted o (yielded ops a.tmps)=true:=by simp [Region.wanted,hgd]
 rw [if_pos hw];have hst:=run_storeCells_at P g off t cs 0 cur w hg (by simpa using hfit) h1
 cases hq:P.info? ty with
 | none=>simp [hq] at hi
 | some i =>
  have hs:i.size=cs.length:=by simpa [hq] using hi
  unfold Oper.wp execOp;simp [ho,hx,hy,Instr.storeAt,Instr.sureAddr,Sem.run_bind,storeVar,sizeOf,typeInfo,hq,hs,hst,Value.cells];rw [List.append_assoc] at hK;show K (a.put o.dst undef) _;rw [hn];exact hK
theorem s0v (y:List UInt8) (t:Nat):(⟨y.toArray⟩:ByteArray).extract t y.length=⟨(y.drop t).toArray⟩:=by
 have h:((⟨y.toArray⟩:ByteArray).extract t y.length).data=(y.drop t).toArray:=by
  rw [ByteArray.data_extract];apply Array.toList_inj.1;simp;exact List.take_of_length_le (by rw [List.length_drop];omega)
 cases hh:(⟨y.toArray⟩:ByteArray).extract t y.length with
 | mk d=>rw [hh] at h;simp only at h;rw [h]
theorem s0w (y:List UInt8) (r:Nat) (hy:y ≠ []) (hr:r < 64):∃ t,t=Nat.min y.length (64 - r)/\0 < t/\t <= y.length/\r + t <= 64:=by
 have h0:=List.length_pos_iff.2 hy;have h1:Nat.min y.length (64 - r) <= 64 - r:=Nat.min_le_right _ _;have h2:0 < Nat.min y.length (64 - r):=Nat.lt_min.2 ⟨h0,by omega⟩;exact ⟨Nat.min y.length (64 - r),rfl,h2,Nat.min_le_left _ _,by omega⟩
theorem j0V (p:Nat) (m l:List UInt8) (hml:m.length + l.length < 281474976710656) (w:World) (hH:Has w p m) (hK:Ktab w) (hp:0 < p) :
  Calls prog 88 #[.pointer (some ⟨p,0,none⟩),.string ⟨l.toArray⟩] w fun e w'=>e = .returned (.bool true)/\Has w' p (m++l)/\Touch p w w':=by
 have HH0:Hid (Has w p (m++[])):=by show Has _ _ _;rw [List.append_nil];exact hH
 have HL0:Hid (l = []++l):=rfl;have HK:Hid (Ktab w):=hK;clear hH hK;go_enter func88,ntmps88;go_wp2;go_loopw [1] (fun s w'=>∃ x y:List UInt8,s = .string ⟨y.toArray⟩/\Hid (l=x++y)/\Hid (Has w' p (m++x))/\Hid (Touch p w w')) (fun s _=>l0b s)
 case atStart=>exact ⟨[],l,rfl,HL0,HH0,Touch.refl p w⟩
 case round =>
  clear HH0 HL0;obtain ⟨x,y,rfl,HL,HH,HT⟩:=hrel;have HKr:Hid (Ktab wr):=HK.out.touch HT.out hp;have hly:m.length + x.length + y.length=m.length + l.length:=by rw [HL.out,List.length_append];omega
  by_cases hy:y = []
  ·subst hy
   go_wp2;go_ret;refine ⟨rfl,?_,HT.out⟩;rw [HL.out,List.append_nil];exact HH.out
  ·obtain ⟨st,rest,HI,hh⟩:=HH.out
   have hlm:(m++x).length=m.length + x.length:=List.length_append;obtain ⟨M,hM⟩:∃ M,M=m++x:=⟨_,rfl⟩;have HMx:Hid (M=m++x):=hM;rw [← hM] at hlm HI hh;clear HH hM;have hrest:=HI.1;obtain ⟨n,hn⟩:∃ n,n=M.length:=⟨_,rfl⟩;have Hn:Hid (n=M.length):=hn;rw [← hn] at hh;obtain ⟨t,ht1,ht0,ht2,ht3⟩:=s0w y (n % 64) hy (by omega);have HT1:Hid (t=Nat.min y.length (64 - n % 64)):=ht1;have HIv:Hid (Inv st rest M):=HI;have hh':Hid (wr.heap[p]? = some (.cells (objL st rest n).toArray 167)):=hh;have hcs:Hid ((objL st rest n).length=73):=j0T st rest n hrest
   have hc72:wr.cell? ⟨p,72,none⟩=some (.int .i64 n):=by
    rw [cell_of_row _ _ _ _ _ _ hh];simpa using h0K st rest n hrest
   have hyp:0 < y.length:=List.length_pos_iff.2 hy;have hys:(⟨y.toArray⟩:ByteArray).size=y.length:=rfl;have hnb:n < 281474976710656:=by omega
   obtain ⟨r,hr⟩:∃ r,r=n % 64:=⟨_,rfl⟩;have Hr:Hid (r=n % 64):=hr;have htm:(n:Int).tmod 64=(r:Int):=by rw [Int.tmod_eq_emod_of_nonneg (by omega)];omega
   have hr64:r < 64:=by omega
   have hr65:(r:Int) <= 64:=by omega
   have hr66:¬ (64=r):=by omega
   rw [← hr] at HT1 ht3;clear HI hh ht1 hn hly hlm hr;go_upto_region 4 with fail
   have HX2:Hid ((List.take (8 + r) (objL st rest n)++(List.take t (List.map cb y)++List.drop (8 + r + t) (objL st rest n))).toArray=(objL st (laid rest y r t) n).toArray):=by
    have h:=q0q st rest y n r t hrest ht2 ht3;have hl:((y.take t).map cb).length=t:=by simp;omega
    rw [hl,List.append_assoc,List.map_take] at h;exact congrArg List.toArray h
   have hrl:=j0U rest y r t hrest ht2 ht3
   go_cut [5] from 11 to 21 (fun v wx=>v = .int .i64 t/\Hid (wx.heap[p]? = some (.cells (objL st (laid rest y r t) n).toArray 167))/\Hid (Touch p w wx))
   case first =>
    go_region_law (refine step_copy_string rfl _ _ 63 9 5 rfl p (8 + r) (64 - r) (64 - r) rfl _ rfl _ 167 y t rfl HT1.out underlying63 size5 hh'.out (by show 8 + r + t <= (objL st rest n).toArray.size;rw [List.size_toArray,hcs.out];omega) ?_)
    go_wp2_with fail
    go_meet
    refine ⟨rfl,?_,?_⟩
    ·show _=_
     rw [HX2.out];exact setRow_heap _ _ _ _ _ _ hh'.out
    ·exact HT.out.trans ((e0Y p wr 1).trans (e0L p _ _))
   case rest =>
    obtain ⟨rfl,HH2,HT2⟩:=hcut;clear HX2 hh' hc72 hcs HT HKr
    have hc72:wc.cell? ⟨p,72,none⟩=some (.int .i64 n):=by
     rw [cell_of_row _ _ _ _ _ _ HH2.out];simpa using h0K st (laid rest y r t) n hrl
    have hf72:wc.frozen? ⟨p,72,none⟩=false:=frozen_of_row _ _ _ _ _ HH2.out
    have HH3:Hid ((wc.setCell ⟨p,72,none⟩ (.int .i64 ((n:Int) + (t:Int)))).heap[p]? = some (.cells (objL st (laid rest y r t) (n + t)).toArray 167)):=by
     show _=_;rw [heap_setCell_same _ _ _ _ _ _ HH2.out];have h:=s0u st (laid rest y r t) n (n + t) hrl;simp only [List.setIfInBounds_toArray];rw [← h];simp
    have HT3:Hid (Touch p w (wc.setCell ⟨p,72,none⟩ (.int .i64 ((n:Int) + (t:Int))))):=HT2.out.trans (e0o p 72 wc _);obtain ⟨q,hq⟩:∃ q,q=(n + t) % 64:=⟨_,rfl⟩;have htm2:((n:Int) + (t:Int)).tmod 64=(q:Int):=by rw [Int.tmod_eq_emod_of_nonneg (by omega)];omega
    have Hq:Hid (q=(n + t) % 64):=hq;have HL3:Hid (l=(x++y.take t)++y.drop t):=by show _=_;rw [List.append_assoc,List.take_append_drop];exact HL.out
    have HSL:(⟨y.toArray⟩:ByteArray).extract t y.length=⟨(y.drop t).toArray⟩:=s0v y t;clear hq htm HT1;by_cases hz:q=0
    ·subst hz
     go_upto_region 8 with fail
     generalize wc.setCell ⟨p,72,none⟩ (.int .i64 ((n:Int) + (t:Int)))=w3 at *
     have hcA:∀ j v,(st.list.map cw)[j]? = some v->w3.drew.cell? ⟨p,0 + j,none⟩=some v:=fun j v hv=>by
      show w3.cell? _=_;rw [cell_of_row _ _ _ _ _ _ HH3.out];simpa using i0Y st (laid rest y r t) (n + t) j v hv
     have hcB:∀ j v,((laid rest y r t).map cb)[j]? = some v->w3.drew.cell? ⟨p,8 + j,none⟩=some v:=fun j v hv=>by
      show w3.cell? _=_;rw [cell_of_row _ _ _ _ _ _ HH3.out];simpa using q0p st (laid rest y r t) (n + t) j v hv
     have hiA:(prog.info? 165).map (·.size)=some (st.list.map cw).length:=by rw [List.length_map,b0L];exact size42
     have hiB:(prog.info? 163).map (·.size)=some ((laid rest y r t).map cb).length:=by rw [List.length_map,hrl];exact size43
     have hiC:(prog.info? 165).map (·.size)=some ((comp st (laid rest y r t)).list.map cw).length:=by rw [List.length_map,b0L];exact size42
     have hpl:p < w3.drew.heap.size:=(Array.getElem?_eq_some_iff.1 HH3.out).1;have hK3:Ktab w3.drew:=HK.out.touch (HT3.out.trans (e0Y p w3 1)) hp
     have hfit:0 + ((comp st (laid rest y r t)).list.map cw).length <= (objL st (laid rest y r t) (n + t)).toArray.size:=by
      rw [List.size_toArray,j0T _ _ _ hrl,List.length_map,b0L];omega
     have hst4:((objL st (laid rest y r t) (n + t)).toArray.toList.take 0++(comp st (laid rest y r t)).list.map cw++(objL st (laid rest y r t) (n + t)).toArray.toList.drop (0 + ((comp st (laid rest y r t)).list.map cw).length)).toArray=(objL (comp st (laid rest y r t)) (laid rest y r t) (n + t)).toArray :=
      congrArg List.toArray (o0B st (comp st (laid rest y r t)) (laid rest y r t) (n + t))
     have FIN:∀ wx:World,wx.heap[p]? = some (.cells (objL (comp st (laid rest y r t)) (laid rest y r t) (n + t)).toArray 167)->Has wx p (m++(x++y.take t)):=by
      intro wx hx;refine ⟨comp st (laid rest y r t),laid rest y r t,?_,?_⟩
      ·rw [← List.append_assoc,← HMx.out,Hr.out,Hn.out]
       exact x0j HIv.out y t ht2 (by rw [← Hn.out,← Hr.out];exact ht3) (by rw [← Hn.out];exact Hq.out.symm) ht0
      ·rw [← List.append_assoc,← HMx.out,List.length_append,← Hn.out,List.length_take,Nat.min_eq_left ht2]
       exact hx
     have hmeas:l0b (Value.string ⟨(y.drop t).toArray⟩) < l0b (Value.string ⟨y.toArray⟩):=by simp [l0b,ByteArray.size];omega
     refine wp_region_any (by kernel_rfl) ?_;change wpAny _ _ _ _ _ _ _ (World.drew _);refine wpAny_take (i:=0) (oi:={ dst:=some 39,op:=Op.move (Operand.tmp 0),type:=144,pos := "sum.go:50", after:=#[],guard:=none }) (v:=.pointer (some ⟨p,0,none⟩)) rfl (by kernel_rfl) (by kernel_rfl) (by kernel_rfl) (fun _ _ _ h=>h) (Or.inl ⟨by rfl,fun w=>by go_simp⟩) ?_;refine wpAny_take (i:=1) (oi:={ dst:=some 40,op:=Op.move (Operand.tmp 0),type:=144,pos := "sum.go:50", after:=#[],guard:=none }) (v:=.pointer (some ⟨p,0,none⟩)) rfl (by kernel_rfl) (by kernel_rfl) (by kernel_rfl) (fun _ _ _ h=>h) (Or.inl ⟨by rfl,fun w=>by go_simp⟩) ?_;refine wpAny_take (i:=2) (oi:={ dst:=some 41,op:=Op.nilCheck (Operand.tmp 40),type:=0,pos := "sum.go:50", after:=#[{ on:=1,ground:=Ground.data }],guard:=none }) (v:=.pointer (some ⟨p,0,none⟩)) rfl (by kernel_rfl) (by kernel_rfl) (by kernel_rfl) (fun _ _ _ h=>h) (Or.inl ⟨by rfl,fun w=>by go_simp⟩) ?_;refine wpAny_take (i:=3) (oi:={ dst:=some 42,op:=Op.fieldAddr 167 (Operand.tmp 41) 0,type:=0,pos := "sum.go:50", after:=#[{ on:=2,ground:=Ground.data }],guard:=none }) (v:=.pointer (some ⟨p,0,none⟩)) rfl (by kernel_rfl) (by kernel_rfl) (by kernel_rfl) (fun _ _ _ h=>h) (Or.inl ⟨by rfl,fun w=>by go_simp⟩) ?_;refine wpAny_take (i:=5) (oi:={ dst:=some 44,op:=Op.move (Operand.tmp 0),type:=144,pos := "sum.go:50", after:=#[],guard:=none }) (v:=.pointer (some ⟨p,0,none⟩)) rfl (by kernel_rfl) (by kernel_rfl) (by kernel_rfl) (fun _ _ _ h=>h) (Or.inl ⟨by rfl,fun w=>by go_simp⟩) ?_;refine wpAny_take (i:=6) (oi:={ dst:=some 45,op:=Op.nilCheck (Operand.tmp 44),type:=0,pos := "sum.go:50", after:=#[{ on:=5,ground:=Ground.data }],guard:=none }) (v:=.pointer (some ⟨p,0,none⟩)) rfl (by kernel_rfl) (by kernel_rfl) (by kernel_rfl) (fun _ _ _ h=>h) (Or.inl ⟨by rfl,fun w=>by go_simp⟩) ?_;refine wpAny_take (i:=7) (oi:={ dst:=some 46,op:=Op.fieldAddr 167 (Operand.tmp 45) 1,type:=0,pos := "sum.go:50", after:=#[{ on:=6,ground:=Ground.data }],guard:=none }) (v:=.pointer (some ⟨p,8,none⟩)) rfl (by kernel_rfl) (by kernel_rfl) (by kernel_rfl) (fun _ _ _ h=>h) (Or.inl ⟨by rfl,fun w=>by go_simp⟩) ?_;simp only [Act.put,List.setIfInBounds_toArray,List.set_cons_zero,List.set_cons_succ];refine wpAny_ready (rs:=[4,8]) (by kernel_rfl) (by simp) (AllReady.cons (o:={ dst:=some 43,op:=Op.load 165 (Operand.tmp 42),type:=165,pos := "sum.go:50", after:=#[{ on:=3,ground:=Ground.data }],guard:=none }) rfl (fun K hK=>?_) (AllReady.cons (o:={ dst:=some 47,op:=Op.load 163 (Operand.tmp 46),type:=163,pos := "sum.go:50", after:=#[{ on:=7,ground:=Ground.data }],guard:=none }) rfl (fun K hK=>?_) AllReady.nil))
     ·refine d0s rfl 165 (Operand.tmp 42) rfl p 0 rfl (st.list.map cw) _ hcA underlying165 rfl hiA ?_
      refine hK _ _ ?_;clear hK K;simp only [Act.put,List.setIfInBounds_toArray,List.set_cons_zero,List.set_cons_succ];refine wpAny_ready (rs:=[8]) (by kernel_rfl) (by simp) (AllReady.cons (o:={ dst:=some 47,op:=Op.load 163 (Operand.tmp 46),type:=163,pos := "sum.go:50", after:=#[{ on:=7,ground:=Ground.data }],guard:=none }) rfl (fun K hK=>?_) AllReady.nil);refine d0s rfl 163 (Operand.tmp 46) rfl p 8 rfl ((laid rest y r t).map cb) _ hcB underlying163 rfl hiB ?_;refine hK _ _ ?_;clear hK K;simp only [Act.put,List.setIfInBounds_toArray,List.set_cons_zero,List.set_cons_succ];refine wpAny_ready (rs:=[9]) (by kernel_rfl) (by simp) (AllReady.cons (o:={ dst:=some 48,op:=Op.call { callee:=Callee.value (Operand.func 104),args:=#[Operand.tmp 43,Operand.tmp 47],argTypes:=#[165,163] },type:=165,pos := "sum.go:50", after:=#[{ on:=4,ground:=Ground.data },{ on:=8,ground:=Ground.data }],guard:=none }) rfl (fun K hK=>?_) AllReady.nil)
      go_simp
      refine (t0D st (laid rest y r t) hrl _ hK3).mono ?_;rintro e w4 ⟨rfl,hb4⟩;refine hK _ _ ?_;clear hK K;have HH4:w4.heap[p]? = some (.cells (objL st (laid rest y r t) (n + t)).toArray 167):=(hb4.block p hpl).trans HH3.out;have HT4:Touch p w w4:=HT3.out.trans ((e0Y p w3 1).trans (Touch.of hb4));refine wpAny_take (i:=10) (oi:={ dst:=some 49,op:=Op.nilCheck (Operand.tmp 39),type:=0,pos := "sum.go:50", after:=#[{ on:=0,ground:=Ground.data },{ on:=0,ground:=Ground.phase },{ on:=1,ground:=Ground.phase },{ on:=2,ground:=Ground.phase },{ on:=3,ground:=Ground.phase },{ on:=4,ground:=Ground.phase },{ on:=5,ground:=Ground.phase },{ on:=6,ground:=Ground.phase },{ on:=7,ground:=Ground.phase },{ on:=8,ground:=Ground.phase },{ on:=9,ground:=Ground.phase }],guard:=none }) (v:=.pointer (some ⟨p,0,none⟩)) rfl (by kernel_rfl) (by kernel_rfl) (by kernel_rfl) (fun _ _ _ h=>h) (Or.inl ⟨by rfl,fun w=>by go_simp⟩) ?_;refine wpAny_take (i:=11) (oi:={ dst:=some 50,op:=Op.fieldAddr 167 (Operand.tmp 49) 0,type:=0,pos := "sum.go:50", after:=#[{ on:=10,ground:=Ground.data },{ on:=0,ground:=Ground.phase },{ on:=1,ground:=Ground.phase },{ on:=2,ground:=Ground.phase },{ on:=3,ground:=Ground.phase },{ on:=4,ground:=Ground.phase },{ on:=5,ground:=Ground.phase },{ on:=6,ground:=Ground.phase },{ on:=7,ground:=Ground.phase },{ on:=8,ground:=Ground.phase },{ on:=9,ground:=Ground.phase }],guard:=none }) (v:=.pointer (some ⟨p,0,none⟩)) rfl (by kernel_rfl) (by kernel_rfl) (by kernel_rfl) (fun _ _ _ h=>h) (Or.inl ⟨by rfl,fun w=>by go_simp⟩) ?_;simp only [Act.put,List.setIfInBounds_toArray,List.set_cons_zero,List.set_cons_succ];refine wpAny_ready (rs:=[12]) (by kernel_rfl) (by simp) (AllReady.cons (o:={ dst:=none,op:=Op.store 165 (Operand.tmp 50) (Operand.tmp 48),type:=0,pos := "sum.go:50", after:=#[{ on:=11,ground:=Ground.data },{ on:=9,ground:=Ground.data },{ on:=9,ground:=Ground.chain },{ on:=0,ground:=Ground.phase },{ on:=1,ground:=Ground.phase },{ on:=2,ground:=Ground.phase },{ on:=3,ground:=Ground.phase },{ on:=4,ground:=Ground.phase },{ on:=5,ground:=Ground.phase },{ on:=6,ground:=Ground.phase },{ on:=7,ground:=Ground.phase },{ on:=8,ground:=Ground.phase },{ on:=9,ground:=Ground.phase }],guard:=none }) rfl (fun K hK=>?_) AllReady.nil);refine f0p rfl 165 (Operand.tmp 50) (Operand.tmp 48) rfl rfl p 0 rfl ((comp st (laid rest y r t)).list.map cw) rfl _ 167 HH4 hfit (i0X _) hiC ?_;refine hK _ _ ?_;clear hK K;refine wpAny_done (by kernel_rfl) ?_ _;rw [hst4];have HH5:=setRow_heap w4 p _ (objL (comp st (laid rest y r t)) (laid rest y r t) (n + t)).toArray 167 (0,0) HH4;have HT5:=HT4.trans (e0L p w4 (objL (comp st (laid rest y r t)) (laid rest y r t) (n + t)).toArray);generalize w4.setRow p (objL (comp st (laid rest y r t)) (laid rest y r t) (n + t)).toArray=w5 at *;go_wp2
      go_roundw
      case rel=>exact ⟨x++y.take t,y.drop t,rfl,HL3,FIN w5 HH5,HT5⟩
      case measure=>exact hmeas
     ·refine d0s rfl 163 (Operand.tmp 46) rfl p 8 rfl ((laid rest y r t).map cb) _ hcB underlying163 rfl hiB ?_
      refine hK _ _ ?_;clear hK K;simp only [Act.put,List.setIfInBounds_toArray,List.set_cons_zero,List.set_cons_succ];refine wpAny_ready (rs:=[4]) (by kernel_rfl) (by simp) (AllReady.cons (o:={ dst:=some 43,op:=Op.load 165 (Operand.tmp 42),type:=165,pos := "sum.go:50", after:=#[{ on:=3,ground:=Ground.data }],guard:=none }) rfl (fun K hK=>?_) AllReady.nil);refine d0s rfl 165 (Operand.tmp 42) rfl p 0 rfl (st.list.map cw) _ hcA underlying165 rfl hiA ?_;refine hK _ _ ?_;clear hK K;simp only [Act.put,List.setIfInBounds_toArray,List.set_cons_zero,List.set_cons_succ];refine wpAny_ready (rs:=[9]) (by kernel_rfl) (by simp) (AllReady.cons (o:={ dst:=some 48,op:=Op.call { callee:=Callee.value (Operand.func 104),args:=#[Operand.tmp 43,Operand.tmp 47],argTypes:=#[165,163] },type:=165,pos := "sum.go:50", after:=#[{ on:=4,ground:=Ground.data },{ on:=8,ground:=Ground.data }],guard:=none }) rfl (fun K hK=>?_) AllReady.nil)
      go_simp
      refine (t0D st (laid rest y r t) hrl _ hK3).mono ?_;rintro e w4 ⟨rfl,hb4⟩;refine hK _ _ ?_;clear hK K;have HH4:w4.heap[p]? = some (.cells (objL st (laid rest y r t) (n + t)).toArray 167):=(hb4.block p hpl).trans HH3.out;have HT4:Touch p w w4:=HT3.out.trans ((e0Y p w3 1).trans (Touch.of hb4));refine wpAny_take (i:=10) (oi:={ dst:=some 49,op:=Op.nilCheck (Operand.tmp 39),type:=0,pos := "sum.go:50", after:=#[{ on:=0,ground:=Ground.data },{ on:=0,ground:=Ground.phase },{ on:=1,ground:=Ground.phase },{ on:=2,ground:=Ground.phase },{ on:=3,ground:=Ground.phase },{ on:=4,ground:=Ground.phase },{ on:=5,ground:=Ground.phase },{ on:=6,ground:=Ground.phase },{ on:=7,ground:=Ground.phase },{ on:=8,ground:=Ground.phase },{ on:=9,ground:=Ground.phase }],guard:=none }) (v:=.pointer (some ⟨p,0,none⟩)) rfl (by kernel_rfl) (by kernel_rfl) (by kernel_rfl) (fun _ _ _ h=>h) (Or.inl ⟨by rfl,fun w=>by go_simp⟩) ?_;refine wpAny_take (i:=11) (oi:={ dst:=some 50,op:=Op.fieldAddr 167 (Operand.tmp 49) 0,type:=0,pos := "sum.go:50", after:=#[{ on:=10,ground:=Ground.data },{ on:=0,ground:=Ground.phase },{ on:=1,ground:=Ground.phase },{ on:=2,ground:=Ground.phase },{ on:=3,ground:=Ground.phase },{ on:=4,ground:=Ground.phase },{ on:=5,ground:=Ground.phase },{ on:=6,ground:=Ground.phase },{ on:=7,ground:=Ground.phase },{ on:=8,ground:=Ground.phase },{ on:=9,ground:=Ground.phase }],guard:=none }) (v:=.pointer (some ⟨p,0,none⟩)) rfl (by kernel_rfl) (by kernel_rfl) (by kernel_rfl) (fun _ _ _ h=>h) (Or.inl ⟨by rfl,fun w=>by go_simp⟩) ?_;simp only [Act.put,List.setIfInBounds_toArray,List.set_cons_zero,List.set_cons_succ];refine wpAny_ready (rs:=[12]) (by kernel_rfl) (by simp) (AllReady.cons (o:={ dst:=none,op:=Op.store 165 (Operand.tmp 50) (Operand.tmp 48),type:=0,pos := "sum.go:50", after:=#[{ on:=11,ground:=Ground.data },{ on:=9,ground:=Ground.data },{ on:=9,ground:=Ground.chain },{ on:=0,ground:=Ground.phase },{ on:=1,ground:=Ground.phase },{ on:=2,ground:=Ground.phase },{ on:=3,ground:=Ground.phase },{ on:=4,ground:=Ground.phase },{ on:=5,ground:=Ground.phase },{ on:=6,ground:=Ground.phase },{ on:=7,ground:=Ground.phase },{ on:=8,ground:=Ground.phase },{ on:=9,ground:=Ground.phase }],guard:=none }) rfl (fun K hK=>?_) AllReady.nil);refine f0p rfl 165 (Operand.tmp 50) (Operand.tmp 48) rfl rfl p 0 rfl ((comp st (laid rest y r t)).list.map cw) rfl _ 167 HH4 hfit (i0X _) hiC ?_;refine hK _ _ ?_;clear hK K;refine wpAny_done (by kernel_rfl) ?_ _;rw [hst4];have HH5:=setRow_heap w4 p _ (objL (comp st (laid rest y r t)) (laid rest y r t) (n + t)).toArray 167 (0,0) HH4;have HT5:=HT4.trans (e0L p w4 (objL (comp st (laid rest y r t)) (laid rest y r t) (n + t)).toArray);generalize w4.setRow p (objL (comp st (laid rest y r t)) (laid rest y r t) (n + t)).toArray=w5 at *;go_wp2
      go_roundw
      case rel=>exact ⟨x++y.take t,y.drop t,rfl,HL3,FIN w5 HH5,HT5⟩
      case measure=>exact hmeas
    ·have hz0:((q:Int) == 0)=false:=by simp;omega
     go_wp2
     go_roundw
     case rel =>
      refine ⟨x++y.take t,y.drop t,rfl,HL3,⟨st,laid rest y r t,?_,?_⟩,HT3⟩
      ·rw [← List.append_assoc,← HMx.out,Hr.out,Hn.out]
       exact x0i HIv.out y t ht2 (by rw [← Hn.out,← Hr.out];exact ht3) (by rw [← Hn.out];rw [← Hq.out];exact hz)
      ·rw [← List.append_assoc,← HMx.out,List.length_append,← Hn.out,List.length_take,Nat.min_eq_left ht2]
       exact HH3.out
     case measure=>simp [l0b,ByteArray.size];omega
end Go.Proofs.YtagmnmoaekbffaaGreatDoor
