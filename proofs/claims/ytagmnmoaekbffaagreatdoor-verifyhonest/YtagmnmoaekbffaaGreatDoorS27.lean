/- S27 -/
import Derived.Test.YtagmnmoaekbffaaGreatDoorTjhm
import Derived.Test.YtagmnmoaekbffaaGreatDoorS12
set_option maxHeartbeats 8000000
namespace Go.Proofs.YtagmnmoaekbffaaGreatDoor.Ms
open Go.Proofs.Tryz
open Go Go.RowKit
set_option maxRecDepth 100000
def IPen (g:Nat) (A C:List Value) (x:Pen) (w:World):Prop:=w.heap[g]? = some (.cells (A++(penC x++C)).toArray 57)/\penOk x
structure POk (f:Fl Pen):Prop where
 sp:∀ x,penOk x->∃ P S,P.length=f.off/\penC x=P++(cc (cvOf undef undef (f.get x)) (f.get x)++S)/\∀ v cv,v.slot=f.slot->d0V v->p0Q cv v->penC (f.set x v)=P++(cc cv v++S)
 sl:∀ x,(f.get x).slot=f.slot
 ok:∀ x v,penOk x->v.slot=f.slot->d0V v->penOk (f.set x v)
 base:f.slot = .num ∨ f.slot = .dig
 len:∀ x,penOk x->(cc (cvOf undef undef (f.get x)) (f.get x)).length=sz f.slot
theorem w0i {f:Fl Pen} (hf:POk f) {g:Nat} {A C:List Value} {x:Pen} {w:World} (h:IPen g A C x w) :
  (ValAt w g (A.length + f.off) (f.get x)/\(f.get x).slot=f.slot) /\
  ∃ A' old C' t,w.heap[g]? = some (.cells (A' ++ (old++C')).toArray t)/\A'.length=A.length + f.off/\old.length=sz f.slot/\∀ v w',v.slot=f.slot->d0V v->d0E w g A' C' t v w'->IPen g A C (f.set x v) w':=by
 obtain ⟨hrow,hok⟩:=h;obtain ⟨P,S,hP,hx,hset⟩:=hf.sp x hok;have e1:A++(penC x++C)=(A++P)++(cc (cvOf undef undef (f.get x)) (f.get x)++(S++C)):=by rw [hx];simp
 have hl:(A++P).length=A.length + f.off:=by rw [List.length_append,hP]
 rw [e1] at hrow;refine ⟨⟨?_,hf.sl x⟩,A++P,_,S++C,_,hrow,hl,hf.len x hok,fun v w' hs hv hst=>?_⟩
 ·have hsl:=hf.sl x
  have hseg:=a0s hrow rfl hl;generalize f.get x=v at hsl hseg;rcases hf.base with hb | hb
  ·rw [hb] at hsl
   obtain ⟨n,rfl⟩:=b0q hsl;exact hseg 0 (nu n) rfl
  ·rw [hb] at hsl
   obtain ⟨n,rfl⟩:=b0Q hsl;exact hseg
 ·obtain ⟨cv,w1,-,hcv,-,hrow',-⟩:=hst
  refine ⟨?_,hf.ok x v hok hs hv⟩;rw [hrow',hset v cv hs hv (q0b hcv)];simp
theorem o0J:POk j0p:=by
 refine ⟨fun x hx=>⟨[],[nu x.number]++([nu x.kind]++([nu x.target]++(dg x.asked++(dg x.proof)))),rfl,?_,fun v cv hs ho hc=>?_⟩,fun _=>rfl,fun x v hx hs ho=>?_,Or.inl rfl,fun _ _=>rfl⟩
 ·simp [penC,j0p,cc,cvOf]
 ·obtain ⟨n,rfl⟩:=b0q hs
  obtain rfl:cv=nu n:=hc;simp [penC,j0p,cc,Val.n]
 ·obtain ⟨n,rfl⟩:=b0q hs
  have hv:I64 n:=ho;exact { hx with client:=hv }
theorem o0K:POk j0q:=by
 refine ⟨fun x hx=>⟨[nu x.client],[nu x.kind]++([nu x.target]++(dg x.asked++(dg x.proof))),rfl,?_,fun v cv hs ho hc=>?_⟩,fun _=>rfl,fun x v hx hs ho=>?_,Or.inl rfl,fun _ _=>rfl⟩
 ·simp [penC,j0q,cc,cvOf]
 ·obtain ⟨n,rfl⟩:=b0q hs
  obtain rfl:cv=nu n:=hc;simp [penC,j0q,cc,Val.n]
 ·obtain ⟨n,rfl⟩:=b0q hs
  have hv:I64 n:=ho;exact { hx with number:=hv }
theorem s0K:POk r0P:=by
 refine ⟨fun x hx=>⟨[nu x.client]++([nu x.number]),[nu x.target]++(dg x.asked++(dg x.proof)),rfl,?_,fun v cv hs ho hc=>?_⟩,fun _=>rfl,fun x v hx hs ho=>?_,Or.inl rfl,fun _ _=>rfl⟩
 ·simp [penC,r0P,cc,cvOf]
 ·obtain ⟨n,rfl⟩:=b0q hs
  obtain rfl:cv=nu n:=hc;simp [penC,r0P,cc,Val.n]
 ·obtain ⟨n,rfl⟩:=b0q hs
  have hv:I64 n:=ho;exact { hx with kind:=hv }
theorem o0L:POk j0r:=by
 refine ⟨fun x hx=>⟨[nu x.client]++([nu x.number]++([nu x.kind])),dg x.asked++(dg x.proof),rfl,?_,fun v cv hs ho hc=>?_⟩,fun _=>rfl,fun x v hx hs ho=>?_,Or.inl rfl,fun _ _=>rfl⟩
 ·simp [penC,j0r,cc,cvOf]
 ·obtain ⟨n,rfl⟩:=b0q hs
  obtain rfl:cv=nu n:=hc;simp [penC,j0r,cc,Val.n]
 ·obtain ⟨n,rfl⟩:=b0q hs
  have hv:I64 n:=ho;exact { hx with target:=hv }
theorem q0L:POk n0e:=by
 refine ⟨fun x hx=>⟨[nu x.client]++([nu x.number]++([nu x.kind]++([nu x.target]))),dg x.proof,rfl,?_,fun v cv hs ho hc=>?_⟩,fun _=>rfl,fun x v hx hs ho=>?_,Or.inr rfl,fun x hx=>(a0e x.asked).trans hx.asked⟩
 ·simp [penC,n0e,cc]
 ·obtain ⟨n,rfl⟩:=b0Q hs
  simp [penC,n0e,cc,Val.d]
 ·obtain ⟨n,rfl⟩:=b0Q hs
  have hv:n.length=32:=ho;exact { hx with asked:=hv }
theorem q0M:POk k0v:=by
 refine ⟨fun x hx=>⟨[nu x.client]++([nu x.number]++([nu x.kind]++([nu x.target]++(dg x.asked)))),[],by simp [k0v,a0e,hx.asked],?_,fun v cv hs ho hc=>?_⟩,fun _=>rfl,fun x v hx hs ho=>?_,Or.inr rfl,fun x hx=>(a0e x.proof).trans hx.proof⟩
 ·simp [penC,k0v,cc]
 ·obtain ⟨n,rfl⟩:=b0Q hs
  simp [penC,k0v,cc,Val.d]
 ·obtain ⟨n,rfl⟩:=b0Q hs
  have hv:n.length=32:=ho;exact { hx with proof:=hv }
theorem q0N:∀ f ∈ i0h,POk f:=by
 intro f hf;simp only [i0h,List.mem_cons,List.not_mem_nil,or_false] at hf;rcases hf with rfl | rfl | rfl | rfl | rfl | rfl
 ·exact o0J
 ·exact o0K
 ·exact s0K
 ·exact o0L
 ·exact q0L
 ·exact q0M
theorem s0L (g:Nat) (A C:List Value):Hold i0h g A.length (IPen g A C) where
 own:=fun _ _ h=>⟨_,_,h.1,.inr rfl⟩
 stay:=fun _ _ _ h hb=>⟨a0a h.1 hb,h.2⟩
 load:=fun _ _ h f hf=>(w0i (q0N f hf) h).1
 store:=fun _ _ h f hf=>(w0i (q0N f hf) h).2
open Go Go.RowKit
set_option maxRecDepth 100000
theorem zPen:(prog.info? 57).map (·.zero)=some (some (.agg (penC ⟨0,0,0,0,List.replicate 32 0,List.replicate 32 0⟩).toArray)):=by kernel_rfl
theorem u0B {p:Pen} (h:penOk p):∀ f ∈ i0h,d0V (f.get p):=by
 intro f hf;simp only [i0h,List.mem_cons,List.not_mem_nil,or_false] at hf;rcases hf with rfl | rfl | rfl | rfl | rfl | rfl
 ·exact h.client
 ·exact h.number
 ·exact h.kind
 ·exact h.target
 ·exact h.asked
 ·exact h.proof
theorem s0M:∀ l:List Pen,(∀ p ∈ l,penOk p)->((l.map d0x).flatten).length <= 200 * l.length:=by
 intro l
 induction l with
 | nil=>simp
 | cons p l ih =>
  intro hp;have:=g0m p (hp p (by simp));have:=ih (fun q hq=>hp q (by simp [hq]));simp only [List.map_cons,List.flatten_cons,List.length_append,List.length_cons];omega
def HLP:Prop:=∀ f ∈ i0h,d0o f.slot
theorem hLP:HLP:=by
 intro f hf;simp only [i0h,List.mem_cons,List.not_mem_nil,or_false] at hf;rcases hf with rfl | rfl | rfl | rfl | rfl | rfl
 ·exact f0L
 ·exact f0L
 ·exact f0L
 ·exact f0L
 ·exact j0K
 ·exact j0K
theorem u0C (p:Pen) (h:penOk p) (g:Nat) (w:World) (ht:Tb w) (v:Value) (hr:w.heap[g]? = some (.cells (penC p).toArray 57)) (hv:b0n w v g (h0C 0 i0h)) :
  Calls prog 94 #[v] w fun e w'=>e = .returned (st (d0x p))/\Below w.heap.size w w' :=
 i0O (s0L g [] []) hLP hv (x:=p) ⟨by simpa using hr,h⟩ (u0B h) (by decide) ht
theorem m0M (ps:List Pen) (hl:ps.length <= 8) (hp:∀ p ∈ ps,penOk p) (w:World) (cv:Value) (ht:Tb w) (hc:a0g w cv ps) :
  Calls prog 171 #[cv] w fun e w'=>e = .returned (st (numB ps.length++(ps.map d0x).flatten))/\Below w.heap.size w w':=by
 have HP:=hid hc;obtain ⟨pa,cap,rfl,-⟩:=hc;obtain ⟨ZP,hZ⟩:∃ ZP:List Value,penC ⟨0,0,0,0,List.replicate 32 0,List.replicate 32 0⟩=ZP:=⟨_,rfl⟩;have hz:=zPen;have hzl:ZP.length=68:=by rw [← hZ];rfl
 rw [hZ] at hz;have HZ:=hid hz;have HZL:=hid hzl;have HT:=hid ht;have HOK:=hid hp;have HN:Hid (Calls prog 68 #[nu ps.length] w fun e w'=>e = .returned (st (numB ps.length))/\Below w.heap.size w w'):=Lay.c0y (ps.length:Int) (by omega) (by omega) w ht;have hnl:=b0e (ps.length:Int) ⟨by omega,by omega⟩;clear hz hZ hzl ht hp;generalize numB (ps.length:Int)=nb at *;go_enter func171,ntmps171
 go_wp2_with fail
 refine HN.out.mono ?_;rintro e w1 ⟨rfl,hb1⟩;have HB1:=hid hb1;clear hb1 HN;go_wp2;go_loopw [3,11] (fun s i w'=>∃ k:Nat,k <= ps.length/\i = .int .i64 k/\s=st (nb++((ps.take k).map d0x).flatten)/\Hid (Below w.heap.size w w')) (fun _ i _=>ps.length - (intOf i).toNat)
 case atStart=>exact ⟨0,Nat.zero_le _,rfl,by simp,HB1⟩
 case round =>
  obtain ⟨k,hk,rfl,rfl,HB⟩:=hrel;clear HB1;have hlk:=s0M (ps.take k) (fun p hq=>HOK.out p (List.mem_of_mem_take hq));have hlt':(ps.take k).length <= 8:=by rw [List.length_take];omega
  have hlk2:(nb++((ps.take k).map d0x).flatten).length <= 2000:=by rw [List.length_append];omega
  by_cases hlt:k < ps.length
  ·as_aux_lemma =>
   have d1:decide ((k:Int) < (ps.length:Int))=true:=decide_eq_true (by omega);have d1':decide (k < ps.length)=true:=decide_eq_true hlt;obtain ⟨a',c',e',hc⟩:=HP.out.kept HB.out
   cases e'
   obtain ⟨b,off,rfl,hcc⟩:=hc (fun e=>by rw [e] at hlt;exact absurd hlt (Nat.not_lt_zero k));have HTk:Hid (ps.take (k + 1)=ps.take k++[ps.getD k a0z]):=Lay.f0F ps a0z k hlt;have hpk:penOk (ps.getD k a0z):=HOK.out _ (by simp [List.getD,hlt]);have S0:=hid (hcc k hlt);generalize ps.getD k a0z=p at *;have wp:=n0g hpk;have Z0:(prog.info? 57).map (·.size)=some (penC p).length:=by rw [a0K wp];exact sizePen
   have hone:=hid (h0n p);have hlen:ZP.length=(penC p).length:=by rw [a0K wp];exact HZL.out
   have HBt:=hid (a0c wr (.cells (penC p).toArray 57));have T0:=hid (a0f wr (.cells (penC p).toArray 57));have HTt:=hid ((HT.out.stays HB.out).stays HBt.out);have HBm:=hid (a0b HB.out HBt.out);have HL1:=hid (u0C p hpk wr.heap.size);have hpl:=g0m p hpk
   have HE:Hid ((⟨(nb++((ps.take k).map d0x).flatten).toArray⟩:ByteArray) ++ ⟨(d0x p).toArray⟩=⟨(nb++((ps.take (k + 1)).map d0x).flatten).toArray⟩):=by
    show _=_;rw [Lay.bcat _ _ _ rfl,HTk.out];simp
   clear hc hcc HTk hlk hlt' HP HOK HT HBt HB wp hpk;generalize d0x p=lp at *;generalize nb++((ps.take k).map d0x).flatten=l1 at *;generalize penC p=PA at *;go_upto_region 5 with (first | ((with_reducible refine a0d 57 (.tmp 13) ?_ b (off + k * 68) ?_ ?_ PA _ S0.out underlying57 ?_ Z0 ?_);iterate 4 exact rfl) | ((with_reducible refine a0G 57 ?_ ?_ ZP.toArray HZ.out ?_);exact rfl;exact rfl) | ((with_reducible refine a0v 57 (.tmp 5) (.tmp 14) ?_ ?_ ?_ ?_ PA ZP ?_ 57 hlen hone.out Z0 ?_);exact rfl;iterate 4 exact rfl))
   generalize wr.alloc (.cells PA.toArray 57)=W2 at *;clear S0;generalize wr.heap.size=g at *
   go_wp2_with fail
   refine (j0M g 0 W2).mono ?_;rintro e w3 ⟨fv,rfl,hfv,hb3⟩;have HF3:Hid (b0n w3 fv g (h0C 0 i0h)):=hfv;have T3:=hid (a0a T0.out hb3);have HT3:=hid (HTt.out.stays hb3);have HB3:=hid (a0b HBm.out hb3);clear hb3 hfv T0 HTt HBm
   go_wp2_with fail
   refine (HL1.out w3 HT3.out fv T3.out HF3.out).mono ?_;rintro e w4 ⟨rfl,hb4⟩;have HB4:=hid (a0b HB3.out hb4);clear hb4 HB3 T3 HT3 HF3 HL1;go_wp2
   go_roundw
   case rel=>exact ⟨k + 1,by omega,by go_num,congrArg Value.string HE.out,HB4⟩
   case measure=>simp [intOf];omega
  ·as_aux_lemma =>
   have hkl:k=ps.length:=by omega
   subst hkl;have dk:decide ((ps.length:Int) < (ps.length:Int))=false:=decide_eq_false (by omega);rw [List.take_length] at *;clear HP HOK HT;go_wp2;go_ret;exact ⟨rfl,HB.out⟩
theorem q0O:d0o .pens:=by
 intro v hs hv w cv ht hc;obtain ⟨l,rfl⟩:=g0e hs;exact m0M l hv.1 hv.2 w cv ht hc
open Go Go.RowKit
set_option maxRecDepth 100000
theorem t0F (L:List Value) (hL:0 < L.length):∀ (n i:Nat),i < n * L.length->((List.replicate n L).flatten)[i]? = L[i % L.length]?
 | 0,i,h=>absurd h (by simp)
 | n + 1,i,h=>by
  rw [List.replicate_succ,List.flatten_cons];by_cases hi:i < L.length
  ·rw [List.getElem?_append_left hi,Nat.mod_eq_of_lt hi]
  ·rw [List.getElem?_append_right (by omega),t0F L hL n (i - L.length) (by rw [Nat.succ_mul] at h;omega),Nat.mod_eq_sub_mod (a:=i) (by omega)]
theorem q0P (L:List Value):∀ n:Nat,((List.replicate n L).flatten).length=n * L.length
 | 0=>by simp
 | n + 1=>by rw [List.replicate_succ,List.flatten_cons,List.length_append,q0P L n,Nat.succ_mul];omega
theorem q0Q (L:List Value) (hL:0 < L.length) (n:Nat):madeCells L.toArray (n * L.length)=((List.replicate n L).flatten).toArray:=by
 apply Array.ext_getElem?;intro i;by_cases hi:i < n * L.length
 ·rw [Array.getElem?_eq_getElem (by rw [size_madeCells];exact hi),List.getElem?_toArray,t0F L hL n i hi]
  have hm:i % L.length < L.length:=Nat.mod_lt _ hL;simp only [madeCells,Array.getElem_map,Array.getElem_range];rw [List.getElem?_eq_getElem hm];simp [hm]
 ·rw [Array.getElem?_eq_none (by rw [size_madeCells];omega),List.getElem?_toArray,List.getElem?_eq_none (by rw [q0P];omega)]
def rowP (l:List Pen) (m:Nat):List Value:=(l.map penC).flatten++(List.replicate m (penC c0Q)).flatten
open Go Go.RowKit
set_option maxRecDepth 100000
abbrev tstV:Value:=.func (.func 151) #[] #[]
theorem u0D (p:Pen) (hp:p.Wf) (w:World):Calls prog 151 #[.agg (penC p).toArray] w fun e w'=>e = .returned (.bool (!penB p))/\Below w.heap.size w w':=by
 have HB0:=hid (a0c w (.cells (penC p).toArray 57));have S0:=hid (a0s (off:=0) (A:=[]) (cs:=penC p) (C:=[]) (a0f w (.cells (penC p).toArray 57)) (by simp) rfl);have Z0:(prog.info? 57).map (·.size)=some (penC p).length:=by rw [a0K hp];exact sizePen
 have HC:=hid (fun W=>o0q p hp W);generalize penB p=b at *;generalize penC p=PA at *;go_enter func151,ntmps151;go_upto_region 1 with fail
 generalize w.alloc (.cells PA.toArray 57)=W0 at *
 go_wp2_with (first | ((with_reducible refine a0d 57 (.tmp 1) ?_ w.heap.size 0 ?_ ?_ PA _ S0.out underlying57 ?_ Z0 ?_);iterate 4 exact rfl))
 refine (HC.out _).mono ?_;rintro e w1 ⟨rfl,hb⟩;have HB1:=hid (a0b HB0.out hb);clear hb HB0 S0 HC;go_wp2;go_ret;exact ⟨rfl,HB1.out⟩
theorem q0R (ps:List Pen) (hl:ps.length <= 8) (hp:∀ p ∈ ps,p.Wf) (w:World) (v:Value) (hv:a0g w v ps) :
  Calls prog 184 #[v,tstV] w fun e w'=>∃ z:Int,e = .returned (nu z)/\Below w.heap.size w w'/\decide (0 <= z) = !(ps.all penB):=by
 have HP:=hid hv;obtain ⟨pa,cap,rfl,-⟩:=hv;have HW:=hid hp;have HB0:=hid (Below.refl w.heap.size w)
 have HBad:Hid (∀ j,j < ps.length->penB (ps.getD j a0z)=false->ps.all penB=false):=fun j hj h=>by
  rw [List.all_eq_false];refine ⟨ps.getD j a0z,?_,by rw [h];exact Bool.false_ne_true⟩;simp [List.getD,hj]
 have HAll:Hid ((∀ j,j < ps.length->penB (ps.getD j a0z)=true)->ps.all penB=true):=fun h=>by
  rw [List.all_eq_true];intro p hq;obtain ⟨j,hj,rfl⟩:=List.getElem_of_mem hq;have:=h j hj;simpa [List.getD,hj] using this
 clear hp;go_enter func184,ntmps184;go_wp2;go_loopw [8] (fun i w'=>∃ k:Nat,k <= ps.length/\i = .int .i64 k/\Hid (∀ j,j < k->penB (ps.getD j a0z)=true)/\Hid (Below w.heap.size w w')) (fun i _=>ps.length - (intOf i).toNat)
 case atStart=>exact ⟨0,Nat.zero_le _,rfl,(fun j hj=>absurd hj (Nat.not_lt_zero j)),HB0⟩
 case round =>
  obtain ⟨k,hk,rfl,HN,HB⟩:=hrel;clear HB0;by_cases hlt:k < ps.length
  ·as_aux_lemma =>
   have d1:decide ((k:Int) < (ps.length:Int))=true:=decide_eq_true (by omega);have d1':decide (k < ps.length)=true:=decide_eq_true hlt;obtain ⟨a',c',e',hc⟩:=HP.out.kept HB.out
   cases e'
   obtain ⟨b,off,rfl,hcc⟩:=hc (fun e=>by rw [e] at hlt;exact absurd hlt (Nat.not_lt_zero k));have wp:=e0F HW.out k hlt;have S0:=hid (hcc k hlt);have Z0:(prog.info? 57).map (·.size)=some (penC (ps.getD k a0z)).length:=by rw [a0K wp];exact sizePen
   have HC:=hid (fun W=>u0D (ps.getD k a0z) wp W);have HF:Hid (penB (ps.getD k a0z)=false->ps.all penB=false):=HBad.out k hlt
   have hon:Hid (penB (ps.getD k a0z)=true->∀ j,j < k + 1->penB (ps.getD j a0z)=true):=fun h j hj=>by
    by_cases e:j=k
    ·rw [e];exact h
    ·exact HN.out j (by omega)
   generalize penB (ps.getD k a0z)=bb at *;generalize penC (ps.getD k a0z)=PA at *;clear hc hcc wp HN HBad HAll HP HW
   cases bb with
   | false =>
    have HF':=hid (HF.out rfl);clear HF hon
    go_wp2_with (first | ((with_reducible refine a0d 57 (.tmp 14) ?_ b (off + k * 68) ?_ ?_ PA _ S0.out underlying57 ?_ Z0 ?_);iterate 4 exact rfl))
    refine (HC.out _).mono ?_;rintro e w1 ⟨rfl,hb⟩;have HB1:=hid (a0b HB.out hb);clear hb HB S0 HC;go_wp2;go_ret;exact ⟨_,rfl,HB1.out,by rw [HF'.out];simp⟩
   | true =>
    have HN':=hid (hon.out rfl);clear HF hon
    go_wp2_with (first | ((with_reducible refine a0d 57 (.tmp 14) ?_ b (off + k * 68) ?_ ?_ PA _ S0.out underlying57 ?_ Z0 ?_);iterate 4 exact rfl))
    refine (HC.out _).mono ?_;rintro e w1 ⟨rfl,hb⟩;have HB1:=hid (a0b HB.out hb);clear hb HB S0 HC;go_wp2;exact ⟨⟨k + 1,by omega,by go_num,HN',HB1⟩,by simp [intOf];omega⟩
  ·as_aux_lemma =>
   have hkl:k=ps.length:=by omega
   subst hkl;have dk:decide ((ps.length:Int) < (ps.length:Int))=false:=decide_eq_false (by omega);have HA:=hid (HAll.out HN.out);clear HP HW HN HAll HBad;go_wp2;go_ret;exact ⟨_,rfl,HB.out,by rw [HA.out];rfl⟩
theorem l0m (ps:List Pen) (hl:ps.length <= 8) (hp:∀ p ∈ ps,p.Wf) (w:World) (v:Value) (hv:a0g w v ps) :
  Calls prog 150 #[v,tstV] w fun e w'=>e = .returned (.bool (!(ps.all penB)))/\Below w.heap.size w w':=by
 have HC:=hid (q0R ps hl hp w v hv);go_enter func150,ntmps150
 go_wp2_with fail
 refine HC.out.mono ?_;rintro e w1 ⟨z,rfl,hb,hz⟩;have HB:=hid hb;clear hb HC;go_wp2;go_ret;exact ⟨by rw [← hz];rfl,HB.out⟩
open Go Go.RowKit
set_option maxRecDepth 100000
theorem s0N (n:Int):inB n (-1) 7=((n == -1) || inB n 0 7):=by rw [Bool.eq_iff_iff,Bool.or_eq_true,b0h,b0h,beq_iff_eq];omega
theorem s0O (n:Int):inB n 0 512=((n == 0) || inB n 1 512):=by rw [Bool.eq_iff_iff,Bool.or_eq_true,b0h,b0h,beq_iff_eq];omega
theorem q0S (r:Rep):e0u r=((r.last == -1) == r.view.isEmpty):=by
 unfold e0u;generalize r.last=a;generalize r.view=v;have e:(a != -1) = !(a == -1):=rfl;rw [e];generalize (a == -1)=b
 cases v <;> cases b <;> rfl
theorem m0N (r:Rep):repB r=(inB r.number 1 512 && (((r.last == -1) || inB r.last 0 7) && (Hist.rightB r.view 8 && (((r.last == -1) == r.view.isEmpty) && (decide (r.pend.length <= 8) && (r.pend.all penB && (((r.vnum == 0) || inB r.vnum 1 512) && (decide (r.value.length <= 256) && Hist.rightB r.seen 8)))))))):=by
 unfold repB chainB;rw [q0S,s0N,s0O]
 ac_rfl
theorem t0G (r:Rep) (hr:r.Wf):p0P r:=by
 intro w vP hp;have HB0:=hid (a0c w (.cells (repC r vP).toArray 44));have R0:=hid (a0f w (.cells (repC r vP).toArray 44));have HP:=hid (hp.kept HB0.out);obtain ⟨pa,cap,rfl,-⟩:=hp;have HCh:=hid (m0N r)
 have HC:Hid (∀ W,Below (w.alloc (.cells (repC r (.slice pa r.pend.length cap)).toArray 44)).heap.size (w.alloc (.cells (repC r (.slice pa r.pend.length cap)).toArray 44)) W->W.cell? ⟨w.heap.size,0,none⟩=some (nu r.number)/\W.cell? ⟨w.heap.size,1,none⟩=some (nu r.last)/\W.cell? ⟨w.heap.size,2,none⟩=some (st r.view)/\W.cell? ⟨w.heap.size,35,none⟩=some (.slice pa r.pend.length cap)/\W.cell? ⟨w.heap.size,36,none⟩=some (nu r.vnum)/\W.cell? ⟨w.heap.size,37,none⟩=some (st r.value)/\W.cell? ⟨w.heap.size,70,none⟩=some (st r.seen)):=fun W hb=>by
  have h:=a0a R0.out hb;exact ⟨c0s h hr,d0f h hr,b0B h hr,f0n h hr,a0Q h hr,a0Y h hr,b0x h hr⟩
 have K_a:=hid (fun W=>d0M r.number W);have K_b:=hid (fun W=>b0U r.last W);have K_c:=hid (fun W=>Hist.right_any r.view 8 W);have K_f:Hid (r.pend.length <= 8->∀ W,Below (w.alloc (.cells (repC r (.slice pa r.pend.length cap)).toArray 44)).heap.size (w.alloc (.cells (repC r (.slice pa r.pend.length cap)).toArray 44)) W->Calls prog 150 #[.slice pa r.pend.length cap,tstV] W fun e w'=>e = .returned (.bool (!(r.pend.all penB)))/\Below W.heap.size W w'):=fun hl W hb=>l0m r.pend hl hr.pend W _ (HP.out.kept hb);have K_g:=hid (fun W=>d0M r.vnum W);have K_i:=hid (fun W=>Hist.right_any r.seen 8 W);obtain ⟨BB,hBB⟩:∃ BB,BB=repB r:=⟨_,rfl⟩;rw [← hBB] at HCh ⊢;clear hBB R0 HP hr;generalize (repC r (.slice pa r.pend.length cap)).toArray=RA at *;generalize r.pend.all penB=b_f at *;generalize Hist.rightB r.view 8=b_c at *;generalize Hist.rightB r.seen 8=b_i at *;generalize inB r.number 1 512=b_a at *;generalize r.number=x_a at *;generalize inB r.last 0 7=b_b at *;generalize r.last=x_l at *;generalize r.view=x_v at *;generalize inB r.vnum 1 512=b_g at *;generalize r.vnum=x_n at *;generalize r.value=x_w at *;generalize r.seen=x_s at *;generalize r.pend.length=x_p at *;go_enter func125,ntmps125;go_upto_region 1 with fail
 generalize w.alloc (.cells RA 44)=W0 at *;obtain ⟨g,hg⟩:∃ g,g=w.heap.size:=⟨_,rfl⟩;rw [← hg] at HC ⊢;clear hg;have HW:=hid (Below.refl W0.heap.size W0);obtain ⟨c0,c1,c2,c3,c4,c5,c6⟩:=HC.out _ HW.out
 cases b_a with
 | false=>as_aux_lemma =>
  have HF:Hid (BB=false):=by show _=_;rw [HCh.out];simp
  clear HCh
  go_wp2_with fail
  refine (K_a.out _).mono ?_;rintro e v ⟨rfl,hv⟩;subst v;go_wp2;go_ret;exact ⟨by rw [HF.out];rfl,a0b HB0.out HW.out⟩
 | true =>
  cases h_l:(x_l == -1) with
  | false =>
   cases b_b with
   | false=>as_aux_lemma =>
    have HF:Hid (BB=false):=by show _=_;rw [HCh.out];simp [h_l]
    clear HCh
    go_wp2_with fail
    refine (K_a.out _).mono ?_;rintro e v ⟨rfl,hv⟩;subst v
    go_wp2_with fail
    refine (K_b.out _).mono ?_;rintro e v ⟨rfl,hv⟩;subst v;go_wp2;go_ret;exact ⟨by rw [HF.out];rfl,a0b HB0.out HW.out⟩
   | true =>
    cases b_c with
    | false=>as_aux_lemma =>
     have HF:Hid (BB=false):=by show _=_;rw [HCh.out];simp [h_l]
     clear HCh
     go_wp2_with fail
     refine (K_a.out _).mono ?_;rintro e v ⟨rfl,hv⟩;subst v
     go_wp2_with fail
     refine (K_b.out _).mono ?_;rintro e v ⟨rfl,hv⟩;subst v
     go_wp2_with fail
     refine (K_c.out _).mono ?_;rintro e w1 ⟨rfl,hb⟩;have HW1:=hid (a0b HW.out hb);clear hb c0 c1 c2 c3 c4 c5 c6;obtain ⟨c0,c1,c2,c3,c4,c5,c6⟩:=HC.out _ HW1.out;go_wp2;go_ret;exact ⟨by rw [HF.out];rfl,a0b HB0.out HW1.out⟩
    | true =>
     cases h_v:x_v.isEmpty with
     | false =>
      have hne:¬ x_v = []:=fun e=>by rw [e] at h_v;cases h_v
      by_cases h_p:x_p <= 8
      ·have dp:decide ((x_p:Int) <= 8)=true:=decide_eq_true (by omega)
       have dp':decide (x_p <= 8)=true:=decide_eq_true h_p;have K_f':=hid (K_f.out h_p)
       cases b_f with
       | false=>as_aux_lemma =>
        have HF:Hid (BB=false):=by show _=_;rw [HCh.out];simp [h_l,h_v]
        clear HCh
        go_wp2_with fail
        refine (K_a.out _).mono ?_;rintro e v ⟨rfl,hv⟩;subst v
        go_wp2_with fail
        refine (K_b.out _).mono ?_;rintro e v ⟨rfl,hv⟩;subst v
        go_wp2_with fail
        refine (K_c.out _).mono ?_;rintro e w1 ⟨rfl,hb⟩;have HW1:=hid (a0b HW.out hb);clear hb c0 c1 c2 c3 c4 c5 c6;obtain ⟨c0,c1,c2,c3,c4,c5,c6⟩:=HC.out _ HW1.out
        go_wp2_with fail
        refine (K_f'.out _ HW1.out).mono ?_;rintro e w2 ⟨rfl,hb⟩;have HW2:=hid (a0b HW1.out hb);clear hb c0 c1 c2 c3 c4 c5 c6;obtain ⟨c0,c1,c2,c3,c4,c5,c6⟩:=HC.out _ HW2.out;go_wp2;go_ret;exact ⟨by rw [HF.out];rfl,a0b HB0.out HW2.out⟩
       | true =>
        cases h_n:(x_n == 0) with
        | false =>
         cases b_g with
         | false=>as_aux_lemma =>
          have HF:Hid (BB=false):=by show _=_;rw [HCh.out];simp [h_l,h_v,h_n]
          clear HCh
          go_wp2_with fail
          refine (K_a.out _).mono ?_;rintro e v ⟨rfl,hv⟩;subst v
          go_wp2_with fail
          refine (K_b.out _).mono ?_;rintro e v ⟨rfl,hv⟩;subst v
          go_wp2_with fail
          refine (K_c.out _).mono ?_;rintro e w1 ⟨rfl,hb⟩;have HW1:=hid (a0b HW.out hb);clear hb c0 c1 c2 c3 c4 c5 c6;obtain ⟨c0,c1,c2,c3,c4,c5,c6⟩:=HC.out _ HW1.out
          go_wp2_with fail
          refine (K_f'.out _ HW1.out).mono ?_;rintro e w2 ⟨rfl,hb⟩;have HW2:=hid (a0b HW1.out hb);clear hb c0 c1 c2 c3 c4 c5 c6;obtain ⟨c0,c1,c2,c3,c4,c5,c6⟩:=HC.out _ HW2.out
          go_wp2_with fail
          refine (K_g.out _).mono ?_;rintro e v ⟨rfl,hv⟩;subst v;go_wp2;go_ret;exact ⟨by rw [HF.out];rfl,a0b HB0.out HW2.out⟩
         | true =>
          by_cases h_w:x_w.length <= 256
          ·as_aux_lemma =>
           have dw:decide ((x_w.length:Int) <= 256)=true:=decide_eq_true (by omega);have dw':decide (x_w.length <= 256)=true:=decide_eq_true h_w;have HF:Hid (BB=b_i):=by show _=_;rw [HCh.out];simp [h_l,h_v,h_n,h_p,h_w]
           clear HCh
           go_wp2_with fail
           refine (K_a.out _).mono ?_;rintro e v ⟨rfl,hv⟩;subst v
           go_wp2_with fail
           refine (K_b.out _).mono ?_;rintro e v ⟨rfl,hv⟩;subst v
           go_wp2_with fail
           refine (K_c.out _).mono ?_;rintro e w1 ⟨rfl,hb⟩;have HW1:=hid (a0b HW.out hb);clear hb c0 c1 c2 c3 c4 c5 c6;obtain ⟨c0,c1,c2,c3,c4,c5,c6⟩:=HC.out _ HW1.out
           go_wp2_with fail
           refine (K_f'.out _ HW1.out).mono ?_;rintro e w2 ⟨rfl,hb⟩;have HW2:=hid (a0b HW1.out hb);clear hb c0 c1 c2 c3 c4 c5 c6;obtain ⟨c0,c1,c2,c3,c4,c5,c6⟩:=HC.out _ HW2.out
           go_wp2_with fail
           refine (K_g.out _).mono ?_;rintro e v ⟨rfl,hv⟩;subst v
           go_wp2_with fail
           refine (K_i.out _).mono ?_;rintro e w3 ⟨rfl,hb⟩;have HW3:=hid (a0b HW2.out hb);clear hb c0 c1 c2 c3 c4 c5 c6;obtain ⟨c0,c1,c2,c3,c4,c5,c6⟩:=HC.out _ HW3.out;go_wp2;go_ret;exact ⟨by rw [HF.out];rfl,a0b HB0.out HW3.out⟩
          ·as_aux_lemma =>
           have dw:decide ((x_w.length:Int) <= 256)=false:=decide_eq_false (by omega);have dw':decide (x_w.length <= 256)=false:=decide_eq_false h_w;have HF:Hid (BB=false):=by show _=_;rw [HCh.out];simp [h_l,h_v,h_n,h_w]
           clear HCh
           go_wp2_with fail
           refine (K_a.out _).mono ?_;rintro e v ⟨rfl,hv⟩;subst v
           go_wp2_with fail
           refine (K_b.out _).mono ?_;rintro e v ⟨rfl,hv⟩;subst v
           go_wp2_with fail
           refine (K_c.out _).mono ?_;rintro e w1 ⟨rfl,hb⟩;have HW1:=hid (a0b HW.out hb);clear hb c0 c1 c2 c3 c4 c5 c6;obtain ⟨c0,c1,c2,c3,c4,c5,c6⟩:=HC.out _ HW1.out
           go_wp2_with fail
           refine (K_f'.out _ HW1.out).mono ?_;rintro e w2 ⟨rfl,hb⟩;have HW2:=hid (a0b HW1.out hb);clear hb c0 c1 c2 c3 c4 c5 c6;obtain ⟨c0,c1,c2,c3,c4,c5,c6⟩:=HC.out _ HW2.out
           go_wp2_with fail
           refine (K_g.out _).mono ?_;rintro e v ⟨rfl,hv⟩;subst v;go_wp2;go_ret;exact ⟨by rw [HF.out];rfl,a0b HB0.out HW2.out⟩
        | true =>
         by_cases h_w:x_w.length <= 256
         ·as_aux_lemma =>
          have dw:decide ((x_w.length:Int) <= 256)=true:=decide_eq_true (by omega);have dw':decide (x_w.length <= 256)=true:=decide_eq_true h_w;have HF:Hid (BB=b_i):=by show _=_;rw [HCh.out];simp [h_l,h_v,h_n,h_p,h_w]
          clear HCh
          go_wp2_with fail
          refine (K_a.out _).mono ?_;rintro e v ⟨rfl,hv⟩;subst v
          go_wp2_with fail
          refine (K_b.out _).mono ?_;rintro e v ⟨rfl,hv⟩;subst v
          go_wp2_with fail
          refine (K_c.out _).mono ?_;rintro e w1 ⟨rfl,hb⟩;have HW1:=hid (a0b HW.out hb);clear hb c0 c1 c2 c3 c4 c5 c6;obtain ⟨c0,c1,c2,c3,c4,c5,c6⟩:=HC.out _ HW1.out
          go_wp2_with fail
          refine (K_f'.out _ HW1.out).mono ?_;rintro e w2 ⟨rfl,hb⟩;have HW2:=hid (a0b HW1.out hb);clear hb c0 c1 c2 c3 c4 c5 c6;obtain ⟨c0,c1,c2,c3,c4,c5,c6⟩:=HC.out _ HW2.out
          go_wp2_with fail
          refine (K_i.out _).mono ?_;rintro e w3 ⟨rfl,hb⟩;have HW3:=hid (a0b HW2.out hb);clear hb c0 c1 c2 c3 c4 c5 c6;obtain ⟨c0,c1,c2,c3,c4,c5,c6⟩:=HC.out _ HW3.out;go_wp2;go_ret;exact ⟨by rw [HF.out];rfl,a0b HB0.out HW3.out⟩
         ·as_aux_lemma =>
          have dw:decide ((x_w.length:Int) <= 256)=false:=decide_eq_false (by omega);have dw':decide (x_w.length <= 256)=false:=decide_eq_false h_w;have HF:Hid (BB=false):=by show _=_;rw [HCh.out];simp [h_l,h_v,h_n,h_w]
          clear HCh
          go_wp2_with fail
          refine (K_a.out _).mono ?_;rintro e v ⟨rfl,hv⟩;subst v
          go_wp2_with fail
          refine (K_b.out _).mono ?_;rintro e v ⟨rfl,hv⟩;subst v
          go_wp2_with fail
          refine (K_c.out _).mono ?_;rintro e w1 ⟨rfl,hb⟩;have HW1:=hid (a0b HW.out hb);clear hb c0 c1 c2 c3 c4 c5 c6;obtain ⟨c0,c1,c2,c3,c4,c5,c6⟩:=HC.out _ HW1.out
          go_wp2_with fail
          refine (K_f'.out _ HW1.out).mono ?_;rintro e w2 ⟨rfl,hb⟩;have HW2:=hid (a0b HW1.out hb);clear hb c0 c1 c2 c3 c4 c5 c6;obtain ⟨c0,c1,c2,c3,c4,c5,c6⟩:=HC.out _ HW2.out;go_wp2;go_ret;exact ⟨by rw [HF.out];rfl,a0b HB0.out HW2.out⟩
      ·as_aux_lemma =>
       have dp:decide ((x_p:Int) <= 8)=false:=decide_eq_false (by omega);have dp':decide (x_p <= 8)=false:=decide_eq_false h_p;have HF:Hid (BB=false):=by show _=_;rw [HCh.out];simp [h_l,h_v,h_p]
       clear HCh
       go_wp2_with fail
       refine (K_a.out _).mono ?_;rintro e v ⟨rfl,hv⟩;subst v
       go_wp2_with fail
       refine (K_b.out _).mono ?_;rintro e v ⟨rfl,hv⟩;subst v
       go_wp2_with fail
       refine (K_c.out _).mono ?_;rintro e w1 ⟨rfl,hb⟩;have HW1:=hid (a0b HW.out hb);clear hb c0 c1 c2 c3 c4 c5 c6;obtain ⟨c0,c1,c2,c3,c4,c5,c6⟩:=HC.out _ HW1.out;go_wp2;go_ret;exact ⟨by rw [HF.out];rfl,a0b HB0.out HW1.out⟩
     | true=>as_aux_lemma =>
      obtain rfl:x_v = []:=List.isEmpty_iff.1 h_v;clear h_v;have HF:Hid (BB=false):=by show _=_;rw [HCh.out];simp [h_l]
      clear HCh
      go_wp2_with fail
      refine (K_a.out _).mono ?_;rintro e v ⟨rfl,hv⟩;subst v
      go_wp2_with fail
      refine (K_b.out _).mono ?_;rintro e v ⟨rfl,hv⟩;subst v
      go_wp2_with fail
      refine (K_c.out _).mono ?_;rintro e w1 ⟨rfl,hb⟩;have HW1:=hid (a0b HW.out hb);clear hb c0 c1 c2 c3 c4 c5 c6;obtain ⟨c0,c1,c2,c3,c4,c5,c6⟩:=HC.out _ HW1.out;go_wp2;go_ret;exact ⟨by rw [HF.out];rfl,a0b HB0.out HW1.out⟩
  | true =>
   cases b_c with
   | false=>as_aux_lemma =>
    have HF:Hid (BB=false):=by show _=_;rw [HCh.out];simp [h_l]
    clear HCh
    go_wp2_with fail
    refine (K_a.out _).mono ?_;rintro e v ⟨rfl,hv⟩;subst v
    go_wp2_with fail
    refine (K_c.out _).mono ?_;rintro e w1 ⟨rfl,hb⟩;have HW1:=hid (a0b HW.out hb);clear hb c0 c1 c2 c3 c4 c5 c6;obtain ⟨c0,c1,c2,c3,c4,c5,c6⟩:=HC.out _ HW1.out;go_wp2;go_ret;exact ⟨by rw [HF.out];rfl,a0b HB0.out HW1.out⟩
   | true =>
    cases h_v:x_v.isEmpty with
    | false=>as_aux_lemma =>
     have hne:¬ x_v = []:=fun e=>by rw [e] at h_v;cases h_v
     have HF:Hid (BB=false):=by show _=_;rw [HCh.out];simp [h_l,h_v]
     clear HCh
     go_wp2_with fail
     refine (K_a.out _).mono ?_;rintro e v ⟨rfl,hv⟩;subst v
     go_wp2_with fail
     refine (K_c.out _).mono ?_;rintro e w1 ⟨rfl,hb⟩;have HW1:=hid (a0b HW.out hb);clear hb c0 c1 c2 c3 c4 c5 c6;obtain ⟨c0,c1,c2,c3,c4,c5,c6⟩:=HC.out _ HW1.out;go_wp2;go_ret;exact ⟨by rw [HF.out];rfl,a0b HB0.out HW1.out⟩
    | true =>
     obtain rfl:x_v = []:=List.isEmpty_iff.1 h_v;clear h_v;by_cases h_p:x_p <= 8
     ·have dp:decide ((x_p:Int) <= 8)=true:=decide_eq_true (by omega)
      have dp':decide (x_p <= 8)=true:=decide_eq_true h_p;have K_f':=hid (K_f.out h_p)
      cases b_f with
      | false=>as_aux_lemma =>
       have HF:Hid (BB=false):=by show _=_;rw [HCh.out];simp [h_l]
       clear HCh
       go_wp2_with fail
       refine (K_a.out _).mono ?_;rintro e v ⟨rfl,hv⟩;subst v
       go_wp2_with fail
       refine (K_c.out _).mono ?_;rintro e w1 ⟨rfl,hb⟩;have HW1:=hid (a0b HW.out hb);clear hb c0 c1 c2 c3 c4 c5 c6;obtain ⟨c0,c1,c2,c3,c4,c5,c6⟩:=HC.out _ HW1.out
       go_wp2_with fail
       refine (K_f'.out _ HW1.out).mono ?_;rintro e w2 ⟨rfl,hb⟩;have HW2:=hid (a0b HW1.out hb);clear hb c0 c1 c2 c3 c4 c5 c6;obtain ⟨c0,c1,c2,c3,c4,c5,c6⟩:=HC.out _ HW2.out;go_wp2;go_ret;exact ⟨by rw [HF.out];rfl,a0b HB0.out HW2.out⟩
      | true =>
       cases h_n:(x_n == 0) with
       | false =>
        cases b_g with
        | false=>as_aux_lemma =>
         have HF:Hid (BB=false):=by show _=_;rw [HCh.out];simp [h_l,h_n]
         clear HCh
         go_wp2_with fail
         refine (K_a.out _).mono ?_;rintro e v ⟨rfl,hv⟩;subst v
         go_wp2_with fail
         refine (K_c.out _).mono ?_;rintro e w1 ⟨rfl,hb⟩;have HW1:=hid (a0b HW.out hb);clear hb c0 c1 c2 c3 c4 c5 c6;obtain ⟨c0,c1,c2,c3,c4,c5,c6⟩:=HC.out _ HW1.out
         go_wp2_with fail
         refine (K_f'.out _ HW1.out).mono ?_;rintro e w2 ⟨rfl,hb⟩;have HW2:=hid (a0b HW1.out hb);clear hb c0 c1 c2 c3 c4 c5 c6;obtain ⟨c0,c1,c2,c3,c4,c5,c6⟩:=HC.out _ HW2.out
         go_wp2_with fail
         refine (K_g.out _).mono ?_;rintro e v ⟨rfl,hv⟩;subst v;go_wp2;go_ret;exact ⟨by rw [HF.out];rfl,a0b HB0.out HW2.out⟩
        | true =>
         by_cases h_w:x_w.length <= 256
         ·as_aux_lemma =>
          have dw:decide ((x_w.length:Int) <= 256)=true:=decide_eq_true (by omega);have dw':decide (x_w.length <= 256)=true:=decide_eq_true h_w;have HF:Hid (BB=b_i):=by show _=_;rw [HCh.out];simp [h_l,h_n,h_p,h_w]
          clear HCh
          go_wp2_with fail
          refine (K_a.out _).mono ?_;rintro e v ⟨rfl,hv⟩;subst v
          go_wp2_with fail
          refine (K_c.out _).mono ?_;rintro e w1 ⟨rfl,hb⟩;have HW1:=hid (a0b HW.out hb);clear hb c0 c1 c2 c3 c4 c5 c6;obtain ⟨c0,c1,c2,c3,c4,c5,c6⟩:=HC.out _ HW1.out
          go_wp2_with fail
          refine (K_f'.out _ HW1.out).mono ?_;rintro e w2 ⟨rfl,hb⟩;have HW2:=hid (a0b HW1.out hb);clear hb c0 c1 c2 c3 c4 c5 c6;obtain ⟨c0,c1,c2,c3,c4,c5,c6⟩:=HC.out _ HW2.out
          go_wp2_with fail
          refine (K_g.out _).mono ?_;rintro e v ⟨rfl,hv⟩;subst v
          go_wp2_with fail
          refine (K_i.out _).mono ?_;rintro e w3 ⟨rfl,hb⟩;have HW3:=hid (a0b HW2.out hb);clear hb c0 c1 c2 c3 c4 c5 c6;obtain ⟨c0,c1,c2,c3,c4,c5,c6⟩:=HC.out _ HW3.out;go_wp2;go_ret;exact ⟨by rw [HF.out];rfl,a0b HB0.out HW3.out⟩
         ·as_aux_lemma =>
          have dw:decide ((x_w.length:Int) <= 256)=false:=decide_eq_false (by omega);have dw':decide (x_w.length <= 256)=false:=decide_eq_false h_w;have HF:Hid (BB=false):=by show _=_;rw [HCh.out];simp [h_l,h_n,h_w]
          clear HCh
          go_wp2_with fail
          refine (K_a.out _).mono ?_;rintro e v ⟨rfl,hv⟩;subst v
          go_wp2_with fail
          refine (K_c.out _).mono ?_;rintro e w1 ⟨rfl,hb⟩;have HW1:=hid (a0b HW.out hb);clear hb c0 c1 c2 c3 c4 c5 c6;obtain ⟨c0,c1,c2,c3,c4,c5,c6⟩:=HC.out _ HW1.out
          go_wp2_with fail
          refine (K_f'.out _ HW1.out).mono ?_;rintro e w2 ⟨rfl,hb⟩;have HW2:=hid (a0b HW1.out hb);clear hb c0 c1 c2 c3 c4 c5 c6;obtain ⟨c0,c1,c2,c3,c4,c5,c6⟩:=HC.out _ HW2.out
          go_wp2_with fail
          refine (K_g.out _).mono ?_;rintro e v ⟨rfl,hv⟩;subst v;go_wp2;go_ret;exact ⟨by rw [HF.out];rfl,a0b HB0.out HW2.out⟩
       | true =>
        by_cases h_w:x_w.length <= 256
        ·as_aux_lemma =>
         have dw:decide ((x_w.length:Int) <= 256)=true:=decide_eq_true (by omega);have dw':decide (x_w.length <= 256)=true:=decide_eq_true h_w;have HF:Hid (BB=b_i):=by show _=_;rw [HCh.out];simp [h_l,h_n,h_p,h_w]
         clear HCh
         go_wp2_with fail
         refine (K_a.out _).mono ?_;rintro e v ⟨rfl,hv⟩;subst v
         go_wp2_with fail
         refine (K_c.out _).mono ?_;rintro e w1 ⟨rfl,hb⟩;have HW1:=hid (a0b HW.out hb);clear hb c0 c1 c2 c3 c4 c5 c6;obtain ⟨c0,c1,c2,c3,c4,c5,c6⟩:=HC.out _ HW1.out
         go_wp2_with fail
         refine (K_f'.out _ HW1.out).mono ?_;rintro e w2 ⟨rfl,hb⟩;have HW2:=hid (a0b HW1.out hb);clear hb c0 c1 c2 c3 c4 c5 c6;obtain ⟨c0,c1,c2,c3,c4,c5,c6⟩:=HC.out _ HW2.out
         go_wp2_with fail
         refine (K_i.out _).mono ?_;rintro e w3 ⟨rfl,hb⟩;have HW3:=hid (a0b HW2.out hb);clear hb c0 c1 c2 c3 c4 c5 c6;obtain ⟨c0,c1,c2,c3,c4,c5,c6⟩:=HC.out _ HW3.out;go_wp2;go_ret;exact ⟨by rw [HF.out];rfl,a0b HB0.out HW3.out⟩
        ·as_aux_lemma =>
         have dw:decide ((x_w.length:Int) <= 256)=false:=decide_eq_false (by omega);have dw':decide (x_w.length <= 256)=false:=decide_eq_false h_w;have HF:Hid (BB=false):=by show _=_;rw [HCh.out];simp [h_l,h_n,h_w]
         clear HCh
         go_wp2_with fail
         refine (K_a.out _).mono ?_;rintro e v ⟨rfl,hv⟩;subst v
         go_wp2_with fail
         refine (K_c.out _).mono ?_;rintro e w1 ⟨rfl,hb⟩;have HW1:=hid (a0b HW.out hb);clear hb c0 c1 c2 c3 c4 c5 c6;obtain ⟨c0,c1,c2,c3,c4,c5,c6⟩:=HC.out _ HW1.out
         go_wp2_with fail
         refine (K_f'.out _ HW1.out).mono ?_;rintro e w2 ⟨rfl,hb⟩;have HW2:=hid (a0b HW1.out hb);clear hb c0 c1 c2 c3 c4 c5 c6;obtain ⟨c0,c1,c2,c3,c4,c5,c6⟩:=HC.out _ HW2.out;go_wp2;go_ret;exact ⟨by rw [HF.out];rfl,a0b HB0.out HW2.out⟩
     ·as_aux_lemma =>
      have dp:decide ((x_p:Int) <= 8)=false:=decide_eq_false (by omega);have dp':decide (x_p <= 8)=false:=decide_eq_false h_p;have HF:Hid (BB=false):=by show _=_;rw [HCh.out];simp [h_l,h_p]
      clear HCh
      go_wp2_with fail
      refine (K_a.out _).mono ?_;rintro e v ⟨rfl,hv⟩;subst v
      go_wp2_with fail
      refine (K_c.out _).mono ?_;rintro e w1 ⟨rfl,hb⟩;have HW1:=hid (a0b HW.out hb);clear hb c0 c1 c2 c3 c4 c5 c6;obtain ⟨c0,c1,c2,c3,c4,c5,c6⟩:=HC.out _ HW1.out;go_wp2;go_ret;exact ⟨by rw [HF.out];rfl,a0b HB0.out HW1.out⟩
end Go.Proofs.YtagmnmoaekbffaaGreatDoor.Ms
