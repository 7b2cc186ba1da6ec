/- S09 -/
import Derived.Test.YtagmnmoaekbffaaGreatDoorTjfs
import Derived.Test.YtagmnmoaekbffaaGreatDoorS06
set_option maxHeartbeats 8000000
namespace Go.Proofs.YtagmnmoaekbffaaGreatDoor.Ms
open Go.Proofs.Tryz
open Go Go.RowKit
set_option maxRecDepth 100000
structure Hold {α:Type} (fs:List (Fl α)) (g base:Nat) (I:α->World->Prop):Prop where
 own:∀ x w,I x w->Own w g
 stay:∀ x w w',I x w->Below w.heap.size w w'->I x w'
 load:∀ x w,I x w->∀ f ∈ fs,ValAt w g (base + f.off) (f.get x)/\(f.get x).slot=f.slot
 store:∀ x w,I x w->∀ f ∈ fs,∃ A old C t,w.heap[g]? = some (.cells (A++(old++C)).toArray t)/\A.length=base + f.off/\old.length=sz f.slot/\∀ v w',v.slot=f.slot->d0V v->d0E w g A C t v w'->I (f.set x v) w'
theorem v0N (k:Slot) (HL:d0o k) {w:World} {g off:Nat} {b:Bx} {v:Val} (hF:FieldAt w k g off b) (hs:v.slot=k) (hv:ValAt w g off v) (ho:d0V v) (ht:Tb w) :
  Calls prog (c1Fn k) #[ptr b.q 0,ptr b.x 0] w fun e w'=>e = .returned (st (b0i v))/\Below w.heap.size w w':=by
 cases k using Slot.cut
 ·exact v0n HL hF hs hv ho ht
 ·exact v0o HL hF hs hv ho ht
 ·exact v0p HL hF hs hv ho ht
 ·exact c1_nums HL hF hs hv ho ht
 ·exact t0Y HL hF hs hv ho ht
theorem f0M {α:Type} (base:Nat) (fs:List (Fl α)):(h0C base fs).length=fs.length:=by simp [h0C]
theorem n0x {α:Type} (base:Nat) (fs:List (Fl α)) (j:Nat) (h:j < fs.length):(h0C base fs).getD j (.num,0)=(fs[j].slot,base + fs[j].off):=by simp [h0C,List.getD,h]
theorem flat3 {α:Type} (f:α->List Value) (hf:∀ x,(f x).length=3):∀ (l:List α) (j:Nat) (h:j < l.length) (i:Nat) (v:Value),(f l[j])[i]? = some v->((l.map f).flatten)[j * 3 + i]? = some v
 | [],j,h,_,_,_=>absurd h (Nat.not_lt_zero j)
 | x :: l,0,_,i,v,hv=>by
  have hi:i < (f x).length:=(List.getElem?_eq_some_iff.1 hv).1;simp only [List.map_cons,List.flatten_cons,Nat.zero_mul,Nat.zero_add];rw [List.getElem?_append_left hi];exact hv
 | x :: l,j + 1,h,i,v,hv=>by
  simp only [List.map_cons,List.flatten_cons];rw [List.getElem?_append_right (by rw [hf];omega),hf,show (j + 1) * 3 + i - 3=j * 3 + i by omega];exact flat3 f hf l j (by simpa using h) i v hv
theorem b0n.cells {w:World} {a:Option Addr} {n c:Nat} {g:Nat} {fs:List (Slot × Nat)} (h:b0n w (.slice a n c) g fs) (j:Nat) (hj:j < fs.length) :
  ∃ row b,a=some ⟨row,0,none⟩/\FieldAt w (fs.getD j (.num,0)).1 g (fs.getD j (.num,0)).2 b/\∀ i v,(a0o (fs.getD j (.num,0)).1 b)[i]? = some v->w.cell? ⟨row,j * 3 + i,none⟩=some v:=by
 obtain ⟨a',bs,h1,h2,h3,h4⟩:=h;obtain ⟨row,h5,h6⟩:=h3 (fun e=>by rw [e] at hj;exact absurd hj (Nat.not_lt_zero j))
 cases h1
 refine ⟨row,bs.getD j ⟨0,0,0⟩,h5,h4 j hj,fun i v hv=>?_⟩;rw [cell_of_row _ _ _ _ _ _ h6,List.getElem?_toArray];have hjz:j < (fs.zip bs).length:=by simp [h2];omega
 refine flat3 (fun q:(Slot × Nat) × Bx=>a0o q.1.1 q.2) (fun _=>rfl) (fs.zip bs) j hjz i v ?_;have e1:fs.getD j (.num,0)=fs[j]:=by simp [List.getD,hj]
 have e2:bs.getD j ⟨0,0,0⟩=bs[j]:=by simp [List.getD,h2,hj]
 rw [e1,e2] at hv;simpa using hv
theorem s0g {α:Type} (f:Val->List UInt8) (fs:List (Fl α)) (x:α) (j:Nat) (h:j < fs.length):c0F f (fs.take (j + 1)) x=c0F f (fs.take j) x++f (fs[j].get x):=by
 unfold c0F;rw [List.take_succ_eq_append_getElem h,List.map_append,List.flatten_append];simp only [List.map_cons,List.map_nil,List.flatten_cons,List.flatten_nil,List.append_nil]
theorem g0m (p:Pen) (h:penOk p):(d0x p).length <= 200:=by
 have a1:=b0e p.client h.client;have a2:=b0e p.number h.number;have a3:=b0e p.kind h.kind;have a4:=b0e p.target h.target;have a5:=e0i p.asked (by rw [h.asked];decide);have a6:=e0i p.proof (by rw [h.proof];decide);have e:d0x p=numB p.client++(numB p.number++(numB p.kind++(numB p.target++(txtB p.asked++(txtB p.proof++[]))))):=rfl;rw [e];simp only [List.length_append,List.length_nil];rw [h.asked] at a5;rw [h.proof] at a6;omega
theorem i0N (v:Val) (h:d0V v):(b0i v).length <= 20000:=by
 cases v using Val.cut with
 | num n=>have:=b0e n h;show (numB n).length <= _;omega
 | txt s =>
  have h:s.length <= 16384:=h;show (layT s).length <= _;unfold layT;rw [if_neg (by omega)];have:=e0i s (by omega);omega
 | dig d =>
  have h:d.length=32:=h;have:=e0i d (by omega);show (txtB d).length <= _;omega
 | nums l =>
  have:=k0u l h.2;show (j0t l).length <= _;unfold j0t;have:=h.1;rw [if_neg (by omega)];simp;omega
 | pens l =>
  have h1:=b0e (l.length:Int) ⟨by omega,by have:=h.1;omega⟩
  have h2:∀ l:List Pen,(∀ p ∈ l,penOk p)->((l.map d0x).flatten).length <= 200 * l.length:=by
   intro l
   induction l with
   | nil=>simp
   | cons p l ih =>
    intro hp;have:=g0m p (hp p (by simp));have:=ih (fun q hq=>hp q (by simp [hq]));simp only [List.map_cons,List.flatten_cons,List.length_append,List.length_cons];omega
  have h3:=h2 l h.2;have:=h.1;show (numB l.length++(l.map d0x).flatten).length <= _;rw [List.length_append];omega
theorem p0M {α:Type} (fs:List (Fl α)) (x:α) (h:∀ f ∈ fs,d0V (f.get x)):(c0F b0i fs x).length <= 20000 * fs.length:=by
 unfold c0F
 induction fs with
 | nil=>simp
 | cons f fs ih =>
  have:=i0N _ (h f (by simp));have:=ih (fun g hg=>h g (by simp [hg]));simp only [List.map_cons,List.flatten_cons,List.length_append,List.length_cons];omega
theorem i0O {α:Type} {fs:List (Fl α)} {g base:Nat} {I:α->World->Prop} (H:Hold fs g base I) (HL:∀ f ∈ fs,d0o f.slot) {w:World} {v:Value} {x:α} (hv:b0n w v g (h0C base fs)) (hx:I x w) (ho:∀ f ∈ fs,d0V (f.get x)) (hn:fs.length <= 100) (ht:Tb w) :
  Calls prog 94 #[v] w fun e w'=>e = .returned (st (c0F b0i fs x))/\Below w.heap.size w w':=by
 have HF:Hid (Lib.IsBuilderF 174 5 w.heap.size w.heap.size (Lib.byteCells (c0F b0i (fs.take 0) x)) (w.alloc (.cells #[.pointer none,.slice none 0 0] 174))):=Lib.IsBuilderF.of (Lib.fresh_isBuilder 174 5 w);have HB0:=hid (a0c w (.cells #[.pointer none,.slice none 0 0] 174));have HV:=hid hv;obtain ⟨a,bs0,rfl,-⟩:=hv;rw [f0M] at HV ⊢;have HO:=hid ho;have HX:=hid hx;have HH:=hid H;have HLL:=hid HL;have HT:=hid ht;clear ho hx H HL ht;go_enter func94,ntmps94;go_wp2;go_loopw [8] (fun i w'=>∃ k:Nat,k <= fs.length/\i = .int .i64 k/\Hid (Lib.IsBuilderF 174 5 w.heap.size w.heap.size (Lib.byteCells (c0F b0i (fs.take k) x)) w')/\Hid (Below w.heap.size w w')) (fun i _=>fs.length - (intOf i).toNat)
 case atStart=>exact ⟨0,Nat.zero_le _,rfl,HF,HB0⟩
 case round =>
  obtain ⟨k,hk,rfl,HI,HB⟩:=hrel;clear HF HB0;by_cases hlt:k < fs.length
  ·have d1:decide ((k:Int) < (fs.length:Int))=true:=decide_eq_true (by omega)
   have d1':decide (k < fs.length)=true:=decide_eq_true hlt;obtain ⟨row,b,ha,hF,hc⟩:=(HV.out.stays HB.out).cells k (by rw [f0M];exact hlt);subst ha;rw [n0x base fs k hlt] at hF hc;have hmem:fs[k] ∈ fs:=List.getElem_mem hlt;have hok:=HO.out _ hmem;obtain ⟨hld,hsl⟩:=HH.out.load x _ (HH.out.stay x _ _ HX.out HB.out) _ hmem;have htk:=HT.out.stays HB.out;have HLk:=HLL.out _ hmem;have hpt:=hid (s0g b0i fs x k hlt);have hpl:=p0M (fs.take k) x (fun f hf=>HO.out f (List.mem_of_mem_take hf));have hvl:=i0N _ hok;have hct:(fs.take k).length <= 100:=by rw [List.length_take];omega
   generalize fs[k].get x=val at *;have Z0:(prog.info? 178).map (·.size)=some (a0o fs[k].slot b).length:=sizeFld;have HOn:=hid (e0I fs[k].slot b);have hL:([.nilFunc,.nilFunc,.nilFunc]:List Value).length=(a0o fs[k].slot b).length:=rfl;have S0:=hid hc;have HBt:=hid (a0c wr (.cells (a0o fs[k].slot b).toArray 178));have T0:=hid (a0f wr (.cells (a0o fs[k].slot b).toArray 178))
   have HC:=hid (v0N fs[k].slot HLk (hF.stays HBt.out) hsl (by
    cases val using Val.cut with
    | num n=>exact (HBt.out.cell (World.block_lt_of_cell? wr _ hld)).trans hld
    | txt n=>exact (HBt.out.cell (World.block_lt_of_cell? wr _ hld)).trans hld
    | dig n=>exact fun i c hi=>(HBt.out.cell (World.block_lt_of_cell? wr _ (hld i c hi))).trans (hld i c hi)
    | nums n=>obtain ⟨cv,h1,h2⟩:=hld;exact ⟨cv,(HBt.out.cell (World.block_lt_of_cell? wr _ h1)).trans h1,h2.kept HBt.out⟩
    | pens n=>obtain ⟨cv,h1,h2⟩:=hld;exact ⟨cv,(HBt.out.cell (World.block_lt_of_cell? wr _ h1)).trans h1,h2.kept HBt.out⟩) hok (htk.stays HBt.out))
   have HI1:=hid (Lay.d0D HI.out HBt.out);have HB1:=hid (a0b HB.out HBt.out);clear hc hmem hok hld hsl htk HLk hF HBt HI HB HO HX HH HLL HT HV;generalize b0i val=lv at *;generalize fs[k].slot=sl at *;generalize c0F b0i (fs.take k) x=pr at *;have hlv:(⟨lv.toArray⟩:ByteArray).size=lv.length:=rfl
   cases sl using Slot.cut with
   | num=>as_aux_lemma =>
    have ce:(wr.alloc (.cells (a0o .num b).toArray 178)).cell? ⟨wr.heap.size,0,none⟩=some (.func (.func (c1Fn .num)) #[] #[ptr b.q 0,ptr b.x 0]):=by rw [cell_of_row _ _ _ _ _ _ T0.out];rfl
    simp only [c1Fn] at ce HC;generalize a0o .num b=V at *;clear T0;go_upto_region 5 with (first | ((with_reducible refine a0d 178 (.tmp 10) ?_ row (k * 3) ?_ ?_ V _ S0.out underlying178 ?_ Z0 ?_);iterate 4 exact rfl) | ((with_reducible refine a0v 178 (.tmp 5) (.tmp 11) ?_ ?_ ?_ ?_ V [.nilFunc,.nilFunc,.nilFunc] ?_ 178 hL HOn.out Z0 ?_);exact rfl;iterate 4 exact rfl))
    generalize wr.alloc (.cells V.toArray 178)=W2 at *
    go_wp2_with fail
    refine HC.out.mono ?_;rintro e w3 ⟨rfl,hb3⟩;have HB3:=hid (a0b HB1.out hb3);have HI3:=hid (Lay.d0D HI1.out hb3);have hsz3:=HB3.out.size;clear hb3 HC HB1 HI1 S0 ce
    go_wp2_with fail
    refine (Lay.c0z w.heap.size w.heap.size _ ⟨lv.toArray⟩ _ HI3.out (by simp [Lib.byteCells,ByteArray.size];omega) hsz3).mono ?_;rintro e w4 ⟨rfl,h4,hb4,-⟩
    have H4:Hid (Lib.IsBuilderF 174 5 w.heap.size w.heap.size (Lib.byteCells (c0F b0i (fs.take (k + 1)) x)) w4):=by
     refine Or.inr ?_;rw [hpt.out];simpa [Lib.byteCells,Lib.strCells] using h4
    have HB4:Hid (Below w.heap.size w w4):=HB3.out.trans hb4;clear h4 hb4 HI3 HB3;go_wp2;exact ⟨⟨k + 1,by omega,by go_num,H4,HB4⟩,by simp [intOf];omega⟩
   | txt=>as_aux_lemma =>
    have ce:(wr.alloc (.cells (a0o .txt b).toArray 178)).cell? ⟨wr.heap.size,0,none⟩=some (.func (.func (c1Fn .txt)) #[] #[ptr b.q 0,ptr b.x 0]):=by rw [cell_of_row _ _ _ _ _ _ T0.out];rfl
    simp only [c1Fn] at ce HC;generalize a0o .txt b=V at *;clear T0;go_upto_region 5 with (first | ((with_reducible refine a0d 178 (.tmp 10) ?_ row (k * 3) ?_ ?_ V _ S0.out underlying178 ?_ Z0 ?_);iterate 4 exact rfl) | ((with_reducible refine a0v 178 (.tmp 5) (.tmp 11) ?_ ?_ ?_ ?_ V [.nilFunc,.nilFunc,.nilFunc] ?_ 178 hL HOn.out Z0 ?_);exact rfl;iterate 4 exact rfl))
    generalize wr.alloc (.cells V.toArray 178)=W2 at *
    go_wp2_with fail
    refine HC.out.mono ?_;rintro e w3 ⟨rfl,hb3⟩;have HB3:=hid (a0b HB1.out hb3);have HI3:=hid (Lay.d0D HI1.out hb3);have hsz3:=HB3.out.size;clear hb3 HC HB1 HI1 S0 ce
    go_wp2_with fail
    refine (Lay.c0z w.heap.size w.heap.size _ ⟨lv.toArray⟩ _ HI3.out (by simp [Lib.byteCells,ByteArray.size];omega) hsz3).mono ?_;rintro e w4 ⟨rfl,h4,hb4,-⟩
    have H4:Hid (Lib.IsBuilderF 174 5 w.heap.size w.heap.size (Lib.byteCells (c0F b0i (fs.take (k + 1)) x)) w4):=by
     refine Or.inr ?_;rw [hpt.out];simpa [Lib.byteCells,Lib.strCells] using h4
    have HB4:Hid (Below w.heap.size w w4):=HB3.out.trans hb4;clear h4 hb4 HI3 HB3;go_wp2;exact ⟨⟨k + 1,by omega,by go_num,H4,HB4⟩,by simp [intOf];omega⟩
   | dig=>as_aux_lemma =>
    have ce:(wr.alloc (.cells (a0o .dig b).toArray 178)).cell? ⟨wr.heap.size,0,none⟩=some (.func (.func (c1Fn .dig)) #[] #[ptr b.q 0,ptr b.x 0]):=by rw [cell_of_row _ _ _ _ _ _ T0.out];rfl
    simp only [c1Fn] at ce HC;generalize a0o .dig b=V at *;clear T0;go_upto_region 5 with (first | ((with_reducible refine a0d 178 (.tmp 10) ?_ row (k * 3) ?_ ?_ V _ S0.out underlying178 ?_ Z0 ?_);iterate 4 exact rfl) | ((with_reducible refine a0v 178 (.tmp 5) (.tmp 11) ?_ ?_ ?_ ?_ V [.nilFunc,.nilFunc,.nilFunc] ?_ 178 hL HOn.out Z0 ?_);exact rfl;iterate 4 exact rfl))
    generalize wr.alloc (.cells V.toArray 178)=W2 at *
    go_wp2_with fail
    refine HC.out.mono ?_;rintro e w3 ⟨rfl,hb3⟩;have HB3:=hid (a0b HB1.out hb3);have HI3:=hid (Lay.d0D HI1.out hb3);have hsz3:=HB3.out.size;clear hb3 HC HB1 HI1 S0 ce
    go_wp2_with fail
    refine (Lay.c0z w.heap.size w.heap.size _ ⟨lv.toArray⟩ _ HI3.out (by simp [Lib.byteCells,ByteArray.size];omega) hsz3).mono ?_;rintro e w4 ⟨rfl,h4,hb4,-⟩
    have H4:Hid (Lib.IsBuilderF 174 5 w.heap.size w.heap.size (Lib.byteCells (c0F b0i (fs.take (k + 1)) x)) w4):=by
     refine Or.inr ?_;rw [hpt.out];simpa [Lib.byteCells,Lib.strCells] using h4
    have HB4:Hid (Below w.heap.size w w4):=HB3.out.trans hb4;clear h4 hb4 HI3 HB3;go_wp2;exact ⟨⟨k + 1,by omega,by go_num,H4,HB4⟩,by simp [intOf];omega⟩
   | nums=>as_aux_lemma =>
    have ce:(wr.alloc (.cells (a0o .nums b).toArray 178)).cell? ⟨wr.heap.size,0,none⟩=some (.func (.func (c1Fn .nums)) #[] #[ptr b.q 0,ptr b.x 0]):=by rw [cell_of_row _ _ _ _ _ _ T0.out];rfl
    simp only [c1Fn] at ce HC;generalize a0o .nums b=V at *;clear T0;go_upto_region 5 with (first | ((with_reducible refine a0d 178 (.tmp 10) ?_ row (k * 3) ?_ ?_ V _ S0.out underlying178 ?_ Z0 ?_);iterate 4 exact rfl) | ((with_reducible refine a0v 178 (.tmp 5) (.tmp 11) ?_ ?_ ?_ ?_ V [.nilFunc,.nilFunc,.nilFunc] ?_ 178 hL HOn.out Z0 ?_);exact rfl;iterate 4 exact rfl))
    generalize wr.alloc (.cells V.toArray 178)=W2 at *
    go_wp2_with fail
    refine HC.out.mono ?_;rintro e w3 ⟨rfl,hb3⟩;have HB3:=hid (a0b HB1.out hb3);have HI3:=hid (Lay.d0D HI1.out hb3);have hsz3:=HB3.out.size;clear hb3 HC HB1 HI1 S0 ce
    go_wp2_with fail
    refine (Lay.c0z w.heap.size w.heap.size _ ⟨lv.toArray⟩ _ HI3.out (by simp [Lib.byteCells,ByteArray.size];omega) hsz3).mono ?_;rintro e w4 ⟨rfl,h4,hb4,-⟩
    have H4:Hid (Lib.IsBuilderF 174 5 w.heap.size w.heap.size (Lib.byteCells (c0F b0i (fs.take (k + 1)) x)) w4):=by
     refine Or.inr ?_;rw [hpt.out];simpa [Lib.byteCells,Lib.strCells] using h4
    have HB4:Hid (Below w.heap.size w w4):=HB3.out.trans hb4;clear h4 hb4 HI3 HB3;go_wp2;exact ⟨⟨k + 1,by omega,by go_num,H4,HB4⟩,by simp [intOf];omega⟩
   | pens=>as_aux_lemma =>
    have ce:(wr.alloc (.cells (a0o .pens b).toArray 178)).cell? ⟨wr.heap.size,0,none⟩=some (.func (.func (c1Fn .pens)) #[] #[ptr b.q 0,ptr b.x 0]):=by rw [cell_of_row _ _ _ _ _ _ T0.out];rfl
    simp only [c1Fn] at ce HC;generalize a0o .pens b=V at *;clear T0;go_upto_region 5 with (first | ((with_reducible refine a0d 178 (.tmp 10) ?_ row (k * 3) ?_ ?_ V _ S0.out underlying178 ?_ Z0 ?_);iterate 4 exact rfl) | ((with_reducible refine a0v 178 (.tmp 5) (.tmp 11) ?_ ?_ ?_ ?_ V [.nilFunc,.nilFunc,.nilFunc] ?_ 178 hL HOn.out Z0 ?_);exact rfl;iterate 4 exact rfl))
    generalize wr.alloc (.cells V.toArray 178)=W2 at *
    go_wp2_with fail
    refine HC.out.mono ?_;rintro e w3 ⟨rfl,hb3⟩;have HB3:=hid (a0b HB1.out hb3);have HI3:=hid (Lay.d0D HI1.out hb3);have hsz3:=HB3.out.size;clear hb3 HC HB1 HI1 S0 ce
    go_wp2_with fail
    refine (Lay.c0z w.heap.size w.heap.size _ ⟨lv.toArray⟩ _ HI3.out (by simp [Lib.byteCells,ByteArray.size];omega) hsz3).mono ?_;rintro e w4 ⟨rfl,h4,hb4,-⟩
    have H4:Hid (Lib.IsBuilderF 174 5 w.heap.size w.heap.size (Lib.byteCells (c0F b0i (fs.take (k + 1)) x)) w4):=by
     refine Or.inr ?_;rw [hpt.out];simpa [Lib.byteCells,Lib.strCells] using h4
    have HB4:Hid (Below w.heap.size w w4):=HB3.out.trans hb4;clear h4 hb4 HI3 HB3;go_wp2;exact ⟨⟨k + 1,by omega,by go_num,H4,HB4⟩,by simp [intOf];omega⟩
  ·as_aux_lemma =>
   have hkl:k=fs.length:=by omega
   subst hkl;have dk:decide ((fs.length:Int) < (fs.length:Int))=false:=decide_eq_false (by omega);have hsz:=HB.out.size;rw [List.take_length] at HI;clear HO HX HH HLL HT HV
   go_wp2_with fail
   refine (Tryz.Builder_String_any_k w.heap.size w.heap.size (c0F b0i fs x) _ HI.out hsz).mono ?_;rintro e w3 ⟨rfl,h3,hb3,-⟩;have HB3:Hid (Below w.heap.size w w3):=HB.out.trans hb3;clear h3 hb3;go_wp2;go_ret;exact ⟨rfl,HB3.out⟩
open Go Go.RowKit
set_option maxRecDepth 100000
theorem d0E.kept {w w':World} {g:Nat} {A C:List Value} {t:TypeId} {v:Val} (h:d0E w g A C t v w'):Kept g w w':=by
 obtain ⟨cv,w1,hb,-,-,-,hbut⟩:=h;exact (Kept.of hb).trans (Kept.but hbut)
theorem b0n.kept {w w':World} {v:Value} {g:Nat} {fs:List (Slot × Nat)} (h:b0n w v g fs) (ho:Own w g) (hk:Kept g w w'):b0n w' v g fs:=by
 obtain ⟨a,bs,h1,h2,h3,h4⟩:=h;refine ⟨a,bs,h1,h2,fun hne=>?_,fun j hj=>(h4 j hj).kept ho hk⟩;obtain ⟨row,h5,h6⟩:=h3 hne;obtain ⟨cs,t,hg,ht⟩:=ho;exact ⟨row,h5,hk.row h6 (s0d hg h6 (by rcases ht with rfl | rfl <;> decide))⟩
theorem v0O (k:Slot) {w:World} {g off:Nat} {b:Bx} (hF:FieldAt w k g off b) (A old C:List Value) (t:TypeId) (hg:w.heap[g]? = some (.cells (A++(old++C)).toArray t)) (hA:A.length=off) (hl:old.length=sz k) :
  Calls prog (c3Fn k) #[ptr b.x 0] w fun e w'=>e = .returned (.tuple #[])/\d0E w g A C t (Slot.zero k) w':=by
 cases k using Slot.cut
 ·exact v0q hF A old C t hg hA hl
 ·exact v0r hF A old C t hg hA hl
 ·exact v0s hF A old C t hg hA hl
 ·exact t0Z hF A old C t hg hA hl
 ·exact u0a hF A old C t hg hA hl
theorem drop_at {α:Type} (fs:List α) (k:Nat) (h:k < fs.length):fs.drop k=fs[k] :: fs.drop (k + 1):=List.drop_eq_getElem_cons h
end Go.Proofs.YtagmnmoaekbffaaGreatDoor.Ms
