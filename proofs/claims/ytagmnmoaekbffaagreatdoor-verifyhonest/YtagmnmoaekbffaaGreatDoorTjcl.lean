/- Tjcl -/
import Derived.Test.YtagmnmoaekbffaaGreatDoorTjas
import Derived.Laws.EntriesVeiled
import Derived.Handy
set_option maxHeartbeats 2000000
namespace Go.Proofs.YtagmnmoaekbffaaGreatDoor.Ms
open Go.Proofs.Tryz
open Go Go.RowKit
set_option maxRecDepth 100000
structure Bx where
 x:Nat
 q:Nat
 r:Nat
abbrev ptr (g off:Nat):Value:=.pointer (some ⟨g,off,none⟩)
abbrev fnV (f:Nat):Value:=.func (.func f) #[] #[]
def g0J:Slot->Nat
 | .inl _=>68
 | .inr (.inl _)=>80
 | .inr (.inr (.inl _))=>136
 | .inr (.inr (.inr (.inl _)))=>140
 | .inr (.inr (.inr (.inr _)))=>171
def v0m:Slot->Nat
 | .inl _=>132
 | .inr (.inl _)=>134
 | .inr (.inr (.inl _))=>137
 | .inr (.inr (.inr (.inl _)))=>141
 | .inr (.inr (.inr (.inr _)))=>172
def c1Fn:Slot->Nat
 | .inl _=>157
 | .inr (.inl _)=>163
 | .inr (.inr (.inl _))=>166
 | .inr (.inr (.inr (.inl _)))=>173
 | .inr (.inr (.inr (.inr _)))=>188
def c2Fn:Slot->Nat
 | .inl _=>158
 | .inr (.inl _)=>164
 | .inr (.inr (.inl _))=>167
 | .inr (.inr (.inr (.inl _)))=>174
 | .inr (.inr (.inr (.inr _)))=>189
def c3Fn:Slot->Nat
 | .inl _=>159
 | .inr (.inl _)=>165
 | .inr (.inr (.inl _))=>168
 | .inr (.inr (.inr (.inl _)))=>175
 | .inr (.inr (.inr (.inr _)))=>190
def xTy:Slot->TypeId
 | .inl _=>184
 | .inr (.inl _)=>187
 | .inr (.inr (.inl _))=>189
 | .inr (.inr (.inr (.inl _)))=>194
 | .inr (.inr (.inr (.inr _)))=>210
def qTy:Slot->TypeId
 | .inl _=>98
 | .inr (.inl _)=>101
 | .inr (.inr (.inl _))=>130
 | .inr (.inr (.inr (.inl _)))=>58
 | .inr (.inr (.inr (.inr _)))=>231
def rTy:Slot->TypeId
 | .inl _=>204
 | .inr (.inl _)=>206
 | .inr (.inr (.inl _))=>208
 | .inr (.inr (.inr (.inl _)))=>212
 | .inr (.inr (.inr (.inr _)))=>232
def a0o (k:Slot) (b:Bx):List Value:=[.func (.func (c1Fn k)) #[] #[ptr b.q 0,ptr b.x 0],.func (.func (c2Fn k)) #[] #[ptr b.r 0,ptr b.x 0],.func (.func (c3Fn k)) #[] #[ptr b.x 0]]
structure FieldAt (w:World) (k:Slot) (g off:Nat) (b:Bx):Prop where
 hx:w.heap[b.x]? = some (.cells #[ptr g off] (xTy k))
 hq:w.heap[b.q]? = some (.cells #[fnV (g0J k)] (qTy k))
 hr:w.heap[b.r]? = some (.cells #[fnV (v0m k)] (rTy k))
structure Kept (g:Nat) (w w':World):Prop where
 os:w'.os=w.os
 tape:w'.tape=w.tape
 output:w'.output=w.output
 size:w.heap.size <= w'.heap.size
 block:∀ k,k < w.heap.size->k ≠ g->w'.heap[k]? = w.heap[k]?
theorem Kept.of {g:Nat} {w w':World} (h:Below w.heap.size w w'):Kept g w w':=⟨h.os,h.tape,h.output,h.size,fun k hk _=>h.block k hk⟩
theorem Kept.refl (g:Nat) (w:World):Kept g w w:=Kept.of (Below.refl _ _)
theorem Kept.trans {g:Nat} {w w1 w2:World} (h1:Kept g w w1) (h2:Kept g w1 w2):Kept g w w2 :=
 ⟨h2.os.trans h1.os,h2.tape.trans h1.tape,h2.output.trans h1.output,Nat.le_trans h1.size h2.size,fun k hk hg=>(h2.block k (Nat.lt_of_lt_of_le hk h1.size) hg).trans (h1.block k hk hg)⟩
theorem Kept.but {g:Nat} {w w':World} (h:But g w w'):Kept g w w':=⟨h.os,h.tape,h.output,by rw [h.size];exact Nat.le_refl _,fun k _ hg=>h.block k hg⟩
theorem Kept.row {g k:Nat} {w w':World} {o:Obj} (h:Kept g w w') (hr:w.heap[k]? = some o) (hk:k ≠ g):w'.heap[k]? = some o:=(h.block k (Array.getElem?_eq_some_iff.1 hr).1 hk).trans hr
theorem Kept.below {g:Nat} {a w w':World} (h:Kept g w w') (h0:Below a.heap.size a w) (h1:a.heap.size <= g):Below a.heap.size a w' :=
 ⟨h.os.trans h0.os,h.tape.trans h0.tape,h.output.trans h0.output,Nat.le_trans h0.size h.size,fun k hk=>(h.block k (Nat.lt_of_lt_of_le hk h0.size) (by omega)).trans (h0.block k hk)⟩
def Own (w:World) (g:Nat):Prop:=∃ cs t,w.heap[g]? = some (.cells cs t)/\(t=80 ∨ t=57)
theorem s0d {w:World} {g b:Nat} {cs cs':Array Value} {t t':TypeId} (h:w.heap[g]? = some (.cells cs t)) (h':w.heap[b]? = some (.cells cs' t')) (hne:t' ≠ t):b ≠ g:=by
 intro e;rw [e,h] at h';injection h' with h'
 injection h' with _ h'
 exact hne h'.symm
theorem FieldAt.ne {w:World} {k:Slot} {g off:Nat} {b:Bx} (h:FieldAt w k g off b) (ho:Own w g):b.x ≠ g/\b.q ≠ g/\b.r ≠ g:=by
 obtain ⟨cs,t,hg,ht⟩:=ho;have h1:xTy k ≠ t:=by cases k using Slot.cut <;> rcases ht with rfl | rfl <;> decide
 have h2:qTy k ≠ t:=by cases k using Slot.cut <;> rcases ht with rfl | rfl <;> decide
 have h3:rTy k ≠ t:=by cases k using Slot.cut <;> rcases ht with rfl | rfl <;> decide
 exact ⟨s0d hg h.hx h1,s0d hg h.hq h2,s0d hg h.hr h3⟩
theorem FieldAt.kept {w w':World} {k:Slot} {g off:Nat} {b:Bx} (h:FieldAt w k g off b) (ho:Own w g) (hk:Kept g w w'):FieldAt w' k g off b:=by
 obtain ⟨n1,n2,n3⟩:=h.ne ho;exact ⟨hk.row h.hx n1,hk.row h.hq n2,hk.row h.hr n3⟩
theorem FieldAt.stays {w w':World} {k:Slot} {g off:Nat} {b:Bx} (h:FieldAt w k g off b) (hb:Below w.heap.size w w'):FieldAt w' k g off b :=
 ⟨a0a h.hx hb,a0a h.hq hb,a0a h.hr hb⟩
def d0o (k:Slot):Prop:=∀ (v:Val),v.slot=k->d0V v->∀ (w:World) (cv:Value),Tb w->CvAt w cv v->Calls prog (g0J k) #[cv] w fun e w'=>e = .returned (st (b0i v))/\Below w.heap.size w w'
def Fr (B:Nat) (cv:Value):Prop:=∀ a n c,cv = .slice (some a) n c->B <= a.block
theorem b0J {w:World} {b:Nat} {v:Value} {t:TypeId} (h:w.heap[b]? = some (.cells #[v] t)):w.cell? ⟨b,0,none⟩=some v:=by rw [cell_of_row _ _ _ _ _ _ h];rfl
theorem f0L:d0o .num:=by
 intro v hs hv w cv ht hc;obtain ⟨n,rfl⟩:=b0q hs;subst hc;exact Lay.c0y n hv.1 hv.2 w ht
theorem s0e:d0o .txt:=by
 intro v hs hv w cv ht hc;obtain ⟨n,rfl⟩:=d0J hs;subst hc;exact f0y n w ht
theorem j0K:d0o .dig:=by
 intro v hs hv w cv ht hc;obtain ⟨n,rfl⟩:=b0Q hs;subst hc;exact o0o n hv w ht
theorem p0H:d0o .nums:=by
 intro v hs hv w cv ht hc;obtain ⟨n,rfl⟩:=g0d hs;exact m0m hc hv.1 hv.2 ht
theorem v0n (HL:d0o .num) {w:World} {g off:Nat} {b:Bx} {v:Val} (hF:FieldAt w .num g off b) (hs:v.slot = .num) (hv:ValAt w g off v) (ho:d0V v) (ht:Tb w) :
  Calls prog 157 #[ptr b.q 0,ptr b.x 0] w fun e w'=>e = .returned (st (b0i v))/\Below w.heap.size w w':=by
 have q1:=b0J hF.hq;have q2:=b0J hF.hx;obtain ⟨n,rfl⟩:=b0q hs;have q3:w.cell? ⟨g,off,none⟩=some (nu n):=hv;have HC:∀ dd os,Calls prog 68 #[nu n] (Sort.grow (redrawn w dd) os) fun e w''=>e = .returned (st (b0i (.num n)))/\∃ p:Regrown,w'' = Sort.grow (redrawn w p.d) p.os:=fun dd os=>Calls.regrown_of (HL (.num n) rfl ho _ _ (ht.stays (below_regrown w dd os)) rfl);have c1:∀ dd os,(Sort.grow (redrawn w dd) os).cell? ⟨b.q,0,none⟩=some (fnV (g0J .num)):=fun dd os=>cell_regrown q1 _ _;have c2:∀ dd os,(Sort.grow (redrawn w dd) os).cell? ⟨b.x,0,none⟩=some (ptr g off):=fun dd os=>cell_regrown q2 _ _;have c3:∀ dd os,(Sort.grow (redrawn w dd) os).cell? ⟨g,off,none⟩=_:=fun dd os=>cell_regrown q3 _ _;generalize b0i (.num n)=T at *;clear HL hF ho ht hs q1 q2 q3;have hbg:=hid (fun dq osq=>below_regrown w dq osq);simp only [g0J] at c1;go_enter func157,ntmps157
 go_wp2_with fail
 refine wp_region_quiet_below (by kernel_rfl) (by kernel_rfl) ?_
 iterate 4 (first | go_big_quiet_step (fail) | quiet_step (fail))
 (first | go_big_quiet_step (exact HC _ _) | quiet_step (exact HC _ _))
 iterate 1 (first | go_big_quiet_step (fail) | quiet_step (fail))
 refine wpQuiet_nil ?_;intro _ hw';obtain ⟨⟨dq,osq⟩,hw''⟩:=hw';subst hw'';have HBq:=hid (hbg.out dq osq);go_wp2;go_ret;exact ⟨rfl,HBq.out⟩
theorem v0o (HL:d0o .txt) {w:World} {g off:Nat} {b:Bx} {v:Val} (hF:FieldAt w .txt g off b) (hs:v.slot = .txt) (hv:ValAt w g off v) (ho:d0V v) (ht:Tb w) :
  Calls prog 163 #[ptr b.q 0,ptr b.x 0] w fun e w'=>e = .returned (st (b0i v))/\Below w.heap.size w w':=by
 have q1:=b0J hF.hq;have q2:=b0J hF.hx;obtain ⟨n,rfl⟩:=d0J hs;have q3:w.cell? ⟨g,off,none⟩=some (st n):=hv;have HC:∀ dd os,Calls prog 80 #[st n] (Sort.grow (redrawn w dd) os) fun e w''=>e = .returned (st (b0i (.txt n)))/\∃ p:Regrown,w'' = Sort.grow (redrawn w p.d) p.os:=fun dd os=>Calls.regrown_of (HL (.txt n) rfl ho _ _ (ht.stays (below_regrown w dd os)) rfl);have c1:∀ dd os,(Sort.grow (redrawn w dd) os).cell? ⟨b.q,0,none⟩=some (fnV (g0J .txt)):=fun dd os=>cell_regrown q1 _ _;have c2:∀ dd os,(Sort.grow (redrawn w dd) os).cell? ⟨b.x,0,none⟩=some (ptr g off):=fun dd os=>cell_regrown q2 _ _;have c3:∀ dd os,(Sort.grow (redrawn w dd) os).cell? ⟨g,off,none⟩=_:=fun dd os=>cell_regrown q3 _ _;generalize b0i (.txt n)=T at *;clear HL hF ho ht hs q1 q2 q3;have hbg:=hid (fun dq osq=>below_regrown w dq osq);simp only [g0J] at c1;go_enter func163,ntmps163
 go_wp2_with fail
 refine wp_region_quiet_below (by kernel_rfl) (by kernel_rfl) ?_
 iterate 4 (first | go_big_quiet_step (fail) | quiet_step (fail))
 (first | go_big_quiet_step (exact HC _ _) | quiet_step (exact HC _ _))
 iterate 1 (first | go_big_quiet_step (fail) | quiet_step (fail))
 refine wpQuiet_nil ?_;intro _ hw';obtain ⟨⟨dq,osq⟩,hw''⟩:=hw';subst hw'';have HBq:=hid (hbg.out dq osq);go_wp2;go_ret;exact ⟨rfl,HBq.out⟩
theorem v0p (HL:d0o .dig) {w:World} {g off:Nat} {b:Bx} {v:Val} (hF:FieldAt w .dig g off b) (hs:v.slot = .dig) (hv:ValAt w g off v) (ho:d0V v) (ht:Tb w) :
  Calls prog 166 #[ptr b.q 0,ptr b.x 0] w fun e w'=>e = .returned (st (b0i v))/\Below w.heap.size w w':=by
 have q1:=b0J hF.hq;have q2:=b0J hF.hx;obtain ⟨n,rfl⟩:=b0Q hs;have hn:n.length=32:=ho;have q3:=hid (fun w' (hw:∃ p:Regrown,w' = Sort.grow (redrawn w p.d) p.os)=>(by obtain ⟨p,rfl⟩:=hw;exact fun i c hi=>cell_regrown (hv i c hi) _ _:∀ i c,(dg n)[i]? = some c->w'.cell? ⟨g,off + i,none⟩=some c));have Z0:(prog.info? 38).map (·.size)=some (dg n).length:=by rw [a0e,hn];exact sizeDig
 have HC:∀ dd os,Calls prog 136 #[.agg (dg n).toArray] (Sort.grow (redrawn w dd) os) fun e w''=>e = .returned (st (b0i (.dig n)))/\∃ p:Regrown,w'' = Sort.grow (redrawn w p.d) p.os:=fun dd os=>Calls.regrown_of (HL (.dig n) rfl ho _ _ (ht.stays (below_regrown w dd os)) rfl);have c1:∀ dd os,(Sort.grow (redrawn w dd) os).cell? ⟨b.q,0,none⟩=some (fnV (g0J .dig)):=fun dd os=>cell_regrown q1 _ _;have c2:∀ dd os,(Sort.grow (redrawn w dd) os).cell? ⟨b.x,0,none⟩=some (ptr g off):=fun dd os=>cell_regrown q2 _ _;generalize b0i (.dig n)=T at *;generalize dg n=D at *;clear HL hF hv ho ht hs hn q1 q2;have hbg:=hid (fun dq osq=>below_regrown w dq osq);simp only [g0J] at c1;go_enter func166,ntmps166
 go_wp2_with fail
 refine wp_region_quiet_below (by kernel_rfl) (by kernel_rfl) ?_
 iterate 3 (first | go_big_quiet_step (fail) | quiet_step (fail))
 refine c0H 38 (.tmp 5) rfl g off rfl rfl D _ (fun w' hw'=>q3.out w' hw') underlying38 rfl Z0 ?_;simp only [Act.put,List.setIfInBounds_toArray,List.set_cons_zero,List.set_cons_succ]
 (first | go_big_quiet_step (exact HC _ _) | quiet_step (exact HC _ _))
 iterate 1 (first | go_big_quiet_step (fail) | quiet_step (fail))
 refine wpQuiet_nil ?_;intro _ hw';obtain ⟨⟨dq,osq⟩,hw''⟩:=hw';subst hw'';have HBq:=hid (hbg.out dq osq);go_wp2;go_ret;exact ⟨rfl,HBq.out⟩
theorem c1_nums (HL:d0o .nums) {w:World} {g off:Nat} {b:Bx} {v:Val} (hF:FieldAt w .nums g off b) (hs:v.slot = .nums) (hv:ValAt w g off v) (ho:d0V v) (ht:Tb w) :
  Calls prog 173 #[ptr b.q 0,ptr b.x 0] w fun e w'=>e = .returned (st (b0i v))/\Below w.heap.size w w':=by
 have q1:=b0J hF.hq;have q2:=b0J hF.hx;obtain ⟨n,rfl⟩:=g0d hs;obtain ⟨cv,q3,hcv⟩:=hv;have HC:∀ dd os,Calls prog 140 #[cv] (Sort.grow (redrawn w dd) os) fun e w''=>e = .returned (st (b0i (.nums n)))/\∃ p:Regrown,w'' = Sort.grow (redrawn w p.d) p.os:=fun dd os=>Calls.regrown_of (HL (.nums n) rfl ho _ _ (ht.stays (below_regrown w dd os)) (hcv.kept (below_regrown w dd os)));obtain ⟨av,cap,rfl,-⟩:=hcv;have c1:∀ dd os,(Sort.grow (redrawn w dd) os).cell? ⟨b.q,0,none⟩=some (fnV (g0J .nums)):=fun dd os=>cell_regrown q1 _ _;have c2:∀ dd os,(Sort.grow (redrawn w dd) os).cell? ⟨b.x,0,none⟩=some (ptr g off):=fun dd os=>cell_regrown q2 _ _;have c3:∀ dd os,(Sort.grow (redrawn w dd) os).cell? ⟨g,off,none⟩=_:=fun dd os=>cell_regrown q3 _ _;generalize b0i (.nums n)=T at *;clear HL hF ho ht hs q1 q2 q3;have hbg:=hid (fun dq osq=>below_regrown w dq osq);simp only [g0J] at c1;go_enter func173,ntmps173
 go_wp2_with fail
 refine wp_region_quiet_below (by kernel_rfl) (by kernel_rfl) ?_
 iterate 4 (first | go_big_quiet_step (fail) | quiet_step (fail))
 (first | go_big_quiet_step (exact HC _ _) | quiet_step (exact HC _ _))
 iterate 1 (first | go_big_quiet_step (fail) | quiet_step (fail))
 refine wpQuiet_nil ?_;intro _ hw';obtain ⟨⟨dq,osq⟩,hw''⟩:=hw';subst hw'';have HBq:=hid (hbg.out dq osq);go_wp2;go_ret;exact ⟨rfl,HBq.out⟩
theorem t0Y (HL:d0o .pens) {w:World} {g off:Nat} {b:Bx} {v:Val} (hF:FieldAt w .pens g off b) (hs:v.slot = .pens) (hv:ValAt w g off v) (ho:d0V v) (ht:Tb w) :
  Calls prog 188 #[ptr b.q 0,ptr b.x 0] w fun e w'=>e = .returned (st (b0i v))/\Below w.heap.size w w':=by
 have q1:=b0J hF.hq;have q2:=b0J hF.hx;obtain ⟨n,rfl⟩:=g0e hs;obtain ⟨cv,q3,hcv⟩:=hv;have HC:∀ dd os,Calls prog 171 #[cv] (Sort.grow (redrawn w dd) os) fun e w''=>e = .returned (st (b0i (.pens n)))/\∃ p:Regrown,w'' = Sort.grow (redrawn w p.d) p.os:=fun dd os=>Calls.regrown_of (HL (.pens n) rfl ho _ _ (ht.stays (below_regrown w dd os)) (hcv.kept (below_regrown w dd os)));obtain ⟨av,cap,rfl,-⟩:=hcv;have c1:∀ dd os,(Sort.grow (redrawn w dd) os).cell? ⟨b.q,0,none⟩=some (fnV (g0J .pens)):=fun dd os=>cell_regrown q1 _ _;have c2:∀ dd os,(Sort.grow (redrawn w dd) os).cell? ⟨b.x,0,none⟩=some (ptr g off):=fun dd os=>cell_regrown q2 _ _;have c3:∀ dd os,(Sort.grow (redrawn w dd) os).cell? ⟨g,off,none⟩=_:=fun dd os=>cell_regrown q3 _ _;generalize b0i (.pens n)=T at *;clear HL hF ho ht hs q1 q2 q3;have hbg:=hid (fun dq osq=>below_regrown w dq osq);simp only [g0J] at c1;go_enter func188,ntmps188
 go_wp2_with fail
 refine wp_region_quiet_below (by kernel_rfl) (by kernel_rfl) ?_
 iterate 4 (first | go_big_quiet_step (fail) | quiet_step (fail))
 (first | go_big_quiet_step (exact HC _ _) | quiet_step (exact HC _ _))
 iterate 1 (first | go_big_quiet_step (fail) | quiet_step (fail))
 refine wpQuiet_nil ?_;intro _ hw';obtain ⟨⟨dq,osq⟩,hw''⟩:=hw';subst hw'';have HBq:=hid (hbg.out dq osq);go_wp2;go_ret;exact ⟨rfl,HBq.out⟩
def sz:Slot->Nat
 | .inr (.inr (.inl _))=>32
 | _=>1
def cc (cv:Value):Val->List Value
 | .inr (.inr (.inl d))=>dg d
 | _=>[cv]
def d0E (w:World) (g:Nat) (A C:List Value) (t:TypeId) (v:Val) (w':World):Prop:=∃ cv w1,Below w.heap.size w w1/\CvAt w1 cv v/\Fr w.heap.size cv/\w'.heap[g]? = some (.cells (A++(cc cv v++C)).toArray t)/\But g w1 w'
theorem froz {w:World} {g off:Nat} {cs:Array Value} {t:TypeId} (h:w.heap[g]? = some (.cells cs t)):w.frozen? ⟨g,off,none⟩=false:=by simp [World.frozen?,h]
theorem j0L {old:List Value} (h:old.length=1):∃ v,old = [v]:=by
 match old,h with
 | [v],_=>exact ⟨v,rfl⟩
theorem v0q {w:World} {g off:Nat} {b:Bx} (hF:FieldAt w .num g off b) (A old C:List Value) (t:TypeId) (hg:w.heap[g]? = some (.cells (A++(old++C)).toArray t)) (hA:A.length=off) (hl:old.length=sz .num) :
  Calls prog 159 #[ptr b.x 0] w fun e w'=>e = .returned (.tuple #[])/\d0E w g A C t (Slot.zero .num) w':=by
 obtain ⟨o1,rfl⟩:=j0L hl;have q2:=b0J hF.hx;have q3:w.cell? ⟨g,off,none⟩=some o1:=a0l hg rfl hA;have q4:w.frozen? ⟨g,off,none⟩=false:=froz hg;have HG:=hid hg;clear hF hl hg;go_enter func159,ntmps159;go_wp2
 go_end0
 exact ⟨rfl,nu 0,w,Below.refl _ _,rfl,(fun a n c h=>by cases h),j0A HG.out hA,c0X w g off _⟩
theorem v0r {w:World} {g off:Nat} {b:Bx} (hF:FieldAt w .txt g off b) (A old C:List Value) (t:TypeId) (hg:w.heap[g]? = some (.cells (A++(old++C)).toArray t)) (hA:A.length=off) (hl:old.length=sz .txt) :
  Calls prog 165 #[ptr b.x 0] w fun e w'=>e = .returned (.tuple #[])/\d0E w g A C t (Slot.zero .txt) w':=by
 obtain ⟨o1,rfl⟩:=j0L hl;have q2:=b0J hF.hx;have q3:w.cell? ⟨g,off,none⟩=some o1:=a0l hg rfl hA;have q4:w.frozen? ⟨g,off,none⟩=false:=froz hg;have HG:=hid hg;clear hF hl hg;go_enter func165,ntmps165;go_wp2
 go_end0
 exact ⟨rfl,st [],w,Below.refl _ _,rfl,(fun a n c h=>by cases h),j0A HG.out hA,c0X w g off _⟩
theorem v0s {w:World} {g off:Nat} {b:Bx} (hF:FieldAt w .dig g off b) (A old C:List Value) (t:TypeId) (hg:w.heap[g]? = some (.cells (A++(old++C)).toArray t)) (hA:A.length=off) (hl:old.length=sz .dig) :
  Calls prog 168 #[ptr b.x 0] w fun e w'=>e = .returned (.tuple #[])/\d0E w g A C t (Slot.zero .dig) w':=by
 have HZ:=zeroDig;have hZl:Hid ((dg a0n).length=32):=show (dg a0n).length=32 from rfl
 have HOD:=hid (d0h a0n);have HFin:=hid (fun (w2 w3:World) (h1:Below w.heap.size w w2) (h2:w3.heap[g]? = some (.cells (A++(dg a0n++C)).toArray t)) (h3:But g w2 w3)=>(⟨_,w2,h1,rfl,(fun a n c h=>by cases h),h2,h3⟩:d0E w g A C t (Slot.zero .dig) w3));generalize dg a0n=D at *;have hID:(prog.info? 38).map (·.size)=some D.length:=by rw [hZl.out];exact sizeDig
 have hLo:old.length=D.length:=hl.trans hZl.out.symm;have HB:=hid (a0c w (.cells D.toArray 38));have q2:=b0J (a0a hF.hx (a0c w (.cells D.toArray 38)));have R1:=hid (a0a hg (a0c w (.cells D.toArray 38)));have S1:=hid (a0s (off:=0) (A:=[]) (cs:=D) (C:=[]) (a0f w (.cells D.toArray 38)) (by simp) rfl);clear hF hg hl hZl;go_enter func168,ntmps168;go_upto_region 1 with (first | ((with_reducible refine a0G 38 ?_ ?_ D.toArray HZ ?_);exact rfl;exact rfl))
 obtain ⟨g2,hg2⟩:∃ g2,g2=w.heap.size:=⟨_,rfl⟩;generalize w.alloc (.cells D.toArray 38)=W3 at *;rw [← hg2] at S1 ⊢;clear hg2
 go_wp2_with (first | ((with_reducible refine a0d 38 (.tmp 1) ?_ g2 0 ?_ ?_ D _ S1.out underlying38 ?_ hID ?_);iterate 4 exact rfl) | ((with_reducible refine b0b 38 (.tmp 4) (.tmp 3) ?_ ?_ g off ?_ ?_ A D old C ?_ t R1.out hA hLo HOD.out hID ?_);exact rfl;exact rfl;exact rfl;exact rfl;exact rfl;intro w4 hr4 hbut))
 go_end0
 exact ⟨rfl,HFin.out _ _ HB.out hr4 hbut⟩
theorem t0Z {w:World} {g off:Nat} {b:Bx} (hF:FieldAt w .nums g off b) (A old C:List Value) (t:TypeId) (hg:w.heap[g]? = some (.cells (A++(old++C)).toArray t)) (hA:A.length=off) (hl:old.length=sz .nums) :
  Calls prog 175 #[ptr b.x 0] w fun e w'=>e = .returned (.tuple #[])/\d0E w g A C t (Slot.zero .nums) w':=by
 obtain ⟨o1,rfl⟩:=j0L hl;have q2:=b0J hF.hx;have q3:w.cell? ⟨g,off,none⟩=some o1:=a0l hg rfl hA;have q4:w.frozen? ⟨g,off,none⟩=false:=froz hg;have HG:=hid hg;clear hF hl hg;go_enter func175,ntmps175;go_wp2
 go_end0
 exact ⟨rfl,(.slice none 0 0),w,Below.refl _ _,a0w.nil w,(fun a n c h=>by cases h),j0A HG.out hA,c0X w g off _⟩
theorem u0a {w:World} {g off:Nat} {b:Bx} (hF:FieldAt w .pens g off b) (A old C:List Value) (t:TypeId) (hg:w.heap[g]? = some (.cells (A++(old++C)).toArray t)) (hA:A.length=off) (hl:old.length=sz .pens) :
  Calls prog 190 #[ptr b.x 0] w fun e w'=>e = .returned (.tuple #[])/\d0E w g A C t (Slot.zero .pens) w':=by
 obtain ⟨o1,rfl⟩:=j0L hl;have q2:=b0J hF.hx;have q3:w.cell? ⟨g,off,none⟩=some o1:=a0l hg rfl hA;have q4:w.frozen? ⟨g,off,none⟩=false:=froz hg;have HG:=hid hg;clear hF hl hg;go_enter func190,ntmps190;go_wp2
 go_end0
 exact ⟨rfl,(.slice none 0 0),w,Below.refl _ _,a0g.nil w,(fun a n c h=>by cases h),j0A HG.out hA,c0X w g off _⟩
end Go.Proofs.YtagmnmoaekbffaaGreatDoor.Ms
