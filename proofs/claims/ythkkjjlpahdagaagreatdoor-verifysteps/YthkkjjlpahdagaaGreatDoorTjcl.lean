/-
  The functions that are made for a message's fields, and who makes them.
-/
import Derived.Test.YthkkjjlpahdagaaGreatDoorS07
import Derived.Laws.EntriesVeiled
import Derived.Handy
set_option maxHeartbeats 2000000
namespace Go.Proofs.YthkkjjlpahdagaaGreatDoor.Ms
open Go Go.RowKit
set_option maxRecDepth 100000
structure Bx where
 x:Nat
 q:Nat
 r:Nat
abbrev ptr (g off:Nat):Value:=.pointer (some ⟨g,off,none⟩)
abbrev fnV (f:Nat):Value:=.func (.func f) #[] #[]
def layFn:Slot→Nat
 | .inl _=>37
 | .inr (.inl _)=>89
 | .inr (.inr (.inl _))=>140
 | .inr (.inr (.inr (.inl _)))=>144
 | .inr (.inr (.inr (.inr _)))=>176
def readFn:Slot→Nat
 | .inl _=>136
 | .inr (.inl _)=>138
 | .inr (.inr (.inl _))=>141
 | .inr (.inr (.inr (.inl _)))=>145
 | .inr (.inr (.inr (.inr _)))=>177
def c1Fn:Slot→Nat
 | .inl _=>162
 | .inr (.inl _)=>168
 | .inr (.inr (.inl _))=>171
 | .inr (.inr (.inr (.inl _)))=>178
 | .inr (.inr (.inr (.inr _)))=>192
def c2Fn:Slot→Nat
 | .inl _=>163
 | .inr (.inl _)=>169
 | .inr (.inr (.inl _))=>172
 | .inr (.inr (.inr (.inl _)))=>179
 | .inr (.inr (.inr (.inr _)))=>193
def c3Fn:Slot→Nat
 | .inl _=>164
 | .inr (.inl _)=>170
 | .inr (.inr (.inl _))=>173
 | .inr (.inr (.inr (.inl _)))=>180
 | .inr (.inr (.inr (.inr _)))=>194
def xTy:Slot→TypeId
 | .inl _=>182
 | .inr (.inl _)=>185
 | .inr (.inr (.inl _))=>187
 | .inr (.inr (.inr (.inl _)))=>192
 | .inr (.inr (.inr (.inr _)))=>209
def qTy:Slot→TypeId
 | .inl _=>91
 | .inr (.inl _)=>123
 | .inr (.inr (.inl _))=>89
 | .inr (.inr (.inr (.inl _)))=>80
 | .inr (.inr (.inr (.inr _)))=>231
def rTy:Slot→TypeId
 | .inl _=>203
 | .inr (.inl _)=>205
 | .inr (.inr (.inl _))=>207
 | .inr (.inr (.inr (.inl _)))=>211
 | .inr (.inr (.inr (.inr _)))=>232
def fieldV (k:Slot) (b:Bx):List Value:=[.func (.func (c1Fn k)) #[] #[ptr b.q 0,ptr b.x 0],.func (.func (c2Fn k)) #[] #[ptr b.r 0,ptr b.x 0],.func (.func (c3Fn k)) #[] #[ptr b.x 0]]
structure FieldAt (w:World) (k:Slot) (g off:Nat) (b:Bx):Prop where
 hx:w.heap[b.x]? = some (.cells #[ptr g off] (xTy k))
 hq:w.heap[b.q]? = some (.cells #[fnV (layFn k)] (qTy k))
 hr:w.heap[b.r]? = some (.cells #[fnV (readFn k)] (rTy k))
structure Kept (g:Nat) (w w':World):Prop where
 os:w'.os=w.os
 tape:w'.tape=w.tape
 output:w'.output=w.output
 size:w.heap.size ≤ w'.heap.size
 block:∀ k,k < w.heap.size→k ≠ g→w'.heap[k]? = w.heap[k]?
theorem Kept.of {g:Nat} {w w':World} (h:Below w.heap.size w w'):Kept g w w':=⟨h.os,h.tape,h.output,h.size,fun k hk _=>h.block k hk⟩
theorem Kept.refl (g:Nat) (w:World):Kept g w w:=Kept.of (Below.refl _ _)
theorem Kept.trans {g:Nat} {w w1 w2:World} (h1:Kept g w w1) (h2:Kept g w1 w2):Kept g w w2 :=
 ⟨h2.os.trans h1.os,h2.tape.trans h1.tape,h2.output.trans h1.output,Nat.le_trans h1.size h2.size,fun k hk hg=>(h2.block k (Nat.lt_of_lt_of_le hk h1.size) hg).trans (h1.block k hk hg)⟩
theorem Kept.but {g:Nat} {w w':World} (h:But g w w'):Kept g w w':=⟨h.os,h.tape,h.output,by rw [h.size];exact Nat.le_refl _,fun k _ hg=>h.block k hg⟩
theorem Kept.row {g k:Nat} {w w':World} {o:Obj} (h:Kept g w w') (hr:w.heap[k]? = some o) (hk:k ≠ g):w'.heap[k]? = some o:=(h.block k (Array.getElem?_eq_some_iff.1 hr).1 hk).trans hr
theorem Kept.below {g:Nat} {a w w':World} (h:Kept g w w') (h0:Below a.heap.size a w) (h1:a.heap.size ≤ g):Below a.heap.size a w' :=
 ⟨h.os.trans h0.os,h.tape.trans h0.tape,h.output.trans h0.output,Nat.le_trans h0.size h.size,fun k hk=>(h.block k (Nat.lt_of_lt_of_le hk h0.size) (by omega)).trans (h0.block k hk)⟩
def Own (w:World) (g:Nat):Prop:=∃ cs t,w.heap[g]? = some (.cells cs t)∧(t=102 ∨ t=25)
theorem ty_ne {w:World} {g b:Nat} {cs cs':Array Value} {t t':TypeId} (h:w.heap[g]? = some (.cells cs t)) (h':w.heap[b]? = some (.cells cs' t')) (hne:t' ≠ t):b ≠ g:=by
 intro e
 rw [e,h] at h'
 injection h' with h'
 injection h' with _ h'
 exact hne h'.symm
theorem FieldAt.ne {w:World} {k:Slot} {g off:Nat} {b:Bx} (h:FieldAt w k g off b) (ho:Own w g):b.x ≠ g∧b.q ≠ g∧b.r ≠ g:=by
 obtain ⟨cs,t,hg,ht⟩:=ho
 have h1:xTy k ≠ t:=by cases k using Slot.cut <;> rcases ht with rfl | rfl <;> decide
 have h2:qTy k ≠ t:=by cases k using Slot.cut <;> rcases ht with rfl | rfl <;> decide
 have h3:rTy k ≠ t:=by cases k using Slot.cut <;> rcases ht with rfl | rfl <;> decide
 exact ⟨ty_ne hg h.hx h1,ty_ne hg h.hq h2,ty_ne hg h.hr h3⟩
theorem FieldAt.kept {w w':World} {k:Slot} {g off:Nat} {b:Bx} (h:FieldAt w k g off b) (ho:Own w g) (hk:Kept g w w'):FieldAt w' k g off b:=by
 obtain ⟨n1,n2,n3⟩:=h.ne ho
 exact ⟨hk.row h.hx n1,hk.row h.hq n2,hk.row h.hr n3⟩
theorem FieldAt.stays {w w':World} {k:Slot} {g off:Nat} {b:Bx} (h:FieldAt w k g off b) (hb:Below w.heap.size w w'):FieldAt w' k g off b :=
 ⟨row_kept h.hx hb,row_kept h.hq hb,row_kept h.hr hb⟩
def LayOne (k:Slot):Prop:=∀ (v:Val),v.slot=k→okVal v→∀ (w:World) (cv:Value),Tb w→CvAt w cv v→Calls Tryz.prog (layFn k) #[cv] w fun e w'=>e = .returned (st (layVal v))∧Below w.heap.size w w'
def Fr (B:Nat) (cv:Value):Prop:=∀ a n c,cv = .slice (some a) n c→B ≤ a.block
theorem cell_one {w:World} {b:Nat} {v:Value} {t:TypeId} (h:w.heap[b]? = some (.cells #[v] t)):w.cell? ⟨b,0,none⟩=some v:=by rw [cell_of_row _ _ _ _ _ _ h];rfl
theorem mkLayNum:LayOne .num:=by
 intro v hs hv w cv ht hc
 obtain ⟨n,rfl⟩:=of_num hs
 subst hc
 exact Lay.number_any n hv.1 hv.2 w ht
theorem mkLayTxt:LayOne .txt:=by
 intro v hs hv w cv ht hc
 obtain ⟨n,rfl⟩:=of_txt hs
 subst hc
 exact laytext_any n w ht
theorem mkLayDig:LayOne .dig:=by
 intro v hs hv w cv ht hc
 obtain ⟨n,rfl⟩:=of_dig hs
 subst hc
 exact laydig_any n hv w ht
theorem mkLayNums:LayOne .nums:=by
 intro v hs hv w cv ht hc
 obtain ⟨n,rfl⟩:=of_nums hs
 exact laynums_any hc hv.1 hv.2 ht
theorem c1_num (HL:LayOne .num) {w:World} {g off:Nat} {b:Bx} {v:Val} (hF:FieldAt w .num g off b) (hs:v.slot = .num) (hv:ValAt w g off v) (ho:okVal v) (ht:Tb w) :
  Calls Tryz.prog 162 #[ptr b.q 0,ptr b.x 0] w fun e w'=>e = .returned (st (layVal v))∧Below w.heap.size w w':=by
 have q1:=cell_one hF.hq
 have q2:=cell_one hF.hx
 obtain ⟨n,rfl⟩:=of_num hs
 have q3:w.cell? ⟨g,off,none⟩=some (nu n):=hv
 have HC:∀ dd os,Calls Tryz.prog 37 #[nu n] (Sort.grow (redrawn w dd) os) fun e w''=>e = .returned (st (layVal (.num n)))∧∃ p:Regrown,w'' = Sort.grow (redrawn w p.d) p.os:=fun dd os=>Calls.regrown_of (HL (.num n) rfl ho _ _ (ht.stays (below_regrown w dd os)) rfl)
 have c1:∀ dd os,(Sort.grow (redrawn w dd) os).cell? ⟨b.q,0,none⟩=some (fnV (layFn .num)):=fun dd os=>cell_regrown q1 _ _
 have c2:∀ dd os,(Sort.grow (redrawn w dd) os).cell? ⟨b.x,0,none⟩=some (ptr g off):=fun dd os=>cell_regrown q2 _ _
 have c3:∀ dd os,(Sort.grow (redrawn w dd) os).cell? ⟨g,off,none⟩=_:=fun dd os=>cell_regrown q3 _ _
 generalize layVal (.num n)=T at *
 clear HL hF ho ht hs q1 q2 q3
 have hbg:=hid (fun dq osq=>below_regrown w dq osq)
 simp only [layFn] at c1
 go_enter Tryz.func162,Tryz.ntmps162
 go_wp2_with fail
 refine wp_region_quiet_below (by kernel_rfl) (by kernel_rfl) ?_
 iterate 4 (first | go_big_quiet_step (fail) | quiet_step (fail))
 (first | go_big_quiet_step (exact HC _ _) | quiet_step (exact HC _ _))
 iterate 1 (first | go_big_quiet_step (fail) | quiet_step (fail))
 refine wpQuiet_nil ?_
 intro _ hw'
 obtain ⟨⟨dq,osq⟩,hw''⟩:=hw'
 subst hw''
 have HBq:=hid (hbg.out dq osq)
 go_wp2
 go_ret
 exact ⟨rfl,HBq.out⟩
theorem c1_txt (HL:LayOne .txt) {w:World} {g off:Nat} {b:Bx} {v:Val} (hF:FieldAt w .txt g off b) (hs:v.slot = .txt) (hv:ValAt w g off v) (ho:okVal v) (ht:Tb w) :
  Calls Tryz.prog 168 #[ptr b.q 0,ptr b.x 0] w fun e w'=>e = .returned (st (layVal v))∧Below w.heap.size w w':=by
 have q1:=cell_one hF.hq
 have q2:=cell_one hF.hx
 obtain ⟨n,rfl⟩:=of_txt hs
 have q3:w.cell? ⟨g,off,none⟩=some (st n):=hv
 have HC:∀ dd os,Calls Tryz.prog 89 #[st n] (Sort.grow (redrawn w dd) os) fun e w''=>e = .returned (st (layVal (.txt n)))∧∃ p:Regrown,w'' = Sort.grow (redrawn w p.d) p.os:=fun dd os=>Calls.regrown_of (HL (.txt n) rfl ho _ _ (ht.stays (below_regrown w dd os)) rfl)
 have c1:∀ dd os,(Sort.grow (redrawn w dd) os).cell? ⟨b.q,0,none⟩=some (fnV (layFn .txt)):=fun dd os=>cell_regrown q1 _ _
 have c2:∀ dd os,(Sort.grow (redrawn w dd) os).cell? ⟨b.x,0,none⟩=some (ptr g off):=fun dd os=>cell_regrown q2 _ _
 have c3:∀ dd os,(Sort.grow (redrawn w dd) os).cell? ⟨g,off,none⟩=_:=fun dd os=>cell_regrown q3 _ _
 generalize layVal (.txt n)=T at *
 clear HL hF ho ht hs q1 q2 q3
 have hbg:=hid (fun dq osq=>below_regrown w dq osq)
 simp only [layFn] at c1
 go_enter Tryz.func168,Tryz.ntmps168
 go_wp2_with fail
 refine wp_region_quiet_below (by kernel_rfl) (by kernel_rfl) ?_
 iterate 4 (first | go_big_quiet_step (fail) | quiet_step (fail))
 (first | go_big_quiet_step (exact HC _ _) | quiet_step (exact HC _ _))
 iterate 1 (first | go_big_quiet_step (fail) | quiet_step (fail))
 refine wpQuiet_nil ?_
 intro _ hw'
 obtain ⟨⟨dq,osq⟩,hw''⟩:=hw'
 subst hw''
 have HBq:=hid (hbg.out dq osq)
 go_wp2
 go_ret
 exact ⟨rfl,HBq.out⟩
theorem c1_dig (HL:LayOne .dig) {w:World} {g off:Nat} {b:Bx} {v:Val} (hF:FieldAt w .dig g off b) (hs:v.slot = .dig) (hv:ValAt w g off v) (ho:okVal v) (ht:Tb w) :
  Calls Tryz.prog 171 #[ptr b.q 0,ptr b.x 0] w fun e w'=>e = .returned (st (layVal v))∧Below w.heap.size w w':=by
 have q1:=cell_one hF.hq
 have q2:=cell_one hF.hx
 obtain ⟨n,rfl⟩:=of_dig hs
 have hn:n.length=32:=ho
 have q3:=hid (fun w' (hw:∃ p:Regrown,w' = Sort.grow (redrawn w p.d) p.os)=>(by obtain ⟨p,rfl⟩:=hw;exact fun i c hi=>cell_regrown (hv i c hi) _ _:∀ i c,(dg n)[i]? = some c→w'.cell? ⟨g,off + i,none⟩=some c))
 have Z0:(Tryz.prog.info? 23).map (·.size)=some (dg n).length:=by rw [dg_len,hn];exact sizeDig
 have HC:∀ dd os,Calls Tryz.prog 140 #[.agg (dg n).toArray] (Sort.grow (redrawn w dd) os) fun e w''=>e = .returned (st (layVal (.dig n)))∧∃ p:Regrown,w'' = Sort.grow (redrawn w p.d) p.os:=fun dd os=>Calls.regrown_of (HL (.dig n) rfl ho _ _ (ht.stays (below_regrown w dd os)) rfl)
 have c1:∀ dd os,(Sort.grow (redrawn w dd) os).cell? ⟨b.q,0,none⟩=some (fnV (layFn .dig)):=fun dd os=>cell_regrown q1 _ _
 have c2:∀ dd os,(Sort.grow (redrawn w dd) os).cell? ⟨b.x,0,none⟩=some (ptr g off):=fun dd os=>cell_regrown q2 _ _
 generalize layVal (.dig n)=T at *
 generalize dg n=D at *
 clear HL hF hv ho ht hs hn q1 q2
 have hbg:=hid (fun dq osq=>below_regrown w dq osq)
 simp only [layFn] at c1
 go_enter Tryz.func171,Tryz.ntmps171
 go_wp2_with fail
 refine wp_region_quiet_below (by kernel_rfl) (by kernel_rfl) ?_
 iterate 3 (first | go_big_quiet_step (fail) | quiet_step (fail))
 refine wq_load 23 (.tmp 5) rfl g off rfl rfl D _ (fun w' hw'=>q3.out w' hw') Tryz.underlying23 rfl Z0 ?_
 simp only [Act.put,List.setIfInBounds_toArray,List.set_cons_zero,List.set_cons_succ]
 (first | go_big_quiet_step (exact HC _ _) | quiet_step (exact HC _ _))
 iterate 1 (first | go_big_quiet_step (fail) | quiet_step (fail))
 refine wpQuiet_nil ?_
 intro _ hw'
 obtain ⟨⟨dq,osq⟩,hw''⟩:=hw'
 subst hw''
 have HBq:=hid (hbg.out dq osq)
 go_wp2
 go_ret
 exact ⟨rfl,HBq.out⟩
theorem c1_nums (HL:LayOne .nums) {w:World} {g off:Nat} {b:Bx} {v:Val} (hF:FieldAt w .nums g off b) (hs:v.slot = .nums) (hv:ValAt w g off v) (ho:okVal v) (ht:Tb w) :
  Calls Tryz.prog 178 #[ptr b.q 0,ptr b.x 0] w fun e w'=>e = .returned (st (layVal v))∧Below w.heap.size w w':=by
 have q1:=cell_one hF.hq
 have q2:=cell_one hF.hx
 obtain ⟨n,rfl⟩:=of_nums hs
 obtain ⟨cv,q3,hcv⟩:=hv
 have HC:∀ dd os,Calls Tryz.prog 144 #[cv] (Sort.grow (redrawn w dd) os) fun e w''=>e = .returned (st (layVal (.nums n)))∧∃ p:Regrown,w'' = Sort.grow (redrawn w p.d) p.os:=fun dd os=>Calls.regrown_of (HL (.nums n) rfl ho _ _ (ht.stays (below_regrown w dd os)) (hcv.kept (below_regrown w dd os)))
 obtain ⟨av,cap,rfl,-⟩:=hcv
 have c1:∀ dd os,(Sort.grow (redrawn w dd) os).cell? ⟨b.q,0,none⟩=some (fnV (layFn .nums)):=fun dd os=>cell_regrown q1 _ _
 have c2:∀ dd os,(Sort.grow (redrawn w dd) os).cell? ⟨b.x,0,none⟩=some (ptr g off):=fun dd os=>cell_regrown q2 _ _
 have c3:∀ dd os,(Sort.grow (redrawn w dd) os).cell? ⟨g,off,none⟩=_:=fun dd os=>cell_regrown q3 _ _
 generalize layVal (.nums n)=T at *
 clear HL hF ho ht hs q1 q2 q3
 have hbg:=hid (fun dq osq=>below_regrown w dq osq)
 simp only [layFn] at c1
 go_enter Tryz.func178,Tryz.ntmps178
 go_wp2_with fail
 refine wp_region_quiet_below (by kernel_rfl) (by kernel_rfl) ?_
 iterate 4 (first | go_big_quiet_step (fail) | quiet_step (fail))
 (first | go_big_quiet_step (exact HC _ _) | quiet_step (exact HC _ _))
 iterate 1 (first | go_big_quiet_step (fail) | quiet_step (fail))
 refine wpQuiet_nil ?_
 intro _ hw'
 obtain ⟨⟨dq,osq⟩,hw''⟩:=hw'
 subst hw''
 have HBq:=hid (hbg.out dq osq)
 go_wp2
 go_ret
 exact ⟨rfl,HBq.out⟩
theorem c1_pens (HL:LayOne .pens) {w:World} {g off:Nat} {b:Bx} {v:Val} (hF:FieldAt w .pens g off b) (hs:v.slot = .pens) (hv:ValAt w g off v) (ho:okVal v) (ht:Tb w) :
  Calls Tryz.prog 192 #[ptr b.q 0,ptr b.x 0] w fun e w'=>e = .returned (st (layVal v))∧Below w.heap.size w w':=by
 have q1:=cell_one hF.hq
 have q2:=cell_one hF.hx
 obtain ⟨n,rfl⟩:=of_pens hs
 obtain ⟨cv,q3,hcv⟩:=hv
 have HC:∀ dd os,Calls Tryz.prog 176 #[cv] (Sort.grow (redrawn w dd) os) fun e w''=>e = .returned (st (layVal (.pens n)))∧∃ p:Regrown,w'' = Sort.grow (redrawn w p.d) p.os:=fun dd os=>Calls.regrown_of (HL (.pens n) rfl ho _ _ (ht.stays (below_regrown w dd os)) (hcv.kept (below_regrown w dd os)))
 obtain ⟨av,cap,rfl,-⟩:=hcv
 have c1:∀ dd os,(Sort.grow (redrawn w dd) os).cell? ⟨b.q,0,none⟩=some (fnV (layFn .pens)):=fun dd os=>cell_regrown q1 _ _
 have c2:∀ dd os,(Sort.grow (redrawn w dd) os).cell? ⟨b.x,0,none⟩=some (ptr g off):=fun dd os=>cell_regrown q2 _ _
 have c3:∀ dd os,(Sort.grow (redrawn w dd) os).cell? ⟨g,off,none⟩=_:=fun dd os=>cell_regrown q3 _ _
 generalize layVal (.pens n)=T at *
 clear HL hF ho ht hs q1 q2 q3
 have hbg:=hid (fun dq osq=>below_regrown w dq osq)
 simp only [layFn] at c1
 go_enter Tryz.func192,Tryz.ntmps192
 go_wp2_with fail
 refine wp_region_quiet_below (by kernel_rfl) (by kernel_rfl) ?_
 iterate 4 (first | go_big_quiet_step (fail) | quiet_step (fail))
 (first | go_big_quiet_step (exact HC _ _) | quiet_step (exact HC _ _))
 iterate 1 (first | go_big_quiet_step (fail) | quiet_step (fail))
 refine wpQuiet_nil ?_
 intro _ hw'
 obtain ⟨⟨dq,osq⟩,hw''⟩:=hw'
 subst hw''
 have HBq:=hid (hbg.out dq osq)
 go_wp2
 go_ret
 exact ⟨rfl,HBq.out⟩
def sz:Slot→Nat
 | .inr (.inr (.inl _))=>32
 | _=>1
def cc (cv:Value):Val→List Value
 | .inr (.inr (.inl d))=>dg d
 | _=>[cv]
def StoreAt (w:World) (g:Nat) (A C:List Value) (t:TypeId) (v:Val) (w':World):Prop:=∃ cv w1,Below w.heap.size w w1∧CvAt w1 cv v∧Fr w.heap.size cv∧w'.heap[g]? = some (.cells (A++(cc cv v++C)).toArray t)∧But g w1 w'
theorem froz {w:World} {g off:Nat} {cs:Array Value} {t:TypeId} (h:w.heap[g]? = some (.cells cs t)):w.frozen? ⟨g,off,none⟩=false:=by simp [World.frozen?,h]
theorem one_old {old:List Value} (h:old.length=1):∃ v,old = [v]:=by
 match old,h with
 | [v],_=>exact ⟨v,rfl⟩
theorem c3_num {w:World} {g off:Nat} {b:Bx} (hF:FieldAt w .num g off b) (A old C:List Value) (t:TypeId) (hg:w.heap[g]? = some (.cells (A++(old++C)).toArray t)) (hA:A.length=off) (hl:old.length=sz .num) :
  Calls Tryz.prog 164 #[ptr b.x 0] w fun e w'=>e = .returned (.tuple #[])∧StoreAt w g A C t (Slot.zero .num) w':=by
 obtain ⟨o1,rfl⟩:=one_old hl
 have q2:=cell_one hF.hx
 have q3:w.cell? ⟨g,off,none⟩=some o1:=row_cell hg rfl hA
 have q4:w.frozen? ⟨g,off,none⟩=false:=froz hg
 have HG:=hid hg
 clear hF hl hg
 go_enter Tryz.func164,Tryz.ntmps164
 go_wp2
 go_end0
 exact ⟨rfl,nu 0,w,Below.refl _ _,rfl,(fun a n c h=>by cases h),row_set HG.out hA,but_setCell w g off _⟩
theorem c3_txt {w:World} {g off:Nat} {b:Bx} (hF:FieldAt w .txt g off b) (A old C:List Value) (t:TypeId) (hg:w.heap[g]? = some (.cells (A++(old++C)).toArray t)) (hA:A.length=off) (hl:old.length=sz .txt) :
  Calls Tryz.prog 170 #[ptr b.x 0] w fun e w'=>e = .returned (.tuple #[])∧StoreAt w g A C t (Slot.zero .txt) w':=by
 obtain ⟨o1,rfl⟩:=one_old hl
 have q2:=cell_one hF.hx
 have q3:w.cell? ⟨g,off,none⟩=some o1:=row_cell hg rfl hA
 have q4:w.frozen? ⟨g,off,none⟩=false:=froz hg
 have HG:=hid hg
 clear hF hl hg
 go_enter Tryz.func170,Tryz.ntmps170
 go_wp2
 go_end0
 exact ⟨rfl,st [],w,Below.refl _ _,rfl,(fun a n c h=>by cases h),row_set HG.out hA,but_setCell w g off _⟩
theorem c3_dig {w:World} {g off:Nat} {b:Bx} (hF:FieldAt w .dig g off b) (A old C:List Value) (t:TypeId) (hg:w.heap[g]? = some (.cells (A++(old++C)).toArray t)) (hA:A.length=off) (hl:old.length=sz .dig) :
  Calls Tryz.prog 173 #[ptr b.x 0] w fun e w'=>e = .returned (.tuple #[])∧StoreAt w g A C t (Slot.zero .dig) w':=by
 have HZ:=zeroDig
 have hZl:Hid ((dg zeroD).length=32):=show (dg zeroD).length=32 from rfl
 have HOD:=hid (one_dg zeroD)
 have HFin:=hid (fun (w2 w3:World) (h1:Below w.heap.size w w2) (h2:w3.heap[g]? = some (.cells (A++(dg zeroD++C)).toArray t)) (h3:But g w2 w3)=>(⟨_,w2,h1,rfl,(fun a n c h=>by cases h),h2,h3⟩:StoreAt w g A C t (Slot.zero .dig) w3))
 generalize dg zeroD=D at *
 have hID:(Tryz.prog.info? 23).map (·.size)=some D.length:=by rw [hZl.out];exact sizeDig
 have hLo:old.length=D.length:=hl.trans hZl.out.symm
 have HB:=hid (below_a1 w (.cells D.toArray 23))
 have q2:=cell_one (row_kept hF.hx (below_a1 w (.cells D.toArray 23)))
 have R1:=hid (row_kept hg (below_a1 w (.cells D.toArray 23)))
 have S1:=hid (row_seg (off:=0) (A:=[]) (cs:=D) (C:=[]) (top_obj w (.cells D.toArray 23)) (by simp) rfl)
 clear hF hg hl hZl
 go_enter Tryz.func173,Tryz.ntmps173
 go_upto_region 1 with (first | ((with_reducible refine wl_alloc 23 ?_ ?_ D.toArray HZ ?_);exact rfl;exact rfl))
 obtain ⟨g2,hg2⟩:∃ g2,g2=w.heap.size:=⟨_,rfl⟩
 generalize w.alloc (.cells D.toArray 23)=W3 at *
 rw [← hg2] at S1 ⊢
 clear hg2
 go_wp2_with (first | ((with_reducible refine wl_load 23 (.tmp 1) ?_ g2 0 ?_ ?_ D _ S1.out Tryz.underlying23 ?_ hID ?_);iterate 4 exact rfl) | ((with_reducible refine wl_put 23 (.tmp 4) (.tmp 3) ?_ ?_ g off ?_ ?_ A D old C ?_ t R1.out hA hLo HOD.out hID ?_);exact rfl;exact rfl;exact rfl;exact rfl;exact rfl;intro w4 hr4 hbut))
 go_end0
 exact ⟨rfl,HFin.out _ _ HB.out hr4 hbut⟩
theorem c3_nums {w:World} {g off:Nat} {b:Bx} (hF:FieldAt w .nums g off b) (A old C:List Value) (t:TypeId) (hg:w.heap[g]? = some (.cells (A++(old++C)).toArray t)) (hA:A.length=off) (hl:old.length=sz .nums) :
  Calls Tryz.prog 180 #[ptr b.x 0] w fun e w'=>e = .returned (.tuple #[])∧StoreAt w g A C t (Slot.zero .nums) w':=by
 obtain ⟨o1,rfl⟩:=one_old hl
 have q2:=cell_one hF.hx
 have q3:w.cell? ⟨g,off,none⟩=some o1:=row_cell hg rfl hA
 have q4:w.frozen? ⟨g,off,none⟩=false:=froz hg
 have HG:=hid hg
 clear hF hl hg
 go_enter Tryz.func180,Tryz.ntmps180
 go_wp2
 go_end0
 exact ⟨rfl,(.slice none 0 0),w,Below.refl _ _,IntsAt.nil w,(fun a n c h=>by cases h),row_set HG.out hA,but_setCell w g off _⟩
theorem c3_pens {w:World} {g off:Nat} {b:Bx} (hF:FieldAt w .pens g off b) (A old C:List Value) (t:TypeId) (hg:w.heap[g]? = some (.cells (A++(old++C)).toArray t)) (hA:A.length=off) (hl:old.length=sz .pens) :
  Calls Tryz.prog 194 #[ptr b.x 0] w fun e w'=>e = .returned (.tuple #[])∧StoreAt w g A C t (Slot.zero .pens) w':=by
 obtain ⟨o1,rfl⟩:=one_old hl
 have q2:=cell_one hF.hx
 have q3:w.cell? ⟨g,off,none⟩=some o1:=row_cell hg rfl hA
 have q4:w.frozen? ⟨g,off,none⟩=false:=froz hg
 have HG:=hid hg
 clear hF hl hg
 go_enter Tryz.func194,Tryz.ntmps194
 go_wp2
 go_end0
 exact ⟨rfl,(.slice none 0 0),w,Below.refl _ _,PensAt.nil w,(fun a n c h=>by cases h),row_set HG.out hA,but_setCell w g off _⟩
end Go.Proofs.YthkkjjlpahdagaaGreatDoor.Ms
