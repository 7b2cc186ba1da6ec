/- S08 -/
import Derived.Test.YtagmnmoaekbffaaGreatDoorTjcl
import Derived.Orders
import Derived.Below
import Derived.WalkKit
import Derived.Great.BuildSlice
set_option maxHeartbeats 2000000
namespace Go.Proofs.YtagmnmoaekbffaaGreatDoor.Ms
open Go.Proofs.Tryz
open Go Go.RowKit
set_option maxRecDepth 100000
theorem e0H (w:World) (A B C D:Obj):((((w.alloc A).alloc B).alloc C).alloc D).heap[w.heap.size]? = some A/\((((w.alloc A).alloc B).alloc C).alloc D).heap[w.heap.size + 1]? = some B/\((((w.alloc A).alloc B).alloc C).alloc D).heap[w.heap.size + 1 + 1]? = some C :=
 ⟨a0a (h0s w A B C) (a0c _ D),a0a (h0t w A B C) (a0c _ D),a0a (h0u w A B C) (a0c _ D)⟩
theorem e0a (w:World) (A B C D:Obj):Below w.heap.size w ((((w.alloc A).alloc B).alloc C).alloc D):=a0b (a0b (a0b (a0c w A) (a0c _ B)) (a0c _ C)) (a0c _ D)
theorem sizeFld:(prog.info? 178).map (·.size)=some 3:=by kernel_rfl
theorem e0I (k:Slot) (b:Bx):∀ v ∈ a0o k b,v.oneCell' = true:=by
 intro v hv;simp only [a0o,List.mem_cons,List.not_mem_nil,or_false] at hv;rcases hv with rfl | rfl | rfl <;> rfl
theorem v0t (g off:Nat) (w:World):Calls prog 131 #[ptr g off,fnV 68,fnV 132] w fun e w'=>∃ b,e = .returned (.agg (a0o .num b).toArray)/\FieldAt w' .num g off b/\Below w.heap.size w w':=by
 go_enter func131,ntmps131;go_wp2
 go_returns
 obtain ⟨r1,r2,r3⟩:=e0H w (.cells #[ptr g off] 184) (.cells #[fnV 68] 98) (.cells #[fnV 132] 204) _;exact ⟨⟨w.heap.size,w.heap.size + 1,w.heap.size + 1 + 1⟩,rfl,⟨r1,r2,r3⟩,e0a _ _ _ _ _⟩
theorem d0p (g off:Nat) (w:World):Calls prog 113 #[ptr g off] w fun e w'=>∃ b,e = .returned (.agg (a0o .num b).toArray)/\FieldAt w' .num g off b/\Below w.heap.size w w':=by
 have HB0:=hid (a0c w (.cells #[.nilFunc,.nilFunc,.nilFunc] 178));have R0:=hid (a0f w (.cells #[.nilFunc,.nilFunc,.nilFunc] 178));have HC:=hid (v0t g off (w.alloc (.cells #[.nilFunc,.nilFunc,.nilFunc] 178)));go_enter func113,ntmps113;go_upto_region 1 with fail
 generalize w.alloc (.cells #[.nilFunc,.nilFunc,.nilFunc] 178)=W0 at *
 go_wp2_with fail
 refine HC.out.mono ?_;rintro e w1 ⟨b,rfl,hF,hb⟩;have HB1:=hid (a0b HB0.out hb);have R1:Hid (w1.heap[w.heap.size]? = some (.cells ([]++([Value.nilFunc,Value.nilFunc,Value.nilFunc]++[])).toArray 178)):=a0a R0.out hb;have HF:=hid hF;have HO:=hid (e0I .num b);have hL:([.nilFunc,.nilFunc,.nilFunc]:List Value).length=(a0o .num b).length:=rfl;have hI:(prog.info? 178).map (·.size)=some (a0o .num b).length:=sizeFld
 have HTy:Hid (b.x ≠ w.heap.size/\b.q ≠ w.heap.size/\b.r ≠ w.heap.size):=by
  have h0:=R1.out;refine ⟨fun e=>?_,fun e=>?_,fun e=>?_⟩
  ·have h1:=hF.hx
   rw [e,h0] at h1;injection h1 with h1
   injection h1 with _ h1
   cases h1
  ·have h1:=hF.hq
   rw [e,h0] at h1;injection h1 with h1
   injection h1 with _ h1
   cases h1
  ·have h1:=hF.hr
   rw [e,h0] at h1;injection h1 with h1
   injection h1 with _ h1
   cases h1
 generalize hV:a0o .num b=V at *;have HV:=hid hV;clear hV;clear hb hF HC R0 HB0
 go_wp2_with (first | ((with_reducible refine b0b 178 (.tmp 2) (.tmp 4) ?_ ?_ w.heap.size 0 ?_ ?_ [] V [.nilFunc,.nilFunc,.nilFunc] [] ?_ 178 R1.out rfl hL HO.out hI ?_);exact rfl;exact rfl;exact rfl;exact rfl;exact rfl;intro w4 hr4 hbut))
 have hr5:w4.heap[w.heap.size]? = some (.cells V.toArray 178):=by simpa using hr4
 refine bodyPost_ret_by (c0t (fn:=Tryz.f113) (p:=2) (ty:=178) (by kernel_rfl) _ _ w.heap.size 178 V.toArray (0,0) _ rfl hr5 underlying178 rfl (by rw [List.size_toArray];exact hI)) rfl ?_;have hF:=HF.out;obtain ⟨t1,t2,t3⟩:=HTy.out;exact ⟨b,by rw [HV.out],⟨hbut.row hF.hx t1,hbut.row hF.hq t2,hbut.row hF.hr t3⟩,hbut.below HB1.out (Nat.le_refl _)⟩
theorem v0u (g off:Nat) (w:World):Calls prog 133 #[ptr g off,fnV 80,fnV 134] w fun e w'=>∃ b,e = .returned (.agg (a0o .txt b).toArray)/\FieldAt w' .txt g off b/\Below w.heap.size w w':=by
 go_enter func133,ntmps133;go_wp2
 go_returns
 obtain ⟨r1,r2,r3⟩:=e0H w (.cells #[ptr g off] 187) (.cells #[fnV 80] 101) (.cells #[fnV 134] 206) _;exact ⟨⟨w.heap.size,w.heap.size + 1,w.heap.size + 1 + 1⟩,rfl,⟨r1,r2,r3⟩,e0a _ _ _ _ _⟩
theorem g0B (g off:Nat) (w:World):Calls prog 114 #[ptr g off] w fun e w'=>∃ b,e = .returned (.agg (a0o .txt b).toArray)/\FieldAt w' .txt g off b/\Below w.heap.size w w':=by
 have HB0:=hid (a0c w (.cells #[.nilFunc,.nilFunc,.nilFunc] 178));have R0:=hid (a0f w (.cells #[.nilFunc,.nilFunc,.nilFunc] 178));have HC:=hid (v0u g off (w.alloc (.cells #[.nilFunc,.nilFunc,.nilFunc] 178)));go_enter func114,ntmps114;go_upto_region 1 with fail
 generalize w.alloc (.cells #[.nilFunc,.nilFunc,.nilFunc] 178)=W0 at *
 go_wp2_with fail
 refine HC.out.mono ?_;rintro e w1 ⟨b,rfl,hF,hb⟩;have HB1:=hid (a0b HB0.out hb);have R1:Hid (w1.heap[w.heap.size]? = some (.cells ([]++([Value.nilFunc,Value.nilFunc,Value.nilFunc]++[])).toArray 178)):=a0a R0.out hb;have HF:=hid hF;have HO:=hid (e0I .txt b);have hL:([.nilFunc,.nilFunc,.nilFunc]:List Value).length=(a0o .txt b).length:=rfl;have hI:(prog.info? 178).map (·.size)=some (a0o .txt b).length:=sizeFld
 have HTy:Hid (b.x ≠ w.heap.size/\b.q ≠ w.heap.size/\b.r ≠ w.heap.size):=by
  have h0:=R1.out;refine ⟨fun e=>?_,fun e=>?_,fun e=>?_⟩
  ·have h1:=hF.hx
   rw [e,h0] at h1;injection h1 with h1
   injection h1 with _ h1
   cases h1
  ·have h1:=hF.hq
   rw [e,h0] at h1;injection h1 with h1
   injection h1 with _ h1
   cases h1
  ·have h1:=hF.hr
   rw [e,h0] at h1;injection h1 with h1
   injection h1 with _ h1
   cases h1
 generalize hV:a0o .txt b=V at *;have HV:=hid hV;clear hV;clear hb hF HC R0 HB0
 go_wp2_with (first | ((with_reducible refine b0b 178 (.tmp 2) (.tmp 4) ?_ ?_ w.heap.size 0 ?_ ?_ [] V [.nilFunc,.nilFunc,.nilFunc] [] ?_ 178 R1.out rfl hL HO.out hI ?_);exact rfl;exact rfl;exact rfl;exact rfl;exact rfl;intro w4 hr4 hbut))
 have hr5:w4.heap[w.heap.size]? = some (.cells V.toArray 178):=by simpa using hr4
 refine bodyPost_ret_by (c0t (fn:=Tryz.f114) (p:=2) (ty:=178) (by kernel_rfl) _ _ w.heap.size 178 V.toArray (0,0) _ rfl hr5 underlying178 rfl (by rw [List.size_toArray];exact hI)) rfl ?_;have hF:=HF.out;obtain ⟨t1,t2,t3⟩:=HTy.out;exact ⟨b,by rw [HV.out],⟨hbut.row hF.hx t1,hbut.row hF.hq t2,hbut.row hF.hr t3⟩,hbut.below HB1.out (Nat.le_refl _)⟩
theorem v0v (g off:Nat) (w:World):Calls prog 135 #[ptr g off,fnV 136,fnV 137] w fun e w'=>∃ b,e = .returned (.agg (a0o .dig b).toArray)/\FieldAt w' .dig g off b/\Below w.heap.size w w':=by
 go_enter func135,ntmps135;go_wp2
 go_returns
 obtain ⟨r1,r2,r3⟩:=e0H w (.cells #[ptr g off] 189) (.cells #[fnV 136] 130) (.cells #[fnV 137] 208) _;exact ⟨⟨w.heap.size,w.heap.size + 1,w.heap.size + 1 + 1⟩,rfl,⟨r1,r2,r3⟩,e0a _ _ _ _ _⟩
theorem e0b (g off:Nat) (w:World):Calls prog 115 #[ptr g off] w fun e w'=>∃ b,e = .returned (.agg (a0o .dig b).toArray)/\FieldAt w' .dig g off b/\Below w.heap.size w w':=by
 have HB0:=hid (a0c w (.cells #[.nilFunc,.nilFunc,.nilFunc] 178));have R0:=hid (a0f w (.cells #[.nilFunc,.nilFunc,.nilFunc] 178));have HC:=hid (v0v g off (w.alloc (.cells #[.nilFunc,.nilFunc,.nilFunc] 178)));go_enter func115,ntmps115;go_upto_region 1 with fail
 generalize w.alloc (.cells #[.nilFunc,.nilFunc,.nilFunc] 178)=W0 at *
 go_wp2_with fail
 refine HC.out.mono ?_;rintro e w1 ⟨b,rfl,hF,hb⟩;have HB1:=hid (a0b HB0.out hb);have R1:Hid (w1.heap[w.heap.size]? = some (.cells ([]++([Value.nilFunc,Value.nilFunc,Value.nilFunc]++[])).toArray 178)):=a0a R0.out hb;have HF:=hid hF;have HO:=hid (e0I .dig b);have hL:([.nilFunc,.nilFunc,.nilFunc]:List Value).length=(a0o .dig b).length:=rfl;have hI:(prog.info? 178).map (·.size)=some (a0o .dig b).length:=sizeFld
 have HTy:Hid (b.x ≠ w.heap.size/\b.q ≠ w.heap.size/\b.r ≠ w.heap.size):=by
  have h0:=R1.out;refine ⟨fun e=>?_,fun e=>?_,fun e=>?_⟩
  ·have h1:=hF.hx
   rw [e,h0] at h1;injection h1 with h1
   injection h1 with _ h1
   cases h1
  ·have h1:=hF.hq
   rw [e,h0] at h1;injection h1 with h1
   injection h1 with _ h1
   cases h1
  ·have h1:=hF.hr
   rw [e,h0] at h1;injection h1 with h1
   injection h1 with _ h1
   cases h1
 generalize hV:a0o .dig b=V at *;have HV:=hid hV;clear hV;clear hb hF HC R0 HB0
 go_wp2_with (first | ((with_reducible refine b0b 178 (.tmp 2) (.tmp 4) ?_ ?_ w.heap.size 0 ?_ ?_ [] V [.nilFunc,.nilFunc,.nilFunc] [] ?_ 178 R1.out rfl hL HO.out hI ?_);exact rfl;exact rfl;exact rfl;exact rfl;exact rfl;intro w4 hr4 hbut))
 have hr5:w4.heap[w.heap.size]? = some (.cells V.toArray 178):=by simpa using hr4
 refine bodyPost_ret_by (c0t (fn:=Tryz.f115) (p:=2) (ty:=178) (by kernel_rfl) _ _ w.heap.size 178 V.toArray (0,0) _ rfl hr5 underlying178 rfl (by rw [List.size_toArray];exact hI)) rfl ?_;have hF:=HF.out;obtain ⟨t1,t2,t3⟩:=HTy.out;exact ⟨b,by rw [HV.out],⟨hbut.row hF.hx t1,hbut.row hF.hq t2,hbut.row hF.hr t3⟩,hbut.below HB1.out (Nat.le_refl _)⟩
theorem u0b (g off:Nat) (w:World):Calls prog 139 #[ptr g off,fnV 140,fnV 141] w fun e w'=>∃ b,e = .returned (.agg (a0o .nums b).toArray)/\FieldAt w' .nums g off b/\Below w.heap.size w w':=by
 go_enter func139,ntmps139;go_wp2
 go_returns
 obtain ⟨r1,r2,r3⟩:=e0H w (.cells #[ptr g off] 194) (.cells #[fnV 140] 58) (.cells #[fnV 141] 212) _;exact ⟨⟨w.heap.size,w.heap.size + 1,w.heap.size + 1 + 1⟩,rfl,⟨r1,r2,r3⟩,e0a _ _ _ _ _⟩
theorem m0n (g off:Nat) (w:World):Calls prog 117 #[ptr g off] w fun e w'=>∃ b,e = .returned (.agg (a0o .nums b).toArray)/\FieldAt w' .nums g off b/\Below w.heap.size w w':=by
 have HB0:=hid (a0c w (.cells #[.nilFunc,.nilFunc,.nilFunc] 178));have R0:=hid (a0f w (.cells #[.nilFunc,.nilFunc,.nilFunc] 178));have HC:=hid (u0b g off (w.alloc (.cells #[.nilFunc,.nilFunc,.nilFunc] 178)));go_enter func117,ntmps117;go_upto_region 1 with fail
 generalize w.alloc (.cells #[.nilFunc,.nilFunc,.nilFunc] 178)=W0 at *
 go_wp2_with fail
 refine HC.out.mono ?_;rintro e w1 ⟨b,rfl,hF,hb⟩;have HB1:=hid (a0b HB0.out hb);have R1:Hid (w1.heap[w.heap.size]? = some (.cells ([]++([Value.nilFunc,Value.nilFunc,Value.nilFunc]++[])).toArray 178)):=a0a R0.out hb;have HF:=hid hF;have HO:=hid (e0I .nums b);have hL:([.nilFunc,.nilFunc,.nilFunc]:List Value).length=(a0o .nums b).length:=rfl;have hI:(prog.info? 178).map (·.size)=some (a0o .nums b).length:=sizeFld
 have HTy:Hid (b.x ≠ w.heap.size/\b.q ≠ w.heap.size/\b.r ≠ w.heap.size):=by
  have h0:=R1.out;refine ⟨fun e=>?_,fun e=>?_,fun e=>?_⟩
  ·have h1:=hF.hx
   rw [e,h0] at h1;injection h1 with h1
   injection h1 with _ h1
   cases h1
  ·have h1:=hF.hq
   rw [e,h0] at h1;injection h1 with h1
   injection h1 with _ h1
   cases h1
  ·have h1:=hF.hr
   rw [e,h0] at h1;injection h1 with h1
   injection h1 with _ h1
   cases h1
 generalize hV:a0o .nums b=V at *;have HV:=hid hV;clear hV;clear hb hF HC R0 HB0
 go_wp2_with (first | ((with_reducible refine b0b 178 (.tmp 2) (.tmp 4) ?_ ?_ w.heap.size 0 ?_ ?_ [] V [.nilFunc,.nilFunc,.nilFunc] [] ?_ 178 R1.out rfl hL HO.out hI ?_);exact rfl;exact rfl;exact rfl;exact rfl;exact rfl;intro w4 hr4 hbut))
 have hr5:w4.heap[w.heap.size]? = some (.cells V.toArray 178):=by simpa using hr4
 refine bodyPost_ret_by (c0t (fn:=Tryz.f117) (p:=2) (ty:=178) (by kernel_rfl) _ _ w.heap.size 178 V.toArray (0,0) _ rfl hr5 underlying178 rfl (by rw [List.size_toArray];exact hI)) rfl ?_;have hF:=HF.out;obtain ⟨t1,t2,t3⟩:=HTy.out;exact ⟨b,by rw [HV.out],⟨hbut.row hF.hx t1,hbut.row hF.hq t2,hbut.row hF.hr t3⟩,hbut.below HB1.out (Nat.le_refl _)⟩
theorem u0c (g off:Nat) (w:World):Calls prog 170 #[ptr g off,fnV 171,fnV 172] w fun e w'=>∃ b,e = .returned (.agg (a0o .pens b).toArray)/\FieldAt w' .pens g off b/\Below w.heap.size w w':=by
 go_enter func170,ntmps170;go_wp2
 go_returns
 obtain ⟨r1,r2,r3⟩:=e0H w (.cells #[ptr g off] 210) (.cells #[fnV 171] 231) (.cells #[fnV 172] 232) _;exact ⟨⟨w.heap.size,w.heap.size + 1,w.heap.size + 1 + 1⟩,rfl,⟨r1,r2,r3⟩,e0a _ _ _ _ _⟩
theorem u0d (g off:Nat) (w:World):Calls prog 138 #[ptr g off] w fun e w'=>∃ b,e = .returned (.agg (a0o .pens b).toArray)/\FieldAt w' .pens g off b/\Below w.heap.size w w':=by
 have HB0:=hid (a0c w (.cells #[.nilFunc,.nilFunc,.nilFunc] 178));have R0:=hid (a0f w (.cells #[.nilFunc,.nilFunc,.nilFunc] 178));have HC:=hid (u0c g off (w.alloc (.cells #[.nilFunc,.nilFunc,.nilFunc] 178)));go_enter func138,ntmps138;go_upto_region 1 with fail
 generalize w.alloc (.cells #[.nilFunc,.nilFunc,.nilFunc] 178)=W0 at *
 go_wp2_with fail
 refine HC.out.mono ?_;rintro e w1 ⟨b,rfl,hF,hb⟩;have HB1:=hid (a0b HB0.out hb);have R1:Hid (w1.heap[w.heap.size]? = some (.cells ([]++([Value.nilFunc,Value.nilFunc,Value.nilFunc]++[])).toArray 178)):=a0a R0.out hb;have HF:=hid hF;have HO:=hid (e0I .pens b);have hL:([.nilFunc,.nilFunc,.nilFunc]:List Value).length=(a0o .pens b).length:=rfl;have hI:(prog.info? 178).map (·.size)=some (a0o .pens b).length:=sizeFld
 have HTy:Hid (b.x ≠ w.heap.size/\b.q ≠ w.heap.size/\b.r ≠ w.heap.size):=by
  have h0:=R1.out;refine ⟨fun e=>?_,fun e=>?_,fun e=>?_⟩
  ·have h1:=hF.hx
   rw [e,h0] at h1;injection h1 with h1
   injection h1 with _ h1
   cases h1
  ·have h1:=hF.hq
   rw [e,h0] at h1;injection h1 with h1
   injection h1 with _ h1
   cases h1
  ·have h1:=hF.hr
   rw [e,h0] at h1;injection h1 with h1
   injection h1 with _ h1
   cases h1
 generalize hV:a0o .pens b=V at *;have HV:=hid hV;clear hV;clear hb hF HC R0 HB0
 go_wp2_with (first | ((with_reducible refine b0b 178 (.tmp 2) (.tmp 4) ?_ ?_ w.heap.size 0 ?_ ?_ [] V [.nilFunc,.nilFunc,.nilFunc] [] ?_ 178 R1.out rfl hL HO.out hI ?_);exact rfl;exact rfl;exact rfl;exact rfl;exact rfl;intro w4 hr4 hbut))
 have hr5:w4.heap[w.heap.size]? = some (.cells V.toArray 178):=by simpa using hr4
 refine bodyPost_ret_by (c0t (fn:=Tryz.f138) (p:=2) (ty:=178) (by kernel_rfl) _ _ w.heap.size 178 V.toArray (0,0) _ rfl hr5 underlying178 rfl (by rw [List.size_toArray];exact hI)) rfl ?_;have hF:=HF.out;obtain ⟨t1,t2,t3⟩:=HTy.out;exact ⟨b,by rw [HV.out],⟨hbut.row hF.hx t1,hbut.row hF.hq t2,hbut.row hF.hr t3⟩,hbut.below HB1.out (Nat.le_refl _)⟩
open Go Go.RowKit
set_option maxRecDepth 100000
def p0I (ops:Array Oper) (keep:List Tmp) (N:Nat):Bool :=
 (List.range ops.size).all fun i=>match ops[i]? with
  | some o=>o.guard.isNone && ((match o.dst with | some d=>decide (d < N) && !keep.contains d && (List.range ops.size).all (fun j=>j == i || ((ops[j]?).bind (·.dst) != some d)) | none=>false) && o.after.all (fun e=>!Region.binds .any e || decide (e.on < i)))
  | none=>false
theorem n0t {ops:Array Oper} {keep:List Tmp} {N:Nat} (h:p0I ops keep N=true) {i:Nat} {o:Oper} (ho:ops[i]? = some o) :
  o.guard=none/\(∃ d,o.dst=some d/\d < N/\d ∉ keep/\∀ j,j < ops.size->j ≠ i->(ops[j]?).bind (·.dst) ≠ some d)/\∀ e ∈ o.after,Region.binds .any e=true->e.on < i:=by
 have hi:i < ops.size:=(Array.getElem?_eq_some_iff.1 ho).1;unfold p0I at h;rw [List.all_eq_true] at h;have h1:=h i (List.mem_range.2 hi);rw [ho] at h1;simp only [Bool.and_eq_true] at h1;obtain ⟨h1,h2,h3⟩:=h1;refine ⟨by simpa using h1,?_,?_⟩
 ·cases hd:o.dst with
  | none=>rw [hd] at h2;exact absurd h2 Bool.false_ne_true
  | some d =>
   rw [hd] at h2;simp only [Bool.and_eq_true,decide_eq_true_eq,List.all_eq_true,List.mem_range] at h2;refine ⟨d,rfl,h2.1.1,by simpa using h2.1.2,fun j hj hne=>?_⟩;have:=h2.2 j hj;simpa [hne] using this
 ·intro e he hb
  rw [Array.all_eq_true_iff_forall_mem] at h3;have:=h3 e he;simpa [hb] using this
section
variable {P:Program} {ops:Array Oper} {Q:Exit->Act->World->Prop} {val:Nat->Value->World->Prop} {keep:List Tmp} {a0:Act} {w0:World}
structure Mid (ops:Array Oper) (val:Nat->Value->World->Prop) (keep:List Tmp) (a0:Act) (w0:World) (listed:Array Bool) (a:Act) (w:World):Prop where
 below:Below w0.heap.size w0 w
 size:a.tmps.size=a0.tmps.size
 defs:a.defers=a0.defers
 kept:∀ t ∈ keep,a.tmps.getD t undef=a0.tmps.getD t undef
 done:∀ i d,listed.getD i false=true->(ops[i]?).bind (·.dst)=some d->val i (a.tmps.getD d undef) w
def Owes (P:Program) (ops:Array Oper) (Q:Exit->Act->World->Prop) (val:Nat->Value->World->Prop) (keep:List Tmp) (a0:Act) (w0:World) (i:Nat) (o:Oper):Prop :=
 ∀ a w,Below w0.heap.size w0 w->(∀ t ∈ keep,a.tmps.getD t undef=a0.tmps.getD t undef) ->
  (∀ j d,(o.after.any fun e=>Region.binds .any e && e.on == j)=true->(ops[j]?).bind (·.dst)=some d->val j (a.tmps.getD d undef) w) ->
  o.wp P a w (fun a' w'=>∃ v,a' = a.put o.dst v/\val i v w'/\Below w.heap.size w w') Q
def unl (n:Nat) (listed:Array Bool):List Nat:=(List.range n).filter fun i=>!listed.getD i true
theorem m0o {n:Nat} {listed:Array Bool} {i:Nat}:i ∈ unl n listed ↔ i < n/\listed.getD i true=false:=by simp [unl]
theorem n0u (l:Array Bool) (i j:Nat) (d:Bool) (hi:i < l.size):(l.setIfInBounds i true).getD j d=if i=j then true else l.getD j d:=by
 by_cases h:i=j
 ·subst h
  simp [Array.getD_eq_getD_getElem?,hi]
 ·simp [Array.getD_eq_getD_getElem?,h]
theorem u0e {n:Nat} {listed:Array Bool} {i:Nat} (hn:listed.size=n) (hi:i ∈ unl n listed):(unl n (listed.setIfInBounds i true)).length < (unl n listed).length:=by
 have hlt:=(m0o.1 hi).1
 have e:unl n (listed.setIfInBounds i true)=(unl n listed).filter (fun j=>j != i):=by
  unfold unl;rw [List.filter_filter];apply List.filter_congr;intro j _;rw [n0u listed i j true (by omega)];by_cases h:i=j
  ·subst h;simp
  ·have h':j ≠ i:=fun e=>h e.symm
   simp [h,h']
 rw [e];have:=List.length_filter_lt_length_iff_exists (p:=fun j=>j != i) (l:=unl n listed);exact this.2 ⟨i,hi,by simp⟩
theorem n0v {listed:Array Bool} {i:Nat} (h:i ∈ Region.ready .any ops listed):i < ops.size/\listed.getD i true=false/\∀ o,ops[i]? = some o->∀ e ∈ o.after,Region.binds .any e=true->listed.getD e.on false=true:=by
 unfold Region.ready at h;simp only [List.mem_filter,List.mem_range,Bool.and_eq_true,Bool.not_eq_true'] at h;refine ⟨h.1,h.2.1,fun o ho e he hb=>?_⟩;have h3:=h.2.2;rw [ho] at h3;simp only [Option.map_some,Option.getD_some,Array.all_eq_true_iff_forall_mem] at h3;have:=h3 e he;simpa [hb] using this
theorem s0f {listed:Array Bool} {i:Nat} {o:Oper} (ho:ops[i]? = some o) (hu:listed.getD i true=false) (h:∀ e ∈ o.after,Region.binds .any e=true->listed.getD e.on false=true):i ∈ Region.ready .any ops listed:=by
 unfold Region.ready;simp only [List.mem_filter,List.mem_range,Bool.and_eq_true,Bool.not_eq_true'];refine ⟨(Array.getElem?_eq_some_iff.1 ho).1,hu,?_⟩;rw [ho];simp only [Option.map_some,Option.getD_some,Array.all_eq_true_iff_forall_mem];intro e he;by_cases hb:Region.binds .any e=true
 ·simp [h e he hb]
 ·simp [hb]
theorem k0S {l:Array Bool} {i:Nat} (hi:i < l.size) (d:Bool):l.getD i d=l.getD i true:=by simp [hi]
theorem n0w {N:Nat} (hok:p0I ops keep N=true) {listed:Array Bool} (hn:listed.size=ops.size) (hr:Region.ready .any ops listed = []):∀ n i,i < n->i < ops.size->listed.getD i true=true
 | 0,i,h,_=>absurd h (Nat.not_lt_zero i)
 | n + 1,i,_,hi=>by
  cases hu:listed.getD i true with
  | true=>rfl
  | false =>
   obtain ⟨o,ho⟩:∃ o,ops[i]? = some o:=⟨ops[i],Array.getElem?_eq_getElem hi⟩;obtain ⟨-,-,he⟩:=n0t hok ho
   have hm:=s0f ho hu (fun e hm hb=>by
    have hlt:=he e hm hb;have:=n0w hok hn hr n e.on (by omega) (by omega);rw [k0S (by omega) false]
    exact this)
   rw [hr] at hm
   cases hm
theorem p0J {N:Nat} (hok:p0I ops keep N=true) (hN:a0.tmps.size=N)
  (hmono:∀ i v w w',val i v w->Below w.heap.size w w'->val i v w')
  (hown:∀ i o,ops[i]? = some o->Owes P ops Q val keep a0 w0 i o)
  (hend:∀ a w,Below w0.heap.size w0 w->a.tmps.size=N->a.defers=a0.defers->(∀ t ∈ keep,a.tmps.getD t undef=a0.tmps.getD t undef)->(∀ i d,(ops[i]?).bind (·.dst)=some d->val i (a.tmps.getD d undef) w)->Q .normal a w) :
  ∀ (fuel:Nat) (listed:Array Bool) (a:Act) (w:World),listed.size=ops.size->(unl ops.size listed).length <= fuel->Mid ops val keep a0 w0 listed a w->wpAny P .any ops Q fuel listed a w:=by
 have fin:∀ (listed:Array Bool) (a:Act) (w:World),listed.size=ops.size->Mid ops val keep a0 w0 listed a w->(∀ i,i < ops.size->listed.getD i true=true)->Q .normal a w:=by
  intro listed a w hn hm hall;refine hend a w hm.below (hm.size.trans hN) hm.defs hm.kept fun i d hd=>hm.done i d ?_ hd
  have hi:i < ops.size:=by
   cases ho:ops[i]? with
   | none=>rw [ho] at hd;cases hd
   | some o=>exact (Array.getElem?_eq_some_iff.1 ho).1
  rw [k0S (by omega) false];exact hall i hi
 intro fuel
 induction fuel with
 | zero =>
  intro listed a w hn hf hm
  have hall:∀ i,i < ops.size->listed.getD i true=true:=by
   intro i hi
   cases hu:listed.getD i true with
   | true=>rfl
   | false =>
    have:i ∈ unl ops.size listed:=m0o.2 ⟨hi,hu⟩;have h0:unl ops.size listed = []:=List.length_eq_zero_iff.1 (by omega);rw [h0] at this
    cases this
  refine ⟨?_,fin listed a w hn hm hall⟩
  cases hr:Region.ready .any ops listed with
  | nil=>rfl
  | cons i l =>
   have hi:i ∈ Region.ready .any ops listed:=by rw [hr];simp
   obtain ⟨h1,h2,-⟩:=n0v hi;rw [hall i h1] at h2
   cases h2
 | succ fuel ih =>
  intro listed a w hn hf hm;refine ⟨fun hr=>fin listed a w hn hm (fun i hi=>n0w hok hn hr (i + 1) i (by omega) hi),fun i hi=>?_⟩;obtain ⟨h1,h2,h3⟩:=n0v hi;obtain ⟨o,ho⟩:∃ o,ops[i]? = some o:=⟨ops[i],Array.getElem?_eq_getElem h1⟩;obtain ⟨hg,⟨d,hd,hdN,hdk,hdi⟩,-⟩:=n0t hok ho;have hw:Region.wanted o (yielded ops a.tmps)=true:=by unfold Region.wanted;rw [hg]
  unfold wpOp;rw [ho];simp only [hw,if_true]
  left
  refine Oper.wp_mono ?_ (hown i o ho a w hm.below hm.kept fun j dj hj hdj=>hm.done j dj ?_ hdj)
  ·rintro a' w' ⟨v,rfl,hv,hb⟩
   have hds:d < a.tmps.size:=by rw [hm.size,hN];exact hdN
   have hput:∀ t,t ≠ d->(a.put o.dst v).tmps.getD t undef=a.tmps.getD t undef:=by
    intro t ht;have ht':d ≠ t:=fun e=>ht e.symm;rw [hd];simp [Act.put,Array.getD_eq_getD_getElem?,ht']
   have hown':(a.put o.dst v).tmps.getD d undef=v:=by
    rw [hd];simp [Act.put,hds]
   refine ih _ _ _ (by simp [hn]) (by have:=u0e hn (m0o.2 ⟨h1,h2⟩);omega) ⟨?_,?_,?_,?_,?_⟩
   ·exact hm.below.trans (hb.mono hm.below.size)
   ·rw [← hm.size,hd];simp [Act.put]
   ·rw [← hm.defs,hd];rfl
   ·intro t ht
    rw [hput t (fun e=>hdk (e ▸ ht))];exact hm.kept t ht
   ·intro j dj hj hdj
    rw [n0u listed i j false (by omega)] at hj;by_cases hij:i=j
    ·subst hij
     rw [ho] at hdj;have:dj=d:=by simpa [hd] using hdj.symm
     subst this;rw [hown'];exact hv
    ·rw [if_neg hij] at hj
     have hjs:j < ops.size:=by
      cases hoj:ops[j]? with
      | none=>rw [hoj] at hdj;cases hdj
      | some oj=>exact (Array.getElem?_eq_some_iff.1 hoj).1
     have hne:dj ≠ d:=fun e=>hdi j hjs (fun e2=>hij e2.symm) (e ▸ hdj);rw [hput dj hne];exact hmono j _ _ _ (hm.done j dj hj hdj) hb
  ·rw [Array.any_eq_true'] at hj
   obtain ⟨e,he,hb⟩:=hj;simp only [Bool.and_eq_true,beq_iff_eq] at hb;rw [← hb.2];exact h3 o ho e he hb.1
theorem a0X {id:Nat} {N:Nat} (hf:P.follows .mixedOrders=true) (hok:p0I ops keep N=true) (hN:a0.tmps.size=N)
  (hmono:∀ i v w w',val i v w->Below w.heap.size w w'->val i v w')
  (hown:∀ i o,ops[i]? = some o->Owes P ops Q val keep a0 w0 i o)
  (hend:∀ a w,Below w0.heap.size w0 w->a.tmps.size=N->a.defers=a0.defers->(∀ t ∈ keep,a.tmps.getD t undef=a0.tmps.getD t undef)->(∀ i d,(ops[i]?).bind (·.dst)=some d->val i (a.tmps.getD d undef) w)->Q .normal a w) :
  (Code.region id ops true).wp P Q a0 w0:=by
 refine wp_region_any hf ?_;refine p0J hok hN hmono hown hend _ _ _ _ (by simp) ?_ ⟨?_,rfl,rfl,fun _ _=>rfl,?_⟩
 ·have:=List.length_filter_le (fun i=>!(Array.replicate ops.size false).getD i true) (List.range ops.size)
  simpa [unl] using this
 ·exact ⟨rfl,rfl,rfl,Nat.le_refl _,fun k hk=>rfl⟩
 ·intro i d h
  exfalso
  revert h;simp [Array.getD_eq_getD_getElem?,Array.getElem?_replicate]
  split <;> simp
end
open Go Go.RowKit
set_option maxRecDepth 100000
def IsF (k:Slot) (g o:Nat) (v:Value) (w:World):Prop:=∃ b,v = .agg (a0o k b).toArray/\FieldAt w k g o b
def b0n (w:World) (v:Value) (g:Nat) (fs:List (Slot × Nat)):Prop :=
 ∃ (a:Option Addr) (bs:List Bx),v = .slice a fs.length fs.length/\bs.length=fs.length /\
  (fs ≠ []->∃ row,a=some ⟨row,0,none⟩/\w.heap[row]? = some (.cells ((fs.zip bs).map fun q=>a0o q.1.1 q.2).flatten.toArray 178)) /\
  ∀ j,j < fs.length->FieldAt w (fs.getD j (.num,0)).1 g (fs.getD j (.num,0)).2 (bs.getD j ⟨0,0,0⟩)
def h0C {α:Type} (base:Nat) (fs:List (Fl α)):List (Slot × Nat):=fs.map fun f=>(f.slot,base + f.off)
theorem b0n.stays {w w':World} {v:Value} {g:Nat} {fs:List (Slot × Nat)} (h:b0n w v g fs) (hb:Below w.heap.size w w'):b0n w' v g fs:=by
 obtain ⟨a,bs,h1,h2,h3,h4⟩:=h;refine ⟨a,bs,h1,h2,fun hne=>?_,fun j hj=>(h4 j hj).stays hb⟩;obtain ⟨row,h5,h6⟩:=h3 hne;exact ⟨row,h5,a0a h6 hb⟩
theorem IsF.stays {w w':World} {v:Value} {k:Slot} {g o:Nat} (h:IsF k g o v w) (hb:Below w.heap.size w w'):IsF k g o v w':=by
 obtain ⟨b,h1,h2⟩:=h;exact ⟨b,h1,h2.stays hb⟩
def Mono (p:Value->World->Prop):Prop:=∀ v w w',p v w->Below w.heap.size w w'->p v w'
def vc (c:Value):Value->World->Prop:=fun v _=>v=c
theorem d0F (c:Value):Mono (vc c):=fun _ _ _ h _=>h
theorem c0L (k:Slot) (g o:Nat):Mono (IsF k g o):=fun _ _ _ h hb=>h.stays hb
def vF (g:Nat) (fs:List (Slot × Nat)):Value->World->Prop:=fun v w=>b0n w v g fs
theorem d0G (g:Nat) (fs:List (Slot × Nat)):Mono (vF g fs):=fun _ _ _ h hb=>h.stays hb
def valOf (vs:List (Value->World->Prop)) (i:Nat):Value->World->Prop:=vs.getD i (fun _ _=>True)
theorem d0H {vs:List (Value->World->Prop)} (h:∀ p ∈ vs,Mono p):∀ i v w w',valOf vs i v w->Below w.heap.size w w'->valOf vs i v w':=by
 intro i v w w' hv hb;unfold valOf at *;by_cases hi:i < vs.length
 ·have e:vs.getD i (fun _ _=>True)=vs[i]:=by simp [List.getD,hi]
  rw [e] at hv ⊢;exact h _ (List.getElem_mem hi) v w w' hv hb
 ·have e:vs.getD i (fun _ _=>True)=fun _ _=>True:=by simp [List.getD,hi]
  rw [e];trivial
section
variable {P:Program} {ops:Array Oper} {Q:Exit->Act->World->Prop} {vs:List (Value->World->Prop)} {keep:List Tmp} {a0:Act} {w0:World} {i:Nat} {o:Oper}
theorem a0B (t:Tmp) (c:Value) (ho:o.op = .move (.tmp t)) (ht:keep.contains t=true) (hc:a0.tmps.getD t undef=c) (hv:valOf vs i=vc c):Owes P ops Q (valOf vs) keep a0 w0 i o:=by
 intro a w hB hK hD;have h1:a.eval (.tmp t)=c:=(hK t (by simpa using ht)).trans hc;unfold Oper.wp execOp;simp only [ho,Sem.run_pure,Oper.upon];exact ⟨_,rfl,by rw [hv];exact h1,Below.refl _ _⟩
theorem a0R (t:Tmp) (j:Nat) (g off:Nat) (ho:o.op = .nilCheck (.tmp t)) (ha:(o.after.any fun e=>Region.binds .any e && e.on == j)=true) (hd:(ops[j]?).bind (·.dst)=some t) (hj:valOf vs j=vc (ptr g off)) (hv:valOf vs i=vc (ptr g off)):Owes P ops Q (valOf vs) keep a0 w0 i o:=by
 intro a w hB hK hD;have h1:=hD j t ha hd;rw [hj] at h1;have h2:a.eval (.tmp t)=ptr g off:=h1;unfold Oper.wp execOp;simp only [ho,h2,Sem.run_pure,Oper.upon];exact ⟨_,rfl,by rw [hv];rfl,Below.refl _ _⟩
theorem b0F (t:Tmp) (j:Nat) (T:TypeId) (k g off d:Nat) (ho:o.op = .fieldAddr T (.tmp t) k) (hr:∀ w,(Instr.fieldAt T (ptr g off) k).run P w = .ok (ptr g (off + d)) w)
  (ha:(o.after.any fun e=>Region.binds .any e && e.on == j)=true) (hd:(ops[j]?).bind (·.dst)=some t) (hj:valOf vs j=vc (ptr g off)) (hv:valOf vs i=vc (ptr g (off + d))):Owes P ops Q (valOf vs) keep a0 w0 i o:=by
 intro a w hB hK hD;have h1:=hD j t ha hd;rw [hj] at h1;have h2:a.eval (.tmp t)=ptr g off:=h1;unfold Oper.wp execOp;simp only [ho,h2,Sem.run_bind,hr,Result.andThen_ok,Sem.run_pure,Oper.upon];exact ⟨_,rfl,by rw [hv];rfl,Below.refl _ _⟩
theorem b0G (t:Tmp) (j:Nat) (f:FuncId) (ts:Array TypeId) (k:Slot) (g off:Nat) (ho:o.op = .call { callee:=.value (.func f),args:=#[.tmp t],argTypes:=ts }) (hc:∀ args w,(callFunc f args).run P w = .ok (.enter f args) w)
  (hm:∀ w,Calls P f #[ptr g off] w fun e w'=>∃ b,e = .returned (.agg (a0o k b).toArray)/\FieldAt w' k g off b/\Below w.heap.size w w')
  (ha:(o.after.any fun e=>Region.binds .any e && e.on == j)=true) (hd:(ops[j]?).bind (·.dst)=some t) (hj:valOf vs j=vc (ptr g off)) (hv:valOf vs i=IsF k g off):Owes P ops Q (valOf vs) keep a0 w0 i o:=by
 intro a w hB hK hD;have h1:=hD j t ha hd;rw [hj] at h1;have h2:a.eval (.tmp t)=ptr g off:=h1;unfold Oper.wp execOp
 have e:(do let d ← resolve a.eval { callee:=.value (.func f),args:=#[.tmp t],argTypes:=ts } o.type;invoke d.target d.args:Sem Next).run P w = .ok (.enter f #[ptr g off]) w:=by
  have h4:a.tmps.getD t undef=ptr g off:=h1;have h3:a.tmps[t]?.getD undef=ptr g off:=by simpa using h4
  simp [resolve,Deferred.ofValue,invoke,hc,Act.eval,h3]
 simp only [ho];rw [e];simp only [Oper.upon];refine (hm w).mono ?_;rintro e w' ⟨b,rfl,hF,hb⟩;exact ⟨_,rfl,by rw [hv];exact ⟨b,rfl,hF⟩,hb⟩
theorem b0T (t:Tmp) (j:Nat) (g:Nat) (fs:List (Slot × Nat)) (ho:o.op = .assign (.tmp t)) (ha:(o.after.any fun e=>Region.binds .any e && e.on == j)=true) (hd:(ops[j]?).bind (·.dst)=some t) (hj:valOf vs j=vF g fs) (hv:valOf vs i=vF g fs):Owes P ops Q (valOf vs) keep a0 w0 i o:=by
 intro a w hB hK hD;have h1:=hD j t ha hd;rw [hj] at h1;unfold Oper.wp execOp;simp only [ho,Sem.run_pure,Oper.upon];exact ⟨_,rfl,by rw [hv];exact h1,Below.refl _ _⟩
theorem u0f {P:Program} {w:World} {c:Nat} {k:Slot} {b:Bx} (hrow:w.heap[c]? = some (.cells (a0o k b).toArray 178)) (d:TypeDesc) (hu:P.underlying 178=some d) (hd:(match d with | .struct _ | .array _ _=>true | _=>false)=true) (hi:(P.info? 178).map (·.size)=some 3) :
  (Instr.loadAt 178 (ptr c 0)).run P w = .ok (.agg (a0o k b).toArray) w:=by
 have hl:(loadCells ⟨c,0,none⟩ 3).run P w = .ok (a0o k b).toArray w :=
  run_loadCells_list (P:=P) w ⟨c,0,none⟩ (a0o k b) (fun j v hv=>by rw [b0f];exact a0s (off:=0) (A:=[]) (C:=[]) hrow (by simp) rfl j v hv)
 cases hq:P.info? 178 with
 | none=>simp [hq] at hi
 | some i =>
  have hs:i.size=3:=by simpa [hq] using hi
  have hagg:(isAgg 178).run P w = .ok true w:=by
   unfold isAgg;rw [Sem.run_bind,run_underlying hu w]
   cases d <;> simp_all
  simp [Instr.loadAt,Instr.sureAddr,Sem.run_bind,loadVar,hagg,sizeOf,typeInfo,hq,hs,hl]
theorem m0p (t:Tmp) (c:Nat) (k:Slot) (g o1:Nat) (b:Bx) (ho:o.op = .load 178 (.tmp t)) (ht:keep.contains t=true) (hc:a0.tmps.getD t undef=ptr c 0) (hrow:w0.heap[c]? = some (.cells (a0o k b).toArray 178)) (hF:FieldAt w0 k g o1 b)
  (d:TypeDesc) (hu:P.underlying 178=some d) (hd:(match d with | .struct _ | .array _ _=>true | _=>false)=true) (hi:(P.info? 178).map (·.size)=some 3) (hv:valOf vs i=IsF k g o1):Owes P ops Q (valOf vs) keep a0 w0 i o:=by
 intro a w hB hK hD;have h1:a.eval (.tmp t)=ptr c 0:=(hK t (by simpa using ht)).trans hc;unfold Oper.wp execOp;simp only [ho,h1,Sem.run_bind,u0f (a0a hrow hB) d hu hd hi,Result.andThen_ok,Sem.run_pure,Oper.upon];exact ⟨_,rfl,by rw [hv];exact ⟨b,rfl,hF.stays hB⟩,Below.refl _ _⟩
theorem h0D (T e:TypeId) (n:Nat) (parts:Array (Nat × Operand)) (g:Nat) (fs:List (Slot × Nat)) (src:List (Nat × Tmp)) (ho:o.op = .buildSlice T n parts) (hT:P.underlying T=some (.slice e)) (he:e=178) (hs:(P.info? e).map (·.size)=some 3) (hz:((P.info? e).bind (·.zero)).map (·.cells.size)=some 3)
  (hn:fs.length=n) (h0:0 < n) (h1:n <= 100) (hsrc:src.length=n) (hp:parts.toList=src.zipIdx.map fun q=>(q.2,Operand.tmp q.1.2))
  (ha:(src.all fun q=>(o.after.any fun e=>Region.binds .any e && e.on == q.1) && ((ops[q.1]?).bind (·.dst) == some q.2))=true)
  (hj:∀ j,j < n->valOf vs (src.getD j (0,0)).1=IsF (fs.getD j (.num,0)).1 g (fs.getD j (.num,0)).2) (hv:valOf vs i=vF g fs):Owes P ops Q (valOf vs) keep a0 w0 i o:=by
 intro a w hB hK hD
 have hall:∀ j,j < n->IsF (fs.getD j (.num,0)).1 g (fs.getD j (.num,0)).2 (a.tmps.getD (src.getD j (0,0)).2 undef) w:=by
  intro j hjn
  have hm:src.getD j (0,0) ∈ src:=by
   have e:src.getD j (0,0)=src[j]:=by simp [List.getD,hsrc,hjn]
   rw [e];exact List.getElem_mem _
  rw [List.all_eq_true] at ha;have hq:=ha _ hm;simp only [Bool.and_eq_true,beq_iff_eq] at hq;obtain ⟨q1,q2⟩:=hq;have h:=hD _ _ q1 q2;rw [hj j hjn] at h;exact h
 obtain ⟨bs,hbl,hbs⟩:∃ bs:List Bx,bs.length=n/\∀ j,j < n->a.tmps.getD (src.getD j (0,0)).2 undef = .agg (a0o (fs.getD j (.num,0)).1 (bs.getD j ⟨0,0,0⟩)).toArray/\FieldAt w (fs.getD j (.num,0)).1 g (fs.getD j (.num,0)).2 (bs.getD j ⟨0,0,0⟩):=by
  have hex:∀ m,m <= n->∃ bs:List Bx,bs.length=m/\∀ j,j < m->a.tmps.getD (src.getD j (0,0)).2 undef = .agg (a0o (fs.getD j (.num,0)).1 (bs.getD j ⟨0,0,0⟩)).toArray/\FieldAt w (fs.getD j (.num,0)).1 g (fs.getD j (.num,0)).2 (bs.getD j ⟨0,0,0⟩):=by
   intro m
   induction m with
   | zero=>exact fun _=>⟨[],rfl,fun j hj=>absurd hj (Nat.not_lt_zero j)⟩
   | succ m ih =>
    intro hm;obtain ⟨bs,hl,hb⟩:=ih (by omega);obtain ⟨b,hb1,hb2⟩:=hall m (by omega);refine ⟨bs++[b],by simp [hl],fun j hjm=>?_⟩;by_cases e:j=m
    ·subst e
     have:(bs++[b]).getD j ⟨0,0,0⟩=b:=by simp [List.getD,← hl]
     rw [this];exact ⟨hb1,hb2⟩
    ·have hlt:j < bs.length:=by omega
     have:(bs++[b]).getD j ⟨0,0,0⟩=bs.getD j ⟨0,0,0⟩:=by simp [List.getD,List.getElem?_append_left hlt]
     rw [this];exact hb j (by omega)
  exact hex n (Nat.le_refl _)
 subst he
 cases hie:P.info? 178 with
 | none=>simp [hie] at hs
 | some ie =>
  simp only [hie,Option.map_some,Option.some.injEq,Option.bind_some] at hs hz
  cases hzz:ie.zero with
  | none=>rw [hzz] at hz;cases hz
  | some z =>
   rw [hzz] at hz;have hz3:z.cells.size=3:=by simpa using hz
   have hvals:(parts.map fun (i,x)=>(i,a.eval x)).toList=(((fs.zip bs).map fun q=>Value.agg (a0o q.1.1 q.2).toArray).zipIdx 0).map fun x=>(x.2,x.1):=by
    rw [Array.toList_map,hp,List.map_map];apply List.ext_getElem
    ·simp [hsrc,hn,hbl]
    ·intro j h1 h2
     simp only [List.getElem_map,List.getElem_zipIdx,Function.comp,Nat.zero_add,List.getElem_zip];have hjn:j < n:=by simpa [hsrc] using h1
     obtain ⟨h3,-⟩:=hbs j hjn;have e1:src.getD j (0,0)=src[j]:=by simp [List.getD,hsrc,hjn]
     have e2:fs.getD j (.num,0)=fs[j]:=by simp [List.getD,hn,hjn]
     have e3:bs.getD j ⟨0,0,0⟩=bs[j]:=by simp [List.getD,hbl,hjn]
     rw [e1,e2,e3] at h3;show (j,a.tmps.getD src[j].2 undef)=_;rw [h3]
   have hcl:∀ v ∈ (fs.zip bs).map fun q=>Value.agg (a0o q.1.1 q.2).toArray,v.cells.size=3:=by
    intro v hv;obtain ⟨q,-,rfl⟩:=List.mem_map.1 hv;rfl
   have hfill:=Great.fill_whole (s:=3) (by omega) ((fs.zip bs).map fun q=>Value.agg (a0o q.1.1 q.2).toArray) ((Array.range (n * 3)).map (z.cells[· % z.cells.size]!)) hcl (by simp [hn,hbl]);rw [← hvals] at hfill;refine wp_buildSlice T 178 n parts ho _ ie z hT hie hzz (by rw [hs];omega) (by rw [hs];omega) (by rw [hs];exact hfill) ?_;refine ⟨_,rfl,?_,a0c _ _⟩;rw [hv];refine ⟨some ⟨w.heap.size,0,none⟩,bs,by rw [hn],hbl.trans hn.symm,fun _=>⟨w.heap.size,rfl,?_⟩,fun j hjn=>((hbs j (by omega)).2).stays (a0c _ _)⟩;rw [a0f,List.flatMap_map]
   have e:(fs.zip bs).flatMap (fun q=>(Value.agg (a0o q.1.1 q.2).toArray).cells.toList)=((fs.zip bs).map fun q=>a0o q.1.1 q.2).flatten:=by
    rw [List.flatMap_def];rfl
   rw [e]
end
theorem infoFld:((prog.info? 178).bind (·.zero)).map (·.cells.size)=some 3:=by kernel_rfl
end Go.Proofs.YtagmnmoaekbffaaGreatDoor.Ms
