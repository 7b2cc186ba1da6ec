/- S12 -/
import Derived.Test.YtagmnmoaekbffaaGreatDoorS03
import Derived.Test.YtagmnmoaekbffaaGreatDoorTjas
import Derived.Test.YtagmnmoaekbffaaGreatDoorThsr
import Derived.Test.YtagmnmoaekbffaaGreatDoorS11
set_option maxHeartbeats 8000000
namespace Go.Proofs.YtagmnmoaekbffaaGreatDoor.Ms
open Go.Proofs.Tryz
open Go Go.RowKit
set_option maxRecDepth 100000
theorem b0U (n:Int) (w:World):Calls prog 108 #[nu n] w fun e w'=>e = .returned (.bool (inB n 0 7))/\w' = w:=by
 have e0:(inB n 0 7)=(decide (0 <= n) && decide (n < 8)):=by first | rfl | (unfold inB;congr 1;simp;omega)
 rw [e0];by_cases h:0 <= n
 ·have d1:decide (0 <= n)=true:=decide_eq_true h
  rw [d1,Bool.true_and];clear h e0;go_enter func108,ntmps108;go_wp2;go_ret;exact ⟨rfl,rfl⟩
 ·have d1:decide (0 <= n)=false:=decide_eq_false h
  rw [d1,Bool.false_and];clear h e0;go_enter func108,ntmps108;go_wp2;go_ret;exact ⟨rfl,rfl⟩
theorem d0M (n:Int) (w:World):Calls prog 148 #[nu n] w fun e w'=>e = .returned (.bool (inB n 1 512))/\w' = w:=by
 have e0:(inB n 1 512)=(decide (1 <= n) && decide (n <= 512)):=by first | rfl | (unfold inB;congr 1;simp;omega)
 rw [e0];by_cases h:1 <= n
 ·have d1:decide (1 <= n)=true:=decide_eq_true h
  rw [d1,Bool.true_and];clear h e0;go_enter func148,ntmps148;go_wp2;go_ret;exact ⟨rfl,rfl⟩
 ·have d1:decide (1 <= n)=false:=decide_eq_false h
  rw [d1,Bool.false_and];clear h e0;go_enter func148,ntmps148;go_wp2;go_ret;exact ⟨rfl,rfl⟩
theorem i0P (n:Int) (w:World):Calls prog 153 #[nu n] w fun e w'=>e = .returned (.bool (inB n 0 1099511627776))/\w' = w:=by
 have e0:(inB n 0 1099511627776)=(decide (0 <= n) && decide (n <= 1099511627776)):=by first | rfl | (unfold inB;congr 1;simp;omega)
 rw [e0];by_cases h:0 <= n
 ·have d1:decide (0 <= n)=true:=decide_eq_true h
  rw [d1,Bool.true_and];clear h e0;go_enter func153,ntmps153;go_wp2;go_ret;exact ⟨rfl,rfl⟩
 ·have d1:decide (0 <= n)=false:=decide_eq_false h
  rw [d1,Bool.false_and];clear h e0;go_enter func153,ntmps153;go_wp2;go_ret;exact ⟨rfl,rfl⟩
theorem i0Q (n:Int) (w:World):Calls prog 149 #[nu n] w fun e w'=>e = .returned (.bool (inB n 1 2))/\w' = w:=by
 by_cases h1:n=1
 ·subst h1
  go_enter func149,ntmps149;go_wp2;go_ret;exact ⟨rfl,rfl⟩
 ·have d1:(n == 1)=false:=by simpa using h1
  have e0:inB n 1 2=(n == 2):=by rw [Bool.eq_iff_iff,b0h,beq_iff_eq];omega
  rw [e0];clear h1 e0;go_enter func149,ntmps149;go_wp2;go_ret;exact ⟨rfl,rfl⟩
theorem o0p (x:Sub) (hx:x.Wf) (w:World):Calls prog 124 #[.agg (subC x).toArray] w fun e w'=>e = .returned (.bool (subB x))/\Below w.heap.size w w':=by
 have HB0:=hid (a0c w (.cells (subC x).toArray 40));have r0:=a0f w (.cells (subC x).toArray 40);have c_number:=a0N r0 hx;have c_kind:=d0B r0 hx;have c_target:=a0O r0 hx;have c_value:=o0k r0 hx;have K_a:=hid (fun W=>d0M x.number W);have K_b:=hid (fun W=>i0Q x.kind W);have K_c:=hid (fun W=>b0U x.target W);clear r0;obtain ⟨S,hS⟩:∃ S,S=(subC x).toArray:=⟨_,rfl⟩;rw [← hS] at HB0 c_number c_kind c_target c_value ⊢;clear hS
 cases h_a:inB x.number 1 512 with
 | false=>as_aux_lemma =>
  have HF:Hid (subB x=false):=by show _=_;unfold subB d0l;simp [h_a]
  rw [h_a] at K_a;go_enter func124,ntmps124;go_upto_region 1 with fail
  generalize w.alloc (.cells S 40)=W0 at *
  go_wp2_with fail
  refine (K_a.out _).mono ?_;rintro e v ⟨rfl,hv⟩;subst v;go_wp2;go_ret;exact ⟨by rw [HF.out];rfl,HB0.out⟩
 | true =>
  cases h_b:inB x.kind 1 2 with
  | false=>as_aux_lemma =>
   have HF:Hid (subB x=false):=by show _=_;unfold subB d0l;simp [h_a,h_b]
   rw [h_a] at K_a;rw [h_b] at K_b;go_enter func124,ntmps124;go_upto_region 1 with fail
   generalize w.alloc (.cells S 40)=W0 at *
   go_wp2_with fail
   refine (K_a.out _).mono ?_;rintro e v ⟨rfl,hv⟩;subst v
   go_wp2_with fail
   refine (K_b.out _).mono ?_;rintro e v ⟨rfl,hv⟩;subst v;go_wp2;go_ret;exact ⟨by rw [HF.out];rfl,HB0.out⟩
  | true =>
   cases h_c:inB x.target 0 7 with
   | false=>as_aux_lemma =>
    have HF:Hid (subB x=false):=by show _=_;unfold subB d0l;simp [h_a,h_b,h_c]
    rw [h_a] at K_a;rw [h_b] at K_b;rw [h_c] at K_c;go_enter func124,ntmps124;go_upto_region 1 with fail
    generalize w.alloc (.cells S 40)=W0 at *
    go_wp2_with fail
    refine (K_a.out _).mono ?_;rintro e v ⟨rfl,hv⟩;subst v
    go_wp2_with fail
    refine (K_b.out _).mono ?_;rintro e v ⟨rfl,hv⟩;subst v
    go_wp2_with fail
    refine (K_c.out _).mono ?_;rintro e v ⟨rfl,hv⟩;subst v;go_wp2;go_ret;exact ⟨by rw [HF.out];rfl,HB0.out⟩
   | true =>
    cases h_d:decide (x.value.length <= 256) with
    | false=>as_aux_lemma =>
     have HF:Hid (subB x=false):=by show _=_;unfold subB d0l;simp [h_a,h_b,h_c,h_d]
     rw [h_a] at K_a;rw [h_b] at K_b;rw [h_c] at K_c;have d_d:decide ((x.value.length:Int) <= 256)=false:=by rw [← h_d];simp;omega
     have hl_d:(⟨(x.value).toArray⟩:ByteArray).size=x.value.length:=rfl;go_enter func124,ntmps124;go_upto_region 1 with fail
     generalize w.alloc (.cells S 40)=W0 at *
     go_wp2_with fail
     refine (K_a.out _).mono ?_;rintro e v ⟨rfl,hv⟩;subst v
     go_wp2_with fail
     refine (K_b.out _).mono ?_;rintro e v ⟨rfl,hv⟩;subst v
     go_wp2_with fail
     refine (K_c.out _).mono ?_;rintro e v ⟨rfl,hv⟩;subst v;go_wp2;go_ret;exact ⟨by rw [HF.out];rfl,HB0.out⟩
    | true =>
     as_aux_lemma =>
     have HF:Hid (subB x=true):=by show _=_;unfold subB d0l;simp [h_a,h_b,h_c,h_d]
     rw [h_a] at K_a;rw [h_b] at K_b;rw [h_c] at K_c;have d_d:decide ((x.value.length:Int) <= 256)=true:=by rw [← h_d];simp;omega
     have hl_d:(⟨(x.value).toArray⟩:ByteArray).size=x.value.length:=rfl;go_enter func124,ntmps124;go_upto_region 1 with fail
     generalize w.alloc (.cells S 40)=W0 at *
     go_wp2_with fail
     refine (K_a.out _).mono ?_;rintro e v ⟨rfl,hv⟩;subst v
     go_wp2_with fail
     refine (K_b.out _).mono ?_;rintro e v ⟨rfl,hv⟩;subst v
     go_wp2_with fail
     refine (K_c.out _).mono ?_;rintro e v ⟨rfl,hv⟩;subst v;go_wp2;go_ret;exact ⟨by rw [HF.out];rfl,HB0.out⟩
theorem i0R (x:Blo) (hx:x.Wf) (w:World):Calls prog 127 #[.agg (bloC x).toArray] w fun e w'=>e = .returned (.bool (bloB x))/\Below w.heap.size w w':=by
 have HB0:=hid (a0c w (.cells (bloC x).toArray 78));have r0:=a0f w (.cells (bloC x).toArray 78);have c_owner:=o0l r0 hx;have c_number:=m0b r0 hx;have c_cipher:=m0c r0 hx;have K_a:=hid (fun W=>b0U x.owner W);have K_b:=hid (fun W=>i0P x.number W);clear r0;obtain ⟨S,hS⟩:∃ S,S=(bloC x).toArray:=⟨_,rfl⟩;rw [← hS] at HB0 c_owner c_number c_cipher ⊢;clear hS
 cases h_a:inB x.owner 0 7 with
 | false=>as_aux_lemma =>
  have HF:Hid (bloB x=false):=by show _=_;unfold bloB;simp [h_a]
  rw [h_a] at K_a;go_enter func127,ntmps127;go_upto_region 1 with fail
  generalize w.alloc (.cells S 78)=W0 at *
  go_wp2_with fail
  refine (K_a.out _).mono ?_;rintro e v ⟨rfl,hv⟩;subst v;go_wp2;go_ret;exact ⟨by rw [HF.out];rfl,HB0.out⟩
 | true =>
  cases h_b:inB x.number 0 1099511627776 with
  | false=>as_aux_lemma =>
   have HF:Hid (bloB x=false):=by show _=_;unfold bloB;simp [h_a,h_b]
   rw [h_a] at K_a;rw [h_b] at K_b;go_enter func127,ntmps127;go_upto_region 1 with fail
   generalize w.alloc (.cells S 78)=W0 at *
   go_wp2_with fail
   refine (K_a.out _).mono ?_;rintro e v ⟨rfl,hv⟩;subst v
   go_wp2_with fail
   refine (K_b.out _).mono ?_;rintro e v ⟨rfl,hv⟩;subst v;go_wp2;go_ret;exact ⟨by rw [HF.out];rfl,HB0.out⟩
  | true =>
   cases h_d:decide (x.cipher.length <= 4096) with
   | false=>as_aux_lemma =>
    have HF:Hid (bloB x=false):=by show _=_;unfold bloB;simp [h_a,h_b,h_d]
    rw [h_a] at K_a;rw [h_b] at K_b;have d_d:decide ((x.cipher.length:Int) <= 4096)=false:=by rw [← h_d];simp;omega
    have hl_d:(⟨(x.cipher).toArray⟩:ByteArray).size=x.cipher.length:=rfl;go_enter func127,ntmps127;go_upto_region 1 with fail
    generalize w.alloc (.cells S 78)=W0 at *
    go_wp2_with fail
    refine (K_a.out _).mono ?_;rintro e v ⟨rfl,hv⟩;subst v
    go_wp2_with fail
    refine (K_b.out _).mono ?_;rintro e v ⟨rfl,hv⟩;subst v;go_wp2;go_ret;exact ⟨by rw [HF.out];rfl,HB0.out⟩
   | true =>
    as_aux_lemma =>
    have HF:Hid (bloB x=true):=by show _=_;unfold bloB;simp [h_a,h_b,h_d]
    rw [h_a] at K_a;rw [h_b] at K_b;have d_d:decide ((x.cipher.length:Int) <= 4096)=true:=by rw [← h_d];simp;omega
    have hl_d:(⟨(x.cipher).toArray⟩:ByteArray).size=x.cipher.length:=rfl;go_enter func127,ntmps127;go_upto_region 1 with fail
    generalize w.alloc (.cells S 78)=W0 at *
    go_wp2_with fail
    refine (K_a.out _).mono ?_;rintro e v ⟨rfl,hv⟩;subst v
    go_wp2_with fail
    refine (K_b.out _).mono ?_;rintro e v ⟨rfl,hv⟩;subst v;go_wp2;go_ret;exact ⟨by rw [HF.out];rfl,HB0.out⟩
theorem o0q (x:Pen) (hx:x.Wf) (w:World):Calls prog 152 #[.agg (penC x).toArray] w fun e w'=>e = .returned (.bool (penB x))/\Below w.heap.size w w':=by
 have HB0:=hid (a0c w (.cells (penC x).toArray 57));have r0:=a0f w (.cells (penC x).toArray 57);have c_client:=d0z r0 hx;have c_number:=d0A r0 hx;have c_kind:=h0m r0 hx;have c_target:=f0v r0 hx;have K_a:=hid (fun W=>b0U x.client W);have K_b:=hid (fun W=>d0M x.number W);have K_c:=hid (fun W=>i0Q x.kind W);have K_d:=hid (fun W=>b0U x.target W);clear r0;obtain ⟨S,hS⟩:∃ S,S=(penC x).toArray:=⟨_,rfl⟩;rw [← hS] at HB0 c_client c_number c_kind c_target ⊢;clear hS
 cases h_a:inB x.client 0 7 with
 | false=>as_aux_lemma =>
  have HF:Hid (penB x=false):=by show _=_;unfold penB d0l;simp [h_a]
  rw [h_a] at K_a;go_enter func152,ntmps152;go_upto_region 1 with fail
  generalize w.alloc (.cells S 57)=W0 at *
  go_wp2_with fail
  refine (K_a.out _).mono ?_;rintro e v ⟨rfl,hv⟩;subst v;go_wp2;go_ret;exact ⟨by rw [HF.out];rfl,HB0.out⟩
 | true =>
  cases h_b:inB x.number 1 512 with
  | false=>as_aux_lemma =>
   have HF:Hid (penB x=false):=by show _=_;unfold penB d0l;simp [h_a,h_b]
   rw [h_a] at K_a;rw [h_b] at K_b;go_enter func152,ntmps152;go_upto_region 1 with fail
   generalize w.alloc (.cells S 57)=W0 at *
   go_wp2_with fail
   refine (K_a.out _).mono ?_;rintro e v ⟨rfl,hv⟩;subst v
   go_wp2_with fail
   refine (K_b.out _).mono ?_;rintro e v ⟨rfl,hv⟩;subst v;go_wp2;go_ret;exact ⟨by rw [HF.out];rfl,HB0.out⟩
  | true =>
   cases h_c:inB x.kind 1 2 with
   | false=>as_aux_lemma =>
    have HF:Hid (penB x=false):=by show _=_;unfold penB d0l;simp [h_a,h_b,h_c]
    rw [h_a] at K_a;rw [h_b] at K_b;rw [h_c] at K_c;go_enter func152,ntmps152;go_upto_region 1 with fail
    generalize w.alloc (.cells S 57)=W0 at *
    go_wp2_with fail
    refine (K_a.out _).mono ?_;rintro e v ⟨rfl,hv⟩;subst v
    go_wp2_with fail
    refine (K_b.out _).mono ?_;rintro e v ⟨rfl,hv⟩;subst v
    go_wp2_with fail
    refine (K_c.out _).mono ?_;rintro e v ⟨rfl,hv⟩;subst v;go_wp2;go_ret;exact ⟨by rw [HF.out];rfl,HB0.out⟩
   | true =>
    cases h_d:inB x.target 0 7 with
    | false=>as_aux_lemma =>
     have HF:Hid (penB x=false):=by show _=_;unfold penB d0l;simp [h_a,h_b,h_c,h_d]
     rw [h_a] at K_a;rw [h_b] at K_b;rw [h_c] at K_c;rw [h_d] at K_d;go_enter func152,ntmps152;go_upto_region 1 with fail
     generalize w.alloc (.cells S 57)=W0 at *
     go_wp2_with fail
     refine (K_a.out _).mono ?_;rintro e v ⟨rfl,hv⟩;subst v
     go_wp2_with fail
     refine (K_b.out _).mono ?_;rintro e v ⟨rfl,hv⟩;subst v
     go_wp2_with fail
     refine (K_c.out _).mono ?_;rintro e v ⟨rfl,hv⟩;subst v
     go_wp2_with fail
     refine (K_d.out _).mono ?_;rintro e v ⟨rfl,hv⟩;subst v;go_wp2;go_ret;exact ⟨by rw [HF.out];rfl,HB0.out⟩
    | true =>
     as_aux_lemma =>
     have HF:Hid (penB x=true):=by show _=_;unfold penB d0l;simp [h_a,h_b,h_c,h_d]
     rw [h_a] at K_a;rw [h_b] at K_b;rw [h_c] at K_c;rw [h_d] at K_d;go_enter func152,ntmps152;go_upto_region 1 with fail
     generalize w.alloc (.cells S 57)=W0 at *
     go_wp2_with fail
     refine (K_a.out _).mono ?_;rintro e v ⟨rfl,hv⟩;subst v
     go_wp2_with fail
     refine (K_b.out _).mono ?_;rintro e v ⟨rfl,hv⟩;subst v
     go_wp2_with fail
     refine (K_c.out _).mono ?_;rintro e v ⟨rfl,hv⟩;subst v
     go_wp2_with fail
     refine (K_d.out _).mono ?_;rintro e v ⟨rfl,hv⟩;subst v;go_wp2;go_ret;exact ⟨by rw [HF.out];rfl,HB0.out⟩
theorem h0G (v:List UInt8) (w:World):Calls prog 126 #[st v] w fun e w'=>e = .returned (.bool (e0D v))/\Below w.heap.size w w':=by
 cases h1:v.isEmpty with
 | true =>
  have e0:v = []:=List.isEmpty_iff.1 h1;subst e0;clear h1;go_enter func126,ntmps126;go_wp2;go_ret;exact ⟨rfl,Below.refl _ _⟩
 | false =>
  have HR:=hid (Hist.right_any v 8 w);have hne:¬ v = []:=fun e=>by rw [e] at h1;cases h1
  have e0:e0D v=Hist.rightB v 8:=by unfold e0D;simp [hne]
  rw [e0];generalize Hist.rightB v 8=b at *;clear e0;go_enter func126,ntmps126
  go_wp2_with fail
  refine HR.out.mono ?_;rintro e w1 ⟨rfl,hb⟩;have HB:=hid hb;clear hb;go_wp2;go_ret;exact ⟨rfl,HB.out⟩
theorem p0O (l:List Int) (h:inB (l.length:Int) 1 64=false):d0y l=false:=by unfold d0y;rw [h];simp
theorem m0s (l:List Int) (hl:inB (l.length:Int) 1 64=true) (h:∀ i,i < l.length->okAt l i=true):d0y l=true:=by rw [k0R l h,hl]
theorem f0z {w:World} {v:Value} {l:List Int} (hv:a0w w v l) (hmx:l.length <= 9223372036854775807):Calls prog 128 #[v] w fun e w'=>e = .returned (.bool (d0y l))/\Below w.heap.size w w':=by
 have HV:=hid hv;obtain ⟨a,cap,rfl,-⟩:=hv;have HB0:=hid (Below.refl w.heap.size w);have HBad:=hid (k0Q l)
 cases hin0:inB (l.length:Int) 1 64 with
 | false =>
  have HF:=hid (p0O l hin0);rcases (by unfold inB at hin0;simp at hin0;omega:l.length=0 ∨ (64:Int) < (l.length:Int)) with h0 | h64
  ·as_aux_lemma =>
   have d1:decide ((l.length:Int) < 1)=true:=decide_eq_true (by omega);have d1':decide (l.length < 1)=true:=decide_eq_true (by omega);clear hin0 HBad h0;go_enter func128,ntmps128;go_wp2;go_ret;exact ⟨by rw [HF.out];rfl,HB0.out⟩
  ·as_aux_lemma =>
   have d1:decide ((l.length:Int) < 1)=false:=decide_eq_false (by omega);have d1':decide (l.length < 1)=false:=decide_eq_false (by omega);have d2:decide ((64:Int) < (l.length:Int))=true:=decide_eq_true h64;have d2':decide (64 < l.length)=true:=decide_eq_true (by omega);clear hin0 HBad;go_enter func128,ntmps128;go_wp2;go_ret;exact ⟨by rw [HF.out];rfl,HB0.out⟩
 | true =>
  have hl:=(b0h _ _ _).1 hin0;have HAll:=hid (m0s l hin0);have d1:decide ((l.length:Int) < 1)=false:=decide_eq_false (by omega);have d1':decide (l.length < 1)=false:=decide_eq_false (by omega);have d2:decide ((64:Int) < (l.length:Int))=false:=decide_eq_false (by omega);have d2':decide (64 < l.length)=false:=decide_eq_false (by omega);clear hin0;go_enter func128,ntmps128;go_wp2;go_loopw [15] (fun i w'=>∃ j:Nat,j <= l.length/\i = .int .i64 j/\Hid (∀ k,k < j->okAt l k=true)/\Hid (Below w.heap.size w w')) (fun i _=>l.length - (intOf i).toNat)
  case atStart=>exact ⟨0,by omega,rfl,fun k hk=>absurd hk (Nat.not_lt_zero k),HB0.out⟩
  case round =>
   obtain ⟨j,hj,rfl,HN,HB⟩:=hrel;clear d1 d1' d2 d2' HB0;by_cases hlt:j < l.length
   ·have d1:decide ((j:Int) < (l.length:Int))=true:=decide_eq_true (by omega)
    have d1':decide (j < l.length)=true:=decide_eq_true hlt;obtain ⟨a',c',e',hc⟩:=HV.out.kept HB.out
    cases e'
    obtain ⟨b,off,rfl,hcc⟩:=hc (fun e=>by rw [e] at hlt;exact absurd hlt (Nat.not_lt_zero j));have cj:wr.cell? ⟨b,off + j,none⟩=some (.int .i64 (l.getD j 0)):=hcc j hlt;have HI:=hid (fun W=>i0P (l.getD j 0) W)
    have hon:Hid (okAt l j=true->∀ k,k < j + 1->okAt l k=true):=fun h k hk=>by
     by_cases e:k=j
     ·rw [e];exact h
     ·exact HN.out k (by omega)
    cases hin:inB (l.getD j 0) 0 1099511627776 with
    | false=>as_aux_lemma =>
     have HF:=hid (HBad.out j hlt (by unfold okAt;rw [hin];rfl));rw [hin] at HI;generalize l.getD j 0=x at *;clear hin hc hcc hon HN HAll HBad
     go_wp2_with fail
     refine (HI.out _).mono ?_;rintro e v ⟨rfl,hv⟩;subst v;go_wp2;go_ret;exact ⟨by rw [HF.out];rfl,HB.out⟩
    | true =>
     rw [hin] at HI;by_cases h0:j=0
     ·as_aux_lemma =>
      subst h0;have cj0:wr.cell? ⟨b,off,none⟩=some (.int .i64 (l.getD 0 0)):=cj;have HN':=hid (hon.out (by unfold okAt;rw [hin];rfl));generalize l.getD 0 0=x at *;clear hin hc hcc hon HN HAll HBad
      go_wp2_with fail
      refine (HI.out _).mono ?_;rintro e v ⟨rfl,hv⟩;subst v;go_wp2;exact ⟨⟨1,by omega,rfl,HN'.out,HB.out⟩,by simp [intOf];omega⟩
     ·have dz:decide ((0:Int) < (j:Int))=true:=decide_eq_true (by omega)
      have dz':decide (0 < j)=true:=decide_eq_true (by omega);have ck:wr.cell? ⟨b,off + (j - 1),none⟩=some (.int .i64 (l.getD (j - 1) 0)):=hcc (j - 1) (by omega);obtain ⟨i,hi⟩:∃ i:Nat,i=j - 1:=⟨_,rfl⟩;have hij:(j:Int) - 1=(i:Int):=by omega
      have hil:i < l.length:=by omega
      rw [← hi] at ck;by_cases hle:l.getD j 0 <= l.getD i 0
      ·as_aux_lemma =>
       have HF:=hid (HBad.out j hlt (by unfold okAt;rw [hin,← hi,decide_eq_false h0,decide_eq_false (by omega:¬ l.getD i 0 < l.getD j 0)];rfl));have dl:decide (l.getD j 0 <= l.getD i 0)=true:=decide_eq_true hle;generalize l.getD j 0=x at *;generalize l.getD i 0=y at *;clear hin hc hcc hon HN HAll HBad hle h0 hi
       go_wp2_with fail
       refine (HI.out _).mono ?_;rintro e v ⟨rfl,hv⟩;subst v;go_wp2;go_ret;exact ⟨by rw [HF.out];rfl,HB.out⟩
      ·as_aux_lemma =>
       have HN':=hid (hon.out (by unfold okAt;rw [hin,← hi,decide_eq_false h0,decide_eq_true (by omega:l.getD i 0 < l.getD j 0)];rfl));have dl:decide (l.getD j 0 <= l.getD i 0)=false:=decide_eq_false hle;generalize l.getD j 0=x at *;generalize l.getD i 0=y at *;clear hin hc hcc hon HN HAll HBad hle h0 hi
       go_wp2_with fail
       refine (HI.out _).mono ?_;rintro e v ⟨rfl,hv⟩;subst v;go_wp2;exact ⟨⟨j + 1,by omega,by go_num,HN'.out,HB.out⟩,by simp [intOf];omega⟩
   ·as_aux_lemma =>
    obtain rfl:j=l.length:=by omega
    have HF:=hid (HAll.out HN.out);clear HN HAll HBad;go_wp2;go_ret;exact ⟨by rw [HF.out];rfl,HB.out⟩
open Go Go.RowKit
set_option maxRecDepth 100000
def p0P (r:Rep):Prop:=∀ (w:World) (vP:Value),a0g w vP r.pend->Calls prog 125 #[.agg (repC r vP).toArray] w fun e w'=>e = .returned (.bool (repB r))/\Below w.heap.size w w'
theorem k0U {w:World} {m:Msg} {vP vN:Value} (hw:m.Wf) (hp:a0g w vP m.rep.pend) (hn:a0w w vN m.nums) (hR:m.kind=2->p0P m.rep) (hmx:m.nums.length <= 9223372036854775807) :
  Calls prog 109 #[.agg (msgC m vP vN).toArray] w fun e w'=>e = .returned (.bool (a0L m))/\Below w.heap.size w w':=by
 have HB0:=hid (a0c w (.cells (msgC m vP vN).toArray 80));have R0:=hid (a0f w (.cells (msgC m vP vN).toArray 80));have HP:=hid (hp.kept HB0.out);have HN:=hid (hn.kept HB0.out);obtain ⟨pa,pc,rfl,-⟩:=hp;obtain ⟨na,nc,rfl,-⟩:=hn;have HW:=hid hw;have HRR:=hid hR;obtain ⟨RA,hRA⟩:∃ RA,RA=(msgC m (.slice pa m.rep.pend.length pc) (.slice na m.nums.length nc)).toArray:=⟨_,rfl⟩;rw [← hRA] at HB0 R0 HP HN ⊢;have HRA:=hid hRA;clear hRA hw hR;go_enter func109,ntmps109;go_upto_region 1 with fail
 generalize w.alloc (.cells RA 80)=W0 at *;obtain ⟨g0,hg0⟩:∃ g0,g0=w.heap.size:=⟨_,rfl⟩;rw [← hg0] at R0 ⊢;clear hg0;have r0:=R0.out;rw [HRA.out] at r0;clear R0 HRA;have hw:=HW.out;have c_kind:=b0R r0 hw;rcases b0g m.kind with ⟨hk,e⟩ | ⟨hk,e⟩ | ⟨hk,e⟩ | ⟨hk,e⟩ | ⟨hk,e⟩ | ⟨hk,e⟩ | ⟨hk,e⟩ | ⟨hk,e⟩ | ⟨hk,e⟩ <;> clear e
 ·as_aux_lemma =>
  have HF:Hid (a0L m=subB m.sub):=by show _=_;unfold a0L;rw [if_pos hk]
  rw [hk] at c_kind;have S0:=hid (f0I r0 hw);have Z0:(prog.info? 40).map (·.size)=some (subC m.sub).length:=by rw [a0h hw.sub];exact sizeSub
  have HX:=hid (fun W=>o0p m.sub hw.sub W);generalize subC m.sub=V at *;generalize subB m.sub=bb at *;clear r0 hk hw HRR
  go_wp2_with (first | ((with_reducible refine a0d 40 (.tmp 7) ?_ g0 2 ?_ ?_ V _ S0.out underlying40 ?_ Z0 ?_);iterate 4 exact rfl))
  refine (HX.out _).mono ?_;rintro e w1 ⟨rfl,hb⟩;have HB1:=hid (a0b HB0.out hb);clear hb;go_wp2;go_ret;exact ⟨(by rw [HF.out];try rfl),HB1.out⟩
 ·as_aux_lemma =>
  have HF:Hid (a0L m=repB m.rep):=by show _=_;unfold a0L;rw [if_neg (by omega:¬ m.kind=1),if_pos hk]
  rw [hk] at c_kind;have S0:=hid (e0V r0 hw);have Z0:(prog.info? 44).map (·.size)=some (repC m.rep (.slice pa m.rep.pend.length pc)).length:=by rw [a0j hw.rep];exact sizeRep
  have HX:=hid (HRR.out hk _ _ HP.out);generalize repC m.rep (.slice pa m.rep.pend.length pc)=V at *;generalize repB m.rep=bb at *;clear r0 hk hw HRR
  go_wp2_with (first | ((with_reducible refine a0d 44 (.tmp 12) ?_ g0 70 ?_ ?_ V _ S0.out underlying44 ?_ Z0 ?_);iterate 4 exact rfl))
  refine (HX.out).mono ?_;rintro e w1 ⟨rfl,hb⟩;have HB1:=hid (a0b HB0.out hb);clear hb;go_wp2;go_ret;exact ⟨(by rw [HF.out];try rfl),HB1.out⟩
 ·as_aux_lemma =>
  have HF:Hid (a0L m=e0D m.view):=by show _=_;unfold a0L;rw [if_neg (by omega:¬ m.kind=1),if_neg (by omega:¬ m.kind=2),if_pos hk]
  rw [hk] at c_kind;have c_view:=a0y r0 hw;have HX:=hid (fun W=>h0G m.view W);generalize e0D m.view=bb at *;clear r0 hk hw HRR
  go_wp2_with fail
  refine (HX.out _).mono ?_;rintro e w1 ⟨rfl,hb⟩;have HB1:=hid (a0b HB0.out hb);clear hb;go_wp2;go_ret;exact ⟨(by rw [HF.out];try rfl),HB1.out⟩
 ·have HF:Hid (a0L m=bloB m.blob):=by show _=_;unfold a0L;rw [if_neg (by omega:¬ m.kind=1),if_neg (by omega:¬ m.kind=2),if_neg (by omega:¬ m.kind=3),if_pos hk]
  rcases hk with hk | hk
  ·as_aux_lemma =>
   rw [hk] at c_kind;have S0:=hid (b0w r0 hw);have Z0:(prog.info? 78).map (·.size)=some (bloC m.blob).length:=by rw [a0S hw.blob];exact sizeBlo
   have HX:=hid (fun W=>i0R m.blob hw.blob W);generalize bloC m.blob=V at *;generalize bloB m.blob=bb at *;clear r0 hk hw HRR
   go_wp2_with (first | ((with_reducible refine a0d 78 (.tmp 23) ?_ g0 239 ?_ ?_ V _ S0.out underlying78 ?_ Z0 ?_);iterate 4 exact rfl))
   refine (HX.out _).mono ?_;rintro e w1 ⟨rfl,hb⟩;have HB1:=hid (a0b HB0.out hb);clear hb;go_wp2;go_ret;exact ⟨(by rw [HF.out];try rfl),HB1.out⟩
  ·as_aux_lemma =>
   rw [hk] at c_kind;have S0:=hid (b0w r0 hw);have Z0:(prog.info? 78).map (·.size)=some (bloC m.blob).length:=by rw [a0S hw.blob];exact sizeBlo
   have HX:=hid (fun W=>i0R m.blob hw.blob W);generalize bloC m.blob=V at *;generalize bloB m.blob=bb at *;clear r0 hk hw HRR
   go_wp2_with (first | ((with_reducible refine a0d 78 (.tmp 23) ?_ g0 239 ?_ ?_ V _ S0.out underlying78 ?_ Z0 ?_);iterate 4 exact rfl))
   refine (HX.out _).mono ?_;rintro e w1 ⟨rfl,hb⟩;have HB1:=hid (a0b HB0.out hb);clear hb;go_wp2;go_ret;exact ⟨(by rw [HF.out];try rfl),HB1.out⟩
 ·have HF:Hid (a0L m=d0y m.nums):=by show _=_;unfold a0L;rw [if_neg (by omega:¬ m.kind=1),if_neg (by omega:¬ m.kind=2),if_neg (by omega:¬ m.kind=3),if_neg (by omega:¬ (m.kind=4 ∨ m.kind=6)),if_pos hk]
  rcases hk with hk | hk | hk
  ·as_aux_lemma =>
   rw [hk] at c_kind;have c_nums:=b0v r0 hw;have HX:=hid (f0z HN.out hmx);generalize d0y m.nums=bb at *;clear r0 hk hw HRR
   go_wp2_with fail
   refine (HX.out).mono ?_;rintro e w1 ⟨rfl,hb⟩;have HB1:=hid (a0b HB0.out hb);clear hb;go_wp2;go_ret;exact ⟨(by rw [HF.out];try rfl),HB1.out⟩
  ·as_aux_lemma =>
   rw [hk] at c_kind;have c_nums:=b0v r0 hw;have HX:=hid (f0z HN.out hmx);generalize d0y m.nums=bb at *;clear r0 hk hw HRR
   go_wp2_with fail
   refine (HX.out).mono ?_;rintro e w1 ⟨rfl,hb⟩;have HB1:=hid (a0b HB0.out hb);clear hb;go_wp2;go_ret;exact ⟨(by rw [HF.out];try rfl),HB1.out⟩
  ·as_aux_lemma =>
   rw [hk] at c_kind;have c_nums:=b0v r0 hw;have HX:=hid (f0z HN.out hmx);generalize d0y m.nums=bb at *;clear r0 hk hw HRR
   go_wp2_with fail
   refine (HX.out).mono ?_;rintro e w1 ⟨rfl,hb⟩;have HB1:=hid (a0b HB0.out hb);clear hb;go_wp2;go_ret;exact ⟨(by rw [HF.out];try rfl),HB1.out⟩
 ·as_aux_lemma =>
  have HF:Hid (a0L m=true):=by show _=_;unfold a0L;rw [if_neg (by omega:¬ m.kind=1),if_neg (by omega:¬ m.kind=2),if_neg (by omega:¬ m.kind=3),if_neg (by omega:¬ (m.kind=4 ∨ m.kind=6)),if_neg (by omega:¬ (m.kind=5 ∨ m.kind=7 ∨ m.kind=8)),if_pos hk]
  rw [hk] at c_kind;clear r0 hk hw HRR;go_wp2;go_ret;exact ⟨(by rw [HF.out];try rfl),HB0.out⟩
 ·have HF:Hid (a0L m=(inB m.who 0 7 && e0D m.view)):=by show _=_;unfold a0L;rw [if_neg (by omega:¬ m.kind=1),if_neg (by omega:¬ m.kind=2),if_neg (by omega:¬ m.kind=3),if_neg (by omega:¬ (m.kind=4 ∨ m.kind=6)),if_neg (by omega:¬ (m.kind=5 ∨ m.kind=7 ∨ m.kind=8)),if_neg (by omega:¬ m.kind=9),if_pos hk]
  rw [hk] at c_kind;have c_who:=a0J r0 hw;have c_view:=a0y r0 hw;have HX:=hid (fun W=>h0G m.view W);have HY:=hid (fun W=>b0U m.who W);generalize e0D m.view=bb at *;generalize inB m.who 0 7=b1 at *;clear r0 hk hw HRR
  cases b1 with
  | false=>as_aux_lemma =>
   rw [Bool.false_and] at HF
   go_wp2_with fail
   refine (HY.out _).mono ?_;rintro e v ⟨rfl,hv⟩;subst v;go_wp2;go_ret;exact ⟨(by rw [HF.out];try rfl),HB0.out⟩
  | true=>as_aux_lemma =>
   rw [Bool.true_and] at HF
   go_wp2_with fail
   refine (HY.out _).mono ?_;rintro e v ⟨rfl,hv⟩;subst v
   go_wp2_with fail
   refine (HX.out _).mono ?_;rintro e w1 ⟨rfl,hb⟩;have HB1:=hid (a0b HB0.out hb);clear hb;go_wp2;go_ret;exact ⟨(by rw [HF.out];try rfl),HB1.out⟩
 ·as_aux_lemma =>
  have HF:Hid (a0L m=true):=by show _=_;unfold a0L;rw [if_neg (by omega:¬ m.kind=1),if_neg (by omega:¬ m.kind=2),if_neg (by omega:¬ m.kind=3),if_neg (by omega:¬ (m.kind=4 ∨ m.kind=6)),if_neg (by omega:¬ (m.kind=5 ∨ m.kind=7 ∨ m.kind=8)),if_neg (by omega:¬ m.kind=9),if_neg (by omega:¬ m.kind=10),if_pos hk]
  rw [hk] at c_kind;clear r0 hk hw HRR;go_wp2;go_ret;exact ⟨(by rw [HF.out];try rfl),HB0.out⟩
 ·as_aux_lemma =>
  have HF:Hid (a0L m=false):=by show _=_;unfold a0L;rw [if_neg (by omega:¬ m.kind=1),if_neg (by omega:¬ m.kind=2),if_neg (by omega:¬ m.kind=3),if_neg (by omega:¬ (m.kind=4 ∨ m.kind=6)),if_neg (by omega:¬ (m.kind=5 ∨ m.kind=7 ∨ m.kind=8)),if_neg (by omega:¬ m.kind=9),if_neg (by omega:¬ m.kind=10),if_neg (by omega:¬ m.kind=11)]
  have d1:(m.kind == 1)=false:=by simp;omega
  have d2:(m.kind == 2)=false:=by simp;omega
  have d3:(m.kind == 3)=false:=by simp;omega
  have d4:(m.kind == 4)=false:=by simp;omega
  have d5:(m.kind == 5)=false:=by simp;omega
  have d6:(m.kind == 6)=false:=by simp;omega
  have d7:(m.kind == 7)=false:=by simp;omega
  have d8:(m.kind == 8)=false:=by simp;omega
  have d9:(m.kind == 9)=false:=by simp;omega
  have d10:(m.kind == 10)=false:=by simp;omega
  have d11:(m.kind == 11)=false:=by simp;omega
  clear r0 hk hw HRR;generalize m.kind=kk at *;go_wp2;go_ret;exact ⟨(by rw [HF.out];try rfl),HB0.out⟩
end Go.Proofs.YtagmnmoaekbffaaGreatDoor.Ms
