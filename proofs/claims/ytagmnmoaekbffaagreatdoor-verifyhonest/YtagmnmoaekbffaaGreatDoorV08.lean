/- V08 -/
import Derived.Test.YtagmnmoaekbffaaGreatDoorV01
import Derived.Test.YtagmnmoaekbffaaGreatDoorU05
import Derived.Test.YtagmnmoaekbffaaGreatDoorV04
import Derived.Test.YtagmnmoaekbffaaGreatDoorTjre
import Derived.Test.YtagmnmoaekbffaaGreatDoorTyal
set_option maxHeartbeats 32000000
namespace Go.Proofs.YtagmnmoaekbffaaGreatDoor.Ms
open Go.Proofs.Tryz
open Go Go.RowKit
set_option maxRecDepth 100000
section
variable {w:World} {p n k:Nat} {s:List UInt8} {y:Rep} {v:Value}
theorem i0d (r:RgAt w p s n) (me:Int) (hy:y.Wf) (hps:∀ q ∈ y.pend,penOk q) (hp:a0g w v y.pend) (hl1:y.view.length <= 1000) (hl2:y.pend.length <= 1000) :
  Calls prog 57 #[pt p 0,nu me,.agg (repC y v).toArray] w fun e w'=>e = .returned (.tuple #[st (c0T s n me y.view y.pend).2,nu (c0T s n me y.view y.pend).1])/\Below w.heap.size w w':=by
 have T0:=a0f w (.cells (repC y v).toArray 44);have B0:=hid (a0c w (.cells (repC y v).toArray 44));have c2:=b0B T0 hy;have c4:=f0n T0 hy;have HP:=hid (hp.kept B0.out);have HR:=hid (r.kept B0.out);have HPK:=hid hps;obtain ⟨pa,pc,rfl,-⟩:=hp;clear T0 hy hps r;generalize repC y (.slice pa y.pend.length pc)=U at *;go_enter func57,ntmps57;go_upto_region 1 with fail
 generalize w.alloc (.cells U.toArray 44)=W0 at *;have hs0:=B0.out.size;generalize hX:w.heap.size=X at *;go_wp2
 go_step3
 go_wp2
 go_step3
 go_wp2;clear c2 c4;go_loopw [17,8,9] (fun i a b wr=>∃ (k:Nat) (dk:List UInt8),k <= y.pend.length/\i=nu k/\a=st dk/\b=nu 0/\dk.length=y.view.length + k/\Hid (c0T s n me y.view y.pend=c0T s n me dk (y.pend.drop k))/\Hid (Below W0.heap.size W0 wr)) (fun i _ _ _=>y.pend.length - (intOf i).toNat)
 case atStart=>exact ⟨0,y.view,by omega,rfl,rfl,rfl,by simp,by show _=_;rw [List.drop_zero],Below.refl _ _⟩
 case round =>
  obtain ⟨k,dk,hk,rfl,rfl,rfl,hdl,HF,HB⟩:=hrel;have hsr:W0.heap.size <= wr.heap.size:=HB.out.size;by_cases hlt:k < y.pend.length
  ·have d1:decide ((k:Int) < (y.pend.length:Int))=true:=decide_eq_true (by omega)
   have d1':decide (k < y.pend.length)=true:=decide_eq_true hlt;obtain ⟨a',c',e',hc⟩:=HP.out.kept HB.out
   cases e'
   obtain ⟨b,off,rfl,hcc⟩:=hc (fun e=>by rw [e] at hlt;exact absurd hlt (Nat.not_lt_zero k));have okp:=HPK.out _ (List.getElem_mem hlt);have S0:=hid (hcc k hlt);have ep:y.pend.getD k a0z=y.pend[k]:=by rw [List.getD_eq_getElem?_getD,List.getElem?_eq_getElem hlt];rfl
   rw [ep] at S0;have hdr:y.pend.drop k=y.pend[k] :: y.pend.drop (k + 1):=List.drop_eq_getElem_cons hlt;rw [hdr] at HF;clear hc hcc ep hdr;generalize y.pend[k]=x at *;have wp:x.Wf:=⟨okp.asked,okp.proof⟩;have Z0:(prog.info? 57).map (·.size)=some (penC x).length:=by rw [a0K wp];exact sizePen
   have hone:=hid (h0n x);have hz:=zeroPen;have hzl:(penC ⟨0,0,0,0,List.replicate 32 0,List.replicate 32 0⟩).length=(penC x).length:=by rw [a0K wp];rfl
   have t0:=hid (a0f wr (.cells (penC x).toArray 57));have b5:=a0c wr (.cells (penC x).toArray 57);have B5:Hid (Below W0.heap.size W0 (wr.alloc (.cells (penC x).toArray 57))):=hid (HB.out.trans (b5.mono hsr));have p1:=d0z t0.out wp;have KS:=hid (r0o (HR.out.kept B5.out) okp (d:=dk) (by omega));clear b5 wp;obtain ⟨ZP0,hZP⟩:∃ ZP0:List Value,ZP0=penC ⟨0,0,0,0,List.replicate 32 0,List.replicate 32 0⟩:=⟨_,rfl⟩;rw [← hZP] at hz hzl;clear hZP;generalize penC x=PC at *
   go_upto_region 5 with (first
    | ((with_reducible refine a0d 57 (.tmp 19) ?_ b (off + k * 68) ?_ ?_ PC _ S0.out underlying57 ?_ Z0 ?_);iterate 4 exact rfl)
    | ((with_reducible refine a0G 57 ?_ ?_ ZP0.toArray hz ?_);exact rfl;exact rfl)
    | ((with_reducible refine a0v 57 (.tmp 11) (.tmp 20) ?_ ?_ ?_ ?_ PC ZP0 ?_ 57 hzl hone.out Z0 ?_);exact rfl;iterate 4 exact rfl))
   generalize wr.alloc (.cells PC.toArray 57)=W5 at *;generalize wr.heap.size=gp at *;by_cases hme:x.client=me
   ·have HE:=hid (HF.out.trans (t0h hme))
    have hcm:(x.client == me)=true:=by simpa using hme
    clear HF;go_wp2
    try rw [Exit.noGoto_ret]
    go_ret2
    exact ⟨by rw [HE.out] <;> rfl,hX ▸ B0.out.trans (B5.out.mono hs0)⟩
   ·have hcm:(x.client == me)=false:=by simpa using hme
    go_wp2_with ((with_reducible refine a0d 57 (.tmp 11) ?_ gp 0 ?_ ?_ PC _ (a0k t0.out) underlying57 ?_ Z0 ?_);iterate 4 exact rfl)
    refine KS.out.mono ?_;rintro e W6 ⟨rfl,b6⟩;have B6:Hid (Below W0.heap.size W0 W6):=hid (B5.out.trans (b6.mono B5.out.size));clear b6 B5 KS t0 p1;by_cases hse:c0w s n dk x=0
    ·have HE:=hid (HF.out.trans (n0T hme hse))
     rw [hse,n0R hse];go_wp2;exact ⟨⟨k + 1,dk++[by8 x.client],by omega,by go_num,rfl,rfl,by simp;omega,HE.out,B6.out⟩,by simp [intOf];omega⟩
    ·have HE:=hid (HF.out.trans (r0w hme hse))
     rw [e0g hse];have hq:(c0w s n dk x != 0)=true:=bne_iff_ne.2 hse;generalize c0w s n dk x=SE at *;clear HF;go_wp2
     try rw [Exit.noGoto_ret]
     go_ret2
     exact ⟨by rw [HE.out] <;> rfl,hX ▸ B0.out.trans (B6.out.mono hs0)⟩
  ·have d1:decide ((k:Int) < (y.pend.length:Int))=false:=decide_eq_false (by omega)
   have d1':decide (k < y.pend.length)=false:=decide_eq_false hlt
   have HE:Hid (c0T s n me y.view y.pend=(0,dk)):=by
    show _=_;rw [HF.out,List.drop_eq_nil_of_le (by omega)];rfl
   clear HF;go_wp2
   try rw [Exit.noGoto_ret]
   go_ret2
   exact ⟨by rw [HE.out] <;> rfl,hX ▸ B0.out.trans (HB.out.mono hs0)⟩
theorem p0g {w:World} {p:Nat} {me c1 c2 E E1 P1:Int} {f:Value} {vw view DT T:List UInt8} {U:List Value} {g nb bg:Bool}
  (ZR:(prog.info? 44).map (·.size)=some U.length)
  (HC:Hid (∀ (W:World) (x:Nat),W.heap[x]? = some (.cells U.toArray 44)->W.cell? ⟨x,2,none⟩=some (st vw)))
  (H1:Hid (∀ W,Below w.heap.size w W->Calls prog 55 #[pt p 0,f,.agg U.toArray] W fun e w'=>e = .returned (nu E1)/\Below W.heap.size W w'))
  (H2:Hid (∀ W,Calls prog 56 #[st vw,st view] W fun e w'=>e = .returned (.bool g)/\w' = W))
  (H3:Hid (∀ W,Calls prog 51 #[st vw,nu me] W fun e w'=>e = .returned (nu c1)/\Below W.heap.size W w'))
  (H4:Hid (∀ W,Calls prog 51 #[st view,nu me] W fun e w'=>e = .returned (nu c2)/\Below W.heap.size W w'))
  (H5:Hid (∀ W,Below w.heap.size w W->Calls prog 57 #[pt p 0,nu me,.agg U.toArray] W fun e w'=>e = .returned (.tuple #[st DT,nu P1])/\Below W.heap.size W w'))
  (hnb:(c1 != c2)=nb) (hbg:decide ((512:Int) <= (DT.length:Int))=bg)
  (h1:Hid (E1 ≠ 0->T = []/\E=E1)) (h2:Hid (E1=0->(g && !nb)=false->T = []/\E=8)) (h3:Hid (E1=0->(g && !nb)=true->P1 ≠ 0->T = []/\E=P1))
  (h4:Hid (E1=0->(g && !nb)=true->P1=0->bg=true->T = []/\E=11)) (h5:Hid (E1=0->(g && !nb)=true->P1=0->bg=false->T=DT/\E=0)) :
  Calls prog 28 #[pt p 0,f,nu me,st view,.agg U.toArray] w fun e w'=>e = .returned (.tuple #[st T,nu E])/\Below w.heap.size w w':=by
 have T0:=hid (a0f w (.cells U.toArray 44));have B0:=hid (a0c w (.cells U.toArray 44));have hsz:(⟨DT.toArray⟩:ByteArray).size=DT.length:=rfl;go_enter func28,ntmps28;go_upto_region 1 with fail
 generalize w.alloc (.cells U.toArray 44)=W0 at *;have hs0:=B0.out.size;generalize hX:w.heap.size=X at *
 go_wp2_with ((with_reducible refine a0d 44 (.tmp 9) ?_ X 0 ?_ ?_ U _ (a0k T0.out) underlying44 ?_ ZR ?_);iterate 4 exact rfl)
 refine (H1.out _ B0.out).mono ?_;rintro e W1 ⟨rfl,b1⟩;have B1:Hid (Below X w W1):=hid (B0.out.trans (b1.mono hs0));have T1:=hid (a0a T0.out b1);clear b1 T0 B0;have hs1:X <= W1.heap.size:=hX ▸ B1.out.size;by_cases e1:E1=0
 case neg =>
  have hq:(E1 != 0)=true:=bne_iff_ne.2 e1;go_wp2
  go_ret2
  obtain ⟨hT,hE⟩:=h1.out e1;exact ⟨by rw [hT,hE] <;> rfl,hX ▸ B1.out⟩
 subst e1;have a2:=HC.out _ _ T1.out
 go_wp2_with fail
 refine (H2.out _).mono ?_;rintro e w1 ⟨rfl,hw1⟩;subst w1
 cases g
 case false =>
  go_wp2
  go_ret2
  obtain ⟨hT,hE⟩:=h2.out (by trivial) (by rfl);exact ⟨by rw [hT,hE] <;> rfl,hX ▸ B1.out⟩
 go_wp2_with fail
 refine (H3.out _).mono ?_;rintro e W2 ⟨rfl,b2⟩;have B2:Hid (Below X w W2):=hid (B1.out.trans (b2.mono hs1));have T2:=hid (a0a T1.out b2);clear a2 b2 T1 B1;have hs2:X <= W2.heap.size:=hX ▸ B2.out.size
 go_wp2_with fail
 refine (H4.out _).mono ?_;rintro e W3 ⟨rfl,b3⟩;have B3:Hid (Below X w W3):=hid (B2.out.trans (b3.mono hs2));have T3:=hid (a0a T2.out b3);clear b3 T2 B2;have hs3:X <= W3.heap.size:=hX ▸ B3.out.size
 cases nb
 case true =>
  go_wp2
  go_ret2
  obtain ⟨hT,hE⟩:=h2.out (by trivial) (by rfl);exact ⟨by rw [hT,hE] <;> rfl,hX ▸ B3.out⟩
 go_wp2_with ((with_reducible refine a0d 44 (.tmp 9) ?_ X 0 ?_ ?_ U _ (a0k T3.out) underlying44 ?_ ZR ?_);iterate 4 exact rfl)
 refine (H5.out _ (hX ▸ B3.out)).mono ?_;rintro e W4 ⟨rfl,b4⟩;have B4:Hid (Below X w W4):=hid (B3.out.trans (b4.mono hs3));clear b4 T3 B3;by_cases e2:P1=0
 case neg =>
  have hq:(P1 != 0)=true:=bne_iff_ne.2 e2;go_wp2
  go_ret2
  obtain ⟨hT,hE⟩:=h3.out (by trivial) (by rfl) e2;exact ⟨by rw [hT,hE] <;> rfl,hX ▸ B4.out⟩
 subst e2
 cases bg
 case true =>
  go_wp2
  go_ret2
  obtain ⟨hT,hE⟩:=h4.out (by trivial) (by rfl) (by trivial) (by trivial);exact ⟨by rw [hT,hE] <;> rfl,hX ▸ B4.out⟩
 go_wp2
 go_ret2
 obtain ⟨hT,hE⟩:=h5.out (by trivial) (by rfl) (by trivial) (by trivial);exact ⟨by rw [hT,hE] <;> rfl,hX ▸ B4.out⟩
theorem f0i {me:Int} {view:List UInt8} (h:c0n s n me view y ≠ 0):c0B s n me view y = []:=by unfold c0B;rw [if_neg h]
theorem r0F (j:JgAt w k p s n) (me:Int) {view:List UInt8} (hvl:view.length <= 140737488351232) (hy:y.Wf) (hps:∀ q ∈ y.pend,penOk q) (hp:a0g w v y.pend) (hl1:y.view.length <= 1000) (hl2:y.pend.length <= 1000) :
  Calls prog 28 #[pt p 0,judge k,nu me,st view,.agg (repC y v).toArray] w fun e w'=>e = .returned (.tuple #[st (c0B s n me view y),nu (c0n s n me view y)])/\Below w.heap.size w w':=by
 have hg:∀ b:Bool,(Hist.goesB y.view view && !((Hist.cnt y.view me:Int) != (Hist.cnt view me:Int)))=b->goB me view y=b:=by
  intro b h;rw [← h];unfold goB;rw [bne,Bool.not_not]
  congr 1
  rw [Bool.eq_iff_iff,decide_eq_true_eq,beq_iff_eq];omega
 refine p0g (vw:=y.view) (c1:=(Hist.cnt y.view me:Int)) (c2:=(Hist.cnt view me:Int)) (E1:=l0l s n y) (P1:=(c0T s n me y.view y.pend).1) (DT:=(c0T s n me y.view y.pend).2) (g:=Hist.goesB y.view view) (szRY hy v)
  (fun W x h=>b0B h hy) (fun W hb=>k0i (j.kept hb) hy (by omega)) (fun W=>Hist.goes_any y.view view W) (fun W=>Hist.count_any y.view (by omega) me W) (fun W=>Hist.count_any view (l0n hvl) me W)
  (fun W hb=>i0d (j.rg.kept hb) me hy hps (hp.kept hb) hl1 hl2) rfl rfl ?_ ?_ ?_ ?_ ?_
 ·intro h
  have e:c0n s n me view y=l0l s n y:=by unfold c0n;rw [if_pos h]
  exact ⟨f0i (by rw [e];exact h),e⟩
 ·intro h1 h2
  have e:c0n s n me view y=8:=by unfold c0n;rw [if_neg (by rw [h1];simp),if_pos (hg _ h2)]
  exact ⟨f0i (by rw [e];decide),e⟩
 ·intro h1 h2 h3
  have e:c0n s n me view y=(c0T s n me y.view y.pend).1:=by unfold c0n;rw [if_neg (by rw [h1];simp),if_neg (by rw [hg _ h2];simp),if_pos h3]
  exact ⟨f0i (by rw [e];exact h3),e⟩
 ·intro h1 h2 h3 h4
  have h5:512 <= (c0T s n me y.view y.pend).2.length:=by have:=of_decide_eq_true h4;omega
  have e:c0n s n me view y=11:=by unfold c0n;rw [if_neg (by rw [h1];simp),if_neg (by rw [hg _ h2];simp),if_neg (by rw [h3];simp),if_pos h5]
  exact ⟨f0i (by rw [e];decide),e⟩
 ·intro h1 h2 h3 h4
  have h5:¬ 512 <= (c0T s n me y.view y.pend).2.length:=by have:=of_decide_eq_false h4;omega
  have e:c0n s n me view y=0:=by unfold c0n;rw [if_neg (by rw [h1];simp),if_neg (by rw [hg _ h2];simp),if_neg (by rw [h3];simp),if_neg h5]
  exact ⟨by unfold c0B;rw [if_pos e],e⟩
end
open Go Go.RowKit
set_option maxRecDepth 100000
section
variable {w:World} {p n k:Nat} {s:List UInt8} {y:Rep} {v:Value} {d:List UInt8} {t:Int}
theorem i0e {w:World} {g:Nat} {vn cn E E2 E3:Int} {vl sn d DT:List UInt8} {DA U:List Value} {ne z q1 q2:Bool} (t:Int)
  (ZR:(prog.info? 44).map (·.size)=some U.length)
  (HC:Hid (∀ (W:World) (x:Nat),W.heap[x]? = some (.cells U.toArray 44)->W.cell? ⟨x,36,none⟩=some (nu vn)/\W.cell? ⟨x,37,none⟩=some (st vl)/\W.cell? ⟨x,70,none⟩=some (st sn)/\∀ j u,DA[j]? = some u->W.cell? ⟨x,38 + j,none⟩=some u))
  (ZD:(prog.info? 38).map (·.size)=some DA.length)
  (hne:(vn != cn)=ne) (hz:(vn == 0)=z) (hq1:vl.isEmpty=q1) (hq2:sn.isEmpty=q2)
  (H1:Hid (∀ W,Calls prog 51 #[st d,nu t] W fun e w'=>e = .returned (nu cn)/\Below W.heap.size W w'))
  (HF:Hid (∀ b W,Calls prog 59 #[.bool b] W fun e w'=>e = .returned (nu (bif b then 8 else 0))/\w' = W))
  (HD:Hid (∀ W,Below w.heap.size w W->Calls prog 60 #[nu vn,st vl] W fun e w'=>e = .returned (st DT)/\Below W.heap.size W w'))
  (HJ:Hid (∀ W,Below w.heap.size w W->Calls prog 53 #[nu t,nu 2,st DT,.agg DA.toArray,pt g 0] W fun e w'=>e = .returned (nu E2)/\Below W.heap.size W w'))
  (HS:Hid (∀ W,Below w.heap.size w W->Calls prog 61 #[.func (.func 53) #[] #[pt g 0],nu t,st d,.agg U.toArray] W fun e w'=>e = .returned (nu E3)/\Below W.heap.size W w'))
  (h1:Hid (ne=true->E=8)) (h2:Hid (ne=false->z=true->(q1 && q2)=true->E=0)) (h3:Hid (ne=false->z=true->(q1 && q2)=false->E=8)) (h4:Hid (ne=false->z=false->E2 ≠ 0->E=E2)) (h5:Hid (ne=false->z=false->E2=0->E=E3)) :
  Calls prog 31 #[judge g,nu t,st d,.agg U.toArray] w fun e w'=>e = .returned (nu E)/\Below w.heap.size w w':=by
 have T0:=hid (a0f w (.cells U.toArray 44));have B0:=hid (a0c w (.cells U.toArray 44));unfold judge;go_enter func31,ntmps31;go_upto_region 1 with fail
 generalize w.alloc (.cells U.toArray 44)=W0 at *;have hs0:=B0.out.size;generalize hX:w.heap.size=X at *;obtain ⟨a1,a2,a3,a4⟩:=HC.out _ _ T0.out;have hc1:∀ dd os,(Sort.grow (redrawn W0 dd) os).cell? ⟨X,36,none⟩=some (nu vn):=fun dd os=>cell_regrown a1 _ _;have R1:=regr (w:=W0) (fun W _=>H1.out W);clear a1 a2 a3 a4;refine wp_region_quiet_below (by kernel_rfl) (by kernel_rfl) ?_
 repeat (first | go_big_quiet_step (exact R1.out _ _) | quiet_step (exact R1.out _ _))
 refine wpQuiet_nil ?_;intro _ hw';obtain ⟨⟨dq,osq⟩,hw''⟩:=hw';subst hw'';have b2':=below_regrown W0 dq osq;have B2:Hid (Below X w (Sort.grow (redrawn W0 dq) osq)):=hid (B0.out.trans (b2'.mono hs0));have T2:=hid (a0a T0.out b2');clear hc1 R1 b2' B0 T0;generalize Sort.grow (redrawn W0 dq) osq=W2 at *;have hs2:X <= W2.heap.size:=hX ▸ B2.out.size
 cases ne
 case true =>
  go_wp2;go_ret;exact ⟨by rw [h1.out (by trivial)] <;> rfl,hX ▸ B2.out⟩
 obtain ⟨a1,a2,a3,a4⟩:=HC.out _ _ T2.out
 cases z
 case true =>
  clear a4
  cases q1
  case false =>
   go_wp2_with fail
   refine (HF.out _ _).mono ?_;rintro e w1 ⟨rfl,hw1⟩;subst w1;go_wp2;go_ret;exact ⟨by rw [h3.out (by trivial) (by trivial) (by rfl)] <;> rfl,hX ▸ B2.out⟩
  cases q2
  case false =>
   go_wp2_with fail
   refine (HF.out _ _).mono ?_;rintro e w1 ⟨rfl,hw1⟩;subst w1;go_wp2;go_ret;exact ⟨by rw [h3.out (by trivial) (by trivial) (by rfl)] <;> rfl,hX ▸ B2.out⟩
  go_wp2_with fail
  refine (HF.out _ _).mono ?_;rintro e w1 ⟨rfl,hw1⟩;subst w1;go_wp2;go_ret;exact ⟨by rw [h2.out (by trivial) (by trivial) (by rfl)] <;> rfl,hX ▸ B2.out⟩
 go_upto_region 5 with fail
 have hc1:∀ dd os,(Sort.grow (redrawn W2 dd) os).cell? ⟨X,36,none⟩=some (nu vn):=fun dd os=>cell_regrown a1 _ _;have hc2:∀ dd os,(Sort.grow (redrawn W2 dd) os).cell? ⟨X,37,none⟩=some (st vl):=fun dd os=>cell_regrown a2 _ _
 have HLd:Hid (∀ w',(∃ q:Regrown,w' = Sort.grow (redrawn W2 q.d) q.os)->∀ j u,DA[j]? = some u->w'.cell? ⟨X,38 + j,none⟩=some u):=by
  rintro w' ⟨q,rfl⟩ j u hj;exact cell_regrown (a4 j u hj) _ _
 have R1:=regr (w:=W2) (fun W hb=>HD.out W (hX ▸ B2.out.trans (hb.mono hs2)));have R2:=regr (w:=W2) (fun W hb=>HJ.out W (hX ▸ B2.out.trans (hb.mono hs2)));clear a1 a2 a3 a4;refine wp_region_quiet_below (by kernel_rfl) (by kernel_rfl) ?_
 iterate 8 (first | go_big_quiet_step (exact R1.out _ _) | quiet_step (exact R1.out _ _))
 refine c0H 38 (.tmp 35) rfl X 38 rfl rfl DA _ HLd.out underlying38 rfl ZD ?_
 repeat (first | go_big_quiet_step (exact R2.out _ _) | quiet_step (exact R2.out _ _))
 refine wpQuiet_nil ?_;intro _ hw';obtain ⟨⟨dq2,osq2⟩,hw''⟩:=hw';subst hw'';have b3':=below_regrown W2 dq2 osq2;have B3:Hid (Below X w (Sort.grow (redrawn W2 dq2) osq2)):=hid (B2.out.trans (b3'.mono hs2));have T3:=hid (a0a T2.out b3');clear hc1 hc2 HLd R1 R2 b3' B2 T2;generalize Sort.grow (redrawn W2 dq2) osq2=W3 at *;have hs3:X <= W3.heap.size:=hX ▸ B3.out.size;by_cases e2:E2=0
 case neg =>
  have hq:(E2 != 0)=true:=bne_iff_ne.2 e2;go_wp2;go_ret;exact ⟨by rw [h4.out (by trivial) (by trivial) e2] <;> rfl,hX ▸ B3.out⟩
 subst e2
 go_wp2_with ((with_reducible refine a0d 44 (.tmp 7) ?_ X 0 ?_ ?_ U _ (a0k T3.out) underlying44 ?_ ZR ?_);iterate 4 exact rfl)
 refine (HS.out _ (hX ▸ B3.out)).mono ?_;rintro e W4 ⟨rfl,b4⟩;have B4:Hid (Below X w W4):=hid (B3.out.trans (b4.mono hs3));clear b4;go_wp2;go_ret;exact ⟨by rw [h5.out (by trivial) (by trivial) (by trivial)] <;> rfl,hX ▸ B4.out⟩
theorem i0u (j:JgAt w k p s n) (hy:y.Wf) (hn:I64 y.vnum) (hn2:I64 (y.vnum - 1)) (hl:y.seen.length <= 140737488351232) (hdl:d.length <= 140737488351232) :
  Calls prog 31 #[judge k,nu t,st d,.agg (repC y v).toArray] w fun e w'=>e = .returned (nu (valE s n t d y))/\Below w.heap.size w w':=by
 have hqq:∀ b:Bool,(y.value.isEmpty && y.seen.isEmpty)=b->decide (y.value = []/\y.seen = [])=b:=by
  intro b h;rw [← h,Bool.eq_iff_iff];simp
 refine i0e (vn:=y.vnum) (cn:=(Hist.cnt d t:Int)) (vl:=y.value) (sn:=y.seen) (DT:=numB y.vnum++layT y.value) (DA:=dg y.data) (E2:=jdg s n t 2 (numB y.vnum++layT y.value) y.data) (E3:=q0K s n t d y) (q1:=y.value.isEmpty) (q2:=y.seen.isEmpty) t (szRY hy v)
  (fun W x h=>⟨a0Q h hy,a0Y h hy,b0x h hy,b0S h hy⟩) (l0E hy.data) rfl rfl rfl rfl
  (fun W=>Hist.count_any d (l0n hdl) t W) (fun b W=>j0j b W) (fun W hb=>s0r y.vnum hn y.value W (j.rg.kept hb).tb) (fun W hb=>e0N (j.kept hb) t 2 _ y.data hy.data) (fun W hb=>k0j (j.kept hb) hy hn2 hl) ?_ ?_ ?_ ?_ ?_
 ·intro h;unfold valE;rw [if_pos (by simpa using h)]
 ·intro h h2 h3
  have h4:=of_decide_eq_true (hqq _ h3);unfold valE;rw [if_neg (by simpa using h),if_pos (by simpa using h2),if_pos h4]
 ·intro h h2 h3
  have h4:=of_decide_eq_false (hqq _ h3);unfold valE;rw [if_neg (by simpa using h),if_pos (by simpa using h2),if_neg h4]
 ·intro h h2 h3;unfold valE;rw [if_neg (by simpa using h),if_neg (by simpa using h2),if_pos h3]
 ·intro h h2 h3;unfold valE;rw [if_neg (by simpa using h),if_neg (by simpa using h2),if_neg (by rw [h3];simp)]
end
open Go Go.RowKit
set_option maxRecDepth 100000
theorem p0h {w:World} {p:Nat} {me kd tg E E1 E4:Int} {view DT D2:List UInt8} {V U G G2 R Z:List Value} {bA bN:Bool} {J:Nat->World->Prop}
  (ZS:(prog.info? 40).map (·.size)=some V.length) (ZR:(prog.info? 44).map (·.size)=some U.length) (ZG:(prog.info? 49).map (·.zero)=some (some (.agg Z.toArray)))
  (ZZ:Hid ((prog.info? 49).map (·.size)=some Z.length)) (OZ:Hid (∀ v ∈ Z,v.oneCell' = true)) (LZ:Z.length=70) (LG:G.length=70) (OG:Hid (∀ v ∈ G,v.oneCell' = true)) (ZGG:Hid ((prog.info? 49).map (·.size)=some G.length)) (LG2:G2.length=70) (OG2:Hid (∀ v ∈ G2,v.oneCell' = true)) (ZGG2:Hid ((prog.info? 49).map (·.size)=some G2.length))
  (HB:Hid (∀ W,(Instr.build 49 #[]).run prog W = .ok (.agg Z.toArray) W))
  (HCk:Hid (∀ (W:World) (x:Nat),W.heap[x]? = some (.cells V.toArray 40)->W.cell? ⟨x,1,none⟩=some (nu kd)/\W.cell? ⟨x,2,none⟩=some (nu tg)))
  (HA:Hid (∀ W,Below w.heap.size w W->Calls prog 25 #[pt p 0,nu me,st view,.agg V.toArray] W fun e w'=>e = .returned (.bool bA)/\Below W.heap.size W w'))
  (HN:Hid (∀ W,Below w.heap.size w W->Calls prog 26 #[.agg V.toArray,.agg U.toArray] W fun e w'=>e = .returned (.bool bN)/\Below W.heap.size W w'))
  (HJ:Hid (∀ W,Below w.heap.size w W->Calls prog 27 #[pt p 0] W fun e w'=>e = .returned (judge W.heap.size)/\J W.heap.size w'/\Below W.heap.size W w')) (kJ:∀ k W W',J k W->Below W.heap.size W W'->J k W')
  (HX:Hid ((bA && bN)=true->(∀ W k,Below w.heap.size w W->J k W->Calls prog 28 #[pt p 0,judge k,nu me,st view,.agg U.toArray] W fun e w'=>e = .returned (.tuple #[st DT,nu E1])/\Below W.heap.size W w')
   /\ (∀ W,Calls prog 30 #[st DT,nu me] W fun e w'=>e = .returned (st D2)/\Below W.heap.size W w')
   /\ (∀ W,Calls prog 29 #[st D2,.agg U.toArray] W fun e w'=>e = .returned (.agg G.toArray)/\Below W.heap.size W w')
   /\ (∀ W k,J k W->Calls prog 31 #[judge k,nu tg,st DT,.agg U.toArray] W fun e w'=>e = .returned (nu E4)/\Below W.heap.size W w')
   /\ (∀ W,Calls prog 32 #[.agg G.toArray,.agg U.toArray] W fun e w'=>e = .returned (.agg G2.toArray)/\Below W.heap.size W w')))
  (h1:Hid ((bA && bN)=false->R=Z/\E=2)) (h2:Hid ((bA && bN)=true->E1 ≠ 0->R=Z/\E=E1)) (h3:Hid ((bA && bN)=true->E1=0->kd ≠ 2->R=G/\E=0))
  (h4:Hid ((bA && bN)=true->E1=0->kd=2->E4 ≠ 0->R=Z/\E=E4)) (h5:Hid ((bA && bN)=true->E1=0->kd=2->E4=0->R=G2/\E=0)) :
  Calls prog 11 #[pt p 0,nu me,st view,.agg V.toArray,.agg U.toArray] w fun e w'=>e = .returned (.tuple #[.agg R.toArray,nu E])/\Below w.heap.size w w':=by
 have e1:(w.alloc (.cells V.toArray 40)).heap.size=w.heap.size + 1:=by simp
 have e2:((w.alloc (.cells V.toArray 40)).alloc (.cells U.toArray 44)).heap.size=w.heap.size + 2:=by simp
 have T0:=a0f w (.cells V.toArray 40);have b0:=a0c w (.cells V.toArray 40);have T1:=a0f (w.alloc (.cells V.toArray 40)) (.cells U.toArray 44);have b1:=a0c (w.alloc (.cells V.toArray 40)) (.cells U.toArray 44);have T2:=a0f ((w.alloc (.cells V.toArray 40)).alloc (.cells U.toArray 44)) (.cells Z.toArray 49);have b2:=a0c ((w.alloc (.cells V.toArray 40)).alloc (.cells U.toArray 44)) (.cells Z.toArray 49);rw [e1] at T1;rw [e2] at T2;have S0:=hid (a0a (a0a T0 b1) b2);have R0:=hid (a0a T1 b2);have G0:=hid T2;have B0:=hid (a0b (a0b b0 b1) b2);clear T0 T1 T2 b0 b1 b2;go_enter func11,ntmps11;go_upto_region 1 with ((with_reducible refine a0G 49 ?_ ?_ Z.toArray ZG ?_);exact rfl;exact rfl)
 try simp only [Act.put,List.setIfInBounds_toArray,List.set_cons_zero,List.set_cons_succ,e1,e2]
 generalize ((w.alloc (.cells V.toArray 40)).alloc (.cells U.toArray 44)).alloc (.cells Z.toArray 49)=W0 at *;clear e1 e2;have hB0:w.heap.size <= W0.heap.size:=B0.out.size;have hY2:w.heap.size <= w.heap.size + 2:=Nat.le_add_right _ _;generalize hgX:w.heap.size=X at *;generalize X + 1=Y at *;generalize X + 2=Y2 at *
 go_wp2_with ((with_reducible refine a0d 40 (.tmp 8) ?_ X 0 ?_ ?_ V _ (a0k S0.out) underlying40 ?_ ZS ?_);iterate 4 exact rfl)
 refine (HA.out _ B0.out).mono ?_;rintro e W1 ⟨rfl,b1⟩;have B1:=hid (B0.out.trans (b1.mono hB0));have S1:=hid (a0a S0.out b1);have R1:=hid (a0a R0.out b1);have G1:=hid (a0a G0.out b1);clear b1 S0 R0 G0 B0;have hB1:X <= W1.heap.size:=hgX ▸ B1.out.size
 cases bA
 case false =>
  go_wp2_with (first
   | ((with_reducible refine c0c 49 ?_ ?_ Z.toArray (HB.out _) ?_);exact rfl;exact rfl)
   | ((with_reducible refine b0b 49 (.tmp 10) (.tmp 32) ?_ ?_ Y2 0 ?_ ?_ [] Z Z [] ?_ 49 (c0O G1.out) rfl rfl OZ.out ZZ.out ?_);exact rfl;exact rfl;exact rfl;exact rfl;exact rfl;intro W6 hr6 hbut))
  have hr7:W6.heap[Y2]? = some (.cells Z.toArray 49):=by simpa using hr6
  obtain ⟨hR,hE⟩:=h1.out (by rfl);refine bodyPost_ret_by (b0l (fn:=Tryz.f11) (p:=10) (u:=11) (ty:=49) (by kernel_rfl) _ _ Y2 49 Z.toArray (0,0) _ rfl hr7 underlying49 rfl (by rw [List.size_toArray];exact ZZ.out)) rfl ?_;exact ⟨by rw [hR,hE] <;> rfl,hgX ▸ hbut.below B1.out hY2⟩
 go_wp2_with (first
  | ((with_reducible refine a0d 40 (.tmp 8) ?_ X 0 ?_ ?_ V _ (a0k S1.out) underlying40 ?_ ZS ?_);iterate 4 exact rfl)
  | ((with_reducible refine a0d 44 (.tmp 9) ?_ Y 0 ?_ ?_ U _ (a0k R1.out) underlying44 ?_ ZR ?_);iterate 4 exact rfl))
 refine (HN.out _ B1.out).mono ?_;rintro e W2 ⟨rfl,b2⟩;have B2:=hid (B1.out.trans (b2.mono hB1));have S2:=hid (a0a S1.out b2);have R2:=hid (a0a R1.out b2);have G2':=hid (a0a G1.out b2);clear b2 S1 R1 G1 B1;have hB2:X <= W2.heap.size:=hgX ▸ B2.out.size
 cases bN
 case false =>
  go_wp2_with (first
   | ((with_reducible refine c0c 49 ?_ ?_ Z.toArray (HB.out _) ?_);exact rfl;exact rfl)
   | ((with_reducible refine b0b 49 (.tmp 10) (.tmp 32) ?_ ?_ Y2 0 ?_ ?_ [] Z Z [] ?_ 49 (c0O G2'.out) rfl rfl OZ.out ZZ.out ?_);exact rfl;exact rfl;exact rfl;exact rfl;exact rfl;intro W6 hr6 hbut))
  have hr7:W6.heap[Y2]? = some (.cells Z.toArray 49):=by simpa using hr6
  obtain ⟨hR,hE⟩:=h1.out (by rfl);refine bodyPost_ret_by (b0l (fn:=Tryz.f11) (p:=10) (u:=11) (ty:=49) (by kernel_rfl) _ _ Y2 49 Z.toArray (0,0) _ rfl hr7 underlying49 rfl (by rw [List.size_toArray];exact ZZ.out)) rfl ?_;exact ⟨by rw [hR,hE] <;> rfl,hgX ▸ hbut.below B2.out hY2⟩
 obtain ⟨HH,HBe,HLe,HWv,HVv⟩:=HX.out (by rfl);have HH:=hid HH;have HBe:=hid HBe;have HLe:=hid HLe;have HWv:=hid HWv;have HVv:=hid HVv
 go_wp2_with fail
 refine (HJ.out _ B2.out).mono ?_;rintro e W3 ⟨rfl,j3,b3⟩;have B3:=hid (B2.out.trans (b3.mono hB2));have S3:=hid (a0a S2.out b3);have R3:=hid (a0a R2.out b3);have G3:=hid (a0a G2'.out b3);clear b3 S2 R2 G2' B2;have hB3:X <= W3.heap.size:=hgX ▸ B3.out.size;generalize W2.heap.size=kk at *;have HH3:=hid (fun W b j=>HH.out W kk b j);have HWv3:=hid (fun W j=>HWv.out W kk j);clear HH HWv HX HJ HA HN;generalize hjk:judge kk=JK at *
 go_wp2_with ((with_reducible refine a0d 44 (.tmp 9) ?_ Y 0 ?_ ?_ U _ (a0k R3.out) underlying44 ?_ ZR ?_);iterate 4 exact rfl)
 refine (HH3.out _ (hgX ▸ B3.out) j3).mono ?_;rintro e W4 ⟨rfl,b4⟩;have B4:Hid (Below X w W4):=hid (B3.out.trans (b4.mono hB3));have S4:=hid (a0a S3.out b4);have T5:=hid (a0a R3.out b4);have G4:=hid (a0a G3.out b4);have j4:=kJ _ _ _ j3 b4;clear b4 S3 R3 G3 B3 HH3 j3;have hB4:X <= W4.heap.size:=hgX ▸ B4.out.size;by_cases n1:E1=0
 case neg =>
  have hq:(E1 != 0)=true:=bne_iff_ne.2 n1
  go_wp2_with (first
   | ((with_reducible refine c0c 49 ?_ ?_ Z.toArray (HB.out _) ?_);exact rfl;exact rfl)
   | ((with_reducible refine b0b 49 (.tmp 10) (.tmp 46) ?_ ?_ Y2 0 ?_ ?_ [] Z Z [] ?_ 49 (c0O G4.out) rfl rfl OZ.out ZZ.out ?_);exact rfl;exact rfl;exact rfl;exact rfl;exact rfl;intro W6 hr6 hbut))
  have hr7:W6.heap[Y2]? = some (.cells Z.toArray 49):=by simpa using hr6
  obtain ⟨hR,hE⟩:=h2.out (by rfl) n1;refine bodyPost_ret_by (b0l (fn:=Tryz.f11) (p:=10) (u:=11) (ty:=49) (by kernel_rfl) _ _ Y2 49 Z.toArray (0,0) _ rfl hr7 underlying49 rfl (by rw [List.size_toArray];exact ZZ.out)) rfl ?_;exact ⟨by rw [hR,hE] <;> rfl,hgX ▸ hbut.below B4.out hY2⟩
 subst n1;go_upto_region 9 with fail
 refine b0X (N:=70) 5 6 15 49 70 G W4.heap.size [(st DT),(nu me),(st D2),(.agg (U).toArray),(.agg G.toArray),undef,undef] (fun _ w=>Below W4.heap.size W4 w) (fun g=>[(48,(st DT)),(49,(nu me)),(50,(st D2)),(51,(.agg (U).toArray)),(52,(.agg G.toArray)),(15,(pt g 0))]) (by kernel_rfl) (by kernel_rfl) rfl (by kernel_rfl) (by decide) (by simp) (fun g=>by kernel_rfl) (fun _ h=>h) ?_ ?_
 ·intro i o ho
  match i,ho with
  | 0,ho=>cases ho;exact oweN (st DT) (by decide) (by decide) rfl (fun L a w hLi hJ hw hnot hk hv K h=>a0q 13 _ rfl (hk 13 (by kernel_rfl)) (h _ hJ (fun _ _ _ e=>e)))
  | 1,ho=>cases ho;exact oweN (nu me) (by decide) (by decide) rfl (fun L a w hLi hJ hw hnot hk hv K h=>a0q 1 _ rfl (hk 1 (by kernel_rfl)) (h _ hJ (fun _ _ _ e=>e)))
  | 2,ho=>cases ho;exact oweN (st D2) (by decide) (by decide) rfl (fun L a w hLi hJ hw hnot hk hv K h=>c0J 30 [.tmp 48,.tmp 49] _ #[(st DT),(nu me)] (st D2) rfl (fun _ _=>by kernel_rfl) (s0T (hv 0 48 (by kernel_rfl) (by decide) (by kernel_rfl)) (hv 1 49 (by kernel_rfl) (by decide) (by kernel_rfl))) (J:=fun w1=>Below w.heap.size w w1) (HBe.out w) (fun w1 e1=>h _ (hJ.trans (e1.mono hJ.size)) (fun _ _ _ e=>a0a e e1)))
  | 3,ho=>cases ho;exact oweN (.agg (U).toArray) (by decide) (by decide) rfl (fun L a w hLi hJ hw hnot hk hv K h=>c0u _ (.tmp 9) rfl Y 0 (hk 9 (by kernel_rfl)) (U) _ (a0k (a0a T5.out hJ)) underlying44 rfl ZR (h _ hJ (fun _ _ _ e=>e)))
  | 4,ho=>cases ho;exact oweN (.agg G.toArray) (by decide) (by decide) rfl (fun L a w hLi hJ hw hnot hk hv K h=>c0J 29 [.tmp 50,.tmp 51] _ #[(st D2),(.agg (U).toArray)] (.agg G.toArray) rfl (fun _ _=>by kernel_rfl) (s0T (hv 2 50 (by kernel_rfl) (by decide) (by kernel_rfl)) (hv 3 51 (by kernel_rfl) (by decide) (by kernel_rfl))) (J:=fun w1=>Below w.heap.size w w1) (HLe.out w) (fun w1 e1=>h _ (hJ.trans (e1.mono hJ.size)) (fun _ _ _ e=>a0a e e1)))
  | 5,ho=>cases ho;exact d0a rfl Z ZG LZ _ rfl (by kernel_rfl) (by decide) (fun _ _ h=>h.size) (fun _ w o h=>h.trans ((a0c w o).mono h.size))
  | 6,ho=>cases ho;exact d0b 15 52 rfl rfl (by kernel_rfl) 4 (by kernel_rfl) (by decide) (by kernel_rfl) (by kernel_rfl) rfl LG OG.out ZGG.out (fun _ w w2 g _ h hg _ hb=>hb.below h hg)
  | (i + 7),ho=>exact absurd ho (by simp)
 intro gN LL W5 hgN hrN _ hJ;simp only [List.foldl_cons,List.foldl_nil,List.setIfInBounds_toArray,List.set_cons_zero,List.set_cons_succ];have B5:Hid (Below X w W5):=hid (B4.out.trans (hJ.mono hB4));have S5:=hid (a0a S4.out hJ);have R5:=hid (a0a T5.out hJ);have j5:=kJ _ _ _ j4 hJ;have G5:=hid (a0a G4.out hJ);have N5:=hid hrN;clear hJ hrN S4 G4 B4 T5 j4;have hB5:X <= W5.heap.size:=hgX ▸ B5.out.size;obtain ⟨c1,c2⟩:=HCk.out _ _ S5.out;by_cases n2:kd=2
 case neg =>
  have hq:(kd != 2)=true:=bne_iff_ne.2 n2
  go_wp2_with (first
   | ((with_reducible refine a0d 49 (.tmp 15) ?_ gN 0 ?_ ?_ G _ (a0k N5.out) underlying49 ?_ ZGG.out ?_);iterate 4 exact rfl)
   | ((with_reducible refine b0b 49 (.tmp 10) (.tmp 56) ?_ ?_ Y2 0 ?_ ?_ [] G Z [] ?_ 49 (c0O G5.out) rfl (LZ.trans LG.symm) OG.out ZGG.out ?_);exact rfl;exact rfl;exact rfl;exact rfl;exact rfl;intro W6 hr6 hbut))
  have hr7:W6.heap[Y2]? = some (.cells G.toArray 49):=by simpa using hr6
  obtain ⟨hR,hE⟩:=h3.out (by rfl) (by trivial) n2;refine bodyPost_ret_by (b0l (fn:=Tryz.f11) (p:=10) (u:=11) (ty:=49) (by kernel_rfl) _ _ Y2 49 G.toArray (0,0) _ rfl hr7 underlying49 rfl (by rw [List.size_toArray];exact ZGG.out)) rfl ?_;exact ⟨by rw [hR,hE] <;> rfl,hgX ▸ hbut.below B5.out hY2⟩
 subst n2
 go_wp2_with ((with_reducible refine a0d 44 (.tmp 9) ?_ Y 0 ?_ ?_ U _ (a0k R5.out) underlying44 ?_ ZR ?_);iterate 4 exact rfl)
 refine (HWv3.out _ j5).mono ?_;rintro e W7 ⟨rfl,b7⟩;have B7:Hid (Below X w W7):=hid (B5.out.trans (b7.mono hB5));have R7:=hid (a0a R5.out b7);have G7:=hid (a0a G5.out b7);have N7:=hid (a0a N5.out b7);clear b7 c1 c2 S5 R5 G5 N5 B5 j5 HWv3;have hB7:X <= W7.heap.size:=hgX ▸ B7.out.size;by_cases n3:E4=0
 case neg =>
  have hq:(E4 != 0)=true:=bne_iff_ne.2 n3
  go_wp2_with (first
   | ((with_reducible refine c0c 49 ?_ ?_ Z.toArray (HB.out _) ?_);exact rfl;exact rfl)
   | ((with_reducible refine b0b 49 (.tmp 10) (.tmp 65) ?_ ?_ Y2 0 ?_ ?_ [] Z Z [] ?_ 49 (c0O G7.out) rfl rfl OZ.out ZZ.out ?_);exact rfl;exact rfl;exact rfl;exact rfl;exact rfl;intro W6 hr6 hbut))
  have hr7:W6.heap[Y2]? = some (.cells Z.toArray 49):=by simpa using hr6
  obtain ⟨hR,hE⟩:=h4.out (by rfl) (by trivial) (by trivial) n3;refine bodyPost_ret_by (b0l (fn:=Tryz.f11) (p:=10) (u:=11) (ty:=49) (by kernel_rfl) _ _ Y2 49 Z.toArray (0,0) _ rfl hr7 underlying49 rfl (by rw [List.size_toArray];exact ZZ.out)) rfl ?_;exact ⟨by rw [hR,hE] <;> rfl,hgX ▸ hbut.below B7.out hY2⟩
 subst n3
 go_wp2_with (first
  | ((with_reducible refine a0d 49 (.tmp 15) ?_ gN 0 ?_ ?_ G _ (a0k N7.out) underlying49 ?_ ZGG.out ?_);iterate 4 exact rfl)
  | ((with_reducible refine a0d 44 (.tmp 9) ?_ Y 0 ?_ ?_ U _ (a0k R7.out) underlying44 ?_ ZR ?_);iterate 4 exact rfl))
 refine (HVv.out _).mono ?_;rintro e W8 ⟨rfl,b8⟩;have B8:Hid (Below X w W8):=hid (B7.out.trans (b8.mono hB7));have G8:=hid (a0a G7.out b8);clear b8 R7 G7 N7 B7
 go_wp2_with ((with_reducible refine b0b 49 (.tmp 10) (.tmp 69) ?_ ?_ Y2 0 ?_ ?_ [] G2 Z [] ?_ 49 (c0O G8.out) rfl (LZ.trans LG2.symm) OG2.out ZGG2.out ?_);exact rfl;exact rfl;exact rfl;exact rfl;exact rfl;intro W6 hr6 hbut)
 have hr7:W6.heap[Y2]? = some (.cells G2.toArray 49):=by simpa using hr6
 obtain ⟨hR,hE⟩:=h5.out (by rfl) (by trivial) (by trivial) (by trivial);refine bodyPost_ret_by (b0l (fn:=Tryz.f11) (p:=10) (u:=11) (ty:=49) (by kernel_rfl) _ _ Y2 49 G2.toArray (0,0) _ rfl hr7 underlying49 rfl (by rw [List.size_toArray];exact ZGG2.out)) rfl ?_;exact ⟨by rw [hR,hE] <;> rfl,hgX ▸ hbut.below B8.out hY2⟩
section
variable {w:World} {p n:Nat} {s:List UInt8} {y:Rep} {v:Value}
theorem r0G {x:Sub} (h:f0T x y=true):repB y=true:=by
 unfold f0T at h;rw [Bool.and_eq_true,r0x] at h;exact h.1
theorem r0H (h:repB y=true):y.view.length <= 512/\y.pend.length <= 8/\y.value.length <= 256/\y.seen.length <= 512/\(0 <= y.vnum/\y.vnum <= 512):=by
 rw [m0N] at h;simp only [Bool.and_eq_true,decide_eq_true_eq,Bool.or_eq_true,beq_iff_eq,b0h] at h;obtain ⟨-,-,h1,-,h2,-,h3,h4,h5⟩:=h;have:=d0W _ _ h1;have:=d0W _ _ h5;omega
theorem k0s {me:Int} {view:List UInt8} {x:Sub} (h:chkE s n me view x y ≠ 0):chkG s n me view x y=f0l:=by unfold chkG;rw [if_pos h]
theorem n0X {me:Int}:∀ (ps:List Pen) (d:List UInt8),(c0T s n me d ps).2.length <= d.length + ps.length
 | [],d=>by simp [c0T]
 | p :: ps,d=>by
  have ih:=n0X (me:=me) ps (d++[by8 p.client]);unfold c0T
  split
  ·simp
  ·split
   ·simp
   ·simp at ih ⊢
    omega
theorem r0I {me:Int} {view:List UInt8}:(c0B s n me view y).length <= y.view.length + y.pend.length:=by
 unfold c0B
 split
 ·exact n0X _ _
 ·simp
theorem i0f {me:Int} (r:RgAt w p s n) {x:Sub} (hx:x.Wf) (hr:(subM me x).Rng) (hy:y.Wf) (hry:RepRng y) (hp:a0g w v y.pend) (hpl:y.pend.length <= 9223372036854775807) {view:List UInt8} (hvl:view.length <= 140737488351232) :
  Calls prog 11 #[pt p 0,nu me,st view,.agg (subC x).toArray,.agg (repC y v).toArray] w fun e w'=>e = .returned (.tuple #[.agg (gotC (chkG s n me view x y)).toArray,nu (chkE s n me view x y)])/\Below w.heap.size w w':=by
 have LW:=f0U (v:=c0B s n me view y++[by8 me]) hy;have LV:=h0O hy LW
 refine p0h (J:=fun k W=>JgAt W k p s n) (kd:=x.kind) (tg:=x.target) (E1:=c0n s n me view y) (E4:=valE s n x.target (c0B s n me view y) y) (DT:=c0B s n me view y) (D2:=c0B s n me view y++[by8 me]) (G:=gotC (c0U (c0B s n me view y++[by8 me]) y)) (G2:=gotC (j0e (c0U (c0B s n me view y++[by8 me]) y) y)) (Z:=gotC f0l) (bA:=i0o n me view x) (bN:=f0T x y)
  (szSY hx) (szRY hy v) zeroGot (szGY zeroT_wf) (e0q _) (b0M zeroT_wf) (b0M LW) (e0q _) (szGY LW) (b0M LV) (e0q _) (szGY LV) (fun W=>o0S W)
  (fun W x' h=>⟨d0B h hx,a0O h hx⟩) (fun W h=>o0N (r.kept h) hvl hx hr) (fun W h=>j0Z (r.kept h).tb hx hy hry (hp.kept h) hpl) (fun W h=>h0Q (r.kept h)) (fun k W W' h b=>h.kept b) ?_ ?_ ?_ ?_ ?_ ?_
 ·intro h
  rw [Bool.and_eq_true] at h;obtain ⟨p1,p2,p3,p4,p5,p6⟩:=r0H (r0G h.2)
  have hme:0 <= me/\me < 256:=by
   have:=l0B (show vsub n me x=true by have:=h.1;unfold i0o at this;rw [Bool.and_eq_true] at this;exact this.1);have:=r0m this;have:=r.n8;omega
  have hal:=r0I (s:=s) (n:=n) (me:=me) (view:=view) (y:=y)
  exact ⟨fun W k hb j=>r0F j me hvl hy hry.ps (hp.kept hb) (by omega) (by omega),fun W=>j0f _ (by omega) me hme W,fun W=>m0T _ hy (by omega),
   fun W k j=>i0u j hy ⟨by omega,by omega⟩ ⟨by omega,by omega⟩ (by omega) (by omega),fun W=>k0k _ LW hy (by omega) (by omega)⟩
 ·intro h
  have e:chkE s n me view x y=2:=by unfold chkE;rw [if_pos h]
  exact ⟨by rw [k0s (by rw [e];decide)],e⟩
 ·intro h h2
  have e:chkE s n me view x y=c0n s n me view y:=by unfold chkE;rw [if_neg (by rw [h];decide),if_pos h2]
  exact ⟨by rw [k0s (by rw [e];exact h2)],e⟩
 ·intro h h2 h3
  have e:chkE s n me view x y=0:=by unfold chkE;rw [if_neg (by rw [h];decide),if_neg (by rw [h2];simp),if_pos h3]
  exact ⟨by unfold chkG;rw [if_neg (by rw [e];simp),if_pos h3],e⟩
 ·intro h h2 h3 h4
  have e:chkE s n me view x y=valE s n x.target (c0B s n me view y) y:=by unfold chkE;rw [if_neg (by rw [h];decide),if_neg (by rw [h2];simp),if_neg (by simp [h3])]
  exact ⟨by rw [k0s (by rw [e];exact h4)],e⟩
 ·intro h h2 h3 h4
  have e:chkE s n me view x y=0:=by unfold chkE;rw [if_neg (by rw [h];decide),if_neg (by rw [h2];simp),if_neg (by simp [h3]),h4]
  exact ⟨by unfold chkG;rw [if_neg (by rw [e];simp),if_neg (by simp [h3])],e⟩
end
end Go.Proofs.YtagmnmoaekbffaaGreatDoor.Ms
