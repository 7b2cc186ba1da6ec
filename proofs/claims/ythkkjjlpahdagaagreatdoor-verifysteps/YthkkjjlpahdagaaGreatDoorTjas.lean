/-
  Which numbers of an operation, which lists and which replies may be: what the reference answers (R10.asks, Numbers, R09.Right).
-/
import Derived.Test.YthkkjjlpahdagaaGreatDoorS02
set_option maxHeartbeats 4000000
namespace Go.Proofs.YthkkjjlpahdagaaGreatDoor.Ms
open Go Go.RowKit
set_option maxRecDepth 100000
theorem asks_any (n k t:Int) (w:World):Calls Tryz.prog 75 #[nu n,nu k,nu t] w fun e w'=>e = .returned (.bool (asksB n k t))∧w' = w:=by
 have H1:=hid (within_any n 1 512 w)
 have H2:=hid (within_any k 1 2 w)
 have H3:=hid (within_any t 0 7 w)
 have e1:(decide (1 ≤ n) && decide (n ≤ 512))=inB n 1 512:=rfl
 have e2:(decide (1 ≤ k) && decide (k ≤ 2))=inB k 1 2:=rfl
 have e3:(decide (0 ≤ t) && decide (t ≤ 7))=inB t 0 7:=rfl
 rw [e1] at H1
 rw [e2] at H2
 rw [e3] at H3
 unfold asksB
 clear e1 e2 e3
 generalize inB n 1 512=b1 at *
 generalize inB k 1 2=b2 at *
 generalize inB t 0 7=b3 at *
 cases b1 with
 | false =>
  go_enter Tryz.func75,Tryz.ntmps75
  go_wp2_with fail
  refine H1.out.mono ?_
  rintro e v ⟨rfl,hv⟩
  subst v
  go_wp2
  go_ret
  exact ⟨rfl,rfl⟩
 | true =>
  cases b2 with
  | false =>
   go_enter Tryz.func75,Tryz.ntmps75
   go_wp2_with fail
   refine H1.out.mono ?_
   rintro e v ⟨rfl,hv⟩
   subst v
   go_wp2_with fail
   refine H2.out.mono ?_
   rintro e v ⟨rfl,hv⟩
   subst v
   go_wp2
   go_ret
   exact ⟨rfl,rfl⟩
  | true =>
   go_enter Tryz.func75,Tryz.ntmps75
   go_wp2_with fail
   refine H1.out.mono ?_
   rintro e v ⟨rfl,hv⟩
   subst v
   go_wp2_with fail
   refine H2.out.mono ?_
   rintro e v ⟨rfl,hv⟩
   subst v
   go_wp2_with fail
   refine H3.out.mono ?_
   rintro e v ⟨rfl,hv⟩
   subst v
   go_wp2
   go_ret
   exact ⟨rfl,rfl⟩
theorem numsB_bad (l:List Int) (i:Nat) (hi:i < l.length) (h:okAt l i=false):numsB l=false:=by
 unfold numsB
 have:(List.range l.length).all (okAt l)=false:=by
  rw [List.all_eq_false]
  exact ⟨i,List.mem_range.2 hi,by rw [h];exact Bool.false_ne_true⟩
 rw [this];rfl
theorem numsB_all (l:List Int) (h:∀ i,i < l.length→okAt l i=true):numsB l=inB (l.length:Int) 1 64:=by
 unfold numsB
 have:(List.range l.length).all (okAt l)=true:=by
  rw [List.all_eq_true]
  exact fun i hi=>h i (List.mem_range.1 hi)
 rw [this];rfl
theorem below_drawn {B:Nat} {w w':World} (h:Below B w w') (n:Nat):Below B w (w'.drewN n):=⟨h.os,h.tape,h.output,h.size,h.block⟩
theorem rnums_any {w:World} {v:Value} {l:List Int} (hv:IntsAt w v l) (hl:l.length ≤ 9223372036854775807):Calls Tryz.prog 78 #[v] w fun e w'=>e = .returned (.bool (numsB l))∧Below w.heap.size w w':=by
 have HV:=hid hv
 obtain ⟨a,cap,rfl,-⟩:=hv
 have HB0:=hid (Below.refl w.heap.size w)
 have HBad:=hid (numsB_bad l)
 have HAll:=hid (numsB_all l)
 have HL:=hid (fun W=>within_any (l.length:Int) 1 64 W)
 go_enter Tryz.func78,Tryz.ntmps78
 go_wp2
 go_loopw [3] (fun i w'=>∃ j:Nat,j ≤ l.length∧i = .int .i64 j∧Hid (∀ k,k < j→okAt l k=true)∧Hid (Below w.heap.size w w')) (fun i _=>l.length - (intOf i).toNat)
 case atStart=>exact ⟨0,by omega,rfl,fun k hk=>absurd hk (Nat.not_lt_zero k),HB0.out⟩
 case round =>
  obtain ⟨j,hj,rfl,HN,HB⟩:=hrel
  by_cases hlt:j < l.length
  ·have d1:decide ((j:Int) < (l.length:Int))=true:=decide_eq_true (by omega)
   have d1':decide (j < l.length)=true:=decide_eq_true hlt
   obtain ⟨a',c',e',hc⟩:=HV.out.kept HB.out
   cases e'
   obtain ⟨b,off,rfl,hcc⟩:=hc (fun e=>by rw [e] at hlt;exact absurd hlt (Nat.not_lt_zero j))
   have cj:wr.cell? ⟨b,off + j,none⟩=some (.int .i64 (l.getD j 0)):=hcc j hlt
   have HI:=hid (fun W=>within_any (l.getD j 0) 0 1099511627776 W)
   have ei:(decide (0 ≤ l.getD j 0) && decide (l.getD j 0 ≤ 1099511627776))=inB (l.getD j 0) 0 1099511627776:=rfl
   rw [ei] at HI
   have hon:Hid (okAt l j=true→∀ k,k < j + 1→okAt l k=true):=fun h k hk=>by
    by_cases e:k=j
    ·rw [e];exact h
    ·exact HN.out k (by omega)
   cases hin:inB (l.getD j 0) 0 1099511627776 with
   | false=>as_aux_lemma =>
    have HF:=hid (HBad.out j hlt (by unfold okAt;rw [hin];rfl))
    rw [hin] at HI
    generalize l.getD j 0=x at *
    clear hin ei hc hcc hon HN HAll HBad HL
    go_wp2
    go_quiet (first | (go_at_call 72;refine Calls.quiet_of_same (HI.out _)))
    have HB1:=hid (below_drawn HB.out nq)
    generalize wr.drewN nq=W1 at *
    go_wp2
    go_ret
    exact ⟨by rw [HF.out];rfl,HB1.out⟩
   | true =>
    rw [hin] at HI
    by_cases h0:j=0
    ·as_aux_lemma =>
     subst h0
     have cj0:wr.cell? ⟨b,off,none⟩=some (.int .i64 (l.getD 0 0)):=cj
     have HN':=hid (hon.out (by unfold okAt;rw [hin];rfl))
     generalize l.getD 0 0=x at *
     clear hin ei hc hcc hon HN HAll HBad HL
     go_wp2
     go_quiet (first | (go_at_call 72;refine Calls.quiet_of_same (HI.out _)))
     have HB1:=hid (below_drawn HB.out nq)
     generalize wr.drewN nq=W1 at *
     go_wp2
     exact ⟨⟨1,by omega,rfl,HN'.out,HB1.out⟩,by simp [intOf];omega⟩
    ·have dz:decide ((0:Int) < (j:Int))=true:=decide_eq_true (by omega)
     have dz':decide (0 < j)=true:=decide_eq_true (by omega)
     have ck:wr.cell? ⟨b,off + (j - 1),none⟩=some (.int .i64 (l.getD (j - 1) 0)):=hcc (j - 1) (by omega)
     obtain ⟨i,hi⟩:∃ i:Nat,i=j - 1:=⟨_,rfl⟩
     have hij:(j:Int) - 1=(i:Int):=by omega
     have hil:i < l.length:=by omega
     rw [← hi] at ck
     by_cases hle:l.getD j 0 ≤ l.getD i 0
     ·as_aux_lemma =>
      have HF:=hid (HBad.out j hlt (by unfold okAt;rw [hin,← hi,decide_eq_false h0,decide_eq_false (by omega:¬ l.getD i 0 < l.getD j 0)];rfl))
      have dl:decide (l.getD j 0 ≤ l.getD i 0)=true:=decide_eq_true hle
      generalize l.getD j 0=x at *
      generalize l.getD i 0=y at *
      clear hin ei hc hcc hon HN HAll HBad HL hle h0 hi
      go_wp2
      go_quiet (first | (go_at_call 72;refine Calls.quiet_of_same (HI.out _)))
      have HB1:=hid (below_drawn HB.out nq)
      generalize wr.drewN nq=W1 at *
      go_wp2
      go_ret
      exact ⟨by rw [HF.out];rfl,HB1.out⟩
     ·as_aux_lemma =>
      have HN':=hid (hon.out (by unfold okAt;rw [hin,← hi,decide_eq_false h0,decide_eq_true (by omega:l.getD i 0 < l.getD j 0)];rfl))
      have dl:decide (l.getD j 0 ≤ l.getD i 0)=false:=decide_eq_false hle
      generalize l.getD j 0=x at *
      generalize l.getD i 0=y at *
      clear hin ei hc hcc hon HN HAll HBad HL hle h0 hi
      go_wp2
      go_quiet (first | (go_at_call 72;refine Calls.quiet_of_same (HI.out _)))
      have HB1:=hid (below_drawn HB.out nq)
      generalize wr.drewN nq=W1 at *
      go_wp2
      exact ⟨⟨j + 1,by omega,by go_num,HN'.out,HB1.out⟩,by simp [intOf];omega⟩
  ·as_aux_lemma =>
   obtain rfl:j=l.length:=by omega
   have HF:=hid (HAll.out HN.out)
   have ei:(decide (1 ≤ (l.length:Int)) && decide ((l.length:Int) ≤ 64))=inB (l.length:Int) 1 64:=rfl
   rw [ei] at HL
   generalize inB (l.length:Int) 1 64=r at *
   clear HN HAll HBad ei
   go_wp2_with fail
   refine (HL.out _).mono ?_
   rintro e w2 ⟨rfl,hw⟩
   subst w2
   go_wp2
   go_ret
   exact ⟨by rw [HF.out];rfl,HB.out⟩
end Go.Proofs.YthkkjjlpahdagaaGreatDoor.Ms
