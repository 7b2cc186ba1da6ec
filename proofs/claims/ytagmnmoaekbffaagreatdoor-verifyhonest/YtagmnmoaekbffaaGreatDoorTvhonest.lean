/- Tvhonest -/
import Derived.Test.YtagmnmoaekbffaaGreatDoorV11
import Derived.Test.YtagmnmoaekbffaaGreatDoorTvan
import Derived.Test.YtagmnmoaekbffaaGreatDoorU09
import Derived.Test.YtagmnmoaekbffaaGreatDoorCards
import Derived.Test.YtagmnmoaekbffaaGreatDoorTie
import Derived.SevenTiedAt
import Derived.SizedLaws
namespace Go.Proofs.YtagmnmoaekbffaaGreatDoor
open Go.Proofs.Tryz
open Go.ChangeShapes Go.WideShapes Go.ChangeAt Go.WideMaps Go.WideElems Go.RowKit
open Go.ChangeMaps (open_string shut_string)
set_option maxRecDepth 100000
theorem f0D (os:Os) (started:os.Started) (H:Type) (enc:TypeId × Value->H) :
  ReturnsInHanded {} Tryz.checked os 3 .any (fun w args=>(Rows.verifyHonestSpec.pre enc prog Tryz.f3 [] false w args/\laidMetH prog laidAll w)/\sizedMet enc prog Tryz.f3 (OpenSpec.ofChange Rows.verifyHonestSpec) false w args)
   (Rows.verifyHonestSpec.post enc prog Tryz.f3 false true false false):=by
 refine returnsInHanded_of_change_and (C:=Tryz.checked) (X:=fun w _=>laidMetH prog laidAll w) (fun _ _ _ hh h=>h.of_heap hh) own started (by kernel_rfl) func3
  (ChangeSpec.witness_shaped (enc:=enc) (C:=Tryz.checked) (os:=os) (X:=fun w _=>laidMetH prog laidAll w) false (World.doorLaid prog 67 os) #[.int .u8 0,.slice none 0 0] 8 rfl (World.shaped_of_RefB (by kernel_rfl) (by kernel_rfl)) (by kernel_rfl) (by kernel_rfl) (by kernel_rfl) (door_met os _)) ?_
 intro W base args ds gs before hval0 hW _ hsz hL _;have hval:∀ (j:Nat) t v,Tryz.f3.params[j]? = some t->args[j]? = some v->Value.okWide prog W .any base t v:=hval0;have hW':=hW;obtain ⟨p,q,hA0,hV,rfl,hfz,hnd⟩:=hW;have hA:DataW.TrodAll enc prog W 0 (fun _=>true) true Tryz.f3.params.toList args.toList ds p:=hA0;rw [params3] at hA hval hsz;obtain ⟨v0,v1,d0,d1,p0,p1,rfl,rfl,rfl,h0,h1⟩:=trodAll_two hA;obtain ⟨rfl,rfl⟩:=trodVars_none hV;obtain ⟨n0,rfl,rfl,rfl,wn0⟩:=open_int underlying5 (hval 0 5 v0 rfl rfl) h0;obtain ⟨a1,acs1,cap1,rfl,hAc1⟩:=Ms.p0j (hval 1 22 v1 rfl rfl) h1;clear hA0 hval0;simp only [List.append_nil] at hW';have hlt:∀ x ∈ []++p1,x.block < W.heap.size:=fun x hx=>by simpa using hW'.lt x (by simpa using hx)
 have wm:0 <= n0/\n0 < 256:=by have:=bounds_u8 wn0;omega
 obtain ⟨m0,hm0⟩:∃ m:Nat,n0=(m:Int):=⟨n0.toNat,by omega⟩;have hcall:Calls prog 3 #[.int .u8 n0,.slice a1 acs1.length cap1] W fun e w'=>e = .returned (.bool true)/\Below W.heap.size W w':=by rw [hm0];exact Ms.n0d W (ktab_of_laid hL) (tabs_of_laid hL) m0 (by omega) a1 acs1 cap1 hAc1
 refine hcall.mono fun e W' ⟨he,hnx⟩=>?_;subst he;refine ⟨_,rfl,_,_,_,[],[]++p1,[],hW',?_,?_,rfl,hnx.frame _,fun h=>by cases h⟩
 ·exact trodAll_mk1 (shut_bool underlying4 _)
 ·exact trodAll_mk2 (shut_int underlying5 wn0) (Below.trod Ms.laidOut (by kernel_rfl) (of_decide_eq_true (by kernel_rfl)) h1 hnx (fun x hx=>hlt x (by simp [hx])))
theorem verifyHonest_holds:Rows.VerifyHonestSaid :=
 OpenClaim.holds_of_wide 3 Tryz.f3 rfl rfl rfl rfl rfl rfl rfl ⟨rfl,rfl,rfl,rfl,rfl⟩ rfl rfl rfl rfl rfl (by kernel_rfl) func3 (by kernel_rfl)
  (of_decide_eq_true (by kernel_rfl)) (by unfold Func.isWrapper;rw [if_neg (of_decide_eq_false (by kernel_rfl))];exact ⟨rfl,rfl⟩)
  (fun os started H enc _=>f0D os started H enc)
theorem verifyHonest_card:Rows.VerifyHonestCardSaid :=
 Claim7.holds_tied_plain_at .later [] [.data,.data,.data,.data,.sentinel,.sentinel] true (true, "211098efbe47dc152682c7c35668e7004d78433516e6e5b618dce3a5a9f7f9d0") true
  verifyHonest_holds (fun _ h=>by cases h) (by kernel_rfl) (fun _ h=>by cases h) verifyHonest_row_tie rfl ⟨rfl,rfl⟩ (by kernel_rfl) rfl
  (fun f fn hf hfn=>by
   obtain rfl:f=3:=Option.some.inj ((show prog.funcNamed "affidavit/affidavitlaw14.VerifyHonest" = some 3 by kernel_rfl).symm.trans hf) |>.symm
   obtain rfl:fn=Tryz.f3:=(Option.some.inj (func3.symm.trans hfn)).symm
   exact ⟨by kernel_rfl,fun j t ht=>by
    rw [params3] at ht;have hm:t ∈ [5,22]:=by simpa using Array.mem_of_getElem? ht
    have hall:([5,22].all fun u=>!prog.wantsStandIn u)=true:=by kernel_rfl
    exact (show prog.wantsStandIn t=false by simpa using List.all_eq_true.1 hall t hm)⟩)
  (by kernel_rfl)
#print axioms verifyHonest_card
end Go.Proofs.YtagmnmoaekbffaaGreatDoor
