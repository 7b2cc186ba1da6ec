/-
  What must come at any rate (law14.awake), over what its calls answer.
-/
import Derived.Test.YthkkjjlpahdagaaGreatDoorTvsu
import Derived.Test.YthkkjjlpahdagaaGreatDoorTyal
import Derived.Test.YthkkjjlpahdagaaGreatDoorTfrt
set_option maxHeartbeats 32000000
namespace Go.Proofs.YthkkjjlpahdagaaGreatDoor.Ms
open Go Go.RowKit
set_option maxRecDepth 100000
theorem args5 {x c y d z e u f v k:Value} (h:x=c) (i:y=d) (l:z=e) (m:u=f) (n:v=k):[x,y,z,u,v].toArray=#[c,d,e,f,k]:=by rw [h,i,l,m,n]
structure AwJ (W3:World) (P x X:Nat) (V:List Value) (YU:Value→List Value) (OkU:Value→Prop) (S3:World→Prop) (L:Nat→Bool) (u:Nat→Value) (W:World):Prop where
 pre:L 5=false→Below W3.heap.size W3 W
 post:L 5=true→S3 W
 sz:W3.heap.size ≤ W.heap.size
 vx:W.heap[X]? = some (.cells V.toArray 39)
 c0:L 0=true→u 0=pt P 0
 c1:L 1=true→u 1=pt P 0
 c2:L 2=true→u 2=pt P 2
 c3:L 3=true→u 3=pt x 0
 c4:L 4=true→u 4 = .agg V.toArray
 s5:L 5=true→∃ q,OkU q∧u 5 = .tuple #[.agg (YU q).toArray,nu 0]
 s6:L 6=true→L 5=true∧u 6=u 5
 s7:L 7=true→L 6=true∧∃ q,OkU q∧u 7 = .agg (YU q).toArray
 s8:L 8=true→u 8=nu 0
 s9:L 9=true→∃ Yb,u 9=pt Yb 0∧W3.heap.size ≤ Yb∧Yb ≠ X∧∃ z,z.length=103∧W.heap[Yb]? = some (.cells (List.toArray z) 42)∧(L 10=true→∃ q,OkU q∧z=YU q)
 s11:L 11=true→u 11=nu 0
theorem AwJ.up0 {W3:World} {P x X:Nat} {V:List Value} {YU:Value→List Value} {OkU:Value→Prop} {S3:World→Prop} {L:Nat→Bool} {u u':Nat→Value} {W:World} (h:AwJ W3 P x X V YU OkU S3 L u W) (hu:∀ j,j ≠ 0→u' j=u j) (hown:u' 0=pt P 0):AwJ W3 P x X V YU OkU S3 (up L 0) u' W :=
 ⟨(fun e=>h.pre (by rw [← e];exact (up_ne (by decide)).symm)),(fun e=>h.post (dn_up e (by decide))),h.sz,h.vx,(fun _=>hown),(fun e=>(hu 1 (by decide)).trans (h.c1 (dn_up e (by decide)))),(fun e=>(hu 2 (by decide)).trans (h.c2 (dn_up e (by decide)))),(fun e=>(hu 3 (by decide)).trans (h.c3 (dn_up e (by decide)))),(fun e=>(hu 4 (by decide)).trans (h.c4 (dn_up e (by decide)))),(fun e=>by obtain ⟨q,h1,h2⟩:=h.s5 (dn_up e (by decide));exact ⟨q,h1,(hu 5 (by decide)).trans h2⟩),(fun e=>by obtain ⟨h1,h2⟩:=h.s6 (dn_up e (by decide));rw [hu 6 (by decide),hu 5 (by decide)];exact ⟨up_keep h1,h2⟩),(fun e=>by obtain ⟨h1,q,h2,h3⟩:=h.s7 (dn_up e (by decide));exact ⟨up_keep h1,q,h2,(hu 7 (by decide)).trans h3⟩),(fun e=>(hu 8 (by decide)).trans (h.s8 (dn_up e (by decide)))),(fun e=>by obtain ⟨Yb,h1,h2,h3,z,h4,h5,h6⟩:=h.s9 (dn_up e (by decide));exact ⟨Yb,(hu 9 (by decide)).trans h1,h2,h3,z,h4,h5,fun e10=>h6 (dn_up e10 (by decide))⟩),(fun e=>(hu 11 (by decide)).trans (h.s11 (dn_up e (by decide))))⟩
theorem AwJ.up1 {W3:World} {P x X:Nat} {V:List Value} {YU:Value→List Value} {OkU:Value→Prop} {S3:World→Prop} {L:Nat→Bool} {u u':Nat→Value} {W:World} (h:AwJ W3 P x X V YU OkU S3 L u W) (hu:∀ j,j ≠ 1→u' j=u j) (hown:u' 1=pt P 0):AwJ W3 P x X V YU OkU S3 (up L 1) u' W :=
 ⟨(fun e=>h.pre (by rw [← e];exact (up_ne (by decide)).symm)),(fun e=>h.post (dn_up e (by decide))),h.sz,h.vx,(fun e=>(hu 0 (by decide)).trans (h.c0 (dn_up e (by decide)))),(fun _=>hown),(fun e=>(hu 2 (by decide)).trans (h.c2 (dn_up e (by decide)))),(fun e=>(hu 3 (by decide)).trans (h.c3 (dn_up e (by decide)))),(fun e=>(hu 4 (by decide)).trans (h.c4 (dn_up e (by decide)))),(fun e=>by obtain ⟨q,h1,h2⟩:=h.s5 (dn_up e (by decide));exact ⟨q,h1,(hu 5 (by decide)).trans h2⟩),(fun e=>by obtain ⟨h1,h2⟩:=h.s6 (dn_up e (by decide));rw [hu 6 (by decide),hu 5 (by decide)];exact ⟨up_keep h1,h2⟩),(fun e=>by obtain ⟨h1,q,h2,h3⟩:=h.s7 (dn_up e (by decide));exact ⟨up_keep h1,q,h2,(hu 7 (by decide)).trans h3⟩),(fun e=>(hu 8 (by decide)).trans (h.s8 (dn_up e (by decide)))),(fun e=>by obtain ⟨Yb,h1,h2,h3,z,h4,h5,h6⟩:=h.s9 (dn_up e (by decide));exact ⟨Yb,(hu 9 (by decide)).trans h1,h2,h3,z,h4,h5,fun e10=>h6 (dn_up e10 (by decide))⟩),(fun e=>(hu 11 (by decide)).trans (h.s11 (dn_up e (by decide))))⟩
theorem AwJ.up2 {W3:World} {P x X:Nat} {V:List Value} {YU:Value→List Value} {OkU:Value→Prop} {S3:World→Prop} {L:Nat→Bool} {u u':Nat→Value} {W:World} (h:AwJ W3 P x X V YU OkU S3 L u W) (hu:∀ j,j ≠ 2→u' j=u j) (hown:u' 2=pt P 2):AwJ W3 P x X V YU OkU S3 (up L 2) u' W :=
 ⟨(fun e=>h.pre (by rw [← e];exact (up_ne (by decide)).symm)),(fun e=>h.post (dn_up e (by decide))),h.sz,h.vx,(fun e=>(hu 0 (by decide)).trans (h.c0 (dn_up e (by decide)))),(fun e=>(hu 1 (by decide)).trans (h.c1 (dn_up e (by decide)))),(fun _=>hown),(fun e=>(hu 3 (by decide)).trans (h.c3 (dn_up e (by decide)))),(fun e=>(hu 4 (by decide)).trans (h.c4 (dn_up e (by decide)))),(fun e=>by obtain ⟨q,h1,h2⟩:=h.s5 (dn_up e (by decide));exact ⟨q,h1,(hu 5 (by decide)).trans h2⟩),(fun e=>by obtain ⟨h1,h2⟩:=h.s6 (dn_up e (by decide));rw [hu 6 (by decide),hu 5 (by decide)];exact ⟨up_keep h1,h2⟩),(fun e=>by obtain ⟨h1,q,h2,h3⟩:=h.s7 (dn_up e (by decide));exact ⟨up_keep h1,q,h2,(hu 7 (by decide)).trans h3⟩),(fun e=>(hu 8 (by decide)).trans (h.s8 (dn_up e (by decide)))),(fun e=>by obtain ⟨Yb,h1,h2,h3,z,h4,h5,h6⟩:=h.s9 (dn_up e (by decide));exact ⟨Yb,(hu 9 (by decide)).trans h1,h2,h3,z,h4,h5,fun e10=>h6 (dn_up e10 (by decide))⟩),(fun e=>(hu 11 (by decide)).trans (h.s11 (dn_up e (by decide))))⟩
theorem AwJ.up3 {W3:World} {P x X:Nat} {V:List Value} {YU:Value→List Value} {OkU:Value→Prop} {S3:World→Prop} {L:Nat→Bool} {u u':Nat→Value} {W:World} (h:AwJ W3 P x X V YU OkU S3 L u W) (hu:∀ j,j ≠ 3→u' j=u j) (hown:u' 3=pt x 0):AwJ W3 P x X V YU OkU S3 (up L 3) u' W :=
 ⟨(fun e=>h.pre (by rw [← e];exact (up_ne (by decide)).symm)),(fun e=>h.post (dn_up e (by decide))),h.sz,h.vx,(fun e=>(hu 0 (by decide)).trans (h.c0 (dn_up e (by decide)))),(fun e=>(hu 1 (by decide)).trans (h.c1 (dn_up e (by decide)))),(fun e=>(hu 2 (by decide)).trans (h.c2 (dn_up e (by decide)))),(fun _=>hown),(fun e=>(hu 4 (by decide)).trans (h.c4 (dn_up e (by decide)))),(fun e=>by obtain ⟨q,h1,h2⟩:=h.s5 (dn_up e (by decide));exact ⟨q,h1,(hu 5 (by decide)).trans h2⟩),(fun e=>by obtain ⟨h1,h2⟩:=h.s6 (dn_up e (by decide));rw [hu 6 (by decide),hu 5 (by decide)];exact ⟨up_keep h1,h2⟩),(fun e=>by obtain ⟨h1,q,h2,h3⟩:=h.s7 (dn_up e (by decide));exact ⟨up_keep h1,q,h2,(hu 7 (by decide)).trans h3⟩),(fun e=>(hu 8 (by decide)).trans (h.s8 (dn_up e (by decide)))),(fun e=>by obtain ⟨Yb,h1,h2,h3,z,h4,h5,h6⟩:=h.s9 (dn_up e (by decide));exact ⟨Yb,(hu 9 (by decide)).trans h1,h2,h3,z,h4,h5,fun e10=>h6 (dn_up e10 (by decide))⟩),(fun e=>(hu 11 (by decide)).trans (h.s11 (dn_up e (by decide))))⟩
theorem AwJ.up4 {W3:World} {P x X:Nat} {V:List Value} {YU:Value→List Value} {OkU:Value→Prop} {S3:World→Prop} {L:Nat→Bool} {u u':Nat→Value} {W:World} (h:AwJ W3 P x X V YU OkU S3 L u W) (hu:∀ j,j ≠ 4→u' j=u j) (hown:u' 4 = .agg V.toArray):AwJ W3 P x X V YU OkU S3 (up L 4) u' W :=
 ⟨(fun e=>h.pre (by rw [← e];exact (up_ne (by decide)).symm)),(fun e=>h.post (dn_up e (by decide))),h.sz,h.vx,(fun e=>(hu 0 (by decide)).trans (h.c0 (dn_up e (by decide)))),(fun e=>(hu 1 (by decide)).trans (h.c1 (dn_up e (by decide)))),(fun e=>(hu 2 (by decide)).trans (h.c2 (dn_up e (by decide)))),(fun e=>(hu 3 (by decide)).trans (h.c3 (dn_up e (by decide)))),(fun _=>hown),(fun e=>by obtain ⟨q,h1,h2⟩:=h.s5 (dn_up e (by decide));exact ⟨q,h1,(hu 5 (by decide)).trans h2⟩),(fun e=>by obtain ⟨h1,h2⟩:=h.s6 (dn_up e (by decide));rw [hu 6 (by decide),hu 5 (by decide)];exact ⟨up_keep h1,h2⟩),(fun e=>by obtain ⟨h1,q,h2,h3⟩:=h.s7 (dn_up e (by decide));exact ⟨up_keep h1,q,h2,(hu 7 (by decide)).trans h3⟩),(fun e=>(hu 8 (by decide)).trans (h.s8 (dn_up e (by decide)))),(fun e=>by obtain ⟨Yb,h1,h2,h3,z,h4,h5,h6⟩:=h.s9 (dn_up e (by decide));exact ⟨Yb,(hu 9 (by decide)).trans h1,h2,h3,z,h4,h5,fun e10=>h6 (dn_up e10 (by decide))⟩),(fun e=>(hu 11 (by decide)).trans (h.s11 (dn_up e (by decide))))⟩
theorem AwJ.up6 {W3:World} {P x X:Nat} {V:List Value} {YU:Value→List Value} {OkU:Value→Prop} {S3:World→Prop} {L:Nat→Bool} {u u':Nat→Value} {W:World} (h:AwJ W3 P x X V YU OkU S3 L u W) (hu:∀ j,j ≠ 6→u' j=u j) (hown:up L 6 5=true∧u' 6=u' 5):AwJ W3 P x X V YU OkU S3 (up L 6) u' W :=
 ⟨(fun e=>h.pre (by rw [← e];exact (up_ne (by decide)).symm)),(fun e=>h.post (dn_up e (by decide))),h.sz,h.vx,(fun e=>(hu 0 (by decide)).trans (h.c0 (dn_up e (by decide)))),(fun e=>(hu 1 (by decide)).trans (h.c1 (dn_up e (by decide)))),(fun e=>(hu 2 (by decide)).trans (h.c2 (dn_up e (by decide)))),(fun e=>(hu 3 (by decide)).trans (h.c3 (dn_up e (by decide)))),(fun e=>(hu 4 (by decide)).trans (h.c4 (dn_up e (by decide)))),(fun e=>by obtain ⟨q,h1,h2⟩:=h.s5 (dn_up e (by decide));exact ⟨q,h1,(hu 5 (by decide)).trans h2⟩),(fun _=>hown),(fun e=>by obtain ⟨h1,q,h2,h3⟩:=h.s7 (dn_up e (by decide));exact ⟨up_keep h1,q,h2,(hu 7 (by decide)).trans h3⟩),(fun e=>(hu 8 (by decide)).trans (h.s8 (dn_up e (by decide)))),(fun e=>by obtain ⟨Yb,h1,h2,h3,z,h4,h5,h6⟩:=h.s9 (dn_up e (by decide));exact ⟨Yb,(hu 9 (by decide)).trans h1,h2,h3,z,h4,h5,fun e10=>h6 (dn_up e10 (by decide))⟩),(fun e=>(hu 11 (by decide)).trans (h.s11 (dn_up e (by decide))))⟩
theorem AwJ.up7 {W3:World} {P x X:Nat} {V:List Value} {YU:Value→List Value} {OkU:Value→Prop} {S3:World→Prop} {L:Nat→Bool} {u u':Nat→Value} {W:World} (h:AwJ W3 P x X V YU OkU S3 L u W) (hu:∀ j,j ≠ 7→u' j=u j) (hown:up L 7 6=true∧∃ q,OkU q∧u' 7 = .agg (YU q).toArray):AwJ W3 P x X V YU OkU S3 (up L 7) u' W :=
 ⟨(fun e=>h.pre (by rw [← e];exact (up_ne (by decide)).symm)),(fun e=>h.post (dn_up e (by decide))),h.sz,h.vx,(fun e=>(hu 0 (by decide)).trans (h.c0 (dn_up e (by decide)))),(fun e=>(hu 1 (by decide)).trans (h.c1 (dn_up e (by decide)))),(fun e=>(hu 2 (by decide)).trans (h.c2 (dn_up e (by decide)))),(fun e=>(hu 3 (by decide)).trans (h.c3 (dn_up e (by decide)))),(fun e=>(hu 4 (by decide)).trans (h.c4 (dn_up e (by decide)))),(fun e=>by obtain ⟨q,h1,h2⟩:=h.s5 (dn_up e (by decide));exact ⟨q,h1,(hu 5 (by decide)).trans h2⟩),(fun e=>by obtain ⟨h1,h2⟩:=h.s6 (dn_up e (by decide));rw [hu 6 (by decide),hu 5 (by decide)];exact ⟨up_keep h1,h2⟩),(fun _=>hown),(fun e=>(hu 8 (by decide)).trans (h.s8 (dn_up e (by decide)))),(fun e=>by obtain ⟨Yb,h1,h2,h3,z,h4,h5,h6⟩:=h.s9 (dn_up e (by decide));exact ⟨Yb,(hu 9 (by decide)).trans h1,h2,h3,z,h4,h5,fun e10=>h6 (dn_up e10 (by decide))⟩),(fun e=>(hu 11 (by decide)).trans (h.s11 (dn_up e (by decide))))⟩
theorem AwJ.up8 {W3:World} {P x X:Nat} {V:List Value} {YU:Value→List Value} {OkU:Value→Prop} {S3:World→Prop} {L:Nat→Bool} {u u':Nat→Value} {W:World} (h:AwJ W3 P x X V YU OkU S3 L u W) (hu:∀ j,j ≠ 8→u' j=u j) (hown:u' 8=nu 0):AwJ W3 P x X V YU OkU S3 (up L 8) u' W :=
 ⟨(fun e=>h.pre (by rw [← e];exact (up_ne (by decide)).symm)),(fun e=>h.post (dn_up e (by decide))),h.sz,h.vx,(fun e=>(hu 0 (by decide)).trans (h.c0 (dn_up e (by decide)))),(fun e=>(hu 1 (by decide)).trans (h.c1 (dn_up e (by decide)))),(fun e=>(hu 2 (by decide)).trans (h.c2 (dn_up e (by decide)))),(fun e=>(hu 3 (by decide)).trans (h.c3 (dn_up e (by decide)))),(fun e=>(hu 4 (by decide)).trans (h.c4 (dn_up e (by decide)))),(fun e=>by obtain ⟨q,h1,h2⟩:=h.s5 (dn_up e (by decide));exact ⟨q,h1,(hu 5 (by decide)).trans h2⟩),(fun e=>by obtain ⟨h1,h2⟩:=h.s6 (dn_up e (by decide));rw [hu 6 (by decide),hu 5 (by decide)];exact ⟨up_keep h1,h2⟩),(fun e=>by obtain ⟨h1,q,h2,h3⟩:=h.s7 (dn_up e (by decide));exact ⟨up_keep h1,q,h2,(hu 7 (by decide)).trans h3⟩),(fun _=>hown),(fun e=>by obtain ⟨Yb,h1,h2,h3,z,h4,h5,h6⟩:=h.s9 (dn_up e (by decide));exact ⟨Yb,(hu 9 (by decide)).trans h1,h2,h3,z,h4,h5,fun e10=>h6 (dn_up e10 (by decide))⟩),(fun e=>(hu 11 (by decide)).trans (h.s11 (dn_up e (by decide))))⟩
theorem AwJ.up9 {W3:World} {P x X:Nat} {V:List Value} {YU:Value→List Value} {OkU:Value→Prop} {S3:World→Prop} {L:Nat→Bool} {u u':Nat→Value} {W:World} (h:AwJ W3 P x X V YU OkU S3 L u W) (hu:∀ j,j ≠ 9→u' j=u j) (hown:∃ Yb,u' 9=pt Yb 0∧W3.heap.size ≤ Yb∧Yb ≠ X∧∃ z,z.length=103∧W.heap[Yb]? = some (.cells (List.toArray z) 42)∧(up L 9 10=true→∃ q,OkU q∧z=YU q)):AwJ W3 P x X V YU OkU S3 (up L 9) u' W :=
 ⟨(fun e=>h.pre (by rw [← e];exact (up_ne (by decide)).symm)),(fun e=>h.post (dn_up e (by decide))),h.sz,h.vx,(fun e=>(hu 0 (by decide)).trans (h.c0 (dn_up e (by decide)))),(fun e=>(hu 1 (by decide)).trans (h.c1 (dn_up e (by decide)))),(fun e=>(hu 2 (by decide)).trans (h.c2 (dn_up e (by decide)))),(fun e=>(hu 3 (by decide)).trans (h.c3 (dn_up e (by decide)))),(fun e=>(hu 4 (by decide)).trans (h.c4 (dn_up e (by decide)))),(fun e=>by obtain ⟨q,h1,h2⟩:=h.s5 (dn_up e (by decide));exact ⟨q,h1,(hu 5 (by decide)).trans h2⟩),(fun e=>by obtain ⟨h1,h2⟩:=h.s6 (dn_up e (by decide));rw [hu 6 (by decide),hu 5 (by decide)];exact ⟨up_keep h1,h2⟩),(fun e=>by obtain ⟨h1,q,h2,h3⟩:=h.s7 (dn_up e (by decide));exact ⟨up_keep h1,q,h2,(hu 7 (by decide)).trans h3⟩),(fun e=>(hu 8 (by decide)).trans (h.s8 (dn_up e (by decide)))),(fun _=>hown),(fun e=>(hu 11 (by decide)).trans (h.s11 (dn_up e (by decide))))⟩
theorem AwJ.up10 {W3:World} {P x X:Nat} {V:List Value} {YU:Value→List Value} {OkU:Value→Prop} {S3:World→Prop} {L:Nat→Bool} {u u':Nat→Value} {W:World} (h:AwJ W3 P x X V YU OkU S3 L u W) (hu:∀ j,j ≠ 10→u' j=u j) (hs9:up L 10 9=true→∃ Yb,u' 9=pt Yb 0∧W3.heap.size ≤ Yb∧Yb ≠ X∧∃ z,z.length=103∧W.heap[Yb]? = some (.cells (List.toArray z) 42)∧(up L 10 10=true→∃ q,OkU q∧z=YU q)):AwJ W3 P x X V YU OkU S3 (up L 10) u' W :=
 ⟨(fun e=>h.pre (by rw [← e];exact (up_ne (by decide)).symm)),(fun e=>h.post (dn_up e (by decide))),h.sz,h.vx,(fun e=>(hu 0 (by decide)).trans (h.c0 (dn_up e (by decide)))),(fun e=>(hu 1 (by decide)).trans (h.c1 (dn_up e (by decide)))),(fun e=>(hu 2 (by decide)).trans (h.c2 (dn_up e (by decide)))),(fun e=>(hu 3 (by decide)).trans (h.c3 (dn_up e (by decide)))),(fun e=>(hu 4 (by decide)).trans (h.c4 (dn_up e (by decide)))),(fun e=>by obtain ⟨q,h1,h2⟩:=h.s5 (dn_up e (by decide));exact ⟨q,h1,(hu 5 (by decide)).trans h2⟩),(fun e=>by obtain ⟨h1,h2⟩:=h.s6 (dn_up e (by decide));rw [hu 6 (by decide),hu 5 (by decide)];exact ⟨up_keep h1,h2⟩),(fun e=>by obtain ⟨h1,q,h2,h3⟩:=h.s7 (dn_up e (by decide));exact ⟨up_keep h1,q,h2,(hu 7 (by decide)).trans h3⟩),(fun e=>(hu 8 (by decide)).trans (h.s8 (dn_up e (by decide)))),(fun e=>hs9 e),(fun e=>(hu 11 (by decide)).trans (h.s11 (dn_up e (by decide))))⟩
theorem AwJ.up11 {W3:World} {P x X:Nat} {V:List Value} {YU:Value→List Value} {OkU:Value→Prop} {S3:World→Prop} {L:Nat→Bool} {u u':Nat→Value} {W:World} (h:AwJ W3 P x X V YU OkU S3 L u W) (hu:∀ j,j ≠ 11→u' j=u j) (hown:u' 11=nu 0):AwJ W3 P x X V YU OkU S3 (up L 11) u' W :=
 ⟨(fun e=>h.pre (by rw [← e];exact (up_ne (by decide)).symm)),(fun e=>h.post (dn_up e (by decide))),h.sz,h.vx,(fun e=>(hu 0 (by decide)).trans (h.c0 (dn_up e (by decide)))),(fun e=>(hu 1 (by decide)).trans (h.c1 (dn_up e (by decide)))),(fun e=>(hu 2 (by decide)).trans (h.c2 (dn_up e (by decide)))),(fun e=>(hu 3 (by decide)).trans (h.c3 (dn_up e (by decide)))),(fun e=>(hu 4 (by decide)).trans (h.c4 (dn_up e (by decide)))),(fun e=>by obtain ⟨q,h1,h2⟩:=h.s5 (dn_up e (by decide));exact ⟨q,h1,(hu 5 (by decide)).trans h2⟩),(fun e=>by obtain ⟨h1,h2⟩:=h.s6 (dn_up e (by decide));rw [hu 6 (by decide),hu 5 (by decide)];exact ⟨up_keep h1,h2⟩),(fun e=>by obtain ⟨h1,q,h2,h3⟩:=h.s7 (dn_up e (by decide));exact ⟨up_keep h1,q,h2,(hu 7 (by decide)).trans h3⟩),(fun e=>(hu 8 (by decide)).trans (h.s8 (dn_up e (by decide)))),(fun e=>by obtain ⟨Yb,h1,h2,h3,z,h4,h5,h6⟩:=h.s9 (dn_up e (by decide));exact ⟨Yb,(hu 9 (by decide)).trans h1,h2,h3,z,h4,h5,fun e10=>h6 (dn_up e10 (by decide))⟩),(fun _=>hown)⟩
theorem AwJ.grow {W3:World} {P x X:Nat} {V:List Value} {YU:Value→List Value} {OkU:Value→Prop} {S3:World→Prop} {L:Nat→Bool} {u:Nat→Value} {W W':World} (h:AwJ W3 P x X V YU OkU S3 L u W) (k3:∀ W W',S3 W→Below W.heap.size W W'→S3 W') (hb:Below W.heap.size W W'):AwJ W3 P x X V YU OkU S3 L u W':=by
 refine ⟨fun e=>(h.pre e).trans (hb.mono h.sz),fun e=>k3 _ _ (h.post e) hb,Nat.le_trans h.sz hb.size,row_kept h.vx hb,h.c0,h.c1,h.c2,h.c3,h.c4,h.s5,h.s6,h.s7,h.s8,fun e=>?_,h.s11⟩
 obtain ⟨Yb,h1,h2,h3,z,h4,h5,h6⟩:=h.s9 e
 exact ⟨Yb,h1,h2,h3,z,h4,row_kept h5 hb,h6⟩
theorem AwJ.five {W3:World} {P x X hi:Nat} {V:List Value} {YU:Value→List Value} {OkU:Value→Prop} {S3:World→Prop} {L:Nat→Bool} {u u':Nat→Value} {W W':World} (h:AwJ W3 P x X V YU OkU S3 L u W) (hu:∀ j,j ≠ 5→u' j=u j) (n5:L 5=false) (n7:L 7=false) (hX:hi ≤ X) (h3:hi ≤ W3.heap.size) (hs:S3 W') (hz:W.heap.size ≤ W'.heap.size) (hfr:∀ k o,hi ≤ k→W.heap[k]? = some o→W'.heap[k]? = some o) (hown:∃ q,OkU q∧u' 5 = .tuple #[.agg (YU q).toArray,nu 0]):AwJ W3 P x X V YU OkU S3 (up L 5) u' W':=by
 refine ⟨fun e=>(by rw [up_self] at e;cases e),fun _=>hs,Nat.le_trans h.sz hz,hfr _ _ hX h.vx,fun e=>(hu 0 (by decide)).trans (h.c0 (dn_up e (by decide))),fun e=>(hu 1 (by decide)).trans (h.c1 (dn_up e (by decide))),fun e=>(hu 2 (by decide)).trans (h.c2 (dn_up e (by decide))),fun e=>(hu 3 (by decide)).trans (h.c3 (dn_up e (by decide))),fun e=>(hu 4 (by decide)).trans (h.c4 (dn_up e (by decide))),fun _=>hown,fun e=>absurd (h.s6 (dn_up e (by decide))).1 (by rw [n5];decide),fun e=>absurd (dn_up e (by decide)) (by rw [n7];decide),fun e=>(hu 8 (by decide)).trans (h.s8 (dn_up e (by decide))),fun e=>?_,fun e=>(hu 11 (by decide)).trans (h.s11 (dn_up e (by decide)))⟩
 obtain ⟨Yb,h1,h2,h4,z,h5,h6,h7⟩:=h.s9 (dn_up e (by decide))
 exact ⟨Yb,(hu 9 (by decide)).trans h1,h2,h4,z,h5,hfr _ _ (by omega) h6,fun e10=>h7 (dn_up e10 (by decide))⟩
theorem AwJ.put {W3:World} {P x X:Nat} {V:List Value} {YU:Value→List Value} {OkU:Value→Prop} {S3:World→Prop} {L:Nat→Bool} {u:Nat→Value} {W w1:World} {Yb:Nat} {z:List Value} (h:AwJ W3 P x X V YU OkU S3 L u W) (ks:∀ B W W',X ≤ B→S3 W→But B W W'→S3 W') (hX3:X ≤ W3.heap.size) (l5:L 5=true) (h1:u 9=pt Yb 0) (h2:W3.heap.size ≤ Yb) (h3:Yb ≠ X) (hb:But Yb W w1) (hl:z.length=103) (hr:w1.heap[Yb]? = some (.cells z.toArray 42)) (n10:L 10=false):AwJ W3 P x X V YU OkU S3 L u w1:=by
 refine ⟨fun e=>absurd l5 (by rw [e];decide),fun _=>ks Yb _ _ (Nat.le_trans hX3 h2) (h.post l5) hb,by rw [hb.size];exact h.sz,hb.row h.vx (Ne.symm h3),h.c0,h.c1,h.c2,h.c3,h.c4,h.s5,h.s6,h.s7,h.s8,fun _=>⟨Yb,h1,h2,h3,z,hl,hr,fun e=>absurd e (by rw [n10];decide)⟩,h.s11⟩
theorem AwP {W3 W:World} {P p x X:Nat} {V:List Value} {YU:Value→List Value} {OkU:Value→Prop} {S3:World→Prop} {L:Nat→Bool} {u:Nat→Value} {q1 q3 q4 q5:Value} (hr:W3.heap[P]? = some (.cells #[pt p 0,q1,pt x 0,q3,q4,q5] 68)) (n5:L 5=false) (h:AwJ W3 P x X V YU OkU S3 L u W):W.cell? ⟨P,2,none⟩=some (pt x 0):=row_zeroY (cs:=[pt p 0,q1,pt x 0,q3,q4,q5]) (row_kept hr (h.pre n5)) 2 _ rfl
theorem vawake_core {w:World} {V Z ZY ZG G1 G2:List Value} {YU:Value→List Value} {OkU:Value→Prop} {S1:Nat→World→Prop} {S2:Nat→Nat→Nat→Nat→World→Prop} {S3:Nat→Nat→Nat→World→Prop} {En:World→Prop}
  (HB:Hid (Calls Tryz.prog 13 #[nu 3] w fun e w'=>∃ P,e = .returned (pt P 0)∧S1 P w'))
  (HS:Hid (∀ P W,S1 P W→Calls Tryz.prog 14 #[pt P 0,.agg #[nu 0,nu 1,nu 0,st [118]]] W fun e w'=>e = .returned (.agg V.toArray)∧∃ p x,S2 P p x w'.heap.size w'))
  (k2:Hid (∀ P p x hi W W',S2 P p x hi W→Below W.heap.size W W'→S2 P p x hi W')) (r2:Hid (∀ P p x hi W,S2 P p x hi W→∃ q1 q3 q4 q5,W.heap[P]? = some (.cells #[pt p 0,q1,pt x 0,q3,q4,q5] 68)))
  (HR:Hid (∀ P p x hi W,S2 P p x hi W→Calls Tryz.prog 15 #[pt x 0,nu 1,.agg V.toArray] W fun e w'=>∃ q,e = .returned (.tuple #[.agg (YU q).toArray,nu 0])∧OkU q∧S3 P p hi w'∧W.heap.size ≤ w'.heap.size∧∀ k o,hi ≤ k→W.heap[k]? = some o→w'.heap[k]? = some o))
  (k3:Hid (∀ P p hi W W',S3 P p hi W→Below W.heap.size W W'→S3 P p hi W')) (ks:Hid (∀ P p hi B W W',S3 P p hi W→hi ≤ B→But B W W'→S3 P p hi W')) (r3:Hid (∀ P p hi W,S3 P p hi W→∃ q1 q2 q3 q4 q5,W.heap[P]? = some (.cells #[pt p 0,q1,q2,q3,q4,q5] 68))) (ke:Hid (∀ P p hi W,S3 P p hi W→En W))
  (HC1:Hid (∀ P p hi q W,OkU q→S3 P p hi W→Calls Tryz.prog 10 #[pt p 0,nu 1,st [],.agg V.toArray,.agg (YU q).toArray] W fun e w'=>e = .returned (.tuple #[.agg G1.toArray,nu 0])∧Below W.heap.size W w'))
  (HC2:Hid (∀ P p hi q W,OkU q→S3 P p hi W→Calls Tryz.prog 10 #[pt p 0,nu 1,st [],.agg V.toArray,.agg (nu 2 :: (YU q).tail).toArray] W fun e w'=>e = .returned (.tuple #[.agg G2.toArray,nu 2])∧Below W.heap.size W w'))
  (ZS:(Tryz.prog.info? 39).map (·.zero)=some (some (.agg Z.toArray))) (LZV:Hid (Z.length=V.length)) (OV:Hid (∀ v ∈ V,v.oneCell' = true)) (ZV:Hid ((Tryz.prog.info? 39).map (·.size)=some V.length))
  (ZYz:(Tryz.prog.info? 42).map (·.zero)=some (some (.agg ZY.toArray))) (LZY:ZY.length=103) (zy:Hid ((Tryz.prog.info? 42).map (·.size)=some 103)) (LYU:Hid (∀ q,(YU q).length=103)) (OYU:Hid (∀ q,OkU q→∀ v ∈ YU q,v.oneCell' = true)) (YH:Hid (∀ q,∃ t,YU q=nu 1 :: t))
  (ZGz:(Tryz.prog.info? 46).map (·.zero)=some (some (.agg ZG.toArray))) (LZG:ZG.length=70) (LG1:G1.length=70) (OG1:Hid (∀ v ∈ G1,v.oneCell' = true)) (ZG1:Hid ((Tryz.prog.info? 46).map (·.size)=some G1.length)) (LG2:G2.length=70) (OG2:Hid (∀ v ∈ G2,v.oneCell' = true)) (ZG2:Hid ((Tryz.prog.info? 46).map (·.size)=some G2.length))
  (g0:Hid (G1[0]? = some (st [1]))) (g3:Hid (G1[3]? = some (nu (-1)))) :
  Calls Tryz.prog 7 #[] w fun e w'=>e = .returned (.bool true)∧En w':=by
 go_enter Tryz.func7,Tryz.ntmps7
 go_wp2_with fail
 refine HB.out.mono ?_
 rintro e W1 ⟨P,rfl,s1⟩
 go_wp2_with fail
 refine (HS.out P _ s1).mono ?_
 rintro e W2 ⟨rfl,p,x,s2⟩
 clear s1
 go_upto_region 5 with (first
  | ((with_reducible refine wl_alloc 39 ?_ ?_ Z.toArray ZS ?_);exact rfl;exact rfl)
  | ((with_reducible refine wl_store_top 39 (.tmp 2) (.tmp 14) ?_ ?_ ?_ ?_ V Z ?_ 39 ?_ OV.out ZV.out ?_);exact rfl;exact rfl;exact rfl;exact rfl;exact rfl;exact LZV.out))
 try simp only [Act.put,List.setIfInBounds_toArray,List.set_cons_zero,List.set_cons_succ]
 have X3:=hid (top_obj W2 (.cells V.toArray 39))
 have s3:=hid (k2.out _ _ _ _ _ _ s2 (below_a1 W2 (.cells V.toArray 39)))
 have hz3:=(below_a1 W2 (.cells V.toArray 39)).size
 obtain ⟨X,hX⟩:∃ X,W2.heap.size=X:=⟨_,rfl⟩
 rw [hX] at X3 s3 hz3 ⊢
 clear s2 hX
 generalize W2.alloc (.cells V.toArray 39)=W3 at *
 have hXl:=row_ltA X3.out
 obtain ⟨q1,q3,q4,q5,rP⟩:=r2.out _ _ _ _ _ s3.out
 have RP:=hid rP
 clear rP
 refine wp_region_mr (N:=65) (AwJ W3 P x X V YU OkU (S3 P p X)) (fun u=>[(16,u 0),(17,u 1),(18,u 2),(19,u 3),(20,u 4),(21,u 5),(15,u 6),(22,u 7),(23,u 8),(3,u 9),(4,u 11)]) (by kernel_rfl) (by kernel_rfl) rfl (fun u=>by kernel_rfl) (fun u w1 hb=>⟨fun _=>hb,(fun e=>by cases e),hb.size,row_kept X3.out hb,(fun e=>by cases e),(fun e=>by cases e),(fun e=>by cases e),(fun e=>by cases e),(fun e=>by cases e),(fun e=>by cases e),(fun e=>by cases e),(fun e=>by cases e),(fun e=>by cases e),(fun e=>by cases e),(fun e=>by cases e)⟩) ?_ ?_
 ·intro i o ho
  match i,ho with
  | 0,ho=>cases ho;intro L a W u hLi hw hnot hJ hk hv K h;exact op_move 1 (pt P 0) rfl (hk 1 (by kernel_rfl)) (h _ _ (fun u1 hu hi=>hJ.up0 hu (hi rfl)))
  | 1,ho=>cases ho;intro L a W u hLi hw hnot hJ hk hv K h;exact op_nil 16 P 0 rfl ((hv 0 16 (hw 0 (by kernel_rfl)) (by kernel_rfl)).trans (hJ.c0 (hw 0 (by kernel_rfl)))) (h _ _ (fun u1 hu hi=>hJ.up1 hu (hi rfl)))
  | 2,ho=>cases ho;intro L a W u hLi hw hnot hJ hk hv K h;exact op_fa 17 _ 2 P 0 2 rfl (fun W=>by kernel_rfl) ((hv 1 17 (hw 1 (by kernel_rfl)) (by kernel_rfl)).trans (hJ.c1 (hw 1 (by kernel_rfl)))) (h _ _ (fun u1 hu hi=>hJ.up2 hu (hi rfl)))
  | 3,ho=>cases ho;intro L a W u hLi hw hnot hJ hk hv K h;exact op_load1 _ (.tmp 18) rfl P 2 ((hv 2 18 (hw 2 (by kernel_rfl)) (by kernel_rfl)).trans (hJ.c2 (hw 2 (by kernel_rfl)))) (pt x 0) _ (AwP RP.out (hnot 5 _ rfl (by kernel_rfl)) hJ) Tryz.underlying65 rfl (h _ _ (fun u1 hu hi=>hJ.up3 hu (hi rfl)))
  | 4,ho=>cases ho;intro L a W u hLi hw hnot hJ hk hv K h;exact op_load _ (.tmp 2) rfl X 0 (hk 2 (by kernel_rfl)) V _ (row_zeroY hJ.vx) Tryz.underlying39 rfl ZV.out (h _ _ (fun u1 hu hi=>hJ.up4 hu (hi rfl)))
  | 5,ho =>
   cases ho
   intro L a W u hLi hw hnot hJ hk hv K h
   refine op_callE 15 [.tmp 19,.const (nu 1),.tmp 20] _ #[pt x 0,nu 1,.agg V.toArray] rfl (fun _ _=>by kernel_rfl) (args3 ((hv 3 19 (hw 3 (by kernel_rfl)) (by kernel_rfl)).trans (hJ.c3 (hw 3 (by kernel_rfl)))) rfl ((hv 4 20 (hw 4 (by kernel_rfl)) (by kernel_rfl)).trans (hJ.c4 (hw 4 (by kernel_rfl))))) (R:=fun v w1=>∃ q,v = .tuple #[.agg (YU q).toArray,nu 0]∧OkU q∧S3 P p X w1∧W.heap.size ≤ w1.heap.size∧∀ k o,X ≤ k→W.heap[k]? = some o→w1.heap[k]? = some o) ?_ ?_
   ·refine (HR.out _ _ _ _ _ (k2.out _ _ _ _ _ _ s3.out (hJ.pre hLi))).mono ?_
    rintro e w1 ⟨q,rfl,h1,h2,h3,h4⟩
    exact ⟨_,rfl,q,rfl,h1,h2,h3,h4⟩
   ·rintro v w1 ⟨q,rfl,h1,h2,h3,h4⟩
    refine h _ _ (fun u1 hu hi=>hJ.five hu hLi ?_ (Nat.le_refl X) (by omega) h2 h3 h4 ⟨q,h1,hi rfl⟩)
    cases e7:L 7 with
    | false=>rfl
    | true=>exact absurd (hJ.s6 (hJ.s7 e7).1).1 (by rw [hLi];decide)
  | 6,ho =>
   cases ho
   intro L a W u hLi hw hnot hJ hk hv K h
   have l5:=hw 5 (by kernel_rfl)
   exact op_move 21 (u 5) rfl (hv 5 21 l5 (by kernel_rfl)) (h _ _ (fun u1 hu hi=>hJ.up6 hu ⟨up_keep l5,(hi rfl).trans (hu 5 (by decide)).symm⟩))
  | 7,ho =>
   cases ho
   intro L a W u hLi hw hnot hJ hk hv K h
   have l6:=hw 6 (by kernel_rfl)
   obtain ⟨l5,e6⟩:=hJ.s6 l6
   obtain ⟨q,h1,h2⟩:=hJ.s5 l5
   exact op_extract 15 0 _ (.agg (YU q).toArray) rfl ((hv 6 15 l6 (by kernel_rfl)).trans (e6.trans h2)) rfl (h _ _ (fun u1 hu hi=>hJ.up7 hu ⟨up_keep l6,q,h1,hi rfl⟩))
  | 8,ho =>
   cases ho
   intro L a W u hLi hw hnot hJ hk hv K h
   have l6:=hw 6 (by kernel_rfl)
   obtain ⟨l5,e6⟩:=hJ.s6 l6
   obtain ⟨q,h1,h2⟩:=hJ.s5 l5
   exact op_extract 15 1 _ (nu 0) rfl ((hv 6 15 l6 (by kernel_rfl)).trans (e6.trans h2)) rfl (h _ _ (fun u1 hu hi=>hJ.up8 hu (hi rfl)))
  | 9,ho =>
   cases ho
   intro L a W u hLi hw hnot hJ hk hv K h
   have n10:L 10=false:=hnot 10 _ rfl (by kernel_rfl)
   have hvl:=row_ltA hJ.vx
   exact op_alloc _ rfl ZY.toArray ZYz (h _ _ (fun u1 hu hi=>(hJ.grow (k3.out P p X) (below_a1 W _)).up9 hu ⟨W.heap.size,hi rfl,hJ.sz,by omega,ZY,LZY,top_obj W _,fun e=>absurd (dn_up e (by decide)) (by rw [n10];decide)⟩))
  | 10,ho =>
   cases ho
   intro L a W u hLi hw hnot hJ hk hv K h
   have l9:=hw 9 (by kernel_rfl)
   have l7:=hw 7 (by kernel_rfl)
   obtain ⟨Yb,h1,h2,h3,z,h4,h5,-⟩:=hJ.s9 l9
   obtain ⟨l6,q,h6,h7⟩:=hJ.s7 l7
   have l5:=(hJ.s6 l6).1
   have hzy:(Tryz.prog.info? 42).map (·.size)=some (YU q).length:=by rw [LYU.out];exact zy.out
   refine op_put _ 3 22 rfl rfl Yb 0 ((hv 9 3 l9 (by kernel_rfl)).trans h1) [] (YU q) z [] ((hv 7 22 l7 (by kernel_rfl)).trans h7) _ (row_nilY h5) rfl (h4.trans (LYU.out q).symm) (OYU.out q h6) hzy (fun w1 hr hb=>?_)
   have hr':w1.heap[Yb]? = some (.cells (YU q).toArray 42):=by simpa using hr
   refine h undef _ (fun u1 hu hi=>?_)
   have hJ2:AwJ W3 P x X V YU OkU (S3 P p X) L u w1:=AwJ.put hJ (fun B W W' hB h0 hb=>ks.out P p X B W W' h0 hB hb) (Nat.le_of_lt hXl) l5 h1 h2 h3 hb (LYU.out q) hr' hLi
   exact hJ2.up10 hu (fun e9=>⟨Yb,(hu 9 (by decide)).trans h1,h2,h3,YU q,LYU.out q,hr',fun _=>⟨q,h6,rfl⟩⟩)
  | 11,ho =>
   cases ho
   intro L a W u hLi hw hnot hJ hk hv K h
   have l8:=hw 8 (by kernel_rfl)
   exact op_assign 23 (nu 0) rfl ((hv 8 23 l8 (by kernel_rfl)).trans (hJ.s8 l8)) (h _ _ (fun u1 hu hi=>hJ.up11 hu (hi rfl)))
  | (i + 12),ho=>exact absurd ho (by simp)
 intro u LL W5 hall hJ
 simp only [List.foldl_cons,List.foldl_nil,List.setIfInBounds_toArray,List.set_cons_zero,List.set_cons_succ]
 obtain ⟨Yb,f9,hYb,hYX,z,hz,ry,hq⟩:=hJ.s9 (hall 9 (by decide))
 obtain ⟨q,okq,rfl⟩:=hq (hall 10 (by decide))
 have s6:=hid (hJ.post (hall 5 (by decide)))
 rw [f9,hJ.s11 (hall 11 (by decide))]
 generalize u 0=u0
 generalize u 1=u1
 generalize u 2=u2
 generalize u 3=u3
 generalize u 4=u4
 generalize u 5=u5
 generalize u 6=u6
 generalize u 7=u7
 generalize u 8=u8
 have X6:=hid hJ.vx
 have Y6:=hid ry
 have OKQ:=hid okq
 have hX6:=row_ltA hJ.vx
 have hY6:=row_ltA ry
 clear hJ hall ry hq hz okq f9 s3 RP X3 HB HS HR k2 r2
 obtain ⟨q1,q2,q3,q4,q5,rp6⟩:=r3.out _ _ _ _ s6.out
 have P6:=hid rp6
 clear rp6
 have HC1:=hid (fun W (h:S3 P p X W)=>HC1.out _ _ _ q W OKQ.out h)
 have HC2:=hid (fun W (h:S3 P p X W)=>HC2.out _ _ _ q W OKQ.out h)
 obtain ⟨t,ht⟩:=YH.out q
 have LY:=LYU.out q
 rw [ht] at Y6 HC1 HC2 LY
 have e2:(nu 1 :: t).tail=t:=rfl
 rw [e2] at HC2
 clear e2 ht OKQ YH LYU OYU
 obtain ⟨Y1,hY1⟩:∃ Y1,(nu 1 :: t:List Value)=Y1:=⟨_,rfl⟩
 obtain ⟨Y2,hY2⟩:∃ Y2,(nu 2 :: t:List Value)=Y2:=⟨_,rfl⟩
 have LY2:Y2.length=103:=by rw [← hY2];simpa using LY
 have ZY1:Hid ((Tryz.prog.info? 42).map (·.size)=some Y1.length):=hid (by rw [← hY1,LY];exact zy.out)
 have ZY2:Hid ((Tryz.prog.info? 42).map (·.size)=some Y2.length):=hid (by rw [LY2];exact zy.out)
 have HY1:=hid hY1
 have HY2:=hid hY2
 rw [hY1] at Y6 HC1
 rw [hY2] at HC2
 clear hY1 hY2 LY
 go_upto_region 6 with fail
 refine wp_region_nj (N:=65) 10 11 5 46 70 G1 W5.heap.size [(pt P 0),(pt P 0),(pt P 0),(pt p 0),(.agg (V).toArray),(.agg (Y1).toArray),(.tuple #[(.agg G1.toArray),(nu 0)]),(.tuple #[(.agg G1.toArray),(nu 0)]),(.agg G1.toArray),(nu 0),undef,undef,(nu 0)] (fun _ w=>Below W5.heap.size W5 w) (fun g=>[(25,(pt P 0)),(26,(pt P 0)),(27,(pt P 0)),(28,(pt p 0)),(29,(.agg (V).toArray)),(30,(.agg (Y1).toArray)),(31,(.tuple #[(.agg G1.toArray),(nu 0)])),(24,(.tuple #[(.agg G1.toArray),(nu 0)])),(32,(.agg G1.toArray)),(33,(nu 0)),(5,(pt g 0)),(6,(nu 0))]) (by kernel_rfl) (by kernel_rfl) rfl (by kernel_rfl) (by decide) (by simp) (fun g=>by kernel_rfl) (fun _ h=>h) ?_ ?_
 ·intro i o ho
  match i,ho with
  | 0,ho=>cases ho;exact oweN (pt P 0) (by decide) (by decide) rfl (fun L a w hLi hJ hw hnot hk hv K h=>op_move 1 _ rfl (hk 1 (by kernel_rfl)) (h _ hJ (fun _ _ _ e=>e)))
  | 1,ho=>cases ho;exact oweN (pt P 0) (by decide) (by decide) rfl (fun L a w hLi hJ hw hnot hk hv K h=>op_nil 25 P 0 rfl (hv 0 25 (by kernel_rfl) (by decide) (by kernel_rfl)) (h _ hJ (fun _ _ _ e=>e)))
  | 2,ho=>cases ho;exact oweN (pt P 0) (by decide) (by decide) rfl (fun L a w hLi hJ hw hnot hk hv K h=>op_fa 26 _ 0 P 0 0 rfl (fun W=>by kernel_rfl) (hv 1 26 (by kernel_rfl) (by decide) (by kernel_rfl)) (h _ hJ (fun _ _ _ e=>e)))
  | 3,ho=>cases ho;exact oweN (pt p 0) (by decide) (by decide) rfl (fun L a w hLi hJ hw hnot hk hv K h=>op_load1 _ (.tmp 27) rfl P 0 (hv 2 27 (by kernel_rfl) (by decide) (by kernel_rfl)) (pt p 0) _ (row_zeroY (cs:=[pt p 0,q1,q2,q3,q4,q5]) (row_kept P6.out hJ) 0 _ rfl) Tryz.underlying26 rfl (h _ hJ (fun _ _ _ e=>e)))
  | 4,ho=>cases ho;exact oweN (.agg (V).toArray) (by decide) (by decide) rfl (fun L a w hLi hJ hw hnot hk hv K h=>op_load _ (.tmp 2) rfl X 0 (hk 2 (by kernel_rfl)) (V) _ (row_zeroY (row_kept X6.out hJ)) Tryz.underlying39 rfl ZV.out (h _ hJ (fun _ _ _ e=>e)))
  | 5,ho=>cases ho;exact oweN (.agg (Y1).toArray) (by decide) (by decide) rfl (fun L a w hLi hJ hw hnot hk hv K h=>op_load _ (.tmp 3) rfl Yb 0 (hk 3 (by kernel_rfl)) (Y1) _ (row_zeroY (row_kept Y6.out hJ)) Tryz.underlying42 rfl ZY1.out (h _ hJ (fun _ _ _ e=>e)))
  | 6,ho=>cases ho;exact oweN (.tuple #[(.agg G1.toArray),(nu 0)]) (by decide) (by decide) rfl (fun L a w hLi hJ hw hnot hk hv K h=>op_call 10 [.tmp 28,.const (nu (1)),.const (Value.string { data:=#[] }),.tmp 29,.tmp 30] _ #[(pt p 0),(nu (1)),(Value.string { data:=#[] }),(.agg (V).toArray),(.agg (Y1).toArray)] (.tuple #[(.agg G1.toArray),(nu 0)]) rfl (fun _ _=>by kernel_rfl) (args5 (hv 3 28 (by kernel_rfl) (by decide) (by kernel_rfl)) rfl rfl (hv 4 29 (by kernel_rfl) (by decide) (by kernel_rfl)) (hv 5 30 (by kernel_rfl) (by decide) (by kernel_rfl))) (J:=fun w1=>Below w.heap.size w w1) (HC1.out w (k3.out _ _ _ _ _ s6.out hJ)) (fun w1 e1=>h _ (hJ.trans (e1.mono hJ.size)) (fun _ _ _ e=>row_kept e e1)))
  | 7,ho=>cases ho;exact oweN (.tuple #[(.agg G1.toArray),(nu 0)]) (by decide) (by decide) rfl (fun L a w hLi hJ hw hnot hk hv K h=>op_move 31 _ rfl (hv 6 31 (by kernel_rfl) (by decide) (by kernel_rfl)) (h _ hJ (fun _ _ _ e=>e)))
  | 8,ho=>cases ho;exact oweN (.agg G1.toArray) (by decide) (by decide) rfl (fun L a w hLi hJ hw hnot hk hv K h=>op_extract 24 0 #[(.agg G1.toArray),(nu 0)] _ rfl (hv 7 24 (by kernel_rfl) (by decide) (by kernel_rfl)) rfl (h _ hJ (fun _ _ _ e=>e)))
  | 9,ho=>cases ho;exact oweN (nu 0) (by decide) (by decide) rfl (fun L a w hLi hJ hw hnot hk hv K h=>op_extract 24 1 #[(.agg G1.toArray),(nu 0)] _ rfl (hv 7 24 (by kernel_rfl) (by decide) (by kernel_rfl)) rfl (h _ hJ (fun _ _ _ e=>e)))
  | 10,ho=>cases ho;exact oweN_alloc rfl ZG ZGz LZG _ rfl (by kernel_rfl) (by decide) (fun _ _ h=>h.size) (fun _ w o h=>h.trans ((below_a1 w o).mono h.size))
  | 11,ho=>cases ho;exact oweN_store 5 32 rfl rfl (by kernel_rfl) 8 (by kernel_rfl) (by decide) (by kernel_rfl) (by kernel_rfl) rfl LG1 OG1.out ZG1.out (fun _ w w2 g _ h hg _ hb=>hb.below h hg)
  | 12,ho=>cases ho;exact oweN (nu 0) (by decide) (by decide) rfl (fun L a w hLi hJ hw hnot hk hv K h=>op_assign 33 _ rfl (hv 9 33 (by kernel_rfl) (by decide) (by kernel_rfl)) (h _ hJ (fun _ _ _ e=>e)))
  | (i + 13),ho=>exact absurd ho (by simp)
 intro ga LL W6 hga hra _ hJ
 simp only [List.foldl_cons,List.foldl_nil,List.setIfInBounds_toArray,List.set_cons_zero,List.set_cons_succ]
 have s7:=hid (k3.out _ _ _ _ _ s6.out hJ)
 have X7:=hid (row_kept X6.out hJ)
 have Y7:Hid (W6.heap[Yb]? = some (.cells ([]++([nu 1]++t)).toArray 42)):=hid (by rw [List.nil_append,List.singleton_append,HY1.out];exact row_kept Y6.out hJ)
 have GA7:=hid hra
 have hz0:([]:List Value).length=0:=rfl
 clear hJ hra s6 X6 Y6 P6
 go_upto_region 8 with ((with_reducible refine wl_put1 3 (.tmp 34) (.const (nu 2)) ?_ ?_ Yb 0 ?_ ?_ [] t (nu 1) (nu 2) ?_ 42 Y7.out hz0 ?_ ?_ ?_);exact rfl;exact rfl;exact rfl;exact rfl;exact rfl;exact rfl;exact (by kernel_rfl);intro W8 r8 b8)
 have s8:=hid (ks.out _ _ _ _ _ _ s7.out (Nat.le_trans (Nat.le_of_lt hXl) hYb) b8)
 have X8:=hid (b8.row X7.out (Ne.symm hYX))
 have Y8:Hid (W8.heap[Yb]? = some (.cells Y2.toArray 42)):=hid (by rw [← HY2.out];exact r8)
 have GA8:=hid (b8.row GA7.out (by omega))
 clear r8 b8 s7 X7 Y7 GA7
 obtain ⟨q1',q2',q3',q4',q5',rp8⟩:=r3.out _ _ _ _ s8.out
 clear q1 q2 q3 q4 q5
 obtain ⟨q1,e1⟩:∃ q1,q1' = q1:=⟨_,rfl⟩
 obtain ⟨q2,e2⟩:∃ q2,q2' = q2:=⟨_,rfl⟩
 obtain ⟨q3,e3⟩:∃ q3,q3' = q3:=⟨_,rfl⟩
 obtain ⟨q4,e4⟩:∃ q4,q4' = q4:=⟨_,rfl⟩
 obtain ⟨q5,e5⟩:∃ q5,q5' = q5:=⟨_,rfl⟩
 rw [e1,e2,e3,e4,e5] at rp8
 have P8:=hid rp8
 clear rp8 e1 e2 e3 e4 e5
 refine wp_region_nj (N:=65) 10 11 7 46 70 G2 W8.heap.size [(pt P 0),(pt P 0),(pt P 0),(pt p 0),(.agg (V).toArray),(.agg (Y2).toArray),(.tuple #[(.agg G2.toArray),(nu 2)]),(.tuple #[(.agg G2.toArray),(nu 2)]),(.agg G2.toArray),(nu 2),undef,undef,(nu 2)] (fun _ w=>Below W8.heap.size W8 w) (fun g=>[(36,(pt P 0)),(37,(pt P 0)),(38,(pt P 0)),(39,(pt p 0)),(40,(.agg (V).toArray)),(41,(.agg (Y2).toArray)),(42,(.tuple #[(.agg G2.toArray),(nu 2)])),(35,(.tuple #[(.agg G2.toArray),(nu 2)])),(43,(.agg G2.toArray)),(44,(nu 2)),(7,(pt g 0)),(8,(nu 2))]) (by kernel_rfl) (by kernel_rfl) rfl (by kernel_rfl) (by decide) (by simp) (fun g=>by kernel_rfl) (fun _ h=>h) ?_ ?_
 ·intro i o ho
  match i,ho with
  | 0,ho=>cases ho;exact oweN (pt P 0) (by decide) (by decide) rfl (fun L a w hLi hJ hw hnot hk hv K h=>op_move 1 _ rfl (hk 1 (by kernel_rfl)) (h _ hJ (fun _ _ _ e=>e)))
  | 1,ho=>cases ho;exact oweN (pt P 0) (by decide) (by decide) rfl (fun L a w hLi hJ hw hnot hk hv K h=>op_nil 36 P 0 rfl (hv 0 36 (by kernel_rfl) (by decide) (by kernel_rfl)) (h _ hJ (fun _ _ _ e=>e)))
  | 2,ho=>cases ho;exact oweN (pt P 0) (by decide) (by decide) rfl (fun L a w hLi hJ hw hnot hk hv K h=>op_fa 37 _ 0 P 0 0 rfl (fun W=>by kernel_rfl) (hv 1 37 (by kernel_rfl) (by decide) (by kernel_rfl)) (h _ hJ (fun _ _ _ e=>e)))
  | 3,ho=>cases ho;exact oweN (pt p 0) (by decide) (by decide) rfl (fun L a w hLi hJ hw hnot hk hv K h=>op_load1 _ (.tmp 38) rfl P 0 (hv 2 38 (by kernel_rfl) (by decide) (by kernel_rfl)) (pt p 0) _ (row_zeroY (cs:=[pt p 0,q1,q2,q3,q4,q5]) (row_kept P8.out hJ) 0 _ rfl) Tryz.underlying26 rfl (h _ hJ (fun _ _ _ e=>e)))
  | 4,ho=>cases ho;exact oweN (.agg (V).toArray) (by decide) (by decide) rfl (fun L a w hLi hJ hw hnot hk hv K h=>op_load _ (.tmp 2) rfl X 0 (hk 2 (by kernel_rfl)) (V) _ (row_zeroY (row_kept X8.out hJ)) Tryz.underlying39 rfl ZV.out (h _ hJ (fun _ _ _ e=>e)))
  | 5,ho=>cases ho;exact oweN (.agg (Y2).toArray) (by decide) (by decide) rfl (fun L a w hLi hJ hw hnot hk hv K h=>op_load _ (.tmp 3) rfl Yb 0 (hk 3 (by kernel_rfl)) (Y2) _ (row_zeroY (row_kept Y8.out hJ)) Tryz.underlying42 rfl ZY2.out (h _ hJ (fun _ _ _ e=>e)))
  | 6,ho=>cases ho;exact oweN (.tuple #[(.agg G2.toArray),(nu 2)]) (by decide) (by decide) rfl (fun L a w hLi hJ hw hnot hk hv K h=>op_call 10 [.tmp 39,.const (nu (1)),.const (Value.string { data:=#[] }),.tmp 40,.tmp 41] _ #[(pt p 0),(nu (1)),(Value.string { data:=#[] }),(.agg (V).toArray),(.agg (Y2).toArray)] (.tuple #[(.agg G2.toArray),(nu 2)]) rfl (fun _ _=>by kernel_rfl) (args5 (hv 3 39 (by kernel_rfl) (by decide) (by kernel_rfl)) rfl rfl (hv 4 40 (by kernel_rfl) (by decide) (by kernel_rfl)) (hv 5 41 (by kernel_rfl) (by decide) (by kernel_rfl))) (J:=fun w1=>Below w.heap.size w w1) (HC2.out w (k3.out _ _ _ _ _ s8.out hJ)) (fun w1 e1=>h _ (hJ.trans (e1.mono hJ.size)) (fun _ _ _ e=>row_kept e e1)))
  | 7,ho=>cases ho;exact oweN (.tuple #[(.agg G2.toArray),(nu 2)]) (by decide) (by decide) rfl (fun L a w hLi hJ hw hnot hk hv K h=>op_move 42 _ rfl (hv 6 42 (by kernel_rfl) (by decide) (by kernel_rfl)) (h _ hJ (fun _ _ _ e=>e)))
  | 8,ho=>cases ho;exact oweN (.agg G2.toArray) (by decide) (by decide) rfl (fun L a w hLi hJ hw hnot hk hv K h=>op_extract 35 0 #[(.agg G2.toArray),(nu 2)] _ rfl (hv 7 35 (by kernel_rfl) (by decide) (by kernel_rfl)) rfl (h _ hJ (fun _ _ _ e=>e)))
  | 9,ho=>cases ho;exact oweN (nu 2) (by decide) (by decide) rfl (fun L a w hLi hJ hw hnot hk hv K h=>op_extract 35 1 #[(.agg G2.toArray),(nu 2)] _ rfl (hv 7 35 (by kernel_rfl) (by decide) (by kernel_rfl)) rfl (h _ hJ (fun _ _ _ e=>e)))
  | 10,ho=>cases ho;exact oweN_alloc rfl ZG ZGz LZG _ rfl (by kernel_rfl) (by decide) (fun _ _ h=>h.size) (fun _ w o h=>h.trans ((below_a1 w o).mono h.size))
  | 11,ho=>cases ho;exact oweN_store 7 43 rfl rfl (by kernel_rfl) 8 (by kernel_rfl) (by decide) (by kernel_rfl) (by kernel_rfl) rfl LG2 OG2.out ZG2.out (fun _ w w2 g _ h hg _ hb=>hb.below h hg)
  | 12,ho=>cases ho;exact oweN (nu 2) (by decide) (by decide) rfl (fun L a w hLi hJ hw hnot hk hv K h=>op_assign 44 _ rfl (hv 9 44 (by kernel_rfl) (by decide) (by kernel_rfl)) (h _ hJ (fun _ _ _ e=>e)))
  | (i + 13),ho=>exact absurd ho (by simp)
 intro gb LL W9 hgb hrb _ hJ
 simp only [List.foldl_cons,List.foldl_nil,List.setIfInBounds_toArray,List.set_cons_zero,List.set_cons_succ]
 have s9:=hid (k3.out _ _ _ _ _ s8.out hJ)
 have ga9:=row_kept GA8.out hJ
 have d0:=row_zeroY ga9 0 _ g0.out
 have d3:=row_zeroY ga9 3 _ g3.out
 rw [Nat.zero_add] at d0 d3
 clear hJ hrb s8 X8 Y8 P8 GA8 ga9
 go_wp2
 go_ret
 exact ⟨rfl,ke.out _ _ _ _ s9.out⟩
end Go.Proofs.YthkkjjlpahdagaaGreatDoor.Ms
