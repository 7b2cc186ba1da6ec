/-
  What honest play begins with (law14.begun): a ring, its reference, registers, and three rows of texts.
-/
import Derived.Test.YthkkjjlpahdagaaGreatDoorU01
import Derived.Test.YthkkjjlpahdagaaGreatDoorU03
import Derived.Test.YthkkjjlpahdagaaGreatDoorS23
set_option maxHeartbeats 8000000
namespace Go.Proofs.YthkkjjlpahdagaaGreatDoor.Ms
open Go Go.RowKit
set_option maxRecDepth 100000
structure BgJ (W0:World) (p q:Nat) (L:Nat→Bool) (u:Nat→Value) (W:World):Prop where
 low:Below W0.heap.size W0 W
 c0:L 0=true→u 0=pt p 0
 c1:L 1=true→u 1=pt q 0
 c2:L 2=true→u 2=nu 3
 c4:L 4=true→u 4=nu 3
 c6:L 6=true→u 6=nu 3
 c8:L 8=true→u 8=nu 3
 s3:L 3=true→∃ x G,u 3=pt x 0∧RY W x G (newR 3)∧(∀ b ∈ G,W0.heap.size ≤ b)∧(L 9=true→∀ g,u 9=sl g 3→g ∉ G)∧(L 11=true→∀ P,u 11=pt P 0→P ∉ G)
 s5:L 5=true→∃ g,u 5=sl g 3∧W0.heap.size ≤ g∧W.heap[g]? = some (.cells (rowV 3).toArray 9)
 s7:L 7=true→∃ g,u 7=sl g 3∧W0.heap.size ≤ g∧W.heap[g]? = some (.cells (rowV 3).toArray 9)
 s9:L 9=true→∃ g,u 9=sl g 3∧W0.heap.size ≤ g∧W.heap[g]? = some (.cells (rowV 3).toArray 9)
 s10:L 10=true→u 10 = .agg #[u 0,u 1,u 3,u 5,u 7,u 9]∧L 0=true∧L 1=true∧L 3=true∧L 5=true∧L 7=true∧L 9=true
 s11:L 11=true→L 10=true∧∃ P,u 11=pt P 0∧W0.heap.size ≤ P∧W.heap[P]? = some (.cells #[u 0,u 1,u 3,u 5,u 7,u 9] 68)
 s12:L 12=true→L 11=true∧u 12=u 11
theorem BgJ.mono {W0:World} {p q:Nat} {L:Nat→Bool} {u:Nat→Value} {W W':World} (h:BgJ W0 p q L u W) (hb:Below W.heap.size W W'):BgJ W0 p q L u W':=by
 refine ⟨h.low.trans (hb.mono h.low.size),h.c0,h.c1,h.c2,h.c4,h.c6,h.c8,fun e=>?_,fun e=>?_,fun e=>?_,fun e=>?_,h.s10,fun e=>?_,h.s12⟩
 ·obtain ⟨x,G,h1,h2,h3,h4⟩:=h.s3 e
  exact ⟨x,G,h1,h2.kept hb,h3,h4⟩
 ·obtain ⟨g,h1,h2,h3⟩:=h.s5 e
  exact ⟨g,h1,h2,row_kept h3 hb⟩
 ·obtain ⟨g,h1,h2,h3⟩:=h.s7 e
  exact ⟨g,h1,h2,row_kept h3 hb⟩
 ·obtain ⟨g,h1,h2,h3⟩:=h.s9 e
  exact ⟨g,h1,h2,row_kept h3 hb⟩
 ·obtain ⟨e1,P,h1,h2,h3⟩:=h.s11 e
  exact ⟨e1,P,h1,h2,row_kept h3 hb⟩
theorem up_keep {L:Nat→Bool} {i k:Nat} (h:L k=true):up L i k=true:=by unfold up;split;rfl;exact h
theorem BgJ.up0 {W0:World} {p q:Nat} {L:Nat→Bool} {u u':Nat→Value} {W:World} (h:BgJ W0 p q L u W) (hu:∀ j,j ≠ 0→u' j=u j) (n10:L 10=false) (hown:u' 0=pt p 0):BgJ W0 p q (up L 0) u' W :=
 ⟨h.low,(fun _=>hown),(fun e=>(hu 1 (by decide)).trans (h.c1 (dn_up e (by decide)))),(fun e=>(hu 2 (by decide)).trans (h.c2 (dn_up e (by decide)))),(fun e=>(hu 4 (by decide)).trans (h.c4 (dn_up e (by decide)))),(fun e=>(hu 6 (by decide)).trans (h.c6 (dn_up e (by decide)))),(fun e=>(hu 8 (by decide)).trans (h.c8 (dn_up e (by decide)))),(fun e=>by obtain ⟨x,G,h1,h2,h3,h4,h5⟩:=h.s3 (dn_up e (by decide));exact ⟨x,G,(hu 3 (by decide)).trans h1,h2,h3,fun e9 g eg=>h4 (dn_up e9 (by decide)) g ((hu 9 (by decide)).symm.trans eg),fun e9 g eg=>h5 (dn_up e9 (by decide)) g ((hu 11 (by decide)).symm.trans eg)⟩),(fun e=>by obtain ⟨g,h1,h2⟩:=h.s5 (dn_up e (by decide));exact ⟨g,(hu 5 (by decide)).trans h1,h2⟩),(fun e=>by obtain ⟨g,h1,h2⟩:=h.s7 (dn_up e (by decide));exact ⟨g,(hu 7 (by decide)).trans h1,h2⟩),(fun e=>by obtain ⟨g,h1,h2⟩:=h.s9 (dn_up e (by decide));exact ⟨g,(hu 9 (by decide)).trans h1,h2⟩),(fun e=>absurd (dn_up e (by decide)) (by rw [n10];decide)),(fun e=>absurd (h.s11 (dn_up e (by decide))).1 (by rw [n10];decide)),(fun e=>absurd (h.s11 (h.s12 (dn_up e (by decide))).1).1 (by rw [n10];decide))⟩
theorem BgJ.up1 {W0:World} {p q:Nat} {L:Nat→Bool} {u u':Nat→Value} {W:World} (h:BgJ W0 p q L u W) (hu:∀ j,j ≠ 1→u' j=u j) (n10:L 10=false) (hown:u' 1=pt q 0):BgJ W0 p q (up L 1) u' W :=
 ⟨h.low,(fun e=>(hu 0 (by decide)).trans (h.c0 (dn_up e (by decide)))),(fun _=>hown),(fun e=>(hu 2 (by decide)).trans (h.c2 (dn_up e (by decide)))),(fun e=>(hu 4 (by decide)).trans (h.c4 (dn_up e (by decide)))),(fun e=>(hu 6 (by decide)).trans (h.c6 (dn_up e (by decide)))),(fun e=>(hu 8 (by decide)).trans (h.c8 (dn_up e (by decide)))),(fun e=>by obtain ⟨x,G,h1,h2,h3,h4,h5⟩:=h.s3 (dn_up e (by decide));exact ⟨x,G,(hu 3 (by decide)).trans h1,h2,h3,fun e9 g eg=>h4 (dn_up e9 (by decide)) g ((hu 9 (by decide)).symm.trans eg),fun e9 g eg=>h5 (dn_up e9 (by decide)) g ((hu 11 (by decide)).symm.trans eg)⟩),(fun e=>by obtain ⟨g,h1,h2⟩:=h.s5 (dn_up e (by decide));exact ⟨g,(hu 5 (by decide)).trans h1,h2⟩),(fun e=>by obtain ⟨g,h1,h2⟩:=h.s7 (dn_up e (by decide));exact ⟨g,(hu 7 (by decide)).trans h1,h2⟩),(fun e=>by obtain ⟨g,h1,h2⟩:=h.s9 (dn_up e (by decide));exact ⟨g,(hu 9 (by decide)).trans h1,h2⟩),(fun e=>absurd (dn_up e (by decide)) (by rw [n10];decide)),(fun e=>absurd (h.s11 (dn_up e (by decide))).1 (by rw [n10];decide)),(fun e=>absurd (h.s11 (h.s12 (dn_up e (by decide))).1).1 (by rw [n10];decide))⟩
theorem BgJ.up2 {W0:World} {p q:Nat} {L:Nat→Bool} {u u':Nat→Value} {W:World} (h:BgJ W0 p q L u W) (hu:∀ j,j ≠ 2→u' j=u j) (hown:u' 2=nu 3):BgJ W0 p q (up L 2) u' W :=
 ⟨h.low,(fun e=>(hu 0 (by decide)).trans (h.c0 (dn_up e (by decide)))),(fun e=>(hu 1 (by decide)).trans (h.c1 (dn_up e (by decide)))),(fun _=>hown),(fun e=>(hu 4 (by decide)).trans (h.c4 (dn_up e (by decide)))),(fun e=>(hu 6 (by decide)).trans (h.c6 (dn_up e (by decide)))),(fun e=>(hu 8 (by decide)).trans (h.c8 (dn_up e (by decide)))),(fun e=>by obtain ⟨x,G,h1,h2,h3,h4,h5⟩:=h.s3 (dn_up e (by decide));exact ⟨x,G,(hu 3 (by decide)).trans h1,h2,h3,fun e9 g eg=>h4 (dn_up e9 (by decide)) g ((hu 9 (by decide)).symm.trans eg),fun e9 g eg=>h5 (dn_up e9 (by decide)) g ((hu 11 (by decide)).symm.trans eg)⟩),(fun e=>by obtain ⟨g,h1,h2⟩:=h.s5 (dn_up e (by decide));exact ⟨g,(hu 5 (by decide)).trans h1,h2⟩),(fun e=>by obtain ⟨g,h1,h2⟩:=h.s7 (dn_up e (by decide));exact ⟨g,(hu 7 (by decide)).trans h1,h2⟩),(fun e=>by obtain ⟨g,h1,h2⟩:=h.s9 (dn_up e (by decide));exact ⟨g,(hu 9 (by decide)).trans h1,h2⟩),(fun e=>by obtain ⟨h1,h2⟩:=h.s10 (dn_up e (by decide));rw [hu 10 (by decide),hu 0 (by decide),hu 1 (by decide),hu 3 (by decide),hu 5 (by decide),hu 7 (by decide),hu 9 (by decide)];exact ⟨h1,up_keep h2.1,up_keep h2.2.1,up_keep h2.2.2.1,up_keep h2.2.2.2.1,up_keep h2.2.2.2.2.1,up_keep h2.2.2.2.2.2⟩),(fun e=>by obtain ⟨e1,P,h1,h2⟩:=h.s11 (dn_up e (by decide));rw [hu 11 (by decide),hu 0 (by decide),hu 1 (by decide),hu 3 (by decide),hu 5 (by decide),hu 7 (by decide),hu 9 (by decide)];exact ⟨up_keep e1,P,h1,h2⟩),(fun e=>by obtain ⟨e1,h1⟩:=h.s12 (dn_up e (by decide));rw [hu 12 (by decide),hu 11 (by decide)];exact ⟨up_keep e1,h1⟩)⟩
theorem BgJ.up4 {W0:World} {p q:Nat} {L:Nat→Bool} {u u':Nat→Value} {W:World} (h:BgJ W0 p q L u W) (hu:∀ j,j ≠ 4→u' j=u j) (hown:u' 4=nu 3):BgJ W0 p q (up L 4) u' W :=
 ⟨h.low,(fun e=>(hu 0 (by decide)).trans (h.c0 (dn_up e (by decide)))),(fun e=>(hu 1 (by decide)).trans (h.c1 (dn_up e (by decide)))),(fun e=>(hu 2 (by decide)).trans (h.c2 (dn_up e (by decide)))),(fun _=>hown),(fun e=>(hu 6 (by decide)).trans (h.c6 (dn_up e (by decide)))),(fun e=>(hu 8 (by decide)).trans (h.c8 (dn_up e (by decide)))),(fun e=>by obtain ⟨x,G,h1,h2,h3,h4,h5⟩:=h.s3 (dn_up e (by decide));exact ⟨x,G,(hu 3 (by decide)).trans h1,h2,h3,fun e9 g eg=>h4 (dn_up e9 (by decide)) g ((hu 9 (by decide)).symm.trans eg),fun e9 g eg=>h5 (dn_up e9 (by decide)) g ((hu 11 (by decide)).symm.trans eg)⟩),(fun e=>by obtain ⟨g,h1,h2⟩:=h.s5 (dn_up e (by decide));exact ⟨g,(hu 5 (by decide)).trans h1,h2⟩),(fun e=>by obtain ⟨g,h1,h2⟩:=h.s7 (dn_up e (by decide));exact ⟨g,(hu 7 (by decide)).trans h1,h2⟩),(fun e=>by obtain ⟨g,h1,h2⟩:=h.s9 (dn_up e (by decide));exact ⟨g,(hu 9 (by decide)).trans h1,h2⟩),(fun e=>by obtain ⟨h1,h2⟩:=h.s10 (dn_up e (by decide));rw [hu 10 (by decide),hu 0 (by decide),hu 1 (by decide),hu 3 (by decide),hu 5 (by decide),hu 7 (by decide),hu 9 (by decide)];exact ⟨h1,up_keep h2.1,up_keep h2.2.1,up_keep h2.2.2.1,up_keep h2.2.2.2.1,up_keep h2.2.2.2.2.1,up_keep h2.2.2.2.2.2⟩),(fun e=>by obtain ⟨e1,P,h1,h2⟩:=h.s11 (dn_up e (by decide));rw [hu 11 (by decide),hu 0 (by decide),hu 1 (by decide),hu 3 (by decide),hu 5 (by decide),hu 7 (by decide),hu 9 (by decide)];exact ⟨up_keep e1,P,h1,h2⟩),(fun e=>by obtain ⟨e1,h1⟩:=h.s12 (dn_up e (by decide));rw [hu 12 (by decide),hu 11 (by decide)];exact ⟨up_keep e1,h1⟩)⟩
theorem BgJ.up6 {W0:World} {p q:Nat} {L:Nat→Bool} {u u':Nat→Value} {W:World} (h:BgJ W0 p q L u W) (hu:∀ j,j ≠ 6→u' j=u j) (hown:u' 6=nu 3):BgJ W0 p q (up L 6) u' W :=
 ⟨h.low,(fun e=>(hu 0 (by decide)).trans (h.c0 (dn_up e (by decide)))),(fun e=>(hu 1 (by decide)).trans (h.c1 (dn_up e (by decide)))),(fun e=>(hu 2 (by decide)).trans (h.c2 (dn_up e (by decide)))),(fun e=>(hu 4 (by decide)).trans (h.c4 (dn_up e (by decide)))),(fun _=>hown),(fun e=>(hu 8 (by decide)).trans (h.c8 (dn_up e (by decide)))),(fun e=>by obtain ⟨x,G,h1,h2,h3,h4,h5⟩:=h.s3 (dn_up e (by decide));exact ⟨x,G,(hu 3 (by decide)).trans h1,h2,h3,fun e9 g eg=>h4 (dn_up e9 (by decide)) g ((hu 9 (by decide)).symm.trans eg),fun e9 g eg=>h5 (dn_up e9 (by decide)) g ((hu 11 (by decide)).symm.trans eg)⟩),(fun e=>by obtain ⟨g,h1,h2⟩:=h.s5 (dn_up e (by decide));exact ⟨g,(hu 5 (by decide)).trans h1,h2⟩),(fun e=>by obtain ⟨g,h1,h2⟩:=h.s7 (dn_up e (by decide));exact ⟨g,(hu 7 (by decide)).trans h1,h2⟩),(fun e=>by obtain ⟨g,h1,h2⟩:=h.s9 (dn_up e (by decide));exact ⟨g,(hu 9 (by decide)).trans h1,h2⟩),(fun e=>by obtain ⟨h1,h2⟩:=h.s10 (dn_up e (by decide));rw [hu 10 (by decide),hu 0 (by decide),hu 1 (by decide),hu 3 (by decide),hu 5 (by decide),hu 7 (by decide),hu 9 (by decide)];exact ⟨h1,up_keep h2.1,up_keep h2.2.1,up_keep h2.2.2.1,up_keep h2.2.2.2.1,up_keep h2.2.2.2.2.1,up_keep h2.2.2.2.2.2⟩),(fun e=>by obtain ⟨e1,P,h1,h2⟩:=h.s11 (dn_up e (by decide));rw [hu 11 (by decide),hu 0 (by decide),hu 1 (by decide),hu 3 (by decide),hu 5 (by decide),hu 7 (by decide),hu 9 (by decide)];exact ⟨up_keep e1,P,h1,h2⟩),(fun e=>by obtain ⟨e1,h1⟩:=h.s12 (dn_up e (by decide));rw [hu 12 (by decide),hu 11 (by decide)];exact ⟨up_keep e1,h1⟩)⟩
theorem BgJ.up8 {W0:World} {p q:Nat} {L:Nat→Bool} {u u':Nat→Value} {W:World} (h:BgJ W0 p q L u W) (hu:∀ j,j ≠ 8→u' j=u j) (hown:u' 8=nu 3):BgJ W0 p q (up L 8) u' W :=
 ⟨h.low,(fun e=>(hu 0 (by decide)).trans (h.c0 (dn_up e (by decide)))),(fun e=>(hu 1 (by decide)).trans (h.c1 (dn_up e (by decide)))),(fun e=>(hu 2 (by decide)).trans (h.c2 (dn_up e (by decide)))),(fun e=>(hu 4 (by decide)).trans (h.c4 (dn_up e (by decide)))),(fun e=>(hu 6 (by decide)).trans (h.c6 (dn_up e (by decide)))),(fun _=>hown),(fun e=>by obtain ⟨x,G,h1,h2,h3,h4,h5⟩:=h.s3 (dn_up e (by decide));exact ⟨x,G,(hu 3 (by decide)).trans h1,h2,h3,fun e9 g eg=>h4 (dn_up e9 (by decide)) g ((hu 9 (by decide)).symm.trans eg),fun e9 g eg=>h5 (dn_up e9 (by decide)) g ((hu 11 (by decide)).symm.trans eg)⟩),(fun e=>by obtain ⟨g,h1,h2⟩:=h.s5 (dn_up e (by decide));exact ⟨g,(hu 5 (by decide)).trans h1,h2⟩),(fun e=>by obtain ⟨g,h1,h2⟩:=h.s7 (dn_up e (by decide));exact ⟨g,(hu 7 (by decide)).trans h1,h2⟩),(fun e=>by obtain ⟨g,h1,h2⟩:=h.s9 (dn_up e (by decide));exact ⟨g,(hu 9 (by decide)).trans h1,h2⟩),(fun e=>by obtain ⟨h1,h2⟩:=h.s10 (dn_up e (by decide));rw [hu 10 (by decide),hu 0 (by decide),hu 1 (by decide),hu 3 (by decide),hu 5 (by decide),hu 7 (by decide),hu 9 (by decide)];exact ⟨h1,up_keep h2.1,up_keep h2.2.1,up_keep h2.2.2.1,up_keep h2.2.2.2.1,up_keep h2.2.2.2.2.1,up_keep h2.2.2.2.2.2⟩),(fun e=>by obtain ⟨e1,P,h1,h2⟩:=h.s11 (dn_up e (by decide));rw [hu 11 (by decide),hu 0 (by decide),hu 1 (by decide),hu 3 (by decide),hu 5 (by decide),hu 7 (by decide),hu 9 (by decide)];exact ⟨up_keep e1,P,h1,h2⟩),(fun e=>by obtain ⟨e1,h1⟩:=h.s12 (dn_up e (by decide));rw [hu 12 (by decide),hu 11 (by decide)];exact ⟨up_keep e1,h1⟩)⟩
theorem BgJ.up3 {W0:World} {p q:Nat} {L:Nat→Bool} {u u':Nat→Value} {W:World} (h:BgJ W0 p q L u W) (hu:∀ j,j ≠ 3→u' j=u j) (n10:L 10=false) (hown:∃ x G,u' 3=pt x 0∧RY W x G (newR 3)∧(∀ b ∈ G,W0.heap.size ≤ b)∧(up L 3 9=true→∀ g,u' 9=sl g 3→g ∉ G)∧(up L 3 11=true→∀ P,u' 11=pt P 0→P ∉ G)):BgJ W0 p q (up L 3) u' W :=
 ⟨h.low,(fun e=>(hu 0 (by decide)).trans (h.c0 (dn_up e (by decide)))),(fun e=>(hu 1 (by decide)).trans (h.c1 (dn_up e (by decide)))),(fun e=>(hu 2 (by decide)).trans (h.c2 (dn_up e (by decide)))),(fun e=>(hu 4 (by decide)).trans (h.c4 (dn_up e (by decide)))),(fun e=>(hu 6 (by decide)).trans (h.c6 (dn_up e (by decide)))),(fun e=>(hu 8 (by decide)).trans (h.c8 (dn_up e (by decide)))),(fun _=>hown),(fun e=>by obtain ⟨g,h1,h2⟩:=h.s5 (dn_up e (by decide));exact ⟨g,(hu 5 (by decide)).trans h1,h2⟩),(fun e=>by obtain ⟨g,h1,h2⟩:=h.s7 (dn_up e (by decide));exact ⟨g,(hu 7 (by decide)).trans h1,h2⟩),(fun e=>by obtain ⟨g,h1,h2⟩:=h.s9 (dn_up e (by decide));exact ⟨g,(hu 9 (by decide)).trans h1,h2⟩),(fun e=>absurd (dn_up e (by decide)) (by rw [n10];decide)),(fun e=>absurd (h.s11 (dn_up e (by decide))).1 (by rw [n10];decide)),(fun e=>absurd (h.s11 (h.s12 (dn_up e (by decide))).1).1 (by rw [n10];decide))⟩
theorem BgJ.up5 {W0:World} {p q:Nat} {L:Nat→Bool} {u u':Nat→Value} {W:World} (h:BgJ W0 p q L u W) (hu:∀ j,j ≠ 5→u' j=u j) (n10:L 10=false) (hown:∃ g,u' 5=sl g 3∧W0.heap.size ≤ g∧W.heap[g]? = some (.cells (rowV 3).toArray 9)):BgJ W0 p q (up L 5) u' W :=
 ⟨h.low,(fun e=>(hu 0 (by decide)).trans (h.c0 (dn_up e (by decide)))),(fun e=>(hu 1 (by decide)).trans (h.c1 (dn_up e (by decide)))),(fun e=>(hu 2 (by decide)).trans (h.c2 (dn_up e (by decide)))),(fun e=>(hu 4 (by decide)).trans (h.c4 (dn_up e (by decide)))),(fun e=>(hu 6 (by decide)).trans (h.c6 (dn_up e (by decide)))),(fun e=>(hu 8 (by decide)).trans (h.c8 (dn_up e (by decide)))),(fun e=>by obtain ⟨x,G,h1,h2,h3,h4,h5⟩:=h.s3 (dn_up e (by decide));exact ⟨x,G,(hu 3 (by decide)).trans h1,h2,h3,fun e9 g eg=>h4 (dn_up e9 (by decide)) g ((hu 9 (by decide)).symm.trans eg),fun e9 g eg=>h5 (dn_up e9 (by decide)) g ((hu 11 (by decide)).symm.trans eg)⟩),(fun _=>hown),(fun e=>by obtain ⟨g,h1,h2⟩:=h.s7 (dn_up e (by decide));exact ⟨g,(hu 7 (by decide)).trans h1,h2⟩),(fun e=>by obtain ⟨g,h1,h2⟩:=h.s9 (dn_up e (by decide));exact ⟨g,(hu 9 (by decide)).trans h1,h2⟩),(fun e=>absurd (dn_up e (by decide)) (by rw [n10];decide)),(fun e=>absurd (h.s11 (dn_up e (by decide))).1 (by rw [n10];decide)),(fun e=>absurd (h.s11 (h.s12 (dn_up e (by decide))).1).1 (by rw [n10];decide))⟩
theorem BgJ.up7 {W0:World} {p q:Nat} {L:Nat→Bool} {u u':Nat→Value} {W:World} (h:BgJ W0 p q L u W) (hu:∀ j,j ≠ 7→u' j=u j) (n10:L 10=false) (hown:∃ g,u' 7=sl g 3∧W0.heap.size ≤ g∧W.heap[g]? = some (.cells (rowV 3).toArray 9)):BgJ W0 p q (up L 7) u' W :=
 ⟨h.low,(fun e=>(hu 0 (by decide)).trans (h.c0 (dn_up e (by decide)))),(fun e=>(hu 1 (by decide)).trans (h.c1 (dn_up e (by decide)))),(fun e=>(hu 2 (by decide)).trans (h.c2 (dn_up e (by decide)))),(fun e=>(hu 4 (by decide)).trans (h.c4 (dn_up e (by decide)))),(fun e=>(hu 6 (by decide)).trans (h.c6 (dn_up e (by decide)))),(fun e=>(hu 8 (by decide)).trans (h.c8 (dn_up e (by decide)))),(fun e=>by obtain ⟨x,G,h1,h2,h3,h4,h5⟩:=h.s3 (dn_up e (by decide));exact ⟨x,G,(hu 3 (by decide)).trans h1,h2,h3,fun e9 g eg=>h4 (dn_up e9 (by decide)) g ((hu 9 (by decide)).symm.trans eg),fun e9 g eg=>h5 (dn_up e9 (by decide)) g ((hu 11 (by decide)).symm.trans eg)⟩),(fun e=>by obtain ⟨g,h1,h2⟩:=h.s5 (dn_up e (by decide));exact ⟨g,(hu 5 (by decide)).trans h1,h2⟩),(fun _=>hown),(fun e=>by obtain ⟨g,h1,h2⟩:=h.s9 (dn_up e (by decide));exact ⟨g,(hu 9 (by decide)).trans h1,h2⟩),(fun e=>absurd (dn_up e (by decide)) (by rw [n10];decide)),(fun e=>absurd (h.s11 (dn_up e (by decide))).1 (by rw [n10];decide)),(fun e=>absurd (h.s11 (h.s12 (dn_up e (by decide))).1).1 (by rw [n10];decide))⟩
theorem BgJ.up9 {W0:World} {p q:Nat} {L:Nat→Bool} {u u':Nat→Value} {W:World} (h:BgJ W0 p q L u W) (hu:∀ j,j ≠ 9→u' j=u j) (n10:L 10=false) (hs3:up L 9 3=true→∃ x G,u' 3=pt x 0∧RY W x G (newR 3)∧(∀ b ∈ G,W0.heap.size ≤ b)∧(up L 9 9=true→∀ g,u' 9=sl g 3→g ∉ G)∧(up L 9 11=true→∀ P,u' 11=pt P 0→P ∉ G)) (hown:∃ g,u' 9=sl g 3∧W0.heap.size ≤ g∧W.heap[g]? = some (.cells (rowV 3).toArray 9)):BgJ W0 p q (up L 9) u' W :=
 ⟨h.low,(fun e=>(hu 0 (by decide)).trans (h.c0 (dn_up e (by decide)))),(fun e=>(hu 1 (by decide)).trans (h.c1 (dn_up e (by decide)))),(fun e=>(hu 2 (by decide)).trans (h.c2 (dn_up e (by decide)))),(fun e=>(hu 4 (by decide)).trans (h.c4 (dn_up e (by decide)))),(fun e=>(hu 6 (by decide)).trans (h.c6 (dn_up e (by decide)))),(fun e=>(hu 8 (by decide)).trans (h.c8 (dn_up e (by decide)))),(fun e=>hs3 e),(fun e=>by obtain ⟨g,h1,h2⟩:=h.s5 (dn_up e (by decide));exact ⟨g,(hu 5 (by decide)).trans h1,h2⟩),(fun e=>by obtain ⟨g,h1,h2⟩:=h.s7 (dn_up e (by decide));exact ⟨g,(hu 7 (by decide)).trans h1,h2⟩),(fun _=>hown),(fun e=>absurd (dn_up e (by decide)) (by rw [n10];decide)),(fun e=>absurd (h.s11 (dn_up e (by decide))).1 (by rw [n10];decide)),(fun e=>absurd (h.s11 (h.s12 (dn_up e (by decide))).1).1 (by rw [n10];decide))⟩
theorem BgJ.up10 {W0:World} {p q:Nat} {L:Nat→Bool} {u u':Nat→Value} {W:World} (h:BgJ W0 p q L u W) (hu:∀ j,j ≠ 10→u' j=u j) (n10:L 10=false) (hown:u' 10 = .agg #[u' 0,u' 1,u' 3,u' 5,u' 7,u' 9]∧up L 10 0=true∧up L 10 1=true∧up L 10 3=true∧up L 10 5=true∧up L 10 7=true∧up L 10 9=true):BgJ W0 p q (up L 10) u' W :=
 ⟨h.low,(fun e=>(hu 0 (by decide)).trans (h.c0 (dn_up e (by decide)))),(fun e=>(hu 1 (by decide)).trans (h.c1 (dn_up e (by decide)))),(fun e=>(hu 2 (by decide)).trans (h.c2 (dn_up e (by decide)))),(fun e=>(hu 4 (by decide)).trans (h.c4 (dn_up e (by decide)))),(fun e=>(hu 6 (by decide)).trans (h.c6 (dn_up e (by decide)))),(fun e=>(hu 8 (by decide)).trans (h.c8 (dn_up e (by decide)))),(fun e=>by obtain ⟨x,G,h1,h2,h3,h4,h5⟩:=h.s3 (dn_up e (by decide));exact ⟨x,G,(hu 3 (by decide)).trans h1,h2,h3,fun e9 g eg=>h4 (dn_up e9 (by decide)) g ((hu 9 (by decide)).symm.trans eg),fun e9 g eg=>h5 (dn_up e9 (by decide)) g ((hu 11 (by decide)).symm.trans eg)⟩),(fun e=>by obtain ⟨g,h1,h2⟩:=h.s5 (dn_up e (by decide));exact ⟨g,(hu 5 (by decide)).trans h1,h2⟩),(fun e=>by obtain ⟨g,h1,h2⟩:=h.s7 (dn_up e (by decide));exact ⟨g,(hu 7 (by decide)).trans h1,h2⟩),(fun e=>by obtain ⟨g,h1,h2⟩:=h.s9 (dn_up e (by decide));exact ⟨g,(hu 9 (by decide)).trans h1,h2⟩),(fun _=>hown),(fun e=>absurd (h.s11 (dn_up e (by decide))).1 (by rw [n10];decide)),(fun e=>absurd (h.s11 (h.s12 (dn_up e (by decide))).1).1 (by rw [n10];decide))⟩
theorem BgJ.up11 {W0:World} {p q:Nat} {L:Nat→Bool} {u u':Nat→Value} {W:World} (h:BgJ W0 p q L u W) (hu:∀ j,j ≠ 11→u' j=u j) (n11:L 11=false) (hs3:up L 11 3=true→∃ x G,u' 3=pt x 0∧RY W x G (newR 3)∧(∀ b ∈ G,W0.heap.size ≤ b)∧(up L 11 9=true→∀ g,u' 9=sl g 3→g ∉ G)∧(up L 11 11=true→∀ P,u' 11=pt P 0→P ∉ G)) (hown:up L 11 10=true∧∃ P,u' 11=pt P 0∧W0.heap.size ≤ P∧W.heap[P]? = some (.cells #[u' 0,u' 1,u' 3,u' 5,u' 7,u' 9] 68)):BgJ W0 p q (up L 11) u' W :=
 ⟨h.low,(fun e=>(hu 0 (by decide)).trans (h.c0 (dn_up e (by decide)))),(fun e=>(hu 1 (by decide)).trans (h.c1 (dn_up e (by decide)))),(fun e=>(hu 2 (by decide)).trans (h.c2 (dn_up e (by decide)))),(fun e=>(hu 4 (by decide)).trans (h.c4 (dn_up e (by decide)))),(fun e=>(hu 6 (by decide)).trans (h.c6 (dn_up e (by decide)))),(fun e=>(hu 8 (by decide)).trans (h.c8 (dn_up e (by decide)))),(fun e=>hs3 e),(fun e=>by obtain ⟨g,h1,h2⟩:=h.s5 (dn_up e (by decide));exact ⟨g,(hu 5 (by decide)).trans h1,h2⟩),(fun e=>by obtain ⟨g,h1,h2⟩:=h.s7 (dn_up e (by decide));exact ⟨g,(hu 7 (by decide)).trans h1,h2⟩),(fun e=>by obtain ⟨g,h1,h2⟩:=h.s9 (dn_up e (by decide));exact ⟨g,(hu 9 (by decide)).trans h1,h2⟩),(fun e=>by obtain ⟨h1,h2⟩:=h.s10 (dn_up e (by decide));rw [hu 10 (by decide),hu 0 (by decide),hu 1 (by decide),hu 3 (by decide),hu 5 (by decide),hu 7 (by decide),hu 9 (by decide)];exact ⟨h1,up_keep h2.1,up_keep h2.2.1,up_keep h2.2.2.1,up_keep h2.2.2.2.1,up_keep h2.2.2.2.2.1,up_keep h2.2.2.2.2.2⟩),(fun _=>hown),(fun e=>absurd (h.s12 (dn_up e (by decide))).1 (by rw [n11];decide))⟩
theorem BgJ.up12 {W0:World} {p q:Nat} {L:Nat→Bool} {u u':Nat→Value} {W:World} (h:BgJ W0 p q L u W) (hu:∀ j,j ≠ 12→u' j=u j) (hown:up L 12 11=true∧u' 12=u' 11):BgJ W0 p q (up L 12) u' W :=
 ⟨h.low,(fun e=>(hu 0 (by decide)).trans (h.c0 (dn_up e (by decide)))),(fun e=>(hu 1 (by decide)).trans (h.c1 (dn_up e (by decide)))),(fun e=>(hu 2 (by decide)).trans (h.c2 (dn_up e (by decide)))),(fun e=>(hu 4 (by decide)).trans (h.c4 (dn_up e (by decide)))),(fun e=>(hu 6 (by decide)).trans (h.c6 (dn_up e (by decide)))),(fun e=>(hu 8 (by decide)).trans (h.c8 (dn_up e (by decide)))),(fun e=>by obtain ⟨x,G,h1,h2,h3,h4,h5⟩:=h.s3 (dn_up e (by decide));exact ⟨x,G,(hu 3 (by decide)).trans h1,h2,h3,fun e9 g eg=>h4 (dn_up e9 (by decide)) g ((hu 9 (by decide)).symm.trans eg),fun e9 g eg=>h5 (dn_up e9 (by decide)) g ((hu 11 (by decide)).symm.trans eg)⟩),(fun e=>by obtain ⟨g,h1,h2⟩:=h.s5 (dn_up e (by decide));exact ⟨g,(hu 5 (by decide)).trans h1,h2⟩),(fun e=>by obtain ⟨g,h1,h2⟩:=h.s7 (dn_up e (by decide));exact ⟨g,(hu 7 (by decide)).trans h1,h2⟩),(fun e=>by obtain ⟨g,h1,h2⟩:=h.s9 (dn_up e (by decide));exact ⟨g,(hu 9 (by decide)).trans h1,h2⟩),(fun e=>by obtain ⟨h1,h2⟩:=h.s10 (dn_up e (by decide));rw [hu 10 (by decide),hu 0 (by decide),hu 1 (by decide),hu 3 (by decide),hu 5 (by decide),hu 7 (by decide),hu 9 (by decide)];exact ⟨h1,up_keep h2.1,up_keep h2.2.1,up_keep h2.2.2.1,up_keep h2.2.2.2.1,up_keep h2.2.2.2.2.1,up_keep h2.2.2.2.2.2⟩),(fun e=>by obtain ⟨e1,P,h1,h2⟩:=h.s11 (dn_up e (by decide));rw [hu 11 (by decide),hu 0 (by decide),hu 1 (by decide),hu 3 (by decide),hu 5 (by decide),hu 7 (by decide),hu 9 (by decide)];exact ⟨up_keep e1,P,h1,h2⟩),(fun _=>hown)⟩
theorem BgJ.zero {W0:World} {p q:Nat} {u:Nat→Value} {W:World} (h:Below W0.heap.size W0 W):BgJ W0 p q (fun _=>false) u W :=
 ⟨h,(fun e=>by cases e),(fun e=>by cases e),(fun e=>by cases e),(fun e=>by cases e),(fun e=>by cases e),(fun e=>by cases e),(fun e=>by cases e),(fun e=>by cases e),(fun e=>by cases e),(fun e=>by cases e),(fun e=>by cases e),(fun e=>by cases e),(fun e=>by cases e)⟩
theorem sl_inj {a b:Nat} (h:sl a 3=sl b 3):a=b:=by
 unfold sl at h
 injection h with h1
 injection h1 with h1
 injection h1
theorem RY.lt {W:World} {x:Nat} {G:List Nat} {R:Rs} (h:RY W x G R):∀ b ∈ G,b < W.heap.size:=by
 obtain ⟨bs,br,bv,bt,ps,vP,Y,-,-,h3⟩:=h
 exact h3
theorem bg_s9 {W0 W:World} {u3 u3' u9' u11':Value} {o:Obj} {C:List Nat→Prop} (h:∃ x G,u3=pt x 0∧RY W x G (newR 3)∧(∀ b ∈ G,W0.heap.size ≤ b)∧C G) (hu:u3' = u3) (h9:u9' = sl W.heap.size 3) {D E:Prop} (hE:¬ E):∃ x G,u3' = pt x 0∧RY (W.alloc o) x G (newR 3)∧(∀ b ∈ G,W0.heap.size ≤ b)∧(D→∀ g,u9' = sl g 3→g ∉ G)∧(E→∀ P,u11' = pt P 0→P ∉ G):=by
 obtain ⟨x,G,h1,h2,h3,-⟩:=h
 refine ⟨x,G,hu.trans h1,h2.kept (below_a1 W o),h3,fun _ g eg hm=>?_,fun e=>absurd e hE⟩
 have e:=sl_inj (h9.symm.trans eg)
 have:=h2.lt g hm
 omega
theorem bg_s11 {W0 W:World} {u3 u3' u9 u9' u11':Value} {o:Obj} {A A':Prop} {B:List Nat→Prop} (h:∃ x G,u3=pt x 0∧RY W x G (newR 3)∧(∀ b ∈ G,W0.heap.size ≤ b)∧(A→∀ g,u9=sl g 3→g ∉ G)∧B G) (hu:u3' = u3) (hu9:u9' = u9) (hA:A'→A) (h11:u11' = pt W.heap.size 0) {E:Prop}:∃ x G,u3' = pt x 0∧RY (W.alloc o) x G (newR 3)∧(∀ b ∈ G,W0.heap.size ≤ b)∧(A'→∀ g,u9' = sl g 3→g ∉ G)∧(E→∀ P,u11' = pt P 0→P ∉ G):=by
 obtain ⟨x,G,h1,h2,h3,h4,-⟩:=h
 refine ⟨x,G,hu.trans h1,h2.kept (below_a1 W o),h3,fun a g eg=>h4 (hA a) g (hu9.symm.trans eg),fun _ P eg hm=>?_⟩
 have e:=h11.symm.trans eg
 injection e with e
 injection e with e
 injection e with e
 have:=h2.lt P hm
 omega
theorem build_play (W:World) (p q x a b c:Nat):(Instr.build 68 #[(0,pt p 0),(1,pt q 0),(2,pt x 0),(3,sl a 3),(4,sl b 3),(5,sl c 3)]).run Tryz.prog W = .ok (.agg #[pt p 0,pt q 0,pt x 0,sl a 3,sl b 3,sl c 3]) W:=by kernel_rfl
theorem box_play (W:World) (p q x a b c:Nat):(Instr.box 68 (.agg [pt p 0,pt q 0,pt x 0,sl a 3,sl b 3,sl c 3].toArray)).run Tryz.prog W = .ok (pt W.heap.size 0) (W.alloc (.cells [pt p 0,pt q 0,pt x 0,sl a 3,sl b 3,sl c 3].toArray 68)):=by kernel_rfl
structure PlAt (W:World) (P p q x hb vb:Nat) (G:List Nat) (R:Rs) (H:List (List UInt8)):Prop where
 row:∃ u7,W.heap[P]? = some (.cells #[pt p 0,pt q 0,pt x 0,sl vb 3,u7,sl hb 3] 68)
 views:W.heap[vb]? = some (.cells (rowV 3).toArray 9)
 held:W.heap[hb]? = some (.cells (H.map st).toArray 9)
 regs:RY W x G R
 ne:hb ∉ G
section
variable {w:World}
theorem begun_any (hK:Ktab w) (hT:Lay.Tabs w):Calls Tryz.prog 13 #[nu 3] w fun e w'=>∃ P p q x hb vb G h g b,e = .returned (pt P 0)∧PlAt w' P p q x hb vb G (newR 3) [[],[],[]]∧RgL w' p h g b [115,101,101,100] 3 []∧Below w.heap.size w w'∧(w.heap.size ≤ b∧w.heap.size ≤ P∧w.heap.size ≤ hb∧∀ y ∈ G,w.heap.size ≤ y)∧(hb ≠ b∧b ∉ G∧P ≠ b∧vb ≠ b∧P ∉ G∧∀ y ∈ G,p < y∧h < y∧g < y∧b < y)∧(6 ≤ w.heap.size∧p < hb∧h < hb∧g < hb∧b < hb):=by
 have HR:=hid (new_ok [115,101,101,100] (by decide) 3 (by decide) (by decide) w hK hT)
 have hsz:=tabs_size hT
 have HKT:=hid hK
 have HTT:=hid hT
 clear hK hT
 go_enter Tryz.func13,Tryz.ntmps13
 go_wp2_with fail
 refine HR.out.mono ?_
 rintro e W1 ⟨p,h,g,b,rfl,q1⟩
 have RG1:Hid (RgL W1 p h g b [115,101,101,100] 3 []):=hid ⟨by decide,by decide,q1.ring,HKT.out.stays q1.low HKT.out.pos,HTT.out.stays q1.low⟩
 have B1:=hid q1.low
 have hfar:=q1.far
 clear q1 HR
 have HQ:=hid (rnew_ok [115,101,101,100] (by decide) 3 (by decide) (by decide) W1)
 go_wp2_with fail
 refine HQ.out.mono ?_
 rintro e W2 ⟨q,rfl,-,b2,-⟩
 have RG2:=hid (RG1.out.kept b2)
 have B2:=hid (below_two B1.out b2)
 have hs2:=b2.size
 clear b2 RG1 B1 HQ
 go_upto_region 5 with fail
 refine wp_region_mr (N:=39) (BgJ W2 p q) (fun u=>[(27,u 0),(28,u 1),(29,u 2),(30,u 3),(31,u 4),(32,u 5),(33,u 6),(34,u 7),(35,u 8),(36,u 9),(37,u 10),(38,u 11),(2,u 12)]) (by kernel_rfl) (by kernel_rfl) rfl (fun u=>by kernel_rfl) (fun u w1 hb=>BgJ.zero hb) ?_ ?_
 ·intro i o ho
  match i,ho with
  | 0,ho=>cases ho;intro L a W u hLi hw hnot hJ hk hv K h;exact op_move 3 (pt p 0) rfl (hk 3 (by kernel_rfl)) (h _ _ (fun u1 hu hi=>hJ.up0 hu (hnot 10 _ rfl (by kernel_rfl)) (hi rfl)))
  | 1,ho=>cases ho;intro L a W u hLi hw hnot hJ hk hv K h;exact op_move 5 (pt q 0) rfl (hk 5 (by kernel_rfl)) (h _ _ (fun u1 hu hi=>hJ.up1 hu (hnot 10 _ rfl (by kernel_rfl)) (hi rfl)))
  | 2,ho=>cases ho;intro L a W u hLi hw hnot hJ hk hv K h;exact op_move 0 (nu 3) rfl (hk 0 (by kernel_rfl)) (h _ _ (fun u1 hu hi=>hJ.up2 hu (hi rfl)))
  | 3,ho =>
   cases ho
   intro L a W u hLi hw hnot hJ hk hv K h
   refine op_callE 39 [.tmp 29] _ #[nu 3] rfl (fun _ _=>by kernel_rfl) (args1 ((hv 2 29 (hw 2 (by kernel_rfl)) (by kernel_rfl)).trans (hJ.c2 (hw 2 (by kernel_rfl))))) (R:=fun v w1=>∃ x G,v=pt x 0∧RY w1 x G (newR 3)∧(∀ b ∈ G,W.heap.size ≤ b)∧Below W.heap.size W w1) ?_ ?_
   ·refine (r12new_any W 3 (by decide)).mono ?_
    rintro e w1 ⟨x,G,rfl,h1,h2,h3⟩
    exact ⟨_,rfl,x,G,rfl,h1,h2,h3⟩
   ·rintro v w1 ⟨x,G,rfl,h1,h2,h3⟩
    refine h _ _ (fun u1 hu hi=>(hJ.mono h3).up3 hu (hnot 10 _ rfl (by kernel_rfl)) ⟨x,G,hi rfl,h1,fun b hb=>Nat.le_trans hJ.low.size (h2 b hb),fun e9 g eg hm=>?_,fun e11=>absurd (hJ.s11 (dn_up e11 (by decide))).1 (by rw [hnot 10 _ rfl (by kernel_rfl)];decide)⟩)
    obtain ⟨g9,f1,f2,f3⟩:=hJ.s9 (dn_up e9 (by decide))
    have:=sl_inj (eg.symm.trans ((hu 9 (by decide)).trans f1))
    subst this
    have:=h2 g hm
    have:=row_ltA f3
    omega
  | 4,ho=>cases ho;intro L a W u hLi hw hnot hJ hk hv K h;exact op_move 0 (nu 3) rfl (hk 0 (by kernel_rfl)) (h _ _ (fun u1 hu hi=>hJ.up4 hu (hi rfl)))
  | 5,ho=>cases ho;intro L a W u hLi hw hnot hJ hk hv K h;exact op_make 31 rfl Tryz.underlying66 infoSt (L:=[st []]) rfl rfl (by decide) (by decide) 3 (by decide) ((hv 4 31 (hw 4 (by kernel_rfl)) (by kernel_rfl)).trans (hJ.c4 (hw 4 (by kernel_rfl)))) (h _ _ (fun u1 hu hi=>(hJ.mono (below_a1 W _)).up5 hu (hnot 10 _ rfl (by kernel_rfl)) ⟨W.heap.size,hi rfl,hJ.low.size,top_obj W _⟩))
  | 6,ho=>cases ho;intro L a W u hLi hw hnot hJ hk hv K h;exact op_move 0 (nu 3) rfl (hk 0 (by kernel_rfl)) (h _ _ (fun u1 hu hi=>hJ.up6 hu (hi rfl)))
  | 7,ho=>cases ho;intro L a W u hLi hw hnot hJ hk hv K h;exact op_make 33 rfl Tryz.underlying66 infoSt (L:=[st []]) rfl rfl (by decide) (by decide) 3 (by decide) ((hv 6 33 (hw 6 (by kernel_rfl)) (by kernel_rfl)).trans (hJ.c6 (hw 6 (by kernel_rfl)))) (h _ _ (fun u1 hu hi=>(hJ.mono (below_a1 W _)).up7 hu (hnot 10 _ rfl (by kernel_rfl)) ⟨W.heap.size,hi rfl,hJ.low.size,top_obj W _⟩))
  | 8,ho=>cases ho;intro L a W u hLi hw hnot hJ hk hv K h;exact op_move 0 (nu 3) rfl (hk 0 (by kernel_rfl)) (h _ _ (fun u1 hu hi=>hJ.up8 hu (hi rfl)))
  | 9,ho=>cases ho;intro L a W u hLi hw hnot hJ hk hv K h;exact op_make 35 rfl Tryz.underlying66 infoSt (L:=[st []]) rfl rfl (by decide) (by decide) 3 (by decide) ((hv 8 35 (hw 8 (by kernel_rfl)) (by kernel_rfl)).trans (hJ.c8 (hw 8 (by kernel_rfl)))) (h _ _ (fun u1 hu hi=>(hJ.mono (below_a1 W _)).up9 hu (hnot 10 _ rfl (by kernel_rfl)) (fun e3=>bg_s9 (hJ.s3 (dn_up e3 (by decide))) (hu 3 (by decide)) (hi rfl) (fun e11=>absurd (hJ.s11 (dn_up e11 (by decide))).1 (by rw [hnot 10 _ rfl (by kernel_rfl)];decide))) ⟨W.heap.size,hi rfl,hJ.low.size,top_obj W _⟩))
  | 10,ho =>
   cases ho
   intro L a W u hLi hw hnot hJ hk hv K h
   have l0:=hw 0 (by kernel_rfl)
   have l1:=hw 1 (by kernel_rfl)
   have l3:=hw 3 (by kernel_rfl)
   have l5:=hw 5 (by kernel_rfl)
   have l7:=hw 7 (by kernel_rfl)
   have l9:=hw 9 (by kernel_rfl)
   obtain ⟨x,G,f3,-⟩:=hJ.s3 l3
   obtain ⟨g5,f5,-⟩:=hJ.s5 l5
   obtain ⟨g7,f7,-⟩:=hJ.s7 l7
   obtain ⟨g9,f9,-⟩:=hJ.s9 l9
   have a0:a.eval (.tmp 27)=pt p 0:=(hv 0 27 l0 (by kernel_rfl)).trans (hJ.c0 l0)
   have a1:a.eval (.tmp 28)=pt q 0:=(hv 1 28 l1 (by kernel_rfl)).trans (hJ.c1 l1)
   have a3:a.eval (.tmp 30)=pt x 0:=(hv 3 30 l3 (by kernel_rfl)).trans f3
   have a5:a.eval (.tmp 32)=sl g5 3:=(hv 5 32 l5 (by kernel_rfl)).trans f5
   have a7:a.eval (.tmp 34)=sl g7 3:=(hv 7 34 l7 (by kernel_rfl)).trans f7
   have a9:a.eval (.tmp 36)=sl g9 3:=(hv 9 36 l9 (by kernel_rfl)).trans f9
   refine op_buildY _ [(0,.tmp 27),(1,.tmp 28),(2,.tmp 30),(3,.tmp 32),(4,.tmp 34),(5,.tmp 36)] rfl (.agg #[pt p 0,pt q 0,pt x 0,sl g5 3,sl g7 3,sl g9 3]) (by simp only [List.map_cons,List.map_nil,a0,a1,a3,a5,a7,a9];exact build_play W _ _ _ _ _ _) ?_
   refine h _ _ (fun u1 hu hi=>hJ.up10 hu hLi ?_)
   rw [hi rfl,hu 0 (by decide),hu 1 (by decide),hu 3 (by decide),hu 5 (by decide),hu 7 (by decide),hu 9 (by decide),hJ.c0 l0,hJ.c1 l1,f3,f5,f7,f9]
   exact ⟨rfl,up_keep l0,up_keep l1,up_keep l3,up_keep l5,up_keep l7,up_keep l9⟩
  | 11,ho =>
   cases ho
   intro L a W u hLi hw hnot hJ hk hv K h
   have l10:=hw 10 (by kernel_rfl)
   obtain ⟨f10,l0,l1,l3,l5,l7,l9⟩:=hJ.s10 l10
   obtain ⟨x,G,f3,-⟩:=hJ.s3 l3
   obtain ⟨g5,f5,-⟩:=hJ.s5 l5
   obtain ⟨g7,f7,-⟩:=hJ.s7 l7
   obtain ⟨g9,f9,-⟩:=hJ.s9 l9
   have f0:=hJ.c0 l0
   have f1:=hJ.c1 l1
   rw [f0,f1,f3,f5,f7,f9] at f10
   refine op_box _ 37 [pt p 0,pt q 0,pt x 0,sl g5 3,sl g7 3,sl g9 3] rfl ((hv 10 37 l10 (by kernel_rfl)).trans f10) (fun w1=>box_play w1 _ _ _ _ _ _) ?_
   refine h _ _ (fun u1 hu hi=>(hJ.mono (below_a1 W _)).up11 hu hLi (fun e3=>bg_s11 (hJ.s3 (dn_up e3 (by decide))) (hu 3 (by decide)) (hu 9 (by decide)) (fun e9=>dn_up e9 (by decide)) (hi rfl)) ⟨up_keep l10,W.heap.size,hi rfl,hJ.low.size,?_⟩)
   rw [hu 0 (by decide),hu 1 (by decide),hu 3 (by decide),hu 5 (by decide),hu 7 (by decide),hu 9 (by decide),f0,f1,f3,f5,f7,f9]
   exact top_obj W _
  | 12,ho =>
   cases ho
   intro L a W u hLi hw hnot hJ hk hv K h
   have l11:=hw 11 (by kernel_rfl)
   exact op_assign 38 (u 11) rfl (hv 11 38 l11 (by kernel_rfl)) (h _ _ (fun u1 hu hi=>hJ.up12 hu ⟨up_keep l11,(hi rfl).trans (hu 11 (by decide)).symm⟩))
  | (i + 13),ho=>exact absurd ho (by simp)
 intro u LL W5 hall hJ
 simp only [List.foldl_cons,List.foldl_nil,List.setIfInBounds_toArray,List.set_cons_zero,List.set_cons_succ]
 obtain ⟨f10,l0,l1,l3,l5,l7,l9⟩:=hJ.s10 (hall 10 (by decide))
 obtain ⟨-,P,f11,hP,rowP⟩:=hJ.s11 (hall 11 (by decide))
 obtain ⟨-,f12⟩:=hJ.s12 (hall 12 (by decide))
 obtain ⟨x,G,f3,ry,hG,hn,hnP⟩:=hJ.s3 l3
 obtain ⟨g5,f5,h5,r5⟩:=hJ.s5 l5
 obtain ⟨g7,f7,-⟩:=hJ.s7 l7
 obtain ⟨g9,f9,h9,r9⟩:=hJ.s9 l9
 have hnG:=hn l9 g9 f9
 have hPG:=hnP (hall 11 (by decide)) P f11
 rw [hJ.c0 l0,hJ.c1 l1,f3,f5,f7,f9] at rowP
 rw [f12,f11]
 have RG5:=hid (RG2.out.kept hJ.low)
 have B5:=hid (below_two B2.out hJ.low)
 have k1:=row_ltA RG2.out.ring.obj
 have k2:=row_ltA RG2.out.ring.var
 have k3:=row_ltA RG2.out.ring.keys
 have k4:=RG2.out.ring.book.lt
 have hw2:=B2.out.size
 have PL:Hid (PlAt W5 P p q x g9 g5 G (newR 3) [[],[],[]]):=hid ⟨⟨_,rowP⟩,r5,r9,ry,hnG⟩
 have HG:=hid hG
 clear hJ hall RG2 B2 f10 f3 f5 f7 f9 ry r5 r9 rowP hn hnG hG
 go_wp2
 go_ret
 refine ⟨P,p,q,x,g9,g5,G,h,g,b,rfl,PL.out,RG5.out,B5.out,⟨hfar,by omega,by omega,fun y hy=>by have:=HG.out y hy;omega⟩,⟨by omega,fun hm=>by have:=HG.out b hm;omega,by omega,by omega,hPG,fun y hy=>by have:=HG.out y hy;omega⟩,hsz,by omega,by omega,by omega,by omega⟩
end
end Go.Proofs.YthkkjjlpahdagaaGreatDoor.Ms
