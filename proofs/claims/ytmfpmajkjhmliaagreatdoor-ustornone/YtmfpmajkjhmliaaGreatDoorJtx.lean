/-
  What is tagged: what msg.Asked, Data, BlobText and Version answer; the walk of MsgTexts.
-/
import Derived.Test.YtmfpmajkjhmliaaGreatDoorG15
import Derived.Test.YtmfpmajkjhmliaaGreatDoorG03
import Derived.Test.YtmfpmajkjhmliaaGreatDoorG01
import Derived.Lib.ItoaNum
import Derived.Lib.SmallJoins
import Derived.Test.YtmfpmajkjhmliaaGreatDoorG10
namespace Go.Proofs.YtmfpmajkjhmliaaGreatDoor.Ms
open Go Go.RowKit
set_option maxRecDepth 100000
theorem layT_len (s : List UInt8) : (layT s).length ≤ 16500 := by
  unfold layT
  split
  · have := txtB_len [] (by decide); simp at this ⊢; omega
  · have := txtB_len s (by omega); omega
def askB (c : Int) (x : Sub) : List UInt8 := numB c ++ numB x.number ++ numB x.kind ++ numB x.target
set_option maxHeartbeats 1000000 in
theorem data_any (n : Int) (hn : I64 n) (s : List UInt8) (w : World) (ht : Tb w) : Calls Tryz.prog 111 #[nu n, st s] w fun e w' => e = .returned (st (numB n ++ layT s)) ∧ Below w.heap.size w w' := by
  have K1 := hid (Lay.number_any n hn.1 hn.2 w ht)
  have hnb : Lib.itoa n ++ [59] = numB n := rfl
  rw [hnb] at K1
  have K2 := hid (fun (W : World) (h : Below w.heap.size w W) => laytext_any s W (ht.stays h))
  have h1 := numB_len n hn
  have h2 := layT_len s
  have happ := str_app (numB n) (layT s)
  generalize numB n = nb at *
  generalize layT s = tb at *
  have hs1 : (⟨nb.toArray⟩ : ByteArray).size = nb.length := rfl
  have hs2 : (⟨tb.toArray⟩ : ByteArray).size = tb.length := rfl
  clear hn ht hnb
  go_enter Tryz.func111, Tryz.ntmps111
  go_wp2_with fail
  refine K1.out.mono ?_
  rintro e w1 ⟨rfl, hb⟩
  have HB1 := hid hb
  clear hb
  go_wp2_with fail
  refine (K2.out _ HB1.out).mono ?_
  rintro e w2 ⟨rfl, hb⟩
  have HB2 := hid (below_two HB1.out hb)
  clear hb
  go_wp2
  go_ret
  exact ⟨rfl, HB2.out⟩
structure SubRng (x : Sub) : Prop where
  n : I64 x.number
  k : I64 x.kind
  t : I64 x.target
set_option maxHeartbeats 2000000 in
theorem asked_any (c : Int) (hc : I64 c) (x : Sub) (hx : x.Wf) (hr : SubRng x) (w : World) (ht : Tb w) : Calls Tryz.prog 43 #[nu c, .agg (subC x).toArray] w fun e w' => e = .returned (st (askB c x)) ∧ Below w.heap.size w w' := by
  have HB0 := hid (below_a1 w (.cells (subC x).toArray 51))
  have r0 := top_obj w (.cells (subC x).toArray 51)
  have c0 := srow_number r0 hx
  have c1 := srow_kind r0 hx
  have c2 := srow_target r0 hx
  have hT0 : Tb (w.alloc (.cells (subC x).toArray 51)) := ht.stays HB0.out
  have l0 := numB_len c hc
  have l1 := numB_len x.number hr.n
  have l2 := numB_len x.kind hr.k
  have l3 := numB_len x.target hr.t
  have K : ∀ n, I64 n → ∀ W, Tb W → ∀ dd os, Calls Tryz.prog 78 #[nu n] (Sort.grow (redrawn W dd) os) fun e w'' => e = .returned (st (numB n)) ∧ ∃ p : Regrown, w'' = Sort.grow (redrawn W p.d) p.os := fun n hn W hW dd os => Calls.regrown_of (Lay.number_any n hn.1 hn.2 _ (hW.stays (below_regrown W dd os)))
  have k0 := hid (K c hc _ hT0)
  have k1 := hid (K x.number hr.n _ hT0)
  have k2 := hid (K x.kind hr.k _ hT0)
  have k3 := hid (K x.target hr.t _ hT0)
  have p0 : ∀ dd os, (Sort.grow (redrawn (w.alloc (.cells (subC x).toArray 51)) dd) os).cell? ⟨w.heap.size, 0, none⟩ = some (nu x.number) := fun dd os => cell_regrown c0 _ _
  have p1 : ∀ dd os, (Sort.grow (redrawn (w.alloc (.cells (subC x).toArray 51)) dd) os).cell? ⟨w.heap.size, 1, none⟩ = some (nu x.kind) := fun dd os => cell_regrown c1 _ _
  have p2 : ∀ dd os, (Sort.grow (redrawn (w.alloc (.cells (subC x).toArray 51)) dd) os).cell? ⟨w.heap.size, 2, none⟩ = some (nu x.target) := fun dd os => cell_regrown c2 _ _
  have a1 := str_app (numB c) (numB x.number)
  have a2 := str_app (numB c ++ numB x.number) (numB x.kind)
  have a3 := str_app (numB c ++ numB x.number ++ numB x.kind) (numB x.target)
  unfold askB
  generalize numB c = n0 at *
  generalize numB x.number = n1 at *
  generalize numB x.kind = n2 at *
  generalize numB x.target = n3 at *
  generalize (subC x).toArray = S at *
  have s0 : (⟨n0.toArray⟩ : ByteArray).size = n0.length := rfl
  have s1 : (⟨n1.toArray⟩ : ByteArray).size = n1.length := rfl
  have s2 : (⟨n2.toArray⟩ : ByteArray).size = n2.length := rfl
  have s3 : (⟨n3.toArray⟩ : ByteArray).size = n3.length := rfl
  have s4 : (⟨(n0 ++ n1).toArray⟩ : ByteArray).size = n0.length + n1.length := by show (n0 ++ n1).length = _; simp
  have s5 : (⟨(n0 ++ n1 ++ n2).toArray⟩ : ByteArray).size = n0.length + n1.length + n2.length := by show (n0 ++ n1 ++ n2).length = _; simp; omega
  clear r0 K hT0 ht hx hr hc c0 c1 c2
  go_enter Tryz.func43, Tryz.ntmps43
  go_upto_region 1 with fail
  generalize w.alloc (.cells S 51) = W0 at *
  have hbg := hid (fun dq osq => below_two HB0.out (below_regrown W0 dq osq))
  refine wp_region_quiet_below (by kernel_rfl) (by kernel_rfl) ?_
  iterate 15 (first | go_big_quiet_step (first | exact k0.out _ _ | exact k1.out _ _ | exact k2.out _ _ | exact k3.out _ _) | quiet_step (first | exact k0.out _ _ | exact k1.out _ _ | exact k2.out _ _ | exact k3.out _ _))
  refine wpQuiet_nil ?_
  intro _ hw'
  obtain ⟨⟨dq, osq⟩, hw''⟩ := hw'
  subst hw''
  have HBq := hid (hbg.out dq osq)
  go_wp2
  go_ret
  exact ⟨by first | rfl | (simp [str_app]), HBq.out⟩
end Go.Proofs.YtmfpmajkjhmliaaGreatDoor.Ms
