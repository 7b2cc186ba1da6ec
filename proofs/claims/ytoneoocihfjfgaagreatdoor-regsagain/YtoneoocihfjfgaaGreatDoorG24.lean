/-
  A region that draws its order, makes one thing anew and fills it: all else are constants (for every program).
-/
import Derived.Test.YtoneoocihfjfgaaGreatDoorG21
import Derived.Test.YtoneoocihfjfgaaGreatDoorG16
import Derived.Test.YtoneoocihfjfgaaGreatDoorG22
import Derived.Test.YtoneoocihfjfgaaGreatDoorG19
namespace Go.Proofs.YtoneoocihfjfgaaGreatDoor.Ms
open Go Go.RowKit
def vA (ia st : Nat) (T : TypeId) (len : Nat) (new : List Value) (B : Nat) (cs : List Value) (L : Nat → Bool) (i : Nat) (v : Value) (w : World) : Prop :=
  if i = ia then ∃ g row, v = pt g 0 ∧ B ≤ g ∧ w.heap[g]? = some (.cells (List.toArray row) T) ∧ row.length = len ∧ (L st = true → row = new) else v = cs.getD i undef
section
variable {P : Program} {ops : Array Oper} {Q : Exit → Act → World → Prop} {N : Nat} {a0 : Act} {w0 : World} {ia st : Nat} {T : TypeId} {len : Nat} {new cs : List Value} {i : Nat} {o : Oper}
theorem vA_c {B : Nat} {L : Nat → Bool} {v : Value} {w : World} (h : vA ia st T len new B cs L i v w) (hi : i ≠ ia) : v = cs.getD i undef := by
  unfold vA at h
  rwa [if_neg hi] at h
theorem oweA_c (c : Value) (hi : i ≠ ia) (hi' : i ≠ st) (hc : cs.getD i undef = c)
    (H : ∀ (L : Nat → Bool) (a : Act) (w : World), Below w0.heap.size w0 w → (∀ j, waits o j = true → L j = true) → (∀ t, keepOk ops i t = true → a.tmps.getD t undef = a0.tmps.getD t undef) → (∀ j d, waits o j = true → j ≠ ia → dstOf ops j = some d → a.tmps.getD d undef = cs.getD j undef) → ∀ K : Act → World → Prop, K (a.put o.dst c) w → o.wp P a w K Q) :
    Owe P ops Q N a0 (vA ia st T len new w0.heap.size cs) (fun _ w => Below w0.heap.size w0 w) i o := by
  intro L a w hLi hw hnot hJ hs hk hv
  refine H L a w hJ hw hk (fun j d hj h9 hd => vA_c (hv j d (hw j hj) hd) h9) _ ⟨c, rfl, fun _ => ?_, hJ, fun j d hj hd => ?_⟩
  · unfold vA
    rw [if_neg hi]
    exact hc.symm
  · have hu := hv j d hj hd
    unfold vA at hu ⊢
    rw [up_ne hi']
    exact hu
theorem oweA_alloc (hop : o.op = .alloc T) (z : List Value) (hz : (P.info? T).map (·.zero) = some (some (.agg z.toArray))) (hl : z.length = len) (ost : Oper) (hst : ops[st]? = some ost) (hws : waits ost ia = true) (hne : ia ≠ st) :
    Owe P ops Q N a0 (vA ia st T len new w0.heap.size cs) (fun _ w => Below w0.heap.size w0 w) ia o := by
  intro L a w hLi hw hnot hJ hs hk hv
  refine op_alloc T hop z.toArray hz ⟨_, rfl, fun _ => ?_, hJ.trans ((below_a1 w _).mono hJ.size), fun j d hj hd => ?_⟩
  · unfold vA
    rw [if_pos rfl]
    refine ⟨w.heap.size, z, rfl, hJ.size, top_obj w _, hl, fun h10 => ?_⟩
    rw [up_ne hne, hnot st _ hst hws] at h10
    cases h10
  · have hj9 : j ≠ ia := by rintro rfl; rw [hLi] at hj; cases hj
    have := vA_c (hv j d hj hd) hj9
    unfold vA
    rw [if_neg hj9]
    exact this
theorem oweA_store (x y : Tmp) (hop : o.op = .store T (.tmp x) (.tmp y)) (hn : o.dst = none) (hx : dstOf ops ia = some x) (iy : Nat) (hiy : dstOf ops iy = some y) (hia : iy ≠ ia) (hw1 : waits o ia = true) (hw2 : waits o iy = true) (hcy : cs.getD iy undef = .agg new.toArray) (hlen : new.length = len) (h1 : ∀ v ∈ new, v.oneCell' = true) (hi : (P.info? T).map (·.size) = some new.length) :
    Owe P ops Q N a0 (vA ia st T len new w0.heap.size cs) (fun _ w => Below w0.heap.size w0 w) st o := by
  intro L a w hLi hw hnot hJ hs hk hv
  have h9 := hv ia x (hw ia hw1) hx
  have h7 := (vA_c (hv iy y (hw iy hw2) hiy) hia).trans hcy
  unfold vA at h9
  rw [if_pos rfl] at h9
  obtain ⟨g, row, e1, hg, hrow, hl, -⟩ := h9
  refine op_store T (.tmp x) (.tmp y) hop hn g e1 new row h7 T hrow (hl.trans hlen.symm) h1 hi ⟨undef, by rw [hn]; rfl, fun h => (by rw [hn] at h; exact Bool.noConfusion h), ?_, fun j d hj hd => ?_⟩
  · exact hJ.trans (((Kp.refl [g] w).setRow g _ (Or.inl (by simp))).below (by simpa using hg) hJ.size)
  · by_cases hj9 : j = ia
    · subst hj9
      have : d = x := by
        rw [hx] at hd
        cases hd
        rfl
      subst this
      unfold vA
      rw [if_pos rfl]
      exact ⟨g, new, e1, hg, setRow_heap w g _ _ _ (0, 0) hrow, hlen, fun _ => rfl⟩
    · have := vA_c (hv j d hj hd) hj9
      unfold vA
      rw [if_neg hj9]
      exact this
theorem fold_pairs (f : Nat → Option Nat) (c : Nat → Value) : ∀ (l : List Nat) (B : Array Value), l.foldl (fun B i => match f i with | some d => B.setIfInBounds d (c i) | none => B) B = (l.filterMap fun i => (f i).map fun d => (d, c i)).foldl (fun B p => B.setIfInBounds p.1 p.2) B
  | [], _ => rfl
  | i :: l, B => by
    rw [List.foldl_cons, fold_pairs f c l, List.filterMap_cons]
    cases f i <;> rfl
theorem wp_region_new {id : Nat} (ia st da : Nat) (T : TypeId) (len : Nat) (new cs : List Value) (ds : Nat → List (Nat × Value)) (hf : P.follows .mixedOrders = true) (hok : okMd ops N = true) (hN : a0.tmps.size = N)
    (hdst : dstOf ops ia = some da) (hst : st < ops.size) (hic : ia < cs.length) (hds : ∀ g, (List.range ops.size).filterMap (fun i => (dstOf ops i).map fun d => (d, (cs.set ia (pt g 0)).getD i undef)) = ds g)
    (hown : ∀ i o, ops[i]? = some o → Owe P ops Q N a0 (vA ia st T len new w0.heap.size cs) (fun _ w => Below w0.heap.size w0 w) i o)
    (hend : ∀ g W, w0.heap.size ≤ g → W.heap[g]? = some (.cells new.toArray T) → Below w0.heap.size w0 W → Q .normal { tmps := (ds g).foldl (fun B p => B.setIfInBounds p.1 p.2) a0.tmps, defers := a0.defers } W) :
    (Code.region id ops true).wp P Q a0 w0 := by
  refine wp_region_md (N := N) (vA ia st T len new w0.heap.size cs) (fun _ w => Below w0.heap.size w0 w) hf hok hN (fun w1 h1 => h1) hown ?_
  intro L a W hall hJ hs hd hk hv
  have h9 := hv ia da hdst
  unfold vA at h9
  rw [if_pos rfl] at h9
  obtain ⟨g, row, e1, hg, hrow, -, hrx⟩ := h9
  obtain rfl := hrx (hall st hst)
  have e := frame_of (c := fun i => (cs.set ia (pt g 0)).getD i undef) (hs.trans hN.symm) hk (fun i d hdd => by
    by_cases h9 : i = ia
    · subst h9
      rw [hdst] at hdd
      cases hdd
      rw [e1, List.getD_eq_getElem?_getD, List.getElem?_set_self hic]
      rfl
    · rw [vA_c (hv i d hdd) h9, List.getD_eq_getElem?_getD, List.getD_eq_getElem?_getD, List.getElem?_set_ne (fun h => h9 h.symm)])
  have e2 := e.trans (fold_pairs (fun i => dstOf ops i) (fun i => (cs.set ia (pt g 0)).getD i undef) (List.range ops.size) a0.tmps)
  rw [hds] at e2
  have ea : a = { tmps := (ds g).foldl (fun B p => B.setIfInBounds p.1 p.2) a0.tmps, defers := a0.defers } := by
    obtain ⟨tm, df⟩ := a
    cases e2
    cases hd
    rfl
  rw [ea]
  exact hend g W hg hrow hJ
end
end Go.Proofs.YtoneoocihfjfgaaGreatDoor.Ms
namespace Go.Proofs.YtoneoocihfjfgaaGreatDoor.Hist
open Go Go.RowKit
set_option maxRecDepth 100000
set_option maxHeartbeats 2000000 in
theorem rcount_any (h : List UInt8) (hl : h.length < 9223372036854775807) (c : Int) (w : World) : Calls Tryz.prog 34 #[.string ⟨h.toArray⟩, .int .i64 c] w fun e w' => e = .returned (.int .i64 (cnt h c)) ∧ w' = w := by
  have hss : (⟨h.toArray⟩ : ByteArray).size = h.length := rfl
  go_enter Tryz.func34, Tryz.ntmps34
  go_wp2
  go_loopw [5, 6] (fun v i w' => ∃ j : Nat, j ≤ h.length ∧ i = .int .i64 j ∧ v = .int .i64 (cnt (h.take j) c) ∧ w' = w) (fun _ i _ => h.length - (intOf i).toNat)
  case atStart => exact ⟨0, by omega, rfl, rfl, rfl⟩
  case round =>
    obtain ⟨j, hj, rfl, rfl, hw⟩ := hrel
    subst wr
    by_cases hlt : j < h.length
    · have d1 : decide ((j : Int) < (h.length : Int)) = true := by simp; omega
      have hq : ((⟨h.toArray⟩ : ByteArray)[j]'(by rw [hss]; exact hlt)).toNat = (h.getD j 0).toNat := getD_byte h j _
      have hs := cnt_step h j hlt c
      have hx : bv (h.getD j 0) = ((h.getD j 0).toNat : Int) := rfl
      have hx2 : (h.getD j 0).toNat < 256 := (h.getD j 0).toNat_lt
      have hcl := Nat.le_trans (cnt_take_le h j c) (cnt_le h c)
      have HS := hid hs
      generalize (h.getD j 0).toNat = x at *
      clear hs
      by_cases he : bv (h.getD j 0) = c
      · have HS' := HS.out
        rw [if_pos he] at HS'
        have HS2 := hid HS'
        have d2 : ((x : Int) == c) = true := by rw [← hx]; simpa using he
        clear HS HS' he hx
        generalize cnt (h.take j) c = m at *
        go_wp2
        exact ⟨⟨j + 1, by omega, by go_num, by rw [HS2.out]; go_num, trivial⟩, by simp [intOf]; omega⟩
      · have HS' := HS.out
        rw [if_neg he] at HS'
        have HS2 := hid HS'
        have d2 : ((x : Int) == c) = false := by rw [← hx]; simpa using he
        clear HS HS' he hx
        generalize cnt (h.take j) c = m at *
        go_wp2
        exact ⟨⟨j + 1, by omega, by go_num, by rw [HS2.out]; rfl, trivial⟩, by simp [intOf]; omega⟩
    · obtain rfl : j = h.length := by omega
      have e := cnt_all h c
      rw [e]
      go_wp2
      go_ret
      exact ⟨rfl, rfl⟩
end Go.Proofs.YtoneoocihfjfgaaGreatDoor.Hist
namespace Go.Proofs.YtoneoocihfjfgaaGreatDoor.Ms
open Go Go.RowKit
set_option maxRecDepth 100000
def RCom (w : World) (x : Nat) (G : List Nat) (R : Rs) (c : Int) (v t : List UInt8) (e : Ending) (w' : World) : Prop := ∃ G', e = .returned (nu (comE R c v t)) ∧ RY w' x G' (comR R c v t) ∧ Kp G w w' ∧ ∀ b ∈ G', b ∈ G ∨ w.heap.size ≤ b
theorem rcom_err {w w' : World} {x : Nat} {G : List Nat} {R : Rs} (h : RY w x G R) {c : Int} {v t : List UInt8} (he : comE R c v t ≠ 0) (hb : Below w.heap.size w w') : RCom w x G R c v t (.returned (nu (comE R c v t))) w' := by
  refine ⟨G, rfl, ?_, Kp.of hb, fun b hb => Or.inl hb⟩
  unfold comR
  rw [if_pos he]
  exact h.kept hb
set_option maxHeartbeats 8000000 in
theorem rcom_a {w : World} {x : Nat} {G : List Nat} {R : Rs} (h : RY w x G R) {c : Int} {v t : List UInt8} (htl : t.length = 32) (hm : mayB (comM c v t) = false) :
    Calls Tryz.prog 18 #[pt x 0, nu c, st v, .agg (dg t).toArray] w (RCom w x G R c v t) := by
  have hcode : comE R c v t = 2 := by unfold comE comOk; rw [hm, Bool.and_false, if_pos rfl]
  have HEnd : Hid (∀ w', Below w.heap.size w w' → RCom w x G R c v t (.returned (nu 2)) w') := fun w' hb => by
    have := rcom_err h (c := c) (v := v) (t := t) (by rw [hcode]; decide) hb
    rwa [hcode] at this
  have B1 := hid (below_a1 w (.cells (dg t).toArray 32))
  have T1 := hid (top_obj w (.cells (dg t).toArray 32))
  have H1 := hid (h.kept B1.out)
  have ZT : (Tryz.prog.info? 32).map (·.size) = some (dg t).length := by rw [dg_len, htl]; exact sizeDig
  have SX := hid (fun (W : World) (hb : Below (w.alloc (.cells (dg t).toArray 32)).heap.size (w.alloc (.cells (dg t).toArray 32)) W) => row_seg (off := 0) (A := []) (cs := dg t) (C := []) (row_kept T1.out hb) (by simp) rfl)
  have HBm := hid (fun W => build_comm W c v t htl)
  have HMy := hid (rmay (vP := .slice none 0 0) (vN := .slice none 0 0) (com_wf (c := c) (v := v) htl) i64_zero (PensAt.nil (w.alloc (.cells (dg t).toArray 32))) (IntsAt.nil _) ⟨Nat.zero_le _, Nat.zero_le _⟩)
  have HIs := hid (fun (W : World) (hb : Below (w.alloc (.cells (dg t).toArray 32)).heap.size (w.alloc (.cells (dg t).toArray 32)) W) => r12is_any (H1.out.kept hb) c)
  rw [hm] at HMy
  clear h T1 hcode hm H1 HIs htl
  show Calls _ _ _ _ (fun e w' => RCom w x G R c v t e w')
  have HSS := hid (SX.out _ (Below.refl _ _))
  generalize msgC (comM c v t) (.slice none 0 0) (.slice none 0 0) = MV at *
  generalize dg t = TT at *
  go_enter Tryz.func18, Tryz.ntmps18
  go_upto_region 1 with fail
  generalize w.alloc (.cells TT.toArray 32) = W1 at *
  have hB1 : w.heap.size ≤ W1.heap.size := B1.out.size
  obtain ⟨gX, hgX⟩ : ∃ gX, gX = w.heap.size := ⟨_, rfl⟩
  rw [← hgX] at HSS SX ⊢
  have HgX := hid hgX
  clear hgX
  go_wp2_with (first
    | ((with_reducible refine wl_load 32 (.tmp 7) ?_ gX 0 ?_ ?_ TT _ HSS.out Tryz.underlying32 ?_ ZT ?_); exact rfl; exact rfl; exact rfl; exact rfl)
    | ((with_reducible refine wl_buildL 76 [(0, .const (nu 3)), (1, .tmp 12), (4, .tmp 13), (6, .tmp 14)] ?_ ?_ MV.toArray ?_ ?_); exact rfl; exact rfl; exact (HBm.out _)))
  refine HMy.out.mono ?_
  rintro e W2 ⟨rfl, hb2⟩
  have B2 := hid (below_two B1.out hb2)
  have A2 := hid hb2
  clear hb2
  go_wp2
  go_ret
  exact HEnd.out _ B2.out
set_option maxHeartbeats 8000000 in
theorem rcom_b {w : World} {x : Nat} {G : List Nat} {R : Rs} (h : RY w x G R) {c : Int} {v t : List UInt8} (htl : t.length = 32) (hm : mayB (comM c v t) = true) (hh : hasB R.n c = false) :
    Calls Tryz.prog 18 #[pt x 0, nu c, st v, .agg (dg t).toArray] w (RCom w x G R c v t) := by
  have hcode : comE R c v t = 2 := by unfold comE comOk; rw [hh, Bool.false_and, if_pos rfl]
  have HEnd : Hid (∀ w', Below w.heap.size w w' → RCom w x G R c v t (.returned (nu 2)) w') := fun w' hb => by
    have := rcom_err h (c := c) (v := v) (t := t) (by rw [hcode]; decide) hb
    rwa [hcode] at this
  have B1 := hid (below_a1 w (.cells (dg t).toArray 32))
  have T1 := hid (top_obj w (.cells (dg t).toArray 32))
  have H1 := hid (h.kept B1.out)
  have ZT : (Tryz.prog.info? 32).map (·.size) = some (dg t).length := by rw [dg_len, htl]; exact sizeDig
  have SX := hid (fun (W : World) (hb : Below (w.alloc (.cells (dg t).toArray 32)).heap.size (w.alloc (.cells (dg t).toArray 32)) W) => row_seg (off := 0) (A := []) (cs := dg t) (C := []) (row_kept T1.out hb) (by simp) rfl)
  have HBm := hid (fun W => build_comm W c v t htl)
  have HMy := hid (rmay (vP := .slice none 0 0) (vN := .slice none 0 0) (com_wf (c := c) (v := v) htl) i64_zero (PensAt.nil (w.alloc (.cells (dg t).toArray 32))) (IntsAt.nil _) ⟨Nat.zero_le _, Nat.zero_le _⟩)
  have HIs := hid (fun (W : World) (hb : Below (w.alloc (.cells (dg t).toArray 32)).heap.size (w.alloc (.cells (dg t).toArray 32)) W) => r12is_any (H1.out.kept hb) c)
  rw [hm] at HMy
  rw [hh] at HIs
  clear h T1 hcode hm H1 hh htl
  show Calls _ _ _ _ (fun e w' => RCom w x G R c v t e w')
  have HSS := hid (SX.out _ (Below.refl _ _))
  generalize msgC (comM c v t) (.slice none 0 0) (.slice none 0 0) = MV at *
  generalize dg t = TT at *
  go_enter Tryz.func18, Tryz.ntmps18
  go_upto_region 1 with fail
  generalize w.alloc (.cells TT.toArray 32) = W1 at *
  have hB1 : w.heap.size ≤ W1.heap.size := B1.out.size
  obtain ⟨gX, hgX⟩ : ∃ gX, gX = w.heap.size := ⟨_, rfl⟩
  rw [← hgX] at HSS SX ⊢
  have HgX := hid hgX
  clear hgX
  go_wp2_with (first
    | ((with_reducible refine wl_load 32 (.tmp 7) ?_ gX 0 ?_ ?_ TT _ HSS.out Tryz.underlying32 ?_ ZT ?_); exact rfl; exact rfl; exact rfl; exact rfl)
    | ((with_reducible refine wl_buildL 76 [(0, .const (nu 3)), (1, .tmp 12), (4, .tmp 13), (6, .tmp 14)] ?_ ?_ MV.toArray ?_ ?_); exact rfl; exact rfl; exact (HBm.out _)))
  refine HMy.out.mono ?_
  rintro e W2 ⟨rfl, hb2⟩
  have B2 := hid (below_two B1.out hb2)
  have A2 := hid hb2
  clear hb2
  go_wp2_with fail
  refine (HIs.out _ A2.out).mono ?_
  rintro e w1 ⟨rfl, hw1⟩
  subst w1
  go_wp2
  go_ret
  exact HEnd.out _ B2.out
set_option maxHeartbeats 8000000 in
theorem rcom_c {w : World} {x : Nat} {G : List Nat} {R : Rs} (h : RY w x G R) {k : Nat} {v t : List UInt8} (htl : t.length = 32) (hok : comOk R (k : Int) v t = true) (h3 : lastI v ≠ (k : Int)) :
    Calls Tryz.prog 18 #[pt x 0, nu (k : Int), st v, .agg (dg t).toArray] w (RCom w x G R (k : Int) v t) := by
  obtain ⟨h1, h2⟩ : hasB R.n (k : Int) = true ∧ mayB (comM (k : Int) v t) = true := by simpa [comOk, Bool.and_eq_true] using hok
  obtain ⟨hkn, hne, hvl, -⟩ := comOk_parts hok
  have hkR : k < R.n := by omega
  have hcode : comE R (k : Int) v t = 3 := by unfold comE; rw [if_neg (by rw [hok]; simp), if_pos (Or.inl h3)]
  have HEnd : Hid (∀ w', Below w.heap.size w w' → RCom w x G R (k : Int) v t (.returned (nu 3)) w') := fun w' hb => by
    have := rcom_err h (c := (k : Int)) (v := v) (t := t) (by rw [hcode]; decide) hb
    rwa [hcode] at this
  have B1 := hid (below_a1 w (.cells (dg t).toArray 32))
  have T1 := hid (top_obj w (.cells (dg t).toArray 32))
  have H1 := hid (h.kept B1.out)
  have ZT : (Tryz.prog.info? 32).map (·.size) = some (dg t).length := by rw [dg_len, htl]; exact sizeDig
  have SX := hid (fun (W : World) (hb : Below (w.alloc (.cells (dg t).toArray 32)).heap.size (w.alloc (.cells (dg t).toArray 32)) W) => row_seg (off := 0) (A := []) (cs := dg t) (C := []) (row_kept T1.out hb) (by simp) rfl)
  have HBm := hid (fun W => build_comm W (k : Int) v t htl)
  have HMy := hid (rmay (vP := .slice none 0 0) (vN := .slice none 0 0) (com_wf (c := (k : Int)) (v := v) htl) i64_zero (PensAt.nil (w.alloc (.cells (dg t).toArray 32))) (IntsAt.nil _) ⟨Nat.zero_le _, Nat.zero_le _⟩)
  have HIs := hid (fun (W : World) (hb : Below (w.alloc (.cells (dg t).toArray 32)).heap.size (w.alloc (.cells (dg t).toArray 32)) W) => r12is_any (H1.out.kept hb) (k : Int))
  obtain ⟨m, hm⟩ : ∃ m, v.length = m + 1 := by
    cases v with
    | nil => exact absurd rfl hne
    | cons a l => exact ⟨l.length, rfl⟩
  have hss : (⟨v.toArray⟩ : ByteArray).size = m + 1 := hm
  have hq : ((⟨v.toArray⟩ : ByteArray)[m]'(by rw [hss]; omega)).toNat = (v.getD m 0).toNat := byte_at v m _
  have HLI : Hid (lastI v = (((v.getD m 0).toNat : Nat) : Int)) := by show _ = _; unfold lastI; rw [hm]; rfl
  obtain ⟨bb, HBB⟩ : ∃ bb : Nat, Hid (bb = (v.getD m 0).toNat) := ⟨_, rfl⟩
  have hbb : bb < 256 := by rw [HBB.out]; exact UInt8.toNat_lt _
  rw [← HBB.out] at hq HLI
  have hw6 : wrap64 (bb : Int) = (bb : Int) := by unfold wrap64; omega
  have HCn := hid (fun W => Hist.rcount_any v (by omega) (k : Int) W)
  have hd : ((bb : Int) != (k : Int)) = true := by
    rw [HLI.out] at h3
    exact bne_iff_ne.2 h3
  have hd' : (bb != k) = true := by
    rw [HLI.out] at h3
    exact bne_iff_ne.2 (fun e => h3 (by rw [e]))
  rw [h2] at HMy
  rw [h1] at HIs
  clear h T1 hcode h1 h2 H1 htl hok hkn hne HBB h3 HLI
  generalize Hist.cnt v (k : Int) = cv at *
  show Calls _ _ _ _ (fun e w' => RCom w x G R (k : Int) v t e w')
  have HSS := hid (SX.out _ (Below.refl _ _))
  generalize msgC (comM (k : Int) v t) (.slice none 0 0) (.slice none 0 0) = MV at *
  generalize dg t = TT at *
  go_enter Tryz.func18, Tryz.ntmps18
  go_upto_region 1 with fail
  generalize w.alloc (.cells TT.toArray 32) = W1 at *
  have hB1 : w.heap.size ≤ W1.heap.size := B1.out.size
  obtain ⟨gX, hgX⟩ : ∃ gX, gX = w.heap.size := ⟨_, rfl⟩
  rw [← hgX] at HSS SX ⊢
  have HgX := hid hgX
  clear hgX
  go_wp2_with (first
    | ((with_reducible refine wl_load 32 (.tmp 7) ?_ gX 0 ?_ ?_ TT _ HSS.out Tryz.underlying32 ?_ ZT ?_); exact rfl; exact rfl; exact rfl; exact rfl)
    | ((with_reducible refine wl_buildL 76 [(0, .const (nu 3)), (1, .tmp 12), (4, .tmp 13), (6, .tmp 14)] ?_ ?_ MV.toArray ?_ ?_); exact rfl; exact rfl; exact (HBm.out _)))
  refine HMy.out.mono ?_
  rintro e W2 ⟨rfl, hb2⟩
  have B2 := hid (below_two B1.out hb2)
  have A2 := hid hb2
  clear hb2
  go_wp2_with fail
  refine (HIs.out _ A2.out).mono ?_
  rintro e w1 ⟨rfl, hw1⟩
  subst w1
  go_wp2_with fail
  refine (HCn.out _).mono ?_
  rintro e w1 ⟨rfl, hw1⟩
  subst w1
  have B3 := B2
  go_wp2
  go_ret
  exact HEnd.out _ B3.out
set_option maxHeartbeats 8000000 in
theorem rcom_d {w : World} {x : Nat} {G : List Nat} {R : Rs} (h : RY w x G R) {k : Nat} {v t : List UInt8} (htl : t.length = 32) (hok : comOk R (k : Int) v t = true) (h3 : lastI v = (k : Int)) (h4 : (Hist.cnt v (k : Int) : Int) ≠ (R.reg (k : Int)).asked.number) :
    Calls Tryz.prog 18 #[pt x 0, nu (k : Int), st v, .agg (dg t).toArray] w (RCom w x G R (k : Int) v t) := by
  obtain ⟨h1, h2⟩ : hasB R.n (k : Int) = true ∧ mayB (comM (k : Int) v t) = true := by simpa [comOk, Bool.and_eq_true] using hok
  obtain ⟨hkn, hne, hvl, -⟩ := comOk_parts hok
  have hkR : k < R.n := by omega
  have hcode : comE R (k : Int) v t = 3 := by unfold comE; rw [if_neg (by rw [hok]; simp), if_pos (Or.inr h4)]
  have HEnd : Hid (∀ w', Below w.heap.size w w' → RCom w x G R (k : Int) v t (.returned (nu 3)) w') := fun w' hb => by
    have := rcom_err h (c := (k : Int)) (v := v) (t := t) (by rw [hcode]; decide) hb
    rwa [hcode] at this
  have B1 := hid (below_a1 w (.cells (dg t).toArray 32))
  have T1 := hid (top_obj w (.cells (dg t).toArray 32))
  have H1 := hid (h.kept B1.out)
  have ZT : (Tryz.prog.info? 32).map (·.size) = some (dg t).length := by rw [dg_len, htl]; exact sizeDig
  have SX := hid (fun (W : World) (hb : Below (w.alloc (.cells (dg t).toArray 32)).heap.size (w.alloc (.cells (dg t).toArray 32)) W) => row_seg (off := 0) (A := []) (cs := dg t) (C := []) (row_kept T1.out hb) (by simp) rfl)
  have HBm := hid (fun W => build_comm W (k : Int) v t htl)
  have HMy := hid (rmay (vP := .slice none 0 0) (vN := .slice none 0 0) (com_wf (c := (k : Int)) (v := v) htl) i64_zero (PensAt.nil (w.alloc (.cells (dg t).toArray 32))) (IntsAt.nil _) ⟨Nat.zero_le _, Nat.zero_le _⟩)
  have HIs := hid (fun (W : World) (hb : Below (w.alloc (.cells (dg t).toArray 32)).heap.size (w.alloc (.cells (dg t).toArray 32)) W) => r12is_any (H1.out.kept hb) (k : Int))
  obtain ⟨bs, br, bv, bt, ps, vP, Y, hz, hG1, hG2⟩ := h
  have HZ1 := hid (hz.kept B1.out)
  obtain ⟨AN, HAN⟩ : ∃ AN, Hid (AN = (R.reg (k : Int)).asked.number) := ⟨_, rfl⟩
  obtain ⟨m, hm⟩ : ∃ m, v.length = m + 1 := by
    cases v with
    | nil => exact absurd rfl hne
    | cons a l => exact ⟨l.length, rfl⟩
  have hss : (⟨v.toArray⟩ : ByteArray).size = m + 1 := hm
  have hq : ((⟨v.toArray⟩ : ByteArray)[m]'(by rw [hss]; omega)).toNat = (v.getD m 0).toNat := byte_at v m _
  have HLI : Hid (lastI v = (((v.getD m 0).toNat : Nat) : Int)) := by show _ = _; unfold lastI; rw [hm]; rfl
  obtain ⟨bb, HBB⟩ : ∃ bb : Nat, Hid (bb = (v.getD m 0).toNat) := ⟨_, rfl⟩
  have hbb : bb < 256 := by rw [HBB.out]; exact UInt8.toNat_lt _
  rw [← HBB.out] at hq HLI
  have hw6 : wrap64 (bb : Int) = (bb : Int) := by unfold wrap64; omega
  have HCn := hid (fun W => Hist.rcount_any v (by omega) (k : Int) W)
  have hd : ((bb : Int) != (k : Int)) = false := by
    rw [HLI.out] at h3
    rw [h3]; exact bne_self_eq_false _
  have hd' : (bb != k) = false := by
    rw [HLI.out] at h3
    have : bb = k := by omega
    rw [this]; exact bne_self_eq_false _
  have h5 : (Hist.cnt v (k : Int) : Int) ≠ AN := by rw [HAN.out]; exact h4
  rw [h2] at HMy
  rw [h1] at HIs
  clear T1 hcode h1 h2 H1 htl hok hkn hne HBB h3 HLI h4 hz hG1 hG2
  generalize Hist.cnt v (k : Int) = cv at *
  have hd2 : ((cv : Int) != AN) = true := bne_iff_ne.2 h5
  clear h5
  show Calls _ _ _ _ (fun e w' => RCom w x G R (k : Int) v t e w')
  have HSS := hid (SX.out _ (Below.refl _ _))
  generalize msgC (comM (k : Int) v t) (.slice none 0 0) (.slice none 0 0) = MV at *
  generalize dg t = TT at *
  go_enter Tryz.func18, Tryz.ntmps18
  go_upto_region 1 with fail
  generalize w.alloc (.cells TT.toArray 32) = W1 at *
  have hB1 : w.heap.size ≤ W1.heap.size := B1.out.size
  obtain ⟨gX, hgX⟩ : ∃ gX, gX = w.heap.size := ⟨_, rfl⟩
  rw [← hgX] at HSS SX ⊢
  have HgX := hid hgX
  clear hgX
  go_wp2_with (first
    | ((with_reducible refine wl_load 32 (.tmp 7) ?_ gX 0 ?_ ?_ TT _ HSS.out Tryz.underlying32 ?_ ZT ?_); exact rfl; exact rfl; exact rfl; exact rfl)
    | ((with_reducible refine wl_buildL 76 [(0, .const (nu 3)), (1, .tmp 12), (4, .tmp 13), (6, .tmp 14)] ?_ ?_ MV.toArray ?_ ?_); exact rfl; exact rfl; exact (HBm.out _)))
  refine HMy.out.mono ?_
  rintro e W2 ⟨rfl, hb2⟩
  have B2 := hid (below_two B1.out hb2)
  have A2 := hid hb2
  clear hb2
  go_wp2_with fail
  refine (HIs.out _ A2.out).mono ?_
  rintro e w1 ⟨rfl, hw1⟩
  subst w1
  go_wp2_with fail
  refine (HCn.out _).mono ?_
  rintro e w1 ⟨rfl, hw1⟩
  subst w1
  have B3 := B2
  have HZ3 := hid (HZ1.out.kept A2.out)
  have c1 := HZ3.out.cS
  have c2 : W2.cell? ⟨bs, k * 68, none⟩ = some (nu AN) := by rw [HAN.out]; exact HZ3.out.sub hkR 0 _ rfl
  have c3 := HZ3.out.cV
  have c4 := HZ3.out.view hkR
  unfold sl at c1 c3
  go_wp2
  go_ret
  exact HEnd.out _ B3.out
set_option maxHeartbeats 8000000 in
theorem rcom_e {w : World} {x : Nat} {G : List Nat} {R : Rs} (h : RY w x G R) {k : Nat} {v t : List UInt8} (htl : t.length = 32) (hok : comOk R (k : Int) v t = true) (h3 : lastI v = (k : Int)) (h4 : (Hist.cnt v (k : Int) : Int) = (R.reg (k : Int)).asked.number) (h6 : (Hist.cnt (R.reg (k : Int)).view (k : Int) : Int) = (R.reg (k : Int)).asked.number) :
    Calls Tryz.prog 18 #[pt x 0, nu (k : Int), st v, .agg (dg t).toArray] w (RCom w x G R (k : Int) v t) := by
  obtain ⟨h1, h2⟩ : hasB R.n (k : Int) = true ∧ mayB (comM (k : Int) v t) = true := by simpa [comOk, Bool.and_eq_true] using hok
  obtain ⟨hkn, hne, hvl, -⟩ := comOk_parts hok
  have hkR : k < R.n := by omega
  have hcode : comE R (k : Int) v t = 10 := by unfold comE; rw [if_neg (by rw [hok]; simp), if_neg (by omega), if_pos h6]
  have HEnd : Hid (∀ w', Below w.heap.size w w' → RCom w x G R (k : Int) v t (.returned (nu 10)) w') := fun w' hb => by
    have := rcom_err h (c := (k : Int)) (v := v) (t := t) (by rw [hcode]; decide) hb
    rwa [hcode] at this
  have B1 := hid (below_a1 w (.cells (dg t).toArray 32))
  have T1 := hid (top_obj w (.cells (dg t).toArray 32))
  have H1 := hid (h.kept B1.out)
  have ZT : (Tryz.prog.info? 32).map (·.size) = some (dg t).length := by rw [dg_len, htl]; exact sizeDig
  have SX := hid (fun (W : World) (hb : Below (w.alloc (.cells (dg t).toArray 32)).heap.size (w.alloc (.cells (dg t).toArray 32)) W) => row_seg (off := 0) (A := []) (cs := dg t) (C := []) (row_kept T1.out hb) (by simp) rfl)
  have HBm := hid (fun W => build_comm W (k : Int) v t htl)
  have HMy := hid (rmay (vP := .slice none 0 0) (vN := .slice none 0 0) (com_wf (c := (k : Int)) (v := v) htl) i64_zero (PensAt.nil (w.alloc (.cells (dg t).toArray 32))) (IntsAt.nil _) ⟨Nat.zero_le _, Nat.zero_le _⟩)
  have HIs := hid (fun (W : World) (hb : Below (w.alloc (.cells (dg t).toArray 32)).heap.size (w.alloc (.cells (dg t).toArray 32)) W) => r12is_any (H1.out.kept hb) (k : Int))
  obtain ⟨bs, br, bv, bt, ps, vP, Y, hz, hG1, hG2⟩ := h
  have HZ1 := hid (hz.kept B1.out)
  obtain ⟨AN, HAN⟩ : ∃ AN, Hid (AN = (R.reg (k : Int)).asked.number) := ⟨_, rfl⟩
  obtain ⟨m, hm⟩ : ∃ m, v.length = m + 1 := by
    cases v with
    | nil => exact absurd rfl hne
    | cons a l => exact ⟨l.length, rfl⟩
  have hss : (⟨v.toArray⟩ : ByteArray).size = m + 1 := hm
  have hq : ((⟨v.toArray⟩ : ByteArray)[m]'(by rw [hss]; omega)).toNat = (v.getD m 0).toNat := byte_at v m _
  have HLI : Hid (lastI v = (((v.getD m 0).toNat : Nat) : Int)) := by show _ = _; unfold lastI; rw [hm]; rfl
  obtain ⟨bb, HBB⟩ : ∃ bb : Nat, Hid (bb = (v.getD m 0).toNat) := ⟨_, rfl⟩
  have hbb : bb < 256 := by rw [HBB.out]; exact UInt8.toNat_lt _
  rw [← HBB.out] at hq HLI
  have hw6 : wrap64 (bb : Int) = (bb : Int) := by unfold wrap64; omega
  have HCn := hid (fun W => Hist.rcount_any v (by omega) (k : Int) W)
  have hd : ((bb : Int) != (k : Int)) = false := by
    rw [HLI.out] at h3
    rw [h3]; exact bne_self_eq_false _
  have hd' : (bb != k) = false := by
    rw [HLI.out] at h3
    have : bb = k := by omega
    rw [this]; exact bne_self_eq_false _
  obtain ⟨ov, HOV⟩ : ∃ ov, Hid (ov = (R.reg (k : Int)).view) := ⟨_, rfl⟩
  have HCo := hid (fun W => Hist.rcount_any ov (by rw [HOV.out]; have := (hz.inv.reg (k : Int)).view; omega) (k : Int) W)
  have h5 : (Hist.cnt v (k : Int) : Int) = AN := by rw [HAN.out]; exact h4
  have h7 : (Hist.cnt ov (k : Int) : Int) = (Hist.cnt v (k : Int) : Int) := by rw [HOV.out, h6, h4]
  rw [h2] at HMy
  rw [h1] at HIs
  clear T1 hcode h1 h2 H1 htl hok hkn hne HBB h3 HLI h4 hz hG1 hG2 h6
  generalize Hist.cnt v (k : Int) = cv at *
  generalize Hist.cnt ov (k : Int) = co at *
  have hd2 : ((cv : Int) != AN) = false := by rw [h5]; exact bne_self_eq_false _
  have hd3 : ((co : Int) == (cv : Int)) = true := by rw [h7]; exact beq_self_eq_true _
  have hd3' : (co == cv) = true := by
    have : co = cv := by omega
    rw [this]; exact beq_self_eq_true _
  clear h5 h7
  show Calls _ _ _ _ (fun e w' => RCom w x G R (k : Int) v t e w')
  have HSS := hid (SX.out _ (Below.refl _ _))
  generalize msgC (comM (k : Int) v t) (.slice none 0 0) (.slice none 0 0) = MV at *
  generalize dg t = TT at *
  go_enter Tryz.func18, Tryz.ntmps18
  go_upto_region 1 with fail
  generalize w.alloc (.cells TT.toArray 32) = W1 at *
  have hB1 : w.heap.size ≤ W1.heap.size := B1.out.size
  obtain ⟨gX, hgX⟩ : ∃ gX, gX = w.heap.size := ⟨_, rfl⟩
  rw [← hgX] at HSS SX ⊢
  have HgX := hid hgX
  clear hgX
  go_wp2_with (first
    | ((with_reducible refine wl_load 32 (.tmp 7) ?_ gX 0 ?_ ?_ TT _ HSS.out Tryz.underlying32 ?_ ZT ?_); exact rfl; exact rfl; exact rfl; exact rfl)
    | ((with_reducible refine wl_buildL 76 [(0, .const (nu 3)), (1, .tmp 12), (4, .tmp 13), (6, .tmp 14)] ?_ ?_ MV.toArray ?_ ?_); exact rfl; exact rfl; exact (HBm.out _)))
  refine HMy.out.mono ?_
  rintro e W2 ⟨rfl, hb2⟩
  have B2 := hid (below_two B1.out hb2)
  have A2 := hid hb2
  clear hb2
  go_wp2_with fail
  refine (HIs.out _ A2.out).mono ?_
  rintro e w1 ⟨rfl, hw1⟩
  subst w1
  go_wp2_with fail
  refine (HCn.out _).mono ?_
  rintro e w1 ⟨rfl, hw1⟩
  subst w1
  have B3 := B2
  have HZ3 := hid (HZ1.out.kept A2.out)
  have c1 := HZ3.out.cS
  have c2 : W2.cell? ⟨bs, k * 68, none⟩ = some (nu AN) := by rw [HAN.out]; exact HZ3.out.sub hkR 0 _ rfl
  have c3 := HZ3.out.cV
  have c4 := HZ3.out.view hkR
  unfold sl at c1 c3
  rw [← HOV.out] at c4
  go_wp2_with fail
  refine (HCo.out _).mono ?_
  rintro e w1 ⟨rfl, hw1⟩
  subst w1
  have B4 := B3
  go_wp2
  go_ret
  exact HEnd.out _ B4.out
end Go.Proofs.YtoneoocihfjfgaaGreatDoor.Ms
