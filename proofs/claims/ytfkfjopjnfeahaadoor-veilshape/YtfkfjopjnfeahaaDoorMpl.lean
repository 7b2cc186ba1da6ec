/-
  Keys' blocks and tags as plain functions, and laws of copy and of bytes out of a row.
-/
import Derived.Test.YtfkfjopjnfeahaaDoorRsm
import Derived.Test.YtfkfjopjnfeahaaDoorEqu
import Derived.Laws.BitsAllLaws
namespace Go.Proofs.YtfkfjopjnfeahaaDoor
open Go Go.RowKit
set_option maxRecDepth 100000

theorem hid {p : Prop} (h : p) : Hid p := h
/-- A key, or the sum of one that is longer than a block. -/
def kcut (k : List UInt8) : List UInt8 := if 64 < k.length then sha k else k
/-- A key's block. -/
def kblk (k : List UInt8) : List UInt8 := kcut k ++ List.replicate (64 - (kcut k).length) 0
def padB (k : List UInt8) (x : UInt8) : List UInt8 := (kblk k).map (· ^^^ x)
/-- The tag. -/
def hmac (k t : List UInt8) : List UInt8 := sha (padB k 92 ++ sha (padB k 54 ++ t))
theorem sha_len (l : List UInt8) : (sha l).length = 32 := dig_len _
theorem kcut_len (k : List UInt8) : (kcut k).length ≤ 64 := by
  unfold kcut; split
  · rw [sha_len]; omega
  · omega
theorem kblk_len (k : List UInt8) : (kblk k).length = 64 := by
  have := kcut_len k
  unfold kblk; rw [List.length_append, List.length_replicate]; omega
theorem padB_len (k : List UInt8) (x : UInt8) : (padB k x).length = 64 := by unfold padB; rw [List.length_map, kblk_len]
theorem hmac_len (k t : List UInt8) : (hmac k t).length = 32 := sha_len _

theorem bv_xor (a b : UInt8) : bits .xor .u8 (bv a) (bv b) = bv (a ^^^ b) := by
  unfold bv; rw [u8_xor_nat _ _ a.toNat_lt b.toNat_lt, UInt8.toNat_xor]

theorem wpList_copy_string {P : Program} {ops : Array Oper} {rest : List Oper} {o : Oper} {a : Act} {w : World} {Q : Exit → Act → World → Prop}
    (hgd : o.guard = none) (d x : Operand) (dT sT elem : TypeId) (hop : o.op = Op.call { callee := Callee.builtin Builtin.copy, args := #[d, x], argTypes := #[dT, sT] })
    (g off dLen dCap : Nat) (hd : a.eval d = .slice (some ⟨g, off, none⟩) dLen dCap) (s : ByteArray) (hx : a.eval x = .string s) (cur : Array Value) (t : TypeId) (y : List UInt8) (n : Nat) (hs : s = ⟨y.toArray⟩) (hn : n = Nat.min y.length dLen)
    (hu : P.underlying dT = some (.slice elem)) (hz : (P.info? elem).map (·.size) = some 1) (hg : w.heap[g]? = some (.cells cur t (0, 0))) (hfit : off + n ≤ cur.size)
    (h : wpList P ops Q rest (a.put o.dst (.int .i64 (n : Int))) (w.setRow g (cur.toList.take off ++ (y.take n).map cb ++ cur.toList.drop (off + ((y.take n).map cb).length)).toArray)) : wpList P ops Q (o :: rest) a w := by
  refine wpList_plain hgd fun K hK => ?_
  have h' := hK _ _ h
  have hrun := run_copy_string (P := P) w dT sT o.type elem g off dLen dCap s cur t y n hs hn hu hz hg hfit
  unfold Oper.wp
  simp only [execOp, hop, resolve, invoke, builtin, Sem.run_bind, Sem.run_pure, Result.andThen_ok, List.map_toArray, List.map_cons, List.map_nil, hd, hx, hrun]
  exact h'

theorem conv_row (W : World) (g cap : Nat) (l : List UInt8) (n : Nat) (hn : n = l.length) (t : TypeId) (h : W.heap[g]? = some (.cells (l.map cb).toArray t)) :
    (convert 36 9 (.slice (some ⟨g, 0, none⟩) n cap)).run Tryd.prog W = .ok (.string ⟨l.toArray⟩) W := by
  subst hn
  refine run_convert_bytes_back W 36 9 5 ⟨g, 0, none⟩ cap l Tryd.underlying36 Tryd.underlying5 Tryd.underlying9 (fun j hj => ?_)
  rw [add_none, Nat.zero_add, cell_of_row _ _ _ _ _ _ h, List.getElem?_toArray, cb_at l j hj]
  simp [bv, List.getD, hj]

theorem bytes_any (l : List UInt8) (hl : l.length = 32) (w : World) : Calls Tryd.prog 23 #[.agg (l.map cb).toArray] w fun e w' => e = .returned (.string ⟨l.toArray⟩) ∧ Below w.heap.size w w' := by
  have HV := conv_row (w.alloc (.cells (l.map cb).toArray 51)) w.heap.size 32 l 32 hl.symm 51 (top_row w _)
  have HB : Hid (Below w.heap.size w (w.alloc (.cells (l.map cb).toArray 51))) := below_a1 w _
  generalize (l.map cb).toArray = D at *
  go_enter Tryd.func23, Tryd.ntmps23
  go_wp2
  go_ret
  exact ⟨rfl, HB.out⟩

set_option maxHeartbeats 1000000 in
theorem rbytes_any (l : List UInt8) (hl : l.length = 32) (w : World) : Calls Tryd.prog 26 #[.agg (l.map cb).toArray] w fun e w' => e = .returned (.string ⟨l.toArray⟩) ∧ Below w.heap.size w w' := by
  have HC : Hid (∀ j, j < 32 → (l.map cb).toArray[j]? = some (.int .u8 (bv (l.getD j 0)))) := by
    intro j hj
    simpa using cb_at l j (by omega)
  have HW : Hid ((w.alloc (.cells (l.map cb).toArray 51)).heap[w.heap.size]? = some (.cells (l.map cb).toArray 51)) := top_row w _
  have HB0 : Hid (Below w.heap.size w (w.alloc (.cells (l.map cb).toArray 51))) := below_a1 w _
  have hz0 : Hid (w.heap.size + 1 ≤ (w.alloc (.cells (l.map cb).toArray 51)).heap.size) := show _ ≤ _ by simp
  generalize (l.map cb).toArray = D at *
  go_enter Tryd.func26, Tryd.ntmps26
  go_upto_region 1 with fail
  generalize w.alloc (.cells D 51) = w0 at *
  have HE0 : Hid (brow w0 w0.heap.size (.slice none 0 0) (l.take 0)) := Or.inl ⟨rfl, rfl⟩
  go_wp2
  go_loopw [3, 4] (fun v i w' => ∃ j : Nat, j ≤ 32 ∧ i = .int .i64 j ∧ Hid (brow w' w0.heap.size v (l.take j)) ∧ Hid (w'.heap[w.heap.size]? = some (.cells D 51)) ∧ Hid (Below w0.heap.size w0 w')) (fun _ i _ => 32 - (intOf i).toNat)
  case atStart => exact ⟨0, by omega, rfl, HE0, HW, Below.refl _ _⟩
  case round =>
    clear HE0 HW
    obtain ⟨j, hj, rfl, HE, HW, HB⟩ := hrel
    have hsz : w0.heap.size ≤ wr.heap.size := HB.out.size
    by_cases hlt : j < 32
    · have HS : Hid (l.take j ++ [l.getD j 0] = l.take (j + 1)) := by
        show _ = _
        rw [List.take_add_one, List.getD_eq_getElem?_getD, List.getElem?_eq_getElem (by omega)]; rfl
      have HL : Hid ((l.take j).length = j) := by show _ = _; rw [List.length_take]; omega
      have hc : wr.cell? ⟨w.heap.size, j, none⟩ = some (.int .u8 (bv (l.getD j 0))) := by rw [cell_of_row _ _ _ _ _ _ HW.out]; exact HC.out j hlt
      generalize l.getD j 0 = c at *
      generalize hLL : l.take j = L at *
      clear hLL
      go_wp2_with (first | (at_builtin; refine wpList_app rfl _ _ rfl w0.heap.size w0.heap.size _ _ L [c] rfl rfl (brow_below HE.out (below_a1 _ _) (Nat.le_refl _)) (brow_lit _ _ c _ rfl hsz) (Or.inr (by simp)) ?c1 ?c2 ?_))
      case c1 => rw [HL.out]; simp; omega
      case c2 => simp; omega
      intro v3 w3 hr3 hg3
      have HB3 : Hid (Below w0.heap.size w0 w3) := (HB.out.alloc hsz _).grown hg3 (by simp; omega) (brow_own HE.out)
      rw [HS.out] at hr3
      have HR3 : Hid (brow w3 w0.heap.size v3 (l.take (j + 1))) := hr3
      have HW3 : Hid (w3.heap[w.heap.size]? = some (.cells D 51)) := by
        have h1 := hz0.out
        have h2 := HB.out.block w.heap.size (by omega)
        exact (HB3.out.block w.heap.size (by omega)).trans (h2.symm.trans HW.out)
      clear hr3 hg3 HE HB HW
      go_wp2
      go_roundw
      case rel => exact ⟨j + 1, by omega, by go_num, HR3, HW3, HB3⟩
      case measure => simp [intOf]; omega
    · obtain rfl : j = 32 := by omega
      have HT : Hid (l.take 32 = l) := List.take_of_length_le (by omega)
      have HV : (convert 36 9 u3).run Tryd.prog wr = .ok (.string ⟨l.toArray⟩) wr := by
        have h := conv_brow HE.out
        rw [HT.out] at h
        exact h
      have HB2 : Hid (Below w.heap.size w wr) := HB0.out.trans (HB.out.mono (by have := hz0.out; omega))
      clear HE HB HW
      go_wp2
      go_ret
      exact ⟨rfl, HB2.out⟩

end Go.Proofs.YtfkfjopjnfeahaaDoor
