/-
  What few and awake of the laws answer, and the law of '==' on digests.
-/
import Derived.Test.YthpannpadmeknaaDoorMdig
import Derived.Test.YthpannpadmeknaaDoorMjef
namespace Go.Proofs.YthpannpadmeknaaDoor
open Go Go.RowKit
set_option maxRecDepth 100000

theorem cut_take (y : List UInt8) (t : Nat) : (⟨y.toArray⟩ : ByteArray).extract 0 t = ⟨(y.take t).toArray⟩ := by
  have h : ((⟨y.toArray⟩ : ByteArray).extract 0 t).data = (y.take t).toArray := by
    rw [ByteArray.data_extract]
    apply Array.toList_inj.1
    simp
  cases hh : (⟨y.toArray⟩ : ByteArray).extract 0 t with
  | mk d => rw [hh] at h; simp only at h; rw [h]

theorem few_any (l : List UInt8) (w : World) : Calls Tryd.prog 8 #[.string ⟨l.toArray⟩] w fun e w' => e = .returned (.string ⟨(l.take 1500).toArray⟩) ∧ w' = w := by
  have hs : (⟨l.toArray⟩ : ByteArray).size = l.length := rfl
  by_cases hlt : 1500 < l.length
  · have hd : decide ((1500 : Int) < (l.length : Int)) = true := by simp; omega
    have hx : Hid ((⟨l.toArray⟩ : ByteArray).extract 0 1500 = ⟨(l.take 1500).toArray⟩) := cut_take l 1500
    go_enter Tryd.func8, Tryd.ntmps8
    go_wp2
    go_ret
    exact ⟨by rw [hx.out]; rfl, rfl⟩
  · have hd : decide ((1500 : Int) < (l.length : Int)) = false := by simp; omega
    have hx : Hid (l.take 1500 = l) := List.take_of_length_le (by omega)
    go_enter Tryd.func8, Tryd.ntmps8
    go_wp2
    go_ret
    exact ⟨by rw [hx.out]; rfl, rfl⟩
theorem few_len (l : List UInt8) : (l.take 1500).length ≤ 1500 := by rw [List.length_take]; omega

theorem equal25 (x y : List UInt8) (hx : x.length = 32) (hy : y.length = 32) (w : World) : (Op.equalIn 10000 25 (.agg (x.map cb).toArray) (.agg (y.map cb).toArray)).run Tryd.prog w = .ok (decide (x = y)) w :=
  run_equal_bytes (P := Tryd.prog) w 25 5 32 .u8 Tryd.underlying25 Tryd.underlying5 size5 x y hx hy
theorem same25 (l : List UInt8) (hl : l.length = 32) (w : World) : (Op.equalIn 10000 25 (.agg (l.map cb).toArray) (.agg (l.map cb).toArray)).run Tryd.prog w = .ok true w := by
  rw [equal25 l l hl hl]; simp

/-- A tag of two texts that lie in a new row. -/
theorem tag_two (k A B : List UInt8) (hk : k.length ≤ 100000) (hA : A.length ≤ 100000) (hB : B.length ≤ 100000) (W : World) (kk : Ktab W) :
    Calls Tryd.prog 10 #[.string ⟨k.toArray⟩, .slice (some ⟨W.heap.size, 0, none⟩) 2 2] (W.alloc (.cells #[.string ⟨A.toArray⟩, .string ⟨B.toArray⟩] 9)) fun e w' => e = .returned (.agg ((hmac k (A ++ B)).map cb).toArray) ∧ Below W.heap.size W w' := by
  have h := tag_any k (by omega) (some ⟨W.heap.size, 0, none⟩) 2 2 _ _ (kk.stays (below_a1 W _) kk.pos) (texts_two W A B) (by rw [joined_two, List.length_append]; omega) (by omega)
  rw [joined_two] at h
  refine h.mono ?_
  rintro e w' ⟨rfl, hb⟩
  exact ⟨rfl, (below_a1 W _).trans (hb.mono (by simp))⟩
theorem tag_one (k A : List UInt8) (hk : k.length ≤ 100000) (hA : A.length ≤ 100000) (W : World) (kk : Ktab W) :
    Calls Tryd.prog 10 #[.string ⟨k.toArray⟩, .slice (some ⟨W.heap.size, 0, none⟩) 1 1] (W.alloc (.cells #[.string ⟨A.toArray⟩] 9)) fun e w' => e = .returned (.agg ((hmac k A).map cb).toArray) ∧ Below W.heap.size W w' := by
  have h := tag_any k (by omega) (some ⟨W.heap.size, 0, none⟩) 1 1 _ _ (kk.stays (below_a1 W _) kk.pos) (texts_one W A) (by rw [joined_one]; omega) (by omega)
  rw [joined_one] at h
  refine h.mono ?_
  rintro e w' ⟨rfl, hb⟩
  exact ⟨rfl, (below_a1 W _).trans (hb.mono (by simp))⟩

set_option maxHeartbeats 1000000 in
theorem awake_any (w : World) (hK : Ktab w) (hT : Lay.Tabs w) : Calls Tryd.prog 9 #[] w fun e w' => e = .returned (.bool true) ∧ Below w.heap.size w w' := by
  have HZ := zero25
  have hZs : Hid (zb32.size = 32) := show zb32.size = 32 from rfl
  have HA := hid (tag_two [74, 101, 102, 101] [119, 104, 97, 116, 32, 100, 111, 32, 121, 97, 32, 119, 97, 110, 116, 32] [102, 111, 114, 32, 110, 111, 116, 104, 105, 110, 103, 63] (by decide) (by decide) (by decide) w hK)
  rw [show [119, 104, 97, 116, 32, 100, 111, 32, 121, 97, 32, 119, 97, 110, 116, 32] ++ [102, 111, 114, 32, 110, 111, 116, 104, 105, 110, 103, 63] = ([119, 104, 97, 116, 32, 100, 111, 32, 121, 97, 32, 119, 97, 110, 116, 32, 102, 111, 114, 32, 110, 111, 116, 104, 105, 110, 103, 63] : List UInt8) from rfl, jefe] at HA
  have hls : Hid ((([0x5b, 0xdc, 0xc1, 0x46, 0xbf, 0x60, 0x75, 0x4e, 0x6a, 0x04, 0x24, 0x26, 0x08, 0x95, 0x75, 0xc7, 0x5a, 0x00, 0x3f, 0x08, 0x9d, 0x27, 0x39, 0x83, 0x9d, 0xec, 0x58, 0xb9, 0x64, 0xec, 0x38, 0x43] : List UInt8).map cb).length = 32) := show _ = _ from rfl
  have H0 : (([0x5b, 0xdc, 0xc1, 0x46, 0xbf, 0x60, 0x75, 0x4e, 0x6a, 0x04, 0x24, 0x26, 0x08, 0x95, 0x75, 0xc7, 0x5a, 0x00, 0x3f, 0x08, 0x9d, 0x27, 0x39, 0x83, 0x9d, 0xec, 0x58, 0xb9, 0x64, 0xec, 0x38, 0x43] : List UInt8).map cb)[0]? = some (.int .u8 91) := rfl
  have H1 : (([0x5b, 0xdc, 0xc1, 0x46, 0xbf, 0x60, 0x75, 0x4e, 0x6a, 0x04, 0x24, 0x26, 0x08, 0x95, 0x75, 0xc7, 0x5a, 0x00, 0x3f, 0x08, 0x9d, 0x27, 0x39, 0x83, 0x9d, 0xec, 0x58, 0xb9, 0x64, 0xec, 0x38, 0x43] : List UInt8).map cb)[1]? = some (.int .u8 220) := rfl
  have H31 : (([0x5b, 0xdc, 0xc1, 0x46, 0xbf, 0x60, 0x75, 0x4e, 0x6a, 0x04, 0x24, 0x26, 0x08, 0x95, 0x75, 0xc7, 0x5a, 0x00, 0x3f, 0x08, 0x9d, 0x27, 0x39, 0x83, 0x9d, 0xec, 0x58, 0xb9, 0x64, 0xec, 0x38, 0x43] : List UInt8).map cb)[31]? = some (.int .u8 67) := rfl
  have HO := hid (one_cb ([0x5b, 0xdc, 0xc1, 0x46, 0xbf, 0x60, 0x75, 0x4e, 0x6a, 0x04, 0x24, 0x26, 0x08, 0x95, 0x75, 0xc7, 0x5a, 0x00, 0x3f, 0x08, 0x9d, 0x27, 0x39, 0x83, 0x9d, 0xec, 0x58, 0xb9, 0x64, 0xec, 0x38, 0x43] : List UInt8))
  generalize ([0x5b, 0xdc, 0xc1, 0x46, 0xbf, 0x60, 0x75, 0x4e, 0x6a, 0x04, 0x24, 0x26, 0x08, 0x95, 0x75, 0xc7, 0x5a, 0x00, 0x3f, 0x08, 0x9d, 0x27, 0x39, 0x83, 0x9d, 0xec, 0x58, 0xb9, 0x64, 0xec, 0x38, 0x43] : List UInt8).map cb = S at *
  generalize zb32 = Z at *
  have HMK : Hid (∀ W, Ktab W → Lay.Tabs W → Calls Tryd.prog 12 #[.string ⟨#[107]⟩, .string ⟨#[97]⟩, .int .i64 1] W fun e w' => e = .returned (.string ⟨(makeB [107] [97] 1).toArray⟩) ∧ Below W.heap.size W w') := fun W a b => make_ok [107] (by decide) [97] (by decide) 1 (by decide) (by decide) W a b
  have hml := makeB_len [107] [97] 1
  generalize makeB [107] [97] 1 = M at *
  have hsM : (⟨M.toArray⟩ : ByteArray).size = 32 := hml
  have HI : Hid ((Tryd.prog.info? 25).map (·.size) = some S.length) := by show _ = _; rw [hls.out]; exact size25
  have HF : Hid (S.length = Z.size) := by show _ = _; rw [hls.out, hZs.out]
  have HKb : Hid (∀ V, Below w.heap.size w V → Ktab V) := fun V h => hK.stays h hK.pos
  have HTb : Hid (∀ V, Below w.heap.size w V → Lay.Tabs V) := fun V h => hT.stays h
  clear hK hT hml
  go_enter Tryd.func9, Tryd.ntmps9
  go_wp2_with (first | (go_at_call 10; refine Calls.mono HA.out ?_))
  rintro e w1 ⟨rfl, hb1⟩
  have HB1 := hid hb1
  clear hb1 HA
  have hc0 : (w1.alloc (.cells S.toArray 25)).cell? ⟨w1.heap.size, 0, none⟩ = some (.int .u8 91) := by rw [cell_of_row _ _ _ _ _ _ (top_row w1 _)]; simpa using H0
  have hc1 : (w1.alloc (.cells S.toArray 25)).cell? ⟨w1.heap.size, 1, none⟩ = some (.int .u8 220) := by rw [cell_of_row _ _ _ _ _ _ (top_row w1 _)]; simpa using H1
  have hc31 : (w1.alloc (.cells S.toArray 25)).cell? ⟨w1.heap.size, 31, none⟩ = some (.int .u8 67) := by rw [cell_of_row _ _ _ _ _ _ (top_row w1 _)]; simpa using H31
  have HB2 : Hid (Below w.heap.size w (w1.alloc (.cells S.toArray 25))) := below_more HB1.out _ (Nat.le_refl _)
  clear H0 H1 H31
  go_upto_region 2 with (first | (refine wpList_alloc_row rfl 25 rfl Z HZ ?_) | (refine wpList_store_top rfl 25 _ _ rfl rfl w1.heap.size rfl S rfl Z 25 rfl HF.out HO.out HI.out ?_))
  generalize hw2 : w1.alloc (.cells S.toArray 25) = w2 at *
  clear hw2
  go_wp2_with (first | (go_at_call 12; refine (HMK.out w2 (HKb.out _ HB2.out) (HTb.out _ HB2.out)).mono ?_))
  rintro e w3 ⟨rfl, hb3⟩
  have HB3 : Hid (Below w.heap.size w w3) := HB2.out.trans (hb3.mono HB2.out.size)
  clear hb3
  go_wp2
  go_ret
  exact ⟨rfl, HB3.out⟩

end Go.Proofs.YthpannpadmeknaaDoor
