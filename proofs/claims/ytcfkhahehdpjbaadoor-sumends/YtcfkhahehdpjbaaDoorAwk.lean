/-
  What few and awake of the laws answer, and the law of '==' on digests.
-/
import Derived.Test.YtcfkhahehdpjbaaDoorRsm
import Derived.Test.YtcfkhahehdpjbaaDoorAbc
import Derived.Test.YtcfkhahehdpjbaaDoorEqu
namespace Go.Proofs.YtcfkhahehdpjbaaDoor
open Go Go.RowKit
set_option maxRecDepth 100000

theorem hid {p : Prop} (h : p) : Hid p := h
theorem cut_take (y : List UInt8) (t : Nat) : (⟨y.toArray⟩ : ByteArray).extract 0 t = ⟨(y.take t).toArray⟩ := by
  have h : ((⟨y.toArray⟩ : ByteArray).extract 0 t).data = (y.take t).toArray := by
    rw [ByteArray.data_extract]
    apply Array.toList_inj.1
    simp
  cases hh : (⟨y.toArray⟩ : ByteArray).extract 0 t with
  | mk d => rw [hh] at h; simp only at h; rw [h]

theorem few_any (l : List UInt8) (w : World) : Calls Tryd.prog 8 #[.string ⟨l.toArray⟩] w fun e w' => e = .returned (.string ⟨(l.take 2000).toArray⟩) ∧ w' = w := by
  have hs : (⟨l.toArray⟩ : ByteArray).size = l.length := rfl
  by_cases hlt : 2000 < l.length
  · have hd : decide ((2000 : Int) < (l.length : Int)) = true := by simp; omega
    have hx : Hid ((⟨l.toArray⟩ : ByteArray).extract 0 2000 = ⟨(l.take 2000).toArray⟩) := cut_take l 2000
    go_enter Tryd.func8, Tryd.ntmps8
    go_wp2
    go_ret
    exact ⟨by rw [hx.out]; rfl, rfl⟩
  · have hd : decide ((2000 : Int) < (l.length : Int)) = false := by simp; omega
    have hx : Hid (l.take 2000 = l) := List.take_of_length_le (by omega)
    go_enter Tryd.func8, Tryd.ntmps8
    go_wp2
    go_ret
    exact ⟨by rw [hx.out]; rfl, rfl⟩

theorem same25 (l : List UInt8) (w : World) : (Op.equalIn 10000 25 (.agg ((sha l).map cb).toArray) (.agg ((sha l).map cb).toArray)).run Tryd.prog w = .ok true w := by
  have h := run_equal_bytes (P := Tryd.prog) w 25 5 32 .u8 Tryd.underlying25 Tryd.underlying5 size5 (sha l) (sha l) (dig_len _) (dig_len _)
  have h' : (Op.equalIn 10000 25 (.agg ((sha l).map cb).toArray) (.agg ((sha l).map cb).toArray)).run Tryd.prog w = .ok (decide (sha l = sha l)) w := h
  rw [h']; simp


set_option maxHeartbeats 1000000 in
theorem awake_any (w : World) (hK : Ktab w) : Calls Tryd.prog 9 #[] w fun e w' => e = .returned (.bool true) ∧ Below w.heap.size w w' := by
  have HZ := zero25
  have hZs : Hid (zb32.size = 32) := show zb32.size = 32 from rfl
  have HA : Hid (Calls Tryd.prog 10 #[.string ⟨#[97, 98, 99]⟩] w fun e w' => e = .returned (.agg ((sha [97, 98, 99]).map cb).toArray) ∧ Below w.heap.size w w') := sum_any [97, 98, 99] (by simp) w hK
  have H0 : ((sha [97, 98, 99]).map cb)[0]? = some (.int .u8 186) := by rw [abcSha]; rfl
  have H1 : ((sha [97, 98, 99]).map cb)[1]? = some (.int .u8 120) := by rw [abcSha]; rfl
  have H31 : ((sha [97, 98, 99]).map cb)[31]? = some (.int .u8 173) := by rw [abcSha]; rfl
  have hls : Hid (((sha [97, 98, 99]).map cb).length = 32) := by show List.length _ = _; rw [List.length_map]; exact dig_len _
  have HO : Hid (∀ v ∈ (sha [97, 98, 99]).map cb, v.oneCell' = true) := one_cb _
  have HM : Hid (∀ (p : Nat) (w : World), Has w p [] → Ktab w → Calls Tryd.prog 15 #[.pointer (some ⟨p, 0, none⟩)] w fun e w' => e = .returned (.agg ((sha []).map cb).toArray) ∧ Below w.heap.size w w') := fun p w h k => sumM_any p [] (by simp) w h k
  have HR : Hid (∀ w : World, Calls Tryd.prog 11 #[.string ⟨#[]⟩] w fun e w' => e = .returned (.agg ((sha []).map cb).toArray) ∧ Below w.heap.size w w') := fun w => rsum_any [] (by simp) w
  have HE : ∀ W : World, (Op.equalIn 10000 25 (.agg ((sha []).map cb).toArray) (.agg ((sha []).map cb).toArray)).run Tryd.prog W = .ok true W := fun W => same25 [] W
  have HK : Hid (Ktab w) := hK
  generalize ((sha []).map cb).toArray = X at *
  generalize (sha [97, 98, 99]).map cb = S at *
  generalize zb32 = Z at *
  have HI : Hid ((Tryd.prog.info? 25).map (·.size) = some S.length) := by show _ = _; rw [hls.out]; exact size25
  have HF : Hid (S.length = Z.size) := by show _ = _; rw [hls.out, hZs.out]
  clear hK
  go_enter Tryd.func9, Tryd.ntmps9
  go_wp2_with (first | (go_at_call 10; refine Calls.mono HA.out ?_))
  rintro e w1 ⟨rfl, hb1⟩
  have HB1 : Hid (Below w.heap.size w w1) := hb1
  have hs1 : Hid (w.heap.size ≤ w1.heap.size) := hb1.size
  clear hb1 HA
  have hc0 : (w1.alloc (.cells S.toArray 25)).cell? ⟨w1.heap.size, 0, none⟩ = some (.int .u8 186) := by rw [cell_of_row _ _ _ _ _ _ (top_row w1 _)]; simpa using H0
  have hc1 : (w1.alloc (.cells S.toArray 25)).cell? ⟨w1.heap.size, 1, none⟩ = some (.int .u8 120) := by rw [cell_of_row _ _ _ _ _ _ (top_row w1 _)]; simpa using H1
  have hc31 : (w1.alloc (.cells S.toArray 25)).cell? ⟨w1.heap.size, 31, none⟩ = some (.int .u8 173) := by rw [cell_of_row _ _ _ _ _ _ (top_row w1 _)]; simpa using H31
  have HB2 : Hid (Below w.heap.size w (w1.alloc (.cells S.toArray 25))) := below_more HB1.out _ (Nat.le_refl _)
  clear H0 H1 H31
  go_upto_region 2 with (first | (refine wpList_alloc_row rfl 25 rfl Z HZ ?_) | (refine wpList_store_top rfl 25 _ _ rfl rfl w1.heap.size rfl S rfl Z 25 rfl HF.out HO.out HI.out ?_))
  generalize hw2 : w1.alloc (.cells S.toArray 25) = w2 at *
  have hs2 : Hid (w.heap.size ≤ w2.heap.size) := HB2.out.size
  clear hw2
  go_wp2_with (first | (go_at_call 12; refine (new_any _).mono ?_))
  rintro e w3 ⟨rfl, hw3⟩
  have HH3 : Hid (Has w3 w2.heap.size []) := by show Has _ _ _; rw [hw3]; exact new_has w2
  have HB3 : Hid (Below w.heap.size w w3) := by show Below _ _ _; rw [hw3]; exact below_more HB2.out _ (Nat.le_refl _)
  clear hw3
  go_wp2_with fail
  refine (HM.out w2.heap.size w3 HH3.out (HK.out.stays HB3.out HK.out.pos)).mono ?_
  rintro e w4 ⟨rfl, hb4⟩
  have HB4 : Hid (Below w.heap.size w w4) := HB3.out.trans (hb4.mono HB3.out.size)
  clear hb4
  go_wp2_with fail
  refine (HR.out w4).mono ?_
  rintro e w5 ⟨rfl, hb5⟩
  have HB5 : Hid (Below w.heap.size w w5) := HB4.out.trans (hb5.mono HB4.out.size)
  clear hb5
  go_wp2
  go_ret
  exact ⟨rfl, HB5.out⟩

end Go.Proofs.YtcfkhahehdpjbaaDoor
