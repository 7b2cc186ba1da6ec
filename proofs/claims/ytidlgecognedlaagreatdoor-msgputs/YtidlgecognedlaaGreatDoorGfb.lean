/-
  A message without what its kind has: what the reference answers (R10.bare).
-/
import Derived.Test.YtidlgecognedlaaGreatDoorGea
import Derived.Test.YtidlgecognedlaaGreatDoorGfo
import Derived.Test.YtidlgecognedlaaGreatDoorHcn
import Derived.Lib.QuietBelow
import Derived.Test.YtidlgecognedlaaGreatDoorGfl
import Derived.Test.YtidlgecognedlaaGreatDoorGpx
import Derived.Test.YtidlgecognedlaaGreatDoorJmb
import Derived.Test.YtidlgecognedlaaGreatDoorJpm
namespace Go.Proofs.YtidlgecognedlaaGreatDoor.Ms
open Go Go.RowKit
set_option maxRecDepth 100000

def mC (k c : Int) (s : Sub) (r : Rep) (v : List UInt8) (wh : Int) (tg ow : List UInt8) (b : Blo) (ns : List Int) (vP vN : Value) : List Value := msgC ⟨k, c, s, r, v, wh, tg, ow, b, ns⟩ vP vN
def pre_sub (k : Int) (c : Int) (_s : Sub) (_r : Rep) (_v : List UInt8) (_wh : Int) (_tg : List UInt8) (_ow : List UInt8) (_b : Blo) (_ns : List Int) (_vP : Value) (_vN : Value) : List Value := ([nu k, nu c])
def pos_sub (_k : Int) (_c : Int) (_s : Sub) (r : Rep) (v : List UInt8) (wh : Int) (tg : List UInt8) (ow : List UInt8) (b : Blo) (_ns : List Int) (vP : Value) (vN : Value) : List Value := (repC r vP ++ [st v] ++ [nu wh] ++ dg tg ++ dg ow ++ bloC b ++ [vN])
theorem mo_sub (k c : Int) (s : Sub) (r : Rep) (v : List UInt8) (wh : Int) (tg ow : List UInt8) (b : Blo) (ns : List Int) (vP vN : Value) : mC k c s r v wh tg ow b ns vP vN = pre_sub k c s r v wh tg ow b ns vP vN ++ (subC s ++ pos_sub k c s r v wh tg ow b ns vP vN) := by simp [mC, msgC, pre_sub, pos_sub]
theorem sh_sub (k c : Int) (s : Sub) (r : Rep) (v : List UInt8) (wh : Int) (tg ow : List UInt8) (b : Blo) (ns : List Int) (vP vN : Value) (x : Sub) : pre_sub k c s r v wh tg ow b ns vP vN ++ (subC x ++ pos_sub k c s r v wh tg ow b ns vP vN) = mC k c x r v wh tg ow b ns vP vN := by simp [mC, msgC, pre_sub, pos_sub]
theorem ln_sub (k c : Int) (s : Sub) (r : Rep) (v : List UInt8) (wh : Int) (tg ow : List UInt8) (b : Blo) (ns : List Int) (vP vN : Value) (hw : (⟨k, c, s, r, v, wh, tg, ow, b, ns⟩ : Msg).Wf) : (pre_sub k c s r v wh tg ow b ns vP vN).length = 2 := by
  have h1 : (subC s).length = 68 := subC_len hw.sub
  have h2 : (repC r vP).length = 103 := repC_len hw.rep vP
  have h3 : (bloC b).length = 35 := bloC_len hw.blob
  have h4 : tg.length = 32 := hw.tag
  have h5 : ow.length = 32 := hw.own
  simp [pre_sub]
def pre_rep (k : Int) (c : Int) (s : Sub) (_r : Rep) (_v : List UInt8) (_wh : Int) (_tg : List UInt8) (_ow : List UInt8) (_b : Blo) (_ns : List Int) (_vP : Value) (_vN : Value) : List Value := ([nu k, nu c] ++ subC s)
def pos_rep (_k : Int) (_c : Int) (_s : Sub) (_r : Rep) (v : List UInt8) (wh : Int) (tg : List UInt8) (ow : List UInt8) (b : Blo) (_ns : List Int) (_vP : Value) (vN : Value) : List Value := ([st v] ++ [nu wh] ++ dg tg ++ dg ow ++ bloC b ++ [vN])
theorem mo_rep (k c : Int) (s : Sub) (r : Rep) (v : List UInt8) (wh : Int) (tg ow : List UInt8) (b : Blo) (ns : List Int) (vP vN : Value) : mC k c s r v wh tg ow b ns vP vN = pre_rep k c s r v wh tg ow b ns vP vN ++ (repC r vP ++ pos_rep k c s r v wh tg ow b ns vP vN) := by simp [mC, msgC, pre_rep, pos_rep]
theorem sh_rep (k c : Int) (s : Sub) (r : Rep) (v : List UInt8) (wh : Int) (tg ow : List UInt8) (b : Blo) (ns : List Int) (vP vN : Value) (x : Rep) (u : Value) : pre_rep k c s r v wh tg ow b ns vP vN ++ (repC x u ++ pos_rep k c s r v wh tg ow b ns vP vN) = mC k c s x v wh tg ow b ns u vN := by simp [mC, msgC, pre_rep, pos_rep]
theorem ln_rep (k c : Int) (s : Sub) (r : Rep) (v : List UInt8) (wh : Int) (tg ow : List UInt8) (b : Blo) (ns : List Int) (vP vN : Value) (hw : (⟨k, c, s, r, v, wh, tg, ow, b, ns⟩ : Msg).Wf) : (pre_rep k c s r v wh tg ow b ns vP vN).length = 70 := by
  have h1 : (subC s).length = 68 := subC_len hw.sub
  have h2 : (repC r vP).length = 103 := repC_len hw.rep vP
  have h3 : (bloC b).length = 35 := bloC_len hw.blob
  have h4 : tg.length = 32 := hw.tag
  have h5 : ow.length = 32 := hw.own
  simp [pre_rep, h1]
def pre_view (k : Int) (c : Int) (s : Sub) (r : Rep) (_v : List UInt8) (_wh : Int) (_tg : List UInt8) (_ow : List UInt8) (_b : Blo) (_ns : List Int) (vP : Value) (_vN : Value) : List Value := ([nu k, nu c] ++ subC s ++ repC r vP)
def pos_view (_k : Int) (_c : Int) (_s : Sub) (_r : Rep) (_v : List UInt8) (wh : Int) (tg : List UInt8) (ow : List UInt8) (b : Blo) (_ns : List Int) (_vP : Value) (vN : Value) : List Value := ([nu wh] ++ dg tg ++ dg ow ++ bloC b ++ [vN])
theorem mo_view (k c : Int) (s : Sub) (r : Rep) (v : List UInt8) (wh : Int) (tg ow : List UInt8) (b : Blo) (ns : List Int) (vP vN : Value) : mC k c s r v wh tg ow b ns vP vN = pre_view k c s r v wh tg ow b ns vP vN ++ ([st v] ++ pos_view k c s r v wh tg ow b ns vP vN) := by simp [mC, msgC, pre_view, pos_view]
theorem sh_view (k c : Int) (s : Sub) (r : Rep) (v : List UInt8) (wh : Int) (tg ow : List UInt8) (b : Blo) (ns : List Int) (vP vN : Value) (x : List UInt8) : pre_view k c s r v wh tg ow b ns vP vN ++ ([st x] ++ pos_view k c s r v wh tg ow b ns vP vN) = mC k c s r x wh tg ow b ns vP vN := by simp [mC, msgC, pre_view, pos_view]
theorem ln_view (k c : Int) (s : Sub) (r : Rep) (v : List UInt8) (wh : Int) (tg ow : List UInt8) (b : Blo) (ns : List Int) (vP vN : Value) (hw : (⟨k, c, s, r, v, wh, tg, ow, b, ns⟩ : Msg).Wf) : (pre_view k c s r v wh tg ow b ns vP vN).length = 173 := by
  have h1 : (subC s).length = 68 := subC_len hw.sub
  have h2 : (repC r vP).length = 103 := repC_len hw.rep vP
  have h3 : (bloC b).length = 35 := bloC_len hw.blob
  have h4 : tg.length = 32 := hw.tag
  have h5 : ow.length = 32 := hw.own
  simp [pre_view, h1, h2]
def pre_who (k : Int) (c : Int) (s : Sub) (r : Rep) (v : List UInt8) (_wh : Int) (_tg : List UInt8) (_ow : List UInt8) (_b : Blo) (_ns : List Int) (vP : Value) (_vN : Value) : List Value := ([nu k, nu c] ++ subC s ++ repC r vP ++ [st v])
def pos_who (_k : Int) (_c : Int) (_s : Sub) (_r : Rep) (_v : List UInt8) (_wh : Int) (tg : List UInt8) (ow : List UInt8) (b : Blo) (_ns : List Int) (_vP : Value) (vN : Value) : List Value := (dg tg ++ dg ow ++ bloC b ++ [vN])
theorem mo_who (k c : Int) (s : Sub) (r : Rep) (v : List UInt8) (wh : Int) (tg ow : List UInt8) (b : Blo) (ns : List Int) (vP vN : Value) : mC k c s r v wh tg ow b ns vP vN = pre_who k c s r v wh tg ow b ns vP vN ++ ([nu wh] ++ pos_who k c s r v wh tg ow b ns vP vN) := by simp [mC, msgC, pre_who, pos_who]
theorem sh_who (k c : Int) (s : Sub) (r : Rep) (v : List UInt8) (wh : Int) (tg ow : List UInt8) (b : Blo) (ns : List Int) (vP vN : Value) (x : Int) : pre_who k c s r v wh tg ow b ns vP vN ++ ([nu x] ++ pos_who k c s r v wh tg ow b ns vP vN) = mC k c s r v x tg ow b ns vP vN := by simp [mC, msgC, pre_who, pos_who]
theorem ln_who (k c : Int) (s : Sub) (r : Rep) (v : List UInt8) (wh : Int) (tg ow : List UInt8) (b : Blo) (ns : List Int) (vP vN : Value) (hw : (⟨k, c, s, r, v, wh, tg, ow, b, ns⟩ : Msg).Wf) : (pre_who k c s r v wh tg ow b ns vP vN).length = 174 := by
  have h1 : (subC s).length = 68 := subC_len hw.sub
  have h2 : (repC r vP).length = 103 := repC_len hw.rep vP
  have h3 : (bloC b).length = 35 := bloC_len hw.blob
  have h4 : tg.length = 32 := hw.tag
  have h5 : ow.length = 32 := hw.own
  simp [pre_who, h1, h2]
def pre_tag (k : Int) (c : Int) (s : Sub) (r : Rep) (v : List UInt8) (wh : Int) (_tg : List UInt8) (_ow : List UInt8) (_b : Blo) (_ns : List Int) (vP : Value) (_vN : Value) : List Value := ([nu k, nu c] ++ subC s ++ repC r vP ++ [st v] ++ [nu wh])
def pos_tag (_k : Int) (_c : Int) (_s : Sub) (_r : Rep) (_v : List UInt8) (_wh : Int) (_tg : List UInt8) (ow : List UInt8) (b : Blo) (_ns : List Int) (_vP : Value) (vN : Value) : List Value := (dg ow ++ bloC b ++ [vN])
theorem mo_tag (k c : Int) (s : Sub) (r : Rep) (v : List UInt8) (wh : Int) (tg ow : List UInt8) (b : Blo) (ns : List Int) (vP vN : Value) : mC k c s r v wh tg ow b ns vP vN = pre_tag k c s r v wh tg ow b ns vP vN ++ (dg tg ++ pos_tag k c s r v wh tg ow b ns vP vN) := by simp [mC, msgC, pre_tag, pos_tag]
theorem sh_tag (k c : Int) (s : Sub) (r : Rep) (v : List UInt8) (wh : Int) (tg ow : List UInt8) (b : Blo) (ns : List Int) (vP vN : Value) (x : List UInt8) : pre_tag k c s r v wh tg ow b ns vP vN ++ (dg x ++ pos_tag k c s r v wh tg ow b ns vP vN) = mC k c s r v wh x ow b ns vP vN := by simp [mC, msgC, pre_tag, pos_tag]
theorem ln_tag (k c : Int) (s : Sub) (r : Rep) (v : List UInt8) (wh : Int) (tg ow : List UInt8) (b : Blo) (ns : List Int) (vP vN : Value) (hw : (⟨k, c, s, r, v, wh, tg, ow, b, ns⟩ : Msg).Wf) : (pre_tag k c s r v wh tg ow b ns vP vN).length = 175 := by
  have h1 : (subC s).length = 68 := subC_len hw.sub
  have h2 : (repC r vP).length = 103 := repC_len hw.rep vP
  have h3 : (bloC b).length = 35 := bloC_len hw.blob
  have h4 : tg.length = 32 := hw.tag
  have h5 : ow.length = 32 := hw.own
  simp [pre_tag, h1, h2]
def pre_own (k : Int) (c : Int) (s : Sub) (r : Rep) (v : List UInt8) (wh : Int) (tg : List UInt8) (_ow : List UInt8) (_b : Blo) (_ns : List Int) (vP : Value) (_vN : Value) : List Value := ([nu k, nu c] ++ subC s ++ repC r vP ++ [st v] ++ [nu wh] ++ dg tg)
def pos_own (_k : Int) (_c : Int) (_s : Sub) (_r : Rep) (_v : List UInt8) (_wh : Int) (_tg : List UInt8) (_ow : List UInt8) (b : Blo) (_ns : List Int) (_vP : Value) (vN : Value) : List Value := (bloC b ++ [vN])
theorem mo_own (k c : Int) (s : Sub) (r : Rep) (v : List UInt8) (wh : Int) (tg ow : List UInt8) (b : Blo) (ns : List Int) (vP vN : Value) : mC k c s r v wh tg ow b ns vP vN = pre_own k c s r v wh tg ow b ns vP vN ++ (dg ow ++ pos_own k c s r v wh tg ow b ns vP vN) := by simp [mC, msgC, pre_own, pos_own]
theorem sh_own (k c : Int) (s : Sub) (r : Rep) (v : List UInt8) (wh : Int) (tg ow : List UInt8) (b : Blo) (ns : List Int) (vP vN : Value) (x : List UInt8) : pre_own k c s r v wh tg ow b ns vP vN ++ (dg x ++ pos_own k c s r v wh tg ow b ns vP vN) = mC k c s r v wh tg x b ns vP vN := by simp [mC, msgC, pre_own, pos_own]
theorem ln_own (k c : Int) (s : Sub) (r : Rep) (v : List UInt8) (wh : Int) (tg ow : List UInt8) (b : Blo) (ns : List Int) (vP vN : Value) (hw : (⟨k, c, s, r, v, wh, tg, ow, b, ns⟩ : Msg).Wf) : (pre_own k c s r v wh tg ow b ns vP vN).length = 207 := by
  have h1 : (subC s).length = 68 := subC_len hw.sub
  have h2 : (repC r vP).length = 103 := repC_len hw.rep vP
  have h3 : (bloC b).length = 35 := bloC_len hw.blob
  have h4 : tg.length = 32 := hw.tag
  have h5 : ow.length = 32 := hw.own
  simp [pre_own, dg_len, h1, h2, h4]
def pre_blob (k : Int) (c : Int) (s : Sub) (r : Rep) (v : List UInt8) (wh : Int) (tg : List UInt8) (ow : List UInt8) (_b : Blo) (_ns : List Int) (vP : Value) (_vN : Value) : List Value := ([nu k, nu c] ++ subC s ++ repC r vP ++ [st v] ++ [nu wh] ++ dg tg ++ dg ow)
def pos_blob (_k : Int) (_c : Int) (_s : Sub) (_r : Rep) (_v : List UInt8) (_wh : Int) (_tg : List UInt8) (_ow : List UInt8) (_b : Blo) (_ns : List Int) (_vP : Value) (vN : Value) : List Value := ([vN])
theorem mo_blob (k c : Int) (s : Sub) (r : Rep) (v : List UInt8) (wh : Int) (tg ow : List UInt8) (b : Blo) (ns : List Int) (vP vN : Value) : mC k c s r v wh tg ow b ns vP vN = pre_blob k c s r v wh tg ow b ns vP vN ++ (bloC b ++ pos_blob k c s r v wh tg ow b ns vP vN) := by simp [mC, msgC, pre_blob, pos_blob]
theorem sh_blob (k c : Int) (s : Sub) (r : Rep) (v : List UInt8) (wh : Int) (tg ow : List UInt8) (b : Blo) (ns : List Int) (vP vN : Value) (x : Blo) : pre_blob k c s r v wh tg ow b ns vP vN ++ (bloC x ++ pos_blob k c s r v wh tg ow b ns vP vN) = mC k c s r v wh tg ow x ns vP vN := by simp [mC, msgC, pre_blob, pos_blob]
theorem ln_blob (k c : Int) (s : Sub) (r : Rep) (v : List UInt8) (wh : Int) (tg ow : List UInt8) (b : Blo) (ns : List Int) (vP vN : Value) (hw : (⟨k, c, s, r, v, wh, tg, ow, b, ns⟩ : Msg).Wf) : (pre_blob k c s r v wh tg ow b ns vP vN).length = 239 := by
  have h1 : (subC s).length = 68 := subC_len hw.sub
  have h2 : (repC r vP).length = 103 := repC_len hw.rep vP
  have h3 : (bloC b).length = 35 := bloC_len hw.blob
  have h4 : tg.length = 32 := hw.tag
  have h5 : ow.length = 32 := hw.own
  simp [pre_blob, dg_len, h1, h2, h4, h5]
def pre_nums (k : Int) (c : Int) (s : Sub) (r : Rep) (v : List UInt8) (wh : Int) (tg : List UInt8) (ow : List UInt8) (b : Blo) (_ns : List Int) (vP : Value) (_vN : Value) : List Value := ([nu k, nu c] ++ subC s ++ repC r vP ++ [st v] ++ [nu wh] ++ dg tg ++ dg ow ++ bloC b)
def pos_nums (_k : Int) (_c : Int) (_s : Sub) (_r : Rep) (_v : List UInt8) (_wh : Int) (_tg : List UInt8) (_ow : List UInt8) (_b : Blo) (_ns : List Int) (_vP : Value) (_vN : Value) : List Value := []
theorem mo_nums (k c : Int) (s : Sub) (r : Rep) (v : List UInt8) (wh : Int) (tg ow : List UInt8) (b : Blo) (ns : List Int) (vP vN : Value) : mC k c s r v wh tg ow b ns vP vN = pre_nums k c s r v wh tg ow b ns vP vN ++ ([vN] ++ pos_nums k c s r v wh tg ow b ns vP vN) := by simp [mC, msgC, pre_nums, pos_nums]
theorem sh_nums (k c : Int) (s : Sub) (r : Rep) (v : List UInt8) (wh : Int) (tg ow : List UInt8) (b : Blo) (ns : List Int) (vP vN : Value) (u : Value) (x : List Int) : pre_nums k c s r v wh tg ow b ns vP vN ++ ([u] ++ pos_nums k c s r v wh tg ow b ns vP vN) = mC k c s r v wh tg ow b x vP u := by simp [mC, msgC, pre_nums, pos_nums]
theorem ln_nums (k c : Int) (s : Sub) (r : Rep) (v : List UInt8) (wh : Int) (tg ow : List UInt8) (b : Blo) (ns : List Int) (vP vN : Value) (hw : (⟨k, c, s, r, v, wh, tg, ow, b, ns⟩ : Msg).Wf) : (pre_nums k c s r v wh tg ow b ns vP vN).length = 274 := by
  have h1 : (subC s).length = 68 := subC_len hw.sub
  have h2 : (repC r vP).length = 103 := repC_len hw.rep vP
  have h3 : (bloC b).length = 35 := bloC_len hw.blob
  have h4 : tg.length = 32 := hw.tag
  have h5 : ow.length = 32 := hw.own
  simp [pre_nums, dg_len, h1, h2, h3, h4, h5]

theorem mC_len {k c : Int} {s : Sub} {r : Rep} {v : List UInt8} {wh : Int} {tg ow : List UInt8} {b : Blo} {ns : List Int} (hw : (⟨k, c, s, r, v, wh, tg, ow, b, ns⟩ : Msg).Wf) (vP vN : Value) : (mC k c s r v wh tg ow b ns vP vN).length = 275 := msgC_len hw vP vN
theorem mC_one {k c : Int} {s : Sub} {r : Rep} {v : List UInt8} {wh : Int} {tg ow : List UInt8} {b : Blo} {ns : List Int} {vP vN : Value} (h1 : vP.oneCell' = true) (h2 : vN.oneCell' = true) : ∀ x ∈ mC k c s r v wh tg ow b ns vP vN, x.oneCell' = true := one_msg _ vP vN h1 h2
theorem row_nilB {w : World} {g : Nat} {L : List Value} {t : TypeId} (h : w.heap[g]? = some (.cells L.toArray t)) : w.heap[g]? = some (.cells ([] ++ (L ++ [])).toArray t) := by simpa using h
theorem wrap_i64 {n : Int} (h : I64 n) : IntKind.i64.wrap n = n := IntWalk.i64_in n h
set_option maxHeartbeats 4000000 in
theorem bare_1 {w : World} {c : Int} {s : Sub} {r : Rep} {v : List UInt8} {wh : Int} {tg ow : List UInt8} {b : Blo} {ns : List Int} {vP vN : Value} (hw : (⟨1, c, s, r, v, wh, tg, ow, b, ns⟩ : Msg).Wf) (h1 : vP.oneCell' = true) (h2 : vN.oneCell' = true) :
    Calls Tryz.prog 45 #[.agg (mC 1 c s r v wh tg ow b ns vP vN).toArray] w fun e w' => e = .returned (.agg (mC 1 c zeroS r v wh tg ow b ns vP vN).toArray) ∧ Below w.heap.size w w' := by
  have B0 := hid (below_two (below_a1 w (.cells (mC 1 c s r v wh tg ow b ns vP vN).toArray 33)) (below_a1 _ (.cells (msgC (zeroM 0 0) (.slice none 0 0) (.slice none 0 0)).toArray 33)))
  have T0 := hid (row_kept (top_obj w (.cells (mC 1 c s r v wh tg ow b ns vP vN).toArray 33)) (below_a1 _ (.cells (msgC (zeroM 0 0) (.slice none 0 0) (.slice none 0 0)).toArray 33)))
  have Q0 := hid (top_obj (w.alloc (.cells (mC 1 c s r v wh tg ow b ns vP vN).toArray 33)) (.cells (msgC (zeroM 0 0) (.slice none 0 0) (.slice none 0 0)).toArray 33))
  have ck := mrow_kind T0.out hw
  have ZM := zeroMsg
  have HW := hid hw
  have hs : (w.alloc (.cells (mC 1 c s r v wh tg ow b ns vP vN).toArray 33)).heap.size = w.heap.size + 1 := Array.size_push _
  rw [hs] at Q0
  have hln : (msgC (zeroM 0 0) (.slice none 0 0) (.slice none 0 0)).length = 275 := msgC_len (zeroM_wf 0 0) _ _
  obtain ⟨Z, hZ⟩ : ∃ Z, Z = msgC (zeroM 0 0) (.slice none 0 0) (.slice none 0 0) := ⟨_, rfl⟩
  rw [← hZ] at B0 T0 Q0 ck ZM hln
  clear hZ hw
  obtain ⟨L, hL⟩ : ∃ L, L = mC 1 c s r v wh tg ow b ns vP vN := ⟨_, rfl⟩
  rw [← hL] at B0 T0 Q0 ck hs ⊢
  have HL := hid hL
  clear hL
  go_enter Tryz.func45, Tryz.ntmps45
  go_upto_region 1 with (first | ((with_reducible refine wl_alloc 33 ?_ ?_ Z.toArray ZM ?_); exact rfl; exact rfl))
  generalize (w.alloc (.cells L.toArray 33)).alloc (.cells Z.toArray 33) = W0 at *
  clear hs
  have Q0 : Hid (W0.heap[w.heap.size + 1]? = some (.cells ([] ++ (Z ++ [])).toArray 33)) := row_nilB Q0.out
  generalize hg1 : w.heap.size + 1 = g1 at *
  have hgg : w.heap.size ≠ g1 := by omega
  have hge : w.heap.size ≤ g1 := by omega
  rw [HL.out, mo_sub] at T0
  have HW0 := HW
  have WFS1 : Hid ((⟨1, c, zeroS, r, v, wh, tg, ow, b, ns⟩ : Msg).Wf) := (fun h => ⟨wfZeroS, h.rep, h.tag, h.own, h.blob⟩ : (⟨1, c, s, r, v, wh, tg, ow, b, ns⟩ : Msg).Wf → _) HW.out
  have ZF : (Tryz.prog.info? 33).map (·.size) = some (mC 1 c zeroS r v wh tg ow b ns vP vN).length := by rw [mC_len WFS1.out]; exact sizeMsg
  have LF : Z.length = (mC 1 c zeroS r v wh tg ow b ns vP vN).length := by rw [mC_len WFS1.out]; exact hln
  clear HW0
  go_wp2_with (first
    | ((with_reducible refine wl_build 25 ?_ ?_ (subC zeroS).toArray (build_sub _) ?_); exact rfl; exact rfl)
    | ((with_reducible refine wl_put 25 (.tmp 12) (.tmp 11) ?_ ?_ w.heap.size 2 ?_ ?_ (pre_sub 1 c s r v wh tg ow b ns vP vN) (subC zeroS) (subC s) (pos_sub 1 c s r v wh tg ow b ns vP vN) ?_ 33 T0.out (ln_sub 1 c s r v wh tg ow b ns vP vN HW.out) (by rw [subC_len wfZeroS]; exact subC_len HW.out.sub) (one_sub _) (by rw [subC_len wfZeroS]; exact sizeSub) ?_); exact rfl; exact rfl; exact rfl; exact rfl; exact rfl; intro W1 r1 b1; rw [sh_sub 1 c s r v wh tg ow b ns vP vN zeroS] at r1; have HW : Hid ((⟨1, c, zeroS, r, v, wh, tg, ow, b, ns⟩ : Msg).Wf) := WFS1; have T1 := hid r1; have B1 := hid (b1.below B0.out (Nat.le_refl _)); have Q1 := hid (b1.row Q0.out hgg.symm); have S1 := hid (row_seg (off := 0) (A := []) (cs := mC 1 c zeroS r v wh tg ow b ns vP vN) (C := []) T1.out (by simp) rfl); clear r1 b1)
    | ((with_reducible refine wl_load 33 (.tmp 1) ?_ w.heap.size 0 ?_ ?_ (mC 1 c zeroS r v wh tg ow b ns vP vN) _ S1.out Tryz.underlying33 ?_ ZF ?_); exact rfl; exact rfl; exact rfl; exact rfl)
    | ((with_reducible refine wl_put 33 (.tmp 2) (.tmp 44) ?_ ?_ g1 0 ?_ ?_ [] (mC 1 c zeroS r v wh tg ow b ns vP vN) Z [] ?_ 33 Q1.out rfl LF (mC_one h1 h2) ZF ?_); exact rfl; exact rfl; exact rfl; exact rfl; exact rfl; intro WF rF bF))
  have rG : WF.heap[g1]? = some (.cells (mC 1 c zeroS r v wh tg ow b ns vP vN).toArray 33) := by simpa using rF
  refine bodyPost_ret_by (results_row (fn := Tryz.f45) (p := 2) (ty := 33) (by kernel_rfl) _ _ g1 33 (mC 1 c zeroS r v wh tg ow b ns vP vN).toArray (0, 0) _ rfl rG Tryz.underlying33 rfl (by rw [List.size_toArray]; exact ZF)) rfl ?_
  exact ⟨rfl, bF.below B1.out hge⟩
set_option maxHeartbeats 4000000 in
theorem bare_2 {w : World} {c : Int} {s : Sub} {r : Rep} {v : List UInt8} {wh : Int} {tg ow : List UInt8} {b : Blo} {ns : List Int} {vP vN : Value} (hw : (⟨2, c, s, r, v, wh, tg, ow, b, ns⟩ : Msg).Wf) (_h1 : vP.oneCell' = true) (h2 : vN.oneCell' = true) :
    Calls Tryz.prog 45 #[.agg (mC 2 c s r v wh tg ow b ns vP vN).toArray] w fun e w' => e = .returned (.agg (mC 2 c s zeroR v wh tg ow b ns (.slice none 0 0) vN).toArray) ∧ Below w.heap.size w w' := by
  have B0 := hid (below_two (below_a1 w (.cells (mC 2 c s r v wh tg ow b ns vP vN).toArray 33)) (below_a1 _ (.cells (msgC (zeroM 0 0) (.slice none 0 0) (.slice none 0 0)).toArray 33)))
  have T0 := hid (row_kept (top_obj w (.cells (mC 2 c s r v wh tg ow b ns vP vN).toArray 33)) (below_a1 _ (.cells (msgC (zeroM 0 0) (.slice none 0 0) (.slice none 0 0)).toArray 33)))
  have Q0 := hid (top_obj (w.alloc (.cells (mC 2 c s r v wh tg ow b ns vP vN).toArray 33)) (.cells (msgC (zeroM 0 0) (.slice none 0 0) (.slice none 0 0)).toArray 33))
  have ck := mrow_kind T0.out hw
  have ZM := zeroMsg
  have HW := hid hw
  have hs : (w.alloc (.cells (mC 2 c s r v wh tg ow b ns vP vN).toArray 33)).heap.size = w.heap.size + 1 := Array.size_push _
  rw [hs] at Q0
  have hln : (msgC (zeroM 0 0) (.slice none 0 0) (.slice none 0 0)).length = 275 := msgC_len (zeroM_wf 0 0) _ _
  obtain ⟨Z, hZ⟩ : ∃ Z, Z = msgC (zeroM 0 0) (.slice none 0 0) (.slice none 0 0) := ⟨_, rfl⟩
  rw [← hZ] at B0 T0 Q0 ck ZM hln
  clear hZ hw
  obtain ⟨L, hL⟩ : ∃ L, L = mC 2 c s r v wh tg ow b ns vP vN := ⟨_, rfl⟩
  rw [← hL] at B0 T0 Q0 ck hs ⊢
  have HL := hid hL
  clear hL
  go_enter Tryz.func45, Tryz.ntmps45
  go_upto_region 1 with (first | ((with_reducible refine wl_alloc 33 ?_ ?_ Z.toArray ZM ?_); exact rfl; exact rfl))
  generalize (w.alloc (.cells L.toArray 33)).alloc (.cells Z.toArray 33) = W0 at *
  clear hs
  have Q0 : Hid (W0.heap[w.heap.size + 1]? = some (.cells ([] ++ (Z ++ [])).toArray 33)) := row_nilB Q0.out
  generalize hg1 : w.heap.size + 1 = g1 at *
  have hgg : w.heap.size ≠ g1 := by omega
  have hge : w.heap.size ≤ g1 := by omega
  rw [HL.out, mo_rep] at T0
  have HW0 := HW
  have WFS1 : Hid ((⟨2, c, s, zeroR, v, wh, tg, ow, b, ns⟩ : Msg).Wf) := (fun h => ⟨h.sub, wfZeroR, h.tag, h.own, h.blob⟩ : (⟨2, c, s, r, v, wh, tg, ow, b, ns⟩ : Msg).Wf → _) HW.out
  have ZF : (Tryz.prog.info? 33).map (·.size) = some (mC 2 c s zeroR v wh tg ow b ns (.slice none 0 0) vN).length := by rw [mC_len WFS1.out]; exact sizeMsg
  have LF : Z.length = (mC 2 c s zeroR v wh tg ow b ns (.slice none 0 0) vN).length := by rw [mC_len WFS1.out]; exact hln
  clear HW0
  go_wp2_with (first
    | ((with_reducible refine wl_build 28 ?_ ?_ (repC zeroR (.slice none 0 0)).toArray (build_rep _) ?_); exact rfl; exact rfl)
    | ((with_reducible refine wl_put 28 (.tmp 16) (.tmp 15) ?_ ?_ w.heap.size 70 ?_ ?_ (pre_rep 2 c s r v wh tg ow b ns vP vN) (repC zeroR (.slice none 0 0)) (repC r vP) (pos_rep 2 c s r v wh tg ow b ns vP vN) ?_ 33 T0.out (ln_rep 2 c s r v wh tg ow b ns vP vN HW.out) (by rw [repC_len wfZeroR]; exact repC_len HW.out.rep _) (one_rep _ _ rfl) (by rw [repC_len wfZeroR]; exact sizeRep) ?_); exact rfl; exact rfl; exact rfl; exact rfl; exact rfl; intro W1 r1 b1; rw [sh_rep 2 c s r v wh tg ow b ns vP vN zeroR (.slice none 0 0)] at r1; have HW : Hid ((⟨2, c, s, zeroR, v, wh, tg, ow, b, ns⟩ : Msg).Wf) := WFS1; have T1 := hid r1; have B1 := hid (b1.below B0.out (Nat.le_refl _)); have Q1 := hid (b1.row Q0.out hgg.symm); have S1 := hid (row_seg (off := 0) (A := []) (cs := mC 2 c s zeroR v wh tg ow b ns (.slice none 0 0) vN) (C := []) T1.out (by simp) rfl); clear r1 b1)
    | ((with_reducible refine wl_load 33 (.tmp 1) ?_ w.heap.size 0 ?_ ?_ (mC 2 c s zeroR v wh tg ow b ns (.slice none 0 0) vN) _ S1.out Tryz.underlying33 ?_ ZF ?_); exact rfl; exact rfl; exact rfl; exact rfl)
    | ((with_reducible refine wl_put 33 (.tmp 2) (.tmp 44) ?_ ?_ g1 0 ?_ ?_ [] (mC 2 c s zeroR v wh tg ow b ns (.slice none 0 0) vN) Z [] ?_ 33 Q1.out rfl LF (mC_one rfl h2) ZF ?_); exact rfl; exact rfl; exact rfl; exact rfl; exact rfl; intro WF rF bF))
  have rG : WF.heap[g1]? = some (.cells (mC 2 c s zeroR v wh tg ow b ns (.slice none 0 0) vN).toArray 33) := by simpa using rF
  refine bodyPost_ret_by (results_row (fn := Tryz.f45) (p := 2) (ty := 33) (by kernel_rfl) _ _ g1 33 (mC 2 c s zeroR v wh tg ow b ns (.slice none 0 0) vN).toArray (0, 0) _ rfl rG Tryz.underlying33 rfl (by rw [List.size_toArray]; exact ZF)) rfl ?_
  exact ⟨rfl, bF.below B1.out hge⟩
set_option maxHeartbeats 4000000 in
theorem bare_3 {w : World} {c : Int} {s : Sub} {r : Rep} {v : List UInt8} {wh : Int} {tg ow : List UInt8} {b : Blo} {ns : List Int} {vP vN : Value} (hw : (⟨3, c, s, r, v, wh, tg, ow, b, ns⟩ : Msg).Wf) (h1 : vP.oneCell' = true) (h2 : vN.oneCell' = true) :
    Calls Tryz.prog 45 #[.agg (mC 3 c s r v wh tg ow b ns vP vN).toArray] w fun e w' => e = .returned (.agg (mC 3 c s r [] wh zeroD ow b ns vP vN).toArray) ∧ Below w.heap.size w w' := by
  have B0 := hid (below_two (below_a1 w (.cells (mC 3 c s r v wh tg ow b ns vP vN).toArray 33)) (below_a1 _ (.cells (msgC (zeroM 0 0) (.slice none 0 0) (.slice none 0 0)).toArray 33)))
  have T0 := hid (row_kept (top_obj w (.cells (mC 3 c s r v wh tg ow b ns vP vN).toArray 33)) (below_a1 _ (.cells (msgC (zeroM 0 0) (.slice none 0 0) (.slice none 0 0)).toArray 33)))
  have Q0 := hid (top_obj (w.alloc (.cells (mC 3 c s r v wh tg ow b ns vP vN).toArray 33)) (.cells (msgC (zeroM 0 0) (.slice none 0 0) (.slice none 0 0)).toArray 33))
  have ck := mrow_kind T0.out hw
  have ZM := zeroMsg
  have HW := hid hw
  have hs : (w.alloc (.cells (mC 3 c s r v wh tg ow b ns vP vN).toArray 33)).heap.size = w.heap.size + 1 := Array.size_push _
  rw [hs] at Q0
  have hln : (msgC (zeroM 0 0) (.slice none 0 0) (.slice none 0 0)).length = 275 := msgC_len (zeroM_wf 0 0) _ _
  obtain ⟨Z, hZ⟩ : ∃ Z, Z = msgC (zeroM 0 0) (.slice none 0 0) (.slice none 0 0) := ⟨_, rfl⟩
  rw [← hZ] at B0 T0 Q0 ck ZM hln
  clear hZ hw
  obtain ⟨L, hL⟩ : ∃ L, L = mC 3 c s r v wh tg ow b ns vP vN := ⟨_, rfl⟩
  rw [← hL] at B0 T0 Q0 ck hs ⊢
  have HL := hid hL
  clear hL
  go_enter Tryz.func45, Tryz.ntmps45
  go_upto_region 1 with (first | ((with_reducible refine wl_alloc 33 ?_ ?_ Z.toArray ZM ?_); exact rfl; exact rfl))
  generalize (w.alloc (.cells L.toArray 33)).alloc (.cells Z.toArray 33) = W0 at *
  clear hs
  have Q0 : Hid (W0.heap[w.heap.size + 1]? = some (.cells ([] ++ (Z ++ [])).toArray 33)) := row_nilB Q0.out
  generalize hg1 : w.heap.size + 1 = g1 at *
  have hgg : w.heap.size ≠ g1 := by omega
  have hge : w.heap.size ≤ g1 := by omega
  rw [HL.out, mo_view] at T0
  have HW0 := HW
  have WFS1 : Hid ((⟨3, c, s, r, [], wh, tg, ow, b, ns⟩ : Msg).Wf) := (fun h => ⟨h.sub, h.rep, h.tag, h.own, h.blob⟩ : (⟨3, c, s, r, v, wh, tg, ow, b, ns⟩ : Msg).Wf → _) HW.out
  have WFS2 : Hid ((⟨3, c, s, r, [], wh, zeroD, ow, b, ns⟩ : Msg).Wf) := (fun h => ⟨h.sub, h.rep, rfl, h.own, h.blob⟩ : (⟨3, c, s, r, [], wh, tg, ow, b, ns⟩ : Msg).Wf → _) WFS1.out
  have ZF : (Tryz.prog.info? 33).map (·.size) = some (mC 3 c s r [] wh zeroD ow b ns vP vN).length := by rw [mC_len WFS2.out]; exact sizeMsg
  have LF : Z.length = (mC 3 c s r [] wh zeroD ow b ns vP vN).length := by rw [mC_len WFS2.out]; exact hln
  clear HW0
  go_wp2_with (first
    | ((with_reducible refine wl_put1 9 (.tmp 19) (.const (st [])) ?_ ?_ w.heap.size 173 ?_ ?_ (pre_view 3 c s r v wh tg ow b ns vP vN) (pos_view 3 c s r v wh tg ow b ns vP vN) (st v) (st []) ?_ 33 T0.out (ln_view 3 c s r v wh tg ow b ns vP vN HW.out) ?_ ?_ ?_); exact rfl; exact rfl; exact rfl; exact rfl; exact rfl; exact rfl; kernel_rfl; intro W1 r1 b1; rw [sh_view 3 c s r v wh tg ow b ns vP vN []] at r1; have HW : Hid ((⟨3, c, s, r, [], wh, tg, ow, b, ns⟩ : Msg).Wf) := WFS1; rw [mo_tag] at r1; have T1 := hid r1; have B1 := hid (b1.below B0.out (Nat.le_refl _)); have Q1 := hid (b1.row Q0.out hgg.symm); clear r1 b1)
    | ((with_reducible refine wl_build 23 ?_ ?_ (dg zeroD).toArray (build_dig _) ?_); exact rfl; exact rfl)
    | ((with_reducible refine wl_put 23 (.tmp 21) (.tmp 20) ?_ ?_ w.heap.size 175 ?_ ?_ (pre_tag 3 c s r [] wh tg ow b ns vP vN) (dg zeroD) (dg tg) (pos_tag 3 c s r [] wh tg ow b ns vP vN) ?_ 33 T1.out (ln_tag 3 c s r [] wh tg ow b ns vP vN HW.out) (by rw [dg_len, dg_len, zeroD_len]; exact HW.out.tag) (one_dg _) (by rw [dg_len, zeroD_len]; exact sizeDig) ?_); exact rfl; exact rfl; exact rfl; exact rfl; exact rfl; intro W2 r2 b2; rw [sh_tag 3 c s r [] wh tg ow b ns vP vN zeroD] at r2; have HW : Hid ((⟨3, c, s, r, [], wh, zeroD, ow, b, ns⟩ : Msg).Wf) := WFS2; have T2 := hid r2; have B2 := hid (b2.below B1.out (Nat.le_refl _)); have Q2 := hid (b2.row Q1.out hgg.symm); have S2 := hid (row_seg (off := 0) (A := []) (cs := mC 3 c s r [] wh zeroD ow b ns vP vN) (C := []) T2.out (by simp) rfl); clear r2 b2)
    | ((with_reducible refine wl_load 33 (.tmp 1) ?_ w.heap.size 0 ?_ ?_ (mC 3 c s r [] wh zeroD ow b ns vP vN) _ S2.out Tryz.underlying33 ?_ ZF ?_); exact rfl; exact rfl; exact rfl; exact rfl)
    | ((with_reducible refine wl_put 33 (.tmp 2) (.tmp 44) ?_ ?_ g1 0 ?_ ?_ [] (mC 3 c s r [] wh zeroD ow b ns vP vN) Z [] ?_ 33 Q2.out rfl LF (mC_one h1 h2) ZF ?_); exact rfl; exact rfl; exact rfl; exact rfl; exact rfl; intro WF rF bF))
  have rG : WF.heap[g1]? = some (.cells (mC 3 c s r [] wh zeroD ow b ns vP vN).toArray 33) := by simpa using rF
  refine bodyPost_ret_by (results_row (fn := Tryz.f45) (p := 2) (ty := 33) (by kernel_rfl) _ _ g1 33 (mC 3 c s r [] wh zeroD ow b ns vP vN).toArray (0, 0) _ rfl rG Tryz.underlying33 rfl (by rw [List.size_toArray]; exact ZF)) rfl ?_
  exact ⟨rfl, bF.below B2.out hge⟩
set_option maxHeartbeats 4000000 in
theorem bare_4 {w : World} {c : Int} {s : Sub} {r : Rep} {v : List UInt8} {wh : Int} {tg ow : List UInt8} {b : Blo} {ns : List Int} {vP vN : Value} (hw : (⟨4, c, s, r, v, wh, tg, ow, b, ns⟩ : Msg).Wf) (h1 : vP.oneCell' = true) (h2 : vN.oneCell' = true) :
    Calls Tryz.prog 45 #[.agg (mC 4 c s r v wh tg ow b ns vP vN).toArray] w fun e w' => e = .returned (.agg (mC 4 c s r v wh tg ow zeroB ns vP vN).toArray) ∧ Below w.heap.size w w' := by
  have B0 := hid (below_two (below_a1 w (.cells (mC 4 c s r v wh tg ow b ns vP vN).toArray 33)) (below_a1 _ (.cells (msgC (zeroM 0 0) (.slice none 0 0) (.slice none 0 0)).toArray 33)))
  have T0 := hid (row_kept (top_obj w (.cells (mC 4 c s r v wh tg ow b ns vP vN).toArray 33)) (below_a1 _ (.cells (msgC (zeroM 0 0) (.slice none 0 0) (.slice none 0 0)).toArray 33)))
  have Q0 := hid (top_obj (w.alloc (.cells (mC 4 c s r v wh tg ow b ns vP vN).toArray 33)) (.cells (msgC (zeroM 0 0) (.slice none 0 0) (.slice none 0 0)).toArray 33))
  have ck := mrow_kind T0.out hw
  have ZM := zeroMsg
  have HW := hid hw
  have hs : (w.alloc (.cells (mC 4 c s r v wh tg ow b ns vP vN).toArray 33)).heap.size = w.heap.size + 1 := Array.size_push _
  rw [hs] at Q0
  have hln : (msgC (zeroM 0 0) (.slice none 0 0) (.slice none 0 0)).length = 275 := msgC_len (zeroM_wf 0 0) _ _
  obtain ⟨Z, hZ⟩ : ∃ Z, Z = msgC (zeroM 0 0) (.slice none 0 0) (.slice none 0 0) := ⟨_, rfl⟩
  rw [← hZ] at B0 T0 Q0 ck ZM hln
  clear hZ hw
  obtain ⟨L, hL⟩ : ∃ L, L = mC 4 c s r v wh tg ow b ns vP vN := ⟨_, rfl⟩
  rw [← hL] at B0 T0 Q0 ck hs ⊢
  have HL := hid hL
  clear hL
  go_enter Tryz.func45, Tryz.ntmps45
  go_upto_region 1 with (first | ((with_reducible refine wl_alloc 33 ?_ ?_ Z.toArray ZM ?_); exact rfl; exact rfl))
  generalize (w.alloc (.cells L.toArray 33)).alloc (.cells Z.toArray 33) = W0 at *
  clear hs
  have Q0 : Hid (W0.heap[w.heap.size + 1]? = some (.cells ([] ++ (Z ++ [])).toArray 33)) := row_nilB Q0.out
  generalize hg1 : w.heap.size + 1 = g1 at *
  have hgg : w.heap.size ≠ g1 := by omega
  have hge : w.heap.size ≤ g1 := by omega
  rw [HL.out, mo_blob] at T0
  have HW0 := HW
  have WFS1 : Hid ((⟨4, c, s, r, v, wh, tg, ow, zeroB, ns⟩ : Msg).Wf) := (fun h => ⟨h.sub, h.rep, h.tag, h.own, wfZeroB⟩ : (⟨4, c, s, r, v, wh, tg, ow, b, ns⟩ : Msg).Wf → _) HW.out
  have ZF : (Tryz.prog.info? 33).map (·.size) = some (mC 4 c s r v wh tg ow zeroB ns vP vN).length := by rw [mC_len WFS1.out]; exact sizeMsg
  have LF : Z.length = (mC 4 c s r v wh tg ow zeroB ns vP vN).length := by rw [mC_len WFS1.out]; exact hln
  clear HW0
  go_wp2_with (first
    | ((with_reducible refine wl_build 30 ?_ ?_ (bloC zeroB).toArray (build_blo _) ?_); exact rfl; exact rfl)
    | ((with_reducible refine wl_put 30 (.tmp 26) (.tmp 25) ?_ ?_ w.heap.size 239 ?_ ?_ (pre_blob 4 c s r v wh tg ow b ns vP vN) (bloC zeroB) (bloC b) (pos_blob 4 c s r v wh tg ow b ns vP vN) ?_ 33 T0.out (ln_blob 4 c s r v wh tg ow b ns vP vN HW.out) (by rw [bloC_len wfZeroB]; exact bloC_len HW.out.blob) (one_blo _) (by rw [bloC_len wfZeroB]; exact sizeBlo) ?_); exact rfl; exact rfl; exact rfl; exact rfl; exact rfl; intro W1 r1 b1; rw [sh_blob 4 c s r v wh tg ow b ns vP vN zeroB] at r1; have HW : Hid ((⟨4, c, s, r, v, wh, tg, ow, zeroB, ns⟩ : Msg).Wf) := WFS1; have T1 := hid r1; have B1 := hid (b1.below B0.out (Nat.le_refl _)); have Q1 := hid (b1.row Q0.out hgg.symm); have S1 := hid (row_seg (off := 0) (A := []) (cs := mC 4 c s r v wh tg ow zeroB ns vP vN) (C := []) T1.out (by simp) rfl); clear r1 b1)
    | ((with_reducible refine wl_load 33 (.tmp 1) ?_ w.heap.size 0 ?_ ?_ (mC 4 c s r v wh tg ow zeroB ns vP vN) _ S1.out Tryz.underlying33 ?_ ZF ?_); exact rfl; exact rfl; exact rfl; exact rfl)
    | ((with_reducible refine wl_put 33 (.tmp 2) (.tmp 44) ?_ ?_ g1 0 ?_ ?_ [] (mC 4 c s r v wh tg ow zeroB ns vP vN) Z [] ?_ 33 Q1.out rfl LF (mC_one h1 h2) ZF ?_); exact rfl; exact rfl; exact rfl; exact rfl; exact rfl; intro WF rF bF))
  have rG : WF.heap[g1]? = some (.cells (mC 4 c s r v wh tg ow zeroB ns vP vN).toArray 33) := by simpa using rF
  refine bodyPost_ret_by (results_row (fn := Tryz.f45) (p := 2) (ty := 33) (by kernel_rfl) _ _ g1 33 (mC 4 c s r v wh tg ow zeroB ns vP vN).toArray (0, 0) _ rfl rG Tryz.underlying33 rfl (by rw [List.size_toArray]; exact ZF)) rfl ?_
  exact ⟨rfl, bF.below B1.out hge⟩
set_option maxHeartbeats 4000000 in
theorem bare_6 {w : World} {c : Int} {s : Sub} {r : Rep} {v : List UInt8} {wh : Int} {tg ow : List UInt8} {b : Blo} {ns : List Int} {vP vN : Value} (hw : (⟨6, c, s, r, v, wh, tg, ow, b, ns⟩ : Msg).Wf) (h1 : vP.oneCell' = true) (h2 : vN.oneCell' = true) :
    Calls Tryz.prog 45 #[.agg (mC 6 c s r v wh tg ow b ns vP vN).toArray] w fun e w' => e = .returned (.agg (mC 6 c s r v wh tg ow zeroB ns vP vN).toArray) ∧ Below w.heap.size w w' := by
  have B0 := hid (below_two (below_a1 w (.cells (mC 6 c s r v wh tg ow b ns vP vN).toArray 33)) (below_a1 _ (.cells (msgC (zeroM 0 0) (.slice none 0 0) (.slice none 0 0)).toArray 33)))
  have T0 := hid (row_kept (top_obj w (.cells (mC 6 c s r v wh tg ow b ns vP vN).toArray 33)) (below_a1 _ (.cells (msgC (zeroM 0 0) (.slice none 0 0) (.slice none 0 0)).toArray 33)))
  have Q0 := hid (top_obj (w.alloc (.cells (mC 6 c s r v wh tg ow b ns vP vN).toArray 33)) (.cells (msgC (zeroM 0 0) (.slice none 0 0) (.slice none 0 0)).toArray 33))
  have ck := mrow_kind T0.out hw
  have ZM := zeroMsg
  have HW := hid hw
  have hs : (w.alloc (.cells (mC 6 c s r v wh tg ow b ns vP vN).toArray 33)).heap.size = w.heap.size + 1 := Array.size_push _
  rw [hs] at Q0
  have hln : (msgC (zeroM 0 0) (.slice none 0 0) (.slice none 0 0)).length = 275 := msgC_len (zeroM_wf 0 0) _ _
  obtain ⟨Z, hZ⟩ : ∃ Z, Z = msgC (zeroM 0 0) (.slice none 0 0) (.slice none 0 0) := ⟨_, rfl⟩
  rw [← hZ] at B0 T0 Q0 ck ZM hln
  clear hZ hw
  obtain ⟨L, hL⟩ : ∃ L, L = mC 6 c s r v wh tg ow b ns vP vN := ⟨_, rfl⟩
  rw [← hL] at B0 T0 Q0 ck hs ⊢
  have HL := hid hL
  clear hL
  go_enter Tryz.func45, Tryz.ntmps45
  go_upto_region 1 with (first | ((with_reducible refine wl_alloc 33 ?_ ?_ Z.toArray ZM ?_); exact rfl; exact rfl))
  generalize (w.alloc (.cells L.toArray 33)).alloc (.cells Z.toArray 33) = W0 at *
  clear hs
  have Q0 : Hid (W0.heap[w.heap.size + 1]? = some (.cells ([] ++ (Z ++ [])).toArray 33)) := row_nilB Q0.out
  generalize hg1 : w.heap.size + 1 = g1 at *
  have hgg : w.heap.size ≠ g1 := by omega
  have hge : w.heap.size ≤ g1 := by omega
  rw [HL.out, mo_blob] at T0
  have HW0 := HW
  have WFS1 : Hid ((⟨6, c, s, r, v, wh, tg, ow, zeroB, ns⟩ : Msg).Wf) := (fun h => ⟨h.sub, h.rep, h.tag, h.own, wfZeroB⟩ : (⟨6, c, s, r, v, wh, tg, ow, b, ns⟩ : Msg).Wf → _) HW.out
  have ZF : (Tryz.prog.info? 33).map (·.size) = some (mC 6 c s r v wh tg ow zeroB ns vP vN).length := by rw [mC_len WFS1.out]; exact sizeMsg
  have LF : Z.length = (mC 6 c s r v wh tg ow zeroB ns vP vN).length := by rw [mC_len WFS1.out]; exact hln
  clear HW0
  go_wp2_with (first
    | ((with_reducible refine wl_build 30 ?_ ?_ (bloC zeroB).toArray (build_blo _) ?_); exact rfl; exact rfl)
    | ((with_reducible refine wl_put 30 (.tmp 26) (.tmp 25) ?_ ?_ w.heap.size 239 ?_ ?_ (pre_blob 6 c s r v wh tg ow b ns vP vN) (bloC zeroB) (bloC b) (pos_blob 6 c s r v wh tg ow b ns vP vN) ?_ 33 T0.out (ln_blob 6 c s r v wh tg ow b ns vP vN HW.out) (by rw [bloC_len wfZeroB]; exact bloC_len HW.out.blob) (one_blo _) (by rw [bloC_len wfZeroB]; exact sizeBlo) ?_); exact rfl; exact rfl; exact rfl; exact rfl; exact rfl; intro W1 r1 b1; rw [sh_blob 6 c s r v wh tg ow b ns vP vN zeroB] at r1; have HW : Hid ((⟨6, c, s, r, v, wh, tg, ow, zeroB, ns⟩ : Msg).Wf) := WFS1; have T1 := hid r1; have B1 := hid (b1.below B0.out (Nat.le_refl _)); have Q1 := hid (b1.row Q0.out hgg.symm); have S1 := hid (row_seg (off := 0) (A := []) (cs := mC 6 c s r v wh tg ow zeroB ns vP vN) (C := []) T1.out (by simp) rfl); clear r1 b1)
    | ((with_reducible refine wl_load 33 (.tmp 1) ?_ w.heap.size 0 ?_ ?_ (mC 6 c s r v wh tg ow zeroB ns vP vN) _ S1.out Tryz.underlying33 ?_ ZF ?_); exact rfl; exact rfl; exact rfl; exact rfl)
    | ((with_reducible refine wl_put 33 (.tmp 2) (.tmp 44) ?_ ?_ g1 0 ?_ ?_ [] (mC 6 c s r v wh tg ow zeroB ns vP vN) Z [] ?_ 33 Q1.out rfl LF (mC_one h1 h2) ZF ?_); exact rfl; exact rfl; exact rfl; exact rfl; exact rfl; intro WF rF bF))
  have rG : WF.heap[g1]? = some (.cells (mC 6 c s r v wh tg ow zeroB ns vP vN).toArray 33) := by simpa using rF
  refine bodyPost_ret_by (results_row (fn := Tryz.f45) (p := 2) (ty := 33) (by kernel_rfl) _ _ g1 33 (mC 6 c s r v wh tg ow zeroB ns vP vN).toArray (0, 0) _ rfl rG Tryz.underlying33 rfl (by rw [List.size_toArray]; exact ZF)) rfl ?_
  exact ⟨rfl, bF.below B1.out hge⟩
set_option maxHeartbeats 4000000 in
theorem bare_5 {w : World} {c : Int} {s : Sub} {r : Rep} {v : List UInt8} {wh : Int} {tg ow : List UInt8} {b : Blo} {ns : List Int} {vP vN : Value} (hw : (⟨5, c, s, r, v, wh, tg, ow, b, ns⟩ : Msg).Wf) (h1 : vP.oneCell' = true) (_h2 : vN.oneCell' = true) :
    Calls Tryz.prog 45 #[.agg (mC 5 c s r v wh tg ow b ns vP vN).toArray] w fun e w' => e = .returned (.agg (mC 5 c s r v wh tg ow b [] vP (.slice none 0 0)).toArray) ∧ Below w.heap.size w w' := by
  have B0 := hid (below_two (below_a1 w (.cells (mC 5 c s r v wh tg ow b ns vP vN).toArray 33)) (below_a1 _ (.cells (msgC (zeroM 0 0) (.slice none 0 0) (.slice none 0 0)).toArray 33)))
  have T0 := hid (row_kept (top_obj w (.cells (mC 5 c s r v wh tg ow b ns vP vN).toArray 33)) (below_a1 _ (.cells (msgC (zeroM 0 0) (.slice none 0 0) (.slice none 0 0)).toArray 33)))
  have Q0 := hid (top_obj (w.alloc (.cells (mC 5 c s r v wh tg ow b ns vP vN).toArray 33)) (.cells (msgC (zeroM 0 0) (.slice none 0 0) (.slice none 0 0)).toArray 33))
  have ck := mrow_kind T0.out hw
  have ZM := zeroMsg
  have HW := hid hw
  have hs : (w.alloc (.cells (mC 5 c s r v wh tg ow b ns vP vN).toArray 33)).heap.size = w.heap.size + 1 := Array.size_push _
  rw [hs] at Q0
  have hln : (msgC (zeroM 0 0) (.slice none 0 0) (.slice none 0 0)).length = 275 := msgC_len (zeroM_wf 0 0) _ _
  obtain ⟨Z, hZ⟩ : ∃ Z, Z = msgC (zeroM 0 0) (.slice none 0 0) (.slice none 0 0) := ⟨_, rfl⟩
  rw [← hZ] at B0 T0 Q0 ck ZM hln
  clear hZ hw
  obtain ⟨L, hL⟩ : ∃ L, L = mC 5 c s r v wh tg ow b ns vP vN := ⟨_, rfl⟩
  rw [← hL] at B0 T0 Q0 ck hs ⊢
  have HL := hid hL
  clear hL
  go_enter Tryz.func45, Tryz.ntmps45
  go_upto_region 1 with (first | ((with_reducible refine wl_alloc 33 ?_ ?_ Z.toArray ZM ?_); exact rfl; exact rfl))
  generalize (w.alloc (.cells L.toArray 33)).alloc (.cells Z.toArray 33) = W0 at *
  clear hs
  have Q0 : Hid (W0.heap[w.heap.size + 1]? = some (.cells ([] ++ (Z ++ [])).toArray 33)) := row_nilB Q0.out
  generalize hg1 : w.heap.size + 1 = g1 at *
  have hgg : w.heap.size ≠ g1 := by omega
  have hge : w.heap.size ≤ g1 := by omega
  rw [HL.out, mo_nums] at T0
  have HW0 := HW
  have WFS1 : Hid ((⟨5, c, s, r, v, wh, tg, ow, b, []⟩ : Msg).Wf) := (fun h => ⟨h.sub, h.rep, h.tag, h.own, h.blob⟩ : (⟨5, c, s, r, v, wh, tg, ow, b, ns⟩ : Msg).Wf → _) HW.out
  have ZF : (Tryz.prog.info? 33).map (·.size) = some (mC 5 c s r v wh tg ow b [] vP (.slice none 0 0)).length := by rw [mC_len WFS1.out]; exact sizeMsg
  have LF : Z.length = (mC 5 c s r v wh tg ow b [] vP (.slice none 0 0)).length := by rw [mC_len WFS1.out]; exact hln
  clear HW0
  go_wp2_with (first
    | ((with_reducible refine wl_put1 31 (.tmp 31) (.const (.slice none 0 0)) ?_ ?_ w.heap.size 274 ?_ ?_ (pre_nums 5 c s r v wh tg ow b ns vP vN) (pos_nums 5 c s r v wh tg ow b ns vP vN) (vN) (.slice none 0 0) ?_ 33 T0.out (ln_nums 5 c s r v wh tg ow b ns vP vN HW.out) ?_ ?_ ?_); exact rfl; exact rfl; exact rfl; exact rfl; exact rfl; exact rfl; kernel_rfl; intro W1 r1 b1; rw [sh_nums 5 c s r v wh tg ow b ns vP vN (.slice none 0 0) []] at r1; have HW : Hid ((⟨5, c, s, r, v, wh, tg, ow, b, []⟩ : Msg).Wf) := WFS1; have T1 := hid r1; have B1 := hid (b1.below B0.out (Nat.le_refl _)); have Q1 := hid (b1.row Q0.out hgg.symm); have S1 := hid (row_seg (off := 0) (A := []) (cs := mC 5 c s r v wh tg ow b [] vP (.slice none 0 0)) (C := []) T1.out (by simp) rfl); clear r1 b1)
    | ((with_reducible refine wl_load 33 (.tmp 1) ?_ w.heap.size 0 ?_ ?_ (mC 5 c s r v wh tg ow b [] vP (.slice none 0 0)) _ S1.out Tryz.underlying33 ?_ ZF ?_); exact rfl; exact rfl; exact rfl; exact rfl)
    | ((with_reducible refine wl_put 33 (.tmp 2) (.tmp 44) ?_ ?_ g1 0 ?_ ?_ [] (mC 5 c s r v wh tg ow b [] vP (.slice none 0 0)) Z [] ?_ 33 Q1.out rfl LF (mC_one h1 rfl) ZF ?_); exact rfl; exact rfl; exact rfl; exact rfl; exact rfl; intro WF rF bF))
  have rG : WF.heap[g1]? = some (.cells (mC 5 c s r v wh tg ow b [] vP (.slice none 0 0)).toArray 33) := by simpa using rF
  refine bodyPost_ret_by (results_row (fn := Tryz.f45) (p := 2) (ty := 33) (by kernel_rfl) _ _ g1 33 (mC 5 c s r v wh tg ow b [] vP (.slice none 0 0)).toArray (0, 0) _ rfl rG Tryz.underlying33 rfl (by rw [List.size_toArray]; exact ZF)) rfl ?_
  exact ⟨rfl, bF.below B1.out hge⟩
set_option maxHeartbeats 4000000 in
theorem bare_7 {w : World} {c : Int} {s : Sub} {r : Rep} {v : List UInt8} {wh : Int} {tg ow : List UInt8} {b : Blo} {ns : List Int} {vP vN : Value} (hw : (⟨7, c, s, r, v, wh, tg, ow, b, ns⟩ : Msg).Wf) (h1 : vP.oneCell' = true) (_h2 : vN.oneCell' = true) :
    Calls Tryz.prog 45 #[.agg (mC 7 c s r v wh tg ow b ns vP vN).toArray] w fun e w' => e = .returned (.agg (mC 7 c s r v wh tg ow b [] vP (.slice none 0 0)).toArray) ∧ Below w.heap.size w w' := by
  have B0 := hid (below_two (below_a1 w (.cells (mC 7 c s r v wh tg ow b ns vP vN).toArray 33)) (below_a1 _ (.cells (msgC (zeroM 0 0) (.slice none 0 0) (.slice none 0 0)).toArray 33)))
  have T0 := hid (row_kept (top_obj w (.cells (mC 7 c s r v wh tg ow b ns vP vN).toArray 33)) (below_a1 _ (.cells (msgC (zeroM 0 0) (.slice none 0 0) (.slice none 0 0)).toArray 33)))
  have Q0 := hid (top_obj (w.alloc (.cells (mC 7 c s r v wh tg ow b ns vP vN).toArray 33)) (.cells (msgC (zeroM 0 0) (.slice none 0 0) (.slice none 0 0)).toArray 33))
  have ck := mrow_kind T0.out hw
  have ZM := zeroMsg
  have HW := hid hw
  have hs : (w.alloc (.cells (mC 7 c s r v wh tg ow b ns vP vN).toArray 33)).heap.size = w.heap.size + 1 := Array.size_push _
  rw [hs] at Q0
  have hln : (msgC (zeroM 0 0) (.slice none 0 0) (.slice none 0 0)).length = 275 := msgC_len (zeroM_wf 0 0) _ _
  obtain ⟨Z, hZ⟩ : ∃ Z, Z = msgC (zeroM 0 0) (.slice none 0 0) (.slice none 0 0) := ⟨_, rfl⟩
  rw [← hZ] at B0 T0 Q0 ck ZM hln
  clear hZ hw
  obtain ⟨L, hL⟩ : ∃ L, L = mC 7 c s r v wh tg ow b ns vP vN := ⟨_, rfl⟩
  rw [← hL] at B0 T0 Q0 ck hs ⊢
  have HL := hid hL
  clear hL
  go_enter Tryz.func45, Tryz.ntmps45
  go_upto_region 1 with (first | ((with_reducible refine wl_alloc 33 ?_ ?_ Z.toArray ZM ?_); exact rfl; exact rfl))
  generalize (w.alloc (.cells L.toArray 33)).alloc (.cells Z.toArray 33) = W0 at *
  clear hs
  have Q0 : Hid (W0.heap[w.heap.size + 1]? = some (.cells ([] ++ (Z ++ [])).toArray 33)) := row_nilB Q0.out
  generalize hg1 : w.heap.size + 1 = g1 at *
  have hgg : w.heap.size ≠ g1 := by omega
  have hge : w.heap.size ≤ g1 := by omega
  rw [HL.out, mo_nums] at T0
  have HW0 := HW
  have WFS1 : Hid ((⟨7, c, s, r, v, wh, tg, ow, b, []⟩ : Msg).Wf) := (fun h => ⟨h.sub, h.rep, h.tag, h.own, h.blob⟩ : (⟨7, c, s, r, v, wh, tg, ow, b, ns⟩ : Msg).Wf → _) HW.out
  have ZF : (Tryz.prog.info? 33).map (·.size) = some (mC 7 c s r v wh tg ow b [] vP (.slice none 0 0)).length := by rw [mC_len WFS1.out]; exact sizeMsg
  have LF : Z.length = (mC 7 c s r v wh tg ow b [] vP (.slice none 0 0)).length := by rw [mC_len WFS1.out]; exact hln
  clear HW0
  go_wp2_with (first
    | ((with_reducible refine wl_put1 31 (.tmp 31) (.const (.slice none 0 0)) ?_ ?_ w.heap.size 274 ?_ ?_ (pre_nums 7 c s r v wh tg ow b ns vP vN) (pos_nums 7 c s r v wh tg ow b ns vP vN) (vN) (.slice none 0 0) ?_ 33 T0.out (ln_nums 7 c s r v wh tg ow b ns vP vN HW.out) ?_ ?_ ?_); exact rfl; exact rfl; exact rfl; exact rfl; exact rfl; exact rfl; kernel_rfl; intro W1 r1 b1; rw [sh_nums 7 c s r v wh tg ow b ns vP vN (.slice none 0 0) []] at r1; have HW : Hid ((⟨7, c, s, r, v, wh, tg, ow, b, []⟩ : Msg).Wf) := WFS1; have T1 := hid r1; have B1 := hid (b1.below B0.out (Nat.le_refl _)); have Q1 := hid (b1.row Q0.out hgg.symm); have S1 := hid (row_seg (off := 0) (A := []) (cs := mC 7 c s r v wh tg ow b [] vP (.slice none 0 0)) (C := []) T1.out (by simp) rfl); clear r1 b1)
    | ((with_reducible refine wl_load 33 (.tmp 1) ?_ w.heap.size 0 ?_ ?_ (mC 7 c s r v wh tg ow b [] vP (.slice none 0 0)) _ S1.out Tryz.underlying33 ?_ ZF ?_); exact rfl; exact rfl; exact rfl; exact rfl)
    | ((with_reducible refine wl_put 33 (.tmp 2) (.tmp 44) ?_ ?_ g1 0 ?_ ?_ [] (mC 7 c s r v wh tg ow b [] vP (.slice none 0 0)) Z [] ?_ 33 Q1.out rfl LF (mC_one h1 rfl) ZF ?_); exact rfl; exact rfl; exact rfl; exact rfl; exact rfl; intro WF rF bF))
  have rG : WF.heap[g1]? = some (.cells (mC 7 c s r v wh tg ow b [] vP (.slice none 0 0)).toArray 33) := by simpa using rF
  refine bodyPost_ret_by (results_row (fn := Tryz.f45) (p := 2) (ty := 33) (by kernel_rfl) _ _ g1 33 (mC 7 c s r v wh tg ow b [] vP (.slice none 0 0)).toArray (0, 0) _ rfl rG Tryz.underlying33 rfl (by rw [List.size_toArray]; exact ZF)) rfl ?_
  exact ⟨rfl, bF.below B1.out hge⟩
set_option maxHeartbeats 4000000 in
theorem bare_8 {w : World} {c : Int} {s : Sub} {r : Rep} {v : List UInt8} {wh : Int} {tg ow : List UInt8} {b : Blo} {ns : List Int} {vP vN : Value} (hw : (⟨8, c, s, r, v, wh, tg, ow, b, ns⟩ : Msg).Wf) (h1 : vP.oneCell' = true) (_h2 : vN.oneCell' = true) :
    Calls Tryz.prog 45 #[.agg (mC 8 c s r v wh tg ow b ns vP vN).toArray] w fun e w' => e = .returned (.agg (mC 8 c s r v wh tg ow b [] vP (.slice none 0 0)).toArray) ∧ Below w.heap.size w w' := by
  have B0 := hid (below_two (below_a1 w (.cells (mC 8 c s r v wh tg ow b ns vP vN).toArray 33)) (below_a1 _ (.cells (msgC (zeroM 0 0) (.slice none 0 0) (.slice none 0 0)).toArray 33)))
  have T0 := hid (row_kept (top_obj w (.cells (mC 8 c s r v wh tg ow b ns vP vN).toArray 33)) (below_a1 _ (.cells (msgC (zeroM 0 0) (.slice none 0 0) (.slice none 0 0)).toArray 33)))
  have Q0 := hid (top_obj (w.alloc (.cells (mC 8 c s r v wh tg ow b ns vP vN).toArray 33)) (.cells (msgC (zeroM 0 0) (.slice none 0 0) (.slice none 0 0)).toArray 33))
  have ck := mrow_kind T0.out hw
  have ZM := zeroMsg
  have HW := hid hw
  have hs : (w.alloc (.cells (mC 8 c s r v wh tg ow b ns vP vN).toArray 33)).heap.size = w.heap.size + 1 := Array.size_push _
  rw [hs] at Q0
  have hln : (msgC (zeroM 0 0) (.slice none 0 0) (.slice none 0 0)).length = 275 := msgC_len (zeroM_wf 0 0) _ _
  obtain ⟨Z, hZ⟩ : ∃ Z, Z = msgC (zeroM 0 0) (.slice none 0 0) (.slice none 0 0) := ⟨_, rfl⟩
  rw [← hZ] at B0 T0 Q0 ck ZM hln
  clear hZ hw
  obtain ⟨L, hL⟩ : ∃ L, L = mC 8 c s r v wh tg ow b ns vP vN := ⟨_, rfl⟩
  rw [← hL] at B0 T0 Q0 ck hs ⊢
  have HL := hid hL
  clear hL
  go_enter Tryz.func45, Tryz.ntmps45
  go_upto_region 1 with (first | ((with_reducible refine wl_alloc 33 ?_ ?_ Z.toArray ZM ?_); exact rfl; exact rfl))
  generalize (w.alloc (.cells L.toArray 33)).alloc (.cells Z.toArray 33) = W0 at *
  clear hs
  have Q0 : Hid (W0.heap[w.heap.size + 1]? = some (.cells ([] ++ (Z ++ [])).toArray 33)) := row_nilB Q0.out
  generalize hg1 : w.heap.size + 1 = g1 at *
  have hgg : w.heap.size ≠ g1 := by omega
  have hge : w.heap.size ≤ g1 := by omega
  rw [HL.out, mo_nums] at T0
  have HW0 := HW
  have WFS1 : Hid ((⟨8, c, s, r, v, wh, tg, ow, b, []⟩ : Msg).Wf) := (fun h => ⟨h.sub, h.rep, h.tag, h.own, h.blob⟩ : (⟨8, c, s, r, v, wh, tg, ow, b, ns⟩ : Msg).Wf → _) HW.out
  have ZF : (Tryz.prog.info? 33).map (·.size) = some (mC 8 c s r v wh tg ow b [] vP (.slice none 0 0)).length := by rw [mC_len WFS1.out]; exact sizeMsg
  have LF : Z.length = (mC 8 c s r v wh tg ow b [] vP (.slice none 0 0)).length := by rw [mC_len WFS1.out]; exact hln
  clear HW0
  go_wp2_with (first
    | ((with_reducible refine wl_put1 31 (.tmp 31) (.const (.slice none 0 0)) ?_ ?_ w.heap.size 274 ?_ ?_ (pre_nums 8 c s r v wh tg ow b ns vP vN) (pos_nums 8 c s r v wh tg ow b ns vP vN) (vN) (.slice none 0 0) ?_ 33 T0.out (ln_nums 8 c s r v wh tg ow b ns vP vN HW.out) ?_ ?_ ?_); exact rfl; exact rfl; exact rfl; exact rfl; exact rfl; exact rfl; kernel_rfl; intro W1 r1 b1; rw [sh_nums 8 c s r v wh tg ow b ns vP vN (.slice none 0 0) []] at r1; have HW : Hid ((⟨8, c, s, r, v, wh, tg, ow, b, []⟩ : Msg).Wf) := WFS1; have T1 := hid r1; have B1 := hid (b1.below B0.out (Nat.le_refl _)); have Q1 := hid (b1.row Q0.out hgg.symm); have S1 := hid (row_seg (off := 0) (A := []) (cs := mC 8 c s r v wh tg ow b [] vP (.slice none 0 0)) (C := []) T1.out (by simp) rfl); clear r1 b1)
    | ((with_reducible refine wl_load 33 (.tmp 1) ?_ w.heap.size 0 ?_ ?_ (mC 8 c s r v wh tg ow b [] vP (.slice none 0 0)) _ S1.out Tryz.underlying33 ?_ ZF ?_); exact rfl; exact rfl; exact rfl; exact rfl)
    | ((with_reducible refine wl_put 33 (.tmp 2) (.tmp 44) ?_ ?_ g1 0 ?_ ?_ [] (mC 8 c s r v wh tg ow b [] vP (.slice none 0 0)) Z [] ?_ 33 Q1.out rfl LF (mC_one h1 rfl) ZF ?_); exact rfl; exact rfl; exact rfl; exact rfl; exact rfl; intro WF rF bF))
  have rG : WF.heap[g1]? = some (.cells (mC 8 c s r v wh tg ow b [] vP (.slice none 0 0)).toArray 33) := by simpa using rF
  refine bodyPost_ret_by (results_row (fn := Tryz.f45) (p := 2) (ty := 33) (by kernel_rfl) _ _ g1 33 (mC 8 c s r v wh tg ow b [] vP (.slice none 0 0)).toArray (0, 0) _ rfl rG Tryz.underlying33 rfl (by rw [List.size_toArray]; exact ZF)) rfl ?_
  exact ⟨rfl, bF.below B1.out hge⟩
set_option maxHeartbeats 4000000 in
theorem bare_10 {w : World} {c : Int} {s : Sub} {r : Rep} {v : List UInt8} {wh : Int} {tg ow : List UInt8} {b : Blo} {ns : List Int} {vP vN : Value} (hw : (⟨10, c, s, r, v, wh, tg, ow, b, ns⟩ : Msg).Wf) (h1 : vP.oneCell' = true) (h2 : vN.oneCell' = true) :
    Calls Tryz.prog 45 #[.agg (mC 10 c s r v wh tg ow b ns vP vN).toArray] w fun e w' => e = .returned (.agg (mC 10 c s r [] 0 zeroD zeroD b ns vP vN).toArray) ∧ Below w.heap.size w w' := by
  have B0 := hid (below_two (below_a1 w (.cells (mC 10 c s r v wh tg ow b ns vP vN).toArray 33)) (below_a1 _ (.cells (msgC (zeroM 0 0) (.slice none 0 0) (.slice none 0 0)).toArray 33)))
  have T0 := hid (row_kept (top_obj w (.cells (mC 10 c s r v wh tg ow b ns vP vN).toArray 33)) (below_a1 _ (.cells (msgC (zeroM 0 0) (.slice none 0 0) (.slice none 0 0)).toArray 33)))
  have Q0 := hid (top_obj (w.alloc (.cells (mC 10 c s r v wh tg ow b ns vP vN).toArray 33)) (.cells (msgC (zeroM 0 0) (.slice none 0 0) (.slice none 0 0)).toArray 33))
  have ck := mrow_kind T0.out hw
  have ZM := zeroMsg
  have HW := hid hw
  have hs : (w.alloc (.cells (mC 10 c s r v wh tg ow b ns vP vN).toArray 33)).heap.size = w.heap.size + 1 := Array.size_push _
  rw [hs] at Q0
  have hln : (msgC (zeroM 0 0) (.slice none 0 0) (.slice none 0 0)).length = 275 := msgC_len (zeroM_wf 0 0) _ _
  obtain ⟨Z, hZ⟩ : ∃ Z, Z = msgC (zeroM 0 0) (.slice none 0 0) (.slice none 0 0) := ⟨_, rfl⟩
  rw [← hZ] at B0 T0 Q0 ck ZM hln
  clear hZ hw
  obtain ⟨L, hL⟩ : ∃ L, L = mC 10 c s r v wh tg ow b ns vP vN := ⟨_, rfl⟩
  rw [← hL] at B0 T0 Q0 ck hs ⊢
  have HL := hid hL
  clear hL
  go_enter Tryz.func45, Tryz.ntmps45
  go_upto_region 1 with (first | ((with_reducible refine wl_alloc 33 ?_ ?_ Z.toArray ZM ?_); exact rfl; exact rfl))
  generalize (w.alloc (.cells L.toArray 33)).alloc (.cells Z.toArray 33) = W0 at *
  clear hs
  have Q0 : Hid (W0.heap[w.heap.size + 1]? = some (.cells ([] ++ (Z ++ [])).toArray 33)) := row_nilB Q0.out
  generalize hg1 : w.heap.size + 1 = g1 at *
  have hgg : w.heap.size ≠ g1 := by omega
  have hge : w.heap.size ≤ g1 := by omega
  rw [HL.out, mo_who] at T0
  have HW0 := HW
  have WFS1 : Hid ((⟨10, c, s, r, v, 0, tg, ow, b, ns⟩ : Msg).Wf) := (fun h => ⟨h.sub, h.rep, h.tag, h.own, h.blob⟩ : (⟨10, c, s, r, v, wh, tg, ow, b, ns⟩ : Msg).Wf → _) HW.out
  have WFS2 : Hid ((⟨10, c, s, r, [], 0, tg, ow, b, ns⟩ : Msg).Wf) := (fun h => ⟨h.sub, h.rep, h.tag, h.own, h.blob⟩ : (⟨10, c, s, r, v, 0, tg, ow, b, ns⟩ : Msg).Wf → _) WFS1.out
  have WFS3 : Hid ((⟨10, c, s, r, [], 0, zeroD, ow, b, ns⟩ : Msg).Wf) := (fun h => ⟨h.sub, h.rep, rfl, h.own, h.blob⟩ : (⟨10, c, s, r, [], 0, tg, ow, b, ns⟩ : Msg).Wf → _) WFS2.out
  have WFS4 : Hid ((⟨10, c, s, r, [], 0, zeroD, zeroD, b, ns⟩ : Msg).Wf) := (fun h => ⟨h.sub, h.rep, h.tag, rfl, h.blob⟩ : (⟨10, c, s, r, [], 0, zeroD, ow, b, ns⟩ : Msg).Wf → _) WFS3.out
  have ZF : (Tryz.prog.info? 33).map (·.size) = some (mC 10 c s r [] 0 zeroD zeroD b ns vP vN).length := by rw [mC_len WFS4.out]; exact sizeMsg
  have LF : Z.length = (mC 10 c s r [] 0 zeroD zeroD b ns vP vN).length := by rw [mC_len WFS4.out]; exact hln
  clear HW0
  go_wp2_with (first
    | ((with_reducible refine wl_put1 3 (.tmp 34) (.const (nu 0)) ?_ ?_ w.heap.size 174 ?_ ?_ (pre_who 10 c s r v wh tg ow b ns vP vN) (pos_who 10 c s r v wh tg ow b ns vP vN) (nu wh) (nu 0) ?_ 33 T0.out (ln_who 10 c s r v wh tg ow b ns vP vN HW.out) ?_ ?_ ?_); exact rfl; exact rfl; exact rfl; exact rfl; exact rfl; exact rfl; kernel_rfl; intro W1 r1 b1; rw [sh_who 10 c s r v wh tg ow b ns vP vN 0] at r1; have HW : Hid ((⟨10, c, s, r, v, 0, tg, ow, b, ns⟩ : Msg).Wf) := WFS1; rw [mo_view] at r1; have T1 := hid r1; have B1 := hid (b1.below B0.out (Nat.le_refl _)); have Q1 := hid (b1.row Q0.out hgg.symm); clear r1 b1)
    | ((with_reducible refine wl_put1 9 (.tmp 35) (.const (st [])) ?_ ?_ w.heap.size 173 ?_ ?_ (pre_view 10 c s r v 0 tg ow b ns vP vN) (pos_view 10 c s r v 0 tg ow b ns vP vN) (st v) (st []) ?_ 33 T1.out (ln_view 10 c s r v 0 tg ow b ns vP vN HW.out) ?_ ?_ ?_); exact rfl; exact rfl; exact rfl; exact rfl; exact rfl; exact rfl; kernel_rfl; intro W2 r2 b2; rw [sh_view 10 c s r v 0 tg ow b ns vP vN []] at r2; have HW : Hid ((⟨10, c, s, r, [], 0, tg, ow, b, ns⟩ : Msg).Wf) := WFS2; rw [mo_tag] at r2; have T2 := hid r2; have B2 := hid (b2.below B1.out (Nat.le_refl _)); have Q2 := hid (b2.row Q1.out hgg.symm); clear r2 b2)
    | ((with_reducible refine wl_build 23 ?_ ?_ (dg zeroD).toArray (build_dig _) ?_); exact rfl; exact rfl)
    | ((with_reducible refine wl_put 23 (.tmp 37) (.tmp 36) ?_ ?_ w.heap.size 175 ?_ ?_ (pre_tag 10 c s r [] 0 tg ow b ns vP vN) (dg zeroD) (dg tg) (pos_tag 10 c s r [] 0 tg ow b ns vP vN) ?_ 33 T2.out (ln_tag 10 c s r [] 0 tg ow b ns vP vN HW.out) (by rw [dg_len, dg_len, zeroD_len]; exact HW.out.tag) (one_dg _) (by rw [dg_len, zeroD_len]; exact sizeDig) ?_); exact rfl; exact rfl; exact rfl; exact rfl; exact rfl; intro W3 r3 b3; rw [sh_tag 10 c s r [] 0 tg ow b ns vP vN zeroD] at r3; have HW : Hid ((⟨10, c, s, r, [], 0, zeroD, ow, b, ns⟩ : Msg).Wf) := WFS3; rw [mo_own] at r3; have T3 := hid r3; have B3 := hid (b3.below B2.out (Nat.le_refl _)); have Q3 := hid (b3.row Q2.out hgg.symm); clear r3 b3)
    | ((with_reducible refine wl_build 23 ?_ ?_ (dg zeroD).toArray (build_dig _) ?_); exact rfl; exact rfl)
    | ((with_reducible refine wl_put 23 (.tmp 39) (.tmp 38) ?_ ?_ w.heap.size 207 ?_ ?_ (pre_own 10 c s r [] 0 zeroD ow b ns vP vN) (dg zeroD) (dg ow) (pos_own 10 c s r [] 0 zeroD ow b ns vP vN) ?_ 33 T3.out (ln_own 10 c s r [] 0 zeroD ow b ns vP vN HW.out) (by rw [dg_len, dg_len, zeroD_len]; exact HW.out.own) (one_dg _) (by rw [dg_len, zeroD_len]; exact sizeDig) ?_); exact rfl; exact rfl; exact rfl; exact rfl; exact rfl; intro W4 r4 b4; rw [sh_own 10 c s r [] 0 zeroD ow b ns vP vN zeroD] at r4; have HW : Hid ((⟨10, c, s, r, [], 0, zeroD, zeroD, b, ns⟩ : Msg).Wf) := WFS4; have T4 := hid r4; have B4 := hid (b4.below B3.out (Nat.le_refl _)); have Q4 := hid (b4.row Q3.out hgg.symm); have S4 := hid (row_seg (off := 0) (A := []) (cs := mC 10 c s r [] 0 zeroD zeroD b ns vP vN) (C := []) T4.out (by simp) rfl); clear r4 b4)
    | ((with_reducible refine wl_load 33 (.tmp 1) ?_ w.heap.size 0 ?_ ?_ (mC 10 c s r [] 0 zeroD zeroD b ns vP vN) _ S4.out Tryz.underlying33 ?_ ZF ?_); exact rfl; exact rfl; exact rfl; exact rfl)
    | ((with_reducible refine wl_put 33 (.tmp 2) (.tmp 44) ?_ ?_ g1 0 ?_ ?_ [] (mC 10 c s r [] 0 zeroD zeroD b ns vP vN) Z [] ?_ 33 Q4.out rfl LF (mC_one h1 h2) ZF ?_); exact rfl; exact rfl; exact rfl; exact rfl; exact rfl; intro WF rF bF))
  have rG : WF.heap[g1]? = some (.cells (mC 10 c s r [] 0 zeroD zeroD b ns vP vN).toArray 33) := by simpa using rF
  refine bodyPost_ret_by (results_row (fn := Tryz.f45) (p := 2) (ty := 33) (by kernel_rfl) _ _ g1 33 (mC 10 c s r [] 0 zeroD zeroD b ns vP vN).toArray (0, 0) _ rfl rG Tryz.underlying33 rfl (by rw [List.size_toArray]; exact ZF)) rfl ?_
  exact ⟨rfl, bF.below B4.out hge⟩
set_option maxHeartbeats 4000000 in
theorem bare_11 {w : World} {c : Int} {s : Sub} {r : Rep} {v : List UInt8} {wh : Int} {tg ow : List UInt8} {b : Blo} {ns : List Int} {vP vN : Value} (hw : (⟨11, c, s, r, v, wh, tg, ow, b, ns⟩ : Msg).Wf) (h1 : vP.oneCell' = true) (h2 : vN.oneCell' = true) :
    Calls Tryz.prog 45 #[.agg (mC 11 c s r v wh tg ow b ns vP vN).toArray] w fun e w' => e = .returned (.agg (mC 11 c s r v wh tg zeroD b ns vP vN).toArray) ∧ Below w.heap.size w w' := by
  have B0 := hid (below_two (below_a1 w (.cells (mC 11 c s r v wh tg ow b ns vP vN).toArray 33)) (below_a1 _ (.cells (msgC (zeroM 0 0) (.slice none 0 0) (.slice none 0 0)).toArray 33)))
  have T0 := hid (row_kept (top_obj w (.cells (mC 11 c s r v wh tg ow b ns vP vN).toArray 33)) (below_a1 _ (.cells (msgC (zeroM 0 0) (.slice none 0 0) (.slice none 0 0)).toArray 33)))
  have Q0 := hid (top_obj (w.alloc (.cells (mC 11 c s r v wh tg ow b ns vP vN).toArray 33)) (.cells (msgC (zeroM 0 0) (.slice none 0 0) (.slice none 0 0)).toArray 33))
  have ck := mrow_kind T0.out hw
  have ZM := zeroMsg
  have HW := hid hw
  have hs : (w.alloc (.cells (mC 11 c s r v wh tg ow b ns vP vN).toArray 33)).heap.size = w.heap.size + 1 := Array.size_push _
  rw [hs] at Q0
  have hln : (msgC (zeroM 0 0) (.slice none 0 0) (.slice none 0 0)).length = 275 := msgC_len (zeroM_wf 0 0) _ _
  obtain ⟨Z, hZ⟩ : ∃ Z, Z = msgC (zeroM 0 0) (.slice none 0 0) (.slice none 0 0) := ⟨_, rfl⟩
  rw [← hZ] at B0 T0 Q0 ck ZM hln
  clear hZ hw
  obtain ⟨L, hL⟩ : ∃ L, L = mC 11 c s r v wh tg ow b ns vP vN := ⟨_, rfl⟩
  rw [← hL] at B0 T0 Q0 ck hs ⊢
  have HL := hid hL
  clear hL
  go_enter Tryz.func45, Tryz.ntmps45
  go_upto_region 1 with (first | ((with_reducible refine wl_alloc 33 ?_ ?_ Z.toArray ZM ?_); exact rfl; exact rfl))
  generalize (w.alloc (.cells L.toArray 33)).alloc (.cells Z.toArray 33) = W0 at *
  clear hs
  have Q0 : Hid (W0.heap[w.heap.size + 1]? = some (.cells ([] ++ (Z ++ [])).toArray 33)) := row_nilB Q0.out
  generalize hg1 : w.heap.size + 1 = g1 at *
  have hgg : w.heap.size ≠ g1 := by omega
  have hge : w.heap.size ≤ g1 := by omega
  rw [HL.out, mo_own] at T0
  have HW0 := HW
  have WFS1 : Hid ((⟨11, c, s, r, v, wh, tg, zeroD, b, ns⟩ : Msg).Wf) := (fun h => ⟨h.sub, h.rep, h.tag, rfl, h.blob⟩ : (⟨11, c, s, r, v, wh, tg, ow, b, ns⟩ : Msg).Wf → _) HW.out
  have ZF : (Tryz.prog.info? 33).map (·.size) = some (mC 11 c s r v wh tg zeroD b ns vP vN).length := by rw [mC_len WFS1.out]; exact sizeMsg
  have LF : Z.length = (mC 11 c s r v wh tg zeroD b ns vP vN).length := by rw [mC_len WFS1.out]; exact hln
  clear HW0
  go_wp2_with (first
    | ((with_reducible refine wl_build 23 ?_ ?_ (dg zeroD).toArray (build_dig _) ?_); exact rfl; exact rfl)
    | ((with_reducible refine wl_put 23 (.tmp 43) (.tmp 42) ?_ ?_ w.heap.size 207 ?_ ?_ (pre_own 11 c s r v wh tg ow b ns vP vN) (dg zeroD) (dg ow) (pos_own 11 c s r v wh tg ow b ns vP vN) ?_ 33 T0.out (ln_own 11 c s r v wh tg ow b ns vP vN HW.out) (by rw [dg_len, dg_len, zeroD_len]; exact HW.out.own) (one_dg _) (by rw [dg_len, zeroD_len]; exact sizeDig) ?_); exact rfl; exact rfl; exact rfl; exact rfl; exact rfl; intro W1 r1 b1; rw [sh_own 11 c s r v wh tg ow b ns vP vN zeroD] at r1; have HW : Hid ((⟨11, c, s, r, v, wh, tg, zeroD, b, ns⟩ : Msg).Wf) := WFS1; have T1 := hid r1; have B1 := hid (b1.below B0.out (Nat.le_refl _)); have Q1 := hid (b1.row Q0.out hgg.symm); have S1 := hid (row_seg (off := 0) (A := []) (cs := mC 11 c s r v wh tg zeroD b ns vP vN) (C := []) T1.out (by simp) rfl); clear r1 b1)
    | ((with_reducible refine wl_load 33 (.tmp 1) ?_ w.heap.size 0 ?_ ?_ (mC 11 c s r v wh tg zeroD b ns vP vN) _ S1.out Tryz.underlying33 ?_ ZF ?_); exact rfl; exact rfl; exact rfl; exact rfl)
    | ((with_reducible refine wl_put 33 (.tmp 2) (.tmp 44) ?_ ?_ g1 0 ?_ ?_ [] (mC 11 c s r v wh tg zeroD b ns vP vN) Z [] ?_ 33 Q1.out rfl LF (mC_one h1 h2) ZF ?_); exact rfl; exact rfl; exact rfl; exact rfl; exact rfl; intro WF rF bF))
  have rG : WF.heap[g1]? = some (.cells (mC 11 c s r v wh tg zeroD b ns vP vN).toArray 33) := by simpa using rF
  refine bodyPost_ret_by (results_row (fn := Tryz.f45) (p := 2) (ty := 33) (by kernel_rfl) _ _ g1 33 (mC 11 c s r v wh tg zeroD b ns vP vN).toArray (0, 0) _ rfl rG Tryz.underlying33 rfl (by rw [List.size_toArray]; exact ZF)) rfl ?_
  exact ⟨rfl, bF.below B1.out hge⟩
set_option maxHeartbeats 4000000 in
theorem bare_d {w : World} {k : Int} {c : Int} {s : Sub} {r : Rep} {v : List UInt8} {wh : Int} {tg ow : List UInt8} {b : Blo} {ns : List Int} {vP vN : Value} (hw : (⟨k, c, s, r, v, wh, tg, ow, b, ns⟩ : Msg).Wf) (h1 : vP.oneCell' = true) (h2 : vN.oneCell' = true) (hd : ∀ j : Int, 1 ≤ j → j ≤ 11 → j ≠ 9 → k ≠ j) (hi : I64 wh) :
    Calls Tryz.prog 45 #[.agg (mC k c s r v wh tg ow b ns vP vN).toArray] w fun e w' => e = .returned (.agg (mC k c s r v wh tg ow b ns vP vN).toArray) ∧ Below w.heap.size w w' := by
  have B0 := hid (below_two (below_a1 w (.cells (mC k c s r v wh tg ow b ns vP vN).toArray 33)) (below_a1 _ (.cells (msgC (zeroM 0 0) (.slice none 0 0) (.slice none 0 0)).toArray 33)))
  have T0 := hid (row_kept (top_obj w (.cells (mC k c s r v wh tg ow b ns vP vN).toArray 33)) (below_a1 _ (.cells (msgC (zeroM 0 0) (.slice none 0 0) (.slice none 0 0)).toArray 33)))
  have Q0 := hid (top_obj (w.alloc (.cells (mC k c s r v wh tg ow b ns vP vN).toArray 33)) (.cells (msgC (zeroM 0 0) (.slice none 0 0) (.slice none 0 0)).toArray 33))
  have ck := mrow_kind T0.out hw
  have cw := mrow_who T0.out hw
  have ZM := zeroMsg
  have HW := hid hw
  have hs : (w.alloc (.cells (mC k c s r v wh tg ow b ns vP vN).toArray 33)).heap.size = w.heap.size + 1 := Array.size_push _
  rw [hs] at Q0
  have hln : (msgC (zeroM 0 0) (.slice none 0 0) (.slice none 0 0)).length = 275 := msgC_len (zeroM_wf 0 0) _ _
  obtain ⟨Z, hZ⟩ : ∃ Z, Z = msgC (zeroM 0 0) (.slice none 0 0) (.slice none 0 0) := ⟨_, rfl⟩
  rw [← hZ] at B0 T0 Q0 ck cw ZM hln
  clear hZ hw
  obtain ⟨L, hL⟩ : ∃ L, L = mC k c s r v wh tg ow b ns vP vN := ⟨_, rfl⟩
  rw [← hL] at B0 T0 Q0 ck hs cw ⊢
  have HL := hid hL
  clear hL
  have d1 : (k == 1) = false := beq_false_of_ne (hd 1 (by decide) (by decide) (by decide))
  have d2 : (k == 2) = false := beq_false_of_ne (hd 2 (by decide) (by decide) (by decide))
  have d3 : (k == 3) = false := beq_false_of_ne (hd 3 (by decide) (by decide) (by decide))
  have d4 : (k == 4) = false := beq_false_of_ne (hd 4 (by decide) (by decide) (by decide))
  have d6 : (k == 6) = false := beq_false_of_ne (hd 6 (by decide) (by decide) (by decide))
  have d5 : (k == 5) = false := beq_false_of_ne (hd 5 (by decide) (by decide) (by decide))
  have d7 : (k == 7) = false := beq_false_of_ne (hd 7 (by decide) (by decide) (by decide))
  have d8 : (k == 8) = false := beq_false_of_ne (hd 8 (by decide) (by decide) (by decide))
  have d10 : (k == 10) = false := beq_false_of_ne (hd 10 (by decide) (by decide) (by decide))
  have d11 : (k == 11) = false := beq_false_of_ne (hd 11 (by decide) (by decide) (by decide))
  clear hd
  go_enter Tryz.func45, Tryz.ntmps45
  go_upto_region 1 with (first | ((with_reducible refine wl_alloc 33 ?_ ?_ Z.toArray ZM ?_); exact rfl; exact rfl))
  generalize (w.alloc (.cells L.toArray 33)).alloc (.cells Z.toArray 33) = W0 at *
  clear hs
  have Q0 : Hid (W0.heap[w.heap.size + 1]? = some (.cells ([] ++ (Z ++ [])).toArray 33)) := row_nilB Q0.out
  generalize hg1 : w.heap.size + 1 = g1 at *
  have hgg : w.heap.size ≠ g1 := by omega
  have hge : w.heap.size ≤ g1 := by omega
  rw [HL.out, mo_who] at T0
  have HW0 := HW
  have WFS1 : Hid ((⟨k, c, s, r, v, wh, tg, ow, b, ns⟩ : Msg).Wf) := (fun h => ⟨h.sub, h.rep, h.tag, h.own, h.blob⟩ : (⟨k, c, s, r, v, wh, tg, ow, b, ns⟩ : Msg).Wf → _) HW.out
  have ZF : (Tryz.prog.info? 33).map (·.size) = some (mC k c s r v wh tg ow b ns vP vN).length := by rw [mC_len WFS1.out]; exact sizeMsg
  have LF : Z.length = (mC k c s r v wh tg ow b ns vP vN).length := by rw [mC_len WFS1.out]; exact hln
  clear HW0
  have hwr : wrap64 wh = wh := IntWalk.wrap64_in wh hi
  go_wp2_with (first
    | ((with_reducible refine wl_put1 3 (.tmp 8) (.tmp 7) ?_ ?_ w.heap.size 174 ?_ ?_ (pre_who k c s r v wh tg ow b ns vP vN) (pos_who k c s r v wh tg ow b ns vP vN) (nu wh) (nu wh) ?_ 33 T0.out (ln_who k c s r v wh tg ow b ns vP vN HW.out) ?_ ?_ ?_); exact rfl; exact rfl; exact rfl; exact rfl; exact rfl; exact rfl; kernel_rfl; intro W1 r1 b1; rw [sh_who k c s r v wh tg ow b ns vP vN wh] at r1; have HW : Hid ((⟨k, c, s, r, v, wh, tg, ow, b, ns⟩ : Msg).Wf) := WFS1; have T1 := hid r1; have B1 := hid (b1.below B0.out (Nat.le_refl _)); have Q1 := hid (b1.row Q0.out hgg.symm); have S1 := hid (row_seg (off := 0) (A := []) (cs := mC k c s r v wh tg ow b ns vP vN) (C := []) T1.out (by simp) rfl); clear r1 b1)
    | ((with_reducible refine wl_put1 3 (.tmp 8) (.tmp 7) ?_ ?_ w.heap.size 174 ?_ ?_ (pre_who k c s r v wh tg ow b ns vP vN) (pos_who k c s r v wh tg ow b ns vP vN) (nu wh) (nu (wrap64 wh)) ?_ 33 T0.out (ln_who k c s r v wh tg ow b ns vP vN HW.out) ?_ ?_ ?_); exact rfl; exact rfl; exact rfl; exact rfl; exact rfl; exact rfl; kernel_rfl; intro W1 r1 b1; rw [hwr] at r1; rw [sh_who k c s r v wh tg ow b ns vP vN wh] at r1; have HW : Hid ((⟨k, c, s, r, v, wh, tg, ow, b, ns⟩ : Msg).Wf) := WFS1; have T1 := hid r1; have B1 := hid (b1.below B0.out (Nat.le_refl _)); have Q1 := hid (b1.row Q0.out hgg.symm); have S1 := hid (row_seg (off := 0) (A := []) (cs := mC k c s r v wh tg ow b ns vP vN) (C := []) T1.out (by simp) rfl); clear r1 b1)
    | ((with_reducible refine wl_load 33 (.tmp 1) ?_ w.heap.size 0 ?_ ?_ (mC k c s r v wh tg ow b ns vP vN) _ S1.out Tryz.underlying33 ?_ ZF ?_); exact rfl; exact rfl; exact rfl; exact rfl)
    | ((with_reducible refine wl_put 33 (.tmp 2) (.tmp 44) ?_ ?_ g1 0 ?_ ?_ [] (mC k c s r v wh tg ow b ns vP vN) Z [] ?_ 33 Q1.out rfl LF (mC_one h1 h2) ZF ?_); exact rfl; exact rfl; exact rfl; exact rfl; exact rfl; intro WF rF bF))
  have rG : WF.heap[g1]? = some (.cells (mC k c s r v wh tg ow b ns vP vN).toArray 33) := by simpa using rF
  refine bodyPost_ret_by (results_row (fn := Tryz.f45) (p := 2) (ty := 33) (by kernel_rfl) _ _ g1 33 (mC k c s r v wh tg ow b ns vP vN).toArray (0, 0) _ rfl rG Tryz.underlying33 rfl (by rw [List.size_toArray]; exact ZF)) rfl ?_
  exact ⟨by rw [HL.out], bF.below B1.out hge⟩
theorem rbare_any {w : World} {m : Msg} {vP vN : Value} (hw : m.Wf) (hi : I64 m.who) (h1 : vP.oneCell' = true) (h2 : vN.oneCell' = true) : Calls Tryz.prog 45 #[.agg (msgC m vP vN).toArray] w fun e w' => e = .returned (.agg (msgC (bareM m) (bareP m vP) (bareN m vN)).toArray) ∧ Below w.heap.size w w' := by
  obtain ⟨k, c, s, r, v, wh, tg, ow, b, ns⟩ := m
  unfold bareM bareP bareN
  simp only
  by_cases e1 : k = 1
  · subst e1
    exact bare_1 hw h1 h2
  by_cases e2 : k = 2
  · subst e2
    exact bare_2 hw h1 h2
  by_cases e3 : k = 3
  · subst e3
    exact bare_3 hw h1 h2
  by_cases e4 : k = 4
  · subst e4
    exact bare_4 hw h1 h2
  by_cases e6 : k = 6
  · subst e6
    exact bare_6 hw h1 h2
  by_cases e5 : k = 5
  · subst e5
    exact bare_5 hw h1 h2
  by_cases e7 : k = 7
  · subst e7
    exact bare_7 hw h1 h2
  by_cases e8 : k = 8
  · subst e8
    exact bare_8 hw h1 h2
  by_cases e10 : k = 10
  · subst e10
    exact bare_10 hw h1 h2
  by_cases e11 : k = 11
  · subst e11
    exact bare_11 hw h1 h2
  rw [if_neg e1, if_neg e2, if_neg e3, if_neg (by omega), if_neg (by omega), if_neg e10, if_neg e11, if_neg e2, if_neg (by omega)]
  exact bare_d hw h1 h2 (fun j h3 h4 h5 e => by omega) hi
end Go.Proofs.YtidlgecognedlaaGreatDoor.Ms

/-
  What the reference's Right answers of a history.
-/
namespace Go.Proofs.YtidlgecognedlaaGreatDoor.Hist
open Go Go.RowKit
set_option maxRecDepth 100000

theorem gt_sub (x : Nat) (n : Int) (b : Bool) (h : decide (n ≤ (x : Int)) = b) : decide (n - 1 < (x : Int)) = b := by
  rw [← h]
  by_cases e : n ≤ (x : Int)
  · rw [decide_eq_true e, decide_eq_true (by omega)]
  · rw [decide_eq_false e, decide_eq_false (by omega)]
set_option maxHeartbeats 2000000 in
theorem rright_any (h : List UInt8) (n : Int) (w : World) : Calls Tryz.prog 48 #[.string ⟨h.toArray⟩, .int .i64 n] w fun e w' => e = .returned (.bool (rightB h n)) ∧ w' = w := by
  have hss : (⟨h.toArray⟩ : ByteArray).size = h.length := rfl
  by_cases h1 : n < 1
  · rw [right_false1 h n h1]
    have d1 : decide (n < 1) = true := decide_eq_true h1
    go_enter Tryz.func48, Tryz.ntmps48
    go_wp2
    go_ret
    exact ⟨rfl, rfl⟩
  by_cases h2 : 256 < n
  · rw [right_false2 h n h2]
    have d1 : decide (n < 1) = false := decide_eq_false h1
    have d2 : decide (256 < n) = true := decide_eq_true h2
    clear h1 h2
    go_enter Tryz.func48, Tryz.ntmps48
    go_wp2
    go_ret
    exact ⟨rfl, rfl⟩
  by_cases h3 : 512 < h.length
  · rw [right_false3 h n h3]
    have d1 : decide (n < 1) = false := decide_eq_false h1
    have d2 : decide (256 < n) = false := decide_eq_false h2
    have d3 : decide ((512 : Int) < (h.length : Int)) = true := by simp; omega
    clear h1 h2 h3
    go_enter Tryz.func48, Tryz.ntmps48
    go_wp2
    go_ret
    exact ⟨rfl, rfl⟩
  have d1 : decide (n < 1) = false := decide_eq_false h1
  have d2 : decide (256 < n) = false := decide_eq_false h2
  have d3 : decide ((512 : Int) < (h.length : Int)) = false := by simp; omega
  have HR := hid (right_true h n h1 h2 h3)
  have hn1 : 1 ≤ n ∧ n ≤ 256 := by omega
  have h3' : h.length ≤ 512 := by omega
  clear h1 h2 h3
  go_enter Tryz.func48, Tryz.ntmps48
  go_wp2
  go_loopw [5] (fun i w' => ∃ j : Nat, j ≤ h.length ∧ i = .int .i64 j ∧ Hid (∀ k, k < j → bv (h.getD k 0) < n) ∧ w' = w) (fun i _ => h.length - (intOf i).toNat)
  case atStart => exact ⟨0, by omega, rfl, fun k hk => absurd hk (Nat.not_lt_zero k), rfl⟩
  case round =>
    obtain ⟨j, hj, rfl, HN, hw⟩ := hrel
    subst wr
    by_cases hlt : j < h.length
    · have e1 : decide ((j : Int) < (h.length : Int)) = true := by simp; omega
      have hq : ((⟨h.toArray⟩ : ByteArray)[j]'(by rw [hss]; exact hlt)).toNat = (h.getD j 0).toNat := getD_byte h j _
      have hx : bv (h.getD j 0) = ((h.getD j 0).toNat : Int) := rfl
      have hx2 : (h.getD j 0).toNat < 256 := (h.getD j 0).toNat_lt
      by_cases he : n ≤ bv (h.getD j 0)
      · have HP := hid (right_false4 h n j hlt he)
        have d4 : decide (n - 1 < ((h.getD j 0).toNat : Int)) = true := gt_sub _ n _ (decide_eq_true (by rw [← hx]; exact he))
        generalize (h.getD j 0).toNat = x at *
        clear he hx HR HN
        go_wp2
        go_ret
        exact ⟨by rw [HP.out]; rfl, rfl⟩
      · have HN' : Hid (∀ k, k < j + 1 → bv (h.getD k 0) < n) := fun k hk => by
          by_cases e : k = j
          · rw [e]; omega
          · exact HN.out k (by omega)
        have d4 : decide (n - 1 < ((h.getD j 0).toNat : Int)) = false := gt_sub _ n _ (decide_eq_false (by rw [← hx]; exact he))
        generalize (h.getD j 0).toNat = x at *
        clear he hx HR HN
        go_wp2
        exact ⟨⟨j + 1, by omega, by go_num, HN'.out, trivial⟩, by simp [intOf]; omega⟩
    · obtain rfl : j = h.length := by omega
      have HP := hid (HR.out HN.out)
      clear HR HN
      go_wp2
      go_ret
      exact ⟨by rw [HP.out]; rfl, rfl⟩

end Go.Proofs.YtidlgecognedlaaGreatDoor.Hist

/-
  Which messages may be: what the reference answers (R10.Right).
-/
namespace Go.Proofs.YtidlgecognedlaaGreatDoor.Ms
open Go Go.RowKit
set_option maxRecDepth 100000

section
variable {P : Program} {ops : Array Oper} {C : World → Prop} {Q : Act → Prop} {a : Act} {o : Oper} {rest : List Oper}
theorem wq_buildL (ty : TypeId) (l : List (Nat × Operand)) (ho : o.op = .build ty l.toArray) (hw : Region.wanted o (yielded ops a.tmps) = true) (z : Array Value) (hr : ∀ w, (Instr.build ty (l.map fun x => (x.1, a.eval x.2)).toArray).run P w = .ok (.agg z) w)
    (h : wpQuiet P ops C Q rest (a.put o.dst (.agg z))) : wpQuiet P ops C Q (o :: rest) a := by
  unfold wpQuiet
  rw [if_pos hw]
  refine ⟨.agg z, fun w hC => ?_, h⟩
  have hr' := hr w
  unfold Oper.quietAt execOp
  simp only [ho, List.map_toArray, Sem.run_bind, hr', Result.andThen_ok, Sem.run_pure, Oper.quietUpon]
  first | exact ⟨rfl, hC⟩ | exact hC | trivial | simp
end
theorem bareM_rep {m : Msg} (h : m.kind ≠ 2) : (bareM m).rep = m.rep := by
  unfold bareM
  repeat' split
  all_goals first | rfl | contradiction
theorem bareM_nums {m : Msg} (h : ¬ (m.kind = 5 ∨ m.kind = 7 ∨ m.kind = 8)) : (bareM m).nums = m.nums := by
  unfold bareM
  repeat' split
  all_goals first | rfl | contradiction
theorem bareM_two {m : Msg} (h : m.kind = 2) : (bareM m).rep = zeroR := by unfold bareM; rw [if_neg (by omega), if_pos h]
theorem bareM_list {m : Msg} (h : m.kind = 5 ∨ m.kind = 7 ∨ m.kind = 8) : (bareM m).nums = [] := by unfold bareM; rw [if_neg (by omega), if_neg (by omega), if_neg (by omega), if_neg (by omega), if_pos h]
theorem bareM_wf {m : Msg} (h : m.Wf) : (bareM m).Wf := by
  unfold bareM
  split
  · exact ⟨wfZeroS, h.rep, h.tag, h.own, h.blob⟩
  · split
    · exact ⟨h.sub, wfZeroR, h.tag, h.own, h.blob⟩
    · split
      · exact ⟨h.sub, h.rep, rfl, h.own, h.blob⟩
      · split
        · exact ⟨h.sub, h.rep, h.tag, h.own, wfZeroB⟩
        · split
          · exact ⟨h.sub, h.rep, h.tag, h.own, h.blob⟩
          · split
            · exact ⟨h.sub, h.rep, rfl, rfl, h.blob⟩
            · split
              · exact ⟨h.sub, h.rep, h.tag, rfl, h.blob⟩
              · exact h
theorem bare_pens {w : World} {m : Msg} {vP : Value} (h : PensAt w vP m.rep.pend) : PensAt w (bareP m vP) (bareM m).rep.pend := by
  unfold bareP
  by_cases e : m.kind = 2
  · rw [if_pos e, bareM_two e]
    exact PensAt.nil w
  · rw [if_neg e, bareM_rep e]
    exact h
theorem bare_ints {w : World} {m : Msg} {vN : Value} (h : IntsAt w vN m.nums) : IntsAt w (bareN m vN) (bareM m).nums := by
  unfold bareN
  by_cases e : m.kind = 5 ∨ m.kind = 7 ∨ m.kind = 8
  · rw [if_pos e, bareM_list e]
    exact IntsAt.nil w
  · rw [if_neg e, bareM_nums e]
    exact h
theorem bare_lens {m : Msg} (h : Lens m) : Lens (bareM m) := by
  refine ⟨?_, ?_⟩
  · by_cases e : m.kind = 2
    · rw [bareM_two e]; exact Nat.zero_le _
    · rw [bareM_rep e]; exact h.1
  · by_cases e : m.kind = 5 ∨ m.kind = 7 ∨ m.kind = 8
    · rw [bareM_list e]; exact Nat.zero_le _
    · rw [bareM_nums e]; exact h.2
theorem onePens {w : World} {v : Value} {l : List Pen} (h : PensAt w v l) : v.oneCell' = true := by obtain ⟨a, c, rfl, -⟩ := h; rfl
theorem oneInts {w : World} {v : Value} {l : List Int} (h : IntsAt w v l) : v.oneCell' = true := by obtain ⟨a, c, rfl, -⟩ := h; rfl
theorem rgtOk : RgtOk := fun h n w => Hist.rright_any h n w

set_option maxHeartbeats 16000000 in
theorem rrm_any {w : World} {m : Msg} {vP vN : Value} (hw : m.Wf) (hi : I64 m.who) (hp : PensAt w vP m.rep.pend) (hn : IntsAt w vN m.nums) (hl : Lens m) :
    Calls Tryz.prog 11 #[.agg (msgC m vP vN).toArray] w fun e w' => e = .returned (.bool (rightM m)) ∧ Below w.heap.size w w' := by
  have HB0 := hid (below_a1 w (.cells (msgC m vP vN).toArray 33))
  have R0 := hid (top_obj w (.cells (msgC m vP vN).toArray 33))
  have K1 : Hid (∀ dd os, Calls Tryz.prog 43 #[nu m.kind, nu 1, nu 11] (Sort.grow (redrawn (w.alloc (.cells (msgC m vP vN).toArray 33)) dd) os) fun e w'' => e = .returned (.bool (inB m.kind 1 11)) ∧ ∃ p : Regrown, w'' = Sort.grow (redrawn (w.alloc (.cells (msgC m vP vN).toArray 33)) p.d) p.os) := fun dd os => Calls.regrown_of ((within_any m.kind 1 11 _).mono (fun _ _ h => ⟨h.1, by rw [h.2]; exact Below.refl _ _⟩))
  have K2 : Hid (∀ dd os, Calls Tryz.prog 43 #[nu m.client, nu 0, nu 7] (Sort.grow (redrawn (w.alloc (.cells (msgC m vP vN).toArray 33)) dd) os) fun e w'' => e = .returned (.bool (inB m.client 0 7)) ∧ ∃ p : Regrown, w'' = Sort.grow (redrawn (w.alloc (.cells (msgC m vP vN).toArray 33)) p.d) p.os) := fun dd os => Calls.regrown_of ((within_any m.client 0 7 _).mono (fun _ _ h => ⟨h.1, by rw [h.2]; exact Below.refl _ _⟩))
  have K3 : Hid (∀ dd os, Calls Tryz.prog 45 #[.agg (msgC m vP vN).toArray] (Sort.grow (redrawn (w.alloc (.cells (msgC m vP vN).toArray 33)) dd) os) fun e w'' => e = .returned (.agg (msgC (bareM m) (bareP m vP) (bareN m vN)).toArray) ∧ ∃ p : Regrown, w'' = Sort.grow (redrawn (w.alloc (.cells (msgC m vP vN).toArray 33)) p.d) p.os) := fun dd os => Calls.regrown_of (rbare_any hw hi (onePens hp) (oneInts hn))
  have K4 : Hid (∀ dd os, Calls Tryz.prog 44 #[.agg (msgC (bareM m) (bareP m vP) (bareN m vN)).toArray, .agg (msgC (zeroM m.kind m.client) (.slice none 0 0) (.slice none 0 0)).toArray] (Sort.grow (redrawn (w.alloc (.cells (msgC m vP vN).toArray 33)) dd) os) fun e w'' => e = .returned (.bool (sameM (bareM m) (zeroM m.kind m.client))) ∧ ∃ p : Regrown, w'' = Sort.grow (redrawn (w.alloc (.cells (msgC m vP vN).toArray 33)) p.d) p.os) := fun dd os => Calls.regrown_of (same_any (bareM_wf hw) (zeroM_wf m.kind m.client) (bare_pens (hp.kept (below_two HB0.out (below_regrown _ dd os)))) (PensAt.nil _) (bare_ints (hn.kept (below_two HB0.out (below_regrown _ dd os)))) (IntsAt.nil _) (bare_lens hl).1 (bare_lens hl).2)
  have p0 : ∀ dd os, (Sort.grow (redrawn (w.alloc (.cells (msgC m vP vN).toArray 33)) dd) os).cell? ⟨w.heap.size, 0, none⟩ = some (nu m.kind) := fun dd os => cell_regrown (mrow_kind R0.out hw) _ _
  have p1 : ∀ dd os, (Sort.grow (redrawn (w.alloc (.cells (msgC m vP vN).toArray 33)) dd) os).cell? ⟨w.heap.size, 1, none⟩ = some (nu m.client) := fun dd os => cell_regrown (mrow_client R0.out hw) _ _
  have HPw := hid (hp.kept HB0.out)
  have HNw := hid (hn.kept HB0.out)
  have HL := hid hl
  have HW := hid hw
  have Z0 : (Tryz.prog.info? 33).map (·.size) = some (msgC m vP vN).length := by rw [msgC_len hw]; exact sizeMsg
  have SV : Hid (∀ w' : World, (∃ p : Regrown, w' = Sort.grow (redrawn (w.alloc (.cells (msgC m vP vN).toArray 33)) p.d) p.os) → ∀ j v, (msgC m vP vN)[j]? = some v → w'.cell? ⟨w.heap.size, 0 + j, none⟩ = some v) := by
    rintro _ ⟨p, rfl⟩ j v hj
    exact cell_regrown (row_seg (off := 0) (A := []) (cs := msgC m vP vN) (C := []) R0.out (by simp) rfl j v hj) _ _
  have BM := hid (fun W => build_msg W m.kind m.client)
  have HRM : Hid (rightM m = (inB m.kind 1 11 && (inB m.client 0 7 && (sameM (bareM m) (zeroM m.kind m.client) && refParts m)))) := rfl
  have HRP : Hid (refParts m = refParts m) := rfl
  obtain ⟨BB, hBB⟩ : ∃ BB, BB = rightM m := ⟨_, rfl⟩
  rw [← hBB] at HRM ⊢
  clear hBB hp hn hl hw hi HRP
  have HRow : Hid (∀ W, Below (w.alloc (.cells (msgC m vP vN).toArray 33)).heap.size (w.alloc (.cells (msgC m vP vN).toArray 33)) W → W.heap[w.heap.size]? = some (.cells (msgC m vP vN).toArray 33)) := fun W hb => row_kept R0.out hb
  obtain ⟨RP, hRP⟩ : ∃ RP, RP = refParts m := ⟨_, rfl⟩
  rw [← hRP] at HRM
  have HRP := hid hRP
  clear hRP R0
  have hVV : ∀ (L : List Value), L = msgC m vP vN → True := fun _ _ => trivial
  clear hVV
  obtain ⟨k, hk⟩ : ∃ k, k = m.kind := ⟨_, rfl⟩
  obtain ⟨c, hc⟩ : ∃ c, c = m.client := ⟨_, rfl⟩
  obtain ⟨b3, hb3⟩ : ∃ b3, b3 = sameM (bareM m) (zeroM m.kind m.client) := ⟨_, rfl⟩
  rw [← hb3] at K4 HRM
  clear hb3
  obtain ⟨BV, hBV⟩ : ∃ BV, BV = (msgC (bareM m) (bareP m vP) (bareN m vN)).toArray := ⟨_, rfl⟩
  rw [← hBV] at K3 K4
  clear hBV
  obtain ⟨ZV, hZV⟩ : ∃ ZV, ZV = (msgC (zeroM m.kind m.client) (.slice none 0 0) (.slice none 0 0)).toArray := ⟨_, rfl⟩
  rw [← hZV] at K4 BM
  clear hZV
  rw [← hk, ← hc] at HRM
  rw [← hc] at K2
  rw [← hk] at K1 p0
  rw [← hc] at p1
  rw [← hk, ← hc] at BM
  have HK := hid hk
  have HCL := hid hc
  clear hk hc
  generalize inB k 1 11 = b1 at *
  generalize inB c 0 7 = b2 at *
  have hbg : Hid (∀ dq osq, Below (w.alloc (.cells (msgC m vP vN).toArray 33)).heap.size (w.alloc (.cells (msgC m vP vN).toArray 33)) (Sort.grow (redrawn (w.alloc (.cells (msgC m vP vN).toArray 33)) dq) osq)) := fun dq osq => below_regrown _ dq osq
  obtain ⟨V, hV⟩ : ∃ V, V = msgC m vP vN := ⟨_, rfl⟩
  rw [← hV] at HB0 K1 K2 K3 K4 p0 p1 HPw HNw Z0 SV HRow hbg ⊢
  have HV := hid hV
  clear hV
  go_enter Tryz.func11, Tryz.ntmps11
  go_upto_region 1 with fail
  generalize w.alloc (.cells V.toArray 33) = W0 at *
  generalize hg0 : w.heap.size = g0 at *
  have HG0 := hid hg0
  clear hg0
  cases b1 with
  | false => as_aux_lemma =>
    have HF : Hid (BB = false) := by show _ = _; rw [HRM.out]; simp
    refine wp_region_quiet_below (by kernel_rfl) (by kernel_rfl) ?_
    iterate 2 (first | go_big_quiet_step (fail) | quiet_step (fail))
    (first | go_big_quiet_step (exact K1.out _ _) | quiet_step (exact K1.out _ _))
    iterate 18 (first | go_big_quiet_step (fail) | quiet_step (fail))
    refine wpQuiet_nil ?_
    intro _ hw'
    obtain ⟨⟨dq, osq⟩, hw''⟩ := hw'
    subst hw''
    have HB1 := hid (hbg.out dq osq)
    clear p0 p1 K1 K2 K3 K4 SV BM hbg
    generalize Sort.grow (redrawn W0 dq) osq = W1 at *
    have HBw : Hid (Below w.heap.size w W1) := by
      have h1 := HB0.out
      have h2 := HB1.out
      rw [← HG0.out] at *
      exact below_two h1 h2
    go_wp2
    go_ret
    exact ⟨by rw [HF.out]; rfl, HBw.out⟩
  | true =>
    cases b2 with
    | false => as_aux_lemma =>
      have HF : Hid (BB = false) := by show _ = _; rw [HRM.out]; simp
      refine wp_region_quiet_below (by kernel_rfl) (by kernel_rfl) ?_
      iterate 2 (first | go_big_quiet_step (fail) | quiet_step (fail))
      (first | go_big_quiet_step (exact K1.out _ _) | quiet_step (exact K1.out _ _))
      iterate 4 (first | go_big_quiet_step (fail) | quiet_step (fail))
      (first | go_big_quiet_step (exact K2.out _ _) | quiet_step (exact K2.out _ _))
      iterate 13 (first | go_big_quiet_step (fail) | quiet_step (fail))
      refine wpQuiet_nil ?_
      intro _ hw'
      obtain ⟨⟨dq, osq⟩, hw''⟩ := hw'
      subst hw''
      have HB1 := hid (hbg.out dq osq)
      clear p0 p1 K1 K2 K3 K4 SV BM hbg
      generalize Sort.grow (redrawn W0 dq) osq = W1 at *
      have HBw : Hid (Below w.heap.size w W1) := by
        have h1 := HB0.out
        have h2 := HB1.out
        rw [← HG0.out] at *
        exact below_two h1 h2
      go_wp2
      go_ret
      exact ⟨by rw [HF.out]; rfl, HBw.out⟩
    | true =>
      cases b3 with
      | false => as_aux_lemma =>
        have HF : Hid (BB = false) := by show _ = _; rw [HRM.out]; simp
        refine wp_region_quiet_below (by kernel_rfl) (by kernel_rfl) ?_
        iterate 2 (first | go_big_quiet_step (fail) | quiet_step (fail))
        (first | go_big_quiet_step (exact K1.out _ _) | quiet_step (exact K1.out _ _))
        iterate 4 (first | go_big_quiet_step (fail) | quiet_step (fail))
        (first | go_big_quiet_step (exact K2.out _ _) | quiet_step (exact K2.out _ _))
        iterate 3 (first | go_big_quiet_step (fail) | quiet_step (fail))
        refine wq_load 33 (.tmp 1) rfl g0 0 rfl rfl V _ (fun w' hw' => SV.out w' hw') Tryz.underlying33 rfl Z0 ?_
        simp only [Act.put, List.setIfInBounds_toArray, List.set_cons_zero, List.set_cons_succ]
        (first | go_big_quiet_step (exact K3.out _ _) | quiet_step (exact K3.out _ _))
        iterate 4 (first | go_big_quiet_step (fail) | quiet_step (fail))
        refine wq_buildL 33 [(0, .tmp 17), (1, .tmp 19)] rfl rfl ZV (fun W => BM.out W) ?_
        simp only [Act.put, List.setIfInBounds_toArray, List.set_cons_zero, List.set_cons_succ]
        (first | go_big_quiet_step (exact K4.out _ _) | quiet_step (exact K4.out _ _))
        iterate 2 (first | go_big_quiet_step (fail) | quiet_step (fail))
        refine wpQuiet_nil ?_
        intro _ hw'
        obtain ⟨⟨dq, osq⟩, hw''⟩ := hw'
        subst hw''
        have HB1 := hid (hbg.out dq osq)
        clear p0 p1 K1 K2 K3 K4 SV BM hbg
        generalize Sort.grow (redrawn W0 dq) osq = W1 at *
        have HBw : Hid (Below w.heap.size w W1) := by
          have h1 := HB0.out
          have h2 := HB1.out
          rw [← HG0.out] at *
          exact below_two h1 h2
        go_wp2
        go_ret
        exact ⟨by rw [HF.out]; rfl, HBw.out⟩
      | true =>
        have HA : Hid (BB = RP) := by show _ = _; rw [HRM.out]; simp
        clear HRM
        refine wp_region_quiet_below (by kernel_rfl) (by kernel_rfl) ?_
        iterate 2 (first | go_big_quiet_step (fail) | quiet_step (fail))
        (first | go_big_quiet_step (exact K1.out _ _) | quiet_step (exact K1.out _ _))
        iterate 4 (first | go_big_quiet_step (fail) | quiet_step (fail))
        (first | go_big_quiet_step (exact K2.out _ _) | quiet_step (exact K2.out _ _))
        iterate 3 (first | go_big_quiet_step (fail) | quiet_step (fail))
        refine wq_load 33 (.tmp 1) rfl g0 0 rfl rfl V _ (fun w' hw' => SV.out w' hw') Tryz.underlying33 rfl Z0 ?_
        simp only [Act.put, List.setIfInBounds_toArray, List.set_cons_zero, List.set_cons_succ]
        (first | go_big_quiet_step (exact K3.out _ _) | quiet_step (exact K3.out _ _))
        iterate 4 (first | go_big_quiet_step (fail) | quiet_step (fail))
        refine wq_buildL 33 [(0, .tmp 17), (1, .tmp 19)] rfl rfl ZV (fun W => BM.out W) ?_
        simp only [Act.put, List.setIfInBounds_toArray, List.set_cons_zero, List.set_cons_succ]
        (first | go_big_quiet_step (exact K4.out _ _) | quiet_step (exact K4.out _ _))
        iterate 2 (first | go_big_quiet_step (fail) | quiet_step (fail))
        refine wpQuiet_nil ?_
        intro _ hw'
        obtain ⟨⟨dq, osq⟩, hw''⟩ := hw'
        subst hw''
        have HB1 := hid (hbg.out dq osq)
        clear p0 p1 K1 K2 K3 K4 SV BM hbg
        generalize Sort.grow (redrawn W0 dq) osq = W1 at *
        have HBw : Hid (Below w.heap.size w W1) := by
          have h1 := HB0.out
          have h2 := HB1.out
          rw [← HG0.out] at *
          exact below_two h1 h2
        have R1 := hid (HRow.out _ HB1.out)
        rw [HV.out] at R1
        have HP1 := hid (HPw.out.kept HB1.out)
        have HN1 := hid (HNw.out.kept HB1.out)
        have ck := mrow_kind R1.out HW.out
        rw [← HK.out] at ck
        have cc := mrow_client R1.out HW.out
        rw [← HCL.out] at cc
        clear HRow HPw HNw Z0 HB0 HB1 HV
        by_cases e1 : k = 1
        · as_aux_lemma =>
          subst e1
          have HRV : Hid (RP = (asksB m.sub.number m.sub.kind m.sub.target && decide (m.sub.value.length ≤ 256))) := by show _ = _; rw [HRP.out]; unfold refParts; rw [if_pos HK.out.symm]; rfl
          have c1 := mrow_sub_number R1.out HW.out
          have c2 := mrow_sub_kind R1.out HW.out
          have c3 := mrow_sub_target R1.out HW.out
          have c4 := mrow_sub_value R1.out HW.out
          have HAs := hid (asks_any m.sub.number m.sub.kind m.sub.target W1)
          clear HRP HK
          generalize asksB m.sub.number m.sub.kind m.sub.target = bA at *
          generalize m.sub.number = x1 at *
          generalize m.sub.kind = x2 at *
          generalize m.sub.target = x3 at *
          generalize m.sub.value = x4 at *
          clear R1 HP1 HN1 HW HL HCL
          cases bA with
          | false =>
            go_wp2_with fail
            refine HAs.out.mono ?_
            rintro e W2 ⟨rfl, e2⟩
            subst W2
            go_wp2
            go_ret
            exact ⟨by rw [HA.out, HRV.out]; rfl, HBw.out⟩
          | true =>
            go_wp2_with fail
            refine HAs.out.mono ?_
            rintro e W2 ⟨rfl, e2⟩
            subst W2
            go_wp2
            go_ret
            exact ⟨by rw [HA.out, HRV.out]; simp; omega, HBw.out⟩
        by_cases e2 : k = 2
        · as_aux_lemma =>
          subst e2
          have HRV : Hid (RP = ((c == 0) && repB m.rep)) := by show _ = _; rw [HRP.out, HCL.out]; unfold refParts; rw [if_neg (by have := HK.out; omega), if_pos HK.out.symm]
          have SR := hid (mrow_rep R1.out HW.out)
          have ZR : (Tryz.prog.info? 28).map (·.size) = some (repC m.rep vP).length := by rw [repC_len HW.out.rep]; exact sizeRep
          have HRe := hid (rreply_any rgtOk HW.out.rep HP1.out HL.out.1)
          clear HRP HK HCL
          generalize repB m.rep = bA at *
          generalize repC m.rep vP = RC at *
          clear R1 HP1 HN1 HW HL
          cases hc0 : (c == 0) with
          | false =>
            rw [hc0] at HRV
            go_wp2
            go_ret
            exact ⟨by rw [HA.out, HRV.out]; rfl, HBw.out⟩
          | true =>
            rw [hc0] at HRV
            go_wp2_with (first | ((with_reducible refine wl_load 28 (.tmp 51) ?_ g0 70 ?_ ?_ RC _ SR.out Tryz.underlying28 ?_ ZR ?_); exact rfl; exact rfl; exact rfl; exact rfl))
            refine HRe.out.mono ?_
            rintro e W2 ⟨rfl, hb2⟩
            have HB2 := hid (below_two HBw.out hb2)
            clear hb2
            go_wp2
            go_ret
            exact ⟨by rw [HA.out, HRV.out]; rfl, HB2.out⟩
        by_cases e3 : k = 3
        · as_aux_lemma =>
          subst e3
          have HRV : Hid (RP = ((m.view != []) && Hist.rightB m.view 8)) := by show _ = _; rw [HRP.out]; unfold refParts; rw [if_neg (by have := HK.out; omega), if_neg (by have := HK.out; omega), if_pos HK.out.symm]; rfl
          have c1 := mrow_view R1.out HW.out
          have HRi := hid (Hist.rright_any m.view 8 W1)
          clear HRP HK HCL
          generalize Hist.rightB m.view 8 = bA at *
          generalize m.view = x1 at *
          clear R1 HP1 HN1 HW HL
          cases x1 with
          | nil =>
            go_wp2
            go_ret
            exact ⟨by rw [HA.out, HRV.out]; rfl, HBw.out⟩
          | cons y1 y2 =>
            go_wp2_with fail
            refine HRi.out.mono ?_
            rintro e W2 ⟨rfl, e2⟩
            subst W2
            go_wp2
            go_ret
            exact ⟨by rw [HA.out, HRV.out]; rfl, HBw.out⟩
        by_cases e4 : k = 4
        · as_aux_lemma =>
          subst e4
          have HRV : Hid (RP = ((c == 0) && (inB m.blob.owner 0 7 && (inB m.blob.number 0 1099511627776 && decide (m.blob.cipher.length ≤ 4096))))) := by show _ = _; rw [HRP.out, HCL.out]; unfold refParts; rw [if_neg (by have := HK.out; omega), if_neg (by have := HK.out; omega), if_neg (by have := HK.out; omega), if_pos (by have := HK.out; omega)]; rfl
          have c1 := mrow_blob_owner R1.out HW.out
          have c2 := mrow_blob_number R1.out HW.out
          have c3 := mrow_blob_cipher R1.out HW.out
          have HW1 : Hid (Calls Tryz.prog 43 #[nu m.blob.owner, nu 0, nu 7] W1 fun e w' => e = .returned (.bool (inB m.blob.owner 0 7)) ∧ w' = W1) := within_any m.blob.owner 0 7 W1
          have HW2 : Hid (Calls Tryz.prog 43 #[nu m.blob.number, nu 0, nu 1099511627776] W1 fun e w' => e = .returned (.bool (inB m.blob.number 0 1099511627776)) ∧ w' = W1) := within_any m.blob.number 0 1099511627776 W1
          clear HRP HK HCL
          generalize inB m.blob.owner 0 7 = bA at *
          generalize inB m.blob.number 0 1099511627776 = bB at *
          generalize m.blob.owner = x1 at *
          generalize m.blob.number = x2 at *
          generalize m.blob.cipher = x3 at *
          clear R1 HP1 HN1 HW HL
          cases hc0 : (c == 0) with
          | false =>
            rw [hc0] at HRV
            go_wp2
            go_ret
            exact ⟨by rw [HA.out, HRV.out]; rfl, HBw.out⟩
          | true =>
            rw [hc0] at HRV
            cases bA with
            | false =>
              go_wp2_with fail
              refine HW1.out.mono ?_
              rintro e W2 ⟨rfl, e2⟩
              subst W2
              go_wp2
              go_ret
              exact ⟨by rw [HA.out, HRV.out]; rfl, HBw.out⟩
            | true =>
              go_wp2_with fail
              refine HW1.out.mono ?_
              rintro e W2 ⟨rfl, e2⟩
              subst W2
              cases bB with
              | false =>
                go_wp2_with fail
                refine HW2.out.mono ?_
                rintro e W2 ⟨rfl, e2⟩
                subst W2
                go_wp2
                go_ret
                exact ⟨by rw [HA.out, HRV.out]; rfl, HBw.out⟩
              | true =>
                go_wp2_with fail
                refine HW2.out.mono ?_
                rintro e W2 ⟨rfl, e2⟩
                subst W2
                go_wp2
                go_ret
                exact ⟨by rw [HA.out, HRV.out]; simp; omega, HBw.out⟩
        by_cases e6 : k = 6
        · as_aux_lemma =>
          subst e6
          have HRV : Hid (RP = ((c == 0) && (inB m.blob.owner 0 7 && (inB m.blob.number 0 1099511627776 && decide (m.blob.cipher.length ≤ 4096))))) := by show _ = _; rw [HRP.out, HCL.out]; unfold refParts; rw [if_neg (by have := HK.out; omega), if_neg (by have := HK.out; omega), if_neg (by have := HK.out; omega), if_pos (by have := HK.out; omega)]; rfl
          have c1 := mrow_blob_owner R1.out HW.out
          have c2 := mrow_blob_number R1.out HW.out
          have c3 := mrow_blob_cipher R1.out HW.out
          have HW1 : Hid (Calls Tryz.prog 43 #[nu m.blob.owner, nu 0, nu 7] W1 fun e w' => e = .returned (.bool (inB m.blob.owner 0 7)) ∧ w' = W1) := within_any m.blob.owner 0 7 W1
          have HW2 : Hid (Calls Tryz.prog 43 #[nu m.blob.number, nu 0, nu 1099511627776] W1 fun e w' => e = .returned (.bool (inB m.blob.number 0 1099511627776)) ∧ w' = W1) := within_any m.blob.number 0 1099511627776 W1
          clear HRP HK HCL
          generalize inB m.blob.owner 0 7 = bA at *
          generalize inB m.blob.number 0 1099511627776 = bB at *
          generalize m.blob.owner = x1 at *
          generalize m.blob.number = x2 at *
          generalize m.blob.cipher = x3 at *
          clear R1 HP1 HN1 HW HL
          cases hc0 : (c == 0) with
          | false =>
            rw [hc0] at HRV
            go_wp2
            go_ret
            exact ⟨by rw [HA.out, HRV.out]; rfl, HBw.out⟩
          | true =>
            rw [hc0] at HRV
            cases bA with
            | false =>
              go_wp2_with fail
              refine HW1.out.mono ?_
              rintro e W2 ⟨rfl, e2⟩
              subst W2
              go_wp2
              go_ret
              exact ⟨by rw [HA.out, HRV.out]; rfl, HBw.out⟩
            | true =>
              go_wp2_with fail
              refine HW1.out.mono ?_
              rintro e W2 ⟨rfl, e2⟩
              subst W2
              cases bB with
              | false =>
                go_wp2_with fail
                refine HW2.out.mono ?_
                rintro e W2 ⟨rfl, e2⟩
                subst W2
                go_wp2
                go_ret
                exact ⟨by rw [HA.out, HRV.out]; rfl, HBw.out⟩
              | true =>
                go_wp2_with fail
                refine HW2.out.mono ?_
                rintro e W2 ⟨rfl, e2⟩
                subst W2
                go_wp2
                go_ret
                exact ⟨by rw [HA.out, HRV.out]; simp; omega, HBw.out⟩
        by_cases e5 : k = 5
        · as_aux_lemma =>
          subst e5
          have HRV : Hid (RP = numsB m.nums) := by show _ = _; rw [HRP.out]; unfold refParts; rw [if_neg (by have := HK.out; omega), if_neg (by have := HK.out; omega), if_neg (by have := HK.out; omega), if_neg (by have := HK.out; omega), if_pos (by have := HK.out; omega)]
          have c1 := mrow_nums R1.out HW.out
          have HNu := hid (rnums_any HN1.out HL.out.2)
          clear HRP HK HCL
          generalize numsB m.nums = bA at *
          clear R1 HP1 HN1 HW HL
          go_wp2_with fail
          refine HNu.out.mono ?_
          rintro e W2 ⟨rfl, hb2⟩
          have HB2 := hid (below_two HBw.out hb2)
          clear hb2
          go_wp2
          go_ret
          exact ⟨by rw [HA.out, HRV.out]; rfl, HB2.out⟩
        by_cases e7 : k = 7
        · as_aux_lemma =>
          subst e7
          have HRV : Hid (RP = numsB m.nums) := by show _ = _; rw [HRP.out]; unfold refParts; rw [if_neg (by have := HK.out; omega), if_neg (by have := HK.out; omega), if_neg (by have := HK.out; omega), if_neg (by have := HK.out; omega), if_pos (by have := HK.out; omega)]
          have c1 := mrow_nums R1.out HW.out
          have HNu := hid (rnums_any HN1.out HL.out.2)
          clear HRP HK HCL
          generalize numsB m.nums = bA at *
          clear R1 HP1 HN1 HW HL
          go_wp2_with fail
          refine HNu.out.mono ?_
          rintro e W2 ⟨rfl, hb2⟩
          have HB2 := hid (below_two HBw.out hb2)
          clear hb2
          go_wp2
          go_ret
          exact ⟨by rw [HA.out, HRV.out]; rfl, HB2.out⟩
        by_cases e8 : k = 8
        · as_aux_lemma =>
          subst e8
          have HRV : Hid (RP = numsB m.nums) := by show _ = _; rw [HRP.out]; unfold refParts; rw [if_neg (by have := HK.out; omega), if_neg (by have := HK.out; omega), if_neg (by have := HK.out; omega), if_neg (by have := HK.out; omega), if_pos (by have := HK.out; omega)]
          have c1 := mrow_nums R1.out HW.out
          have HNu := hid (rnums_any HN1.out HL.out.2)
          clear HRP HK HCL
          generalize numsB m.nums = bA at *
          clear R1 HP1 HN1 HW HL
          go_wp2_with fail
          refine HNu.out.mono ?_
          rintro e W2 ⟨rfl, hb2⟩
          have HB2 := hid (below_two HBw.out hb2)
          clear hb2
          go_wp2
          go_ret
          exact ⟨by rw [HA.out, HRV.out]; rfl, HB2.out⟩
        by_cases e10 : k = 10
        · as_aux_lemma =>
          subst e10
          have HRV : Hid (RP = (inB m.who 0 7 && ((m.view != []) && Hist.rightB m.view 8))) := by show _ = _; rw [HRP.out]; unfold refParts; rw [if_neg (by have := HK.out; omega), if_neg (by have := HK.out; omega), if_neg (by have := HK.out; omega), if_neg (by have := HK.out; omega), if_neg (by have := HK.out; omega), if_pos HK.out.symm]; rfl
          have c0 := mrow_who R1.out HW.out
          have c1 := mrow_view R1.out HW.out
          have HW1 : Hid (Calls Tryz.prog 43 #[nu m.who, nu 0, nu 7] W1 fun e w' => e = .returned (.bool (inB m.who 0 7)) ∧ w' = W1) := within_any m.who 0 7 W1
          have HRi := hid (Hist.rright_any m.view 8 W1)
          clear HRP HK HCL
          generalize Hist.rightB m.view 8 = bB at *
          generalize m.view = x1 at *
          generalize inB m.who 0 7 = bA at *
          generalize m.who = x0 at *
          clear R1 HP1 HN1 HW HL
          cases bA with
          | false =>
            go_wp2_with fail
            refine HW1.out.mono ?_
            rintro e W2 ⟨rfl, e2⟩
            subst W2
            go_wp2
            go_ret
            exact ⟨by rw [HA.out, HRV.out]; rfl, HBw.out⟩
          | true =>
            go_wp2_with fail
            refine HW1.out.mono ?_
            rintro e W2 ⟨rfl, e2⟩
            subst W2
            cases x1 with
            | nil =>
              go_wp2
              go_ret
              exact ⟨by rw [HA.out, HRV.out]; rfl, HBw.out⟩
            | cons y1 y2 =>
              go_wp2_with fail
              refine HRi.out.mono ?_
              rintro e W2 ⟨rfl, e2⟩
              subst W2
              go_wp2
              go_ret
              exact ⟨by rw [HA.out, HRV.out]; rfl, HBw.out⟩
        have HRV : Hid (RP = true) := by show _ = _; rw [HRP.out]; unfold refParts; rw [if_neg (by have := HK.out; omega), if_neg (by have := HK.out; omega), if_neg (by have := HK.out; omega), if_neg (by have := HK.out; omega), if_neg (by have := HK.out; omega), if_neg (by have := HK.out; omega)]
        have d1 : (k == 1) = false := beq_false_of_ne e1
        have d2 : (k == 2) = false := beq_false_of_ne e2
        have d3 : (k == 3) = false := beq_false_of_ne e3
        have d4 : (k == 4) = false := beq_false_of_ne e4
        have d6 : (k == 6) = false := beq_false_of_ne e6
        have d5 : (k == 5) = false := beq_false_of_ne e5
        have d7 : (k == 7) = false := beq_false_of_ne e7
        have d8 : (k == 8) = false := beq_false_of_ne e8
        have d10 : (k == 10) = false := beq_false_of_ne e10
        clear HRP HK HCL R1 HP1 HN1 HW HL
        clear e1 e2 e3 e4 e6 e5 e7 e8 e10
        go_wp2
        go_ret
        exact ⟨by rw [HA.out, HRV.out]; rfl, HBw.out⟩
theorem rmay {w : World} {m : Msg} {vP vN : Value} (hw : m.Wf) (hi : I64 m.who) (hp : PensAt w vP m.rep.pend) (hn : IntsAt w vN m.nums) (hl : Lens m) :
    Calls Tryz.prog 11 #[.agg (msgC m vP vN).toArray] w fun e w' => e = .returned (.bool (mayB m)) ∧ Below w.heap.size w w' := by
  rw [may_right]
  exact rrm_any hw hi hp hn hl
end Go.Proofs.YtidlgecognedlaaGreatDoor.Ms

/-
  Does a list hold what may not be pending: what slices.ContainsFunc answers of msg's test.
-/
namespace Go.Proofs.YtidlgecognedlaaGreatDoor.Ms
open Go Go.RowKit
set_option maxRecDepth 100000

abbrev tstV : Value := .func (.func 163) #[] #[]
set_option maxHeartbeats 1000000 in
theorem tst_any (p : Pen) (hp : p.Wf) (w : World) : Calls Tryz.prog 163 #[.agg (penC p).toArray] w fun e w' => e = .returned (.bool (!penB p)) ∧ Below w.heap.size w w' := by
  have HB0 := hid (below_a1 w (.cells (penC p).toArray 113))
  have S0 := hid (row_seg (off := 0) (A := []) (cs := penC p) (C := []) (top_obj w (.cells (penC p).toArray 113)) (by simp) rfl)
  have Z0 : (Tryz.prog.info? 113).map (·.size) = some (penC p).length := by rw [penC_len hp]; exact sizePen
  have HC := hid (fun W => penmay_any p hp W)
  generalize penB p = b at *
  generalize penC p = PA at *
  go_enter Tryz.func163, Tryz.ntmps163
  go_upto_region 1 with fail
  generalize w.alloc (.cells PA.toArray 113) = W0 at *
  go_wp2_with (first | ((with_reducible refine wl_load 113 (.tmp 1) ?_ w.heap.size 0 ?_ ?_ PA _ S0.out Tryz.underlying113 ?_ Z0 ?_); exact rfl; exact rfl; exact rfl; exact rfl))
  refine (HC.out _).mono ?_
  rintro e w1 ⟨rfl, hb⟩
  have HB1 := hid (below_two HB0.out hb)
  clear hb HB0 S0 HC
  go_wp2
  go_ret
  exact ⟨rfl, HB1.out⟩
set_option maxHeartbeats 1000000 in
theorem index_any (ps : List Pen) (hl : ps.length ≤ 8) (hp : ∀ p ∈ ps, p.Wf) (w : World) (v : Value) (hv : PensAt w v ps) :
    Calls Tryz.prog 106 #[v, tstV] w fun e w' => ∃ z : Int, e = .returned (nu z) ∧ Below w.heap.size w w' ∧ decide (0 ≤ z) = !(ps.all penB) := by
  have HP := hid hv
  obtain ⟨pa, cap, rfl, -⟩ := hv
  have HW := hid hp
  have HB0 := hid (Below.refl w.heap.size w)
  have HBad : Hid (∀ j, j < ps.length → penB (ps.getD j noPen) = false → ps.all penB = false) := fun j hj h => by
    rw [List.all_eq_false]
    refine ⟨ps.getD j noPen, ?_, by rw [h]; exact Bool.false_ne_true⟩
    simp [List.getD, hj]
  have HAll : Hid ((∀ j, j < ps.length → penB (ps.getD j noPen) = true) → ps.all penB = true) := fun h => by
    rw [List.all_eq_true]
    intro p hq
    obtain ⟨j, hj, rfl⟩ := List.getElem_of_mem hq
    have := h j hj
    simpa [List.getD, hj] using this
  clear hp
  go_enter Tryz.func106, Tryz.ntmps106
  go_wp2
  go_loopw [8] (fun i w' => ∃ k : Nat, k ≤ ps.length ∧ i = .int .i64 k ∧ Hid (∀ j, j < k → penB (ps.getD j noPen) = true) ∧ Hid (Below w.heap.size w w')) (fun i _ => ps.length - (intOf i).toNat)
  case atStart => exact ⟨0, Nat.zero_le _, rfl, (fun j hj => absurd hj (Nat.not_lt_zero j)), HB0⟩
  case round =>
    obtain ⟨k, hk, rfl, HN, HB⟩ := hrel
    clear HB0
    by_cases hlt : k < ps.length
    · as_aux_lemma =>
      have d1 : decide ((k : Int) < (ps.length : Int)) = true := decide_eq_true (by omega)
      have d1' : decide (k < ps.length) = true := decide_eq_true hlt
      obtain ⟨a', c', e', hc⟩ := HP.out.kept HB.out
      cases e'
      obtain ⟨b, off, rfl, hcc⟩ := hc (fun e => by rw [e] at hlt; exact absurd hlt (Nat.not_lt_zero k))
      have wp := getD_wf HW.out k hlt
      have S0 := hid (hcc k hlt)
      have Z0 : (Tryz.prog.info? 113).map (·.size) = some (penC (ps.getD k noPen)).length := by rw [penC_len wp]; exact sizePen
      have HC := hid (fun W => tst_any (ps.getD k noPen) wp W)
      have HF : Hid (penB (ps.getD k noPen) = false → ps.all penB = false) := HBad.out k hlt
      have hon : Hid (penB (ps.getD k noPen) = true → ∀ j, j < k + 1 → penB (ps.getD j noPen) = true) := fun h j hj => by
        by_cases e : j = k
        · rw [e]; exact h
        · exact HN.out j (by omega)
      generalize penB (ps.getD k noPen) = bb at *
      generalize penC (ps.getD k noPen) = PA at *
      clear hc hcc wp HN HBad HAll HP HW
      cases bb with
      | false =>
        have HF' := hid (HF.out rfl)
        clear HF hon
        go_wp2_with (first | ((with_reducible refine wl_load 113 (.tmp 14) ?_ b (off + k * 68) ?_ ?_ PA _ S0.out Tryz.underlying113 ?_ Z0 ?_); exact rfl; exact rfl; exact rfl; exact rfl))
        refine (HC.out _).mono ?_
        rintro e w1 ⟨rfl, hb⟩
        have HB1 := hid (below_two HB.out hb)
        clear hb HB S0 HC
        go_wp2
        go_ret
        exact ⟨_, rfl, HB1.out, by rw [HF'.out]; simp⟩
      | true =>
        have HN' := hid (hon.out rfl)
        clear HF hon
        go_wp2_with (first | ((with_reducible refine wl_load 113 (.tmp 14) ?_ b (off + k * 68) ?_ ?_ PA _ S0.out Tryz.underlying113 ?_ Z0 ?_); exact rfl; exact rfl; exact rfl; exact rfl))
        refine (HC.out _).mono ?_
        rintro e w1 ⟨rfl, hb⟩
        have HB1 := hid (below_two HB.out hb)
        clear hb HB S0 HC
        go_wp2
        exact ⟨⟨k + 1, by omega, by go_num, HN', HB1⟩, by simp [intOf]; omega⟩
    · as_aux_lemma =>
      have hkl : k = ps.length := by omega
      subst hkl
      have dk : decide ((ps.length : Int) < (ps.length : Int)) = false := decide_eq_false (by omega)
      have HA := hid (HAll.out HN.out)
      clear HP HW HN HAll HBad
      go_wp2
      go_ret
      exact ⟨_, rfl, HB.out, by rw [HA.out]; rfl⟩
theorem contains_any (ps : List Pen) (hl : ps.length ≤ 8) (hp : ∀ p ∈ ps, p.Wf) (w : World) (v : Value) (hv : PensAt w v ps) :
    Calls Tryz.prog 162 #[v, tstV] w fun e w' => e = .returned (.bool (!(ps.all penB))) ∧ Below w.heap.size w w' := by
  have HC := hid (index_any ps hl hp w v hv)
  go_enter Tryz.func162, Tryz.ntmps162
  go_wp2_with fail
  refine HC.out.mono ?_
  rintro e w1 ⟨z, rfl, hb, hz⟩
  have HB := hid hb
  clear hb HC
  go_wp2
  go_ret
  exact ⟨by rw [← hz]; rfl, HB.out⟩
end Go.Proofs.YtidlgecognedlaaGreatDoor.Ms

/-
  Which replies may be: what msg.replyMayBe answers.
-/
namespace Go.Proofs.YtidlgecognedlaaGreatDoor.Ms
open Go Go.RowKit
set_option maxRecDepth 100000

theorem inB_last (n : Int) : inB n (-1) 7 = ((n == -1) || inB n 0 7) := by rw [Bool.eq_iff_iff, Bool.or_eq_true, inB_iff, inB_iff, beq_iff_eq]; omega
theorem inB_vnum (n : Int) : inB n 0 512 = ((n == 0) || inB n 1 512) := by rw [Bool.eq_iff_iff, Bool.or_eq_true, inB_iff, inB_iff, beq_iff_eq]; omega
theorem viewOk_eq (r : Rep) : viewOk r = ((r.last == -1) == r.view.isEmpty) := by
  unfold viewOk
  generalize r.last = a
  generalize r.view = v
  have e : (a != -1) = !(a == -1) := rfl
  rw [e]
  generalize (a == -1) = b
  cases v <;> cases b <;> rfl
theorem repB_eq (r : Rep) : repB r = (inB r.number 1 512 && (((r.last == -1) || inB r.last 0 7) && (Hist.rightB r.view 8 && (((r.last == -1) == r.view.isEmpty) && (decide (r.pend.length ≤ 8) && (r.pend.all penB && (((r.vnum == 0) || inB r.vnum 1 512) && (decide (r.value.length ≤ 256) && Hist.rightB r.seen 8)))))))) := by
  unfold repB chainB
  rw [viewOk_eq, inB_last, inB_vnum]
  ac_rfl
set_option maxHeartbeats 8000000 in
theorem repmay (r : Rep) (hr : r.Wf) : RepOk r := by
  intro w vP hp
  have HB0 := hid (below_a1 w (.cells (repC r vP).toArray 28))
  have R0 := hid (top_obj w (.cells (repC r vP).toArray 28))
  have HP := hid (hp.kept HB0.out)
  obtain ⟨pa, cap, rfl, -⟩ := hp
  have HCh := hid (repB_eq r)
  have HC : Hid (∀ W, Below (w.alloc (.cells (repC r (.slice pa r.pend.length cap)).toArray 28)).heap.size (w.alloc (.cells (repC r (.slice pa r.pend.length cap)).toArray 28)) W → W.cell? ⟨w.heap.size, 0, none⟩ = some (nu r.number) ∧ W.cell? ⟨w.heap.size, 1, none⟩ = some (nu r.last) ∧ W.cell? ⟨w.heap.size, 2, none⟩ = some (st r.view) ∧ W.cell? ⟨w.heap.size, 35, none⟩ = some (.slice pa r.pend.length cap) ∧ W.cell? ⟨w.heap.size, 36, none⟩ = some (nu r.vnum) ∧ W.cell? ⟨w.heap.size, 37, none⟩ = some (st r.value) ∧ W.cell? ⟨w.heap.size, 70, none⟩ = some (st r.seen)) := fun W hb => by
    have h := row_kept R0.out hb
    exact ⟨rrow_number h hr, rrow_last h hr, rrow_view h hr, rrow_P h hr, rrow_vnum h hr, rrow_value h hr, rrow_seen h hr⟩
  have K_a := hid (fun W => isnumber_any r.number W)
  have K_b := hid (fun W => isclient_any r.last W)
  have K_c := hid (fun W => Hist.right_any r.view 8 W)
  have K_f : Hid (r.pend.length ≤ 8 → ∀ W, Below (w.alloc (.cells (repC r (.slice pa r.pend.length cap)).toArray 28)).heap.size (w.alloc (.cells (repC r (.slice pa r.pend.length cap)).toArray 28)) W → Calls Tryz.prog 162 #[.slice pa r.pend.length cap, tstV] W fun e w' => e = .returned (.bool (!(r.pend.all penB))) ∧ Below W.heap.size W w') := fun hl W hb => contains_any r.pend hl hr.pend W _ (HP.out.kept hb)
  have K_g := hid (fun W => isnumber_any r.vnum W)
  have K_i := hid (fun W => Hist.right_any r.seen 8 W)
  obtain ⟨BB, hBB⟩ : ∃ BB, BB = repB r := ⟨_, rfl⟩
  rw [← hBB] at HCh ⊢
  clear hBB R0 HP hr
  generalize (repC r (.slice pa r.pend.length cap)).toArray = RA at *
  generalize r.pend.all penB = b_f at *
  generalize Hist.rightB r.view 8 = b_c at *
  generalize Hist.rightB r.seen 8 = b_i at *
  generalize inB r.number 1 512 = b_a at *
  generalize r.number = x_a at *
  generalize inB r.last 0 7 = b_b at *
  generalize r.last = x_l at *
  generalize r.view = x_v at *
  generalize inB r.vnum 1 512 = b_g at *
  generalize r.vnum = x_n at *
  generalize r.value = x_w at *
  generalize r.seen = x_s at *
  generalize r.pend.length = x_p at *
  go_enter Tryz.func125, Tryz.ntmps125
  go_upto_region 1 with fail
  generalize w.alloc (.cells RA 28) = W0 at *
  obtain ⟨g, hg⟩ : ∃ g, g = w.heap.size := ⟨_, rfl⟩
  rw [← hg] at HC ⊢
  clear hg
  have HW := hid (Below.refl W0.heap.size W0)
  obtain ⟨c0, c1, c2, c3, c4, c5, c6⟩ := HC.out _ HW.out
  cases b_a with
  | false => as_aux_lemma =>
    have HF : Hid (BB = false) := by show _ = _; rw [HCh.out]; simp
    clear HCh
    go_wp2_with fail
    refine (K_a.out _).mono ?_
    rintro e v ⟨rfl, hv⟩
    subst v
    go_wp2
    go_ret
    exact ⟨by rw [HF.out]; rfl, below_two HB0.out HW.out⟩
  | true =>
    cases h_l : (x_l == -1) with
    | false =>
      cases b_b with
      | false => as_aux_lemma =>
        have HF : Hid (BB = false) := by show _ = _; rw [HCh.out]; simp [h_l]
        clear HCh
        go_wp2_with fail
        refine (K_a.out _).mono ?_
        rintro e v ⟨rfl, hv⟩
        subst v
        go_wp2_with fail
        refine (K_b.out _).mono ?_
        rintro e v ⟨rfl, hv⟩
        subst v
        go_wp2
        go_ret
        exact ⟨by rw [HF.out]; rfl, below_two HB0.out HW.out⟩
      | true =>
        cases b_c with
        | false => as_aux_lemma =>
          have HF : Hid (BB = false) := by show _ = _; rw [HCh.out]; simp [h_l]
          clear HCh
          go_wp2_with fail
          refine (K_a.out _).mono ?_
          rintro e v ⟨rfl, hv⟩
          subst v
          go_wp2_with fail
          refine (K_b.out _).mono ?_
          rintro e v ⟨rfl, hv⟩
          subst v
          go_wp2_with fail
          refine (K_c.out _).mono ?_
          rintro e w1 ⟨rfl, hb⟩
          have HW1 := hid (below_two HW.out hb)
          clear hb c0 c1 c2 c3 c4 c5 c6
          obtain ⟨c0, c1, c2, c3, c4, c5, c6⟩ := HC.out _ HW1.out
          go_wp2
          go_ret
          exact ⟨by rw [HF.out]; rfl, below_two HB0.out HW1.out⟩
        | true =>
          cases h_v : x_v.isEmpty with
          | false =>
            have hne : ¬ x_v = [] := fun e => by rw [e] at h_v; cases h_v
            by_cases h_p : x_p ≤ 8
            · have dp : decide ((x_p : Int) ≤ 8) = true := decide_eq_true (by omega)
              have dp' : decide (x_p ≤ 8) = true := decide_eq_true h_p
              have K_f' := hid (K_f.out h_p)
              cases b_f with
              | false => as_aux_lemma =>
                have HF : Hid (BB = false) := by show _ = _; rw [HCh.out]; simp [h_l, h_v]
                clear HCh
                go_wp2_with fail
                refine (K_a.out _).mono ?_
                rintro e v ⟨rfl, hv⟩
                subst v
                go_wp2_with fail
                refine (K_b.out _).mono ?_
                rintro e v ⟨rfl, hv⟩
                subst v
                go_wp2_with fail
                refine (K_c.out _).mono ?_
                rintro e w1 ⟨rfl, hb⟩
                have HW1 := hid (below_two HW.out hb)
                clear hb c0 c1 c2 c3 c4 c5 c6
                obtain ⟨c0, c1, c2, c3, c4, c5, c6⟩ := HC.out _ HW1.out
                go_wp2_with fail
                refine (K_f'.out _ HW1.out).mono ?_
                rintro e w2 ⟨rfl, hb⟩
                have HW2 := hid (below_two HW1.out hb)
                clear hb c0 c1 c2 c3 c4 c5 c6
                obtain ⟨c0, c1, c2, c3, c4, c5, c6⟩ := HC.out _ HW2.out
                go_wp2
                go_ret
                exact ⟨by rw [HF.out]; rfl, below_two HB0.out HW2.out⟩
              | true =>
                cases h_n : (x_n == 0) with
                | false =>
                  cases b_g with
                  | false => as_aux_lemma =>
                    have HF : Hid (BB = false) := by show _ = _; rw [HCh.out]; simp [h_l, h_v, h_n]
                    clear HCh
                    go_wp2_with fail
                    refine (K_a.out _).mono ?_
                    rintro e v ⟨rfl, hv⟩
                    subst v
                    go_wp2_with fail
                    refine (K_b.out _).mono ?_
                    rintro e v ⟨rfl, hv⟩
                    subst v
                    go_wp2_with fail
                    refine (K_c.out _).mono ?_
                    rintro e w1 ⟨rfl, hb⟩
                    have HW1 := hid (below_two HW.out hb)
                    clear hb c0 c1 c2 c3 c4 c5 c6
                    obtain ⟨c0, c1, c2, c3, c4, c5, c6⟩ := HC.out _ HW1.out
                    go_wp2_with fail
                    refine (K_f'.out _ HW1.out).mono ?_
                    rintro e w2 ⟨rfl, hb⟩
                    have HW2 := hid (below_two HW1.out hb)
                    clear hb c0 c1 c2 c3 c4 c5 c6
                    obtain ⟨c0, c1, c2, c3, c4, c5, c6⟩ := HC.out _ HW2.out
                    go_wp2_with fail
                    refine (K_g.out _).mono ?_
                    rintro e v ⟨rfl, hv⟩
                    subst v
                    go_wp2
                    go_ret
                    exact ⟨by rw [HF.out]; rfl, below_two HB0.out HW2.out⟩
                  | true =>
                    by_cases h_w : x_w.length ≤ 256
                    · as_aux_lemma =>
                      have dw : decide ((x_w.length : Int) ≤ 256) = true := decide_eq_true (by omega)
                      have dw' : decide (x_w.length ≤ 256) = true := decide_eq_true h_w
                      have HF : Hid (BB = b_i) := by show _ = _; rw [HCh.out]; simp [h_l, h_v, h_n, h_p, h_w]
                      clear HCh
                      go_wp2_with fail
                      refine (K_a.out _).mono ?_
                      rintro e v ⟨rfl, hv⟩
                      subst v
                      go_wp2_with fail
                      refine (K_b.out _).mono ?_
                      rintro e v ⟨rfl, hv⟩
                      subst v
                      go_wp2_with fail
                      refine (K_c.out _).mono ?_
                      rintro e w1 ⟨rfl, hb⟩
                      have HW1 := hid (below_two HW.out hb)
                      clear hb c0 c1 c2 c3 c4 c5 c6
                      obtain ⟨c0, c1, c2, c3, c4, c5, c6⟩ := HC.out _ HW1.out
                      go_wp2_with fail
                      refine (K_f'.out _ HW1.out).mono ?_
                      rintro e w2 ⟨rfl, hb⟩
                      have HW2 := hid (below_two HW1.out hb)
                      clear hb c0 c1 c2 c3 c4 c5 c6
                      obtain ⟨c0, c1, c2, c3, c4, c5, c6⟩ := HC.out _ HW2.out
                      go_wp2_with fail
                      refine (K_g.out _).mono ?_
                      rintro e v ⟨rfl, hv⟩
                      subst v
                      go_wp2_with fail
                      refine (K_i.out _).mono ?_
                      rintro e w3 ⟨rfl, hb⟩
                      have HW3 := hid (below_two HW2.out hb)
                      clear hb c0 c1 c2 c3 c4 c5 c6
                      obtain ⟨c0, c1, c2, c3, c4, c5, c6⟩ := HC.out _ HW3.out
                      go_wp2
                      go_ret
                      exact ⟨by rw [HF.out]; rfl, below_two HB0.out HW3.out⟩
                    · as_aux_lemma =>
                      have dw : decide ((x_w.length : Int) ≤ 256) = false := decide_eq_false (by omega)
                      have dw' : decide (x_w.length ≤ 256) = false := decide_eq_false h_w
                      have HF : Hid (BB = false) := by show _ = _; rw [HCh.out]; simp [h_l, h_v, h_n, h_w]
                      clear HCh
                      go_wp2_with fail
                      refine (K_a.out _).mono ?_
                      rintro e v ⟨rfl, hv⟩
                      subst v
                      go_wp2_with fail
                      refine (K_b.out _).mono ?_
                      rintro e v ⟨rfl, hv⟩
                      subst v
                      go_wp2_with fail
                      refine (K_c.out _).mono ?_
                      rintro e w1 ⟨rfl, hb⟩
                      have HW1 := hid (below_two HW.out hb)
                      clear hb c0 c1 c2 c3 c4 c5 c6
                      obtain ⟨c0, c1, c2, c3, c4, c5, c6⟩ := HC.out _ HW1.out
                      go_wp2_with fail
                      refine (K_f'.out _ HW1.out).mono ?_
                      rintro e w2 ⟨rfl, hb⟩
                      have HW2 := hid (below_two HW1.out hb)
                      clear hb c0 c1 c2 c3 c4 c5 c6
                      obtain ⟨c0, c1, c2, c3, c4, c5, c6⟩ := HC.out _ HW2.out
                      go_wp2_with fail
                      refine (K_g.out _).mono ?_
                      rintro e v ⟨rfl, hv⟩
                      subst v
                      go_wp2
                      go_ret
                      exact ⟨by rw [HF.out]; rfl, below_two HB0.out HW2.out⟩
                | true =>
                  by_cases h_w : x_w.length ≤ 256
                  · as_aux_lemma =>
                    have dw : decide ((x_w.length : Int) ≤ 256) = true := decide_eq_true (by omega)
                    have dw' : decide (x_w.length ≤ 256) = true := decide_eq_true h_w
                    have HF : Hid (BB = b_i) := by show _ = _; rw [HCh.out]; simp [h_l, h_v, h_n, h_p, h_w]
                    clear HCh
                    go_wp2_with fail
                    refine (K_a.out _).mono ?_
                    rintro e v ⟨rfl, hv⟩
                    subst v
                    go_wp2_with fail
                    refine (K_b.out _).mono ?_
                    rintro e v ⟨rfl, hv⟩
                    subst v
                    go_wp2_with fail
                    refine (K_c.out _).mono ?_
                    rintro e w1 ⟨rfl, hb⟩
                    have HW1 := hid (below_two HW.out hb)
                    clear hb c0 c1 c2 c3 c4 c5 c6
                    obtain ⟨c0, c1, c2, c3, c4, c5, c6⟩ := HC.out _ HW1.out
                    go_wp2_with fail
                    refine (K_f'.out _ HW1.out).mono ?_
                    rintro e w2 ⟨rfl, hb⟩
                    have HW2 := hid (below_two HW1.out hb)
                    clear hb c0 c1 c2 c3 c4 c5 c6
                    obtain ⟨c0, c1, c2, c3, c4, c5, c6⟩ := HC.out _ HW2.out
                    go_wp2_with fail
                    refine (K_i.out _).mono ?_
                    rintro e w3 ⟨rfl, hb⟩
                    have HW3 := hid (below_two HW2.out hb)
                    clear hb c0 c1 c2 c3 c4 c5 c6
                    obtain ⟨c0, c1, c2, c3, c4, c5, c6⟩ := HC.out _ HW3.out
                    go_wp2
                    go_ret
                    exact ⟨by rw [HF.out]; rfl, below_two HB0.out HW3.out⟩
                  · as_aux_lemma =>
                    have dw : decide ((x_w.length : Int) ≤ 256) = false := decide_eq_false (by omega)
                    have dw' : decide (x_w.length ≤ 256) = false := decide_eq_false h_w
                    have HF : Hid (BB = false) := by show _ = _; rw [HCh.out]; simp [h_l, h_v, h_n, h_w]
                    clear HCh
                    go_wp2_with fail
                    refine (K_a.out _).mono ?_
                    rintro e v ⟨rfl, hv⟩
                    subst v
                    go_wp2_with fail
                    refine (K_b.out _).mono ?_
                    rintro e v ⟨rfl, hv⟩
                    subst v
                    go_wp2_with fail
                    refine (K_c.out _).mono ?_
                    rintro e w1 ⟨rfl, hb⟩
                    have HW1 := hid (below_two HW.out hb)
                    clear hb c0 c1 c2 c3 c4 c5 c6
                    obtain ⟨c0, c1, c2, c3, c4, c5, c6⟩ := HC.out _ HW1.out
                    go_wp2_with fail
                    refine (K_f'.out _ HW1.out).mono ?_
                    rintro e w2 ⟨rfl, hb⟩
                    have HW2 := hid (below_two HW1.out hb)
                    clear hb c0 c1 c2 c3 c4 c5 c6
                    obtain ⟨c0, c1, c2, c3, c4, c5, c6⟩ := HC.out _ HW2.out
                    go_wp2
                    go_ret
                    exact ⟨by rw [HF.out]; rfl, below_two HB0.out HW2.out⟩
            · as_aux_lemma =>
              have dp : decide ((x_p : Int) ≤ 8) = false := decide_eq_false (by omega)
              have dp' : decide (x_p ≤ 8) = false := decide_eq_false h_p
              have HF : Hid (BB = false) := by show _ = _; rw [HCh.out]; simp [h_l, h_v, h_p]
              clear HCh
              go_wp2_with fail
              refine (K_a.out _).mono ?_
              rintro e v ⟨rfl, hv⟩
              subst v
              go_wp2_with fail
              refine (K_b.out _).mono ?_
              rintro e v ⟨rfl, hv⟩
              subst v
              go_wp2_with fail
              refine (K_c.out _).mono ?_
              rintro e w1 ⟨rfl, hb⟩
              have HW1 := hid (below_two HW.out hb)
              clear hb c0 c1 c2 c3 c4 c5 c6
              obtain ⟨c0, c1, c2, c3, c4, c5, c6⟩ := HC.out _ HW1.out
              go_wp2
              go_ret
              exact ⟨by rw [HF.out]; rfl, below_two HB0.out HW1.out⟩
          | true => as_aux_lemma =>
            obtain rfl : x_v = [] := List.isEmpty_iff.1 h_v
            clear h_v
            have HF : Hid (BB = false) := by show _ = _; rw [HCh.out]; simp [h_l]
            clear HCh
            go_wp2_with fail
            refine (K_a.out _).mono ?_
            rintro e v ⟨rfl, hv⟩
            subst v
            go_wp2_with fail
            refine (K_b.out _).mono ?_
            rintro e v ⟨rfl, hv⟩
            subst v
            go_wp2_with fail
            refine (K_c.out _).mono ?_
            rintro e w1 ⟨rfl, hb⟩
            have HW1 := hid (below_two HW.out hb)
            clear hb c0 c1 c2 c3 c4 c5 c6
            obtain ⟨c0, c1, c2, c3, c4, c5, c6⟩ := HC.out _ HW1.out
            go_wp2
            go_ret
            exact ⟨by rw [HF.out]; rfl, below_two HB0.out HW1.out⟩
    | true =>
      cases b_c with
      | false => as_aux_lemma =>
        have HF : Hid (BB = false) := by show _ = _; rw [HCh.out]; simp [h_l]
        clear HCh
        go_wp2_with fail
        refine (K_a.out _).mono ?_
        rintro e v ⟨rfl, hv⟩
        subst v
        go_wp2_with fail
        refine (K_c.out _).mono ?_
        rintro e w1 ⟨rfl, hb⟩
        have HW1 := hid (below_two HW.out hb)
        clear hb c0 c1 c2 c3 c4 c5 c6
        obtain ⟨c0, c1, c2, c3, c4, c5, c6⟩ := HC.out _ HW1.out
        go_wp2
        go_ret
        exact ⟨by rw [HF.out]; rfl, below_two HB0.out HW1.out⟩
      | true =>
        cases h_v : x_v.isEmpty with
        | false => as_aux_lemma =>
          have hne : ¬ x_v = [] := fun e => by rw [e] at h_v; cases h_v
          have HF : Hid (BB = false) := by show _ = _; rw [HCh.out]; simp [h_l, h_v]
          clear HCh
          go_wp2_with fail
          refine (K_a.out _).mono ?_
          rintro e v ⟨rfl, hv⟩
          subst v
          go_wp2_with fail
          refine (K_c.out _).mono ?_
          rintro e w1 ⟨rfl, hb⟩
          have HW1 := hid (below_two HW.out hb)
          clear hb c0 c1 c2 c3 c4 c5 c6
          obtain ⟨c0, c1, c2, c3, c4, c5, c6⟩ := HC.out _ HW1.out
          go_wp2
          go_ret
          exact ⟨by rw [HF.out]; rfl, below_two HB0.out HW1.out⟩
        | true =>
          obtain rfl : x_v = [] := List.isEmpty_iff.1 h_v
          clear h_v
          by_cases h_p : x_p ≤ 8
          · have dp : decide ((x_p : Int) ≤ 8) = true := decide_eq_true (by omega)
            have dp' : decide (x_p ≤ 8) = true := decide_eq_true h_p
            have K_f' := hid (K_f.out h_p)
            cases b_f with
            | false => as_aux_lemma =>
              have HF : Hid (BB = false) := by show _ = _; rw [HCh.out]; simp [h_l]
              clear HCh
              go_wp2_with fail
              refine (K_a.out _).mono ?_
              rintro e v ⟨rfl, hv⟩
              subst v
              go_wp2_with fail
              refine (K_c.out _).mono ?_
              rintro e w1 ⟨rfl, hb⟩
              have HW1 := hid (below_two HW.out hb)
              clear hb c0 c1 c2 c3 c4 c5 c6
              obtain ⟨c0, c1, c2, c3, c4, c5, c6⟩ := HC.out _ HW1.out
              go_wp2_with fail
              refine (K_f'.out _ HW1.out).mono ?_
              rintro e w2 ⟨rfl, hb⟩
              have HW2 := hid (below_two HW1.out hb)
              clear hb c0 c1 c2 c3 c4 c5 c6
              obtain ⟨c0, c1, c2, c3, c4, c5, c6⟩ := HC.out _ HW2.out
              go_wp2
              go_ret
              exact ⟨by rw [HF.out]; rfl, below_two HB0.out HW2.out⟩
            | true =>
              cases h_n : (x_n == 0) with
              | false =>
                cases b_g with
                | false => as_aux_lemma =>
                  have HF : Hid (BB = false) := by show _ = _; rw [HCh.out]; simp [h_l, h_n]
                  clear HCh
                  go_wp2_with fail
                  refine (K_a.out _).mono ?_
                  rintro e v ⟨rfl, hv⟩
                  subst v
                  go_wp2_with fail
                  refine (K_c.out _).mono ?_
                  rintro e w1 ⟨rfl, hb⟩
                  have HW1 := hid (below_two HW.out hb)
                  clear hb c0 c1 c2 c3 c4 c5 c6
                  obtain ⟨c0, c1, c2, c3, c4, c5, c6⟩ := HC.out _ HW1.out
                  go_wp2_with fail
                  refine (K_f'.out _ HW1.out).mono ?_
                  rintro e w2 ⟨rfl, hb⟩
                  have HW2 := hid (below_two HW1.out hb)
                  clear hb c0 c1 c2 c3 c4 c5 c6
                  obtain ⟨c0, c1, c2, c3, c4, c5, c6⟩ := HC.out _ HW2.out
                  go_wp2_with fail
                  refine (K_g.out _).mono ?_
                  rintro e v ⟨rfl, hv⟩
                  subst v
                  go_wp2
                  go_ret
                  exact ⟨by rw [HF.out]; rfl, below_two HB0.out HW2.out⟩
                | true =>
                  by_cases h_w : x_w.length ≤ 256
                  · as_aux_lemma =>
                    have dw : decide ((x_w.length : Int) ≤ 256) = true := decide_eq_true (by omega)
                    have dw' : decide (x_w.length ≤ 256) = true := decide_eq_true h_w
                    have HF : Hid (BB = b_i) := by show _ = _; rw [HCh.out]; simp [h_l, h_n, h_p, h_w]
                    clear HCh
                    go_wp2_with fail
                    refine (K_a.out _).mono ?_
                    rintro e v ⟨rfl, hv⟩
                    subst v
                    go_wp2_with fail
                    refine (K_c.out _).mono ?_
                    rintro e w1 ⟨rfl, hb⟩
                    have HW1 := hid (below_two HW.out hb)
                    clear hb c0 c1 c2 c3 c4 c5 c6
                    obtain ⟨c0, c1, c2, c3, c4, c5, c6⟩ := HC.out _ HW1.out
                    go_wp2_with fail
                    refine (K_f'.out _ HW1.out).mono ?_
                    rintro e w2 ⟨rfl, hb⟩
                    have HW2 := hid (below_two HW1.out hb)
                    clear hb c0 c1 c2 c3 c4 c5 c6
                    obtain ⟨c0, c1, c2, c3, c4, c5, c6⟩ := HC.out _ HW2.out
                    go_wp2_with fail
                    refine (K_g.out _).mono ?_
                    rintro e v ⟨rfl, hv⟩
                    subst v
                    go_wp2_with fail
                    refine (K_i.out _).mono ?_
                    rintro e w3 ⟨rfl, hb⟩
                    have HW3 := hid (below_two HW2.out hb)
                    clear hb c0 c1 c2 c3 c4 c5 c6
                    obtain ⟨c0, c1, c2, c3, c4, c5, c6⟩ := HC.out _ HW3.out
                    go_wp2
                    go_ret
                    exact ⟨by rw [HF.out]; rfl, below_two HB0.out HW3.out⟩
                  · as_aux_lemma =>
                    have dw : decide ((x_w.length : Int) ≤ 256) = false := decide_eq_false (by omega)
                    have dw' : decide (x_w.length ≤ 256) = false := decide_eq_false h_w
                    have HF : Hid (BB = false) := by show _ = _; rw [HCh.out]; simp [h_l, h_n, h_w]
                    clear HCh
                    go_wp2_with fail
                    refine (K_a.out _).mono ?_
                    rintro e v ⟨rfl, hv⟩
                    subst v
                    go_wp2_with fail
                    refine (K_c.out _).mono ?_
                    rintro e w1 ⟨rfl, hb⟩
                    have HW1 := hid (below_two HW.out hb)
                    clear hb c0 c1 c2 c3 c4 c5 c6
                    obtain ⟨c0, c1, c2, c3, c4, c5, c6⟩ := HC.out _ HW1.out
                    go_wp2_with fail
                    refine (K_f'.out _ HW1.out).mono ?_
                    rintro e w2 ⟨rfl, hb⟩
                    have HW2 := hid (below_two HW1.out hb)
                    clear hb c0 c1 c2 c3 c4 c5 c6
                    obtain ⟨c0, c1, c2, c3, c4, c5, c6⟩ := HC.out _ HW2.out
                    go_wp2_with fail
                    refine (K_g.out _).mono ?_
                    rintro e v ⟨rfl, hv⟩
                    subst v
                    go_wp2
                    go_ret
                    exact ⟨by rw [HF.out]; rfl, below_two HB0.out HW2.out⟩
              | true =>
                by_cases h_w : x_w.length ≤ 256
                · as_aux_lemma =>
                  have dw : decide ((x_w.length : Int) ≤ 256) = true := decide_eq_true (by omega)
                  have dw' : decide (x_w.length ≤ 256) = true := decide_eq_true h_w
                  have HF : Hid (BB = b_i) := by show _ = _; rw [HCh.out]; simp [h_l, h_n, h_p, h_w]
                  clear HCh
                  go_wp2_with fail
                  refine (K_a.out _).mono ?_
                  rintro e v ⟨rfl, hv⟩
                  subst v
                  go_wp2_with fail
                  refine (K_c.out _).mono ?_
                  rintro e w1 ⟨rfl, hb⟩
                  have HW1 := hid (below_two HW.out hb)
                  clear hb c0 c1 c2 c3 c4 c5 c6
                  obtain ⟨c0, c1, c2, c3, c4, c5, c6⟩ := HC.out _ HW1.out
                  go_wp2_with fail
                  refine (K_f'.out _ HW1.out).mono ?_
                  rintro e w2 ⟨rfl, hb⟩
                  have HW2 := hid (below_two HW1.out hb)
                  clear hb c0 c1 c2 c3 c4 c5 c6
                  obtain ⟨c0, c1, c2, c3, c4, c5, c6⟩ := HC.out _ HW2.out
                  go_wp2_with fail
                  refine (K_i.out _).mono ?_
                  rintro e w3 ⟨rfl, hb⟩
                  have HW3 := hid (below_two HW2.out hb)
                  clear hb c0 c1 c2 c3 c4 c5 c6
                  obtain ⟨c0, c1, c2, c3, c4, c5, c6⟩ := HC.out _ HW3.out
                  go_wp2
                  go_ret
                  exact ⟨by rw [HF.out]; rfl, below_two HB0.out HW3.out⟩
                · as_aux_lemma =>
                  have dw : decide ((x_w.length : Int) ≤ 256) = false := decide_eq_false (by omega)
                  have dw' : decide (x_w.length ≤ 256) = false := decide_eq_false h_w
                  have HF : Hid (BB = false) := by show _ = _; rw [HCh.out]; simp [h_l, h_n, h_w]
                  clear HCh
                  go_wp2_with fail
                  refine (K_a.out _).mono ?_
                  rintro e v ⟨rfl, hv⟩
                  subst v
                  go_wp2_with fail
                  refine (K_c.out _).mono ?_
                  rintro e w1 ⟨rfl, hb⟩
                  have HW1 := hid (below_two HW.out hb)
                  clear hb c0 c1 c2 c3 c4 c5 c6
                  obtain ⟨c0, c1, c2, c3, c4, c5, c6⟩ := HC.out _ HW1.out
                  go_wp2_with fail
                  refine (K_f'.out _ HW1.out).mono ?_
                  rintro e w2 ⟨rfl, hb⟩
                  have HW2 := hid (below_two HW1.out hb)
                  clear hb c0 c1 c2 c3 c4 c5 c6
                  obtain ⟨c0, c1, c2, c3, c4, c5, c6⟩ := HC.out _ HW2.out
                  go_wp2
                  go_ret
                  exact ⟨by rw [HF.out]; rfl, below_two HB0.out HW2.out⟩
          · as_aux_lemma =>
            have dp : decide ((x_p : Int) ≤ 8) = false := decide_eq_false (by omega)
            have dp' : decide (x_p ≤ 8) = false := decide_eq_false h_p
            have HF : Hid (BB = false) := by show _ = _; rw [HCh.out]; simp [h_l, h_p]
            clear HCh
            go_wp2_with fail
            refine (K_a.out _).mono ?_
            rintro e v ⟨rfl, hv⟩
            subst v
            go_wp2_with fail
            refine (K_c.out _).mono ?_
            rintro e w1 ⟨rfl, hb⟩
            have HW1 := hid (below_two HW.out hb)
            clear hb c0 c1 c2 c3 c4 c5 c6
            obtain ⟨c0, c1, c2, c3, c4, c5, c6⟩ := HC.out _ HW1.out
            go_wp2
            go_ret
            exact ⟨by rw [HF.out]; rfl, below_two HB0.out HW1.out⟩
end Go.Proofs.YtidlgecognedlaaGreatDoor.Ms
