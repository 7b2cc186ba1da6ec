/-
  What the walk of RingPlays asks of both tags, the tag's bytes under a name.
-/
import Derived.Test.YtoddlbggbkabnaaDoorWpl
namespace Go.Proofs.YtoddlbggbkabnaaDoor
open Go Go.RowKit
set_option maxRecDepth 100000

theorem tags_pack {w w5 : World} {p h g b x n : Nat} {s : List UInt8} {v : Value} {L : List Ent} (P : Pl w w5 p h g b x s n v L L) (hs : s.length ≤ 64) (h8 : n ≤ 8) (c d : Int) (t : List UInt8)
    (hc : -9223372036854775808 ≤ c ∧ c ≤ 9223372036854775807) (hd : -9223372036854775808 ≤ d ∧ d ≤ 9223372036854775807) (hm : May n (c, d, t)) (hW : ∀ e ∈ L, EntWf e) (hl : L.length ≤ 20) (hK : Ktab w5) (hT : Lay.Tabs w5) :
    ∃ S : List Value, S.length = 32 ∧ (∀ v ∈ S, v.oneCell' = true) ∧ (∀ W, (Op.equalIn 10000 34 (.agg S.toArray) (.agg S.toArray)).run Tryd.prog W = .ok true W) ∧
      Calls Tryd.prog 12 #[.pointer (some ⟨p, 0, none⟩), .int .i64 c, .int .i64 d, .string ⟨t.toArray⟩] w5 (fun e w' => e = .returned (.tuple #[.agg S.toArray, .int .i64 0]) ∧ RingAt w' p h g b s n (noteL L (c, d, t)) ∧ Touch b w5 w') ∧
      ∀ W, RefAt W x s n v L → Calls Tryd.prog 13 #[.pointer (some ⟨x, 0, none⟩), .agg #[.int .i64 c, .int .i64 d, .string ⟨t.toArray⟩]] W fun e w' => e = .returned (.tuple #[.agg S.toArray, .int .i64 0]) ∧ ∃ v', RefAt w' x s n v' (noteL L (c, d, t)) ∧ Touch x W w' :=
  ⟨(tagB s (c, d, t)).map cb, by rw [List.length_map]; exact tagB_len _ _, one_cb _, fun W => same25 _ (tagB_len _ _) W, tag_c P.ring h8 c d t hm (by omega) hK hT, fun W rr => rtag_ok rr hs h8 c d t hc hd hm hW (by omega)⟩

end Go.Proofs.YtoddlbggbkabnaaDoor
