/-
  A list of acts in memory; what Some does, whatever it answers.
-/
import Derived.Test.YtnhnjdldgaaeoaaDoorNaw
namespace Go.Proofs.YtnhnjdldgaaeoaaDoor
open Go Go.RowKit
set_option maxRecDepth 100000

/-- The list of acts at a has so many acts that can be read. -/
def ActsAt (W : World) (a : Option Addr) (len : Nat) : Prop := ∀ j, j < len → ∃ b off k i t v ks, a = some ⟨b, off, none⟩ ∧ (∀ c u, [Value.int .i64 k, .int .i64 i, .string ⟨(t : List UInt8).toArray⟩, v][c]? = some u → W.cell? ⟨b, off + j * 4 + c, none⟩ = some u) ∧ i < 9223372036854775808 ∧ IntsAt W v ks
theorem ActsAt.cells {w w' : World} {b off j : Nat} {k i : Int} {t : List UInt8} {v : Value} (hc : ∀ c u, [Value.int .i64 k, .int .i64 i, .string ⟨(t : List UInt8).toArray⟩, v][c]? = some u → w.cell? ⟨b, off + j * 4 + c, none⟩ = some u) (hb : Below w.heap.size w w') :
    w'.cell? ⟨b, off + j * 4, none⟩ = some (.int .i64 k) ∧ w'.cell? ⟨b, off + j * 4 + 1, none⟩ = some (.int .i64 i) ∧ w'.cell? ⟨b, off + j * 4 + 2, none⟩ = some (.string ⟨t.toArray⟩) ∧ w'.cell? ⟨b, off + j * 4 + 3, none⟩ = some v := by
  have key : ∀ c u, [Value.int .i64 k, .int .i64 i, .string ⟨(t : List UInt8).toArray⟩, v][c]? = some u → w'.cell? ⟨b, off + j * 4 + c, none⟩ = some u := by
    intro c u hu
    have h9 := hc c u hu
    have h8 := World.block_lt_of_cell? _ _ h9
    rw [← h9]
    simp only [World.cell?, hb.block b h8]
  exact ⟨key 0 _ rfl, key 1 _ rfl, key 2 _ rfl, key 3 _ rfl⟩
theorem ints_old {w : World} {v : Value} {ks : List Int} (h : IntsAt w v ks) (hne : ks ≠ []) (b : Nat) (hb : v.ownBlock = some b) : b < w.heap.size := by
  obtain ⟨ao, cap, rfl, -, e2⟩ := h
  obtain ⟨b', off', rfl, e3⟩ := e2 hne
  simp [Value.ownBlock] at hb
  subst hb
  cases ks with
  | nil => exact absurd rfl hne
  | cons q qs => exact World.block_lt_of_cell? _ _ (e3 0 q rfl)
section
variable {w w' : World} {a d g first size : Nat} {al : Al} {x : Cx} {D : Dk}
theorem some_whole (h : AllocAt w a x.c al) (hc : CellAt w x d first size) (hd : DiskAt w d g D) (hr : first + 2 + 2 * size ≤ D.S.length) (ht : Lay.Tabs w) (n : Int) :
    Calls Tryd.prog 14 #[.pointer (some ⟨a, 0, none⟩), .int .i64 n] w fun e w' => ∃ v,
      e = .returned (.tuple #[v, .int .i64 (someP D first size al n).1]) ∧ DiskAt w' d g (someP D first size al n).2.1 ∧ AllocAt w' a x.c (someP D first size al n).2.2 ∧ Kp [d, g, a] w w' := by
  by_cases hE : (someP D first size al n).1 = 0
  · refine (some_ok h hc hd hr ht n hE).mono ?_
    rintro e w1 ⟨b, k, h1, h2, h3, rfl, h4, h5, h6, h7, h8, -, -⟩
    exact ⟨_, by rw [hE], h6, h7, h8⟩
  · refine (some_bad h hc hd hr ht n hE).mono ?_
    rintro e w1 ⟨rfl, h6, h7, h8⟩
    exact ⟨_, rfl, h6, h7, h8⟩
/-- The cell stays where an allocator's block and the disk change. -/
theorem CellAt.over (hc : CellAt w x d first size) (hd : DiskAt w d g D) (h : AllocAt w a x.c al) (hk : Kp [d, g, a] w w') : CellAt w' x d first size := by
  have h1 := h.cell hc
  have h2 := hc.part hd
  simp only [List.mem_cons, List.not_mem_nil, or_false] at h2
  exact hc.kept hk (by simp only [List.mem_cons, List.not_mem_nil, or_false]; omega) (by simp only [List.mem_cons, List.not_mem_nil, or_false]; omega) (by simp only [List.mem_cons, List.not_mem_nil, or_false]; omega) (by simp only [List.mem_cons, List.not_mem_nil, or_false]; omega)
end
end Go.Proofs.YtnhnjdldgaaeoaaDoor
