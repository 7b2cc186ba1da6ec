/-
  The reference's Tick.
-/
import Derived.Test.YtkjgiidmajjonaaPfs
namespace Go.Proofs.Ytkjgiidmajjonaa.Kn
open Go Go.RowKit
set_option maxRecDepth 100000

def lenV : Value → Nat
  | .slice _ l _ => l
  | _ => 0
theorem own_val {w : World} {base e size n : Nat} {v : Value} {xs : List Value} (h : w.ownsRow base e size v n xs) : ∃ a c, v = .slice a n c := by
  rcases h.2 with ⟨rfl, h0⟩ | ⟨g, cap, cur, rfl, -⟩
  · exact ⟨none, 0, by rw [h0]⟩
  · exact ⟨_, _, rfl⟩
theorem Kp.low {X : List Nat} {a b c : World} (h : Kp X a b) (hb : Below a.heap.size b c) : Kp X a c := ⟨hb.os.trans h.os, hb.tape.trans h.tape, hb.output.trans h.output, Nat.le_trans h.size hb.size, fun k hk hX => (hb.block k hk).trans (h.block k hk hX)⟩
theorem setAll_snoc (v : Int) : ∀ (l d : List Int) (x : Int), setAll v d (l ++ [x]) = (setAll v d l).set x.toNat v
  | [], _, _ => rfl
  | y :: l, d, x => by
    show setAll v (d.set y.toNat v) (l ++ [x]) = _
    rw [setAll_snoc v l]
    rfl
section
variable {w w' : World} {q g cap n me : Nat} {S : List Value} {p : Pb}
theorem XAt.low {B : Nat} (h : XAt w q g cap S n me p) (hb : Below B w w') (hq : q < B) (hg : g < B) : XAt w' q g cap S n me p := ⟨(hb.block q hq).trans h.obj, (hb.block g hg).trans h.row, h.len, h.ne⟩
theorem XAt.lt (h : XAt w q g cap S n me p) : q < w.heap.size ∧ g < w.heap.size := ⟨row_lt h.obj, row_lt h.row⟩
/-- The object's numbers anew. -/
theorem XAt.put {now next : Int} (h : XAt w q g cap S n me p) (hbut : But q w w') (hr : w'.heap[q]? = some (.cells #[nu n, nu me, nu now, nu next, Value.slice (some ⟨g, 0, none⟩) n cap] 36)) : XAt w' q g cap S n me ⟨now, next, p.due⟩ ∧ Kp [q, g] w w' :=
  ⟨⟨hr, hbut.row h.row h.ne, h.len, h.ne⟩, ⟨hbut.os, hbut.tape, hbut.output, Nat.le_of_eq hbut.size.symm, fun k hk hX => hbut.block k (by simp at hX; exact hX.1)⟩⟩
set_option maxHeartbeats 16000000 in
theorem rtick_any (h : XAt w q g cap S n me p) (hm : me < n) (hn8 : n ≤ 8) (hnow : 0 ≤ p.now ∧ p.now ≤ 2305843009213693952) (hnx : 0 ≤ p.next ∧ p.next < n) (b : Bool) : Calls Try.prog 22 #[pt q 0, .bool b] w fun e w' => ∃ u, e = .returned (.tuple #[u, nu (tickN me b p)]) ∧ IntsAt w' u (outT n me p) ∧ XAt w' q g cap S n me (tickP n me b p) ∧ Kp [q, g] w w' := by
  have H := hid h
  have hlt := h.lt
  have hlen := h.len
  have c2 := h.c2
  have I1 : I64 (p.now + 1) := by unfold I64; omega
  have I5 : I64 (p.now + 1 + 4) := by unfold I64; omega
  have I8 : I64 (p.now + 1 + 7) := by unfold I64; omega
  have IX : I64 (p.next + 1) := by unfold I64; omega
  have IM : I64 ((me : Int) + 1) := by unfold I64; omega
  have Q0 : Hid (w.heap[q]? = some (.cells ([nu n, nu me] ++ ([nu p.now] ++ [nu p.next, Value.slice (some ⟨g, 0, none⟩) n cap])).toArray 36)) := h.obj
  clear h
  go_enter Try.func22, Try.ntmps22
  go_upto_region 2 with ((with_reducible refine wl_put1 3 (.tmp 17) (.tmp 15) ?_ ?_ q 2 ?_ ?_ [nu n, nu me] [nu p.next, Value.slice (some ⟨g, 0, none⟩) n cap] (nu p.now) (nu (p.now + 1)) ?_ 36 Q0.out ?_ ?_ ?_ ?_); exact rfl; exact rfl; exact rfl; exact rfl; exact rfl; exact rfl; exact rfl; exact size3; intro W1 r1 b1)
  have H1 := hid (H.out.put b1 r1).1
  have K1 := hid (H.out.put b1 r1).2
  clear r1 b1 Q0 c2 H
  go_wp2_with fail
  refine (rfirst_any H1.out (IntsAt.nil _) (by decide) hn8).mono ?_
  rintro e W2 ⟨rfl, bb⟩
  have H2 := hid (H1.out.kept bb)
  have K2 := hid (K1.out.trans (Kp.of bb))
  clear bb H1 K1
  have O2 : Hid (W2.ownsRow w.heap.size 3 1 (.slice none 0 0) 0 (ic (chn n me (p.now + 1) p.due 0))) := World.ownsRow_nil _ _ _ _
  go_wp2
  go_loopw [6, 7] (fun v i wr => ∃ k : Nat, (chn n me (p.now + 1) p.due k).length = k ∧ k ≤ n ∧ i = nu (fstP n me (p.now + 1) p.due (chn n me (p.now + 1) p.due k)) ∧ Hid (wr.ownsRow w.heap.size 3 1 v k (ic (chn n me (p.now + 1) p.due k))) ∧ Hid (XAt wr q g cap S n me ⟨p.now + 1, p.next, p.due⟩) ∧ Hid (Kp [q, g] w wr)) (fun v _ _ => n + 1 - lenV v)
  case atStart => exact ⟨0, rfl, by omega, rfl, O2, H2, K2⟩
  case round =>
    obtain ⟨k, hkl, hkn, rfl, HO, HX, HK⟩ := hrel
    obtain ⟨ao, cp, hv⟩ := own_val HO.out
    subst hv
    by_cases h0 : 0 ≤ fstP n me (p.now + 1) p.due (chn n me (p.now + 1) p.due k)
    · have hmore := chn_more hkl h0
      have d1 : decide (0 ≤ fstP n me (p.now + 1) p.due (chn n me (p.now + 1) p.due k)) = true := decide_eq_true h0
      have HM := hid hmore.1
      have hkn' := hmore.2
      have hk1 : (chn n me (p.now + 1) p.due (k + 1)).length = k + 1 := by rw [hmore.1, List.length_append, hkl]; rfl
      clear hmore h0
      obtain ⟨c1, hc1⟩ : ∃ c1, chn n me (p.now + 1) p.due (k + 1) = c1 := ⟨_, rfl⟩
      rw [hc1] at HM hk1
      generalize fstP n me (p.now + 1) p.due (chn n me (p.now + 1) p.due k) = f at *
      generalize chn n me (p.now + 1) p.due k = c0 at *
      have hsz : w.heap.size ≤ wr.heap.size := HK.out.size
      go_wp2_with (first | (at_builtin; (refine wpList_push (W := wr) rfl (.tmp 26) (.tmp 28) 34 3 rfl _ 8 Try.underlying34 info3 rfl (by omega) w.heap.size (.slice ao k cp) (nu f) k (ic c0) rfl rfl HO.out rfl (by omega) hsz ?_); intro v3 w3 hr3 hg3 hat3; have HB3 : Hid (Below w.heap.size wr w3) := ((Below.refl w.heap.size wr).alloc hsz _).grown hg3 (by simp; omega) (own_ge HO.out); have HR3 := hid hr3; clear hr3 hg3 hat3))
      have O3 : Hid (w3.ownsRow w.heap.size 3 1 v3 (k + 1) (ic c1)) := by
        have e : ic c0 ++ [nu f] = ic c1 := by rw [HM.out]; simp [ic]
        have := HR3.out
        rwa [e] at this
      have X3 := hid (HX.out.low HB3.out hlt.1 hlt.2)
      have K3 := hid (HK.out.low HB3.out)
      clear HR3 HB3 HX HK HO
      have T3 : Hid (IntsAt w3 v3 c1) := ints_of (by rw [hk1]; exact O3.out)
      go_wp2_with fail
      refine (rfirst_any X3.out T3.out (by omega) hn8).mono ?_
      rintro e W4 ⟨rfl, bb⟩
      have X4 := hid (X3.out.kept bb)
      have K4 := hid (K3.out.trans (Kp.of bb))
      have O4 := hid (own_kept O3.out bb)
      obtain ⟨a4, cp4, hv4⟩ := own_val O3.out
      subst hv4
      clear bb X3 K3 O3 T3
      go_wp2
      refine ⟨⟨k + 1, ?_, by omega, ?_, ?_, X4, K4⟩, ?_⟩
      · rw [hc1]; exact hk1
      · rw [hc1]
      · rw [hc1]; exact O4
      · simp [lenV]; omega
    · have d1 : decide (0 ≤ fstP n me (p.now + 1) p.due (chn n me (p.now + 1) p.due k)) = false := decide_eq_false h0
      have hout : outT n me p = chn n me (p.now + 1) p.due k := out_stop hkn (by omega)
      generalize fstP n me (p.now + 1) p.due (chn n me (p.now + 1) p.due k) = f at *
      rw [← hout] at HO hkl
      have hrng : ∀ x ∈ outT n me p, 0 ≤ x ∧ x < n := fun x hx => ((out_mem x).1 hx).1.1
      have hdT : dueT n me p = setAll (p.now + 1 + 4) p.due (outT n me p) := rfl
      clear hout h0 O2 H2 K2
      generalize hOe : outT n me p = OUT at *
      have HOe := hid hOe
      clear hOe
      go_wp2
      go_loopw [8] (fun i wr => ∃ j : Nat, j ≤ k ∧ i = nu j ∧ Hid (wr.ownsRow w.heap.size 3 1 (.slice ao k cp) k (ic OUT)) ∧ Hid (XAt wr q g cap S n me ⟨p.now + 1, p.next, setAll (p.now + 1 + 4) p.due (OUT.take j)⟩) ∧ Hid (Kp [q, g] w wr)) (fun i _ => k - (intOf i).toNat)
      case atStart => exact ⟨0, by omega, rfl, HO, HX, HK⟩
      case round =>
        obtain ⟨j, hj, rfl, HOi, HXi, HKi⟩ := hrel
        clear HO HX HK
        by_cases hjl : j < k
        · have d2 : decide ((j : Int) < (k : Int)) = true := decide_eq_true (by omega)
          have d2' : decide (j < k) = true := decide_eq_true hjl
          have hjo : j < OUT.length := by omega
          obtain ⟨x, hx⟩ : ∃ x : Nat, OUT[j] = (x : Int) := ⟨OUT[j].toNat, by have := hrng _ (List.getElem_mem hjo); omega⟩
          have hxn : x < n := by have := hrng _ (List.getElem_mem hjo); omega
          have hnext : setAll (p.now + 1 + 4) p.due (OUT.take (j + 1)) = (setAll (p.now + 1 + 4) p.due (OUT.take j)).set x (p.now + 1 + 4) := by
            rw [List.take_succ_eq_append_getElem hjo, setAll_snoc, hx, Int.toNat_natCast]
          obtain ⟨go, ev, hgo⟩ : ∃ go, ao = some ⟨go, 0, none⟩ ∧ ∀ W', Below wr.heap.size wr W' → W'.cell? ⟨go, 0 + j * 1, none⟩ = some (nu (x : Int)) := by
            rcases HOi.out.2 with ⟨e0, e1⟩ | ⟨g0, cap0, cur, e0, -⟩
            · omega
            · have e0' := e0
              cases e0'
              refine ⟨g0, rfl, fun W' hb => ?_⟩
              have := (own_kept HOi.out hb).cells (g := g0) rfl j (nu (x : Int)) (by
                unfold ic
                rw [List.getElem?_map, List.getElem?_eq_getElem hjo, hx]
                rfl)
              rw [add_none] at this
              rw [Nat.mul_one]
              exact this
          subst ev
          have CO := hid hgo
          have HNx := hid hnext
          clear hgo hnext hx
          generalize setAll (p.now + 1 + 4) p.due (OUT.take j) = DJ at *
          have C0 := hid (fun W' (hb : Below wr.heap.size wr W') => (XAt.kept HXi.out hb).c0)
          have C1 := hid (fun W' (hb : Below wr.heap.size wr W') => (XAt.kept HXi.out hb).c1)
          have C2 := hid (fun W' (hb : Below wr.heap.size wr W') => (XAt.kept HXi.out hb).c2)
          have C4 := hid (fun W' (hb : Below wr.heap.size wr W') => (XAt.kept HXi.out hb).c4)
          have LA := hid ((due_split DJ S x (by rw [HXi.out.len]; exact hxn) (p.now + 1 + 4)).2.2)
          have RW := hid (fun W' (hb : Below wr.heap.size wr W') => (by rw [← (due_split DJ S x (by rw [HXi.out.len]; exact hxn) (p.now + 1 + 4)).1]; exact row_kept HXi.out.row hb : W'.heap[g]? = some (.cells (ic (DJ.take x) ++ ([nu (duI DJ (x : Int))] ++ (ic (DJ.drop (x + 1)) ++ S))).toArray 3)))
          have RN := hid ((due_split DJ S x (by rw [HXi.out.len]; exact hxn) (p.now + 1 + 4)).2.1)
          have HX10 : Hid (∀ W1 W2, Below wr.heap.size wr W1 → But g W1 W2 → W2.heap[g]? = some (.cells (ic (DJ.take x) ++ ([nu (p.now + 1 + 4)] ++ (ic (DJ.drop (x + 1)) ++ S))).toArray 3) → XAt W2 q g cap S n me ⟨p.now + 1, p.next, DJ.set x (p.now + 1 + 4)⟩ ∧ Kp [q, g] wr W2) := fun W1 W2 hb hbut hr => HXi.out.set hb hbut hxn _ hr
          have HNe : Hid (∀ kk, (Value.slice (some ⟨go, 0, none⟩) k cp).ownBlock = some kk → kk ≠ q ∧ kk ≠ g) := hid (fun kk hkk => by have := own_ge HOi.out kk hkk; omega)
          go_upto_region 10 with fail
          refine wp_region_cs (N := 121) [(pt q 0), (pt q 0), (pt q 4), (Value.slice (some ⟨g, 0, none⟩) n cap), (Value.slice (some ⟨go, 0, none⟩) k cp), (nu (j : Int)), (pt go (0 + j * 1)), (nu (x : Int)), (pt q 0), (pt q 0), (pt q 2), (nu (p.now + 1)), (nu ((p.now + 1) + 4)), (pt g (0 + x * 1)), undef] (fun L W => bif L 14 then (∃ W', Below wr.heap.size wr W' ∧ But g W' W ∧ W.heap[g]? = some (.cells (ic (DJ.take x) ++ ([nu (p.now + 1 + 4)] ++ (ic (DJ.drop (x + 1)) ++ S))).toArray 3)) else Below wr.heap.size wr W) [(36, (pt q 0)), (37, (pt q 0)), (38, (pt q 4)), (39, (Value.slice (some ⟨g, 0, none⟩) n cap)), (40, (Value.slice (some ⟨go, 0, none⟩) k cp)), (41, (nu (j : Int))), (42, (pt go (0 + j * 1))), (43, (nu (x : Int))), (44, (pt q 0)), (45, (pt q 0)), (46, (pt q 2)), (47, (nu (p.now + 1))), (48, (nu ((p.now + 1) + 4))), (49, (pt g (0 + x * 1)))] (by kernel_rfl) (by kernel_rfl) rfl (fun w1 hb => hb) (by kernel_rfl) ?_ ?_
          · intro i o ho
            match i, ho with
            | 0, ho => cases ho; exact fun L a w1 hLi hw hnot hJ hk hv K h => op_move 0 _ rfl (hk 0 (by kernel_rfl)) (h _ hJ)
            | 1, ho => cases ho; exact fun L a w1 hLi hw hnot hJ hk hv K h => op_nil 36 q 0 rfl (hv 0 36 (by kernel_rfl) (by kernel_rfl)) (h _ hJ)
            | 2, ho => cases ho; exact fun L a w1 hLi hw hnot hJ hk hv K h => op_fa 37 _ 4 q 0 4 rfl (fun W => by kernel_rfl) (hv 1 37 (by kernel_rfl) (by kernel_rfl)) (h _ hJ)
            | 3, ho => cases ho; exact fun L a w1 hLi hw hnot hJ hk hv K h => op_load1 _ (.tmp 38) rfl q 4 (hv 2 38 (by kernel_rfl) (by kernel_rfl)) (Value.slice (some ⟨g, 0, none⟩) n cap) _ (C4.out _ (jb hJ (hnot 14 _ rfl (by kernel_rfl)))) Try.underlying34 rfl (h _ hJ)
            | 4, ho => cases ho; exact fun L a w1 hLi hw hnot hJ hk hv K h => op_move 6 _ rfl (hk 6 (by kernel_rfl)) (h _ hJ)
            | 5, ho => cases ho; exact fun L a w1 hLi hw hnot hJ hk hv K h => op_move 8 _ rfl (hk 8 (by kernel_rfl)) (h _ hJ)
            | 6, ho => cases ho; exact fun L a w1 hLi hw hnot hJ hk hv K h => op_indexS 40 41 _ 3 rfl Try.underlying34 1 size3 go 0 k cp j hjl (hv 4 40 (by kernel_rfl) (by kernel_rfl)) (hv 5 41 (by kernel_rfl) (by kernel_rfl)) (h _ hJ)
            | 7, ho => cases ho; exact fun L a w1 hLi hw hnot hJ hk hv K h => op_load1 _ (.tmp 42) rfl go (0 + j * 1) (hv 6 42 (by kernel_rfl) (by kernel_rfl)) (nu (x : Int)) _ (CO.out _ (jb hJ (hnot 14 _ rfl (by kernel_rfl)))) Try.underlying3 rfl (h _ hJ)
            | 8, ho => cases ho; exact fun L a w1 hLi hw hnot hJ hk hv K h => op_move 0 _ rfl (hk 0 (by kernel_rfl)) (h _ hJ)
            | 9, ho => cases ho; exact fun L a w1 hLi hw hnot hJ hk hv K h => op_nil 44 q 0 rfl (hv 8 44 (by kernel_rfl) (by kernel_rfl)) (h _ hJ)
            | 10, ho => cases ho; exact fun L a w1 hLi hw hnot hJ hk hv K h => op_fa 45 _ 2 q 0 2 rfl (fun W => by kernel_rfl) (hv 9 45 (by kernel_rfl) (by kernel_rfl)) (h _ hJ)
            | 11, ho => cases ho; exact fun L a w1 hLi hw hnot hJ hk hv K h => op_load1 _ (.tmp 46) rfl q 2 (hv 10 46 (by kernel_rfl) (by kernel_rfl)) (nu (p.now + 1)) _ (C2.out _ (jb hJ (hnot 14 _ rfl (by kernel_rfl)))) Try.underlying3 rfl (h _ hJ)
            | 12, ho => cases ho; exact fun L a w1 hLi hw hnot hJ hk hv K h => op_addC 47 _ _ (p.now + 1) 4 rfl (hv 11 47 (by kernel_rfl) (by kernel_rfl)) I5 (h _ hJ)
            | 13, ho => cases ho; exact fun L a w1 hLi hw hnot hJ hk hv K h => op_indexS 39 43 _ 3 rfl Try.underlying34 1 size3 g 0 n cap x hxn (hv 3 39 (by kernel_rfl) (by kernel_rfl)) (hv 7 43 (by kernel_rfl) (by kernel_rfl)) (h _ hJ)
            | 14, ho => cases ho; exact fun L a w1 hLi hw hnot hJ hk hv K h => op_put1 3 49 48 rfl rfl g (0 + x * 1) (hv 13 49 (by kernel_rfl) (by kernel_rfl)) (ic (DJ.take x)) (ic (DJ.drop (x + 1)) ++ S) (nu (duI DJ (x : Int))) (nu (p.now + 1 + 4)) (hv 12 48 (by kernel_rfl) (by kernel_rfl)) 3 (RW.out _ (jb hJ hLi)) (by rw [LA.out]; omega) rfl size3 (fun w2 hr hbut => h _ (by show (bif up L 14 14 then _ else _); rw [up_self]; exact ⟨w1, jb hJ hLi, hbut, hr⟩))
            | (i + 15), ho => exact absurd ho (by simp)
          intro LL W5 hall hJ
          simp only [List.foldl_cons, List.foldl_nil, List.setIfInBounds_toArray, List.set_cons_zero, List.set_cons_succ]
          rw [hall 14 (by decide), cond_true] at hJ
          obtain ⟨W4, b4, hbut, hr5⟩ := hJ
          have HX5 := hid (HX10.out _ _ b4 hbut hr5)
          have K5 := hid (HKi.out.trans HX5.out.2)
          have X5 := hid HX5.out.1
          have O5 := hid (own_same HOi.out (fun kk hkk => HX5.out.2.block kk (own_lt HOi.out kk hkk) (by have := HNe.out kk hkk; simp; exact this)))
          clear b4 hbut hr5 hall HX5 HX10 HOi HXi HKi C0 C1 C2 C4 LA RW RN CO
          rw [← HNx.out] at X5
          go_wp2
          exact ⟨⟨j + 1, by omega, by go_num, O5, X5, K5⟩, by simp [intOf]; omega⟩
        · have d2 : decide ((j : Int) < (k : Int)) = false := decide_eq_false (by omega)
          have d2' : decide (j < k) = false := decide_eq_false hjl
          have hOT : OUT.take j = OUT := List.take_of_length_le (by omega)
          rw [hOT, ← hdT] at HXi
          have hP0 : readT me b p = false → tickN me b p = -1 ∧ tickP n me b p = ⟨p.now + 1, p.next, dueT n me p⟩ := fun e => by unfold tickN tickP; rw [e]; exact ⟨rfl, rfl⟩
          have hP1 : readT me b p = true → tickN me b p = p.next ∧ tickP n me b p = ⟨p.now + 1, nxP n me p.next, (dueT n me p).set me (p.now + 1 + 7)⟩ := fun e => by unfold tickN tickP; rw [e, Int.toNat_natCast]; exact ⟨rfl, rfl⟩
          have hdm : duI (dueT n me p) (me : Int) = duI p.due (me : Int) := by rw [dueT_at hlen _ (by omega), if_neg (fun kk => kk.1.2 rfl)]
          have hrd : readT me b p = (!b && !decide (p.now + 1 < duI (dueT n me p) (me : Int))) := by
            unfold readT
            rw [hdm]
            congr 1
            by_cases e : p.now + 1 < duI p.due (me : Int)
            · rw [decide_eq_true e, decide_eq_false (by omega)]; rfl
            · rw [decide_eq_false e, decide_eq_true (by omega)]; rfl
          clear hdm hdT hOT hrng
          have HNe : Hid (∀ kk, (Value.slice ao k cp).ownBlock = some kk → kk ≠ q ∧ kk ≠ g) := hid (fun kk hkk => by have := own_ge HOi.out kk hkk; omega)
          generalize dueT n me p = DT at *
          have p1 : ∀ dd os, (Sort.grow (redrawn wr dd) os).cell? ⟨q, 1, none⟩ = some (nu me) := fun dd os => cell_regrown HXi.out.c1 _ _
          have p2 : ∀ dd os, (Sort.grow (redrawn wr dd) os).cell? ⟨q, 2, none⟩ = some (nu (p.now + 1)) := fun dd os => cell_regrown HXi.out.c2 _ _
          have p4 : ∀ dd os, (Sort.grow (redrawn wr dd) os).cell? ⟨q, 4, none⟩ = some (Value.slice (some ⟨g, 0, none⟩) n cap) := fun dd os => cell_regrown HXi.out.c4 _ _
          have pm : ∀ dd os, (Sort.grow (redrawn wr dd) os).cell? ⟨g, 0 + me, none⟩ = some (nu (duI DT (me : Int))) := fun dd os => cell_regrown (HXi.out.du me hm) _ _
          have pm' : ∀ dd os, (Sort.grow (redrawn wr dd) os).cell? ⟨g, me, none⟩ = some (nu (duI DT (me : Int))) := fun dd os => by have := pm dd os; rwa [Nat.zero_add] at this
          have TL : Hid (∀ W, Kp [q, g] wr W → IntsAt W (.slice ao k cp) OUT) := hid (fun W hk => ints_of (by rw [hkl]; exact own_same HOi.out (fun kk hkk => hk.block kk (own_lt HOi.out kk hkk) (by have := HNe.out kk hkk; simp; exact this))))
          cases b with
          | true =>
            have hN := hP0 (by rw [hrd]; rfl)
            have HN := hid hN
            clear hP0 hP1 hrd hN
            go_upto_region 11 with fail
            refine wp_region_quiet_below (by kernel_rfl) (by kernel_rfl) ?_
            iterate 18 (first | go_big_quiet_step (fail) | quiet_step (fail))
            refine wpQuiet_nil ?_
            intro _ hw'
            obtain ⟨⟨dq, osq⟩, hw''⟩ := hw'
            subst hw''
            have bq := hid (below_regrown wr dq osq)
            generalize Sort.grow (redrawn wr dq) osq = W6 at *
            clear p1 p2 p4 pm pm'
            go_wp2
            go_ret2
            refine ⟨.slice ao k cp, by rw [HN.out.1]; rfl, ?_, ?_, HKi.out.trans (Kp.of bq.out)⟩
            · rw [HOe.out]; exact TL.out _ (Kp.of bq.out)
            · rw [HN.out.2]; exact HXi.out.kept bq.out
          | false =>
            cases hD : decide (p.now + 1 < duI DT (me : Int)) with
            | true =>
              have hN := hP0 (by rw [hrd, hD]; rfl)
              have HN := hid hN
              clear hP0 hP1 hrd hN
              go_upto_region 11 with fail
              refine wp_region_quiet_below (by kernel_rfl) (by kernel_rfl) ?_
              iterate 18 (first | go_big_quiet_step (fail) | quiet_step (fail))
              refine wpQuiet_nil ?_
              intro _ hw'
              obtain ⟨⟨dq, osq⟩, hw''⟩ := hw'
              subst hw''
              have bq := hid (below_regrown wr dq osq)
              generalize Sort.grow (redrawn wr dq) osq = W6 at *
              clear p1 p2 p4 pm pm'
              go_wp2
              go_ret2
              refine ⟨.slice ao k cp, by rw [HN.out.1]; rfl, ?_, ?_, HKi.out.trans (Kp.of bq.out)⟩
              · rw [HOe.out]; exact TL.out _ (Kp.of bq.out)
              · rw [HN.out.2]; exact HXi.out.kept bq.out
            | false =>
              have hN := hP1 (by rw [hrd, hD]; rfl)
              have HN := hid hN
              clear hP0 hP1 hrd hN
              go_upto_region 11 with fail
              refine wp_region_quiet_below (by kernel_rfl) (by kernel_rfl) ?_
              iterate 18 (first | go_big_quiet_step (fail) | quiet_step (fail))
              refine wpQuiet_nil ?_
              intro _ hw'
              obtain ⟨⟨dq, osq⟩, hw''⟩ := hw'
              subst hw''
              have bq := hid (below_regrown wr dq osq)
              generalize Sort.grow (redrawn wr dq) osq = W6 at *
              clear p1 p2 p4 pm pm'
              have X6 := hid (HXi.out.kept bq.out)
              have K6 : Hid (Kp [q, g] wr W6) := hid (Kp.of bq.out)
              clear hD bq
              have C0 := hid (fun W' (hb : Below W6.heap.size W6 W') => (XAt.kept X6.out hb).c0)
              have C1 := hid (fun W' (hb : Below W6.heap.size W6 W') => (XAt.kept X6.out hb).c1)
              have C2 := hid (fun W' (hb : Below W6.heap.size W6 W') => (XAt.kept X6.out hb).c2)
              have C4 := hid (fun W' (hb : Below W6.heap.size W6 W') => (XAt.kept X6.out hb).c4)
              have LA := hid ((due_split DT S me (by rw [X6.out.len]; exact hm) (p.now + 1 + 7)).2.2)
              have RW := hid (fun W' (hb : Below W6.heap.size W6 W') => (by rw [← (due_split DT S me (by rw [X6.out.len]; exact hm) (p.now + 1 + 7)).1]; exact row_kept X6.out.row hb : W'.heap[g]? = some (.cells (ic (DT.take me) ++ ([nu (duI DT (me : Int))] ++ (ic (DT.drop (me + 1)) ++ S))).toArray 3)))
              have RN := hid ((due_split DT S me (by rw [X6.out.len]; exact hm) (p.now + 1 + 7)).2.1)
              have HX13 : Hid (∀ W1 W2, Below W6.heap.size W6 W1 → But g W1 W2 → W2.heap[g]? = some (.cells (ic (DT.take me) ++ ([nu (p.now + 1 + 7)] ++ (ic (DT.drop (me + 1)) ++ S))).toArray 3) → XAt W2 q g cap S n me ⟨p.now + 1, p.next, DT.set me (p.now + 1 + 7)⟩ ∧ Kp [q, g] W6 W2) := fun W1 W2 hb hbut hr => X6.out.set hb hbut hm _ hr
              go_upto_region 13 with fail
              refine wp_region_cs (N := 121) [(pt q 0), (pt q 0), (pt q 4), (Value.slice (some ⟨g, 0, none⟩) n cap), (pt q 0), (pt q 0), (pt q 1), (nu me), (pt q 0), (pt q 0), (pt q 2), (nu (p.now + 1)), (nu ((p.now + 1) + 7)), (pt g (0 + me * 1)), undef] (fun L W => bif L 14 then (∃ W', Below W6.heap.size W6 W' ∧ But g W' W ∧ W.heap[g]? = some (.cells (ic (DT.take me) ++ ([nu (p.now + 1 + 7)] ++ (ic (DT.drop (me + 1)) ++ S))).toArray 3)) else Below W6.heap.size W6 W) [(69, (pt q 0)), (70, (pt q 0)), (71, (pt q 4)), (72, (Value.slice (some ⟨g, 0, none⟩) n cap)), (73, (pt q 0)), (74, (pt q 0)), (75, (pt q 1)), (76, (nu me)), (77, (pt q 0)), (78, (pt q 0)), (79, (pt q 2)), (80, (nu (p.now + 1))), (81, (nu ((p.now + 1) + 7))), (82, (pt g (0 + me * 1)))] (by kernel_rfl) (by kernel_rfl) rfl (fun w1 hb => hb) (by kernel_rfl) ?_ ?_
              · intro i o ho
                match i, ho with
                | 0, ho => cases ho; exact fun L a w1 hLi hw hnot hJ hk hv K h => op_move 0 _ rfl (hk 0 (by kernel_rfl)) (h _ hJ)
                | 1, ho => cases ho; exact fun L a w1 hLi hw hnot hJ hk hv K h => op_nil 69 q 0 rfl (hv 0 69 (by kernel_rfl) (by kernel_rfl)) (h _ hJ)
                | 2, ho => cases ho; exact fun L a w1 hLi hw hnot hJ hk hv K h => op_fa 70 _ 4 q 0 4 rfl (fun W => by kernel_rfl) (hv 1 70 (by kernel_rfl) (by kernel_rfl)) (h _ hJ)
                | 3, ho => cases ho; exact fun L a w1 hLi hw hnot hJ hk hv K h => op_load1 _ (.tmp 71) rfl q 4 (hv 2 71 (by kernel_rfl) (by kernel_rfl)) (Value.slice (some ⟨g, 0, none⟩) n cap) _ (C4.out _ (jb hJ (hnot 14 _ rfl (by kernel_rfl)))) Try.underlying34 rfl (h _ hJ)
                | 4, ho => cases ho; exact fun L a w1 hLi hw hnot hJ hk hv K h => op_move 0 _ rfl (hk 0 (by kernel_rfl)) (h _ hJ)
                | 5, ho => cases ho; exact fun L a w1 hLi hw hnot hJ hk hv K h => op_nil 73 q 0 rfl (hv 4 73 (by kernel_rfl) (by kernel_rfl)) (h _ hJ)
                | 6, ho => cases ho; exact fun L a w1 hLi hw hnot hJ hk hv K h => op_fa 74 _ 1 q 0 1 rfl (fun W => by kernel_rfl) (hv 5 74 (by kernel_rfl) (by kernel_rfl)) (h _ hJ)
                | 7, ho => cases ho; exact fun L a w1 hLi hw hnot hJ hk hv K h => op_load1 _ (.tmp 75) rfl q 1 (hv 6 75 (by kernel_rfl) (by kernel_rfl)) (nu me) _ (C1.out _ (jb hJ (hnot 14 _ rfl (by kernel_rfl)))) Try.underlying3 rfl (h _ hJ)
                | 8, ho => cases ho; exact fun L a w1 hLi hw hnot hJ hk hv K h => op_move 0 _ rfl (hk 0 (by kernel_rfl)) (h _ hJ)
                | 9, ho => cases ho; exact fun L a w1 hLi hw hnot hJ hk hv K h => op_nil 77 q 0 rfl (hv 8 77 (by kernel_rfl) (by kernel_rfl)) (h _ hJ)
                | 10, ho => cases ho; exact fun L a w1 hLi hw hnot hJ hk hv K h => op_fa 78 _ 2 q 0 2 rfl (fun W => by kernel_rfl) (hv 9 78 (by kernel_rfl) (by kernel_rfl)) (h _ hJ)
                | 11, ho => cases ho; exact fun L a w1 hLi hw hnot hJ hk hv K h => op_load1 _ (.tmp 79) rfl q 2 (hv 10 79 (by kernel_rfl) (by kernel_rfl)) (nu (p.now + 1)) _ (C2.out _ (jb hJ (hnot 14 _ rfl (by kernel_rfl)))) Try.underlying3 rfl (h _ hJ)
                | 12, ho => cases ho; exact fun L a w1 hLi hw hnot hJ hk hv K h => op_addC 80 _ _ (p.now + 1) 7 rfl (hv 11 80 (by kernel_rfl) (by kernel_rfl)) I8 (h _ hJ)
                | 13, ho => cases ho; exact fun L a w1 hLi hw hnot hJ hk hv K h => op_indexS 72 76 _ 3 rfl Try.underlying34 1 size3 g 0 n cap me hm (hv 3 72 (by kernel_rfl) (by kernel_rfl)) (hv 7 76 (by kernel_rfl) (by kernel_rfl)) (h _ hJ)
                | 14, ho => cases ho; exact fun L a w1 hLi hw hnot hJ hk hv K h => op_put1 3 82 81 rfl rfl g (0 + me * 1) (hv 13 82 (by kernel_rfl) (by kernel_rfl)) (ic (DT.take me)) (ic (DT.drop (me + 1)) ++ S) (nu (duI DT (me : Int))) (nu (p.now + 1 + 7)) (hv 12 81 (by kernel_rfl) (by kernel_rfl)) 3 (RW.out _ (jb hJ hLi)) (by rw [LA.out]; omega) rfl size3 (fun w2 hr hbut => h _ (by show (bif up L 14 14 then _ else _); rw [up_self]; exact ⟨w1, jb hJ hLi, hbut, hr⟩))
                | (i + 15), ho => exact absurd ho (by simp)
              intro LL W5 hall hJ
              simp only [List.foldl_cons, List.foldl_nil, List.setIfInBounds_toArray, List.set_cons_zero, List.set_cons_succ]
              rw [hall 14 (by decide), cond_true] at hJ
              obtain ⟨W4, b4, hbut, hr5⟩ := hJ
              have HX5 := hid (HX13.out _ _ b4 hbut hr5)
              have K7 := hid (K6.out.trans HX5.out.2)
              have X7 := hid HX5.out.1
              clear b4 hbut hr5 hall HX5 HX13 K6 X6 C0 C1 C2 C4 LA RW RN
              have c3 := X7.out.c3
              have c0 := X7.out.c0
              have ht : (p.next + 1).tmod (n : Int) = (p.next + 1) % n := Int.tmod_eq_emod_of_nonneg (by omega)
              have ht2 : ((me : Int) + 1).tmod (n : Int) = ((me : Int) + 1) % n := Int.tmod_eq_emod_of_nonneg (by omega)
              have hn0 : (n : Int) ≠ 0 := by omega
              have Q7 : Hid (W5.heap[q]? = some (.cells ([nu n, nu me, nu (p.now + 1)] ++ ([nu p.next] ++ [Value.slice (some ⟨g, 0, none⟩) n cap])).toArray 36)) := X7.out.obj
              go_wp2_with ((with_reducible refine wl_put1 3 (.tmp 96) (.tmp 94) ?_ ?_ q 3 ?_ ?_ [nu n, nu me, nu (p.now + 1)] [Value.slice (some ⟨g, 0, none⟩) n cap] (nu p.next) (nu ((p.next + 1) % n)) ?_ 36 Q7.out ?_ ?_ ?_ ?_); exact rfl; exact rfl; exact rfl; exact rfl; exact rfl; exact rfl; exact rfl; exact size3; intro W8 r8 b8)
              have HP8 := hid (X7.out.put b8 r8)
              have X8 := hid HP8.out.1
              have K8 := hid (K7.out.trans HP8.out.2)
              clear r8 b8 HP8 Q7 X7 K7 c3 c0 ht
              have hnxe : nxP n me p.next = if (p.next + 1) % n = me then ((me : Int) + 1) % n else (p.next + 1) % n := rfl
              have hme : ((me : Int) + 1) % n = (((me + 1) % n : Nat) : Int) := rfl
              generalize (p.next + 1) % (n : Int) = nx at *
              have q1 : ∀ dd os, (Sort.grow (redrawn W8 dd) os).cell? ⟨q, 1, none⟩ = some (nu me) := fun dd os => cell_regrown X8.out.c1 _ _
              have q3 : ∀ dd os, (Sort.grow (redrawn W8 dd) os).cell? ⟨q, 3, none⟩ = some (nu nx) := fun dd os => cell_regrown X8.out.c3 _ _
              by_cases he : nx = (me : Int)
              · have de : (nx == (me : Int)) = true := by rw [he]; exact beq_self_eq_true _
                rw [if_pos he, hme] at hnxe
                clear he
                refine wp_region_quiet_below (by kernel_rfl) (by kernel_rfl) ?_
                iterate 9 (first | go_big_quiet_step (fail) | quiet_step (fail))
                refine wpQuiet_nil ?_
                intro _ hw'
                obtain ⟨⟨dq, osq⟩, hw''⟩ := hw'
                subst hw''
                have bq := hid (below_regrown W8 dq osq)
                generalize Sort.grow (redrawn W8 dq) osq = W9 at *
                clear q1 q3
                have X9 := hid (X8.out.kept bq.out)
                have K9 := hid (K8.out.trans (Kp.of bq.out))
                clear bq X8 K8 de
                have C0 := hid (fun W' (hb : Below W9.heap.size W9 W') => (XAt.kept X9.out hb).c0)
                have C1 := hid (fun W' (hb : Below W9.heap.size W9 W') => (XAt.kept X9.out hb).c1)
                have RW := hid (fun W' (hb : Below W9.heap.size W9 W') => ((XAt.kept X9.out hb).obj : W'.heap[q]? = some (.cells ([nu n, nu me, nu (p.now + 1)] ++ ([nu nx] ++ [Value.slice (some ⟨g, 0, none⟩) n cap])).toArray 36)))
                go_upto_region 17 with fail
                refine wp_region_cs (N := 121) [(pt q 0), (pt q 0), (pt q 0), (pt q 1), (nu me), (nu (me + 1)), (pt q 0), (pt q 0), (pt q 0), (nu n), (nu (((me + 1) % n : Nat) : Int)), (pt q 0), (pt q 3), undef] (fun L W => bif L 13 then (∃ W', Below W9.heap.size W9 W' ∧ But q W' W ∧ W.heap[q]? = some (.cells ([nu n, nu me, nu (p.now + 1)] ++ ([nu (((me + 1) % n : Nat) : Int)] ++ [Value.slice (some ⟨g, 0, none⟩) n cap])).toArray 36)) else Below W9.heap.size W9 W) [(106, (pt q 0)), (107, (pt q 0)), (108, (pt q 0)), (109, (pt q 1)), (110, (nu me)), (111, (nu (me + 1))), (112, (pt q 0)), (113, (pt q 0)), (114, (pt q 0)), (115, (nu n)), (116, (nu (((me + 1) % n : Nat) : Int))), (117, (pt q 0)), (118, (pt q 3))] (by kernel_rfl) (by kernel_rfl) rfl (fun w1 hb => hb) (by kernel_rfl) ?_ ?_
                · intro i o ho
                  match i, ho with
                  | 0, ho => cases ho; exact fun L a w1 hLi hw hnot hJ hk hv K h => op_move 0 _ rfl (hk 0 (by kernel_rfl)) (h _ hJ)
                  | 1, ho => cases ho; exact fun L a w1 hLi hw hnot hJ hk hv K h => op_move 0 _ rfl (hk 0 (by kernel_rfl)) (h _ hJ)
                  | 2, ho => cases ho; exact fun L a w1 hLi hw hnot hJ hk hv K h => op_nil 107 q 0 rfl (hv 1 107 (by kernel_rfl) (by kernel_rfl)) (h _ hJ)
                  | 3, ho => cases ho; exact fun L a w1 hLi hw hnot hJ hk hv K h => op_fa 108 _ 1 q 0 1 rfl (fun W => by kernel_rfl) (hv 2 108 (by kernel_rfl) (by kernel_rfl)) (h _ hJ)
                  | 4, ho => cases ho; exact fun L a w1 hLi hw hnot hJ hk hv K h => op_load1 _ (.tmp 109) rfl q 1 (hv 3 109 (by kernel_rfl) (by kernel_rfl)) (nu me) _ (C1.out _ (jb hJ (hnot 13 _ rfl (by kernel_rfl)))) Try.underlying3 rfl (h _ hJ)
                  | 5, ho => cases ho; exact fun L a w1 hLi hw hnot hJ hk hv K h => op_addC 110 _ _ me 1 rfl (hv 4 110 (by kernel_rfl) (by kernel_rfl)) IM (h _ hJ)
                  | 6, ho => cases ho; exact fun L a w1 hLi hw hnot hJ hk hv K h => op_move 0 _ rfl (hk 0 (by kernel_rfl)) (h _ hJ)
                  | 7, ho => cases ho; exact fun L a w1 hLi hw hnot hJ hk hv K h => op_nil 112 q 0 rfl (hv 6 112 (by kernel_rfl) (by kernel_rfl)) (h _ hJ)
                  | 8, ho => cases ho; exact fun L a w1 hLi hw hnot hJ hk hv K h => op_fa 113 _ 0 q 0 0 rfl (fun W => by kernel_rfl) (hv 7 113 (by kernel_rfl) (by kernel_rfl)) (h _ hJ)
                  | 9, ho => cases ho; exact fun L a w1 hLi hw hnot hJ hk hv K h => op_load1 _ (.tmp 114) rfl q 0 (hv 8 114 (by kernel_rfl) (by kernel_rfl)) (nu n) _ (C0.out _ (jb hJ (hnot 13 _ rfl (by kernel_rfl)))) Try.underlying3 rfl (h _ hJ)
                  | 10, ho => cases ho; exact fun L a w1 hLi hw hnot hJ hk hv K h => op_remT 111 115 _ _ (me + 1) n (by omega) rfl ((hv 5 111 (by kernel_rfl) (by kernel_rfl)).trans rfl) (hv 9 115 (by kernel_rfl) (by kernel_rfl)) (h _ hJ)
                  | 11, ho => cases ho; exact fun L a w1 hLi hw hnot hJ hk hv K h => op_nil 106 q 0 rfl (hv 0 106 (by kernel_rfl) (by kernel_rfl)) (h _ hJ)
                  | 12, ho => cases ho; exact fun L a w1 hLi hw hnot hJ hk hv K h => op_fa 117 _ 3 q 0 3 rfl (fun W => by kernel_rfl) (hv 11 117 (by kernel_rfl) (by kernel_rfl)) (h _ hJ)
                  | 13, ho => cases ho; exact fun L a w1 hLi hw hnot hJ hk hv K h => op_put1 3 118 116 rfl rfl q 3 (hv 12 118 (by kernel_rfl) (by kernel_rfl)) [nu n, nu me, nu (p.now + 1)] [Value.slice (some ⟨g, 0, none⟩) n cap] (nu nx) (nu (((me + 1) % n : Nat) : Int)) (hv 10 116 (by kernel_rfl) (by kernel_rfl)) 36 (RW.out _ (jb hJ hLi)) rfl rfl size3 (fun w2 hr hbut => h _ (by show (bif up L 13 13 then _ else _); rw [up_self]; exact ⟨w1, jb hJ hLi, hbut, hr⟩))
                  | (i + 14), ho => exact absurd ho (by simp)
                intro LL W10 hall hJ
                simp only [List.foldl_cons, List.foldl_nil, List.setIfInBounds_toArray, List.set_cons_zero, List.set_cons_succ]
                rw [hall 13 (by decide), cond_true] at hJ
                obtain ⟨W4, b4, hbut, hr5⟩ := hJ
                have HP := hid (X9.out.low (B := W9.heap.size) b4 X9.out.lt.1 X9.out.lt.2)
                have HP9 := hid (HP.out.put hbut hr5)
                have X10 := hid HP9.out.1
                have K10 := hid ((K9.out.trans (Kp.of b4)).trans HP9.out.2)
                clear hr5 hbut b4 HP HP9 hall X9 K9 C0 C1 RW
                go_wp2
                go_ret2
                refine ⟨.slice ao k cp, by rw [HN.out.1]; rfl, ?_, ?_, HKi.out.trans K10.out⟩
                · rw [HOe.out]; exact TL.out _ K10.out
                · rw [HN.out.2, hnxe]; exact X10.out
              · have de : (nx == (me : Int)) = false := beq_false_of_ne he
                rw [if_neg he] at hnxe
                clear he
                refine wp_region_quiet_below (by kernel_rfl) (by kernel_rfl) ?_
                iterate 9 (first | go_big_quiet_step (fail) | quiet_step (fail))
                refine wpQuiet_nil ?_
                intro _ hw'
                obtain ⟨⟨dq, osq⟩, hw''⟩ := hw'
                subst hw''
                have bq := hid (below_regrown W8 dq osq)
                generalize Sort.grow (redrawn W8 dq) osq = W9 at *
                clear q1 q3
                have X9 := hid (X8.out.kept bq.out)
                have K9 := hid (K8.out.trans (Kp.of bq.out))
                clear bq X8 K8 de
                go_wp2
                go_ret2
                refine ⟨.slice ao k cp, by rw [HN.out.1]; rfl, ?_, ?_, HKi.out.trans K9.out⟩
                · rw [HOe.out]; exact TL.out _ K9.out
                · rw [HN.out.2, hnxe]; exact X9.out
end
end Go.Proofs.Ytkjgiidmajjonaa.Kn
