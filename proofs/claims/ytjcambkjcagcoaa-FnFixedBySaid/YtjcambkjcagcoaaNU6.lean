import Derived.Test.YtjcambkjcagcoaaNU3
namespace Go.Proofs.Ytjcambkjcagcoaa
open Go.RowKit
set_option linter.unusedVariables false

/-- an algebra and numbers are drawn, in blocks of their types -/
def RetDAjY (w : World) (e : Ending) (w' : World) : Prop := ∃ (L : List Int) (T : List (List Int)) (a : Option Addr) (ca : Nat) (b : Option Addr) (cb : Nat) (t : List Int) (at_ : Option Addr) (ct : Nat), e = .returned (.tuple #[.agg #[.slice a L.length ca, .slice b T.length cb], .slice at_ t.length ct]) ∧ SomeP L T ∧ RY w' a L ∧ TY w' b T ∧ Below w.heap.size w w' ∧ RY w' at_ t ∧ t.length ≤ ct ∧ t.length ≤ 40
theorem kpEndN {q : Nat} {wk : World} {x y u v : Value} {wf : World} (hz : wk.heap[q]? = some (.cells #[x, y] 26 (0, 0))) (hf : wf = (wk.setCell ⟨q, 0, none⟩ u).setCell ⟨q, 1, none⟩ v ∨ wf = ((wk.setCell ⟨q, 0, none⟩ u).setCell ⟨q, 1, none⟩ v).drew) : Kp wk wf := by
  have hk := kp_row hz (set2_other wk q u v)
  rcases hf with rfl | rfl
  · exact hk
  · exact hk
theorem kpBoxN {q : Nat} {wk : World} {x y : Value} {cs : Array Value} (hz : wk.heap[q]? = some (.cells #[x, y] 26 (0, 0))) : Kp wk (wk.setRow q cs) := kp_row hz (fun k hk => setRow_other wk q k _ hk)
set_option maxRecDepth 100000 in
set_option maxHeartbeats 4000000 in
/-- spec.DrawIsNucleus, its lists in blocks of their types -/
theorem drawIsNucleusY_any (a : Option Addr) (n cap : Nat) (w : World) (hy : RdY w a n w.heap.size) (hc : n ≤ cap) (hm : n ≤ 1048576) :
    Calls Try.prog 48 #[.slice a n cap] w (RetDAjY w) := by
  obtain ⟨i0, hi, hi0, hi1, hi2⟩ := info_parts info_int
  obtain ⟨w0, hw0⟩ : ∃ w0, w0 = w.alloc (.cells #[.slice none 0 0, .slice none 0 0] 26) := ⟨_, rfl⟩
  have hB : Below w.heap.size w w0 := by rw [hw0]; exact (Below.refl _ _).alloc (Nat.le_refl _) _
  have hz0 : w0.heap[w.heap.size]? = some (.cells #[.slice none 0 0, .slice none 0 0] 26 (0, 0)) := by rw [hw0]; exact heap_alloc_new w _
  have lz := lt_of_block hz0
  have hy0 := hy.up hB hB.size
  clear hy
  go_enter Try.func48, Try.ntmps48
  go_wp2_with (rw [← hw0]; clear hw0)
  refine (newReader_any a n cap w0 hy0 hc hm).mono ?_
  rintro e w1 ⟨rfl, hb1, hr1⟩
  have hs1 := hb1.size
  obtain ⟨g, hg⟩ : ∃ g : Nat, g = w0.heap.size := ⟨_, rfl⟩
  rw [← hg] at hr1 ⊢
  have lg : w.heap.size < g := by omega
  have hz1 := (hb1.block _ lz).trans hz0
  have hB1 : Below w.heap.size w w1 := hB.trans (hb1.mono hB.size)
  clear hg hz0 hb1 hy0
  go_wp2_with fail
  refine (someAlgebra_any g g 0 w1 hr1 (by omega)).mono ?_
  rintro e w2 ⟨L, T, va, vca, vb, vcb, rfl, hP, hR2, hT2, hg2, hr2⟩
  obtain ⟨l1, l7, _, _⟩ := someP_len hP
  have hz2 := box_drawn hz1 (by omega) hg2
  have gl2 := hr2.lt
  go_wp2_with (refine wpList_store_row rfl 26 _ _ rfl w2.heap.size #[.slice va L.length vca, .slice vb T.length vcb] rfl rfl _ _ (heap_alloc_new w2 (.cells #[.slice none 0 0, .slice none 0 0] 26)) (size_Alg _ _) rfl (one_sl2 _ _ _ _ _ _) ?_; rw [World.setRow_alloc_new]; obtain ⟨q6, w4, eq6, ew4, hgw4, hBw4, K6⟩ := drawn_box (.slice va L.length vca) (.slice vb T.length vcb) gl2; rw [← ew4, ← eq6]; have lq6 : w.heap.size < q6 := (by have := lt_of_block hz2; omega); have hz4 := (hBw4.block _ (lt_of_block hz2)).trans hz2; clear ew4 eq6)
  have hr4 := hr2.below hBw4
  have hkA := kp_below hBw4
  have hR4 := hR2.kp hkA
  have hT4 := hT2.kp hkA
  have hx4 := K6.out _ (grown_refl _ _)
  have nq6 : q6 ≠ g := fun e => by
    obtain ⟨c, hc⟩ := hr4.type
    rw [← e, hx4] at hc
    injection hc with hc
    injection hc with _ hc
    exact absurd hc (by decide)
  obtain ⟨c0, c1⟩ := bx_cells hx4
  have hgA := grown_new hg2 hBw4
  have HR4 := Lib.hid hr4
  have HR := Lib.hid hR4
  have HT := Lib.hid hT4
  have HP := Lib.hid hP
  clear hR2 hT2 hR4 hT4 hP hkA hz1 hz2 hr2 hr1 hx4 hBw4
  go_region_held3 (fun w' => w'.cell? ⟨q6, 0, none⟩ = some (.slice va L.length vca) ∧ w'.cell? ⟨q6, 1, none⟩ = some (.slice vb T.length vcb))
    (first | go_keep | exact ⟨e0, e1⟩ | exact ⟨cell_set2 e0 (by omega), cell_set2 e1 (by omega)⟩)
    (first
      | (go_simp; go_at_call 103; (with_reducible refine (nucleusOf_any g g (0 + 12) L T va vb vca vcb w4 (hr4) (by omega) (HR.out.rd) (HT.out.rd)).mono ?_); rintro e w10 ⟨t, ta, tc, rfl, hry, hct, hlt, hg10, hr10⟩; have hg410 := grown_trans (grown_refl w4 (some g)) hg10; have e0 := (bx_cells (K6.out _ hg410)).1; have e1 := (bx_cells (K6.out _ hg410)).2; have hz5 := box_drawn2 (b := w.heap.size) hg410 (by omega) hz4; obtain ⟨z0, z1⟩ := bx_cells hz5; have zf0 := frozen_of_row w10 _ 0 _ _ hz5; have zf1 := frozen_of_row w10 _ 1 _ _ hz5; have hRk := HR.out.kp (kp_drawn HR4.out hg410); have hTk := HT.out.kp (kp_drawn HR4.out hg410); have hgF := grown_trans hgA hg410)
      | (go_simp; go_at_call 103; (with_reducible refine (nucleusOf_any g g (0 + 12) L T va vb vca vcb w4.drew (hr4.drew) (by omega) ((HR.out.kp (kp_below ((Below.refl _ _).drew))).rd) ((HT.out.kp (kp_below ((Below.refl _ _).drew))).rd)).mono ?_); rintro e w10 ⟨t, ta, tc, rfl, hry, hct, hlt, hg10, hr10⟩; have hg410 := grown_trans (grown_drew (grown_refl w4 (some g))) hg10; have e0 := (bx_cells (K6.out _ hg410)).1; have e1 := (bx_cells (K6.out _ hg410)).2; have hz5 := box_drawn2 (b := w.heap.size) hg410 (by omega) hz4; obtain ⟨z0, z1⟩ := bx_cells hz5; have zf0 := frozen_of_row w10 _ 0 _ _ hz5; have zf1 := frozen_of_row w10 _ 1 _ _ hz5; have hRk := HR.out.kp (kp_drawn HR4.out hg410); have hTk := HT.out.kp (kp_drawn HR4.out hg410); have hgF := grown_trans hgA hg410))
  go_wp2
  refine bodyPost_ret (v := .tuple #[.agg #[.slice va L.length vca, .slice vb T.length vcb], .slice ta t.length tc]) (results_Alg_tmp rfl _ _ w.heap.size rfl _ _ (set1_heap (set0_heap hz5)) rfl) rfl ?_
  have HD := drA_end hz5 (Nat.le_refl _) HP.out hRk hTk hB1 hgF (by omega) (u := .slice va L.length vca) (v := .slice vb T.length vcb) (by first | exact .inl rfl | exact .inr rfl)
  exact ⟨L, T, va, vca, vb, vcb, t, ta, tc, rfl, HP.out, hRk.kp (kpEndN hz5 (by first | exact .inl rfl | exact .inr rfl)), hTk.kp (kpEndN hz5 (by first | exact .inl rfl | exact .inr rfl)), HD.2.2.2, hry.kp (kpEndN hz5 (by first | exact .inl rfl | exact .inr rfl)), hct, by omega⟩
set_option maxRecDepth 100000 in
set_option maxHeartbeats 2000000 in
/-- spec.DrawFixedBy -/
theorem drawFixedBy_any (a : Option Addr) (n cap : Nat) (w : World) (hy : RdY w a n w.heap.size) (hc : n ≤ cap) (hm : n ≤ 1048576) :
    Calls Try.prog 11 #[.slice a n cap] w (RetDAj w) := by
  obtain ⟨w0, hw0⟩ : ∃ w0, w0 = w.alloc (.cells #[.slice none 0 0, .slice none 0 0] 26) := ⟨_, rfl⟩
  have hB : Below w.heap.size w w0 := by rw [hw0]; exact (Below.refl _ _).alloc (Nat.le_refl _) _
  have hz0 : w0.heap[w.heap.size]? = some (.cells #[.slice none 0 0, .slice none 0 0] 26 (0, 0)) := by rw [hw0]; exact heap_alloc_new w _
  have lz := lt_of_block hz0
  have hy0 := hy.up hB hB.size
  clear hy
  go_enter Try.func11, Try.ntmps11
  go_wp2_with (rw [← hw0]; clear hw0)
  refine (drawIsNucleusY_any a n cap w0 hy0 hc hm).mono ?_
  rintro e w1 ⟨L, T, va, vca, vb, vcb, t, ta, tc, rfl, hP, hR, hT, hb1, ht, htc, ht40⟩
  have hz1 := (hb1.block _ lz).trans hz0
  have hB1 : Below w.heap.size w w1 := hB.trans (hb1.mono hB.size)
  have hk := kpBoxN (cs := #[.slice va L.length vca, .slice vb T.length vcb]) hz1
  have HD := Lib.hid (show DrA w L T va vb (w1.setRow w.heap.size #[.slice va L.length vca, .slice vb T.length vcb]) from ⟨hP, (hR.kp hk).rd, (hT.kp hk).rd, below_setRow' hB1 (Nat.le_refl _) _⟩)
  have Ht := Lib.hid (ht.kp hk).rd
  clear hP hR hT ht hk hz0 hb1
  go_wp2_with (refine wpList_store_row rfl 26 _ _ rfl w.heap.size #[.slice va L.length vca, .slice vb T.length vcb] rfl rfl _ _ hz1 (size_Alg _ _) rfl (one_sl2 _ _ _ _ _ _) ?_)
  refine bodyPost_ret (v := .tuple #[.agg #[.slice va L.length vca, .slice vb T.length vcb], .slice ta t.length tc]) (results_Alg_tmp rfl _ _ w.heap.size rfl _ _ (setRow_heap _ _ _ _ _ _ hz1) rfl) rfl ?_
  exact ⟨L, T, va, vca, vb, vcb, t, ta, tc, rfl, HD.out, Ht.out, htc, ht40⟩
end Go.Proofs.Ytjcambkjcagcoaa
