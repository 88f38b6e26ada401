import Derived.Test.YtjcambkjcagcoaaSA7
namespace Go.Proofs.Ytjcambkjcagcoaa
open Go.RowKit

set_option maxRecDepth 100000 in
set_option maxHeartbeats 2000000 in
/-- spec.DrawClassesOf -/
theorem drawClassesOf_any (a : Option Addr) (n cap : Nat) (w : World) (hy : RdY w a n w.heap.size) (hc : n ≤ cap) (hm : n ≤ 1048576) :
    Calls Try.prog 78 #[.slice a n cap] w (RetDAi w) := by
  obtain ⟨w0, hw0⟩ : ∃ w0, w0 = w.alloc (.cells #[.slice none 0 0, .slice none 0 0] 26) := ⟨_, rfl⟩
  have hB : Below w.heap.size w w0 := by rw [hw0]; exact (Below.refl _ _).alloc (Nat.le_refl _) _
  have hz0 : w0.heap[w.heap.size]? = some (.cells #[.slice none 0 0, .slice none 0 0] 26 (0, 0)) := by rw [hw0]; exact heap_alloc_new w _
  have lz := lt_of_block hz0
  have hy0 := hy.up hB hB.size
  clear hy
  go_enter Try.func78, Try.ntmps78
  go_wp2_with (rw [← hw0]; clear hw0)
  refine (newReader_any a n cap w0 hy0 hc hm).mono ?_
  rintro e w1 ⟨rfl, hb1, hr1⟩
  have hs1 := hb1.size
  obtain ⟨g, hg⟩ : ∃ g : Nat, g = w0.heap.size := ⟨_, rfl⟩
  rw [← hg] at hr1 ⊢
  have lg : w.heap.size < g := by omega
  have hz1 := (hb1.block _ lz).trans hz0
  have hB1 : Below w.heap.size w w1 := hB.trans (hb1.mono hB.size)
  clear hg hz0 hb1 hy0
  go_wp2_with fail
  refine (someAlgebra_any g g 0 w1 hr1 (by omega)).mono ?_
  rintro e w2 ⟨L, T, va, vca, vb, vcb, rfl, hP, hR2, hT2, hg2, hr2⟩
  obtain ⟨l1, l7, _, _⟩ := someP_len hP
  have hz2 := box_drawn hz1 (by omega) hg2
  have gl2 := hr2.lt
  go_wp2_with (refine wpList_store_row rfl 26 _ _ rfl w2.heap.size #[.slice va L.length vca, .slice vb T.length vcb] rfl rfl _ _ (heap_alloc_new w2 (.cells #[.slice none 0 0, .slice none 0 0] 26)) (size_Alg _ _) rfl (one_sl2 _ _ _ _ _ _) ?_; rw [World.setRow_alloc_new]; obtain ⟨q6, w4, eq6, ew4, hgw4, hBw4, K6⟩ := drawn_box (.slice va L.length vca) (.slice vb T.length vcb) gl2; rw [← ew4, ← eq6]; have lq6 : w.heap.size < q6 := (by have := lt_of_block hz2; omega); have hz4 := (hBw4.block _ (lt_of_block hz2)).trans hz2; clear ew4 eq6)
  have hr4 := hr2.below hBw4
  have hkA := kp_below hBw4
  have hR4 := hR2.kp hkA
  have hT4 := hT2.kp hkA
  have hx4 := K6.out _ (grown_refl _ _)
  have nq6 : q6 ≠ g := fun e => by
    obtain ⟨c, hc⟩ := hr4.type
    rw [← e, hx4] at hc
    injection hc with hc
    injection hc with _ hc
    exact absurd hc (by decide)
  obtain ⟨c0, c1⟩ := bx_cells hx4
  have hgA := grown_new hg2 hBw4
  have HR := Lib.hid hR4
  have HT := Lib.hid hT4
  have HP := Lib.hid hP
  clear hR2 hT2 hR4 hT4 hP hkA hz1 hz2 hr2 hr1 hx4 hBw4
  go_region_held3 (fun w' => w'.cell? ⟨q6, 0, none⟩ = some (.slice va L.length vca) ∧ w'.cell? ⟨q6, 1, none⟩ = some (.slice vb T.length vcb))
    (first | go_keep | exact ⟨e0, e1⟩ | exact ⟨f0, f1⟩ | exact ⟨cell_set2 e0 (by omega), cell_set2 e1 (by omega)⟩ | exact ⟨cell_set2 f0 (by omega), cell_set2 f1 (by omega)⟩)
    (first
      | (go_simp; go_at_call 122; (with_reducible refine (rFilterOf_any g g (0 + 12) w4 (hr4) (by omega) va vb vca vcb L T (HR.out) (HT.out) (by omega) (by omega)).mono ?_); rintro e w5 ⟨x, x0, x1, rfl, hg5, hr5⟩; have hg45 := grown_trans (grown_refl w4 (some g)) hg5; have e0 := (bx_cells (K6.out _ hg45)).1; have e1 := (bx_cells (K6.out _ hg45)).2; have hz5 := box_drawn2 (b := w.heap.size) hg45 (by omega) hz4; obtain ⟨z0, z1⟩ := bx_cells hz5; have zf0 := frozen_of_row w5 _ 0 _ _ hz5; have zf1 := frozen_of_row w5 _ 1 _ _ hz5; have hRk := HR.out.kp (kp_drawn hr4 hg45); have hTk := HT.out.kp (kp_drawn hr4 hg45); have hgF := grown_trans hgA hg45)
      | (go_simp; go_at_call 122; (with_reducible refine (rFilterOf_any g g (0 + 12) w4.drew (hr4.drew) (by omega) va vb vca vcb L T ((HR.out.kp (kp_below ((Below.refl _ _).drew)))) ((HT.out.kp (kp_below ((Below.refl _ _).drew)))) (by omega) (by omega)).mono ?_); rintro e w5 ⟨x, x0, x1, rfl, hg5, hr5⟩; have hg45 := grown_trans (grown_drew (grown_refl w4 (some g))) hg5; have e0 := (bx_cells (K6.out _ hg45)).1; have e1 := (bx_cells (K6.out _ hg45)).2; have hz5 := box_drawn2 (b := w.heap.size) hg45 (by omega) hz4; obtain ⟨z0, z1⟩ := bx_cells hz5; have zf0 := frozen_of_row w5 _ 0 _ _ hz5; have zf1 := frozen_of_row w5 _ 1 _ _ hz5; have hRk := HR.out.kp (kp_drawn hr4 hg45); have hTk := HT.out.kp (kp_drawn hr4 hg45); have hgF := grown_trans hgA hg45))
  go_wp2
  refine bodyPost_ret (v := .tuple #[.agg #[.slice va L.length vca, .slice vb T.length vcb], .int .i64 x]) (results_Alg_tmp rfl _ _ w.heap.size rfl _ _ (set1_heap (set0_heap hz5)) rfl) rfl ?_
  exact ⟨L, T, va, vca, vb, vcb, x, rfl, x0, by omega, drA_end hz5 (Nat.le_refl _) HP.out hRk hTk hB1 hgF (by omega) (by first | exact .inl rfl | exact .inr rfl)⟩
end Go.Proofs.Ytjcambkjcagcoaa
