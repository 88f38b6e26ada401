import Derived.Test.YtaflhjjnkejcoaaSA7
namespace Go.Proofs.Ytaflhjjnkejcoaa
open Go.RowKit

set_option maxRecDepth 100000 in
set_option maxHeartbeats 2000000 in
/-- spec.DrawFilterBy -/
theorem drawFilterBy_any (a : Option Addr) (n cap : Nat) (w : World) (hy : RdY w a n w.heap.size) (hc : n ≤ cap) (hm : n ≤ 1048576) :
    Calls Try.prog 41 #[.slice a n cap] w (RetDAi w) := by
  obtain ⟨w0, hw0⟩ : ∃ w0, w0 = w.alloc (.cells #[.slice none 0 0, .slice none 0 0] 26) := ⟨_, rfl⟩
  have hB : Below w.heap.size w w0 := by rw [hw0]; exact (Below.refl _ _).alloc (Nat.le_refl _) _
  have hz0 : w0.heap[w.heap.size]? = some (.cells #[.slice none 0 0, .slice none 0 0] 26 (0, 0)) := by rw [hw0]; exact heap_alloc_new w _
  have lz := lt_of_block hz0
  have hy0 := hy.up hB hB.size
  clear hy
  go_enter Try.func41, Try.ntmps41
  go_wp2_with (rw [← hw0]; clear hw0)
  refine (newReader_any a n cap w0 hy0 hc hm).mono ?_
  rintro e w1 ⟨rfl, hb1, hr1⟩
  have hs1 := hb1.size
  obtain ⟨g, hg⟩ : ∃ g : Nat, g = w0.heap.size := ⟨_, rfl⟩
  rw [← hg] at hr1 ⊢
  have lg : w.heap.size < g := by omega
  have hz1 := (hb1.block _ lz).trans hz0
  have hB1 : Below w.heap.size w w1 := hB.trans (hb1.mono hB.size)
  clear hg hz0 hb1 hy0
  go_wp2_with fail
  refine (someAlgebra_any g g 0 w1 hr1 (by omega)).mono ?_
  rintro e w2 ⟨L, T, va, vca, vb, vcb, rfl, hP, hR2, hT2, hg2, hr2⟩
  obtain ⟨l1, l7, _, _⟩ := someP_len hP
  have hz2 := box_drawn hz1 (by omega) hg2
  have gl2 := hr2.lt
  go_wp2_with (refine wpList_store_row rfl 26 _ _ rfl w2.heap.size #[.slice va L.length vca, .slice vb T.length vcb] rfl rfl _ _ (heap_alloc_new w2 (.cells #[.slice none 0 0, .slice none 0 0] 26)) (size_Alg _ _) rfl (one_sl2 _ _ _ _ _ _) ?_; rw [World.setRow_alloc_new]; obtain ⟨q6, w3, eq6, ew3, hgw3, hBw3, K5⟩ := drawn_box (.slice va L.length vca) (.slice vb T.length vcb) gl2; rw [← ew3, ← eq6]; have lq6 : w.heap.size < q6 := (by have := lt_of_block hz2; omega); have hz3 := (hBw3.block _ (lt_of_block hz2)).trans hz2; clear ew3 eq6)
  have hr3 := hr2.below hBw3
  have hR3 := hR2.kp (kp_below hBw3)
  have hT3 := hT2.kp (kp_below hBw3)
  have hx3 := K5.out _ (grown_refl _ _)
  have nq6 : q6 ≠ g := fun e => by
    obtain ⟨c, hc⟩ := hr3.type
    rw [← e, hx3] at hc
    injection hc with hc
    injection hc with _ hc
    exact absurd hc (by decide)
  have hgA3 := grown_new hg2 hBw3
  refine (pick_any g g (0 + 12) 2 w3 hr3 (by omega) (by omega) (by omega)).mono ?_
  rintro e w4 ⟨pk, rfl, pk0, pk1, hg4, hr4⟩
  have hz4 := box_drawn2 (b := w.heap.size) hg4 (by omega) hz3
  have hR4 := hR3.kp (kp_drawn hr3 hg4)
  have hT4 := hT3.kp (kp_drawn hr3 hg4)
  have hx4 := K5.out _ hg4
  have K6 := Lib.hid (show ∀ wz, w4.grownBy wz (some g) → wz.heap[q6]? = some (.cells #[.slice va L.length vca, .slice vb T.length vcb] 26 (0, 0)) from fun wz h => K5.out _ (grown_trans hg4 h))
  have hgA := grown_trans hgA3 hg4
  have HR := Lib.hid hR4
  have HT := Lib.hid hT4
  have HP := Lib.hid hP
  clear hR2 hT2 hR3 hT3 hR4 hT4 hP hz1 hz2 hz3 hr2 hr1 hr3 hx3 hBw3 K5 hg4 hgA3
  by_cases hk : pk = 0
  · subst hk
    by_cases h6 : (L.length : Int) ≤ 6
    · have h7 : ¬ (6 : Int) < L.length := by omega
      go_wp2_with fail
      obtain ⟨c0, c1⟩ := bx_cells hx4
      go_region_held3 (fun w' => w'.cell? ⟨q6, 0, none⟩ = some (.slice va L.length vca) ∧ w'.cell? ⟨q6, 1, none⟩ = some (.slice vb T.length vcb))
        (first | go_keep | exact ⟨e0, e1⟩ | exact ⟨f0, f1⟩ | exact ⟨cell_set2 e0 (by omega), cell_set2 e1 (by omega)⟩ | exact ⟨cell_set2 f0 (by omega), cell_set2 f1 (by omega)⟩)
        (first
          | (go_simp; go_at_call 97; (with_reducible refine (pick_any g g (0 + 12 + 1) _ w4 (hr4) (by omega) (by first | omega | (split <;> omega)) (by first | omega | (split <;> omega))).mono ?_); rintro e w5 ⟨k, rfl, k0, k1, hg5, hr5⟩; have x0 : -1 ≤ pw k := (by have := pw_pos k; omega); have k2 : k ≤ 6 := (by first | omega | (split at k1 <;> omega)); have x1 : pw k ≤ 64 := pw_mono k 6 k2; have hg45 := grown_trans (grown_refl w4 (some g)) hg5; have e0 := (bx_cells (K6.out _ hg45)).1; have e1 := (bx_cells (K6.out _ hg45)).2; have hz5 := box_drawn2 (b := w.heap.size) hg45 (by omega) hz4; obtain ⟨z0, z1⟩ := bx_cells hz5; have zf0 := frozen_of_row w5 _ 0 _ _ hz5; have zf1 := frozen_of_row w5 _ 1 _ _ hz5; have hRk := HR.out.kp (kp_drawn hr4 hg45); have hTk := HT.out.kp (kp_drawn hr4 hg45); have hgF := grown_trans hgA hg45)
          | (go_simp; go_at_call 97; (with_reducible refine (pick_any g g (0 + 12 + 1) _ w4.drew (hr4.drew) (by omega) (by first | omega | (split <;> omega)) (by first | omega | (split <;> omega))).mono ?_); rintro e w5 ⟨k, rfl, k0, k1, hg5, hr5⟩; have x0 : -1 ≤ pw k := (by have := pw_pos k; omega); have k2 : k ≤ 6 := (by first | omega | (split at k1 <;> omega)); have x1 : pw k ≤ 64 := pw_mono k 6 k2; have hg45 := grown_trans (grown_drew (grown_refl w4 (some g))) hg5; have e0 := (bx_cells (K6.out _ hg45)).1; have e1 := (bx_cells (K6.out _ hg45)).2; have hz5 := box_drawn2 (b := w.heap.size) hg45 (by omega) hz4; obtain ⟨z0, z1⟩ := bx_cells hz5; have zf0 := frozen_of_row w5 _ 0 _ _ hz5; have zf1 := frozen_of_row w5 _ 1 _ _ hz5; have hRk := HR.out.kp (kp_drawn hr4 hg45); have hTk := HT.out.kp (kp_drawn hr4 hg45); have hgF := grown_trans hgA hg45)
          | (go_simp; go_at_call 102; (with_reducible refine (power_any k w5 (by omega) (by omega)).mono ?_); rintro e wz ⟨rfl, rfl⟩)
          | (go_simp; go_at_call 102; (with_reducible refine (power_any k w5.drew (by omega) (by omega)).mono ?_); rintro e wz ⟨rfl, rfl⟩))
      go_wp2
      refine bodyPost_ret (v := .tuple #[.agg #[.slice va L.length vca, .slice vb T.length vcb], .int .i64 (pw k)]) (results_Alg_tmp rfl _ _ w.heap.size rfl _ _ (set1_heap (set0_heap hz5)) rfl) rfl ?_
      exact ⟨L, T, va, vca, vb, vcb, (pw k), rfl, x0, by omega, drA_end hz5 (Nat.le_refl _) HP.out hRk hTk hB1 hgF (by omega) (by first | exact .inl rfl | exact .inr rfl)⟩
    · have h7 : (6 : Int) < L.length := by omega
      go_wp2_with fail
      obtain ⟨c0, c1⟩ := bx_cells hx4
      go_region_held3 (fun w' => w'.cell? ⟨q6, 0, none⟩ = some (.slice va L.length vca) ∧ w'.cell? ⟨q6, 1, none⟩ = some (.slice vb T.length vcb))
        (first | go_keep | exact ⟨e0, e1⟩ | exact ⟨f0, f1⟩ | exact ⟨cell_set2 e0 (by omega), cell_set2 e1 (by omega)⟩ | exact ⟨cell_set2 f0 (by omega), cell_set2 f1 (by omega)⟩)
        (first
          | (go_simp; go_at_call 97; (with_reducible refine (pick_any g g (0 + 12 + 1) _ w4 (hr4) (by omega) (by first | omega | (split <;> omega)) (by first | omega | (split <;> omega))).mono ?_); rintro e w5 ⟨k, rfl, k0, k1, hg5, hr5⟩; have x0 : -1 ≤ pw k := (by have := pw_pos k; omega); have k2 : k ≤ 6 := (by first | omega | (split at k1 <;> omega)); have x1 : pw k ≤ 64 := pw_mono k 6 k2; have hg45 := grown_trans (grown_refl w4 (some g)) hg5; have e0 := (bx_cells (K6.out _ hg45)).1; have e1 := (bx_cells (K6.out _ hg45)).2; have hz5 := box_drawn2 (b := w.heap.size) hg45 (by omega) hz4; obtain ⟨z0, z1⟩ := bx_cells hz5; have zf0 := frozen_of_row w5 _ 0 _ _ hz5; have zf1 := frozen_of_row w5 _ 1 _ _ hz5; have hRk := HR.out.kp (kp_drawn hr4 hg45); have hTk := HT.out.kp (kp_drawn hr4 hg45); have hgF := grown_trans hgA hg45)
          | (go_simp; go_at_call 97; (with_reducible refine (pick_any g g (0 + 12 + 1) _ w4.drew (hr4.drew) (by omega) (by first | omega | (split <;> omega)) (by first | omega | (split <;> omega))).mono ?_); rintro e w5 ⟨k, rfl, k0, k1, hg5, hr5⟩; have x0 : -1 ≤ pw k := (by have := pw_pos k; omega); have k2 : k ≤ 6 := (by first | omega | (split at k1 <;> omega)); have x1 : pw k ≤ 64 := pw_mono k 6 k2; have hg45 := grown_trans (grown_drew (grown_refl w4 (some g))) hg5; have e0 := (bx_cells (K6.out _ hg45)).1; have e1 := (bx_cells (K6.out _ hg45)).2; have hz5 := box_drawn2 (b := w.heap.size) hg45 (by omega) hz4; obtain ⟨z0, z1⟩ := bx_cells hz5; have zf0 := frozen_of_row w5 _ 0 _ _ hz5; have zf1 := frozen_of_row w5 _ 1 _ _ hz5; have hRk := HR.out.kp (kp_drawn hr4 hg45); have hTk := HT.out.kp (kp_drawn hr4 hg45); have hgF := grown_trans hgA hg45)
          | (go_simp; go_at_call 102; (with_reducible refine (power_any k w5 (by omega) (by omega)).mono ?_); rintro e wz ⟨rfl, rfl⟩)
          | (go_simp; go_at_call 102; (with_reducible refine (power_any k w5.drew (by omega) (by omega)).mono ?_); rintro e wz ⟨rfl, rfl⟩))
      go_wp2
      refine bodyPost_ret (v := .tuple #[.agg #[.slice va L.length vca, .slice vb T.length vcb], .int .i64 (pw k)]) (results_Alg_tmp rfl _ _ w.heap.size rfl _ _ (set1_heap (set0_heap hz5)) rfl) rfl ?_
      exact ⟨L, T, va, vca, vb, vcb, (pw k), rfl, x0, by omega, drA_end hz5 (Nat.le_refl _) HP.out hRk hTk hB1 hgF (by omega) (by first | exact .inl rfl | exact .inr rfl)⟩
  · have hk2 : (pk == 0) = false := by rw [beq_eq_false_iff_ne]; exact hk
    by_cases h6 : (L.length : Int) ≤ 6
    · have h7 : ¬ (6 : Int) < L.length := by omega
      go_wp2_with fail
      obtain ⟨c0, c1⟩ := bx_cells hx4
      go_region_held3 (fun w' => w'.cell? ⟨q6, 0, none⟩ = some (.slice va L.length vca) ∧ w'.cell? ⟨q6, 1, none⟩ = some (.slice vb T.length vcb))
        (first | go_keep | exact ⟨e0, e1⟩ | exact ⟨f0, f1⟩ | exact ⟨cell_set2 e0 (by omega), cell_set2 e1 (by omega)⟩ | exact ⟨cell_set2 f0 (by omega), cell_set2 f1 (by omega)⟩)
        (first
          | (go_simp; go_at_call 98; (with_reducible refine (rSetOf_any g g (0 + 12 + 1) _ w4 (hr4) (by omega) (by first | omega | (split <;> omega)) (by first | omega | (split <;> omega))).mono ?_); rintro e w5 ⟨x, x0, x1, rfl, hg5, hr5⟩; have hg45 := grown_trans (grown_refl w4 (some g)) hg5; have e0 := (bx_cells (K6.out _ hg45)).1; have e1 := (bx_cells (K6.out _ hg45)).2; have hz5 := box_drawn2 (b := w.heap.size) hg45 (by omega) hz4; obtain ⟨z0, z1⟩ := bx_cells hz5; have zf0 := frozen_of_row w5 _ 0 _ _ hz5; have zf1 := frozen_of_row w5 _ 1 _ _ hz5; have hRk := HR.out.kp (kp_drawn hr4 hg45); have hTk := HT.out.kp (kp_drawn hr4 hg45); have hgF := grown_trans hgA hg45)
          | (go_simp; go_at_call 98; (with_reducible refine (rSetOf_any g g (0 + 12 + 1) _ w4.drew (hr4.drew) (by omega) (by first | omega | (split <;> omega)) (by first | omega | (split <;> omega))).mono ?_); rintro e w5 ⟨x, x0, x1, rfl, hg5, hr5⟩; have hg45 := grown_trans (grown_drew (grown_refl w4 (some g))) hg5; have e0 := (bx_cells (K6.out _ hg45)).1; have e1 := (bx_cells (K6.out _ hg45)).2; have hz5 := box_drawn2 (b := w.heap.size) hg45 (by omega) hz4; obtain ⟨z0, z1⟩ := bx_cells hz5; have zf0 := frozen_of_row w5 _ 0 _ _ hz5; have zf1 := frozen_of_row w5 _ 1 _ _ hz5; have hRk := HR.out.kp (kp_drawn hr4 hg45); have hTk := HT.out.kp (kp_drawn hr4 hg45); have hgF := grown_trans hgA hg45))
      go_wp2
      refine bodyPost_ret (v := .tuple #[.agg #[.slice va L.length vca, .slice vb T.length vcb], .int .i64 x]) (results_Alg_tmp rfl _ _ w.heap.size rfl _ _ (set1_heap (set0_heap hz5)) rfl) rfl ?_
      exact ⟨L, T, va, vca, vb, vcb, x, rfl, x0, by omega, drA_end hz5 (Nat.le_refl _) HP.out hRk hTk hB1 hgF (by omega) (by first | exact .inl rfl | exact .inr rfl)⟩
    · have h7 : (6 : Int) < L.length := by omega
      go_wp2_with fail
      obtain ⟨c0, c1⟩ := bx_cells hx4
      go_region_held3 (fun w' => w'.cell? ⟨q6, 0, none⟩ = some (.slice va L.length vca) ∧ w'.cell? ⟨q6, 1, none⟩ = some (.slice vb T.length vcb))
        (first | go_keep | exact ⟨e0, e1⟩ | exact ⟨f0, f1⟩ | exact ⟨cell_set2 e0 (by omega), cell_set2 e1 (by omega)⟩ | exact ⟨cell_set2 f0 (by omega), cell_set2 f1 (by omega)⟩)
        (first
          | (go_simp; go_at_call 98; (with_reducible refine (rSetOf_any g g (0 + 12 + 1) _ w4 (hr4) (by omega) (by first | omega | (split <;> omega)) (by first | omega | (split <;> omega))).mono ?_); rintro e w5 ⟨x, x0, x1, rfl, hg5, hr5⟩; have hg45 := grown_trans (grown_refl w4 (some g)) hg5; have e0 := (bx_cells (K6.out _ hg45)).1; have e1 := (bx_cells (K6.out _ hg45)).2; have hz5 := box_drawn2 (b := w.heap.size) hg45 (by omega) hz4; obtain ⟨z0, z1⟩ := bx_cells hz5; have zf0 := frozen_of_row w5 _ 0 _ _ hz5; have zf1 := frozen_of_row w5 _ 1 _ _ hz5; have hRk := HR.out.kp (kp_drawn hr4 hg45); have hTk := HT.out.kp (kp_drawn hr4 hg45); have hgF := grown_trans hgA hg45)
          | (go_simp; go_at_call 98; (with_reducible refine (rSetOf_any g g (0 + 12 + 1) _ w4.drew (hr4.drew) (by omega) (by first | omega | (split <;> omega)) (by first | omega | (split <;> omega))).mono ?_); rintro e w5 ⟨x, x0, x1, rfl, hg5, hr5⟩; have hg45 := grown_trans (grown_drew (grown_refl w4 (some g))) hg5; have e0 := (bx_cells (K6.out _ hg45)).1; have e1 := (bx_cells (K6.out _ hg45)).2; have hz5 := box_drawn2 (b := w.heap.size) hg45 (by omega) hz4; obtain ⟨z0, z1⟩ := bx_cells hz5; have zf0 := frozen_of_row w5 _ 0 _ _ hz5; have zf1 := frozen_of_row w5 _ 1 _ _ hz5; have hRk := HR.out.kp (kp_drawn hr4 hg45); have hTk := HT.out.kp (kp_drawn hr4 hg45); have hgF := grown_trans hgA hg45))
      go_wp2
      refine bodyPost_ret (v := .tuple #[.agg #[.slice va L.length vca, .slice vb T.length vcb], .int .i64 x]) (results_Alg_tmp rfl _ _ w.heap.size rfl _ _ (set1_heap (set0_heap hz5)) rfl) rfl ?_
      exact ⟨L, T, va, vca, vb, vcb, x, rfl, x0, by omega, drA_end hz5 (Nat.le_refl _) HP.out hRk hTk hB1 hgF (by omega) (by first | exact .inl rfl | exact .inr rfl)⟩
end Go.Proofs.Ytaflhjjnkejcoaa
