import Derived.Test.YtidbilgnclfplaaTD2
namespace Go.Proofs.Ytidbilgnclfplaa
open Go.RowKit
set_option linter.unusedVariables false

theorem ry_row {w : World} {b : Nat} {L : List Int} (h : Row w b L) (n : Nat) (hn : n ≤ L.length) : RY w (some ⟨b, 0, none⟩) (L.take n) := fun hne => by
  refine ⟨b, 0, _, rfl, h, fun j hj => ?_⟩
  have hl : (L.take n).length = n := by rw [List.length_take]; omega
  have := h.cells j (by omega)
  rw [this]
  unfold nth
  rw [Int.toNat_natCast, List.getD_eq_getElem?_getD, List.getD_eq_getElem?_getD, List.getElem?_take, if_pos (by omega)]
/-- an algebra, a term and elements for the names are drawn -/
def RetDAtn (w : World) (e : Ending) (w' : World) : Prop := ∃ (L : List Int) (T : List (List Int)) (a : Option Addr) (ca : Nat) (b : Option Addr) (cb : Nat) (t : List Int) (at_ : Option Addr) (ct : Nat) (N : List Int) (an : Option Addr) (cn : Nat), e = .returned (.tuple #[.agg #[.slice a L.length ca, .slice b T.length cb], .slice at_ t.length ct, .slice an N.length cn]) ∧ DrA w L T a b w' ∧ Rd w' at_ t ∧ t.length ≤ ct ∧ t.length ≤ 40 ∧ Rd w' an N ∧ N.length ≤ 3
theorem ry_end {q : Nat} {wk : World} {a : Option Addr} {L : List Int} {x y u v : Value} {wf : World} (hz : wk.heap[q]? = some (.cells #[x, y] 33 (0, 0))) (h : RY wk a L) (hf : wf = (wk.setCell ⟨q, 0, none⟩ u).setCell ⟨q, 1, none⟩ v ∨ wf = ((wk.setCell ⟨q, 0, none⟩ u).setCell ⟨q, 1, none⟩ v).drew) : Rd wf a L := by
  have hk := kp_row hz (set2_other wk q u v)
  rcases hf with rfl | rfl
  · exact (h.kp hk).rd
  · exact ((h.kp hk).kp (kp_below ((Below.refl ((wk.setCell ⟨q, 0, none⟩ u).setCell ⟨q, 1, none⟩ v).heap.size _).drew))).rd
set_option maxRecDepth 100000 in
set_option maxHeartbeats 4000000 in
/-- spec.DrawValueOf -/
theorem drawValueOf_any (a : Option Addr) (n cap : Nat) (w : World) (hy : RdY w a n w.heap.size) (hc : n ≤ cap) (hm : n ≤ 1048576) :
    Calls Try.prog 44 #[.slice a n cap] w (RetDAtn w) := by
  obtain ⟨i0, hi, hi0, hi1, hi2⟩ := info_parts info_int
  obtain ⟨w0, hw0⟩ : ∃ w0, w0 = w.alloc (.cells #[.slice none 0 0, .slice none 0 0] 33) := ⟨_, rfl⟩
  have hB : Below w.heap.size w w0 := by rw [hw0]; exact (Below.refl _ _).alloc (Nat.le_refl _) _
  have hz0 : w0.heap[w.heap.size]? = some (.cells #[.slice none 0 0, .slice none 0 0] 33 (0, 0)) := by rw [hw0]; exact heap_alloc_new w _
  have lz := lt_of_block hz0
  have hy0 := hy.up hB hB.size
  clear hy
  go_enter Try.func44, Try.ntmps44
  go_wp2_with (rw [← hw0]; clear hw0)
  refine (newReader_any a n cap w0 hy0 hc hm).mono ?_
  rintro e w1 ⟨rfl, hb1, hr1⟩
  have hs1 := hb1.size
  obtain ⟨g, hg⟩ : ∃ g : Nat, g = w0.heap.size := ⟨_, rfl⟩
  rw [← hg] at hr1 ⊢
  have lg : w.heap.size < g := by omega
  have hz1 := (hb1.block _ lz).trans hz0
  have hB1 : Below w.heap.size w w1 := hB.trans (hb1.mono hB.size)
  clear hg hz0 hb1 hy0
  go_wp2_with fail
  refine (someAlgebra_any g g 0 w1 hr1 (by omega)).mono ?_
  rintro e w2 ⟨L, T, va, vca, vb, vcb, rfl, hP, hR2, hT2, hg2, hr2⟩
  obtain ⟨l1, l7, _, _⟩ := someP_len hP
  have hz2 := box_drawn hz1 (by omega) hg2
  have gl2 := hr2.lt
  go_wp2_with (refine wpList_store_row rfl 33 _ _ rfl w2.heap.size #[.slice va L.length vca, .slice vb T.length vcb] rfl rfl _ _ (heap_alloc_new w2 (.cells #[.slice none 0 0, .slice none 0 0] 33)) (size_Alg _ _) rfl (one_sl2 _ _ _ _ _ _) ?_; rw [World.setRow_alloc_new]; obtain ⟨q6, w4, eq6, ew4, hgw4, hBw4, K6⟩ := drawn_box (.slice va L.length vca) (.slice vb T.length vcb) gl2; rw [← ew4, ← eq6]; have lq6 : w.heap.size < q6 := (by have := lt_of_block hz2; omega); have hz4 := (hBw4.block _ (lt_of_block hz2)).trans hz2; clear ew4 eq6)
  have hr4 := hr2.below hBw4
  have hkA := kp_below hBw4
  have hR4 := hR2.kp hkA
  have hT4 := hT2.kp hkA
  have hx4 := K6.out _ (grown_refl _ _)
  have nq6 : q6 ≠ g := fun e => by
    obtain ⟨c, hc⟩ := hr4.type
    rw [← e, hx4] at hc
    injection hc with hc
    injection hc with _ hc
    exact absurd hc (by decide)
  obtain ⟨c0, c1⟩ := bx_cells hx4
  have hgA := grown_new hg2 hBw4
  have HR4 := Lib.hid hr4
  have HR := Lib.hid hR4
  have HT := Lib.hid hT4
  have HP := Lib.hid hP
  clear hR2 hT2 hR4 hT4 hP hkA hz1 hz2 hr2 hr1 hx4 hBw4
  go_region_held3 (fun w' => w'.cell? ⟨q6, 0, none⟩ = some (.slice va L.length vca) ∧ w'.cell? ⟨q6, 1, none⟩ = some (.slice vb T.length vcb))
    (first | go_keep | exact ⟨e0, e1⟩ | exact ⟨f0, f1⟩ | exact ⟨h0, h1⟩)
    (first
      | (go_simp; go_at_call 85; (with_reducible refine (element_any g g (0 + 12) L.length w4 (hr4) (by omega) (by omega) (by omega)).mono ?_); rintro e w5 ⟨x, x0, x1, rfl, hg5, hr5⟩; have hg45 := grown_trans (grown_refl w4 (some g)) hg5; have e0 := (bx_cells (K6.out _ hg45)).1; have e1 := (bx_cells (K6.out _ hg45)).2)
      | (go_simp; go_at_call 85; (with_reducible refine (element_any g g (0 + 12) L.length w4.drew (hr4.drew) (by omega) (by omega) (by omega)).mono ?_); rintro e w5 ⟨x, x0, x1, rfl, hg5, hr5⟩; have hg45 := grown_trans (grown_drew (grown_refl w4 (some g))) hg5; have e0 := (bx_cells (K6.out _ hg45)).1; have e1 := (bx_cells (K6.out _ hg45)).2)
      | (go_simp; go_at_call 85; (with_reducible refine (element_any g g (0 + 12 + 2) L.length w5 (hr5) (by omega) (by omega) (by omega)).mono ?_); rintro e w6 ⟨y, y0, y1, rfl, hg6, hr6⟩; have hg46 := grown_trans hg45 hg6; have f0 := (bx_cells (K6.out _ hg46)).1; have f1 := (bx_cells (K6.out _ hg46)).2)
      | (go_simp; go_at_call 85; (with_reducible refine (element_any g g (0 + 12 + 2) L.length w5.drew (hr5.drew) (by omega) (by omega) (by omega)).mono ?_); rintro e w6 ⟨y, y0, y1, rfl, hg6, hr6⟩; have hg46 := grown_trans (grown_drew hg45) hg6; have f0 := (bx_cells (K6.out _ hg46)).1; have f1 := (bx_cells (K6.out _ hg46)).2)
      | (go_simp; go_at_call 85; (with_reducible refine (element_any g g (0 + 12 + 2 + 2) L.length w6 (hr6) (by omega) (by omega) (by omega)).mono ?_); rintro e w7 ⟨u, u0, u1, rfl, hg7, hr7⟩; have hg47 := grown_trans hg46 hg7; have h0 := (bx_cells (K6.out _ hg47)).1; have h1 := (bx_cells (K6.out _ hg47)).2)
      | (go_simp; go_at_call 85; (with_reducible refine (element_any g g (0 + 12 + 2 + 2) L.length w6.drew (hr6.drew) (by omega) (by omega) (by omega)).mono ?_); rintro e w7 ⟨u, u0, u1, rfl, hg7, hr7⟩; have hg47 := grown_trans (grown_drew hg46) hg7; have h0 := (bx_cells (K6.out _ hg47)).1; have h1 := (bx_cells (K6.out _ hg47)).2))
  have hrX : Rdr (w7.alloc (.cells #[.int .i64 x, .int .i64 y, .int .i64 u] 3)) g g 18 := (hr7.alloc _).more (by omega)
  have hgX := grown_alloc hg47 (.cells #[.int .i64 x, .int .i64 y, .int .i64 u] 3)
  have hrow : Row (w7.alloc (.cells #[.int .i64 x, .int .i64 y, .int .i64 u] 3)) w7.heap.size [x, y, u] := heap_alloc_new w7 _
  obtain ⟨w8, hw8⟩ : ∃ w8, w8 = w7.alloc (.cells #[.int .i64 x, .int .i64 y, .int .i64 u] 3) := ⟨_, rfl⟩
  obtain ⟨nb, hnb⟩ : ∃ nb, nb = w7.heap.size := ⟨_, rfl⟩
  rw [← hw8, ← hnb] at hrow
  rw [← hw8] at hrX hgX
  clear e0 e1 f0 f1 h0 h1 c0 c1 hg5 hg6 hg7 hr5 hr6 hr7 hg45 hg46 hg47 x0 x1 y0 y1 u0 u1 hr4
  go_wp2_with (rw [← hw8, ← hnb]; clear hw8 hnb)
  refine (pick_any g g 18 24 w8 hrX (by omega) (by omega) (by omega)).mono ?_
  rintro e w9 ⟨k, rfl, k0, k1, hg9', hr9⟩
  have hg9 := grown_trans hgX hg9'
  have hkp := kp_drawn hrX hg9'
  have HN3 := Lib.hid ((ry_row hrow 3 (by simp)).kp hkp)
  have HN2 := Lib.hid ((ry_row hrow 2 (by simp)).kp hkp)
  obtain ⟨c0, c1⟩ := bx_cells (K6.out _ hg9)
  clear hrow hkp hg9' hgX hrX
  by_cases e0 : k = 0
  · subst e0
    go_wp2
    go_region_held3 (fun w' => w'.cell? ⟨q6, 0, none⟩ = some (.slice va L.length vca) ∧ w'.cell? ⟨q6, 1, none⟩ = some (.slice vb T.length vcb))
      (first | go_keep | exact ⟨e0, e1⟩ | exact ⟨f0, f1⟩ | exact ⟨cell_set2 e0 (by omega), cell_set2 e1 (by omega)⟩ | exact ⟨cell_set2 f0 (by omega), cell_set2 f1 (by omega)⟩)
      (first
        | (go_simp; go_at_call 75; (with_reducible refine (someTerm_any g g (18 + 1) w9 (hr9) (by omega)).mono ?_); rintro e w10 ⟨t, ta, tc, rfl, hry, hct, hlt, hg10, hr10⟩; have hg410 := grown_trans hg9 hg10; have e0 := (bx_cells (K6.out _ hg410)).1; have e1 := (bx_cells (K6.out _ hg410)).2; have hz5 := box_drawn2 (b := w.heap.size) hg410 (by omega) hz4; obtain ⟨z0, z1⟩ := bx_cells hz5; have zf0 := frozen_of_row w10 _ 0 _ _ hz5; have zf1 := frozen_of_row w10 _ 1 _ _ hz5; have hRk := HR.out.kp (kp_drawn HR4.out hg410); have hTk := HT.out.kp (kp_drawn HR4.out hg410); have hNk := HN2.out.kp (kp_drawn hr9 hg10); have hgF := grown_trans hgA hg410)
        | (go_simp; go_at_call 75; (with_reducible refine (someTerm_any g g (18 + 1) w9.drew (hr9.drew) (by omega)).mono ?_); rintro e w10 ⟨t, ta, tc, rfl, hry, hct, hlt, hg10, hr10⟩; have hg410 := grown_trans (grown_drew hg9) hg10; have e0 := (bx_cells (K6.out _ hg410)).1; have e1 := (bx_cells (K6.out _ hg410)).2; have hz5 := box_drawn2 (b := w.heap.size) hg410 (by omega) hz4; obtain ⟨z0, z1⟩ := bx_cells hz5; have zf0 := frozen_of_row w10 _ 0 _ _ hz5; have zf1 := frozen_of_row w10 _ 1 _ _ hz5; have hRk := HR.out.kp (kp_drawn HR4.out hg410); have hTk := HT.out.kp (kp_drawn HR4.out hg410); have hNk := (HN2.out.kp (kp_below ((Below.refl _ _).drew))).kp (kp_drawn hr9.drew hg10); have hgF := grown_trans hgA hg410))
    go_wp2
    refine bodyPost_ret (v := .tuple #[.agg #[.slice va L.length vca, .slice vb T.length vcb], .slice ta t.length tc, .slice (some ⟨nb, 0, none⟩) 2 3]) (results_Alg_tmp2 rfl _ _ w.heap.size rfl _ _ (set1_heap (set0_heap hz5)) rfl rfl) rfl ?_
    exact ⟨L, T, va, vca, vb, vcb, t, ta, tc, _, _, 3, rfl, drA_end hz5 (Nat.le_refl _) HP.out hRk hTk hB1 hgF (by omega) (by first | exact .inl rfl | exact .inr rfl), ry_end hz5 hry (by first | exact .inl rfl | exact .inr rfl), hct, by omega, ry_end hz5 hNk (by first | exact .inl rfl | exact .inr rfl), by simp⟩
  · have f0 : (k == 0) = false := by rw [beq_eq_false_iff_ne]; exact e0
    clear e0
    go_wp2
    go_region_held3 (fun w' => w'.cell? ⟨q6, 0, none⟩ = some (.slice va L.length vca) ∧ w'.cell? ⟨q6, 1, none⟩ = some (.slice vb T.length vcb))
      (first | go_keep | exact ⟨e0, e1⟩ | exact ⟨f0, f1⟩ | exact ⟨cell_set2 e0 (by omega), cell_set2 e1 (by omega)⟩ | exact ⟨cell_set2 f0 (by omega), cell_set2 f1 (by omega)⟩)
      (first
        | (go_simp; go_at_call 75; (with_reducible refine (someTerm_any g g (18 + 1) w9 (hr9) (by omega)).mono ?_); rintro e w10 ⟨t, ta, tc, rfl, hry, hct, hlt, hg10, hr10⟩; have hg410 := grown_trans hg9 hg10; have e0 := (bx_cells (K6.out _ hg410)).1; have e1 := (bx_cells (K6.out _ hg410)).2; have hz5 := box_drawn2 (b := w.heap.size) hg410 (by omega) hz4; obtain ⟨z0, z1⟩ := bx_cells hz5; have zf0 := frozen_of_row w10 _ 0 _ _ hz5; have zf1 := frozen_of_row w10 _ 1 _ _ hz5; have hRk := HR.out.kp (kp_drawn HR4.out hg410); have hTk := HT.out.kp (kp_drawn HR4.out hg410); have hNk := HN3.out.kp (kp_drawn hr9 hg10); have hgF := grown_trans hgA hg410)
        | (go_simp; go_at_call 75; (with_reducible refine (someTerm_any g g (18 + 1) w9.drew (hr9.drew) (by omega)).mono ?_); rintro e w10 ⟨t, ta, tc, rfl, hry, hct, hlt, hg10, hr10⟩; have hg410 := grown_trans (grown_drew hg9) hg10; have e0 := (bx_cells (K6.out _ hg410)).1; have e1 := (bx_cells (K6.out _ hg410)).2; have hz5 := box_drawn2 (b := w.heap.size) hg410 (by omega) hz4; obtain ⟨z0, z1⟩ := bx_cells hz5; have zf0 := frozen_of_row w10 _ 0 _ _ hz5; have zf1 := frozen_of_row w10 _ 1 _ _ hz5; have hRk := HR.out.kp (kp_drawn HR4.out hg410); have hTk := HT.out.kp (kp_drawn HR4.out hg410); have hNk := (HN3.out.kp (kp_below ((Below.refl _ _).drew))).kp (kp_drawn hr9.drew hg10); have hgF := grown_trans hgA hg410))
    go_wp2
    refine bodyPost_ret (v := .tuple #[.agg #[.slice va L.length vca, .slice vb T.length vcb], .slice ta t.length tc, .slice (some ⟨nb, 0, none⟩) 3 3]) (results_Alg_tmp2 rfl _ _ w.heap.size rfl _ _ (set1_heap (set0_heap hz5)) rfl rfl) rfl ?_
    exact ⟨L, T, va, vca, vb, vcb, t, ta, tc, _, _, 3, rfl, drA_end hz5 (Nat.le_refl _) HP.out hRk hTk hB1 hgF (by omega) (by first | exact .inl rfl | exact .inr rfl), ry_end hz5 hry (by first | exact .inl rfl | exact .inr rfl), hct, by omega, ry_end hz5 hNk (by first | exact .inl rfl | exact .inr rfl), by simp⟩
end Go.Proofs.Ytidbilgnclfplaa
