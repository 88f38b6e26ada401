import Derived.Test.YtjcambkjcagcoaaNU2
import Derived.Test.YtjcambkjcagcoaaSL0
import Derived.Test.YtjcambkjcagcoaaP2
namespace Go.Proofs.Ytjcambkjcagcoaa
open Go.RowKit
set_option linter.unusedVariables false

/-- numbers that can be read are drawn -/
def RetNuc (C g : Nat) (m : Int) (w : World) (e : Ending) (w' : World) : Prop := ∃ (L : List Int) (a : Option Addr) (c : Nat), e = .returned (.slice a L.length c) ∧ RY w' a L ∧ L.length ≤ c ∧ L.length ≤ 16 ∧ w.grownBy w' (some g) ∧ Rdr w' C g m
theorem ownCapN {B : Nat} {w : World} {a : Option Addr} {n c : Nat} {L : List Int} (h : Own B w (.slice a n c) L) : L.length ≤ c := by
  rcases h.2 with ⟨e, hn⟩ | ⟨g, cap, cur, e, _, hg, hc, _⟩
  · omega
  · injection e with _ _ e
    rw [e]; exact hc
/-- an algebra and numbers are drawn -/
def RetDAj (w : World) (e : Ending) (w' : World) : Prop := ∃ (L : List Int) (T : List (List Int)) (a : Option Addr) (ca : Nat) (b : Option Addr) (cb : Nat) (t : List Int) (at_ : Option Addr) (ct : Nat), e = .returned (.tuple #[.agg #[.slice a L.length ca, .slice b T.length cb], .slice at_ t.length ct]) ∧ DrA w L T a b w' ∧ Rd w' at_ t ∧ t.length ≤ ct ∧ t.length ≤ 40
theorem ryEndN {q : Nat} {wk : World} {a : Option Addr} {L : List Int} {x y u v : Value} {wf : World} (hz : wk.heap[q]? = some (.cells #[x, y] 26 (0, 0))) (h : RY wk a L) (hf : wf = (wk.setCell ⟨q, 0, none⟩ u).setCell ⟨q, 1, none⟩ v ∨ wf = ((wk.setCell ⟨q, 0, none⟩ u).setCell ⟨q, 1, none⟩ v).drew) : Rd wf a L := by
  have hk := kp_row hz (set2_other wk q u v)
  rcases hf with rfl | rfl
  · exact (h.kp hk).rd
  · exact ((h.kp hk).kp (kp_below ((Below.refl ((wk.setCell ⟨q, 0, none⟩ u).setCell ⟨q, 1, none⟩ v).heap.size _).drew))).rd
set_option maxRecDepth 100000 in
set_option maxHeartbeats 4000000 in
/-- spec.nucleusOf -/
theorem nucleusOf_any (C g : Nat) (m : Int) (L : List Int) (T : List (List Int)) (va vb : Option Addr) (ca cb : Nat) (w : World) (hr : Rdr w C g m) (m1 : m ≤ 70000) (hL : Rd w va L) (hT : RdT w vb T) :
    Calls Try.prog 103 #[.pointer (some ⟨g, 0, none⟩), .agg #[.slice va L.length ca, .slice vb T.length cb]] w (RetNuc C g (m + 4) w) := by
  obtain ⟨i0, hi, hz0, hz1, hz2⟩ := info_parts info_int
  have hCw : C ≤ w.heap.size := by have := hr.low; have := hr.lt; omega
  have gl := hr.lt
  obtain ⟨w1, hw1⟩ : ∃ w1, w1 = w.alloc (.cells #[.slice va L.length ca, .slice vb T.length cb] 26) := ⟨_, rfl⟩
  have hB : Below w.heap.size w w1 := by rw [hw1]; exact (Below.refl _ _).alloc (Nat.le_refl _) _
  have hx1 : w1.heap[w.heap.size]? = some (.cells #[.slice va L.length ca, .slice vb T.length cb] 26 (0, 0)) := by rw [hw1]; exact heap_alloc_new w _
  have KX := Lib.hid (show ∀ wz, Below w1.heap.size w1 wz → wz.heap[w.heap.size]? = some (.cells #[.slice va L.length ca, .slice vb T.length cb] 26 (0, 0)) from fun wz h => (h.block _ (lt_of_block hx1)).trans hx1)
  have KR := Lib.hid (show ∀ wz, Below w1.heap.size w1 wz → Rd wz va L from fun wz h => (hL.below hB).below h)
  have KT := Lib.hid (show ∀ wz, Below w1.heap.size w1 wz → RdT wz vb T from fun wz h => (hT.below hB).below h)
  have z : Below w1.heap.size w1 w1 := Below.refl _ _
  have hr1 := hr.below hB
  have hg1 := grown_of_below (row := some g) hB
  clear hx1 hL hT hr
  go_enter Try.func103, Try.ntmps103
  cases hA : algB L T with
  | false =>
    go_wp2_with (first | go_skip | (rw [← hw1]; clear hw1) | (refine wpList_load_row_w rfl 26 _ rfl w.heap.size rfl _ _ _ _ (KX.out _ z) Try.underlying26 rfl (size_Alg _ _) ?_) | (go_at_call 57; refine (ret_below (validAlgebra_any _ _ _ _ L T _ (KR.out _ z) (KT.out _ z)) hA).mono ?_; rintro e w2 ⟨rfl, h2⟩; have z2 := z.trans (h2.mono z.size)))
    have hr2 := hr1.below h2
    have hg2 := grown_trans hg1 (grown_of_below (row := some g) h2)
    go_ret
    exact ⟨[0, 1], some ⟨w2.heap.size, 0, none⟩, 2, rfl, ry_of (Own.row (L := [0, 1]) (heap_alloc_new w2 _) (Nat.le_refl _) (by unfold maxLen; simp)), by simp, by simp, grown_alloc hg2 _, (hr2.alloc _).more (by omega)⟩
  | true =>
    have hlat := alg_lat hA
    obtain ⟨n1, n6, _⟩ := latB_parts hlat
    have hn : num L = L.length := rfl
    have l6 : L.length ≤ 6 := by omega
    have l1 : 1 ≤ L.length := by omega
    obtain ⟨ab, ao, rfl, _⟩ := (KR.out _ z).pos n1
    have HNF := Lib.hid (show ∀ (wz : World) (gx : Nat), Below w1.heap.size w1 wz → Calls Try.prog 156 #[.agg #[.slice (some ⟨ab, ao, none⟩) L.length ca, .slice vb T.length cb], .slice (some ⟨gx, 0, none⟩) 0 0] wz (RetRows wz.heap.size (nucF L T L.length []) wz) from fun wz gx hz => nucF_any L T ab ao ca vb cb hA L.length gx 0 0 [] wz (by simp) (fun i i0 i1 => by simp at i1; omega) (KR.out _ hz) (KT.out _ hz) (fun h => absurd rfl h))
    obtain ⟨N, hN⟩ : ∃ N, N = nucF L T L.length [] := ⟨_, rfl⟩
    have hN1 : 1 ≤ N.length := by rw [hN]; exact nucF_ne hA
    have hN2 : N.length ≤ 46656 := by
      rw [hN]
      have h1 := nucF_bound (L := L) (T := T) l6 L.length []
      have h2 : 6 ^ L.length ≤ 6 ^ 6 := Nat.pow_le_pow_right (by decide) l6
      have h3 : 6 ^ 6 = 46656 := by decide
      omega
    have HNL := Lib.hid (show ∀ i : Int, 0 ≤ i → i < N.length → (rowAt N i).length = L.length from fun i i0 i1 => by
      have := nucF_len (L := L) (T := T) (J := rowAt N i) (k := L.length) (H := []) (by rw [← hN]; exact rowAt_mem i0 i1)
      simpa using this)
    rw [← hN] at HNF
    clear hN hn n1 n6
    go_wp2_with (first | go_skip | (rw [← hw1]; clear hw1) | (refine wpList_load_row_w rfl 26 _ rfl w.heap.size rfl _ _ _ _ (KX.out _ z) Try.underlying26 rfl (size_Alg _ _) ?_) | (go_at_call 57; refine (ret_below (validAlgebra_any _ _ _ _ L T _ (KR.out _ z) (KT.out _ z)) hA).mono ?_; rintro e w2 ⟨rfl, h2⟩; replace z := z.trans (h2.mono z.size)) | (go_at_call 156; refine (HNF.out _ _ (z.alloc z.size _)).mono ?_; rintro e w3 ⟨v, rfl, hrows, hnn, h3⟩; obtain ⟨vs, h1v, _⟩ := id hrows; obtain ⟨G, gc, rfl, _, _⟩ := rows_shape h1v hnn))
    have hr2 := hr1.below h2
    have hg2 := grown_trans hg1 (grown_of_below (row := some g) h2)
    have hrE := hr2.alloc (.cells #[] 3)
    have hgE := grown_alloc hg2 (.cells #[] 3)
    have hr3 := hrE.below h3
    have hg3 := grown_trans hgE (grown_of_below (row := some g) h3)
    have hrX := hr3.alloc (.cells #[] 3)
    have hgX := grown_alloc hg3 (.cells #[] 3)
    have hRX := hrows.alloc (.cells #[] 3)
    have hoE : Own w.heap.size (w3.alloc (.cells #[] 3)) (.slice (some ⟨w3.heap.size, 0, none⟩) 0 0) [] := Own.row (L := []) (heap_alloc_new w3 _) hg3.size (Nat.zero_le _)
    have hN1i : (1 : Int) ≤ N.length := by omega
    have hN2i : (N.length : Int) ≤ 1073741824 := by omega
    clear h1v hrows hnn h3 h2 hrE hgE hr1 hg1
    refine (pick_any C g m N.length _ hrX (by omega) hN1i hN2i).mono ?_
    rintro e w4 ⟨k, rfl, k0, k1, hg4', hr4⟩
    have hg4 := grown_trans hgX hg4'
    have hR4 := hRX.drawn hrX hg4'
    have hoE4 := hoE.drawn hrX hg4'
    obtain ⟨ra, rc, c0, hoR⟩ := hR4.at k0 k1
    have hRl := HNL.out k k0 k1
    obtain ⟨R, hR⟩ : ∃ R, R = rowAt N k := ⟨_, rfl⟩
    rw [← hR] at c0 hoR hRl
    have hR1 : 1 ≤ R.length := by omega
    have hR6 : R.length ≤ 6 := by omega
    obtain ⟨gr, cr, e3, _, _⟩ := hoR.shape.resolve_left (fun h => by have := h.2; rw [this] at hR1; simp at hR1)
    injection e3 with e3 _ e4
    subst e3 e4
    have HNW := Lib.hid (rd_cells hoR.rd)
    clear hR hRl hoR hR4 hRX hoE hg4' HNF HNL hrX hgX hN1i hN2i hlat
    go_wp2_with (at_builtin; refine wpList_append_own _ rfl _ _ 23 rfl w.heap.size 3 i0 (.int .i64 0) 1 8 Try.underlying23 hi hz0 hz1 hz2 rfl (by decide) _ _ _ rfl hoE4 ⟨gr, 0, none⟩ R.length rc (R.map fun x => Value.int .i64 x) rfl (by simp) HNW.out (fun x hx => by simp at hx; obtain ⟨y, _, rfl⟩ := hx; rfl) (by unfold maxLen; simp; omega) (by simp; omega) hg4.size ?_; intro v5 w5 hown hgrow _; have ho5 : Own w.heap.size w5 v5 R := (by unfold Own; simpa using hown); have hr5 := hr4.app hoE4 hCw hgrow; have hg5 := grown_app hg4 hgrow (fun q hq => (World.ownsRow.lt hoE4 q hq).1); clear hown hgrow; obtain ⟨gv, cv, rfl, gvl, _⟩ := ho5.shape.resolve_left (fun h => (by have := h.2; rw [this] at hR1; simp at hR1)))
    refine (pick_any C g (m + 1) 12 w5 hr5 (by omega) (by omega) (by omega)).mono ?_
    rintro e w6 ⟨p, rfl, p0, p1, hg6', hr6⟩
    have hg6 := grown_trans hg5 hg6'
    have ho6 := ho5.drawn hr5 hg6'
    have hR1i : (1 : Int) ≤ R.length := by omega
    clear c0 hoE4 hr4 hg4 hg6' hr5 hg5 ho5
    by_cases e0 : p = 0
    · subst e0
      go_wp2_with fail
      refine (pick_any C g (m + 1 + 1) R.length w6 hr6 (by omega) hR1i (by omega)).mono ?_
      rintro e w7 ⟨q, rfl, q0, q1, hg7', hr7⟩
      have hg7 := grown_trans hg6 hg7'
      have ho7 := ho6.drawn hr6 hg7'
      have hrow : Row (w7.alloc (.cells #[.int .i64 0, .int .i64 1, .int .i64 (-1), .int .i64 6] 3)) w7.heap.size [0, 1, -1, 6] := heap_alloc_new w7 _
      have hown := Own.row hrow (Nat.le_refl _) (by unfold maxLen; simp)
      have hr8 := hr7.alloc (.cells #[.int .i64 0, .int .i64 1, .int .i64 (-1), .int .i64 6] 3)
      have hg8 := grown_alloc hg7 (.cells #[.int .i64 0, .int .i64 1, .int .i64 (-1), .int .i64 6] 3)
      have ho8 := ho7.alloc (.cells #[.int .i64 0, .int .i64 1, .int .i64 (-1), .int .i64 6] 3)
      go_wp2_with fail
      refine (one_any C g (m + 1 + 1 + 1) _ _ [0, 1, -1, 6] _ hr8 (by omega) (hown.held hr8) (by simp) (by simp)).mono ?_
      rintro e w9 ⟨i, i0', i1', rfl, hg9', hr9⟩
      obtain ⟨zv, hzv⟩ : ∃ u, u = nth [0, 1, -1, 6] i := ⟨_, rfl⟩
      rw [← hzv]
      clear hzv
      have hg9 := grown_trans hg8 hg9'
      have ho9 := ho8.drawn hr8 hg9'
      have hfr := ho9.freeAt q.toNat
      have hce := ho9.cellAt q0 q1
      obtain ⟨hoA, hgA'⟩ := ho9.stored q.toNat zv
      have hgA : w.grownBy (w9.setCell ⟨gv, q.toNat, none⟩ (.int .i64 zv)) (some g) := grown_app hg9 hgA' (fun q hq => by injection hq with hq; omega)
      have hrA : Rdr (w9.setCell ⟨gv, q.toNat, none⟩ (.int .i64 zv)) C g (m + 4) := (hr9.app ho9 hCw hgA').more (by omega)
      have HLL := Lib.hid (show (R.set q.toNat zv).length = R.length from List.length_set)
      have hcap := ownCapN hoA
      go_wp2
      go_ret
      exact ⟨R.set q.toNat zv, _, cv, by rw [HLL.out]; rfl, ry_of hoA, hcap, by rw [HLL.out]; omega, hgA, hrA⟩
    · have f0 : (p == 0) = false := by rw [beq_eq_false_iff_ne]; exact e0
      by_cases e1 : p = 1
      · subst e1
        go_wp2_with (at_builtin; refine wpList_append_own _ rfl _ _ 23 rfl w.heap.size 3 i0 (.int .i64 0) 1 8 Try.underlying23 hi hz0 hz1 hz2 rfl (by decide) _ _ _ rfl (World.ownsRow.alloc ho6 _) ⟨w6.heap.size, 0, none⟩ 1 1 [.int .i64 0] rfl rfl (cell_one_new _ _ _) (fun x hx => by simp at hx; subst hx; rfl) (by unfold maxLen; omega) (by omega) (by have := hg6.size; simp; omega) ?_; intro v7 w7 hown hgrow _; have ho7 : Own w.heap.size w7 v7 (R ++ [0]) := (by unfold Own; rw [List.map_append, List.length_append]; exact hown); have hr7 := (hr6.alloc (.cells #[.int .i64 0] 3)).app (ho6.alloc _) hCw hgrow; have hg7 := grown_app (grown_alloc hg6 (.cells #[.int .i64 0] 3)) hgrow (fun q hq => (World.ownsRow.lt ho6 q hq).1); obtain ⟨va, vc, rfl, _⟩ := ho7.slice)
        go_ret
        exact ⟨_, va, vc, by rw [List.length_append]; rfl, ry_of ho7, ownCapN ho7, by simp; omega, hg7, hr7.more (by omega)⟩
      · have f1 : (p == 1) = false := by rw [beq_eq_false_iff_ne]; exact e1
        go_wp2
        go_ret
        exact ⟨R, _, cv, rfl, ry_of ho6, ownCapN ho6, by omega, hg6, hr6.more (by omega)⟩
set_option maxRecDepth 100000 in
set_option maxHeartbeats 4000000 in
/-- spec.DrawIsNucleus -/
theorem drawIsNucleus_any (a : Option Addr) (n cap : Nat) (w : World) (hy : RdY w a n w.heap.size) (hc : n ≤ cap) (hm : n ≤ 1048576) :
    Calls Try.prog 48 #[.slice a n cap] w (RetDAj w) := by
  obtain ⟨i0, hi, hi0, hi1, hi2⟩ := info_parts info_int
  obtain ⟨w0, hw0⟩ : ∃ w0, w0 = w.alloc (.cells #[.slice none 0 0, .slice none 0 0] 26) := ⟨_, rfl⟩
  have hB : Below w.heap.size w w0 := by rw [hw0]; exact (Below.refl _ _).alloc (Nat.le_refl _) _
  have hz0 : w0.heap[w.heap.size]? = some (.cells #[.slice none 0 0, .slice none 0 0] 26 (0, 0)) := by rw [hw0]; exact heap_alloc_new w _
  have lz := lt_of_block hz0
  have hy0 := hy.up hB hB.size
  clear hy
  go_enter Try.func48, Try.ntmps48
  go_wp2_with (rw [← hw0]; clear hw0)
  refine (newReader_any a n cap w0 hy0 hc hm).mono ?_
  rintro e w1 ⟨rfl, hb1, hr1⟩
  have hs1 := hb1.size
  obtain ⟨g, hg⟩ : ∃ g : Nat, g = w0.heap.size := ⟨_, rfl⟩
  rw [← hg] at hr1 ⊢
  have lg : w.heap.size < g := by omega
  have hz1 := (hb1.block _ lz).trans hz0
  have hB1 : Below w.heap.size w w1 := hB.trans (hb1.mono hB.size)
  clear hg hz0 hb1 hy0
  go_wp2_with fail
  refine (someAlgebra_any g g 0 w1 hr1 (by omega)).mono ?_
  rintro e w2 ⟨L, T, va, vca, vb, vcb, rfl, hP, hR2, hT2, hg2, hr2⟩
  obtain ⟨l1, l7, _, _⟩ := someP_len hP
  have hz2 := box_drawn hz1 (by omega) hg2
  have gl2 := hr2.lt
  go_wp2_with (refine wpList_store_row rfl 26 _ _ rfl w2.heap.size #[.slice va L.length vca, .slice vb T.length vcb] rfl rfl _ _ (heap_alloc_new w2 (.cells #[.slice none 0 0, .slice none 0 0] 26)) (size_Alg _ _) rfl (one_sl2 _ _ _ _ _ _) ?_; rw [World.setRow_alloc_new]; obtain ⟨q6, w4, eq6, ew4, hgw4, hBw4, K6⟩ := drawn_box (.slice va L.length vca) (.slice vb T.length vcb) gl2; rw [← ew4, ← eq6]; have lq6 : w.heap.size < q6 := (by have := lt_of_block hz2; omega); have hz4 := (hBw4.block _ (lt_of_block hz2)).trans hz2; clear ew4 eq6)
  have hr4 := hr2.below hBw4
  have hkA := kp_below hBw4
  have hR4 := hR2.kp hkA
  have hT4 := hT2.kp hkA
  have hx4 := K6.out _ (grown_refl _ _)
  have nq6 : q6 ≠ g := fun e => by
    obtain ⟨c, hc⟩ := hr4.type
    rw [← e, hx4] at hc
    injection hc with hc
    injection hc with _ hc
    exact absurd hc (by decide)
  obtain ⟨c0, c1⟩ := bx_cells hx4
  have hgA := grown_new hg2 hBw4
  have HR4 := Lib.hid hr4
  have HR := Lib.hid hR4
  have HT := Lib.hid hT4
  have HP := Lib.hid hP
  clear hR2 hT2 hR4 hT4 hP hkA hz1 hz2 hr2 hr1 hx4 hBw4
  go_region_held3 (fun w' => w'.cell? ⟨q6, 0, none⟩ = some (.slice va L.length vca) ∧ w'.cell? ⟨q6, 1, none⟩ = some (.slice vb T.length vcb))
    (first | go_keep | exact ⟨e0, e1⟩ | exact ⟨cell_set2 e0 (by omega), cell_set2 e1 (by omega)⟩)
    (first
      | (go_simp; go_at_call 103; (with_reducible refine (nucleusOf_any g g (0 + 12) L T va vb vca vcb w4 (hr4) (by omega) (HR.out.rd) (HT.out.rd)).mono ?_); rintro e w10 ⟨t, ta, tc, rfl, hry, hct, hlt, hg10, hr10⟩; have hg410 := grown_trans (grown_refl w4 (some g)) hg10; have e0 := (bx_cells (K6.out _ hg410)).1; have e1 := (bx_cells (K6.out _ hg410)).2; have hz5 := box_drawn2 (b := w.heap.size) hg410 (by omega) hz4; obtain ⟨z0, z1⟩ := bx_cells hz5; have zf0 := frozen_of_row w10 _ 0 _ _ hz5; have zf1 := frozen_of_row w10 _ 1 _ _ hz5; have hRk := HR.out.kp (kp_drawn HR4.out hg410); have hTk := HT.out.kp (kp_drawn HR4.out hg410); have hgF := grown_trans hgA hg410)
      | (go_simp; go_at_call 103; (with_reducible refine (nucleusOf_any g g (0 + 12) L T va vb vca vcb w4.drew (hr4.drew) (by omega) ((HR.out.kp (kp_below ((Below.refl _ _).drew))).rd) ((HT.out.kp (kp_below ((Below.refl _ _).drew))).rd)).mono ?_); rintro e w10 ⟨t, ta, tc, rfl, hry, hct, hlt, hg10, hr10⟩; have hg410 := grown_trans (grown_drew (grown_refl w4 (some g))) hg10; have e0 := (bx_cells (K6.out _ hg410)).1; have e1 := (bx_cells (K6.out _ hg410)).2; have hz5 := box_drawn2 (b := w.heap.size) hg410 (by omega) hz4; obtain ⟨z0, z1⟩ := bx_cells hz5; have zf0 := frozen_of_row w10 _ 0 _ _ hz5; have zf1 := frozen_of_row w10 _ 1 _ _ hz5; have hRk := HR.out.kp (kp_drawn HR4.out hg410); have hTk := HT.out.kp (kp_drawn HR4.out hg410); have hgF := grown_trans hgA hg410))
  go_wp2
  refine bodyPost_ret (v := .tuple #[.agg #[.slice va L.length vca, .slice vb T.length vcb], .slice ta t.length tc]) (results_Alg_tmp rfl _ _ w.heap.size rfl _ _ (set1_heap (set0_heap hz5)) rfl) rfl ?_
  exact ⟨L, T, va, vca, vb, vcb, t, ta, tc, rfl, drA_end hz5 (Nat.le_refl _) HP.out hRk hTk hB1 hgF (by omega) (by first | exact .inl rfl | exact .inr rfl), ryEndN hz5 hry (by first | exact .inl rfl | exact .inr rfl), hct, by omega⟩
end Go.Proofs.Ytjcambkjcagcoaa
