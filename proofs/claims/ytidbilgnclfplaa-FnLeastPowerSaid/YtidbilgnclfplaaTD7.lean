import Derived.Test.YtidbilgnclfplaaTD3
import Derived.Test.YtidbilgnclfplaaTD6
namespace Go.Proofs.Ytidbilgnclfplaa
open Go.RowKit
set_option linter.unusedVariables false

/-- an algebra and two terms are drawn -/
def RetDAtt (w : World) (e : Ending) (w' : World) : Prop := ∃ (L : List Int) (T : List (List Int)) (a : Option Addr) (ca : Nat) (b : Option Addr) (cb : Nat) (p : List Int) (ap : Option Addr) (cp : Nat) (t : List Int) (at_ : Option Addr) (ct : Nat), e = .returned (.tuple #[.agg #[.slice a L.length ca, .slice b T.length cb], .slice ap p.length cp, .slice at_ t.length ct]) ∧ SomeP L T ∧ RY w' a L ∧ TY w' b T ∧ Below w.heap.size w w' ∧ RY w' ap p ∧ p.length ≤ cp ∧ p.length ≤ 40 ∧ RY w' at_ t ∧ t.length ≤ ct ∧ t.length ≤ 40
theorem kp_end {q : Nat} {wk : World} {x y u v : Value} {wf : World} (hz : wk.heap[q]? = some (.cells #[x, y] 33 (0, 0))) (hf : wf = (wk.setCell ⟨q, 0, none⟩ u).setCell ⟨q, 1, none⟩ v ∨ wf = ((wk.setCell ⟨q, 0, none⟩ u).setCell ⟨q, 1, none⟩ v).drew) : Kp wk wf := by
  have hk := kp_row hz (set2_other wk q u v)
  rcases hf with rfl | rfl
  · exact hk
  · exact hk
theorem ry_new {w w' : World} {b o : Nat} {X : Obj} {L : List Int} (h : RY w (some ⟨b, o, none⟩) L) (hg : (w.alloc X).grownBy w' (some w.heap.size)) : RY w' (some ⟨b, o, none⟩) L := fun hL => by
  obtain ⟨b', o', c, e, hb, hc⟩ := h hL
  injection e with e
  injection e with e1 e2 _
  subst e1 e2
  have hlt := lt_of_block hb
  have hk := (hg.block b (by simp; omega) (fun e => by injection e with e; omega)).trans (Below.heap_alloc w X b hlt)
  exact ⟨b, o, c, rfl, hk.trans hb, fun j hj => (cell_of_heap hb hk _).trans (hc j hj)⟩
set_option maxRecDepth 100000 in
set_option maxHeartbeats 4000000 in
/-- spec.DrawFollows -/
theorem drawFollows_any (a : Option Addr) (n cap : Nat) (w : World) (hy : RdY w a n w.heap.size) (hc : n ≤ cap) (hm : n ≤ 1048576) :
    Calls Try.prog 47 #[.slice a n cap] w (RetDAtt w) := by
  obtain ⟨i0, hi, hi0, hi1, hi2⟩ := info_parts info_int
  obtain ⟨w0, hw0⟩ : ∃ w0, w0 = w.alloc (.cells #[.slice none 0 0, .slice none 0 0] 33) := ⟨_, rfl⟩
  have hB : Below w.heap.size w w0 := by rw [hw0]; exact (Below.refl _ _).alloc (Nat.le_refl _) _
  have hz0 : w0.heap[w.heap.size]? = some (.cells #[.slice none 0 0, .slice none 0 0] 33 (0, 0)) := by rw [hw0]; exact heap_alloc_new w _
  have lz := lt_of_block hz0
  have hy0 := hy.up hB hB.size
  clear hy
  go_enter Try.func47, Try.ntmps47
  go_wp2_with (rw [← hw0]; clear hw0)
  refine (newReader_any a n cap w0 hy0 hc hm).mono ?_
  rintro e w1 ⟨rfl, hb1, hr1⟩
  have hs1 := hb1.size
  obtain ⟨g, hg⟩ : ∃ g : Nat, g = w0.heap.size := ⟨_, rfl⟩
  rw [← hg] at hr1 ⊢
  have lg : w.heap.size < g := by omega
  have hz1 := (hb1.block _ lz).trans hz0
  have hB1 : Below w.heap.size w w1 := hB.trans (hb1.mono hB.size)
  clear hg hz0 hb1 hy0
  go_wp2_with fail
  refine (someAlgebra_any g g 0 w1 hr1 (by omega)).mono ?_
  rintro e w2 ⟨L, T, va, vca, vb, vcb, rfl, hP, hR2, hT2, hg2, hr2⟩
  obtain ⟨l1, l7, _, _⟩ := someP_len hP
  have hz2 := box_drawn hz1 (by omega) hg2
  have gl2 := hr2.lt
  go_wp2_with (refine wpList_store_row rfl 33 _ _ rfl w2.heap.size #[.slice va L.length vca, .slice vb T.length vcb] rfl rfl _ _ (heap_alloc_new w2 (.cells #[.slice none 0 0, .slice none 0 0] 33)) (size_Alg _ _) rfl (one_sl2 _ _ _ _ _ _) ?_; rw [World.setRow_alloc_new]; obtain ⟨q6, w4, eq6, ew4, hgw4, hBw4, K6⟩ := drawn_box (.slice va L.length vca) (.slice vb T.length vcb) gl2; rw [← ew4, ← eq6]; have lq6 : w.heap.size < q6 := (by have := lt_of_block hz2; omega); have hz4 := (hBw4.block _ (lt_of_block hz2)).trans hz2; clear ew4 eq6)
  have hr4 := hr2.below hBw4
  have hkA := kp_below hBw4
  have hR4 := hR2.kp hkA
  have hT4 := hT2.kp hkA
  have hx4 := K6.out _ (grown_refl _ _)
  have nq6 : q6 ≠ g := fun e => by
    obtain ⟨c, hc⟩ := hr4.type
    rw [← e, hx4] at hc
    injection hc with hc
    injection hc with _ hc
    exact absurd hc (by decide)
  obtain ⟨c0, c1⟩ := bx_cells hx4
  have hgA := grown_new hg2 hBw4
  have HR4 := Lib.hid hr4
  have HR := Lib.hid hR4
  have HT := Lib.hid hT4
  have HP := Lib.hid hP
  clear hR2 hT2 hR4 hT4 hP hkA hz1 hz2 hr2 hr1 hx4 hBw4 c0 c1
  go_wp2_with fail
  refine (someTermS_any g g 12 w4 hr4 (by omega)).mono ?_
  rintro e w5 ⟨p, pb, po, pc, rfl, gpb, hpy, hpc, hp16, hg45, hr5⟩
  go_wp2_with fail
  refine (pick_any g g 54 4 w5 hr5 (by omega) (by omega) (by omega)).mono ?_
  rintro e w9 ⟨k, rfl, k0, k1, hg59, hr9⟩
  have hg49 := grown_trans hg45 hg59
  have KP := Lib.hid (show ∀ wz, w9.grownBy wz (some g) → RY wz (some ⟨pb, po, none⟩) p from fun wz h => hpy.kp (kp_drawn hr5 (grown_trans hg59 h)))
  have gl9 := hr9.lt
  have gle9 : g ≤ w9.heap.size := by omega
  obtain ⟨c0, c1⟩ := bx_cells (K6.out _ hg49)
  have hgr9 := grown_refl w9 (some g)
  clear hg45 hg59 hr5 hpy hr4
  by_cases e0 : k = 0
  · subst e0
    have hoX : Own w9.heap.size (w9.alloc (.cells #[.int .i64 15] 3)).drew (.slice (some ⟨w9.heap.size, 0, none⟩) 1 1) [15] := Own.row (heap_alloc_new w9 _) (Nat.le_refl _) (by unfold maxLen; simp)
    have hgX : w9.grownBy (w9.alloc (.cells #[.int .i64 15] 3)).drew (some g) := grown_drew (grown_alloc hgr9 _)
    go_wp2
    go_region_held3 (fun w' => w'.cell? ⟨q6, 0, none⟩ = some (.slice va L.length vca) ∧ w'.cell? ⟨q6, 1, none⟩ = some (.slice vb T.length vcb))
      (first | go_keep | exact ⟨e0, e1⟩ | exact ⟨f0, f1⟩ | exact ⟨h0, h1⟩ | exact ⟨cell_set2 e0 (by omega), cell_set2 e1 (by omega)⟩ | exact ⟨cell_set2 f0 (by omega), cell_set2 f1 (by omega)⟩ | exact ⟨cell_set2 h0 (by omega), cell_set2 h1 (by omega)⟩)
      (first
        | (refine step_append_some (by rfl) _ _ _ (by rfl) w9.heap.size 3 i0 (.int .i64 0) 1 8 Try.underlying22 hi hi0 hi1 hi2 rfl (by decide) _ _ _ (by rfl) (hoX) ⟨pb, po, none⟩ p.length pc (p.map fun x => Value.int .i64 x) (by rfl) (by simp) (rd_cells (KP.out _ hgX).rd) (fun x hx => by simp at hx; obtain ⟨y, _, rfl⟩ := hx; rfl) (by first | omega | (simp; done) | (simp; omega)) (by unfold maxLen; first | omega | (simp; done) | (simp; omega)) (by first | omega | (simp; done) | (simp; omega)) (by simp) ?_; intro ga fa wA hown hgrow hltwA; have oA : Own w9.heap.size wA (.slice (some ⟨ga, 0, none⟩) (([15] : List Int).length + p.length) fa) ([15] ++ p) := (by unfold Own; rw [List.map_append, List.length_append]; exact hown); have hgA1 := grown_app hgX hgrow (fun q hq => (World.ownsRow.lt hoX q hq).1); obtain ⟨R, hR⟩ : ∃ Rz, Rz = [15] ++ p := ⟨_, rfl⟩; have hRl : ([15] : List Int).length + p.length = R.length := (by rw [hR, List.length_append]); have hRb : R.length ≤ 17 := (by rw [← hRl]; first | omega | (simp; done) | (simp; omega)); have hRa : 1 ≤ R.length := (by rw [← hRl]; first | omega | (simp; done) | (simp; omega)); rw [← hR, hRl] at oA; rw [hRl]; clear hR hRl hown hgrow; have e0 := (bx_cells (K6.out _ (grown_trans hg49 hgA1))).1; have e1 := (bx_cells (K6.out _ (grown_trans hg49 hgA1))).2)
        | (refine step_append_some (by rfl) _ _ _ (by rfl) w9.heap.size 3 i0 (.int .i64 0) 1 8 Try.underlying22 hi hi0 hi1 hi2 rfl (by decide) _ _ _ (by rfl) (oA) ⟨pb, po, none⟩ p.length pc (p.map fun x => Value.int .i64 x) (by rfl) (by simp) (rd_cells (KP.out _ hgA1).rd) (fun x hx => by simp at hx; obtain ⟨y, _, rfl⟩ := hx; rfl) (by first | omega | (simp; done) | (simp; omega)) (by unfold maxLen; first | omega | (simp; done) | (simp; omega)) (by first | omega | (simp; done) | (simp; omega)) (hgA1.size) ?_; intro gf fc wF hown hgrow hltwF; have oF : Own w9.heap.size wF (.slice (some ⟨gf, 0, none⟩) (R.length + p.length) fc) (R ++ p) := (by unfold Own; rw [List.map_append, List.length_append]; exact hown); have hgF1 := grown_app hgA1 hgrow (fun q hq => (World.ownsRow.lt oA q hq).1); obtain ⟨F, hF⟩ : ∃ Rz, Rz = R ++ p := ⟨_, rfl⟩; have hFl : R.length + p.length = F.length := (by rw [hF, List.length_append]); have hFb : F.length ≤ 33 := (by rw [← hFl]; first | omega | (simp; done) | (simp; omega)); have hFa : 1 ≤ F.length := (by rw [← hFl]; first | omega | (simp; done) | (simp; omega)); rw [← hF, hFl] at oF; rw [hFl]; clear hF hFl hown hgrow; have f0 := (bx_cells (K6.out _ (grown_trans hg49 hgF1))).1; have f1 := (bx_cells (K6.out _ (grown_trans hg49 hgF1))).2; have hgT := grown_trans hg49 hgF1; have hz5 := box_drawn2 (b := w.heap.size) hgT (by omega) hz4; obtain ⟨z0, z1⟩ := bx_cells hz5; have zf0 := frozen_of_row wF _ 0 _ _ hz5; have zf1 := frozen_of_row wF _ 1 _ _ hz5; have hRk := HR.out.kp (kp_drawn HR4.out hgT); have hTk := HT.out.kp (kp_drawn HR4.out hgT); have hpk := KP.out _ hgF1; have hgF := grown_trans hgA hgT))
    go_wp2
    refine bodyPost_ret (v := .tuple #[.agg #[.slice va L.length vca, .slice vb T.length vcb], .slice (some ⟨pb, po, none⟩) p.length pc, .slice (some ⟨gf, 0, none⟩) F.length fc]) (results_Alg_tmp2 rfl _ _ w.heap.size rfl _ _ (set1_heap (set0_heap hz5)) rfl rfl) rfl ?_
    have HD := drA_end hz5 (Nat.le_refl _) HP.out hRk hTk hB1 hgF (by omega) (u := .slice va L.length vca) (v := .slice vb T.length vcb) (by first | exact .inl rfl | exact .inr rfl)
    exact ⟨L, T, va, vca, vb, vcb, p, _, pc, F, _, fc, rfl, HP.out, hRk.kp (kp_end hz5 (by first | exact .inl rfl | exact .inr rfl)), hTk.kp (kp_end hz5 (by first | exact .inl rfl | exact .inr rfl)), HD.2.2.2, hpk.kp (kp_end hz5 (by first | exact .inl rfl | exact .inr rfl)), hpc, by omega, RY.kp (ry_of oF) (kp_end hz5 (by first | exact .inl rfl | exact .inr rfl)), ownCapT oF, by omega⟩
  · have f0 : (k == 0) = false := by rw [beq_eq_false_iff_ne]; exact e0
    by_cases e1 : k = 1
    · subst e1
      have hoX : Own w9.heap.size (w9.alloc (.cells #[.int .i64 14] 3)).drew (.slice (some ⟨w9.heap.size, 0, none⟩) 1 1) [14] := Own.row (heap_alloc_new w9 _) (Nat.le_refl _) (by unfold maxLen; simp)
      have hgX : w9.grownBy (w9.alloc (.cells #[.int .i64 14] 3)).drew (some g) := grown_drew (grown_alloc hgr9 _)
      have hrX : Rdr (w9.alloc (.cells #[.int .i64 14] 3)).drew g g 55 := (hr9.alloc _).drew
      go_wp2
      go_region_held3 (fun w' => w'.cell? ⟨q6, 0, none⟩ = some (.slice va L.length vca) ∧ w'.cell? ⟨q6, 1, none⟩ = some (.slice vb T.length vcb))
        (first | go_keep | exact ⟨e0, e1⟩ | exact ⟨f0, f1⟩ | exact ⟨h0, h1⟩ | exact ⟨cell_set2 e0 (by omega), cell_set2 e1 (by omega)⟩ | exact ⟨cell_set2 f0 (by omega), cell_set2 f1 (by omega)⟩ | exact ⟨cell_set2 h0 (by omega), cell_set2 h1 (by omega)⟩)
        (first
          | (refine step_append_some (by rfl) _ _ _ (by rfl) w9.heap.size 3 i0 (.int .i64 0) 1 8 Try.underlying22 hi hi0 hi1 hi2 rfl (by decide) _ _ _ (by rfl) (oQ) ⟨tb, tq, none⟩ t.length tc (t.map fun x => Value.int .i64 x) (by rfl) (by simp) (rd_cells tQ.rd) (fun x hx => by simp at hx; obtain ⟨y, _, rfl⟩ := hx; rfl) (by first | omega | (simp; done) | (simp; omega)) (by unfold maxLen; first | omega | (simp; done) | (simp; omega)) (by first | omega | (simp; done) | (simp; omega)) (hgQ.size) ?_; intro gf fc wF hown hgrow hltwF; have oF : Own w9.heap.size wF (.slice (some ⟨gf, 0, none⟩) (R.length + t.length) fc) (R ++ t) := (by unfold Own; rw [List.map_append, List.length_append]; exact hown); have hgF1 := grown_app hgQ hgrow (fun q hq => (World.ownsRow.lt oQ q hq).1); obtain ⟨F, hF⟩ : ∃ Rz, Rz = R ++ t := ⟨_, rfl⟩; have hFl : R.length + t.length = F.length := (by rw [hF, List.length_append]); have hFb : F.length ≤ 33 := (by rw [← hFl]; first | omega | (simp; done) | (simp; omega)); have hFa : 1 ≤ F.length := (by rw [← hFl]; first | omega | (simp; done) | (simp; omega)); rw [← hF, hFl] at oF; rw [hFl]; clear hF hFl hown hgrow; have f0 := (bx_cells (K6.out _ (grown_trans hg49 hgF1))).1; have f1 := (bx_cells (K6.out _ (grown_trans hg49 hgF1))).2; have hgT := grown_trans hg49 hgF1; have hz5 := box_drawn2 (b := w.heap.size) hgT (by omega) hz4; obtain ⟨z0, z1⟩ := bx_cells hz5; have zf0 := frozen_of_row wF _ 0 _ _ hz5; have zf1 := frozen_of_row wF _ 1 _ _ hz5; have hRk := HR.out.kp (kp_drawn HR4.out hgT); have hTk := HT.out.kp (kp_drawn HR4.out hgT); have hpk := KP.out _ hgF1; have hgF := grown_trans hgA hgT)
          | (refine step_append_some (by rfl) _ _ _ (by rfl) w9.heap.size 3 i0 (.int .i64 0) 1 8 Try.underlying22 hi hi0 hi1 hi2 rfl (by decide) _ _ _ (by rfl) (oXC) ⟨pb, po, none⟩ p.length pc (p.map fun x => Value.int .i64 x) (by rfl) (by simp) (rd_cells (KP.out _ hgC).rd) (fun x hx => by simp at hx; obtain ⟨y, _, rfl⟩ := hx; rfl) (by first | omega | (simp; done) | (simp; omega)) (by unfold maxLen; first | omega | (simp; done) | (simp; omega)) (by first | omega | (simp; done) | (simp; omega)) (hgC.size) ?_; intro ga fa wA hown hgrow hltwA; have oQ : Own w9.heap.size wA (.slice (some ⟨ga, 0, none⟩) (([14] : List Int).length + p.length) fa) ([14] ++ p) := (by unfold Own; rw [List.map_append, List.length_append]; exact hown); have hgQ := grown_app hgC hgrow (fun q hq => (World.ownsRow.lt oXC q hq).1); have tQ := ry_grown hty hgrow hneC; obtain ⟨R, hR⟩ : ∃ Rz, Rz = [14] ++ p := ⟨_, rfl⟩; have hRl : ([14] : List Int).length + p.length = R.length := (by rw [hR, List.length_append]); have hRb : R.length ≤ 17 := (by rw [← hRl]; first | omega | (simp; done) | (simp; omega)); have hRa : 1 ≤ R.length := (by rw [← hRl]; first | omega | (simp; done) | (simp; omega)); rw [← hR, hRl] at oQ; rw [hRl]; clear hR hRl hown hgrow; have e0 := (bx_cells (K6.out _ (grown_trans hg49 hgQ))).1; have e1 := (bx_cells (K6.out _ (grown_trans hg49 hgQ))).2)
          | (refine step_append_some (by rfl) _ _ _ (by rfl) w9.heap.size 3 i0 (.int .i64 0) 1 8 Try.underlying22 hi hi0 hi1 hi2 rfl (by decide) _ _ _ (by rfl) (hoE) ⟨pb, po, none⟩ p.length pc (p.map fun x => Value.int .i64 x) (by rfl) (by simp) (rd_cells (KP.out _ hgEX).rd) (fun x hx => by simp at hx; obtain ⟨y, _, rfl⟩ := hx; rfl) (by first | omega | (simp; done) | (simp; omega)) (by unfold maxLen; first | omega | (simp; done) | (simp; omega)) (by first | omega | (simp; done) | (simp; omega)) (hgEX.size) ?_; intro ga fa wA hown hgrow hltwA; have oQ : Own w9.heap.size wA (.slice (some ⟨ga, 0, none⟩) (([14] : List Int).length + p.length) fa) ([14] ++ p) := (by unfold Own; rw [List.map_append, List.length_append]; exact hown); have hgQ := grown_app hgEX hgrow (fun q hq => (World.ownsRow.lt hoE q hq).1); have tQ := ry_new hty hgrow; obtain ⟨R, hR⟩ : ∃ Rz, Rz = [14] ++ p := ⟨_, rfl⟩; have hRl : ([14] : List Int).length + p.length = R.length := (by rw [hR, List.length_append]); have hRb : R.length ≤ 17 := (by rw [← hRl]; first | omega | (simp; done) | (simp; omega)); have hRa : 1 ≤ R.length := (by rw [← hRl]; first | omega | (simp; done) | (simp; omega)); rw [← hR, hRl] at oQ; rw [hRl]; clear hR hRl hown hgrow; have e0 := (bx_cells (K6.out _ (grown_trans hg49 hgQ))).1; have e1 := (bx_cells (K6.out _ (grown_trans hg49 hgQ))).2)
          | (refine step_append_some (by rfl) _ _ _ (by rfl) w9.heap.size 3 i0 (.int .i64 0) 1 8 Try.underlying22 hi hi0 hi1 hi2 rfl (by decide) _ _ _ (by rfl) (hoX) ⟨pb, po, none⟩ p.length pc (p.map fun x => Value.int .i64 x) (by rfl) (by simp) (rd_cells (KP.out _ hgX).rd) (fun x hx => by simp at hx; obtain ⟨y, _, rfl⟩ := hx; rfl) (by first | omega | (simp; done) | (simp; omega)) (by unfold maxLen; first | omega | (simp; done) | (simp; omega)) (by first | omega | (simp; done) | (simp; omega)) (by simp) ?_; intro ga fa wA hown hgrow hltwA; have oA : Own w9.heap.size wA (.slice (some ⟨ga, 0, none⟩) (([14] : List Int).length + p.length) fa) ([14] ++ p) := (by unfold Own; rw [List.map_append, List.length_append]; exact hown); have hgA1 := grown_app hgX hgrow (fun q hq => (World.ownsRow.lt hoX q hq).1); have rA := hrX.app hoX gle9 hgrow; obtain ⟨R, hR⟩ : ∃ Rz, Rz = [14] ++ p := ⟨_, rfl⟩; have hRl : ([14] : List Int).length + p.length = R.length := (by rw [hR, List.length_append]); have hRb : R.length ≤ 17 := (by rw [← hRl]; first | omega | (simp; done) | (simp; omega)); have hRa : 1 ≤ R.length := (by rw [← hRl]; first | omega | (simp; done) | (simp; omega)); rw [← hR, hRl] at oA; rw [hRl]; clear hR hRl hown hgrow; have e0 := (bx_cells (K6.out _ (grown_trans hg49 hgA1))).1; have e1 := (bx_cells (K6.out _ (grown_trans hg49 hgA1))).2)
          | (go_simp; go_at_call 75; (with_reducible refine (someTermS_any g g 55 wA (rA) (by omega)).mono ?_); rintro e wC ⟨t, tb, tq, tc, rfl, gtb, hty, htc, ht16, hgn, hrn⟩; have hgQ := grown_trans hgA1 hgn; have oQ := oA.drawn rA hgn; have tQ := hty; have e0 := (bx_cells (K6.out _ (grown_trans hg49 hgQ))).1; have e1 := (bx_cells (K6.out _ (grown_trans hg49 hgQ))).2)
          | (go_simp; go_at_call 75; (with_reducible refine (someTermS_any g g 55 (w9.alloc (.cells #[.int .i64 14] 3)).drew (hrX) (by omega)).mono ?_); rintro e wC ⟨t, tb, tq, tc, rfl, gtb, hty, htc, ht16, hgn, hrn⟩; have hgC := grown_trans hgX hgn; have oXC := hoX.drawn hrX hgn; have hneC : some tb ≠ (Value.slice (some ⟨w9.heap.size, 0, none⟩) 1 1).ownBlock := (fun e => by injection e with e; simp at gtb; omega); have e0 := (bx_cells (K6.out _ (grown_trans hg49 hgC))).1; have e1 := (bx_cells (K6.out _ (grown_trans hg49 hgC))).2)
          | (go_simp; go_at_call 75; (with_reducible refine (someTermS_any g g 55 w9.drew (hr9.drew) (by omega)).mono ?_); rintro e wE ⟨t, tb, tq, tc, rfl, gtb, hty, htc, ht16, hgn, hrn⟩; have hgE := grown_trans (grown_drew hgr9) hgn; have hoE : Own w9.heap.size (wE.alloc (.cells #[.int .i64 14] 3)) (.slice (some ⟨wE.heap.size, 0, none⟩) 1 1) [14] := Own.row (heap_alloc_new wE _) hgE.size (by unfold maxLen; simp); have hgEX := grown_alloc hgE (.cells #[.int .i64 14] 3); have e0 := (bx_cells (K6.out _ (grown_trans hg49 hgE))).1; have e1 := (bx_cells (K6.out _ (grown_trans hg49 hgE))).2))
      all_goals
        go_wp2
        refine bodyPost_ret (v := .tuple #[.agg #[.slice va L.length vca, .slice vb T.length vcb], .slice (some ⟨pb, po, none⟩) p.length pc, .slice (some ⟨gf, 0, none⟩) F.length fc]) (results_Alg_tmp2 rfl _ _ w.heap.size rfl _ _ (set1_heap (set0_heap hz5)) rfl rfl) rfl ?_
        have HD := drA_end hz5 (Nat.le_refl _) HP.out hRk hTk hB1 hgF (by omega) (u := .slice va L.length vca) (v := .slice vb T.length vcb) (by first | exact .inl rfl | exact .inr rfl)
        exact ⟨L, T, va, vca, vb, vcb, p, _, pc, F, _, fc, rfl, HP.out, hRk.kp (kp_end hz5 (by first | exact .inl rfl | exact .inr rfl)), hTk.kp (kp_end hz5 (by first | exact .inl rfl | exact .inr rfl)), HD.2.2.2, hpk.kp (kp_end hz5 (by first | exact .inl rfl | exact .inr rfl)), hpc, by omega, RY.kp (ry_of oF) (kp_end hz5 (by first | exact .inl rfl | exact .inr rfl)), ownCapT oF, by omega⟩
    · have f1 : (k == 1) = false := by rw [beq_eq_false_iff_ne]; exact e1
      clear e0 e1
      go_wp2
      go_region_held3 (fun w' => w'.cell? ⟨q6, 0, none⟩ = some (.slice va L.length vca) ∧ w'.cell? ⟨q6, 1, none⟩ = some (.slice vb T.length vcb))
        (first | go_keep | exact ⟨e0, e1⟩ | exact ⟨f0, f1⟩ | exact ⟨h0, h1⟩ | exact ⟨cell_set2 e0 (by omega), cell_set2 e1 (by omega)⟩ | exact ⟨cell_set2 f0 (by omega), cell_set2 f1 (by omega)⟩ | exact ⟨cell_set2 h0 (by omega), cell_set2 h1 (by omega)⟩)
        (first
          | (go_simp; go_at_call 75; (with_reducible refine (someTermS_any g g (54 + 1) w9 (hr9) (by omega)).mono ?_); rintro e wF ⟨F, fb, fo, fc, rfl, gfb, hfy, hfc, hf16, hgF0, hrF⟩; have hgF1 := grown_trans hgr9 hgF0; have e0 := (bx_cells (K6.out _ (grown_trans hg49 hgF1))).1; have e1 := (bx_cells (K6.out _ (grown_trans hg49 hgF1))).2; have hgT := grown_trans hg49 hgF1; have hz5 := box_drawn2 (b := w.heap.size) hgT (by omega) hz4; obtain ⟨z0, z1⟩ := bx_cells hz5; have zf0 := frozen_of_row wF _ 0 _ _ hz5; have zf1 := frozen_of_row wF _ 1 _ _ hz5; have hRk := HR.out.kp (kp_drawn HR4.out hgT); have hTk := HT.out.kp (kp_drawn HR4.out hgT); have hpk := KP.out _ hgF1; have hgF := grown_trans hgA hgT)
          | (go_simp; go_at_call 75; (with_reducible refine (someTermS_any g g (54 + 1) w9.drew (hr9.drew) (by omega)).mono ?_); rintro e wF ⟨F, fb, fo, fc, rfl, gfb, hfy, hfc, hf16, hgF0, hrF⟩; have hgF1 := grown_trans (grown_drew hgr9) hgF0; have e0 := (bx_cells (K6.out _ (grown_trans hg49 hgF1))).1; have e1 := (bx_cells (K6.out _ (grown_trans hg49 hgF1))).2; have hgT := grown_trans hg49 hgF1; have hz5 := box_drawn2 (b := w.heap.size) hgT (by omega) hz4; obtain ⟨z0, z1⟩ := bx_cells hz5; have zf0 := frozen_of_row wF _ 0 _ _ hz5; have zf1 := frozen_of_row wF _ 1 _ _ hz5; have hRk := HR.out.kp (kp_drawn HR4.out hgT); have hTk := HT.out.kp (kp_drawn HR4.out hgT); have hpk := KP.out _ hgF1; have hgF := grown_trans hgA hgT))
      go_wp2
      refine bodyPost_ret (v := .tuple #[.agg #[.slice va L.length vca, .slice vb T.length vcb], .slice (some ⟨pb, po, none⟩) p.length pc, .slice (some ⟨fb, fo, none⟩) F.length fc]) (results_Alg_tmp2 rfl _ _ w.heap.size rfl _ _ (set1_heap (set0_heap hz5)) rfl rfl) rfl ?_
      have HD := drA_end hz5 (Nat.le_refl _) HP.out hRk hTk hB1 hgF (by omega) (u := .slice va L.length vca) (v := .slice vb T.length vcb) (by first | exact .inl rfl | exact .inr rfl)
      exact ⟨L, T, va, vca, vb, vcb, p, _, pc, F, _, fc, rfl, HP.out, hRk.kp (kp_end hz5 (by first | exact .inl rfl | exact .inr rfl)), hTk.kp (kp_end hz5 (by first | exact .inl rfl | exact .inr rfl)), HD.2.2.2, hpk.kp (kp_end hz5 (by first | exact .inl rfl | exact .inr rfl)), hpc, by omega, RY.kp hfy (kp_end hz5 (by first | exact .inl rfl | exact .inr rfl)), hfc, by omega⟩
/-- the box that is filled with what has been drawn -/
theorem kp_box {q : Nat} {wk : World} {x y : Value} {cs : Array Value} (hz : wk.heap[q]? = some (.cells #[x, y] 33 (0, 0))) : Kp wk (wk.setRow q cs) := kp_row hz (fun k hk => setRow_other wk q k _ hk)
set_option maxRecDepth 100000 in
set_option maxHeartbeats 2000000 in
/-- spec.DrawLeastPower -/
theorem drawLeastPower_any (a : Option Addr) (n cap : Nat) (w : World) (hy : RdY w a n w.heap.size) (hc : n ≤ cap) (hm : n ≤ 1048576) :
    Calls Try.prog 49 #[.slice a n cap] w (RetDAtt w) := by
  obtain ⟨w0, hw0⟩ : ∃ w0, w0 = w.alloc (.cells #[.slice none 0 0, .slice none 0 0] 33) := ⟨_, rfl⟩
  have hB : Below w.heap.size w w0 := by rw [hw0]; exact (Below.refl _ _).alloc (Nat.le_refl _) _
  have hz0 : w0.heap[w.heap.size]? = some (.cells #[.slice none 0 0, .slice none 0 0] 33 (0, 0)) := by rw [hw0]; exact heap_alloc_new w _
  have lz := lt_of_block hz0
  have hy0 := hy.up hB hB.size
  clear hy
  go_enter Try.func49, Try.ntmps49
  go_wp2_with (rw [← hw0]; clear hw0)
  refine (drawFollows_any a n cap w0 hy0 hc hm).mono ?_
  rintro e w1 ⟨L, T, va, vca, vb, vcb, p, pa, pc, t, ta, tc, rfl, hP, hR, hT, hb1, hp, hpc, hp40, ht, htc, ht40⟩
  have hz1 := (hb1.block _ lz).trans hz0
  have hB1 : Below w.heap.size w w1 := hB.trans (hb1.mono hB.size)
  have hk := kp_box (cs := #[.slice va L.length vca, .slice vb T.length vcb]) hz1
  have HP := Lib.hid hP
  have HR := Lib.hid (hR.kp hk)
  have HT := Lib.hid (hT.kp hk)
  have Hp := Lib.hid (hp.kp hk)
  have Ht := Lib.hid (ht.kp hk)
  clear hP hR hT hp ht hk hz0 hb1
  go_wp2_with (refine wpList_store_row rfl 33 _ _ rfl w.heap.size #[.slice va L.length vca, .slice vb T.length vcb] rfl rfl _ _ hz1 (size_Alg _ _) rfl (one_sl2 _ _ _ _ _ _) ?_)
  refine bodyPost_ret (v := .tuple #[.agg #[.slice va L.length vca, .slice vb T.length vcb], .slice pa p.length pc, .slice ta t.length tc]) (results_Alg_tmp2 rfl _ _ w.heap.size rfl _ _ (setRow_heap _ _ _ _ _ _ hz1) rfl rfl) rfl ?_
  exact ⟨L, T, va, vca, vb, vcb, p, pa, pc, t, ta, tc, rfl, HP.out, HR.out, HT.out, below_setRow' hB1 (Nat.le_refl _) _, Hp.out, hpc, hp40, Ht.out, htc, ht40⟩
end Go.Proofs.Ytidbilgnclfplaa
