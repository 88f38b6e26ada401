import Derived.Test.YtadcbofcohdmhaaSA7
namespace Go.Proofs.Ytadcbofcohdmhaa
open Go.RowKit
set_option linter.unusedVariables false

/-- two algebras are drawn -/
def RetDAA (w : World) (e : Ending) (w' : World) : Prop := ∃ (L : List Int) (T : List (List Int)) (a : Option Addr) (ca : Nat) (b : Option Addr) (cb : Nat) (M : List Int) (U : List (List Int)) (a2 : Option Addr) (ca2 : Nat) (b2 : Option Addr) (cb2 : Nat), e = .returned (.tuple #[.agg #[.slice a L.length ca, .slice b T.length cb], .agg #[.slice a2 M.length ca2, .slice b2 U.length cb2]]) ∧ SomeP L T ∧ SomeP M U ∧ Rd w' a L ∧ RdT w' b T ∧ Rd w' a2 M ∧ RdT w' b2 U ∧ Below w.heap.size w w'
theorem results_Alg_two {fn : Func} {p q : Tmp} (h : fn.results = #[.cell p 26, .cell q 26]) (tmps : Array Value) (w : World) (g g2 : Nat) (hp : tmps.getD p undef = .pointer (some ⟨g, 0, none⟩)) (hq : tmps.getD q undef = .pointer (some ⟨g2, 0, none⟩))
    (s t s2 t2 : Value) (hg : w.heap[g]? = some (.cells #[s, t] 26 (0, 0))) (hg2 : w.heap[g2]? = some (.cells #[s2, t2] 26 (0, 0))) :
    (results fn tmps).run Try.prog w = .ok (.tuple #[.agg #[s, t], .agg #[s2, t2]]) w := by
  have hp' : tmps[p]?.getD undef = .pointer (some ⟨g, 0, none⟩) := by simpa using hp
  have hq' : tmps[q]?.getD undef = .pointer (some ⟨g2, 0, none⟩) := by simpa using hq
  have hl := run_loadVar_row (P := Try.prog) w g _ 26 _ _ _ hg Try.underlying26 rfl (size_Alg _ _)
  have hl2 := run_loadVar_row (P := Try.prog) w g2 _ 26 _ _ _ hg2 Try.underlying26 rfl (size_Alg _ _)
  simp [results, h, hp', hq', asAddr, hl, hl2]
theorem gd_some {L : List Int} {T : List (List Int)} (h : Gd L T) : SomeP L T := ⟨L, T, h, .inl ⟨rfl, rfl⟩⟩
set_option maxRecDepth 100000 in
set_option maxHeartbeats 4000000 in
/-- spec.DrawStackAlgebras -/
theorem drawStackAlgebras_any (a : Option Addr) (n cap : Nat) (w : World) (hy : RdY w a n w.heap.size) (hc : n ≤ cap) (hm : n ≤ 1048576) :
    Calls Try.prog 4 #[.slice a n cap] w (RetDAA w) := by
  obtain ⟨w0, hw0⟩ : ∃ w0, w0 = (w.alloc (.cells #[.slice none 0 0, .slice none 0 0] 26)).alloc (.cells #[.slice none 0 0, .slice none 0 0] 26) := ⟨_, rfl⟩
  have hB : Below w.heap.size w w0 := by rw [hw0]; exact ((Below.refl _ _).alloc (Nat.le_refl _) _).alloc (by simp) _
  have hz0 : w0.heap[w.heap.size]? = some (.cells #[.slice none 0 0, .slice none 0 0] 26 (0, 0)) := by rw [hw0, Below.heap_alloc _ _ _ (by simp)]; exact heap_alloc_new w _
  have hy00 : w0.heap[w.heap.size + 1]? = some (.cells #[.slice none 0 0, .slice none 0 0] 26 (0, 0)) := by rw [hw0]; exact heap_alloc2_new _ _ _
  have lz := lt_of_block hz0
  have ly := lt_of_block hy00
  have hy0 := hy.up hB hB.size
  clear hy
  go_enter Try.func4, Try.ntmps4
  go_wp2_with (rw [← hw0]; clear hw0)
  refine (newReader_any a n cap w0 hy0 hc hm).mono ?_
  rintro e w1 ⟨rfl, hb1, hr1⟩
  have hs1 := hb1.size
  obtain ⟨g, hg⟩ : ∃ g : Nat, g = w0.heap.size := ⟨_, rfl⟩
  rw [← hg] at hr1 ⊢
  have lg : w.heap.size + 1 < g := by omega
  have hz1 := (hb1.block _ lz).trans hz0
  have hy1 := (hb1.block _ ly).trans hy00
  have hB1 : Below w.heap.size w w1 := hB.trans (hb1.mono hB.size)
  clear hg hz0 hy00 hb1 hy0
  go_wp2_with fail
  refine (pick_any g g 0 6 w1 hr1 (by omega) (by omega) (by omega)).mono ?_
  rintro e w2 ⟨j, rfl, p0, p1, hg2, hr2⟩
  by_cases e0 : j = 0
  · subst e0
    go_wp2_with fail
    refine (someAlgebra_any g g (0 + 1) w2 hr2 (by omega)).mono ?_
    rintro e wF ⟨L, T, va, vca, vb, vcb, rfl, hP, hR, hT, hgF, hrF⟩
    have hgF0 := grown_trans hg2 hgF
    go_wp2_with fail
    refine (someAlgebra_any g g (0 + 1 + 12) wF hrF (by omega)).mono ?_
    rintro e wS ⟨M, U, ua, uca, ub, ucb, rfl, hP2, hR2, hT2, hgS, hrS⟩
    have hk := kp_drawn hrF hgS
    have hR' := hR.kp hk
    have hT' := hT.kp hk
    have hgA := grown_trans hgF0 hgS
    have hzA := box_drawn hz1 (by omega) hgA
    have hzB := box_drawn hy1 (by omega) hgA
    obtain ⟨wE, hE⟩ : ∃ wE, wE = (wS.setRow w.heap.size #[.slice va L.length vca, .slice vb T.length vcb]).setRow (w.heap.size + 1) #[.slice ua M.length uca, .slice ub U.length ucb] := ⟨_, rfl⟩
    have hk1 : Kp wS (wS.setRow w.heap.size #[.slice va L.length vca, .slice vb T.length vcb]) := kp_row hzA (fun k hk => setRow_other wS _ k _ hk)
    have hzB1 : (wS.setRow w.heap.size #[.slice va L.length vca, .slice vb T.length vcb]).heap[w.heap.size + 1]? = some (.cells #[.slice none 0 0, .slice none 0 0] 26 (0, 0)) := (setRow_other wS _ _ _ (by omega)).trans hzB
    have hk2 : Kp (wS.setRow w.heap.size #[.slice va L.length vca, .slice vb T.length vcb]) wE := by rw [hE]; exact kp_row hzB1 (fun k hk => setRow_other _ _ k _ hk)
    have HD := Lib.hid (show Rd wE va L ∧ RdT wE vb T ∧ Rd wE ua M ∧ RdT wE ub U ∧ Below w.heap.size w wE from ⟨((hR'.kp hk1).kp hk2).rd, ((hT'.kp hk1).kp hk2).rd, ((hR2.kp hk1).kp hk2).rd, ((hT2.kp hk1).kp hk2).rd, by rw [hE]; exact below_setRow' (below_setRow' (hB1.trans (grown_below hgA (by omega) hB1.size)) (Nat.le_refl _) _) (by omega) _⟩)
    have HPP := Lib.hid (show SomeP L T ∧ SomeP M U from ⟨hP, hP2⟩)
    have hzE1 : wE.heap[w.heap.size]? = some (.cells #[.slice va L.length vca, .slice vb T.length vcb] 26 (0, 0)) := by rw [hE]; exact (setRow_other _ _ _ _ (by omega)).trans (setRow_heap _ _ _ _ _ _ hzA)
    have hzE2 : wE.heap[w.heap.size + 1]? = some (.cells #[.slice ua M.length uca, .slice ub U.length ucb] 26 (0, 0)) := by rw [hE]; exact setRow_heap _ _ _ _ _ _ hzB1
    clear hP hP2 hR hT hR' hT' hR2 hT2 hk hk1 hk2
    go_wp2_with (first
      | (refine wpList_store_row rfl 26 _ _ rfl w.heap.size #[.slice va L.length vca, .slice vb T.length vcb] rfl rfl _ _ hzA (size_Alg _ _) rfl (one_sl2 _ _ _ _ _ _) ?_)
      | (refine wpList_store_row rfl 26 _ _ rfl (w.heap.size + 1) #[.slice ua M.length uca, .slice ub U.length ucb] rfl rfl _ _ hzB1 (size_Alg _ _) rfl (one_sl2 _ _ _ _ _ _) ?_))
    rw [← hE]
    refine bodyPost_ret (v := .tuple #[.agg #[.slice va L.length vca, .slice vb T.length vcb], .agg #[.slice ua M.length uca, .slice ub U.length ucb]]) (results_Alg_two rfl _ _ w.heap.size (w.heap.size + 1) rfl rfl _ _ _ _ hzE1 hzE2) rfl ?_
    exact ⟨L, T, va, vca, vb, vcb, M, U, ua, uca, ub, ucb, rfl, HPP.out.1, HPP.out.2, HD.out⟩
  · have f0 : (j == 0) = false := by rw [beq_eq_false_iff_ne]; exact e0
    go_wp2_with fail
    refine (algebraOf_any g g (0 + 1) 4 w2 hr2 (by omega) (by omega) (by omega)).mono ?_
    rintro e wF ⟨L, T, va, vca, vb, vcb, rfl, ⟨hG, _⟩, ho, hT0, hgF, hrF⟩
    have hP := gd_some hG
    have hR := ry_of ho
    have hT := ty_of hT0
    have hgF0 := grown_trans hg2 hgF
    clear ho hT0 hG
    go_wp2_with fail
    refine (algebraOf_any g g (0 + 1 + 3) 3 wF hrF (by omega) (by omega) (by omega)).mono ?_
    rintro e wS ⟨M, U, ua, uca, ub, ucb, rfl, ⟨hG, _⟩, ho, hT0, hgS, hrS⟩
    have hP2 := gd_some hG
    have hR2 := ry_of ho
    have hT2 := ty_of hT0
    clear ho hT0 hG
    have hk := kp_drawn hrF hgS
    have hR' := hR.kp hk
    have hT' := hT.kp hk
    have hgA := grown_trans hgF0 hgS
    have hzA := box_drawn hz1 (by omega) hgA
    have hzB := box_drawn hy1 (by omega) hgA
    obtain ⟨wE, hE⟩ : ∃ wE, wE = (wS.setRow w.heap.size #[.slice va L.length vca, .slice vb T.length vcb]).setRow (w.heap.size + 1) #[.slice ua M.length uca, .slice ub U.length ucb] := ⟨_, rfl⟩
    have hk1 : Kp wS (wS.setRow w.heap.size #[.slice va L.length vca, .slice vb T.length vcb]) := kp_row hzA (fun k hk => setRow_other wS _ k _ hk)
    have hzB1 : (wS.setRow w.heap.size #[.slice va L.length vca, .slice vb T.length vcb]).heap[w.heap.size + 1]? = some (.cells #[.slice none 0 0, .slice none 0 0] 26 (0, 0)) := (setRow_other wS _ _ _ (by omega)).trans hzB
    have hk2 : Kp (wS.setRow w.heap.size #[.slice va L.length vca, .slice vb T.length vcb]) wE := by rw [hE]; exact kp_row hzB1 (fun k hk => setRow_other _ _ k _ hk)
    have HD := Lib.hid (show Rd wE va L ∧ RdT wE vb T ∧ Rd wE ua M ∧ RdT wE ub U ∧ Below w.heap.size w wE from ⟨((hR'.kp hk1).kp hk2).rd, ((hT'.kp hk1).kp hk2).rd, ((hR2.kp hk1).kp hk2).rd, ((hT2.kp hk1).kp hk2).rd, by rw [hE]; exact below_setRow' (below_setRow' (hB1.trans (grown_below hgA (by omega) hB1.size)) (Nat.le_refl _) _) (by omega) _⟩)
    have HPP := Lib.hid (show SomeP L T ∧ SomeP M U from ⟨hP, hP2⟩)
    have hzE1 : wE.heap[w.heap.size]? = some (.cells #[.slice va L.length vca, .slice vb T.length vcb] 26 (0, 0)) := by rw [hE]; exact (setRow_other _ _ _ _ (by omega)).trans (setRow_heap _ _ _ _ _ _ hzA)
    have hzE2 : wE.heap[w.heap.size + 1]? = some (.cells #[.slice ua M.length uca, .slice ub U.length ucb] 26 (0, 0)) := by rw [hE]; exact setRow_heap _ _ _ _ _ _ hzB1
    clear hP hP2 hR hT hR' hT' hR2 hT2 hk hk1 hk2
    go_wp2_with (first
      | (refine wpList_store_row rfl 26 _ _ rfl w.heap.size #[.slice va L.length vca, .slice vb T.length vcb] rfl rfl _ _ hzA (size_Alg _ _) rfl (one_sl2 _ _ _ _ _ _) ?_)
      | (refine wpList_store_row rfl 26 _ _ rfl (w.heap.size + 1) #[.slice ua M.length uca, .slice ub U.length ucb] rfl rfl _ _ hzB1 (size_Alg _ _) rfl (one_sl2 _ _ _ _ _ _) ?_))
    rw [← hE]
    refine bodyPost_ret (v := .tuple #[.agg #[.slice va L.length vca, .slice vb T.length vcb], .agg #[.slice ua M.length uca, .slice ub U.length ucb]]) (results_Alg_two rfl _ _ w.heap.size (w.heap.size + 1) rfl rfl _ _ _ _ hzE1 hzE2) rfl ?_
    exact ⟨L, T, va, vca, vb, vcb, M, U, ua, uca, ub, ucb, rfl, HPP.out.1, HPP.out.2, HD.out⟩
end Go.Proofs.Ytadcbofcohdmhaa
