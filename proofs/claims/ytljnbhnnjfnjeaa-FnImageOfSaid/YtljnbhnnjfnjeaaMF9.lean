import Derived.Test.YtljnbhnnjfnjeaaMF3
import Derived.Test.YtljnbhnnjfnjeaaSL0
namespace Go.Proofs.Ytljnbhnnjfnjeaa
open Go.RowKit
set_option linter.unusedVariables false

/-- two algebras (or what is left of them) and a list are drawn -/
def RetDM (w : World) (e : Ending) (w' : World) : Prop := ∃ (L M F : List Int) (T U : List (List Int)) (a b a2 b2 f : Option Addr) (ca cb ca2 cb2 cf : Nat), e = .returned (.tuple #[.agg #[.slice a L.length ca, .slice b T.length cb], .agg #[.slice a2 M.length ca2, .slice b2 U.length cb2], .slice f F.length cf]) ∧ F.length ≤ 7 ∧ Rd w' a L ∧ RdT w' b T ∧ Rd w' a2 M ∧ RdT w' b2 U ∧ Rd w' f F ∧ Below w.heap.size w w'
set_option maxRecDepth 100000 in
set_option maxHeartbeats 4000000 in
/-- spec.DrawImageOf -/
theorem drawImageOf_any (a : Option Addr) (n cap : Nat) (w : World) (hy : RdY w a n w.heap.size) (hc : n ≤ cap) (hm : n ≤ 1048576) :
    Calls Try.prog 18 #[.slice a n cap] w (RetDM w) := by
  obtain ⟨w0, hw0⟩ : ∃ w0, w0 = (w.alloc (.cells #[.slice none 0 0, .slice none 0 0] 26)).alloc (.cells #[.slice none 0 0, .slice none 0 0] 26) := ⟨_, rfl⟩
  have hB : Below w.heap.size w w0 := by rw [hw0]; exact ((Below.refl _ _).alloc (Nat.le_refl _) _).alloc (by simp) _
  have zA0 : w0.heap[w.heap.size]? = some (.cells #[.slice none 0 0, .slice none 0 0] 26 (0, 0)) := by rw [hw0, Below.heap_alloc _ _ _ (by simp)]; exact heap_alloc_new w _
  have zB0 : w0.heap[w.heap.size + 1]? = some (.cells #[.slice none 0 0, .slice none 0 0] 26 (0, 0)) := by rw [hw0]; exact heap_alloc2_new _ _ _
  have lz := lt_of_block zB0
  have hy0 := hy.up hB hB.size
  clear hy
  go_enter Try.func18, Try.ntmps18
  go_wp2_with (rw [← hw0]; clear hw0)
  refine (newReader_any a n cap w0 hy0 hc hm).mono ?_
  rintro e w1 ⟨rfl, hb1, hr1⟩
  have hs1 := hb1.size
  obtain ⟨g, hg⟩ : ∃ g : Nat, g = w0.heap.size := ⟨_, rfl⟩
  rw [← hg] at hr1 ⊢
  have lg : w.heap.size + 1 < g := by omega
  have zA1 := (hb1.block _ (by omega)).trans zA0
  have zB1 := (hb1.block _ lz).trans zB0
  have hB1 : Below w.heap.size w w1 := hB.trans (hb1.mono hB.size)
  have sB1 := hB1.size
  clear hg zA0 zB0 hb1 hy0
  go_wp2_with fail
  refine (mapOf_any g g 0 w1 hr1 (by omega)).mono ?_
  rintro e w2 ⟨L, M, F, T, U, a, b, a2, b2, f, ca, cb, ca2, cb2, cf, rfl, f7, hR, hT, hR2, hT2, hF, hg2, hr2⟩
  have zA := box_drawn2 (b := w.heap.size) hg2 (by omega) zA1
  have zB := box_drawn2 (b := w.heap.size + 1) hg2 (by omega) zB1
  have hB2 : Below w.heap.size w w2 := hB1.trans (grown_below hg2 (by omega) hB1.size)
  have z1 : (w2.setRow w.heap.size #[.slice a L.length ca, .slice b T.length cb]).heap[w.heap.size + 1]? = some (.cells #[.slice none 0 0, .slice none 0 0] 26 (0, 0)) := (setRow_other w2 _ _ _ (by omega)).trans zB
  obtain ⟨wE, hwE⟩ : ∃ x : World, x = (w2.setRow w.heap.size #[.slice a L.length ca, .slice b T.length cb]).setRow (w.heap.size + 1) #[.slice a2 M.length ca2, .slice b2 U.length cb2] := ⟨_, rfl⟩
  have k1 : Kp w2 (w2.setRow w.heap.size #[.slice a L.length ca, .slice b T.length cb]) := kp_row zA (fun k hk => setRow_other w2 _ k _ hk)
  have k2 : Kp (w2.setRow w.heap.size #[.slice a L.length ca, .slice b T.length cb]) wE := by rw [hwE]; exact kp_row z1 (fun k hk => setRow_other _ _ k _ hk)
  have hE1 : wE.heap[w.heap.size]? = some (.cells #[.slice a L.length ca, .slice b T.length cb] 26 (0, 0)) := by rw [hwE]; exact (setRow_other _ _ _ _ (by omega)).trans (setRow_heap _ _ _ _ _ _ zA)
  have hE2 : wE.heap[w.heap.size + 1]? = some (.cells #[.slice a2 M.length ca2, .slice b2 U.length cb2] 26 (0, 0)) := by rw [hwE]; exact setRow_heap _ _ _ _ _ _ z1
  have hBE : Below w.heap.size w wE := by rw [hwE]; exact below_setRow' (below_setRow' hB2 (Nat.le_refl _) _) (by omega) _
  go_wp2_with (first
    | (refine wpList_store_row rfl 26 _ _ rfl w.heap.size #[.slice a L.length ca, .slice b T.length cb] rfl rfl _ _ zA (size_Alg _ _) rfl (one_sl2 _ _ _ _ _ _) ?_)
    | (refine wpList_store_row rfl 26 _ _ rfl (w.heap.size + 1) #[.slice a2 M.length ca2, .slice b2 U.length cb2] rfl rfl _ _ z1 (size_Alg _ _) rfl (one_sl2 _ _ _ _ _ _) ?_))
  rw [← hwE]
  refine bodyPost_ret (v := .tuple #[.agg #[.slice a L.length ca, .slice b T.length cb], .agg #[.slice a2 M.length ca2, .slice b2 U.length cb2], .slice f F.length cf]) (results_AAt rfl _ _ w.heap.size (w.heap.size + 1) rfl rfl _ _ _ _ hE1 hE2 rfl) rfl ?_
  exact ⟨L, M, F, T, U, a, b, a2, b2, f, ca, cb, ca2, cb2, cf, rfl, f7, ((hR.kp k1).kp k2).rd, ((hT.kp k1).kp k2).rd, ((hR2.kp k1).kp k2).rd, ((hT2.kp k1).kp k2).rd, ((hF.kp k1).kp k2).rd, hBE⟩
end Go.Proofs.Ytljnbhnnjfnjeaa
