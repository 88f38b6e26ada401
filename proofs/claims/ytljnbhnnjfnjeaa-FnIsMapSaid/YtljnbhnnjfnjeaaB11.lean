import Derived.Test.YtljnbhnnjfnjeaaH10
import Derived.Test.YtljnbhnnjfnjeaaG12
namespace Go.Proofs.Ytljnbhnnjfnjeaa
open Go.RowKit

theorem results_alg2_tmp {fn : Func} {p q u : Tmp} (h : fn.results = #[.cell p 52, .cell q 52, .tmp u]) (tmps : Array Value) (w : World) (g k : Nat) (hp : tmps.getD p undef = .pointer (some ⟨g, 0, none⟩)) (hq : tmps.getD q undef = .pointer (some ⟨k, 0, none⟩))
    (arr arr2 : Array Value) {v : Value} (hz : arr.size = 181) (hz2 : arr2.size = 181) (hg : w.heap[g]? = some (.cells arr 52 (0, 0))) (hk : w.heap[k]? = some (.cells arr2 52 (0, 0))) (hu : tmps.getD u undef = v) :
    (results fn tmps).run Try.prog w = .ok (.tuple #[.agg arr, .agg arr2, v]) w := by
  have hp' : tmps[p]?.getD undef = .pointer (some ⟨g, 0, none⟩) := by simpa using hp
  have hq' : tmps[q]?.getD undef = .pointer (some ⟨k, 0, none⟩) := by simpa using hq
  have hu' : tmps[u]?.getD undef = v := by simpa using hu
  have hl := run_loadVar_row (P := Try.prog) w g _ 52 _ _ _ hg Try.underlying52 rfl (by rw [hz]; exact info_alg)
  have hl2 := run_loadVar_row (P := Try.prog) w k _ 52 _ _ _ hk Try.underlying52 rfl (by rw [hz2]; exact info_alg)
  simp [results, h, hp', hq', hu', asAddr, hl, hl2]
set_option maxRecDepth 100000 in
set_option maxHeartbeats 4000000 in
theorem readBoth_yes (a b : Option Addr) (ca cb : Nat) (L : List Int) (T : List (List Int)) (a2 b2 : Option Addr) (ca2 cb2 : Nat) (M : List Int) (U : List (List Int)) (w : World) (hr : Rd w a L) (hT : RdT w b T) (hr2 : Rd w a2 M) (hT2 : RdT w b2 U) (h : algB L T = true) (h2 : algB M U = true) :
    Calls Try.prog 24 #[.agg #[.slice a L.length ca, .slice b T.length cb], .agg #[.slice a2 M.length ca2, .slice b2 U.length cb2]] w fun e w' => e = .returned (.tuple #[.agg (algOf L T), .agg (algOf M U), .bool true]) ∧ Below w.heap.size w w' := by
  obtain ⟨wa, hwa⟩ : ∃ x, x = w.alloc (.cells #[.slice a L.length ca, .slice b T.length cb] 26) := ⟨_, rfl⟩
  obtain ⟨wb, hwb⟩ : ∃ x, x = wa.alloc (.cells #[.slice a2 M.length ca2, .slice b2 U.length cb2] 26) := ⟨_, rfl⟩
  obtain ⟨wc, hwc⟩ : ∃ x, x = wb.alloc (.cells zeroAlg 52) := ⟨_, rfl⟩
  obtain ⟨w1, hw1⟩ : ∃ x, x = wc.alloc (.cells zeroAlg 52) := ⟨_, rfl⟩
  have sa : wa.heap.size = w.heap.size + 1 := by rw [hwa]; simp
  have sb : wb.heap.size = w.heap.size + 1 + 1 := by rw [hwb]; simp [sa]
  have sc : wc.heap.size = w.heap.size + 1 + 1 + 1 := by rw [hwc]; simp [sb]
  have s1 : w1.heap.size = w.heap.size + 1 + 1 + 1 + 1 := by rw [hw1]; simp [sc]
  have Ba : Below w.heap.size w wa := by rw [hwa]; exact (Below.refl _ _).alloc (Nat.le_refl _) _
  have Bb : Below wa.heap.size wa wb := by rw [hwb]; exact (Below.refl _ _).alloc (Nat.le_refl _) _
  have Bc : Below wb.heap.size wb wc := by rw [hwc]; exact (Below.refl _ _).alloc (Nat.le_refl _) _
  have Bd : Below wc.heap.size wc w1 := by rw [hw1]; exact (Below.refl _ _).alloc (Nat.le_refl _) _
  have hB : Below w.heap.size w w1 := ((Ba.trans (Bb.mono Ba.size)).trans (Bc.mono (by omega))).trans (Bd.mono (by omega))
  have hx0 : w1.heap[w.heap.size]? = some (.cells #[.slice a L.length ca, .slice b T.length cb] 26 (0, 0)) := by rw [Bd.block _ (by omega), Bc.block _ (by omega), Bb.block _ (by omega), hwa]; exact heap_alloc_new w _
  have hx1 : w1.heap[w.heap.size + 1]? = some (.cells #[.slice a2 M.length ca2, .slice b2 U.length cb2] 26 (0, 0)) := by rw [Bd.block _ (by omega), Bc.block _ (by omega), hwb, ← sa]; exact heap_alloc_new wa _
  have hz4 : w1.heap[w.heap.size + 1 + 1]? = some (.cells zeroAlg 52 (0, 0)) := by rw [Bd.block _ (by omega), hwc, ← sb]; exact heap_alloc_new wb _
  have hz5 : w1.heap[w.heap.size + 1 + 1 + 1]? = some (.cells zeroAlg 52 (0, 0)) := by rw [hw1, ← sc]; exact heap_alloc_new wc _
  have hzc : Try.zeroCells52 = zeroAlg := by kernel_rfl
  have hww : w1 = (((w.alloc (.cells #[.slice a L.length ca, .slice b T.length cb] 26)).alloc (.cells #[.slice a2 M.length ca2, .slice b2 U.length cb2] 26)).alloc (.cells zeroAlg 52)).alloc (.cells zeroAlg 52) := by rw [hw1, hwc, hwb, hwa]
  have KR := Lib.hid (show ∀ wz, Below w1.heap.size w1 wz → Rd wz a L from fun wz h => (hr.below hB).below h)
  have KT := Lib.hid (show ∀ wz, Below w1.heap.size w1 wz → RdT wz b T from fun wz h => (hT.below hB).below h)
  have hB2 := hB
  have KR2 := Lib.hid (show ∀ wz, Below w.heap.size w wz → Rd wz a2 M from fun wz h => hr2.below h)
  have KT2 := Lib.hid (show ∀ wz, Below w.heap.size w wz → RdT wz b2 U from fun wz h => hT2.below h)
  clear hwa hwb hwc hw1 Ba Bb Bc Bd hr hT hr2 hT2 sa sb sc
  have HA := Lib.hid h
  have HA2 := Lib.hid h2
  clear h h2
  go_enter Try.func24, Try.ntmps24
  go_wp2_with (first
    | go_skip
    | (rw [← hww]; clear hww)
    | (refine wpList_load_row_w rfl 26 _ rfl w.heap.size rfl _ _ _ _ hx0 Try.underlying26 rfl (size_Alg _ _) ?_)
    | (refine wpList_load_row_w rfl 26 _ rfl (w.heap.size + 1) rfl _ _ _ _ hx1 Try.underlying26 rfl (size_Alg _ _) ?_)
    | (go_at_call_of 46 (Value.agg #[.slice a L.length ca, .slice b T.length cb]); refine (readAlgebra_yes _ _ _ _ L T _ (KR.out _ (Below.refl _ _)) (KT.out _ (Below.refl _ _)) HA.out).mono ?_; rintro e w2 ⟨rfl, h2⟩; replace hB2 := hB2.trans (h2.mono hB2.size); replace hx0 := (h2.block _ (lt_of_block hx0)).trans hx0; replace hx1 := (h2.block _ (lt_of_block hx1)).trans hx1; replace hz4 := (h2.block _ (lt_of_block hz4)).trans hz4; replace hz5 := (h2.block _ (lt_of_block hz5)).trans hz5)
    | (go_at_call_of 46 (Value.agg #[.slice a2 M.length ca2, .slice b2 U.length cb2]); refine (readAlgebra_yes _ _ _ _ M U _ (KR2.out _ hB2) (KT2.out _ hB2) HA2.out).mono ?_; rintro e w4 ⟨rfl, h4⟩; replace hB2 := hB2.trans (h4.mono hB2.size); replace hx0 := (h4.block _ (lt_of_block hx0)).trans hx0; replace hx1 := (h4.block _ (lt_of_block hx1)).trans hx1; replace hz4 := (h4.block _ (lt_of_block hz4)).trans hz4; replace hz5 := (h4.block _ (lt_of_block hz5)).trans hz5)
    | (refine wpList_store_row rfl 52 _ _ rfl (w.heap.size + 1 + 1) (algOf L T) rfl rfl _ _ hz4 (size_alg _ _ _ _ _ _) rfl (one_alg _ _ _ _ _ _) ?_; have q3 : Below (w.heap.size + 1 + 1) w2 (w2.setRow (w.heap.size + 1 + 1) (algOf L T)) := below_setRow (Below.refl _ _) (Nat.le_refl _) _; have x0n := (setRow_other w2 (w.heap.size + 1 + 1) w.heap.size (algOf L T) (by omega)).trans hx0; have x1n := (setRow_other w2 (w.heap.size + 1 + 1) (w.heap.size + 1) (algOf L T) (by omega)).trans hx1; have on := (setRow_other w2 (w.heap.size + 1 + 1) (w.heap.size + 1 + 1 + 1) (algOf L T) (by omega)).trans hz5; have zn := setRow_heap w2 (w.heap.size + 1 + 1) _ (algOf L T) _ _ hz4; have hB2b := below_setRow' (G := (w.heap.size + 1 + 1)) hB2 (by omega) (algOf L T); obtain ⟨w3, hw3⟩ : ∃ x, x = w2.setRow (w.heap.size + 1 + 1) (algOf L T) := ⟨_, rfl⟩; rw [← hw3] at q3 x0n x1n on zn hB2b ⊢; clear hw3 hx0 hx1 hz4 hz5; have hx0 := x0n; have hx1 := x1n; have hz4 := zn; have hz5 := on; clear x0n x1n on zn; replace hB2 := hB2b; clear hB2b)
    | (refine wpList_store_row rfl 52 _ _ rfl (w.heap.size + 1 + 1 + 1) (algOf M U) rfl rfl _ _ hz5 (size_alg _ _ _ _ _ _) rfl (one_alg _ _ _ _ _ _) ?_; have q5 : Below (w.heap.size + 1 + 1 + 1) w4 (w4.setRow (w.heap.size + 1 + 1 + 1) (algOf M U)) := below_setRow (Below.refl _ _) (Nat.le_refl _) _; have x0n := (setRow_other w4 (w.heap.size + 1 + 1 + 1) w.heap.size (algOf M U) (by omega)).trans hx0; have x1n := (setRow_other w4 (w.heap.size + 1 + 1 + 1) (w.heap.size + 1) (algOf M U) (by omega)).trans hx1; have on := (setRow_other w4 (w.heap.size + 1 + 1 + 1) (w.heap.size + 1 + 1) (algOf M U) (by omega)).trans hz4; have zn := setRow_heap w4 (w.heap.size + 1 + 1 + 1) _ (algOf M U) _ _ hz5; have hB2b := below_setRow' (G := (w.heap.size + 1 + 1 + 1)) hB2 (by omega) (algOf M U); obtain ⟨w5, hw5⟩ : ∃ x, x = w4.setRow (w.heap.size + 1 + 1 + 1) (algOf M U) := ⟨_, rfl⟩; rw [← hw5] at q5 x0n x1n on zn hB2b ⊢; clear hw5 hx0 hx1 hz5 hz4; have hx0 := x0n; have hx1 := x1n; have hz5 := zn; have hz4 := on; clear x0n x1n on zn; replace hB2 := hB2b; clear hB2b))
  refine wp_region_any (by kernel_rfl) ?_
  refine any_of_C (C := fun wz => wz.heap[w.heap.size + 1 + 1]? = some (.cells (algOf L T) 52 (0, 0)) ∧ wz.heap[w.heap.size + 1 + 1 + 1]? = some (.cells (algOf M U) 52 (0, 0))) _ _ _ _ ?_
  have hC : (w5.drewN 1).heap[w.heap.size + 1 + 1]? = some (.cells (algOf L T) 52 (0, 0)) ∧ (w5.drewN 1).heap[w.heap.size + 1 + 1 + 1]? = some (.cells (algOf M U) 52 (0, 0)) := ⟨hz4, hz5⟩
  refine anyC_take (i := 0) (v := .agg (algOf L T)) rfl (by kernel_rfl) (by kernel_rfl) (by kernel_rfl) (fun _ _ _ h => h) (.inl ⟨rfl, fun wz hz => runs_load (C := fun wz => wz.heap[w.heap.size + 1 + 1]? = some (.cells (algOf L T) 52 (0, 0)) ∧ wz.heap[w.heap.size + 1 + 1 + 1]? = some (.cells (algOf M U) 52 (0, 0))) 52 _ rfl (w.heap.size + 1 + 1) rfl _ _ _ _ (fun w hw => hw.1) Try.underlying52 rfl (size_alg _ _ _ _ _ _) wz hz⟩) ?_
  refine anyC_take (i := 1) (v := .agg (algOf M U)) rfl (by kernel_rfl) (by kernel_rfl) (by kernel_rfl) (fun _ _ _ h => h) (.inl ⟨rfl, fun wz hz => runs_load (C := fun wz => wz.heap[w.heap.size + 1 + 1]? = some (.cells (algOf L T) 52 (0, 0)) ∧ wz.heap[w.heap.size + 1 + 1 + 1]? = some (.cells (algOf M U) 52 (0, 0))) 52 _ rfl (w.heap.size + 1 + 1 + 1) rfl _ _ _ _ (fun w hw => hw.2) Try.underlying52 rfl (size_alg _ _ _ _ _ _) wz hz⟩) ?_
  refine anyC_still (i := 2) rfl (by kernel_rfl) (by kernel_rfl) (by kernel_rfl) (fun _ _ _ h => h) rfl (fun wz hz => runs_store_same 52 _ _ rfl (w.heap.size + 1 + 1) rfl _ _ rfl (size_alg _ _ _ _ _ _) (one_alg _ _ _ _ _ _) wz hz.1) ?_
  refine anyC_still (i := 3) rfl (by kernel_rfl) (by kernel_rfl) (by kernel_rfl) (fun _ _ _ h => h) rfl (fun wz hz => runs_store_same 52 _ _ rfl (w.heap.size + 1 + 1 + 1) rfl _ _ rfl (size_alg _ _ _ _ _ _) (one_alg _ _ _ _ _ _) wz hz.2) ?_
  refine anyC_take (i := 4) (v := .bool true) rfl (by kernel_rfl) (by kernel_rfl) (by kernel_rfl) (fun _ _ _ h => h) (.inl ⟨rfl, fun wz hz => by apply runs_assign <;> rfl⟩) ?_
  refine anyC_done (by kernel_rfl) hC ?_ _
  simp only [List.getElem_toArray, List.getElem_cons_zero, List.getElem_cons_succ, Act.put, List.setIfInBounds_toArray, List.set_cons_succ, List.set_cons_zero]
  go_wp2
  exact bodyPost_ret (v := .tuple #[.agg (algOf L T), .agg (algOf M U), .bool true]) (results_alg2_tmp rfl _ _ (w.heap.size + 1 + 1) (w.heap.size + 1 + 1 + 1) rfl rfl _ _ (algA_size _ _ _ _ _ _) (algA_size _ _ _ _ _ _) hC.1 hC.2 rfl) rfl ⟨rfl, hB2.trans (Dr.below ⟨1, rfl⟩ _)⟩
set_option maxRecDepth 100000 in
set_option maxHeartbeats 4000000 in
theorem readBoth_no1 (a b : Option Addr) (ca cb : Nat) (L : List Int) (T : List (List Int)) (a2 b2 : Option Addr) (ca2 cb2 : Nat) (M : List Int) (U : List (List Int)) (w : World) (hr : Rd w a L) (hT : RdT w b T) (hr2 : Rd w a2 M) (hT2 : RdT w b2 U) (h : algB L T = false) (h2 : algB M U = false) :
    Calls Try.prog 24 #[.agg #[.slice a L.length ca, .slice b T.length cb], .agg #[.slice a2 M.length ca2, .slice b2 U.length cb2]] w fun e w' => e = .returned (.tuple #[.agg zeroAlg, .agg zeroAlg, .bool false]) ∧ Below w.heap.size w w' := by
  obtain ⟨wa, hwa⟩ : ∃ x, x = w.alloc (.cells #[.slice a L.length ca, .slice b T.length cb] 26) := ⟨_, rfl⟩
  obtain ⟨wb, hwb⟩ : ∃ x, x = wa.alloc (.cells #[.slice a2 M.length ca2, .slice b2 U.length cb2] 26) := ⟨_, rfl⟩
  obtain ⟨wc, hwc⟩ : ∃ x, x = wb.alloc (.cells zeroAlg 52) := ⟨_, rfl⟩
  obtain ⟨w1, hw1⟩ : ∃ x, x = wc.alloc (.cells zeroAlg 52) := ⟨_, rfl⟩
  have sa : wa.heap.size = w.heap.size + 1 := by rw [hwa]; simp
  have sb : wb.heap.size = w.heap.size + 1 + 1 := by rw [hwb]; simp [sa]
  have sc : wc.heap.size = w.heap.size + 1 + 1 + 1 := by rw [hwc]; simp [sb]
  have s1 : w1.heap.size = w.heap.size + 1 + 1 + 1 + 1 := by rw [hw1]; simp [sc]
  have Ba : Below w.heap.size w wa := by rw [hwa]; exact (Below.refl _ _).alloc (Nat.le_refl _) _
  have Bb : Below wa.heap.size wa wb := by rw [hwb]; exact (Below.refl _ _).alloc (Nat.le_refl _) _
  have Bc : Below wb.heap.size wb wc := by rw [hwc]; exact (Below.refl _ _).alloc (Nat.le_refl _) _
  have Bd : Below wc.heap.size wc w1 := by rw [hw1]; exact (Below.refl _ _).alloc (Nat.le_refl _) _
  have hB : Below w.heap.size w w1 := ((Ba.trans (Bb.mono Ba.size)).trans (Bc.mono (by omega))).trans (Bd.mono (by omega))
  have hx0 : w1.heap[w.heap.size]? = some (.cells #[.slice a L.length ca, .slice b T.length cb] 26 (0, 0)) := by rw [Bd.block _ (by omega), Bc.block _ (by omega), Bb.block _ (by omega), hwa]; exact heap_alloc_new w _
  have hx1 : w1.heap[w.heap.size + 1]? = some (.cells #[.slice a2 M.length ca2, .slice b2 U.length cb2] 26 (0, 0)) := by rw [Bd.block _ (by omega), Bc.block _ (by omega), hwb, ← sa]; exact heap_alloc_new wa _
  have hz4 : w1.heap[w.heap.size + 1 + 1]? = some (.cells zeroAlg 52 (0, 0)) := by rw [Bd.block _ (by omega), hwc, ← sb]; exact heap_alloc_new wb _
  have hz5 : w1.heap[w.heap.size + 1 + 1 + 1]? = some (.cells zeroAlg 52 (0, 0)) := by rw [hw1, ← sc]; exact heap_alloc_new wc _
  have hzc : Try.zeroCells52 = zeroAlg := by kernel_rfl
  have hww : w1 = (((w.alloc (.cells #[.slice a L.length ca, .slice b T.length cb] 26)).alloc (.cells #[.slice a2 M.length ca2, .slice b2 U.length cb2] 26)).alloc (.cells zeroAlg 52)).alloc (.cells zeroAlg 52) := by rw [hw1, hwc, hwb, hwa]
  have KR := Lib.hid (show ∀ wz, Below w1.heap.size w1 wz → Rd wz a L from fun wz h => (hr.below hB).below h)
  have KT := Lib.hid (show ∀ wz, Below w1.heap.size w1 wz → RdT wz b T from fun wz h => (hT.below hB).below h)
  have hB2 := hB
  have KR2 := Lib.hid (show ∀ wz, Below w.heap.size w wz → Rd wz a2 M from fun wz h => hr2.below h)
  have KT2 := Lib.hid (show ∀ wz, Below w.heap.size w wz → RdT wz b2 U from fun wz h => hT2.below h)
  clear hwa hwb hwc hw1 Ba Bb Bc Bd hr hT hr2 hT2 sa sb sc
  have HA := Lib.hid h
  have HA2 := Lib.hid h2
  clear h h2
  go_enter Try.func24, Try.ntmps24
  go_wp2_with (first
    | go_skip
    | (rw [← hww]; clear hww)
    | (refine wpList_load_row_w rfl 26 _ rfl w.heap.size rfl _ _ _ _ hx0 Try.underlying26 rfl (size_Alg _ _) ?_)
    | (refine wpList_load_row_w rfl 26 _ rfl (w.heap.size + 1) rfl _ _ _ _ hx1 Try.underlying26 rfl (size_Alg _ _) ?_)
    | (go_at_call_of 46 (Value.agg #[.slice a L.length ca, .slice b T.length cb]); refine (readAlgebra_no _ _ _ _ L T _ (KR.out _ (Below.refl _ _)) (KT.out _ (Below.refl _ _)) HA.out).mono ?_; rintro e w2 ⟨rfl, h2⟩; replace hB2 := hB2.trans (h2.mono hB2.size); replace hx0 := (h2.block _ (lt_of_block hx0)).trans hx0; replace hx1 := (h2.block _ (lt_of_block hx1)).trans hx1; replace hz4 := (h2.block _ (lt_of_block hz4)).trans hz4; replace hz5 := (h2.block _ (lt_of_block hz5)).trans hz5)
    | (go_at_call_of 46 (Value.agg #[.slice a2 M.length ca2, .slice b2 U.length cb2]); refine (readAlgebra_no _ _ _ _ M U _ (KR2.out _ hB2) (KT2.out _ hB2) HA2.out).mono ?_; rintro e w4 ⟨rfl, h4⟩; replace hB2 := hB2.trans (h4.mono hB2.size); replace hx0 := (h4.block _ (lt_of_block hx0)).trans hx0; replace hx1 := (h4.block _ (lt_of_block hx1)).trans hx1; replace hz4 := (h4.block _ (lt_of_block hz4)).trans hz4; replace hz5 := (h4.block _ (lt_of_block hz5)).trans hz5)
    | (refine wpList_store_row rfl 52 _ _ rfl (w.heap.size + 1 + 1) zeroAlg rfl rfl _ _ hz4 size_zeroAlg rfl one_zeroAlg ?_; have q3 : Below (w.heap.size + 1 + 1) w2 (w2.setRow (w.heap.size + 1 + 1) zeroAlg) := below_setRow (Below.refl _ _) (Nat.le_refl _) _; have x0n := (setRow_other w2 (w.heap.size + 1 + 1) w.heap.size zeroAlg (by omega)).trans hx0; have x1n := (setRow_other w2 (w.heap.size + 1 + 1) (w.heap.size + 1) zeroAlg (by omega)).trans hx1; have on := (setRow_other w2 (w.heap.size + 1 + 1) (w.heap.size + 1 + 1 + 1) zeroAlg (by omega)).trans hz5; have zn := setRow_heap w2 (w.heap.size + 1 + 1) _ zeroAlg _ _ hz4; have hB2b := below_setRow' (G := (w.heap.size + 1 + 1)) hB2 (by omega) zeroAlg; obtain ⟨w3, hw3⟩ : ∃ x, x = w2.setRow (w.heap.size + 1 + 1) zeroAlg := ⟨_, rfl⟩; rw [← hw3] at q3 x0n x1n on zn hB2b ⊢; clear hw3 hx0 hx1 hz4 hz5; have hx0 := x0n; have hx1 := x1n; have hz4 := zn; have hz5 := on; clear x0n x1n on zn; replace hB2 := hB2b; clear hB2b)
    | (refine wpList_store_row rfl 52 _ _ rfl (w.heap.size + 1 + 1 + 1) zeroAlg rfl rfl _ _ hz5 size_zeroAlg rfl one_zeroAlg ?_; have q5 : Below (w.heap.size + 1 + 1 + 1) w4 (w4.setRow (w.heap.size + 1 + 1 + 1) zeroAlg) := below_setRow (Below.refl _ _) (Nat.le_refl _) _; have x0n := (setRow_other w4 (w.heap.size + 1 + 1 + 1) w.heap.size zeroAlg (by omega)).trans hx0; have x1n := (setRow_other w4 (w.heap.size + 1 + 1 + 1) (w.heap.size + 1) zeroAlg (by omega)).trans hx1; have on := (setRow_other w4 (w.heap.size + 1 + 1 + 1) (w.heap.size + 1 + 1) zeroAlg (by omega)).trans hz4; have zn := setRow_heap w4 (w.heap.size + 1 + 1 + 1) _ zeroAlg _ _ hz5; have hB2b := below_setRow' (G := (w.heap.size + 1 + 1 + 1)) hB2 (by omega) zeroAlg; obtain ⟨w5, hw5⟩ : ∃ x, x = w4.setRow (w.heap.size + 1 + 1 + 1) zeroAlg := ⟨_, rfl⟩; rw [← hw5] at q5 x0n x1n on zn hB2b ⊢; clear hw5 hx0 hx1 hz5 hz4; have hx0 := x0n; have hx1 := x1n; have hz5 := zn; have hz4 := on; clear x0n x1n on zn; replace hB2 := hB2b; clear hB2b)
    | (refine wpList_store_row rfl 52 _ _ rfl (w.heap.size + 1 + 1) zeroAlg rfl rfl _ _ hz4 size_zeroAlg rfl one_zeroAlg ?_; have q6 : Below (w.heap.size + 1 + 1) w5 (w5.setRow (w.heap.size + 1 + 1) zeroAlg) := below_setRow (Below.refl _ _) (Nat.le_refl _) _; have x0n := (setRow_other w5 (w.heap.size + 1 + 1) w.heap.size zeroAlg (by omega)).trans hx0; have x1n := (setRow_other w5 (w.heap.size + 1 + 1) (w.heap.size + 1) zeroAlg (by omega)).trans hx1; have on := (setRow_other w5 (w.heap.size + 1 + 1) (w.heap.size + 1 + 1 + 1) zeroAlg (by omega)).trans hz5; have zn := setRow_heap w5 (w.heap.size + 1 + 1) _ zeroAlg _ _ hz4; have hB2b := below_setRow' (G := (w.heap.size + 1 + 1)) hB2 (by omega) zeroAlg; obtain ⟨w6, hw6⟩ : ∃ x, x = w5.setRow (w.heap.size + 1 + 1) zeroAlg := ⟨_, rfl⟩; rw [← hw6] at q6 x0n x1n on zn hB2b ⊢; clear hw6 hx0 hx1 hz4 hz5; have hx0 := x0n; have hx1 := x1n; have hz4 := zn; have hz5 := on; clear x0n x1n on zn; replace hB2 := hB2b; clear hB2b)
    | (refine wpList_store_row rfl 52 _ _ rfl (w.heap.size + 1 + 1 + 1) zeroAlg rfl rfl _ _ hz5 size_zeroAlg rfl one_zeroAlg ?_; have q7 : Below (w.heap.size + 1 + 1 + 1) w6 (w6.setRow (w.heap.size + 1 + 1 + 1) zeroAlg) := below_setRow (Below.refl _ _) (Nat.le_refl _) _; have x0n := (setRow_other w6 (w.heap.size + 1 + 1 + 1) w.heap.size zeroAlg (by omega)).trans hx0; have x1n := (setRow_other w6 (w.heap.size + 1 + 1 + 1) (w.heap.size + 1) zeroAlg (by omega)).trans hx1; have on := (setRow_other w6 (w.heap.size + 1 + 1 + 1) (w.heap.size + 1 + 1) zeroAlg (by omega)).trans hz4; have zn := setRow_heap w6 (w.heap.size + 1 + 1 + 1) _ zeroAlg _ _ hz5; have hB2b := below_setRow' (G := (w.heap.size + 1 + 1 + 1)) hB2 (by omega) zeroAlg; obtain ⟨w7, hw7⟩ : ∃ x, x = w6.setRow (w.heap.size + 1 + 1 + 1) zeroAlg := ⟨_, rfl⟩; rw [← hw7] at q7 x0n x1n on zn hB2b ⊢; clear hw7 hx0 hx1 hz5 hz4; have hx0 := x0n; have hx1 := x1n; have hz5 := zn; have hz4 := on; clear x0n x1n on zn; replace hB2 := hB2b; clear hB2b))
  exact bodyPost_ret (v := .tuple #[.agg zeroAlg, .agg zeroAlg, .bool false]) (results_alg2_tmp rfl _ _ (w.heap.size + 1 + 1) (w.heap.size + 1 + 1 + 1) rfl rfl _ _ (algA_size _ _ _ _ _ _) (algA_size _ _ _ _ _ _) hz4 hz5 rfl) rfl ⟨rfl, hB2⟩
set_option maxRecDepth 100000 in
set_option maxHeartbeats 4000000 in
theorem readBoth_no2 (a b : Option Addr) (ca cb : Nat) (L : List Int) (T : List (List Int)) (a2 b2 : Option Addr) (ca2 cb2 : Nat) (M : List Int) (U : List (List Int)) (w : World) (hr : Rd w a L) (hT : RdT w b T) (hr2 : Rd w a2 M) (hT2 : RdT w b2 U) (h : algB L T = false) (h2 : algB M U = true) :
    Calls Try.prog 24 #[.agg #[.slice a L.length ca, .slice b T.length cb], .agg #[.slice a2 M.length ca2, .slice b2 U.length cb2]] w fun e w' => e = .returned (.tuple #[.agg zeroAlg, .agg zeroAlg, .bool false]) ∧ Below w.heap.size w w' := by
  obtain ⟨wa, hwa⟩ : ∃ x, x = w.alloc (.cells #[.slice a L.length ca, .slice b T.length cb] 26) := ⟨_, rfl⟩
  obtain ⟨wb, hwb⟩ : ∃ x, x = wa.alloc (.cells #[.slice a2 M.length ca2, .slice b2 U.length cb2] 26) := ⟨_, rfl⟩
  obtain ⟨wc, hwc⟩ : ∃ x, x = wb.alloc (.cells zeroAlg 52) := ⟨_, rfl⟩
  obtain ⟨w1, hw1⟩ : ∃ x, x = wc.alloc (.cells zeroAlg 52) := ⟨_, rfl⟩
  have sa : wa.heap.size = w.heap.size + 1 := by rw [hwa]; simp
  have sb : wb.heap.size = w.heap.size + 1 + 1 := by rw [hwb]; simp [sa]
  have sc : wc.heap.size = w.heap.size + 1 + 1 + 1 := by rw [hwc]; simp [sb]
  have s1 : w1.heap.size = w.heap.size + 1 + 1 + 1 + 1 := by rw [hw1]; simp [sc]
  have Ba : Below w.heap.size w wa := by rw [hwa]; exact (Below.refl _ _).alloc (Nat.le_refl _) _
  have Bb : Below wa.heap.size wa wb := by rw [hwb]; exact (Below.refl _ _).alloc (Nat.le_refl _) _
  have Bc : Below wb.heap.size wb wc := by rw [hwc]; exact (Below.refl _ _).alloc (Nat.le_refl _) _
  have Bd : Below wc.heap.size wc w1 := by rw [hw1]; exact (Below.refl _ _).alloc (Nat.le_refl _) _
  have hB : Below w.heap.size w w1 := ((Ba.trans (Bb.mono Ba.size)).trans (Bc.mono (by omega))).trans (Bd.mono (by omega))
  have hx0 : w1.heap[w.heap.size]? = some (.cells #[.slice a L.length ca, .slice b T.length cb] 26 (0, 0)) := by rw [Bd.block _ (by omega), Bc.block _ (by omega), Bb.block _ (by omega), hwa]; exact heap_alloc_new w _
  have hx1 : w1.heap[w.heap.size + 1]? = some (.cells #[.slice a2 M.length ca2, .slice b2 U.length cb2] 26 (0, 0)) := by rw [Bd.block _ (by omega), Bc.block _ (by omega), hwb, ← sa]; exact heap_alloc_new wa _
  have hz4 : w1.heap[w.heap.size + 1 + 1]? = some (.cells zeroAlg 52 (0, 0)) := by rw [Bd.block _ (by omega), hwc, ← sb]; exact heap_alloc_new wb _
  have hz5 : w1.heap[w.heap.size + 1 + 1 + 1]? = some (.cells zeroAlg 52 (0, 0)) := by rw [hw1, ← sc]; exact heap_alloc_new wc _
  have hzc : Try.zeroCells52 = zeroAlg := by kernel_rfl
  have hww : w1 = (((w.alloc (.cells #[.slice a L.length ca, .slice b T.length cb] 26)).alloc (.cells #[.slice a2 M.length ca2, .slice b2 U.length cb2] 26)).alloc (.cells zeroAlg 52)).alloc (.cells zeroAlg 52) := by rw [hw1, hwc, hwb, hwa]
  have KR := Lib.hid (show ∀ wz, Below w1.heap.size w1 wz → Rd wz a L from fun wz h => (hr.below hB).below h)
  have KT := Lib.hid (show ∀ wz, Below w1.heap.size w1 wz → RdT wz b T from fun wz h => (hT.below hB).below h)
  have hB2 := hB
  have KR2 := Lib.hid (show ∀ wz, Below w.heap.size w wz → Rd wz a2 M from fun wz h => hr2.below h)
  have KT2 := Lib.hid (show ∀ wz, Below w.heap.size w wz → RdT wz b2 U from fun wz h => hT2.below h)
  clear hwa hwb hwc hw1 Ba Bb Bc Bd hr hT hr2 hT2 sa sb sc
  have HA := Lib.hid h
  have HA2 := Lib.hid h2
  clear h h2
  go_enter Try.func24, Try.ntmps24
  go_wp2_with (first
    | go_skip
    | (rw [← hww]; clear hww)
    | (refine wpList_load_row_w rfl 26 _ rfl w.heap.size rfl _ _ _ _ hx0 Try.underlying26 rfl (size_Alg _ _) ?_)
    | (refine wpList_load_row_w rfl 26 _ rfl (w.heap.size + 1) rfl _ _ _ _ hx1 Try.underlying26 rfl (size_Alg _ _) ?_)
    | (go_at_call_of 46 (Value.agg #[.slice a L.length ca, .slice b T.length cb]); refine (readAlgebra_no _ _ _ _ L T _ (KR.out _ (Below.refl _ _)) (KT.out _ (Below.refl _ _)) HA.out).mono ?_; rintro e w2 ⟨rfl, h2⟩; replace hB2 := hB2.trans (h2.mono hB2.size); replace hx0 := (h2.block _ (lt_of_block hx0)).trans hx0; replace hx1 := (h2.block _ (lt_of_block hx1)).trans hx1; replace hz4 := (h2.block _ (lt_of_block hz4)).trans hz4; replace hz5 := (h2.block _ (lt_of_block hz5)).trans hz5)
    | (go_at_call_of 46 (Value.agg #[.slice a2 M.length ca2, .slice b2 U.length cb2]); refine (readAlgebra_yes _ _ _ _ M U _ (KR2.out _ hB2) (KT2.out _ hB2) HA2.out).mono ?_; rintro e w4 ⟨rfl, h4⟩; replace hB2 := hB2.trans (h4.mono hB2.size); replace hx0 := (h4.block _ (lt_of_block hx0)).trans hx0; replace hx1 := (h4.block _ (lt_of_block hx1)).trans hx1; replace hz4 := (h4.block _ (lt_of_block hz4)).trans hz4; replace hz5 := (h4.block _ (lt_of_block hz5)).trans hz5)
    | (refine wpList_store_row rfl 52 _ _ rfl (w.heap.size + 1 + 1) zeroAlg rfl rfl _ _ hz4 size_zeroAlg rfl one_zeroAlg ?_; have q3 : Below (w.heap.size + 1 + 1) w2 (w2.setRow (w.heap.size + 1 + 1) zeroAlg) := below_setRow (Below.refl _ _) (Nat.le_refl _) _; have x0n := (setRow_other w2 (w.heap.size + 1 + 1) w.heap.size zeroAlg (by omega)).trans hx0; have x1n := (setRow_other w2 (w.heap.size + 1 + 1) (w.heap.size + 1) zeroAlg (by omega)).trans hx1; have on := (setRow_other w2 (w.heap.size + 1 + 1) (w.heap.size + 1 + 1 + 1) zeroAlg (by omega)).trans hz5; have zn := setRow_heap w2 (w.heap.size + 1 + 1) _ zeroAlg _ _ hz4; have hB2b := below_setRow' (G := (w.heap.size + 1 + 1)) hB2 (by omega) zeroAlg; obtain ⟨w3, hw3⟩ : ∃ x, x = w2.setRow (w.heap.size + 1 + 1) zeroAlg := ⟨_, rfl⟩; rw [← hw3] at q3 x0n x1n on zn hB2b ⊢; clear hw3 hx0 hx1 hz4 hz5; have hx0 := x0n; have hx1 := x1n; have hz4 := zn; have hz5 := on; clear x0n x1n on zn; replace hB2 := hB2b; clear hB2b)
    | (refine wpList_store_row rfl 52 _ _ rfl (w.heap.size + 1 + 1 + 1) (algOf M U) rfl rfl _ _ hz5 (size_alg _ _ _ _ _ _) rfl (one_alg _ _ _ _ _ _) ?_; have q5 : Below (w.heap.size + 1 + 1 + 1) w4 (w4.setRow (w.heap.size + 1 + 1 + 1) (algOf M U)) := below_setRow (Below.refl _ _) (Nat.le_refl _) _; have x0n := (setRow_other w4 (w.heap.size + 1 + 1 + 1) w.heap.size (algOf M U) (by omega)).trans hx0; have x1n := (setRow_other w4 (w.heap.size + 1 + 1 + 1) (w.heap.size + 1) (algOf M U) (by omega)).trans hx1; have on := (setRow_other w4 (w.heap.size + 1 + 1 + 1) (w.heap.size + 1 + 1) (algOf M U) (by omega)).trans hz4; have zn := setRow_heap w4 (w.heap.size + 1 + 1 + 1) _ (algOf M U) _ _ hz5; have hB2b := below_setRow' (G := (w.heap.size + 1 + 1 + 1)) hB2 (by omega) (algOf M U); obtain ⟨w5, hw5⟩ : ∃ x, x = w4.setRow (w.heap.size + 1 + 1 + 1) (algOf M U) := ⟨_, rfl⟩; rw [← hw5] at q5 x0n x1n on zn hB2b ⊢; clear hw5 hx0 hx1 hz5 hz4; have hx0 := x0n; have hx1 := x1n; have hz5 := zn; have hz4 := on; clear x0n x1n on zn; replace hB2 := hB2b; clear hB2b)
    | (refine wpList_store_row rfl 52 _ _ rfl (w.heap.size + 1 + 1) zeroAlg rfl rfl _ _ hz4 size_zeroAlg rfl one_zeroAlg ?_; have q6 : Below (w.heap.size + 1 + 1) w5 (w5.setRow (w.heap.size + 1 + 1) zeroAlg) := below_setRow (Below.refl _ _) (Nat.le_refl _) _; have x0n := (setRow_other w5 (w.heap.size + 1 + 1) w.heap.size zeroAlg (by omega)).trans hx0; have x1n := (setRow_other w5 (w.heap.size + 1 + 1) (w.heap.size + 1) zeroAlg (by omega)).trans hx1; have on := (setRow_other w5 (w.heap.size + 1 + 1) (w.heap.size + 1 + 1 + 1) zeroAlg (by omega)).trans hz5; have zn := setRow_heap w5 (w.heap.size + 1 + 1) _ zeroAlg _ _ hz4; have hB2b := below_setRow' (G := (w.heap.size + 1 + 1)) hB2 (by omega) zeroAlg; obtain ⟨w6, hw6⟩ : ∃ x, x = w5.setRow (w.heap.size + 1 + 1) zeroAlg := ⟨_, rfl⟩; rw [← hw6] at q6 x0n x1n on zn hB2b ⊢; clear hw6 hx0 hx1 hz4 hz5; have hx0 := x0n; have hx1 := x1n; have hz4 := zn; have hz5 := on; clear x0n x1n on zn; replace hB2 := hB2b; clear hB2b)
    | (refine wpList_store_row rfl 52 _ _ rfl (w.heap.size + 1 + 1 + 1) zeroAlg rfl rfl _ _ hz5 size_zeroAlg rfl one_zeroAlg ?_; have q7 : Below (w.heap.size + 1 + 1 + 1) w6 (w6.setRow (w.heap.size + 1 + 1 + 1) zeroAlg) := below_setRow (Below.refl _ _) (Nat.le_refl _) _; have x0n := (setRow_other w6 (w.heap.size + 1 + 1 + 1) w.heap.size zeroAlg (by omega)).trans hx0; have x1n := (setRow_other w6 (w.heap.size + 1 + 1 + 1) (w.heap.size + 1) zeroAlg (by omega)).trans hx1; have on := (setRow_other w6 (w.heap.size + 1 + 1 + 1) (w.heap.size + 1 + 1) zeroAlg (by omega)).trans hz4; have zn := setRow_heap w6 (w.heap.size + 1 + 1 + 1) _ zeroAlg _ _ hz5; have hB2b := below_setRow' (G := (w.heap.size + 1 + 1 + 1)) hB2 (by omega) zeroAlg; obtain ⟨w7, hw7⟩ : ∃ x, x = w6.setRow (w.heap.size + 1 + 1 + 1) zeroAlg := ⟨_, rfl⟩; rw [← hw7] at q7 x0n x1n on zn hB2b ⊢; clear hw7 hx0 hx1 hz5 hz4; have hx0 := x0n; have hx1 := x1n; have hz5 := zn; have hz4 := on; clear x0n x1n on zn; replace hB2 := hB2b; clear hB2b))
  exact bodyPost_ret (v := .tuple #[.agg zeroAlg, .agg zeroAlg, .bool false]) (results_alg2_tmp rfl _ _ (w.heap.size + 1 + 1) (w.heap.size + 1 + 1 + 1) rfl rfl _ _ (algA_size _ _ _ _ _ _) (algA_size _ _ _ _ _ _) hz4 hz5 rfl) rfl ⟨rfl, hB2⟩
set_option maxRecDepth 100000 in
set_option maxHeartbeats 4000000 in
theorem readBoth_no3 (a b : Option Addr) (ca cb : Nat) (L : List Int) (T : List (List Int)) (a2 b2 : Option Addr) (ca2 cb2 : Nat) (M : List Int) (U : List (List Int)) (w : World) (hr : Rd w a L) (hT : RdT w b T) (hr2 : Rd w a2 M) (hT2 : RdT w b2 U) (h : algB L T = true) (h2 : algB M U = false) :
    Calls Try.prog 24 #[.agg #[.slice a L.length ca, .slice b T.length cb], .agg #[.slice a2 M.length ca2, .slice b2 U.length cb2]] w fun e w' => e = .returned (.tuple #[.agg zeroAlg, .agg zeroAlg, .bool false]) ∧ Below w.heap.size w w' := by
  obtain ⟨wa, hwa⟩ : ∃ x, x = w.alloc (.cells #[.slice a L.length ca, .slice b T.length cb] 26) := ⟨_, rfl⟩
  obtain ⟨wb, hwb⟩ : ∃ x, x = wa.alloc (.cells #[.slice a2 M.length ca2, .slice b2 U.length cb2] 26) := ⟨_, rfl⟩
  obtain ⟨wc, hwc⟩ : ∃ x, x = wb.alloc (.cells zeroAlg 52) := ⟨_, rfl⟩
  obtain ⟨w1, hw1⟩ : ∃ x, x = wc.alloc (.cells zeroAlg 52) := ⟨_, rfl⟩
  have sa : wa.heap.size = w.heap.size + 1 := by rw [hwa]; simp
  have sb : wb.heap.size = w.heap.size + 1 + 1 := by rw [hwb]; simp [sa]
  have sc : wc.heap.size = w.heap.size + 1 + 1 + 1 := by rw [hwc]; simp [sb]
  have s1 : w1.heap.size = w.heap.size + 1 + 1 + 1 + 1 := by rw [hw1]; simp [sc]
  have Ba : Below w.heap.size w wa := by rw [hwa]; exact (Below.refl _ _).alloc (Nat.le_refl _) _
  have Bb : Below wa.heap.size wa wb := by rw [hwb]; exact (Below.refl _ _).alloc (Nat.le_refl _) _
  have Bc : Below wb.heap.size wb wc := by rw [hwc]; exact (Below.refl _ _).alloc (Nat.le_refl _) _
  have Bd : Below wc.heap.size wc w1 := by rw [hw1]; exact (Below.refl _ _).alloc (Nat.le_refl _) _
  have hB : Below w.heap.size w w1 := ((Ba.trans (Bb.mono Ba.size)).trans (Bc.mono (by omega))).trans (Bd.mono (by omega))
  have hx0 : w1.heap[w.heap.size]? = some (.cells #[.slice a L.length ca, .slice b T.length cb] 26 (0, 0)) := by rw [Bd.block _ (by omega), Bc.block _ (by omega), Bb.block _ (by omega), hwa]; exact heap_alloc_new w _
  have hx1 : w1.heap[w.heap.size + 1]? = some (.cells #[.slice a2 M.length ca2, .slice b2 U.length cb2] 26 (0, 0)) := by rw [Bd.block _ (by omega), Bc.block _ (by omega), hwb, ← sa]; exact heap_alloc_new wa _
  have hz4 : w1.heap[w.heap.size + 1 + 1]? = some (.cells zeroAlg 52 (0, 0)) := by rw [Bd.block _ (by omega), hwc, ← sb]; exact heap_alloc_new wb _
  have hz5 : w1.heap[w.heap.size + 1 + 1 + 1]? = some (.cells zeroAlg 52 (0, 0)) := by rw [hw1, ← sc]; exact heap_alloc_new wc _
  have hzc : Try.zeroCells52 = zeroAlg := by kernel_rfl
  have hww : w1 = (((w.alloc (.cells #[.slice a L.length ca, .slice b T.length cb] 26)).alloc (.cells #[.slice a2 M.length ca2, .slice b2 U.length cb2] 26)).alloc (.cells zeroAlg 52)).alloc (.cells zeroAlg 52) := by rw [hw1, hwc, hwb, hwa]
  have KR := Lib.hid (show ∀ wz, Below w1.heap.size w1 wz → Rd wz a L from fun wz h => (hr.below hB).below h)
  have KT := Lib.hid (show ∀ wz, Below w1.heap.size w1 wz → RdT wz b T from fun wz h => (hT.below hB).below h)
  have hB2 := hB
  have KR2 := Lib.hid (show ∀ wz, Below w.heap.size w wz → Rd wz a2 M from fun wz h => hr2.below h)
  have KT2 := Lib.hid (show ∀ wz, Below w.heap.size w wz → RdT wz b2 U from fun wz h => hT2.below h)
  clear hwa hwb hwc hw1 Ba Bb Bc Bd hr hT hr2 hT2 sa sb sc
  have HA := Lib.hid h
  have HA2 := Lib.hid h2
  clear h h2
  go_enter Try.func24, Try.ntmps24
  go_wp2_with (first
    | go_skip
    | (rw [← hww]; clear hww)
    | (refine wpList_load_row_w rfl 26 _ rfl w.heap.size rfl _ _ _ _ hx0 Try.underlying26 rfl (size_Alg _ _) ?_)
    | (refine wpList_load_row_w rfl 26 _ rfl (w.heap.size + 1) rfl _ _ _ _ hx1 Try.underlying26 rfl (size_Alg _ _) ?_)
    | (go_at_call_of 46 (Value.agg #[.slice a L.length ca, .slice b T.length cb]); refine (readAlgebra_yes _ _ _ _ L T _ (KR.out _ (Below.refl _ _)) (KT.out _ (Below.refl _ _)) HA.out).mono ?_; rintro e w2 ⟨rfl, h2⟩; replace hB2 := hB2.trans (h2.mono hB2.size); replace hx0 := (h2.block _ (lt_of_block hx0)).trans hx0; replace hx1 := (h2.block _ (lt_of_block hx1)).trans hx1; replace hz4 := (h2.block _ (lt_of_block hz4)).trans hz4; replace hz5 := (h2.block _ (lt_of_block hz5)).trans hz5)
    | (go_at_call_of 46 (Value.agg #[.slice a2 M.length ca2, .slice b2 U.length cb2]); refine (readAlgebra_no _ _ _ _ M U _ (KR2.out _ hB2) (KT2.out _ hB2) HA2.out).mono ?_; rintro e w4 ⟨rfl, h4⟩; replace hB2 := hB2.trans (h4.mono hB2.size); replace hx0 := (h4.block _ (lt_of_block hx0)).trans hx0; replace hx1 := (h4.block _ (lt_of_block hx1)).trans hx1; replace hz4 := (h4.block _ (lt_of_block hz4)).trans hz4; replace hz5 := (h4.block _ (lt_of_block hz5)).trans hz5)
    | (refine wpList_store_row rfl 52 _ _ rfl (w.heap.size + 1 + 1) (algOf L T) rfl rfl _ _ hz4 (size_alg _ _ _ _ _ _) rfl (one_alg _ _ _ _ _ _) ?_; have q3 : Below (w.heap.size + 1 + 1) w2 (w2.setRow (w.heap.size + 1 + 1) (algOf L T)) := below_setRow (Below.refl _ _) (Nat.le_refl _) _; have x0n := (setRow_other w2 (w.heap.size + 1 + 1) w.heap.size (algOf L T) (by omega)).trans hx0; have x1n := (setRow_other w2 (w.heap.size + 1 + 1) (w.heap.size + 1) (algOf L T) (by omega)).trans hx1; have on := (setRow_other w2 (w.heap.size + 1 + 1) (w.heap.size + 1 + 1 + 1) (algOf L T) (by omega)).trans hz5; have zn := setRow_heap w2 (w.heap.size + 1 + 1) _ (algOf L T) _ _ hz4; have hB2b := below_setRow' (G := (w.heap.size + 1 + 1)) hB2 (by omega) (algOf L T); obtain ⟨w3, hw3⟩ : ∃ x, x = w2.setRow (w.heap.size + 1 + 1) (algOf L T) := ⟨_, rfl⟩; rw [← hw3] at q3 x0n x1n on zn hB2b ⊢; clear hw3 hx0 hx1 hz4 hz5; have hx0 := x0n; have hx1 := x1n; have hz4 := zn; have hz5 := on; clear x0n x1n on zn; replace hB2 := hB2b; clear hB2b)
    | (refine wpList_store_row rfl 52 _ _ rfl (w.heap.size + 1 + 1 + 1) zeroAlg rfl rfl _ _ hz5 size_zeroAlg rfl one_zeroAlg ?_; have q5 : Below (w.heap.size + 1 + 1 + 1) w4 (w4.setRow (w.heap.size + 1 + 1 + 1) zeroAlg) := below_setRow (Below.refl _ _) (Nat.le_refl _) _; have x0n := (setRow_other w4 (w.heap.size + 1 + 1 + 1) w.heap.size zeroAlg (by omega)).trans hx0; have x1n := (setRow_other w4 (w.heap.size + 1 + 1 + 1) (w.heap.size + 1) zeroAlg (by omega)).trans hx1; have on := (setRow_other w4 (w.heap.size + 1 + 1 + 1) (w.heap.size + 1 + 1) zeroAlg (by omega)).trans hz4; have zn := setRow_heap w4 (w.heap.size + 1 + 1 + 1) _ zeroAlg _ _ hz5; have hB2b := below_setRow' (G := (w.heap.size + 1 + 1 + 1)) hB2 (by omega) zeroAlg; obtain ⟨w5, hw5⟩ : ∃ x, x = w4.setRow (w.heap.size + 1 + 1 + 1) zeroAlg := ⟨_, rfl⟩; rw [← hw5] at q5 x0n x1n on zn hB2b ⊢; clear hw5 hx0 hx1 hz5 hz4; have hx0 := x0n; have hx1 := x1n; have hz5 := zn; have hz4 := on; clear x0n x1n on zn; replace hB2 := hB2b; clear hB2b)
    | (refine wpList_store_row rfl 52 _ _ rfl (w.heap.size + 1 + 1) zeroAlg rfl rfl _ _ hz4 size_zeroAlg rfl one_zeroAlg ?_; have q6 : Below (w.heap.size + 1 + 1) w5 (w5.setRow (w.heap.size + 1 + 1) zeroAlg) := below_setRow (Below.refl _ _) (Nat.le_refl _) _; have x0n := (setRow_other w5 (w.heap.size + 1 + 1) w.heap.size zeroAlg (by omega)).trans hx0; have x1n := (setRow_other w5 (w.heap.size + 1 + 1) (w.heap.size + 1) zeroAlg (by omega)).trans hx1; have on := (setRow_other w5 (w.heap.size + 1 + 1) (w.heap.size + 1 + 1 + 1) zeroAlg (by omega)).trans hz5; have zn := setRow_heap w5 (w.heap.size + 1 + 1) _ zeroAlg _ _ hz4; have hB2b := below_setRow' (G := (w.heap.size + 1 + 1)) hB2 (by omega) zeroAlg; obtain ⟨w6, hw6⟩ : ∃ x, x = w5.setRow (w.heap.size + 1 + 1) zeroAlg := ⟨_, rfl⟩; rw [← hw6] at q6 x0n x1n on zn hB2b ⊢; clear hw6 hx0 hx1 hz4 hz5; have hx0 := x0n; have hx1 := x1n; have hz4 := zn; have hz5 := on; clear x0n x1n on zn; replace hB2 := hB2b; clear hB2b)
    | (refine wpList_store_row rfl 52 _ _ rfl (w.heap.size + 1 + 1 + 1) zeroAlg rfl rfl _ _ hz5 size_zeroAlg rfl one_zeroAlg ?_; have q7 : Below (w.heap.size + 1 + 1 + 1) w6 (w6.setRow (w.heap.size + 1 + 1 + 1) zeroAlg) := below_setRow (Below.refl _ _) (Nat.le_refl _) _; have x0n := (setRow_other w6 (w.heap.size + 1 + 1 + 1) w.heap.size zeroAlg (by omega)).trans hx0; have x1n := (setRow_other w6 (w.heap.size + 1 + 1 + 1) (w.heap.size + 1) zeroAlg (by omega)).trans hx1; have on := (setRow_other w6 (w.heap.size + 1 + 1 + 1) (w.heap.size + 1 + 1) zeroAlg (by omega)).trans hz4; have zn := setRow_heap w6 (w.heap.size + 1 + 1 + 1) _ zeroAlg _ _ hz5; have hB2b := below_setRow' (G := (w.heap.size + 1 + 1 + 1)) hB2 (by omega) zeroAlg; obtain ⟨w7, hw7⟩ : ∃ x, x = w6.setRow (w.heap.size + 1 + 1 + 1) zeroAlg := ⟨_, rfl⟩; rw [← hw7] at q7 x0n x1n on zn hB2b ⊢; clear hw7 hx0 hx1 hz5 hz4; have hx0 := x0n; have hx1 := x1n; have hz5 := zn; have hz4 := on; clear x0n x1n on zn; replace hB2 := hB2b; clear hB2b))
  exact bodyPost_ret (v := .tuple #[.agg zeroAlg, .agg zeroAlg, .bool false]) (results_alg2_tmp rfl _ _ (w.heap.size + 1 + 1) (w.heap.size + 1 + 1 + 1) rfl rfl _ _ (algA_size _ _ _ _ _ _) (algA_size _ _ _ _ _ _) hz4 hz5 rfl) rfl ⟨rfl, hB2⟩
end Go.Proofs.Ytljnbhnnjfnjeaa
